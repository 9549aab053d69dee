/-
  Package ratio: plusOne, by contract.
-/
import Derived.Test.YtocifhahfeajiaaGreatDoorRa5
import Derived.Test.YtocifhahfeajiaaGreatDoorCap
namespace Go.Proofs.YtocifhahfeajiaaGreatDoor
open Go.RowKit
attribute [local go_sem ↓] Go.wp_at_zero Go.wp_at_succ

/-- The sum. -/
def plP (P : Int) (Q : Nat) (P' : Int) (Q' : Nat) : Int := loP (P * Q' + P' * Q) (Q * Q')
def plQ (P : Int) (Q : Nat) (P' : Int) (Q' : Nat) : Nat := loQ (P * Q' + P' * Q) (Q * Q')
theorem plP_one (P P' : Int) : plP P 1 P' 1 = P + P' ∧ plQ P 1 P' 1 = 1 := by
  unfold plP plQ
  have := lo_one (P := P * ((1 : Nat) : Int) + P' * ((1 : Nat) : Int)) (Q := 1 * 1) (Nat.gcd_one_right _)
  rw [this.1, this.2, show ((1 : Nat) : Int) = 1 from rfl, Int.mul_one, Int.mul_one]
  exact ⟨rfl, rfl⟩

set_option maxHeartbeats 3200000 in
set_option maxRecDepth 100000 in
theorem ratPlusOne_whole (a : Option Addr) (n c : Nat) (m : Bool) (a2 : Option Addr) (n2 c2 : Nat) (P : Int) (b : Option Addr) (k l : Nat) (v : Bool) (b2 : Option Addr) (k2 l2 : Nat) (P' : Int) (w : World)
    (h : RatAt w a n c m a2 n2 c2 P 1) (g : RatAt w b k l v b2 k2 l2 P' 1) (K : Nat) (hK : K ≤ 200000) (h1 : P.natAbs < 4294967296 ^ K) (h3 : P'.natAbs < 4294967296 ^ K) :
    Calls Tryz.prog 37 #[.agg #[.slice a n c, .bool m, .slice a2 n2 c2], .agg #[.slice b k l, .bool v, .slice b2 k2 l2]] w fun e w' => RatTold w w' e (plP P 1 P' 1) (plQ P 1 P' 1) := by
  rw [(plP_one P P').1, (plP_one P P').2]
  have B0 := (((((Bag.start w).rat h).rat g).box3 (.slice a n c) (.bool m) (.slice a2 n2 c2) 30).box3 (.slice b k l) (.bool v) (.slice b2 k2 l2) 30).box3 (.slice none 0 0) (.bool false) (.slice none 0 0) 30
  simp only [World.size_alloc] at B0
  have BB := Lib.hid B0
  have IW := Lib.hid (fun wz hz => isWhole_any a n c m a2 n2 c2 P 1 wz hz (by omega))
  have IW' := Lib.hid (fun wz hz => isWhole_any b k l v b2 k2 l2 P' 1 wz hz (by omega))
  rw [decide_eq_true rfl] at IW IW'
  have hs : P.natAbs + P'.natAbs < 4294967296 ^ (K + 1) := by rw [Nat.pow_succ]; omega
  have PL := Lib.hid (fun sa wz (h : IntAt wz a n c m P) (g : IntsAt wz sa 1 1 (fun _ => P')) => plus1_any a n c m P sa P' wz h g (K + 1) (by omega) hs)
  have WH := Lib.hid (fun a n c m wz (h : IntAt wz a n c m (P + P')) => whole_any a n c m (P + P') wz h)
  have q0 := BB.out.now.2.2.1.cell
  have q1 := BB.out.now.2.2.1.cell1
  have q2 := BB.out.now.2.2.1.cell2
  have r0 := BB.out.now.2.1.cell
  have r1 := BB.out.now.2.1.cell1
  have r2 := BB.out.now.2.1.cell2
  clear h g B0 h1 h3 hs
  go_enter Tryz.func37, Tryz.ntmps37
  go_wp2_with (first
    | (go_at_call 39; (with_reducible refine (IW.out _ BB.out.now.2.2.2.2.1).mono ?_); rintro e w2 ⟨rfl, hb2⟩; have BB := Lib.hid (BB.out.go hb2); clear hb2; have q0 := BB.out.now.2.2.1.cell; have q1 := BB.out.now.2.2.1.cell1; have r0 := BB.out.now.2.1.cell; have r1 := BB.out.now.2.1.cell1; have r2 := BB.out.now.2.1.cell2)
    | (go_at_call 39; (with_reducible refine (IW'.out _ BB.out.now.2.2.2.1).mono ?_); rintro e w3 ⟨rfl, hb3⟩; have BB := Lib.hid (BB.out.go hb3); clear hb3; have q0 := BB.out.now.2.2.1.cell; have q1 := BB.out.now.2.2.1.cell1; have r0 := BB.out.now.2.1.cell; have r1 := BB.out.now.2.1.cell1))
  go_at_call 81
  (with_reducible refine (PL.out _ _ ?_ ?_).mono ?_)
  · exact (BB.out.alloc _).now.2.2.2.2.1.int
  · exact IntsAt.mk1 rfl (BB.out.alloc _).now.2.2.2.1.int
  rintro e w4 ⟨a4, n4, c4, m4, rfl, hi4, hb4⟩
  have BB := Lib.hid ((BB.out.alloc _).go hb4)
  go_wp2_with fail
  go_at_call 73
  (with_reducible refine (WH.out _ _ _ _ _ hi4).mono ?_)
  rintro e w5 ⟨a5, n5, c5, m5, a6, n6, c6, rfl, hr, hb5⟩
  have BB := Lib.hid (BB.out.go hb5)
  have hs := BB.out.now.1
  have u0 := hs.cell
  have u1 := hs.cell1
  have u2 := hs.cell2
  have g0 := hs.free
  have g1 := hs.free1
  have g2 := hs.free2
  have HS := hs.set (.slice a5 n5 c5) (.bool m5) (.slice a6 n6 c6)
  have HE := Lib.hid (RatTold.done BB.out.below (by omega) hs hr)
  clear hs hr
  go_wp2
  exact bodyPost_ret (v := .agg #[.slice a5 n5 c5, .bool m5, .slice a6 n6 c6]) (by simp [results, Tryz.results37, go_sem, HS]) rfl HE.out

theorem IntAt.set2b {w : World} {k : Nat} {a0 : Option Addr} {n0 c0 : Nat} {m0 : Bool} {a : Option Addr} {n c : Nat} {m : Bool} {Z : Int} (q : IntAt w a n c m Z) (h : Slot2 w k (.slice a0 n0 c0) (.bool m0)) (u v : Value) :
    IntAt ((w.setCell ⟨k, 0, none⟩ u).setCell ⟨k, 1, none⟩ v) a n c m Z :=
  ⟨q.1, q.2.set2b h (fun _ _ h => by cases h) (fun _ _ h => by cases h) _ _⟩

set_option linter.unusedSimpArgs false in
set_option maxHeartbeats 12800000 in
set_option maxRecDepth 100000 in
theorem ratPlusOne_some (a : Option Addr) (n c : Nat) (m : Bool) (a2 : Option Addr) (n2 c2 : Nat) (P : Int) (Q : Nat) (b : Option Addr) (k l : Nat) (v : Bool) (b2 : Option Addr) (k2 l2 : Nat) (P' : Int) (Q' : Nat) (w : World)
    (h : RatAt w a n c m a2 n2 c2 P Q) (g : RatAt w b k l v b2 k2 l2 P' Q') (hQ : 0 < Q) (hQ' : 0 < Q') (K : Nat) (hK : K ≤ 200000) (h1 : P.natAbs < 4294967296 ^ K) (h2 : Q < 4294967296 ^ K) (h3 : P'.natAbs < 4294967296 ^ K) (h4 : Q' < 4294967296 ^ K) (hw : ¬ (Q = 1 ∧ Q' = 1)) :
    Calls Tryz.prog 37 #[.agg #[.slice a n c, .bool m, .slice a2 n2 c2], .agg #[.slice b k l, .bool v, .slice b2 k2 l2]] w fun e w' => RatTold w w' e (plP P Q P' Q') (plQ P Q P' Q') := by
  have B0 := (((((Bag.start w).rat h).rat g).box3 (.slice a n c) (.bool m) (.slice a2 n2 c2) 30).box3 (.slice b k l) (.bool v) (.slice b2 k2 l2) 30).box3 (.slice none 0 0) (.bool false) (.slice none 0 0) 30
  simp only [World.size_alloc] at B0
  have BB := Lib.hid B0
  have IW := Lib.hid (fun wz hz => isWhole_any a n c m a2 n2 c2 P Q wz hz hQ)
  have IW' := Lib.hid (fun wz hz => isWhole_any b k l v b2 k2 l2 P' Q' wz hz hQ')
  have BL := Lib.hid (fun wz (h : RatAt wz a n c m a2 n2 c2 P Q) => below_any a n c m a2 n2 c2 P Q wz h hQ)
  have BL' := Lib.hid (fun wz (h : RatAt wz b k l v b2 k2 l2 P' Q') => below_any b k l v b2 k2 l2 P' Q' wz h hQ')
  have T1 := Lib.hid (fun sa wz (h : IntAt wz a n c m P) (g : IntsAt wz sa 1 1 (fun _ => (Q' : Int))) => times1_any a n c m P sa Q' wz h g K (by omega) h1 (by rw [Int.natAbs_natCast]; exact h4))
  have T2 := Lib.hid (fun sa wz (h : IntAt wz b k l v P') (g : IntsAt wz sa 1 1 (fun _ => (Q : Int))) => times1_any b k l v P' sa Q wz h g K (by omega) h3 (by rw [Int.natAbs_natCast]; exact h2))
  have hX := mulZ_lt32 h1 h4
  have hY := mulZ_lt32 h3 h2
  have hD := mul_lt32 h2 h4
  have hs : (P * Q').natAbs + (P' * Q).natAbs < 4294967296 ^ (K + K + 1) := by rw [Nat.pow_succ]; omega
  have hs2 : (P * Q' + P' * Q).natAbs < 4294967296 ^ (K + K + 1) := Nat.lt_of_le_of_lt (Int.natAbs_add_le _ _) hs
  have hD2 : Q * Q' < 4294967296 ^ (K + K + 1) := by rw [Nat.pow_succ]; omega
  have hD0 : 0 < Q * Q' := Nat.mul_pos hQ hQ'
  have PL := Lib.hid (fun a n c m sa wz (h : IntAt wz a n c m (P * Q')) (g : IntsAt wz sa 1 1 (fun _ => P' * Q)) => plus1_any a n c m (P * Q') sa (P' * Q) wz h g (K + K + 1) (by omega) hs)
  have BT := Lib.hid (fun wz (h : RatAt wz a n c m a2 n2 c2 P Q) => bot_any a n c m a2 n2 c2 P Q wz h hQ)
  have BT' := Lib.hid (fun wz (h : RatAt wz b k l v b2 k2 l2 P' Q') => bot_any b k l v b2 k2 l2 P' Q' wz h hQ')
  have ML : Hid (∀ a n c b k l wz, NatIs wz (.agg #[.slice a n c]) Q → NatIs wz (.agg #[.slice b k l]) Q' → Calls Tryz.prog 35 #[.agg #[.slice a n c], .agg #[.slice b k l]] wz fun e w' => NatTold wz w' e (Q * Q')) := fun a n c b k l wz h g => (mul_any _ _ Q Q' wz h g K (by omega) h2 h4).mono fun _ _ h => h.told
  have LW := Lib.hid (fun a n c m a2 n2 c2 wz (h : IntAt wz a n c m (P * Q' + P' * Q)) (g : NatIs wz (.agg #[.slice a2 n2 c2]) (Q * Q')) => lowest_any a n c m (P * Q' + P' * Q) a2 n2 c2 (Q * Q') wz h g hD0 (K + K + 1) (by omega) hs2 hD2)
  rw [show loP (P * Q' + P' * Q) (Q * Q') = plP P Q P' Q' from rfl, show loQ (P * Q' + P' * Q) (Q * Q') = plQ P Q P' Q' from rfl] at LW
  generalize plP P Q P' Q' = P1 at *
  generalize plQ P Q P' Q' = Q1 at *
  generalize P * (Q' : Int) + P' * (Q : Int) = S at *
  generalize P * (Q' : Int) = X at *
  generalize P' * (Q : Int) = Y at *
  generalize Q * Q' = D at *
  have hx : ∃ x y : Bool, decide (Q = 1) = x ∧ decide (Q' = 1) = y ∧ (x && y) = false := ⟨_, _, rfl, rfl, by
    by_cases e1 : Q = 1
    · rw [decide_eq_false (fun e2 => hw ⟨e1, e2⟩)]; simp
    · rw [decide_eq_false e1]; rfl⟩
  obtain ⟨x, y, hx1, hx2, hxy⟩ := hx
  rw [hx1] at IW
  rw [hx2] at IW'
  have he : w.heap.size ≠ w.heap.size + 1 + 1 ∧ w.heap.size + 1 ≠ w.heap.size + 1 + 1 := by omega
  have q0 := BB.out.now.2.2.1.cell
  have q1 := BB.out.now.2.2.1.cell1
  have q2 := BB.out.now.2.2.1.cell2
  have r0 := BB.out.now.2.1.cell
  have r1 := BB.out.now.2.1.cell1
  have r2 := BB.out.now.2.1.cell2
  clear h g B0 h1 h2 h3 h4 hQ hQ' hx1 hx2 hw hX hY hD hs hs2 hD2 hD0
  have HC : Hid (∀ y, (fun y => Slot3 y (w.heap.size + 1 + 1) (.slice none 0 0) (.bool false) (.slice none 0 0) ∧ Slot3 y (w.heap.size + 1) (.slice b k l) (.bool v) (.slice b2 k2 l2) ∧ Slot3 y w.heap.size (.slice a n c) (.bool m) (.slice a2 n2 c2) ∧ RatAt y b k l v b2 k2 l2 P' Q' ∧ RatAt y a n c m a2 n2 c2 P Q ∧ True) y → ((y.cell? ⟨w.heap.size, 0, none⟩ = some (.slice a n c) ∧ y.cell? ⟨w.heap.size, 1, none⟩ = some (.bool m) ∧ y.cell? ⟨w.heap.size, 2, none⟩ = some (.slice a2 n2 c2)) ∧ y.cell? ⟨w.heap.size + 1, 0, none⟩ = some (.slice b k l) ∧ y.cell? ⟨w.heap.size + 1, 1, none⟩ = some (.bool v) ∧ y.cell? ⟨w.heap.size + 1, 2, none⟩ = some (.slice b2 k2 l2))) := fun y h => ⟨⟨h.2.2.1.cell, h.2.2.1.cell1, h.2.2.1.cell2⟩, h.2.1.cell, h.2.1.cell1, h.2.1.cell2⟩
  have HP : Hid (∀ (y : World) (k5 : Nat), Slot2 y k5 (.slice none 0 0) (.bool false) → w.heap.size + 1 + 1 < k5 → Bag w (fun y => Slot3 y (w.heap.size + 1 + 1) (.slice none 0 0) (.bool false) (.slice none 0 0) ∧ Slot3 y (w.heap.size + 1) (.slice b k l) (.bool v) (.slice b2 k2 l2) ∧ Slot3 y w.heap.size (.slice a n c) (.bool m) (.slice a2 n2 c2) ∧ RatAt y b k l v b2 k2 l2 P' Q' ∧ RatAt y a n c m a2 n2 c2 P Q ∧ True) y → ∀ (a9 : Option Addr) (n9 c9 : Nat) (m9 : Bool), Bag w (fun y => Slot3 y (w.heap.size + 1 + 1) (.slice none 0 0) (.bool false) (.slice none 0 0) ∧ Slot3 y (w.heap.size + 1) (.slice b k l) (.bool v) (.slice b2 k2 l2) ∧ Slot3 y w.heap.size (.slice a n c) (.bool m) (.slice a2 n2 c2) ∧ RatAt y b k l v b2 k2 l2 P' Q' ∧ RatAt y a n c m a2 n2 c2 P Q ∧ True) ((y.setCell ⟨k5, 0, none⟩ (.slice a9 n9 c9)).setCell ⟨k5, 1, none⟩ (.bool m9))) := by
    intro y k5 s hk B a9 n9 c9 m9
    have hx : ∀ (x : Option Addr) (y z : Nat) (ki : IntKind) (i : Int), (Value.slice x y z) ≠ .int ki i := fun _ _ _ _ _ h => by cases h
    have hb : ∀ (x : Bool) (ki : IntKind) (i : Int), (Value.bool x) ≠ .int ki i := fun _ _ _ h => by cases h
    have q := B.now
    exact ⟨(B.below.setCell (p := ⟨k5, 0, none⟩) (show w.heap.size ≤ k5 by omega) _).setCell (p := ⟨k5, 1, none⟩) (show w.heap.size ≤ k5 by omega) _, B.stay, q.1.set2o (by omega) _ _, q.2.1.set2o (by omega) _ _, q.2.2.1.set2o (by omega) _ _,
      ⟨⟨q.2.2.2.1.int.1, q.2.2.2.1.int.nt.set2b s (hx _ _ _) (hb _) _ _⟩, q.2.2.2.1.low.set2b s (hx _ _ _) (hb _) _ _⟩, ⟨⟨q.2.2.2.2.1.int.1, q.2.2.2.2.1.int.nt.set2b s (hx _ _ _) (hb _) _ _⟩, q.2.2.2.2.1.low.set2b s (hx _ _ _) (hb _) _ _⟩, trivial⟩

  cases x <;> cases y
  all_goals
    first
      | (exact absurd hxy (by decide))
      | skip
  all_goals
    clear hxy
    go_enter Tryz.func37, Tryz.ntmps37
    go_wp2_with (first
      | (go_at_call 39; (with_reducible refine (IW.out _ BB.out.now.2.2.2.2.1).mono ?_); rintro e w2 ⟨rfl, hb2⟩; have BB := Lib.hid (BB.out.go hb2); clear hb2; have q0 := BB.out.now.2.2.1.cell; have q1 := BB.out.now.2.2.1.cell1; have r0 := BB.out.now.2.1.cell; have r1 := BB.out.now.2.1.cell1; have r2 := BB.out.now.2.1.cell2)
      | (go_at_call 39; (with_reducible refine (IW'.out _ BB.out.now.2.2.2.1).mono ?_); rintro e w2 ⟨rfl, hb2⟩; have BB := Lib.hid (BB.out.go hb2); clear hb2; have q0 := BB.out.now.2.2.1.cell; have q1 := BB.out.now.2.2.1.cell1; have r0 := BB.out.now.2.1.cell; have r1 := BB.out.now.2.1.cell1))
    refine wp_capture (fun R hR => ?_)
    have TL : ∀ (t7 t8 t9 t10 t11 : Value) (p4 p10 p12 k5 : Nat) (a5 : Option Addr) (n5 c5 : Nat) (m5 : Bool) (a6 : Option Addr) (n6 c6 : Nat) (m6 : Bool) (a7 : Option Addr) (n7 c7 : Nat) (m7 : Bool) (a8 : Option Addr) (n8 c8 : Nat) (m8 : Bool) (a9 : Option Addr) (n9 c9 : Nat) (m9 : Bool) (wy : World), Bag w (fun y => Slot3 y (w.heap.size + 1 + 1) (.slice none 0 0) (.bool false) (.slice none 0 0) ∧ Slot3 y (w.heap.size + 1) (.slice b k l) (.bool v) (.slice b2 k2 l2) ∧ Slot3 y w.heap.size (.slice a n c) (.bool m) (.slice a2 n2 c2) ∧ RatAt y b k l v b2 k2 l2 P' Q' ∧ RatAt y a n c m a2 n2 c2 P Q ∧ True) wy → Slot2 wy k5 (.slice a9 n9 c9) (.bool m9) → IntAt wy a9 n9 c9 m9 S → w.heap.size + 1 + 1 < k5 → R .normal { tmps := #[Value.agg #[Value.slice a n c, Value.bool m, Value.slice a2 n2 c2], Value.agg #[Value.slice b k l, Value.bool v, Value.slice b2 k2 l2], Value.pointer (some { block := w.heap.size, off := 0 }), Value.pointer (some { block := w.heap.size + 1, off := 0 }), Value.pointer (some { block := w.heap.size + 1 + 1, off := 0 }), Value.pointer (some { block := k5, off := 0 }), Value.agg #[Value.slice a n c, Value.bool m, Value.slice a2 n2 c2], t7, t8, t9, t10, t11, undef, undef, undef, undef, undef, undef, undef, Value.pointer (some { block := w.heap.size, off := 0 }), Value.agg #[Value.slice a n c, Value.bool m], Value.agg #[Value.slice b k l, Value.bool v, Value.slice b2 k2 l2], Value.agg #[Value.slice a5 n5 c5, Value.bool m5], Value.slice (some { block := p4, off := 0 }) 1 1, Value.agg #[Value.slice a6 n6 c6, Value.bool m6], Value.pointer (some { block := w.heap.size + 1, off := 0 }), Value.agg #[Value.slice b k l, Value.bool v], Value.agg #[Value.slice a n c, Value.bool m, Value.slice a2 n2 c2], Value.agg #[Value.slice a7 n7 c7, Value.bool m7], Value.slice (some { block := p10, off := 0 }) 1 1, Value.agg #[Value.slice a8 n8 c8, Value.bool m8], Value.slice (some { block := p12, off := 0 }) 1 1, Value.agg #[Value.slice a9 n9 c9, Value.bool m9], undef, undef, undef, undef, undef, undef, undef], defers := [] } wy := by
      intro t7 t8 t9 t10 t11 p4 p10 p12 k5 a5 n5 c5 m5 a6 n6 c6 m6 a7 n7 c7 m7 a8 n8 c8 m8 a9 n9 c9 m9 wy B1 sT hi9 hk5
      rw [hR]
      have BB := Lib.hid ((B1.slot2 sT).int hi9)
      clear B1 sT hi9
      have he3 : k5 ≠ w.heap.size + 1 + 1 := by omega
      go_wp2_with fail
      have BB := Lib.hid BB.out.drew
      go_region_held3 (fun y => ((y.cell? ⟨w.heap.size, 0, none⟩ = some (.slice a n c) ∧ y.cell? ⟨w.heap.size, 1, none⟩ = some (.bool m) ∧ y.cell? ⟨w.heap.size, 2, none⟩ = some (.slice a2 n2 c2)) ∧ y.cell? ⟨w.heap.size + 1, 0, none⟩ = some (.slice b k l) ∧ y.cell? ⟨w.heap.size + 1, 1, none⟩ = some (.bool v) ∧ y.cell? ⟨w.heap.size + 1, 2, none⟩ = some (.slice b2 k2 l2)) ∧ y.cell? ⟨k5, 0, none⟩ = some (.slice a9 n9 c9) ∧ y.cell? ⟨k5, 1, none⟩ = some (.bool m9))
        (first
          | (exact ⟨⟨⟨z0.cell, z0.cell1, z0.cell2⟩, z1.cell, z1.cell1, z1.cell2⟩, z2.cell, z2.cell1⟩)
          | (exact ⟨⟨⟨BB.out.now.2.2.2.2.1.cell, BB.out.now.2.2.2.2.1.cell1, BB.out.now.2.2.2.2.1.cell2⟩, BB.out.now.2.2.2.1.cell, BB.out.now.2.2.2.1.cell1, BB.out.now.2.2.2.1.cell2⟩, BB.out.now.2.1.cell, BB.out.now.2.1.cell1⟩))
        (first
          | (go_at_call 34; (with_reducible refine (BT.out _ BB.out.now.2.2.2.2.2.2.1).mono ?_); rintro e w11 ⟨a11, n11, c11, rfl, hn11, hb11⟩; have BB := Lib.hid (BB.out.go hb11))
          | (go_at_call 34; (with_reducible refine (BT'.out _ BB.out.now.2.2.2.2.2.1).mono ?_); rintro e w12 ⟨a12, n12, c12, rfl, hn12, hb12⟩; have BB := Lib.hid (BB.out.go hb12))
          | (go_at_call 35; (with_reducible refine (ML.out _ _ _ _ _ _ _ (hn11.below hb12) hn12).mono ?_); rintro e w13 ⟨a13, n13, c13, rfl, hn13, hb13⟩; have BB := Lib.hid (BB.out.go hb13))
          | (go_at_call 32; (with_reducible refine (LW.out _ _ _ _ _ _ _ _ BB.out.now.1 hn13).mono ?_); rintro e w14 ⟨a14, n14, c14, m14, a15, n15, c15, rfl, hr, hb14⟩; have BB := Lib.hid (BB.out.go hb14); have hs := BB.out.now.2.2.1; have r0 := hs.cell; have r1 := hs.cell1; have r2 := hs.cell2; have g0 := hs.free; have g1 := hs.free1; have g2 := hs.free2; have HS := hs.set (.slice a14 n14 c14) (.bool m14) (.slice a15 n15 c15); have z0 := BB.out.now.2.2.2.2.1.set3o he.1 (.slice a14 n14 c14) (.bool m14) (.slice a15 n15 c15); have z1 := BB.out.now.2.2.2.1.set3o he.2 (.slice a14 n14 c14) (.bool m14) (.slice a15 n15 c15); have z2 := BB.out.now.2.1.set3o he3 (.slice a14 n14 c14) (.bool m14) (.slice a15 n15 c15); have HE := Lib.hid (RatTold.done BB.out.below (by omega) hs hr)))
      go_wp2
      exact bodyPost_ret (v := .agg #[.slice a14 n14 c14, .bool m14, .slice a15 n15 c15]) (by simp [results, Tryz.results37, go_sem, HS]) rfl HE.out
    refine wp_region_noPanic ?_
    refine wp_region_held_drew (S := (fun y => ((y.cell? ⟨w.heap.size, 0, none⟩ = some (.slice a n c) ∧ y.cell? ⟨w.heap.size, 1, none⟩ = some (.bool m) ∧ y.cell? ⟨w.heap.size, 2, none⟩ = some (.slice a2 n2 c2)) ∧ y.cell? ⟨w.heap.size + 1, 0, none⟩ = some (.slice b k l) ∧ y.cell? ⟨w.heap.size + 1, 1, none⟩ = some (.bool v) ∧ y.cell? ⟨w.heap.size + 1, 2, none⟩ = some (.slice b2 k2 l2)) ∧ Bag w (fun y => Slot3 y (w.heap.size + 1 + 1) (.slice none 0 0) (.bool false) (.slice none 0 0) ∧ Slot3 y (w.heap.size + 1) (.slice b k l) (.bool v) (.slice b2 k2 l2) ∧ Slot3 y w.heap.size (.slice a n c) (.bool m) (.slice a2 n2 c2) ∧ RatAt y b k l v b2 k2 l2 P' Q' ∧ RatAt y a n c m a2 n2 c2 P Q ∧ True) y)) (by kernel_rfl) ?_ (fun hH => ?_)
    · exact (have B9 := BB.out.drew; ⟨HC.out _ B9.now, B9⟩)
    refine wpAnyH_take (i := 0) (oi := ⟨some 19, Op.fieldAddr 30 (Operand.tmp 2) 0, 0, _, _, none⟩) (v := ?v1) rfl (by kernel_rfl) (by kernel_rfl) (by kernel_rfl) (fun _ _ _ h => h) (Or.inl ⟨by rfl, ?hy1⟩) hH ?_
    case hy1 =>
      intro y hy
      (try dsimp only at hy)
      go_simp
      try with_reducible rfl
    try simp only [Act.put, List.setIfInBounds_toArray, List.set_cons_zero, List.set_cons_succ]
    refine wpAnyH_take (i := 1) (oi := ⟨some 20, Op.load 28 (Operand.tmp 19), 28, _, _, none⟩) (v := ?v2) rfl (by kernel_rfl) (by kernel_rfl) (by kernel_rfl) (fun _ _ _ h => h) (Or.inl ⟨by rfl, ?hy2⟩) hH ?_
    case hy2 =>
      intro y hy
      (try dsimp only at hy)
      go_simp
      try with_reducible rfl
    try simp only [Act.put, List.setIfInBounds_toArray, List.set_cons_zero, List.set_cons_succ]
    refine wpAnyH_take (i := 2) (oi := ⟨some 21, Op.load 30 (Operand.tmp 3), 30, _, _, none⟩) (v := ?v3) rfl (by kernel_rfl) (by kernel_rfl) (by kernel_rfl) (fun _ _ _ h => h) (Or.inl ⟨by rfl, ?hy3⟩) hH ?_
    case hy3 =>
      intro y hy
      (try dsimp only at hy)
      go_simp
      try with_reducible rfl
    try simp only [Act.put, List.setIfInBounds_toArray, List.set_cons_zero, List.set_cons_succ]
    refine wpAnyH_take (i := 6) (oi := ⟨some 25, Op.fieldAddr 30 (Operand.tmp 3) 0, 0, _, _, none⟩) (v := ?v4) rfl (by kernel_rfl) (by kernel_rfl) (by kernel_rfl) (fun _ _ _ h => h) (Or.inl ⟨by rfl, ?hy4⟩) hH ?_
    case hy4 =>
      intro y hy
      (try dsimp only at hy)
      go_simp
      try with_reducible rfl
    try simp only [Act.put, List.setIfInBounds_toArray, List.set_cons_zero, List.set_cons_succ]
    refine wpAnyH_take (i := 7) (oi := ⟨some 26, Op.load 28 (Operand.tmp 25), 28, _, _, none⟩) (v := ?v5) rfl (by kernel_rfl) (by kernel_rfl) (by kernel_rfl) (fun _ _ _ h => h) (Or.inl ⟨by rfl, ?hy5⟩) hH ?_
    case hy5 =>
      intro y hy
      (try dsimp only at hy)
      go_simp
      try with_reducible rfl
    try simp only [Act.put, List.setIfInBounds_toArray, List.set_cons_zero, List.set_cons_succ]
    refine wpAnyH_take (i := 8) (oi := ⟨some 27, Op.load 30 (Operand.tmp 2), 30, _, _, none⟩) (v := ?v6) rfl (by kernel_rfl) (by kernel_rfl) (by kernel_rfl) (fun _ _ _ h => h) (Or.inl ⟨by rfl, ?hy6⟩) hH ?_
    case hy6 =>
      intro y hy
      (try dsimp only at hy)
      go_simp
      try with_reducible rfl
    try simp only [Act.put, List.setIfInBounds_toArray, List.set_cons_zero, List.set_cons_succ]
    refine wpAnyH_ready (rs := [3, 14]) (by kernel_rfl) (by simp) ?_
    refine AllReadyH.cons (o := ⟨some 22, Op.call { callee := Callee.value (Operand.func 36), args := #[Operand.tmp 21], argTypes := #[30] }, 28, _, _, none⟩) rfl (fun K hK => ?_) ?_
    · go_simp
      (go_at_call 36; (with_reducible refine (BL'.out _ ?_).mono ?_); exact hH.2.now.2.2.2.1; rintro e wy5 ⟨a5, n5, c5, m5, rfl, hi5, hbz⟩)
      refine hK.out _ _ ?_ (fun hH => ?_)
      · exact (have B9 := Bag.go hH.2 hbz; ⟨HC.out _ B9.now, B9⟩)
      clear hK K
      try simp only [Act.put, List.setIfInBounds_toArray, List.set_cons_zero, List.set_cons_succ]
      refine wpAnyH_ready (rs := [4, 14]) (by kernel_rfl) (by simp) ?_
      refine AllReadyH.cons (o := ⟨some 23, Op.buildSlice 99 1 #[(0, Operand.tmp 22)], 99, _, _, none⟩) rfl (fun K hK => ?_) ?_
      · go_simp
        refine hK.out _ _ ?_ (fun hH => ?_)
        · exact (have B9 := Bag.alloc hH.2 _; ⟨HC.out _ B9.now, B9⟩)
        clear hK K
        try simp only [Act.put, List.setIfInBounds_toArray, List.set_cons_zero, List.set_cons_succ]
        refine wpAnyH_ready (rs := [5, 14]) (by kernel_rfl) (by simp) ?_
        refine AllReadyH.cons (o := ⟨some 24, Op.call { callee := Callee.value (Operand.func 33), args := #[Operand.tmp 20, Operand.tmp 23], argTypes := #[28, 99] }, 28, _, _, none⟩) rfl (fun K hK => ?_) ?_
        · go_simp
          (go_at_call 33; (with_reducible refine (T1.out _ _ ?_ ?_).mono ?_); exact hH.2.now.2.2.2.2.1.int; (apply IntsAt.old1; (exact Below.refl _ _); (first | rfl | focus (simp; done)); exact (IntAt.below hi5 (by refine Below.more ?_ _; exact Below.refl _ _))); rintro e wy6 ⟨a6, n6, c6, m6, rfl, hi6, hbz⟩)
          refine hK.out _ _ ?_ (fun hH => ?_)
          · exact (have B9 := Bag.go hH.2 hbz; ⟨HC.out _ B9.now, B9⟩)
          clear hK K
          try simp only [Act.put, List.setIfInBounds_toArray, List.set_cons_zero, List.set_cons_succ]
          refine wpAnyH_ready (rs := [9, 14]) (by kernel_rfl) (by simp) ?_
          refine AllReadyH.cons (o := ⟨some 28, Op.call { callee := Callee.value (Operand.func 36), args := #[Operand.tmp 27], argTypes := #[30] }, 28, _, _, none⟩) rfl (fun K hK => ?_) ?_
          · go_simp
            (go_at_call 36; (with_reducible refine (BL.out _ ?_).mono ?_); exact hH.2.now.2.2.2.2.1; rintro e wy7 ⟨a7, n7, c7, m7, rfl, hi7, hbz⟩)
            refine hK.out _ _ ?_ (fun hH => ?_)
            · exact (have B9 := Bag.go hH.2 hbz; ⟨HC.out _ B9.now, B9⟩)
            clear hK K
            try simp only [Act.put, List.setIfInBounds_toArray, List.set_cons_zero, List.set_cons_succ]
            refine wpAnyH_ready (rs := [10, 14]) (by kernel_rfl) (by simp) ?_
            refine AllReadyH.cons (o := ⟨some 29, Op.buildSlice 99 1 #[(0, Operand.tmp 28)], 99, _, _, none⟩) rfl (fun K hK => ?_) ?_
            · go_simp
              refine hK.out _ _ ?_ (fun hH => ?_)
              · exact (have B9 := Bag.alloc hH.2 _; ⟨HC.out _ B9.now, B9⟩)
              clear hK K
              try simp only [Act.put, List.setIfInBounds_toArray, List.set_cons_zero, List.set_cons_succ]
              refine wpAnyH_ready (rs := [11, 14]) (by kernel_rfl) (by simp) ?_
              refine AllReadyH.cons (o := ⟨some 30, Op.call { callee := Callee.value (Operand.func 33), args := #[Operand.tmp 26, Operand.tmp 29], argTypes := #[28, 99] }, 28, _, _, none⟩) rfl (fun K hK => ?_) ?_
              · go_simp
                (go_at_call 33; (with_reducible refine (T2.out _ _ ?_ ?_).mono ?_); exact hH.2.now.2.2.2.1.int; (apply IntsAt.old1; (exact Below.refl _ _); (first | rfl | focus (simp; done)); exact (IntAt.below hi7 (by refine Below.more ?_ _; exact Below.refl _ _))); rintro e wy8 ⟨a8, n8, c8, m8, rfl, hi8, hbz⟩)
                refine hK.out _ _ ?_ (fun hH => ?_)
                · exact (have B9 := Bag.go hH.2 hbz; ⟨HC.out _ B9.now, B9⟩)
                clear hK K
                try simp only [Act.put, List.setIfInBounds_toArray, List.set_cons_zero, List.set_cons_succ]
                refine wpAnyH_ready (rs := [12, 14]) (by kernel_rfl) (by simp) ?_
                refine AllReadyH.cons (o := ⟨some 31, Op.buildSlice 99 1 #[(0, Operand.tmp 30)], 99, _, _, none⟩) rfl (fun K hK => ?_) ?_
                · go_simp
                  refine hK.out _ _ ?_ (fun hH => ?_)
                  · exact (have B9 := Bag.alloc hH.2 _; ⟨HC.out _ B9.now, B9⟩)
                  clear hK K
                  try simp only [Act.put, List.setIfInBounds_toArray, List.set_cons_zero, List.set_cons_succ]
                  refine wpAnyH_ready (rs := [13, 14]) (by kernel_rfl) (by simp) ?_
                  refine AllReadyH.cons (o := ⟨some 32, Op.call { callee := Callee.value (Operand.func 81), args := #[Operand.tmp 24, Operand.tmp 31], argTypes := #[28, 99] }, 28, _, _, none⟩) rfl (fun K hK => ?_) ?_
                  · go_simp
                    (go_at_call 81; (with_reducible refine (PL.out a6 n6 c6 m6 _ _ ?_ ?_).mono ?_); exact (IntAt.below hi6 (by refine Below.more ?_ _; refine Below.step (by assumption) ?_; refine Below.more ?_ _; refine Below.step (by assumption) ?_; exact Below.refl _ _)); (apply IntsAt.old1; (exact Below.refl _ _); (first | rfl | focus (simp; done)); exact (IntAt.below hi8 (by refine Below.more ?_ _; exact Below.refl _ _))); rintro e wy9 ⟨a9, n9, c9, m9, rfl, hi9, hbz⟩)
                    refine hK.out _ _ ?_ (fun hH => ?_)
                    · exact (have B9 := Bag.go hH.2 hbz; ⟨HC.out _ B9.now, B9⟩)
                    clear hK K
                    try simp only [Act.put, List.setIfInBounds_toArray, List.set_cons_zero, List.set_cons_succ]
                    refine wpAnyH_ready (rs := [14]) (by kernel_rfl) (by simp) ?_
                    refine AllReadyH.cons (o := ⟨some 5, Op.alloc 28, 0, _, _, none⟩) rfl (fun K hK => ?_) AllReadyH.nil
                    have hk5 := hH.2.now.1.lt
                    have BW := hH.2
                    have sT := Slot2.new wy9 (.slice none 0 0) (.bool false) 28
                    go_simp
                    refine hK.out _ _ ?_ (fun hH => ?_)
                    · exact (have B9 := Bag.alloc hH.2 _; ⟨HC.out _ B9.now, B9⟩)
                    clear hK K
                    try simp only [Act.put, List.setIfInBounds_toArray, List.set_cons_zero, List.set_cons_succ]
                    refine wpAnyH_ready (rs := [15]) (by kernel_rfl) (by simp) ?_
                    refine AllReadyH.cons (o := ⟨none, Op.store 28 (Operand.tmp 5) (Operand.tmp 32), 0, _, _, none⟩) rfl (fun K hK => ?_) AllReadyH.nil
                    have sT := sT
                    have hc := sT.cell
                    have hc1 := sT.cell1
                    have hf := sT.free
                    have hf1 := sT.free1
                    go_simp
                    have sT2 := Slot2.new wy9 (.slice a9 n9 c9) (.bool m9) 28
                    have hi9s := IntAt.below hi9 (Below.more (Below.refl _ _) (.cells #[.slice a9 n9 c9, .bool m9] 28))
                    have B9s := Bag.alloc BW (.cells #[.slice a9 n9 c9, .bool m9] 28)
                    refine hK.out _ _ ?_ (fun hH => ?_)
                    · exact ⟨HC.out _ B9s.now, B9s⟩
                    clear hK K
                    try simp only [Act.put, List.setIfInBounds_toArray, List.set_cons_zero, List.set_cons_succ]
                    refine wpAnyH_done (by kernel_rfl) ?_ _
                    refine NoPanic.normal ?_
                    exact TL _ _ _ _ _ _ _ _ _ _ _ _ _ _ _ _ _ _ _ _ _ _ _ _ _ _ _ _ _ _ hH.2 sT2 hi9s (by omega)
                  refine AllReadyH.cons (o := ⟨some 5, Op.alloc 28, 0, _, _, none⟩) rfl (fun K hK => ?_) ?_
                  · have hk5 := hH.2.now.1.lt
                    have BW := hH.2
                    have sT := Slot2.new (World.alloc wy8 (.cells #[.slice a8 n8 c8, .bool m8] 28)) (.slice none 0 0) (.bool false) 28
                    simp only [World.size_alloc] at sT hk5
                    go_simp
                    refine hK.out _ _ ?_ (fun hH => ?_)
                    · exact (have B9 := Bag.alloc hH.2 _; ⟨HC.out _ B9.now, B9⟩)
                    clear hK K
                    try simp only [Act.put, List.setIfInBounds_toArray, List.set_cons_zero, List.set_cons_succ]
                    refine wpAnyH_ready (rs := [13]) (by kernel_rfl) (by simp) ?_
                    refine AllReadyH.cons (o := ⟨some 32, Op.call { callee := Callee.value (Operand.func 81), args := #[Operand.tmp 24, Operand.tmp 31], argTypes := #[28, 99] }, 28, _, _, none⟩) rfl (fun K hK => ?_) AllReadyH.nil
                    go_simp
                    (go_at_call 81; (with_reducible refine (PL.out a6 n6 c6 m6 _ _ ?_ ?_).mono ?_); exact (IntAt.below hi6 (by refine Below.more ?_ _; refine Below.more ?_ _; refine Below.step (by assumption) ?_; refine Below.more ?_ _; refine Below.step (by assumption) ?_; exact Below.refl _ _)); (apply IntsAt.old1; (refine Below.more ?_ _; exact Below.refl _ _); (first | rfl | focus (simp; done)); exact (IntAt.below hi8 (by refine Below.more ?_ _; refine Below.more ?_ _; exact Below.refl _ _))); rintro e wy9 ⟨a9, n9, c9, m9, rfl, hi9, hbz⟩; have sT := sT.below hbz)
                    refine hK.out _ _ ?_ (fun hH => ?_)
                    · exact (have B9 := Bag.go hH.2 hbz; ⟨HC.out _ B9.now, B9⟩)
                    clear hK K
                    try simp only [Act.put, List.setIfInBounds_toArray, List.set_cons_zero, List.set_cons_succ]
                    refine wpAnyH_ready (rs := [15]) (by kernel_rfl) (by simp) ?_
                    refine AllReadyH.cons (o := ⟨none, Op.store 28 (Operand.tmp 5) (Operand.tmp 32), 0, _, _, none⟩) rfl (fun K hK => ?_) AllReadyH.nil
                    have sT := sT
                    have hc := sT.cell
                    have hc1 := sT.cell1
                    have hf := sT.free
                    have hf1 := sT.free1
                    go_simp
                    have sT2 := sT.set2 (.slice a9 n9 c9) (.bool m9)
                    have hi9s : IntAt _ a9 n9 c9 m9 S := IntAt.set2b (IntAt.below hi9 (by exact Below.refl _ _)) sT (.slice a9 n9 c9) (.bool m9)
                    have B9s := HP.out _ _ sT (by omega) hH.2 a9 n9 c9 m9
                    refine hK.out _ _ ?_ (fun hH => ?_)
                    · exact ⟨HC.out _ B9s.now, B9s⟩
                    clear hK K
                    try simp only [Act.put, List.setIfInBounds_toArray, List.set_cons_zero, List.set_cons_succ]
                    refine wpAnyH_done (by kernel_rfl) ?_ _
                    refine NoPanic.normal ?_
                    exact TL _ _ _ _ _ _ _ _ _ _ _ _ _ _ _ _ _ _ _ _ _ _ _ _ _ _ _ _ _ _ hH.2 sT2 hi9s (by omega)
                  exact AllReadyH.nil
                refine AllReadyH.cons (o := ⟨some 5, Op.alloc 28, 0, _, _, none⟩) rfl (fun K hK => ?_) ?_
                · have hk5 := hH.2.now.1.lt
                  have BW := hH.2
                  have sT := Slot2.new wy8 (.slice none 0 0) (.bool false) 28
                  go_simp
                  refine hK.out _ _ ?_ (fun hH => ?_)
                  · exact (have B9 := Bag.alloc hH.2 _; ⟨HC.out _ B9.now, B9⟩)
                  clear hK K
                  try simp only [Act.put, List.setIfInBounds_toArray, List.set_cons_zero, List.set_cons_succ]
                  refine wpAnyH_ready (rs := [12]) (by kernel_rfl) (by simp) ?_
                  refine AllReadyH.cons (o := ⟨some 31, Op.buildSlice 99 1 #[(0, Operand.tmp 30)], 99, _, _, none⟩) rfl (fun K hK => ?_) AllReadyH.nil
                  go_simp
                  refine hK.out _ _ ?_ (fun hH => ?_)
                  · exact (have B9 := Bag.alloc hH.2 _; ⟨HC.out _ B9.now, B9⟩)
                  clear hK K
                  try simp only [Act.put, List.setIfInBounds_toArray, List.set_cons_zero, List.set_cons_succ]
                  have sT := sT.below (Below.more (Below.refl _ _) (.cells #[.slice a8 n8 c8, .bool m8] 28))
                  refine wpAnyH_ready (rs := [13]) (by kernel_rfl) (by simp) ?_
                  refine AllReadyH.cons (o := ⟨some 32, Op.call { callee := Callee.value (Operand.func 81), args := #[Operand.tmp 24, Operand.tmp 31], argTypes := #[28, 99] }, 28, _, _, none⟩) rfl (fun K hK => ?_) AllReadyH.nil
                  go_simp
                  (go_at_call 81; (with_reducible refine (PL.out a6 n6 c6 m6 _ _ ?_ ?_).mono ?_); exact (IntAt.below hi6 (by refine Below.more ?_ _; refine Below.more ?_ _; refine Below.step (by assumption) ?_; refine Below.more ?_ _; refine Below.step (by assumption) ?_; exact Below.refl _ _)); (apply IntsAt.old1; (exact Below.refl _ _); (first | rfl | focus (simp; done)); exact (IntAt.below hi8 (by refine Below.more ?_ _; refine Below.more ?_ _; exact Below.refl _ _))); rintro e wy9 ⟨a9, n9, c9, m9, rfl, hi9, hbz⟩; have sT := sT.below hbz)
                  refine hK.out _ _ ?_ (fun hH => ?_)
                  · exact (have B9 := Bag.go hH.2 hbz; ⟨HC.out _ B9.now, B9⟩)
                  clear hK K
                  try simp only [Act.put, List.setIfInBounds_toArray, List.set_cons_zero, List.set_cons_succ]
                  refine wpAnyH_ready (rs := [15]) (by kernel_rfl) (by simp) ?_
                  refine AllReadyH.cons (o := ⟨none, Op.store 28 (Operand.tmp 5) (Operand.tmp 32), 0, _, _, none⟩) rfl (fun K hK => ?_) AllReadyH.nil
                  have sT := sT
                  have hc := sT.cell
                  have hc1 := sT.cell1
                  have hf := sT.free
                  have hf1 := sT.free1
                  go_simp
                  have sT2 := sT.set2 (.slice a9 n9 c9) (.bool m9)
                  have hi9s : IntAt _ a9 n9 c9 m9 S := IntAt.set2b (IntAt.below hi9 (by exact Below.refl _ _)) sT (.slice a9 n9 c9) (.bool m9)
                  have B9s := HP.out _ _ sT (by omega) hH.2 a9 n9 c9 m9
                  refine hK.out _ _ ?_ (fun hH => ?_)
                  · exact ⟨HC.out _ B9s.now, B9s⟩
                  clear hK K
                  try simp only [Act.put, List.setIfInBounds_toArray, List.set_cons_zero, List.set_cons_succ]
                  refine wpAnyH_done (by kernel_rfl) ?_ _
                  refine NoPanic.normal ?_
                  exact TL _ _ _ _ _ _ _ _ _ _ _ _ _ _ _ _ _ _ _ _ _ _ _ _ _ _ _ _ _ _ hH.2 sT2 hi9s (by omega)
                exact AllReadyH.nil
              refine AllReadyH.cons (o := ⟨some 5, Op.alloc 28, 0, _, _, none⟩) rfl (fun K hK => ?_) ?_
              · have hk5 := hH.2.now.1.lt
                have BW := hH.2
                have sT := Slot2.new (World.alloc wy7 (.cells #[.slice a7 n7 c7, .bool m7] 28)) (.slice none 0 0) (.bool false) 28
                simp only [World.size_alloc] at sT hk5
                go_simp
                refine hK.out _ _ ?_ (fun hH => ?_)
                · exact (have B9 := Bag.alloc hH.2 _; ⟨HC.out _ B9.now, B9⟩)
                clear hK K
                try simp only [Act.put, List.setIfInBounds_toArray, List.set_cons_zero, List.set_cons_succ]
                refine wpAnyH_ready (rs := [11]) (by kernel_rfl) (by simp) ?_
                refine AllReadyH.cons (o := ⟨some 30, Op.call { callee := Callee.value (Operand.func 33), args := #[Operand.tmp 26, Operand.tmp 29], argTypes := #[28, 99] }, 28, _, _, none⟩) rfl (fun K hK => ?_) AllReadyH.nil
                go_simp
                (go_at_call 33; (with_reducible refine (T2.out _ _ ?_ ?_).mono ?_); exact hH.2.now.2.2.2.1.int; (apply IntsAt.old1; (refine Below.more ?_ _; exact Below.refl _ _); (first | rfl | focus (simp; done)); exact (IntAt.below hi7 (by refine Below.more ?_ _; refine Below.more ?_ _; exact Below.refl _ _))); rintro e wy8 ⟨a8, n8, c8, m8, rfl, hi8, hbz⟩; have sT := sT.below hbz)
                refine hK.out _ _ ?_ (fun hH => ?_)
                · exact (have B9 := Bag.go hH.2 hbz; ⟨HC.out _ B9.now, B9⟩)
                clear hK K
                try simp only [Act.put, List.setIfInBounds_toArray, List.set_cons_zero, List.set_cons_succ]
                refine wpAnyH_ready (rs := [12]) (by kernel_rfl) (by simp) ?_
                refine AllReadyH.cons (o := ⟨some 31, Op.buildSlice 99 1 #[(0, Operand.tmp 30)], 99, _, _, none⟩) rfl (fun K hK => ?_) AllReadyH.nil
                go_simp
                refine hK.out _ _ ?_ (fun hH => ?_)
                · exact (have B9 := Bag.alloc hH.2 _; ⟨HC.out _ B9.now, B9⟩)
                clear hK K
                try simp only [Act.put, List.setIfInBounds_toArray, List.set_cons_zero, List.set_cons_succ]
                have sT := sT.below (Below.more (Below.refl _ _) (.cells #[.slice a8 n8 c8, .bool m8] 28))
                refine wpAnyH_ready (rs := [13]) (by kernel_rfl) (by simp) ?_
                refine AllReadyH.cons (o := ⟨some 32, Op.call { callee := Callee.value (Operand.func 81), args := #[Operand.tmp 24, Operand.tmp 31], argTypes := #[28, 99] }, 28, _, _, none⟩) rfl (fun K hK => ?_) AllReadyH.nil
                go_simp
                (go_at_call 81; (with_reducible refine (PL.out a6 n6 c6 m6 _ _ ?_ ?_).mono ?_); exact (IntAt.below hi6 (by refine Below.more ?_ _; refine Below.step (by assumption) ?_; refine Below.more ?_ _; refine Below.more ?_ _; refine Below.step (by assumption) ?_; exact Below.refl _ _)); (apply IntsAt.old1; (exact Below.refl _ _); (first | rfl | focus (simp; done)); exact (IntAt.below hi8 (by refine Below.more ?_ _; exact Below.refl _ _))); rintro e wy9 ⟨a9, n9, c9, m9, rfl, hi9, hbz⟩; have sT := sT.below hbz)
                refine hK.out _ _ ?_ (fun hH => ?_)
                · exact (have B9 := Bag.go hH.2 hbz; ⟨HC.out _ B9.now, B9⟩)
                clear hK K
                try simp only [Act.put, List.setIfInBounds_toArray, List.set_cons_zero, List.set_cons_succ]
                refine wpAnyH_ready (rs := [15]) (by kernel_rfl) (by simp) ?_
                refine AllReadyH.cons (o := ⟨none, Op.store 28 (Operand.tmp 5) (Operand.tmp 32), 0, _, _, none⟩) rfl (fun K hK => ?_) AllReadyH.nil
                have sT := sT
                have hc := sT.cell
                have hc1 := sT.cell1
                have hf := sT.free
                have hf1 := sT.free1
                go_simp
                have sT2 := sT.set2 (.slice a9 n9 c9) (.bool m9)
                have hi9s : IntAt _ a9 n9 c9 m9 S := IntAt.set2b (IntAt.below hi9 (by exact Below.refl _ _)) sT (.slice a9 n9 c9) (.bool m9)
                have B9s := HP.out _ _ sT (by omega) hH.2 a9 n9 c9 m9
                refine hK.out _ _ ?_ (fun hH => ?_)
                · exact ⟨HC.out _ B9s.now, B9s⟩
                clear hK K
                try simp only [Act.put, List.setIfInBounds_toArray, List.set_cons_zero, List.set_cons_succ]
                refine wpAnyH_done (by kernel_rfl) ?_ _
                refine NoPanic.normal ?_
                exact TL _ _ _ _ _ _ _ _ _ _ _ _ _ _ _ _ _ _ _ _ _ _ _ _ _ _ _ _ _ _ hH.2 sT2 hi9s (by omega)
              exact AllReadyH.nil
            refine AllReadyH.cons (o := ⟨some 5, Op.alloc 28, 0, _, _, none⟩) rfl (fun K hK => ?_) ?_
            · have hk5 := hH.2.now.1.lt
              have BW := hH.2
              have sT := Slot2.new wy7 (.slice none 0 0) (.bool false) 28
              go_simp
              refine hK.out _ _ ?_ (fun hH => ?_)
              · exact (have B9 := Bag.alloc hH.2 _; ⟨HC.out _ B9.now, B9⟩)
              clear hK K
              try simp only [Act.put, List.setIfInBounds_toArray, List.set_cons_zero, List.set_cons_succ]
              refine wpAnyH_ready (rs := [10]) (by kernel_rfl) (by simp) ?_
              refine AllReadyH.cons (o := ⟨some 29, Op.buildSlice 99 1 #[(0, Operand.tmp 28)], 99, _, _, none⟩) rfl (fun K hK => ?_) AllReadyH.nil
              go_simp
              refine hK.out _ _ ?_ (fun hH => ?_)
              · exact (have B9 := Bag.alloc hH.2 _; ⟨HC.out _ B9.now, B9⟩)
              clear hK K
              try simp only [Act.put, List.setIfInBounds_toArray, List.set_cons_zero, List.set_cons_succ]
              have sT := sT.below (Below.more (Below.refl _ _) (.cells #[.slice a7 n7 c7, .bool m7] 28))
              refine wpAnyH_ready (rs := [11]) (by kernel_rfl) (by simp) ?_
              refine AllReadyH.cons (o := ⟨some 30, Op.call { callee := Callee.value (Operand.func 33), args := #[Operand.tmp 26, Operand.tmp 29], argTypes := #[28, 99] }, 28, _, _, none⟩) rfl (fun K hK => ?_) AllReadyH.nil
              go_simp
              (go_at_call 33; (with_reducible refine (T2.out _ _ ?_ ?_).mono ?_); exact hH.2.now.2.2.2.1.int; (apply IntsAt.old1; (exact Below.refl _ _); (first | rfl | focus (simp; done)); exact (IntAt.below hi7 (by refine Below.more ?_ _; refine Below.more ?_ _; exact Below.refl _ _))); rintro e wy8 ⟨a8, n8, c8, m8, rfl, hi8, hbz⟩; have sT := sT.below hbz)
              refine hK.out _ _ ?_ (fun hH => ?_)
              · exact (have B9 := Bag.go hH.2 hbz; ⟨HC.out _ B9.now, B9⟩)
              clear hK K
              try simp only [Act.put, List.setIfInBounds_toArray, List.set_cons_zero, List.set_cons_succ]
              refine wpAnyH_ready (rs := [12]) (by kernel_rfl) (by simp) ?_
              refine AllReadyH.cons (o := ⟨some 31, Op.buildSlice 99 1 #[(0, Operand.tmp 30)], 99, _, _, none⟩) rfl (fun K hK => ?_) AllReadyH.nil
              go_simp
              refine hK.out _ _ ?_ (fun hH => ?_)
              · exact (have B9 := Bag.alloc hH.2 _; ⟨HC.out _ B9.now, B9⟩)
              clear hK K
              try simp only [Act.put, List.setIfInBounds_toArray, List.set_cons_zero, List.set_cons_succ]
              have sT := sT.below (Below.more (Below.refl _ _) (.cells #[.slice a8 n8 c8, .bool m8] 28))
              refine wpAnyH_ready (rs := [13]) (by kernel_rfl) (by simp) ?_
              refine AllReadyH.cons (o := ⟨some 32, Op.call { callee := Callee.value (Operand.func 81), args := #[Operand.tmp 24, Operand.tmp 31], argTypes := #[28, 99] }, 28, _, _, none⟩) rfl (fun K hK => ?_) AllReadyH.nil
              go_simp
              (go_at_call 81; (with_reducible refine (PL.out a6 n6 c6 m6 _ _ ?_ ?_).mono ?_); exact (IntAt.below hi6 (by refine Below.more ?_ _; refine Below.step (by assumption) ?_; refine Below.more ?_ _; refine Below.more ?_ _; refine Below.step (by assumption) ?_; exact Below.refl _ _)); (apply IntsAt.old1; (exact Below.refl _ _); (first | rfl | focus (simp; done)); exact (IntAt.below hi8 (by refine Below.more ?_ _; exact Below.refl _ _))); rintro e wy9 ⟨a9, n9, c9, m9, rfl, hi9, hbz⟩; have sT := sT.below hbz)
              refine hK.out _ _ ?_ (fun hH => ?_)
              · exact (have B9 := Bag.go hH.2 hbz; ⟨HC.out _ B9.now, B9⟩)
              clear hK K
              try simp only [Act.put, List.setIfInBounds_toArray, List.set_cons_zero, List.set_cons_succ]
              refine wpAnyH_ready (rs := [15]) (by kernel_rfl) (by simp) ?_
              refine AllReadyH.cons (o := ⟨none, Op.store 28 (Operand.tmp 5) (Operand.tmp 32), 0, _, _, none⟩) rfl (fun K hK => ?_) AllReadyH.nil
              have sT := sT
              have hc := sT.cell
              have hc1 := sT.cell1
              have hf := sT.free
              have hf1 := sT.free1
              go_simp
              have sT2 := sT.set2 (.slice a9 n9 c9) (.bool m9)
              have hi9s : IntAt _ a9 n9 c9 m9 S := IntAt.set2b (IntAt.below hi9 (by exact Below.refl _ _)) sT (.slice a9 n9 c9) (.bool m9)
              have B9s := HP.out _ _ sT (by omega) hH.2 a9 n9 c9 m9
              refine hK.out _ _ ?_ (fun hH => ?_)
              · exact ⟨HC.out _ B9s.now, B9s⟩
              clear hK K
              try simp only [Act.put, List.setIfInBounds_toArray, List.set_cons_zero, List.set_cons_succ]
              refine wpAnyH_done (by kernel_rfl) ?_ _
              refine NoPanic.normal ?_
              exact TL _ _ _ _ _ _ _ _ _ _ _ _ _ _ _ _ _ _ _ _ _ _ _ _ _ _ _ _ _ _ hH.2 sT2 hi9s (by omega)
            exact AllReadyH.nil
          refine AllReadyH.cons (o := ⟨some 5, Op.alloc 28, 0, _, _, none⟩) rfl (fun K hK => ?_) ?_
          · have hk5 := hH.2.now.1.lt
            have BW := hH.2
            have sT := Slot2.new wy6 (.slice none 0 0) (.bool false) 28
            go_simp
            refine hK.out _ _ ?_ (fun hH => ?_)
            · exact (have B9 := Bag.alloc hH.2 _; ⟨HC.out _ B9.now, B9⟩)
            clear hK K
            try simp only [Act.put, List.setIfInBounds_toArray, List.set_cons_zero, List.set_cons_succ]
            refine wpAnyH_ready (rs := [9]) (by kernel_rfl) (by simp) ?_
            refine AllReadyH.cons (o := ⟨some 28, Op.call { callee := Callee.value (Operand.func 36), args := #[Operand.tmp 27], argTypes := #[30] }, 28, _, _, none⟩) rfl (fun K hK => ?_) AllReadyH.nil
            go_simp
            (go_at_call 36; (with_reducible refine (BL.out _ ?_).mono ?_); exact hH.2.now.2.2.2.2.1; rintro e wy7 ⟨a7, n7, c7, m7, rfl, hi7, hbz⟩; have sT := sT.below hbz)
            refine hK.out _ _ ?_ (fun hH => ?_)
            · exact (have B9 := Bag.go hH.2 hbz; ⟨HC.out _ B9.now, B9⟩)
            clear hK K
            try simp only [Act.put, List.setIfInBounds_toArray, List.set_cons_zero, List.set_cons_succ]
            refine wpAnyH_ready (rs := [10]) (by kernel_rfl) (by simp) ?_
            refine AllReadyH.cons (o := ⟨some 29, Op.buildSlice 99 1 #[(0, Operand.tmp 28)], 99, _, _, none⟩) rfl (fun K hK => ?_) AllReadyH.nil
            go_simp
            refine hK.out _ _ ?_ (fun hH => ?_)
            · exact (have B9 := Bag.alloc hH.2 _; ⟨HC.out _ B9.now, B9⟩)
            clear hK K
            try simp only [Act.put, List.setIfInBounds_toArray, List.set_cons_zero, List.set_cons_succ]
            have sT := sT.below (Below.more (Below.refl _ _) (.cells #[.slice a7 n7 c7, .bool m7] 28))
            refine wpAnyH_ready (rs := [11]) (by kernel_rfl) (by simp) ?_
            refine AllReadyH.cons (o := ⟨some 30, Op.call { callee := Callee.value (Operand.func 33), args := #[Operand.tmp 26, Operand.tmp 29], argTypes := #[28, 99] }, 28, _, _, none⟩) rfl (fun K hK => ?_) AllReadyH.nil
            go_simp
            (go_at_call 33; (with_reducible refine (T2.out _ _ ?_ ?_).mono ?_); exact hH.2.now.2.2.2.1.int; (apply IntsAt.old1; (exact Below.refl _ _); (first | rfl | focus (simp; done)); exact (IntAt.below hi7 (by refine Below.more ?_ _; exact Below.refl _ _))); rintro e wy8 ⟨a8, n8, c8, m8, rfl, hi8, hbz⟩; have sT := sT.below hbz)
            refine hK.out _ _ ?_ (fun hH => ?_)
            · exact (have B9 := Bag.go hH.2 hbz; ⟨HC.out _ B9.now, B9⟩)
            clear hK K
            try simp only [Act.put, List.setIfInBounds_toArray, List.set_cons_zero, List.set_cons_succ]
            refine wpAnyH_ready (rs := [12]) (by kernel_rfl) (by simp) ?_
            refine AllReadyH.cons (o := ⟨some 31, Op.buildSlice 99 1 #[(0, Operand.tmp 30)], 99, _, _, none⟩) rfl (fun K hK => ?_) AllReadyH.nil
            go_simp
            refine hK.out _ _ ?_ (fun hH => ?_)
            · exact (have B9 := Bag.alloc hH.2 _; ⟨HC.out _ B9.now, B9⟩)
            clear hK K
            try simp only [Act.put, List.setIfInBounds_toArray, List.set_cons_zero, List.set_cons_succ]
            have sT := sT.below (Below.more (Below.refl _ _) (.cells #[.slice a8 n8 c8, .bool m8] 28))
            refine wpAnyH_ready (rs := [13]) (by kernel_rfl) (by simp) ?_
            refine AllReadyH.cons (o := ⟨some 32, Op.call { callee := Callee.value (Operand.func 81), args := #[Operand.tmp 24, Operand.tmp 31], argTypes := #[28, 99] }, 28, _, _, none⟩) rfl (fun K hK => ?_) AllReadyH.nil
            go_simp
            (go_at_call 81; (with_reducible refine (PL.out a6 n6 c6 m6 _ _ ?_ ?_).mono ?_); exact (IntAt.below hi6 (by refine Below.more ?_ _; refine Below.step (by assumption) ?_; refine Below.more ?_ _; refine Below.step (by assumption) ?_; refine Below.more ?_ _; exact Below.refl _ _)); (apply IntsAt.old1; (exact Below.refl _ _); (first | rfl | focus (simp; done)); exact (IntAt.below hi8 (by refine Below.more ?_ _; exact Below.refl _ _))); rintro e wy9 ⟨a9, n9, c9, m9, rfl, hi9, hbz⟩; have sT := sT.below hbz)
            refine hK.out _ _ ?_ (fun hH => ?_)
            · exact (have B9 := Bag.go hH.2 hbz; ⟨HC.out _ B9.now, B9⟩)
            clear hK K
            try simp only [Act.put, List.setIfInBounds_toArray, List.set_cons_zero, List.set_cons_succ]
            refine wpAnyH_ready (rs := [15]) (by kernel_rfl) (by simp) ?_
            refine AllReadyH.cons (o := ⟨none, Op.store 28 (Operand.tmp 5) (Operand.tmp 32), 0, _, _, none⟩) rfl (fun K hK => ?_) AllReadyH.nil
            have sT := sT
            have hc := sT.cell
            have hc1 := sT.cell1
            have hf := sT.free
            have hf1 := sT.free1
            go_simp
            have sT2 := sT.set2 (.slice a9 n9 c9) (.bool m9)
            have hi9s : IntAt _ a9 n9 c9 m9 S := IntAt.set2b (IntAt.below hi9 (by exact Below.refl _ _)) sT (.slice a9 n9 c9) (.bool m9)
            have B9s := HP.out _ _ sT (by omega) hH.2 a9 n9 c9 m9
            refine hK.out _ _ ?_ (fun hH => ?_)
            · exact ⟨HC.out _ B9s.now, B9s⟩
            clear hK K
            try simp only [Act.put, List.setIfInBounds_toArray, List.set_cons_zero, List.set_cons_succ]
            refine wpAnyH_done (by kernel_rfl) ?_ _
            refine NoPanic.normal ?_
            exact TL _ _ _ _ _ _ _ _ _ _ _ _ _ _ _ _ _ _ _ _ _ _ _ _ _ _ _ _ _ _ hH.2 sT2 hi9s (by omega)
          exact AllReadyH.nil
        refine AllReadyH.cons (o := ⟨some 5, Op.alloc 28, 0, _, _, none⟩) rfl (fun K hK => ?_) ?_
        · have hk5 := hH.2.now.1.lt
          have BW := hH.2
          have sT := Slot2.new (World.alloc wy5 (.cells #[.slice a5 n5 c5, .bool m5] 28)) (.slice none 0 0) (.bool false) 28
          simp only [World.size_alloc] at sT hk5
          go_simp
          refine hK.out _ _ ?_ (fun hH => ?_)
          · exact (have B9 := Bag.alloc hH.2 _; ⟨HC.out _ B9.now, B9⟩)
          clear hK K
          try simp only [Act.put, List.setIfInBounds_toArray, List.set_cons_zero, List.set_cons_succ]
          refine wpAnyH_ready (rs := [5]) (by kernel_rfl) (by simp) ?_
          refine AllReadyH.cons (o := ⟨some 24, Op.call { callee := Callee.value (Operand.func 33), args := #[Operand.tmp 20, Operand.tmp 23], argTypes := #[28, 99] }, 28, _, _, none⟩) rfl (fun K hK => ?_) AllReadyH.nil
          go_simp
          (go_at_call 33; (with_reducible refine (T1.out _ _ ?_ ?_).mono ?_); exact hH.2.now.2.2.2.2.1.int; (apply IntsAt.old1; (refine Below.more ?_ _; exact Below.refl _ _); (first | rfl | focus (simp; done)); exact (IntAt.below hi5 (by refine Below.more ?_ _; refine Below.more ?_ _; exact Below.refl _ _))); rintro e wy6 ⟨a6, n6, c6, m6, rfl, hi6, hbz⟩; have sT := sT.below hbz)
          refine hK.out _ _ ?_ (fun hH => ?_)
          · exact (have B9 := Bag.go hH.2 hbz; ⟨HC.out _ B9.now, B9⟩)
          clear hK K
          try simp only [Act.put, List.setIfInBounds_toArray, List.set_cons_zero, List.set_cons_succ]
          refine wpAnyH_ready (rs := [9]) (by kernel_rfl) (by simp) ?_
          refine AllReadyH.cons (o := ⟨some 28, Op.call { callee := Callee.value (Operand.func 36), args := #[Operand.tmp 27], argTypes := #[30] }, 28, _, _, none⟩) rfl (fun K hK => ?_) AllReadyH.nil
          go_simp
          (go_at_call 36; (with_reducible refine (BL.out _ ?_).mono ?_); exact hH.2.now.2.2.2.2.1; rintro e wy7 ⟨a7, n7, c7, m7, rfl, hi7, hbz⟩; have sT := sT.below hbz)
          refine hK.out _ _ ?_ (fun hH => ?_)
          · exact (have B9 := Bag.go hH.2 hbz; ⟨HC.out _ B9.now, B9⟩)
          clear hK K
          try simp only [Act.put, List.setIfInBounds_toArray, List.set_cons_zero, List.set_cons_succ]
          refine wpAnyH_ready (rs := [10]) (by kernel_rfl) (by simp) ?_
          refine AllReadyH.cons (o := ⟨some 29, Op.buildSlice 99 1 #[(0, Operand.tmp 28)], 99, _, _, none⟩) rfl (fun K hK => ?_) AllReadyH.nil
          go_simp
          refine hK.out _ _ ?_ (fun hH => ?_)
          · exact (have B9 := Bag.alloc hH.2 _; ⟨HC.out _ B9.now, B9⟩)
          clear hK K
          try simp only [Act.put, List.setIfInBounds_toArray, List.set_cons_zero, List.set_cons_succ]
          have sT := sT.below (Below.more (Below.refl _ _) (.cells #[.slice a7 n7 c7, .bool m7] 28))
          refine wpAnyH_ready (rs := [11]) (by kernel_rfl) (by simp) ?_
          refine AllReadyH.cons (o := ⟨some 30, Op.call { callee := Callee.value (Operand.func 33), args := #[Operand.tmp 26, Operand.tmp 29], argTypes := #[28, 99] }, 28, _, _, none⟩) rfl (fun K hK => ?_) AllReadyH.nil
          go_simp
          (go_at_call 33; (with_reducible refine (T2.out _ _ ?_ ?_).mono ?_); exact hH.2.now.2.2.2.1.int; (apply IntsAt.old1; (exact Below.refl _ _); (first | rfl | focus (simp; done)); exact (IntAt.below hi7 (by refine Below.more ?_ _; exact Below.refl _ _))); rintro e wy8 ⟨a8, n8, c8, m8, rfl, hi8, hbz⟩; have sT := sT.below hbz)
          refine hK.out _ _ ?_ (fun hH => ?_)
          · exact (have B9 := Bag.go hH.2 hbz; ⟨HC.out _ B9.now, B9⟩)
          clear hK K
          try simp only [Act.put, List.setIfInBounds_toArray, List.set_cons_zero, List.set_cons_succ]
          refine wpAnyH_ready (rs := [12]) (by kernel_rfl) (by simp) ?_
          refine AllReadyH.cons (o := ⟨some 31, Op.buildSlice 99 1 #[(0, Operand.tmp 30)], 99, _, _, none⟩) rfl (fun K hK => ?_) AllReadyH.nil
          go_simp
          refine hK.out _ _ ?_ (fun hH => ?_)
          · exact (have B9 := Bag.alloc hH.2 _; ⟨HC.out _ B9.now, B9⟩)
          clear hK K
          try simp only [Act.put, List.setIfInBounds_toArray, List.set_cons_zero, List.set_cons_succ]
          have sT := sT.below (Below.more (Below.refl _ _) (.cells #[.slice a8 n8 c8, .bool m8] 28))
          refine wpAnyH_ready (rs := [13]) (by kernel_rfl) (by simp) ?_
          refine AllReadyH.cons (o := ⟨some 32, Op.call { callee := Callee.value (Operand.func 81), args := #[Operand.tmp 24, Operand.tmp 31], argTypes := #[28, 99] }, 28, _, _, none⟩) rfl (fun K hK => ?_) AllReadyH.nil
          go_simp
          (go_at_call 81; (with_reducible refine (PL.out a6 n6 c6 m6 _ _ ?_ ?_).mono ?_); exact (IntAt.below hi6 (by refine Below.more ?_ _; refine Below.step (by assumption) ?_; refine Below.more ?_ _; refine Below.step (by assumption) ?_; exact Below.refl _ _)); (apply IntsAt.old1; (exact Below.refl _ _); (first | rfl | focus (simp; done)); exact (IntAt.below hi8 (by refine Below.more ?_ _; exact Below.refl _ _))); rintro e wy9 ⟨a9, n9, c9, m9, rfl, hi9, hbz⟩; have sT := sT.below hbz)
          refine hK.out _ _ ?_ (fun hH => ?_)
          · exact (have B9 := Bag.go hH.2 hbz; ⟨HC.out _ B9.now, B9⟩)
          clear hK K
          try simp only [Act.put, List.setIfInBounds_toArray, List.set_cons_zero, List.set_cons_succ]
          refine wpAnyH_ready (rs := [15]) (by kernel_rfl) (by simp) ?_
          refine AllReadyH.cons (o := ⟨none, Op.store 28 (Operand.tmp 5) (Operand.tmp 32), 0, _, _, none⟩) rfl (fun K hK => ?_) AllReadyH.nil
          have sT := sT
          have hc := sT.cell
          have hc1 := sT.cell1
          have hf := sT.free
          have hf1 := sT.free1
          go_simp
          have sT2 := sT.set2 (.slice a9 n9 c9) (.bool m9)
          have hi9s : IntAt _ a9 n9 c9 m9 S := IntAt.set2b (IntAt.below hi9 (by exact Below.refl _ _)) sT (.slice a9 n9 c9) (.bool m9)
          have B9s := HP.out _ _ sT (by omega) hH.2 a9 n9 c9 m9
          refine hK.out _ _ ?_ (fun hH => ?_)
          · exact ⟨HC.out _ B9s.now, B9s⟩
          clear hK K
          try simp only [Act.put, List.setIfInBounds_toArray, List.set_cons_zero, List.set_cons_succ]
          refine wpAnyH_done (by kernel_rfl) ?_ _
          refine NoPanic.normal ?_
          exact TL _ _ _ _ _ _ _ _ _ _ _ _ _ _ _ _ _ _ _ _ _ _ _ _ _ _ _ _ _ _ hH.2 sT2 hi9s (by omega)
        exact AllReadyH.nil
      refine AllReadyH.cons (o := ⟨some 5, Op.alloc 28, 0, _, _, none⟩) rfl (fun K hK => ?_) ?_
      · have hk5 := hH.2.now.1.lt
        have BW := hH.2
        have sT := Slot2.new wy5 (.slice none 0 0) (.bool false) 28
        go_simp
        refine hK.out _ _ ?_ (fun hH => ?_)
        · exact (have B9 := Bag.alloc hH.2 _; ⟨HC.out _ B9.now, B9⟩)
        clear hK K
        try simp only [Act.put, List.setIfInBounds_toArray, List.set_cons_zero, List.set_cons_succ]
        refine wpAnyH_ready (rs := [4]) (by kernel_rfl) (by simp) ?_
        refine AllReadyH.cons (o := ⟨some 23, Op.buildSlice 99 1 #[(0, Operand.tmp 22)], 99, _, _, none⟩) rfl (fun K hK => ?_) AllReadyH.nil
        go_simp
        refine hK.out _ _ ?_ (fun hH => ?_)
        · exact (have B9 := Bag.alloc hH.2 _; ⟨HC.out _ B9.now, B9⟩)
        clear hK K
        try simp only [Act.put, List.setIfInBounds_toArray, List.set_cons_zero, List.set_cons_succ]
        have sT := sT.below (Below.more (Below.refl _ _) (.cells #[.slice a5 n5 c5, .bool m5] 28))
        refine wpAnyH_ready (rs := [5]) (by kernel_rfl) (by simp) ?_
        refine AllReadyH.cons (o := ⟨some 24, Op.call { callee := Callee.value (Operand.func 33), args := #[Operand.tmp 20, Operand.tmp 23], argTypes := #[28, 99] }, 28, _, _, none⟩) rfl (fun K hK => ?_) AllReadyH.nil
        go_simp
        (go_at_call 33; (with_reducible refine (T1.out _ _ ?_ ?_).mono ?_); exact hH.2.now.2.2.2.2.1.int; (apply IntsAt.old1; (exact Below.refl _ _); (first | rfl | focus (simp; done)); exact (IntAt.below hi5 (by refine Below.more ?_ _; refine Below.more ?_ _; exact Below.refl _ _))); rintro e wy6 ⟨a6, n6, c6, m6, rfl, hi6, hbz⟩; have sT := sT.below hbz)
        refine hK.out _ _ ?_ (fun hH => ?_)
        · exact (have B9 := Bag.go hH.2 hbz; ⟨HC.out _ B9.now, B9⟩)
        clear hK K
        try simp only [Act.put, List.setIfInBounds_toArray, List.set_cons_zero, List.set_cons_succ]
        refine wpAnyH_ready (rs := [9]) (by kernel_rfl) (by simp) ?_
        refine AllReadyH.cons (o := ⟨some 28, Op.call { callee := Callee.value (Operand.func 36), args := #[Operand.tmp 27], argTypes := #[30] }, 28, _, _, none⟩) rfl (fun K hK => ?_) AllReadyH.nil
        go_simp
        (go_at_call 36; (with_reducible refine (BL.out _ ?_).mono ?_); exact hH.2.now.2.2.2.2.1; rintro e wy7 ⟨a7, n7, c7, m7, rfl, hi7, hbz⟩; have sT := sT.below hbz)
        refine hK.out _ _ ?_ (fun hH => ?_)
        · exact (have B9 := Bag.go hH.2 hbz; ⟨HC.out _ B9.now, B9⟩)
        clear hK K
        try simp only [Act.put, List.setIfInBounds_toArray, List.set_cons_zero, List.set_cons_succ]
        refine wpAnyH_ready (rs := [10]) (by kernel_rfl) (by simp) ?_
        refine AllReadyH.cons (o := ⟨some 29, Op.buildSlice 99 1 #[(0, Operand.tmp 28)], 99, _, _, none⟩) rfl (fun K hK => ?_) AllReadyH.nil
        go_simp
        refine hK.out _ _ ?_ (fun hH => ?_)
        · exact (have B9 := Bag.alloc hH.2 _; ⟨HC.out _ B9.now, B9⟩)
        clear hK K
        try simp only [Act.put, List.setIfInBounds_toArray, List.set_cons_zero, List.set_cons_succ]
        have sT := sT.below (Below.more (Below.refl _ _) (.cells #[.slice a7 n7 c7, .bool m7] 28))
        refine wpAnyH_ready (rs := [11]) (by kernel_rfl) (by simp) ?_
        refine AllReadyH.cons (o := ⟨some 30, Op.call { callee := Callee.value (Operand.func 33), args := #[Operand.tmp 26, Operand.tmp 29], argTypes := #[28, 99] }, 28, _, _, none⟩) rfl (fun K hK => ?_) AllReadyH.nil
        go_simp
        (go_at_call 33; (with_reducible refine (T2.out _ _ ?_ ?_).mono ?_); exact hH.2.now.2.2.2.1.int; (apply IntsAt.old1; (exact Below.refl _ _); (first | rfl | focus (simp; done)); exact (IntAt.below hi7 (by refine Below.more ?_ _; exact Below.refl _ _))); rintro e wy8 ⟨a8, n8, c8, m8, rfl, hi8, hbz⟩; have sT := sT.below hbz)
        refine hK.out _ _ ?_ (fun hH => ?_)
        · exact (have B9 := Bag.go hH.2 hbz; ⟨HC.out _ B9.now, B9⟩)
        clear hK K
        try simp only [Act.put, List.setIfInBounds_toArray, List.set_cons_zero, List.set_cons_succ]
        refine wpAnyH_ready (rs := [12]) (by kernel_rfl) (by simp) ?_
        refine AllReadyH.cons (o := ⟨some 31, Op.buildSlice 99 1 #[(0, Operand.tmp 30)], 99, _, _, none⟩) rfl (fun K hK => ?_) AllReadyH.nil
        go_simp
        refine hK.out _ _ ?_ (fun hH => ?_)
        · exact (have B9 := Bag.alloc hH.2 _; ⟨HC.out _ B9.now, B9⟩)
        clear hK K
        try simp only [Act.put, List.setIfInBounds_toArray, List.set_cons_zero, List.set_cons_succ]
        have sT := sT.below (Below.more (Below.refl _ _) (.cells #[.slice a8 n8 c8, .bool m8] 28))
        refine wpAnyH_ready (rs := [13]) (by kernel_rfl) (by simp) ?_
        refine AllReadyH.cons (o := ⟨some 32, Op.call { callee := Callee.value (Operand.func 81), args := #[Operand.tmp 24, Operand.tmp 31], argTypes := #[28, 99] }, 28, _, _, none⟩) rfl (fun K hK => ?_) AllReadyH.nil
        go_simp
        (go_at_call 81; (with_reducible refine (PL.out a6 n6 c6 m6 _ _ ?_ ?_).mono ?_); exact (IntAt.below hi6 (by refine Below.more ?_ _; refine Below.step (by assumption) ?_; refine Below.more ?_ _; refine Below.step (by assumption) ?_; exact Below.refl _ _)); (apply IntsAt.old1; (exact Below.refl _ _); (first | rfl | focus (simp; done)); exact (IntAt.below hi8 (by refine Below.more ?_ _; exact Below.refl _ _))); rintro e wy9 ⟨a9, n9, c9, m9, rfl, hi9, hbz⟩; have sT := sT.below hbz)
        refine hK.out _ _ ?_ (fun hH => ?_)
        · exact (have B9 := Bag.go hH.2 hbz; ⟨HC.out _ B9.now, B9⟩)
        clear hK K
        try simp only [Act.put, List.setIfInBounds_toArray, List.set_cons_zero, List.set_cons_succ]
        refine wpAnyH_ready (rs := [15]) (by kernel_rfl) (by simp) ?_
        refine AllReadyH.cons (o := ⟨none, Op.store 28 (Operand.tmp 5) (Operand.tmp 32), 0, _, _, none⟩) rfl (fun K hK => ?_) AllReadyH.nil
        have sT := sT
        have hc := sT.cell
        have hc1 := sT.cell1
        have hf := sT.free
        have hf1 := sT.free1
        go_simp
        have sT2 := sT.set2 (.slice a9 n9 c9) (.bool m9)
        have hi9s : IntAt _ a9 n9 c9 m9 S := IntAt.set2b (IntAt.below hi9 (by exact Below.refl _ _)) sT (.slice a9 n9 c9) (.bool m9)
        have B9s := HP.out _ _ sT (by omega) hH.2 a9 n9 c9 m9
        refine hK.out _ _ ?_ (fun hH => ?_)
        · exact ⟨HC.out _ B9s.now, B9s⟩
        clear hK K
        try simp only [Act.put, List.setIfInBounds_toArray, List.set_cons_zero, List.set_cons_succ]
        refine wpAnyH_done (by kernel_rfl) ?_ _
        refine NoPanic.normal ?_
        exact TL _ _ _ _ _ _ _ _ _ _ _ _ _ _ _ _ _ _ _ _ _ _ _ _ _ _ _ _ _ _ hH.2 sT2 hi9s (by omega)
      exact AllReadyH.nil
    refine AllReadyH.cons (o := ⟨some 5, Op.alloc 28, 0, _, _, none⟩) rfl (fun K hK => ?_) ?_
    · have hk5 : w.heap.size + 1 + 1 < w2.heap.size := hH.2.now.1.lt
      have sT : Slot2 (World.alloc w2.drew (.cells #[.slice none 0 0, .bool false] 28)) w2.heap.size (.slice none 0 0) (.bool false) := Slot2.new _ _ _ _
      go_simp
      refine hK.out _ _ ?_ (fun hH => ?_)
      · exact (have B9 := Bag.alloc hH.2 _; ⟨HC.out _ B9.now, B9⟩)
      clear hK K
      try simp only [Act.put, List.setIfInBounds_toArray, List.set_cons_zero, List.set_cons_succ]
      refine wpAnyH_ready (rs := [3]) (by kernel_rfl) (by simp) ?_
      refine AllReadyH.cons (o := ⟨some 22, Op.call { callee := Callee.value (Operand.func 36), args := #[Operand.tmp 21], argTypes := #[30] }, 28, _, _, none⟩) rfl (fun K hK => ?_) AllReadyH.nil
      go_simp
      (go_at_call 36; (with_reducible refine (BL'.out _ ?_).mono ?_); exact hH.2.now.2.2.2.1; rintro e wy5 ⟨a5, n5, c5, m5, rfl, hi5, hbz⟩; have sT := sT.below hbz)
      refine hK.out _ _ ?_ (fun hH => ?_)
      · exact (have B9 := Bag.go hH.2 hbz; ⟨HC.out _ B9.now, B9⟩)
      clear hK K
      try simp only [Act.put, List.setIfInBounds_toArray, List.set_cons_zero, List.set_cons_succ]
      refine wpAnyH_ready (rs := [4]) (by kernel_rfl) (by simp) ?_
      refine AllReadyH.cons (o := ⟨some 23, Op.buildSlice 99 1 #[(0, Operand.tmp 22)], 99, _, _, none⟩) rfl (fun K hK => ?_) AllReadyH.nil
      go_simp
      refine hK.out _ _ ?_ (fun hH => ?_)
      · exact (have B9 := Bag.alloc hH.2 _; ⟨HC.out _ B9.now, B9⟩)
      clear hK K
      try simp only [Act.put, List.setIfInBounds_toArray, List.set_cons_zero, List.set_cons_succ]
      have sT := sT.below (Below.more (Below.refl _ _) (.cells #[.slice a5 n5 c5, .bool m5] 28))
      refine wpAnyH_ready (rs := [5]) (by kernel_rfl) (by simp) ?_
      refine AllReadyH.cons (o := ⟨some 24, Op.call { callee := Callee.value (Operand.func 33), args := #[Operand.tmp 20, Operand.tmp 23], argTypes := #[28, 99] }, 28, _, _, none⟩) rfl (fun K hK => ?_) AllReadyH.nil
      go_simp
      (go_at_call 33; (with_reducible refine (T1.out _ _ ?_ ?_).mono ?_); exact hH.2.now.2.2.2.2.1.int; (apply IntsAt.old1; (exact Below.refl _ _); (first | rfl | focus (simp; done)); exact (IntAt.below hi5 (by refine Below.more ?_ _; exact Below.refl _ _))); rintro e wy6 ⟨a6, n6, c6, m6, rfl, hi6, hbz⟩; have sT := sT.below hbz)
      refine hK.out _ _ ?_ (fun hH => ?_)
      · exact (have B9 := Bag.go hH.2 hbz; ⟨HC.out _ B9.now, B9⟩)
      clear hK K
      try simp only [Act.put, List.setIfInBounds_toArray, List.set_cons_zero, List.set_cons_succ]
      refine wpAnyH_ready (rs := [9]) (by kernel_rfl) (by simp) ?_
      refine AllReadyH.cons (o := ⟨some 28, Op.call { callee := Callee.value (Operand.func 36), args := #[Operand.tmp 27], argTypes := #[30] }, 28, _, _, none⟩) rfl (fun K hK => ?_) AllReadyH.nil
      go_simp
      (go_at_call 36; (with_reducible refine (BL.out _ ?_).mono ?_); exact hH.2.now.2.2.2.2.1; rintro e wy7 ⟨a7, n7, c7, m7, rfl, hi7, hbz⟩; have sT := sT.below hbz)
      refine hK.out _ _ ?_ (fun hH => ?_)
      · exact (have B9 := Bag.go hH.2 hbz; ⟨HC.out _ B9.now, B9⟩)
      clear hK K
      try simp only [Act.put, List.setIfInBounds_toArray, List.set_cons_zero, List.set_cons_succ]
      refine wpAnyH_ready (rs := [10]) (by kernel_rfl) (by simp) ?_
      refine AllReadyH.cons (o := ⟨some 29, Op.buildSlice 99 1 #[(0, Operand.tmp 28)], 99, _, _, none⟩) rfl (fun K hK => ?_) AllReadyH.nil
      go_simp
      refine hK.out _ _ ?_ (fun hH => ?_)
      · exact (have B9 := Bag.alloc hH.2 _; ⟨HC.out _ B9.now, B9⟩)
      clear hK K
      try simp only [Act.put, List.setIfInBounds_toArray, List.set_cons_zero, List.set_cons_succ]
      have sT := sT.below (Below.more (Below.refl _ _) (.cells #[.slice a7 n7 c7, .bool m7] 28))
      refine wpAnyH_ready (rs := [11]) (by kernel_rfl) (by simp) ?_
      refine AllReadyH.cons (o := ⟨some 30, Op.call { callee := Callee.value (Operand.func 33), args := #[Operand.tmp 26, Operand.tmp 29], argTypes := #[28, 99] }, 28, _, _, none⟩) rfl (fun K hK => ?_) AllReadyH.nil
      go_simp
      (go_at_call 33; (with_reducible refine (T2.out _ _ ?_ ?_).mono ?_); exact hH.2.now.2.2.2.1.int; (apply IntsAt.old1; (exact Below.refl _ _); (first | rfl | focus (simp; done)); exact (IntAt.below hi7 (by refine Below.more ?_ _; exact Below.refl _ _))); rintro e wy8 ⟨a8, n8, c8, m8, rfl, hi8, hbz⟩; have sT := sT.below hbz)
      refine hK.out _ _ ?_ (fun hH => ?_)
      · exact (have B9 := Bag.go hH.2 hbz; ⟨HC.out _ B9.now, B9⟩)
      clear hK K
      try simp only [Act.put, List.setIfInBounds_toArray, List.set_cons_zero, List.set_cons_succ]
      refine wpAnyH_ready (rs := [12]) (by kernel_rfl) (by simp) ?_
      refine AllReadyH.cons (o := ⟨some 31, Op.buildSlice 99 1 #[(0, Operand.tmp 30)], 99, _, _, none⟩) rfl (fun K hK => ?_) AllReadyH.nil
      go_simp
      refine hK.out _ _ ?_ (fun hH => ?_)
      · exact (have B9 := Bag.alloc hH.2 _; ⟨HC.out _ B9.now, B9⟩)
      clear hK K
      try simp only [Act.put, List.setIfInBounds_toArray, List.set_cons_zero, List.set_cons_succ]
      have sT := sT.below (Below.more (Below.refl _ _) (.cells #[.slice a8 n8 c8, .bool m8] 28))
      refine wpAnyH_ready (rs := [13]) (by kernel_rfl) (by simp) ?_
      refine AllReadyH.cons (o := ⟨some 32, Op.call { callee := Callee.value (Operand.func 81), args := #[Operand.tmp 24, Operand.tmp 31], argTypes := #[28, 99] }, 28, _, _, none⟩) rfl (fun K hK => ?_) AllReadyH.nil
      go_simp
      (go_at_call 81; (with_reducible refine (PL.out a6 n6 c6 m6 _ _ ?_ ?_).mono ?_); exact (IntAt.below hi6 (by refine Below.more ?_ _; refine Below.step (by assumption) ?_; refine Below.more ?_ _; refine Below.step (by assumption) ?_; exact Below.refl _ _)); (apply IntsAt.old1; (exact Below.refl _ _); (first | rfl | focus (simp; done)); exact (IntAt.below hi8 (by refine Below.more ?_ _; exact Below.refl _ _))); rintro e wy9 ⟨a9, n9, c9, m9, rfl, hi9, hbz⟩; have sT := sT.below hbz)
      refine hK.out _ _ ?_ (fun hH => ?_)
      · exact (have B9 := Bag.go hH.2 hbz; ⟨HC.out _ B9.now, B9⟩)
      clear hK K
      try simp only [Act.put, List.setIfInBounds_toArray, List.set_cons_zero, List.set_cons_succ]
      refine wpAnyH_ready (rs := [15]) (by kernel_rfl) (by simp) ?_
      refine AllReadyH.cons (o := ⟨none, Op.store 28 (Operand.tmp 5) (Operand.tmp 32), 0, _, _, none⟩) rfl (fun K hK => ?_) AllReadyH.nil
      have sT := sT
      have hc := sT.cell
      have hc1 := sT.cell1
      have hf := sT.free
      have hf1 := sT.free1
      go_simp
      have sT2 := sT.set2 (.slice a9 n9 c9) (.bool m9)
      have hi9s : IntAt _ a9 n9 c9 m9 S := IntAt.set2b (IntAt.below hi9 (by exact Below.refl _ _)) sT (.slice a9 n9 c9) (.bool m9)
      have B9s := HP.out _ _ sT (by omega) hH.2 a9 n9 c9 m9
      refine hK.out _ _ ?_ (fun hH => ?_)
      · exact ⟨HC.out _ B9s.now, B9s⟩
      clear hK K
      try simp only [Act.put, List.setIfInBounds_toArray, List.set_cons_zero, List.set_cons_succ]
      refine wpAnyH_done (by kernel_rfl) ?_ _
      refine NoPanic.normal ?_
      exact TL _ _ _ _ _ _ _ _ _ _ _ _ _ _ _ _ _ _ _ _ _ _ _ _ _ _ _ _ _ _ hH.2 sT2 hi9s (by omega)
    exact AllReadyH.nil

theorem ratPlusOne_any (a : Option Addr) (n c : Nat) (m : Bool) (a2 : Option Addr) (n2 c2 : Nat) (P : Int) (Q : Nat) (b : Option Addr) (k l : Nat) (v : Bool) (b2 : Option Addr) (k2 l2 : Nat) (P' : Int) (Q' : Nat) (w : World)
    (h : RatAt w a n c m a2 n2 c2 P Q) (g : RatAt w b k l v b2 k2 l2 P' Q') (hQ : 0 < Q) (hQ' : 0 < Q') (K : Nat) (hK : K ≤ 200000) (h1 : P.natAbs < 4294967296 ^ K) (h2 : Q < 4294967296 ^ K) (h3 : P'.natAbs < 4294967296 ^ K) (h4 : Q' < 4294967296 ^ K) :
    Calls Tryz.prog 37 #[.agg #[.slice a n c, .bool m, .slice a2 n2 c2], .agg #[.slice b k l, .bool v, .slice b2 k2 l2]] w fun e w' => RatTold w w' e (plP P Q P' Q') (plQ P Q P' Q') := by
  by_cases hw : Q = 1 ∧ Q' = 1
  · obtain ⟨rfl, rfl⟩ := hw
    exact ratPlusOne_whole a n c m a2 n2 c2 P b k l v b2 k2 l2 P' w h g K hK h1 h3
  · exact ratPlusOne_some a n c m a2 n2 c2 P Q b k l v b2 k2 l2 P' Q' w h g hQ hQ' K hK h1 h2 h3 h4 hw

end Go.Proofs.YtocifhahfeajiaaGreatDoor
