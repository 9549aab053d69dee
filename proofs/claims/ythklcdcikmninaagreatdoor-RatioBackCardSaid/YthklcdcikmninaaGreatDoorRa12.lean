/-
  Package ratio: raised, by contract.
-/
import Derived.Test.YthklcdcikmninaaGreatDoorRa11
import Derived.Test.YthklcdcikmninaaGreatDoorPow3
namespace Go.Proofs.YthklcdcikmninaaGreatDoor
open Go.RowKit
attribute [local go_sem ↓] Go.wp_at_zero Go.wp_at_succ

theorem powN_pos {X : Nat} (hX : 0 < X) (n most : Int) (h : (powN X n most).2 = true) : 0 < (powN X n most).1 := by
  unfold powN at h ⊢
  split
  · exact Nat.one_pos
  · rename_i h1
    rw [if_neg h1] at h
    split
    · omega
    · rename_i h2
      rw [if_neg h2] at h
      split
      · exact Nat.pow_pos hX
      · rename_i h3
        rw [if_neg h3] at h
        cases h

/-- The power, above and below. -/
def raO (P : Int) (Q : Nat) (n most : Int) : Bool := (powN P.natAbs n most).2 && (powN Q n most).2
def raS (P : Int) (n : Int) : Bool := decide (P < 0) && decide (n % 2 = 1)
def raP (P : Int) (Q : Nat) (n most : Int) : Int := if raO P Q n most then sgn (raS P n) (powN P.natAbs n most).1 else 0
def raQ (P : Int) (Q : Nat) (n most : Int) : Nat := if raO P Q n most then (powN Q n most).1 else 1

set_option maxHeartbeats 6400000 in
set_option maxRecDepth 100000 in
theorem raised_no (a : Option Addr) (n c : Nat) (m : Bool) (a2 : Option Addr) (n2 c2 : Nat) (P : Int) (Q : Nat) (N most : Int) (w : World) (h : RatAt w a n c m a2 n2 c2 P Q) (hQ : 0 < Q) (hl : dl P.natAbs ≤ 50) (hl2 : dl Q ≤ 50)
    (hN : N ≤ 9223372036854775807) (hm : most ≤ 12) (hm0 : -9223372036854775808 ≤ most) (ho : raO P Q N most = false) :
    Calls Tryz.prog 40 #[.agg #[.slice a n c, .bool m, .slice a2 n2 c2], .int .i64 N, .int .i64 most] w fun e w' => RatTold3 w w' e 0 1 false := by
  have B0 := ((Bag.start w).rat h).box3 (.slice a n c) (.bool m) (.slice a2 n2 c2) 30 |>.box3 (.slice none 0 0) (.bool false) (.slice none 0 0) 30
  simp only [World.size_alloc] at B0
  have SZ := Lib.hid (fun wz (h : IntAt wz a n c m P) => size_any a n c m P wz h)
  unfold NatTold2 at SZ
  have BT := Lib.hid (fun wz hz => bot_any a n c m a2 n2 c2 P Q wz hz hQ)
  have PW := Lib.hid (fun wz (h : NatIs wz (.agg #[.slice a n c]) P.natAbs) => pow_any _ P.natAbs N most wz h hl hN hm hm0)
  have PB := Lib.hid (fun a n c wz (h : NatIs wz (.agg #[.slice a n c]) Q) => pow_any (.agg #[.slice a n c]) Q N most wz h hl2 hN hm hm0)
  unfold PowTold at PW PB
  unfold raO at ho
  generalize (powN P.natAbs N most).1 = t1 at *
  generalize (powN P.natAbs N most).2 = t2 at *
  generalize (powN Q N most).1 = b1 at *
  generalize (powN Q N most).2 = b2 at *
  have BB := Lib.hid B0
  have q0 := B0.now.2.1.cell
  have q1 := B0.now.2.1.cell1
  clear h B0 hQ hl hl2 hN hm hm0
  cases t2 <;> cases b2
  all_goals
    first
      | (exact absurd ho (by decide))
      | skip
  all_goals
    clear ho
    go_enter Tryz.func40, Tryz.ntmps40
    go_wp2_with (first
      | (go_at_call 38; (with_reducible refine (SZ.out _ BB.out.now.2.2.1.int).mono ?_); rintro e w2 ⟨rfl, hn2, hb2⟩; have BB := Lib.hid (BB.out.go hb2); clear hb2)
      | (go_at_call 59; (with_reducible refine (PW.out _ BB.out.now.2.2.1.int.nt).mono ?_); rintro e w3 ⟨a3, n3, c3, rfl, hn3, hb3⟩; have BB := Lib.hid ((BB.out.go hb3).alloc (.cells #[.slice a3 n3 c3] 26)); clear hb3; have q0 := BB.out.now.2.1.cell; have q1 := BB.out.now.2.1.cell1; have q2 := BB.out.now.2.1.cell2)
      | (go_at_call 22; (with_reducible refine (BT.out _ BB.out.now.2.2.1).mono ?_); rintro e w4 ⟨a4, n4, c4, rfl, hn4, hb4⟩; have BB := Lib.hid (BB.out.go hb4); clear hb4)
      | (go_at_call 59; (with_reducible refine (PB.out _ _ _ _ hn4).mono ?_); rintro e w5 ⟨a5, n5, c5, rfl, hn5, hb5⟩; have BB := Lib.hid ((BB.out.go hb5).alloc (.cells #[.slice a5 n5 c5] 26)); clear hb5; have hs := BB.out.now.1; have r0 := hs.cell; have r1 := hs.cell1; have r2 := hs.cell2; have g0 := hs.free; have g1 := hs.free1; have g2 := hs.free2; have HS := hs.set (.slice none 0 0) (.bool false) (.slice none 0 0); have HE := Lib.hid (RatTold3.done false BB.out.below (by omega) hs (RatAt.zero _)); clear hs))
    exact bodyPost_ret (v := .tuple #[.agg #[.slice none 0 0, .bool false, .slice none 0 0], .bool false]) (by simp [results, Tryz.results40, go_sem, HS]) rfl HE.out


set_option linter.unusedSimpArgs false in
set_option maxHeartbeats 6400000 in
set_option maxRecDepth 100000 in
theorem raised_yes (a : Option Addr) (n c : Nat) (m : Bool) (a2 : Option Addr) (n2 c2 : Nat) (P : Int) (Q : Nat) (N most : Int) (w : World) (h : RatAt w a n c m a2 n2 c2 P Q) (hQ : 0 < Q) (hl : dl P.natAbs ≤ 50) (hl2 : dl Q ≤ 50)
    (hN0 : 0 ≤ N) (hN : N ≤ 9223372036854775807) (hm : most ≤ 12) (hm0 : -9223372036854775808 ≤ most) (ho : raO P Q N most = true) :
    Calls Tryz.prog 40 #[.agg #[.slice a n c, .bool m, .slice a2 n2 c2], .int .i64 N, .int .i64 most] w fun e w' => RatTold3 w w' e (sgn (raS P N) (powN P.natAbs N most).1) (powN Q N most).1 true := by
  have B0 := ((Bag.start w).rat h).box3 (.slice a n c) (.bool m) (.slice a2 n2 c2) 30 |>.box3 (.slice none 0 0) (.bool false) (.slice none 0 0) 30
  simp only [World.size_alloc] at B0
  have SZ := Lib.hid (fun wz (h : IntAt wz a n c m P) => size_any a n c m P wz h)
  unfold NatTold2 at SZ
  have SG := Lib.hid (fun wz hz => ratSign_any a n c m a2 n2 c2 P Q wz hz)
  have BT := Lib.hid (fun wz hz => bot_any a n c m a2 n2 c2 P Q wz hz hQ)
  have PW := Lib.hid (fun wz (h : NatIs wz (.agg #[.slice a n c]) P.natAbs) => pow_any _ P.natAbs N most wz h hl hN hm hm0)
  have PB := Lib.hid (fun a n c wz (h : NatIs wz (.agg #[.slice a n c]) Q) => pow_any (.agg #[.slice a n c]) Q N most wz h hl2 hN hm hm0)
  unfold PowTold at PW PB
  unfold raO at ho
  rw [Bool.and_eq_true] at ho
  have hpos := powN_pos hQ N most ho.2
  rw [ho.1] at PW
  rw [ho.2] at PB
  have FR := Lib.hid (fun b a n c a2 n2 c2 wz (h : NatIs wz (.agg #[.slice a n c]) (powN P.natAbs N most).1) (g : NatIs wz (.agg #[.slice a2 n2 c2]) (powN Q N most).1) => fraction_any b a n c _ a2 n2 c2 _ wz h g hpos)
  generalize (powN P.natAbs N most).1 = t1 at *
  generalize (powN Q N most).1 = b1 at *
  have BB := Lib.hid B0
  have q0 := B0.now.2.1.cell
  have q1 := B0.now.2.1.cell1
  clear h B0 hQ hl hl2 hm hm0 ho hpos
  have hr : N % 2 = 0 ∨ N % 2 = 1 := by omega
  have he : w.heap.size ≠ w.heap.size + 1 := by omega
  by_cases hP : P < 0
  · have hs : sgnI P = -1 := by unfold sgnI; rw [if_pos hP]
    rw [hs] at SG
    have hS : raS P N = (N.tmod 2 == 1) := by
      unfold raS
      rw [decide_eq_true hP, Bool.true_and, Int.tmod_eq_emod_of_nonneg hN0, Bool.eq_iff_iff, decide_eq_true_eq, beq_iff_eq]
    rw [hS]
    go_enter Tryz.func40, Tryz.ntmps40
    go_wp2_with (first
    | (go_at_call 38; (with_reducible refine (SZ.out _ BB.out.now.2.2.1.int).mono ?_); rintro e w2 ⟨rfl, hn2, hb2⟩; have BB := Lib.hid (BB.out.go hb2); clear hb2)
    | (go_at_call 59; (with_reducible refine (PW.out _ BB.out.now.2.2.1.int.nt).mono ?_); rintro e w3 ⟨a3, n3, c3, rfl, hn3, hb3⟩; have hk3 : w.heap.size + 1 < w3.heap.size := (BB.out.go hb3).now.1.lt; have BB := Lib.hid (((BB.out.go hb3).nat hn3).box (.slice a3 n3 c3) 26); clear hb3 hn3; have q0 := BB.out.now.2.2.2.1.cell; have q1 := BB.out.now.2.2.2.1.cell1; have q2 := BB.out.now.2.2.2.1.cell2)
    | (go_at_call 22; (with_reducible refine (BT.out _ BB.out.now.2.2.2.2.1).mono ?_); rintro e w4 ⟨a4, n4, c4, rfl, hn4, hb4⟩; have BB := Lib.hid (BB.out.go hb4); clear hb4)
    | (go_at_call 59; (with_reducible refine (PB.out _ _ _ _ hn4).mono ?_); rintro e w5 ⟨a5, n5, c5, rfl, hn5, hb5⟩; have hk5 : w3.heap.size < w5.heap.size := (BB.out.go hb5).now.1.lt; have BB := Lib.hid (((BB.out.go hb5).nat hn5).box (.slice a5 n5 c5) 26); clear hb5 hn5))
    have BB := Lib.hid BB.out.drew
    go_region_held3 (fun y => (y.cell? ⟨w.heap.size, 0, none⟩ = some (.slice a n c) ∧ y.cell? ⟨w.heap.size, 1, none⟩ = some (.bool m) ∧ y.cell? ⟨w.heap.size, 2, none⟩ = some (.slice a2 n2 c2)) ∧ y.cell? ⟨w3.heap.size, 0, none⟩ = some (.slice a3 n3 c3) ∧ y.cell? ⟨w5.heap.size, 0, none⟩ = some (.slice a5 n5 c5))
      (first
        | (exact ⟨⟨z0.cell, z0.cell1, z0.cell2⟩, z1.cell, z2.cell⟩)
        | (exact ⟨⟨BB.out.now.2.2.2.2.2.1.cell, BB.out.now.2.2.2.2.2.1.cell1, BB.out.now.2.2.2.2.2.1.cell2⟩, BB.out.now.2.2.1.cell, BB.out.now.1.cell⟩))
      (first
        | (go_at_call 11; (with_reducible refine (SG.out _ BB.out.now.2.2.2.2.2.2.1).mono ?_); rintro e w6 ⟨rfl, hb6⟩; have BB := Lib.hid (BB.out.go hb6))
        | (go_at_call 46; (with_reducible refine (FR.out _ _ _ _ _ _ _ _ BB.out.now.2.2.2.1 BB.out.now.2.1).mono ?_); rintro e w7 ⟨a7, n7, c7, m7, a8, n8, c8, rfl, hr7, hb7⟩; have BB := Lib.hid (BB.out.go hb7); have hs := BB.out.now.2.2.2.2.1; have r0 := hs.cell; have r1 := hs.cell1; have r2 := hs.cell2; have g0 := hs.free; have g1 := hs.free1; have g2 := hs.free2; have HS := hs.set (.slice a7 n7 c7) (.bool m7) (.slice a8 n8 c8); have z0 := BB.out.now.2.2.2.2.2.1.set3o he (.slice a7 n7 c7) (.bool m7) (.slice a8 n8 c8); have z1 := BB.out.now.2.2.1.set3o (k := w.heap.size + 1) (by omega) (.slice a7 n7 c7) (.bool m7) (.slice a8 n8 c8); have z2 := BB.out.now.1.set3o (k := w.heap.size + 1) (by omega) (.slice a7 n7 c7) (.bool m7) (.slice a8 n8 c8); have HE := Lib.hid (RatTold3.done true BB.out.below (by omega) hs hr7)))
    go_wp2
    exact bodyPost_ret (v := .tuple #[.agg #[.slice a7 n7 c7, .bool m7, .slice a8 n8 c8], .bool true]) (by simp [results, Tryz.results40, go_sem, HS]) rfl HE.out
  · have hs : ∃ x, sgnI P = x ∧ (x = 0 ∨ x = 1) := ⟨_, rfl, by unfold sgnI; rw [if_neg hP]; split <;> simp⟩
    obtain ⟨x, hs, hx01⟩ := hs
    rw [hs] at SG
    have hS : raS P N = false := by unfold raS; rw [decide_eq_false hP]; rfl
    rw [hS]
    rcases hx01 with rfl | rfl
    · go_enter Tryz.func40, Tryz.ntmps40
      go_wp2_with (first
      | (go_at_call 38; (with_reducible refine (SZ.out _ BB.out.now.2.2.1.int).mono ?_); rintro e w2 ⟨rfl, hn2, hb2⟩; have BB := Lib.hid (BB.out.go hb2); clear hb2)
      | (go_at_call 59; (with_reducible refine (PW.out _ BB.out.now.2.2.1.int.nt).mono ?_); rintro e w3 ⟨a3, n3, c3, rfl, hn3, hb3⟩; have hk3 : w.heap.size + 1 < w3.heap.size := (BB.out.go hb3).now.1.lt; have BB := Lib.hid (((BB.out.go hb3).nat hn3).box (.slice a3 n3 c3) 26); clear hb3 hn3; have q0 := BB.out.now.2.2.2.1.cell; have q1 := BB.out.now.2.2.2.1.cell1; have q2 := BB.out.now.2.2.2.1.cell2)
      | (go_at_call 22; (with_reducible refine (BT.out _ BB.out.now.2.2.2.2.1).mono ?_); rintro e w4 ⟨a4, n4, c4, rfl, hn4, hb4⟩; have BB := Lib.hid (BB.out.go hb4); clear hb4)
      | (go_at_call 59; (with_reducible refine (PB.out _ _ _ _ hn4).mono ?_); rintro e w5 ⟨a5, n5, c5, rfl, hn5, hb5⟩; have hk5 : w3.heap.size < w5.heap.size := (BB.out.go hb5).now.1.lt; have BB := Lib.hid (((BB.out.go hb5).nat hn5).box (.slice a5 n5 c5) 26); clear hb5 hn5))
      have BB := Lib.hid BB.out.drew
      refine wp_region_noPanic ?_
      refine wp_region_held_drew (S := (fun y => (y.cell? ⟨w.heap.size, 0, none⟩ = some (.slice a n c) ∧ y.cell? ⟨w.heap.size, 1, none⟩ = some (.bool m) ∧ y.cell? ⟨w.heap.size, 2, none⟩ = some (.slice a2 n2 c2)) ∧ y.cell? ⟨w3.heap.size, 0, none⟩ = some (.slice a3 n3 c3) ∧ y.cell? ⟨w5.heap.size, 0, none⟩ = some (.slice a5 n5 c5))) (by kernel_rfl) ?_ (fun hH => ?_)
      · exact ⟨⟨BB.out.now.2.2.2.2.2.1.cell, BB.out.now.2.2.2.2.2.1.cell1, BB.out.now.2.2.2.2.2.1.cell2⟩, BB.out.now.2.2.1.cell, BB.out.now.1.cell⟩
      refine wpAnyH_take (i := 0) (oi := ⟨some 36, Op.load 30 (Operand.tmp 3), 30, _, _, none⟩) (v := ?v1) rfl (by kernel_rfl) (by kernel_rfl) (by kernel_rfl) (fun _ _ _ h => h) (Or.inl ⟨by rfl, ?hy1⟩) hH ?_
      case hy1 =>
        intro y hy
        (try dsimp only at hy)
        go_simp
        try with_reducible rfl
      try simp only [Act.put, List.setIfInBounds_toArray, List.set_cons_zero, List.set_cons_succ]
      refine wpAnyH_take (i := 8) (oi := ⟨some 44, Op.load 26 (Operand.tmp 8), 26, _, _, none⟩) (v := ?v2) rfl (by kernel_rfl) (by kernel_rfl) (by kernel_rfl) (fun _ _ _ h => h) (Or.inl ⟨by rfl, ?hy2⟩) hH ?_
      case hy2 =>
        intro y hy
        (try dsimp only at hy)
        go_simp
        try with_reducible rfl
      try simp only [Act.put, List.setIfInBounds_toArray, List.set_cons_zero, List.set_cons_succ]
      refine wpAnyH_take (i := 9) (oi := ⟨some 45, Op.load 26 (Operand.tmp 10), 26, _, _, none⟩) (v := ?v3) rfl (by kernel_rfl) (by kernel_rfl) (by kernel_rfl) (fun _ _ _ h => h) (Or.inl ⟨by rfl, ?hy3⟩) hH ?_
      case hy3 =>
        intro y hy
        (try dsimp only at hy)
        go_simp
        try with_reducible rfl
      try simp only [Act.put, List.setIfInBounds_toArray, List.set_cons_zero, List.set_cons_succ]
      refine wpAnyH_ready (rs := [1]) (by kernel_rfl) (by simp) ?_
      refine AllReadyH.cons (o := ⟨some 37, Op.call { callee := Callee.value (Operand.func 11), args := #[Operand.tmp 36], argTypes := #[30] }, 3, _, _, none⟩) rfl (fun K hK => ?_) AllReadyH.nil
      go_simp
      (first
          | (go_at_call 11; (with_reducible refine (SG.out _ BB.out.now.2.2.2.2.2.2.1).mono ?_); rintro e w6 ⟨rfl, hb6⟩; have BB := Lib.hid (BB.out.go hb6))
          | (go_at_call 46; (with_reducible refine (FR.out _ _ _ _ _ _ _ _ BB.out.now.2.2.2.1 BB.out.now.2.1).mono ?_); rintro e w7 ⟨a7, n7, c7, m7, a8, n8, c8, rfl, hr7, hb7⟩; have BB := Lib.hid (BB.out.go hb7); have hs := BB.out.now.2.2.2.2.1; have r0 := hs.cell; have r1 := hs.cell1; have r2 := hs.cell2; have g0 := hs.free; have g1 := hs.free1; have g2 := hs.free2; have HS := hs.set (.slice a7 n7 c7) (.bool m7) (.slice a8 n8 c8); have z0 := BB.out.now.2.2.2.2.2.1.set3o he (.slice a7 n7 c7) (.bool m7) (.slice a8 n8 c8); have z1 := BB.out.now.2.2.1.set3o (k := w.heap.size + 1) (by omega) (.slice a7 n7 c7) (.bool m7) (.slice a8 n8 c8); have z2 := BB.out.now.1.set3o (k := w.heap.size + 1) (by omega) (.slice a7 n7 c7) (.bool m7) (.slice a8 n8 c8); have HE := Lib.hid (RatTold3.done true BB.out.below (by omega) hs hr7)))
      refine hK.out _ _ ?_ (fun hH => ?_)
      · exact (by first | exact ⟨⟨z0.cell, z0.cell1, z0.cell2⟩, z1.cell, z2.cell⟩ | exact ⟨⟨BB.out.now.2.2.2.2.2.1.cell, BB.out.now.2.2.2.2.2.1.cell1, BB.out.now.2.2.2.2.2.1.cell2⟩, BB.out.now.2.2.1.cell, BB.out.now.1.cell⟩)
      clear hK K
      try simp only [Act.put, List.setIfInBounds_toArray, List.set_cons_zero, List.set_cons_succ]
      refine wpAnyH_take (i := 2) (oi := ⟨some 38, Op.binOp BinOp.lss 3 (Operand.tmp 37) (Operand.const (Value.int IntKind.i64 0)) 3, 4, _, _, none⟩) (v := ?v4) rfl (by kernel_rfl) (by kernel_rfl) (by kernel_rfl) (fun _ _ _ h => h) (Or.inl ⟨by rfl, ?hy4⟩) hH ?_
      case hy4 =>
        intro y hy
        (try dsimp only at hy)
        go_simp
        try with_reducible rfl
      try simp only [Act.put, List.setIfInBounds_toArray, List.set_cons_zero, List.set_cons_succ]
      refine wpAnyH_take (i := 3) (oi := ⟨some 39, Op.move (Operand.tmp 38), 4, _, _, none⟩) (v := ?v5) rfl (by kernel_rfl) (by kernel_rfl) (by kernel_rfl) (fun _ _ _ h => h) (Or.inl ⟨by rfl, ?hy5⟩) hH ?_
      case hy5 =>
        intro y hy
        (try dsimp only at hy)
        go_simp
        try with_reducible rfl
      try simp only [Act.put, List.setIfInBounds_toArray, List.set_cons_zero, List.set_cons_succ]
      refine wpAnyH_take (i := 4) (oi := ⟨some 40, Op.move (Operand.tmp 1), 3, _, _, some (3, true)⟩) (v := undef) rfl (by kernel_rfl) (by kernel_rfl) (by kernel_rfl) (fun _ _ _ h => h) (Or.inr ⟨by rfl, rfl⟩) hH ?_
      try simp only [Act.put, List.setIfInBounds_toArray, List.set_cons_zero, List.set_cons_succ]
      refine wpAnyH_take (i := 5) (oi := ⟨some 41, Op.binOp BinOp.rem 3 (Operand.tmp 40) (Operand.const (Value.int IntKind.i64 2)) 3, 3, _, _, some (3, true)⟩) (v := undef) rfl (by kernel_rfl) (by kernel_rfl) (by kernel_rfl) (fun _ _ _ h => h) (Or.inr ⟨by rfl, rfl⟩) hH ?_
      try simp only [Act.put, List.setIfInBounds_toArray, List.set_cons_zero, List.set_cons_succ]
      refine wpAnyH_take (i := 6) (oi := ⟨some 42, Op.binOp BinOp.eql 3 (Operand.tmp 41) (Operand.const (Value.int IntKind.i64 1)) 3, 4, _, _, some (3, true)⟩) (v := undef) rfl (by kernel_rfl) (by kernel_rfl) (by kernel_rfl) (fun _ _ _ h => h) (Or.inr ⟨by rfl, rfl⟩) hH ?_
      try simp only [Act.put, List.setIfInBounds_toArray, List.set_cons_zero, List.set_cons_succ]
      refine wpAnyH_take (i := 7) (oi := ⟨some 43, Op.pick (Operand.tmp 39) (Operand.tmp 42) (Operand.const (Value.bool false)), 4, _, _, none⟩) (v := ?v6) rfl (by kernel_rfl) (by kernel_rfl) (by kernel_rfl) (fun _ _ _ h => h) (Or.inl ⟨by rfl, ?hy6⟩) hH ?_
      case hy6 =>
        intro y hy
        (try dsimp only at hy)
        go_simp
        try with_reducible rfl
      try simp only [Act.put, List.setIfInBounds_toArray, List.set_cons_zero, List.set_cons_succ]
      refine wpAnyH_ready (rs := [10]) (by kernel_rfl) (by simp) ?_
      refine AllReadyH.cons (o := ⟨some 46, Op.call { callee := Callee.value (Operand.func 46), args := #[Operand.tmp 43, Operand.tmp 44, Operand.tmp 45], argTypes := #[4, 26, 26] }, 30, _, _, none⟩) rfl (fun K hK => ?_) AllReadyH.nil
      go_simp
      (first
          | (go_at_call 11; (with_reducible refine (SG.out _ BB.out.now.2.2.2.2.2.2.1).mono ?_); rintro e w6 ⟨rfl, hb6⟩; have BB := Lib.hid (BB.out.go hb6))
          | (go_at_call 46; (with_reducible refine (FR.out _ _ _ _ _ _ _ _ BB.out.now.2.2.2.1 BB.out.now.2.1).mono ?_); rintro e w7 ⟨a7, n7, c7, m7, a8, n8, c8, rfl, hr7, hb7⟩; have BB := Lib.hid (BB.out.go hb7); have hs := BB.out.now.2.2.2.2.1; have r0 := hs.cell; have r1 := hs.cell1; have r2 := hs.cell2; have g0 := hs.free; have g1 := hs.free1; have g2 := hs.free2; have HS := hs.set (.slice a7 n7 c7) (.bool m7) (.slice a8 n8 c8); have z0 := BB.out.now.2.2.2.2.2.1.set3o he (.slice a7 n7 c7) (.bool m7) (.slice a8 n8 c8); have z1 := BB.out.now.2.2.1.set3o (k := w.heap.size + 1) (by omega) (.slice a7 n7 c7) (.bool m7) (.slice a8 n8 c8); have z2 := BB.out.now.1.set3o (k := w.heap.size + 1) (by omega) (.slice a7 n7 c7) (.bool m7) (.slice a8 n8 c8); have HE := Lib.hid (RatTold3.done true BB.out.below (by omega) hs hr7)))
      refine hK.out _ _ ?_ (fun hH => ?_)
      · exact (by first | exact ⟨⟨z0.cell, z0.cell1, z0.cell2⟩, z1.cell, z2.cell⟩ | exact ⟨⟨BB.out.now.2.2.2.2.2.1.cell, BB.out.now.2.2.2.2.2.1.cell1, BB.out.now.2.2.2.2.2.1.cell2⟩, BB.out.now.2.2.1.cell, BB.out.now.1.cell⟩)
      clear hK K
      try simp only [Act.put, List.setIfInBounds_toArray, List.set_cons_zero, List.set_cons_succ]
      refine wpAnyH_ready (rs := [11]) (by kernel_rfl) (by simp) ?_
      refine AllReadyH.cons (o := ⟨none, Op.store 30 (Operand.tmp 6) (Operand.tmp 46), 0, _, _, none⟩) rfl (fun K hK => ?_) AllReadyH.nil
      go_simp
      refine hK.out _ _ ?_ (fun hH => ?_)
      · exact (by first | exact ⟨⟨z0.cell, z0.cell1, z0.cell2⟩, z1.cell, z2.cell⟩ | exact ⟨⟨BB.out.now.2.2.2.2.2.1.cell, BB.out.now.2.2.2.2.2.1.cell1, BB.out.now.2.2.2.2.2.1.cell2⟩, BB.out.now.2.2.1.cell, BB.out.now.1.cell⟩)
      clear hK K
      try simp only [Act.put, List.setIfInBounds_toArray, List.set_cons_zero, List.set_cons_succ]
      refine wpAnyH_take (i := 12) (oi := ⟨some 7, Op.assign (Operand.const (Value.bool true)), 4, _, _, none⟩) (v := ?v7) rfl (by kernel_rfl) (by kernel_rfl) (by kernel_rfl) (fun _ _ _ h => h) (Or.inl ⟨by rfl, ?hy7⟩) hH ?_
      case hy7 =>
        intro y hy
        (try dsimp only at hy)
        go_simp
        try with_reducible rfl
      try simp only [Act.put, List.setIfInBounds_toArray, List.set_cons_zero, List.set_cons_succ]
      refine wpAnyH_done (by kernel_rfl) ?_ _
      refine NoPanic.normal ?_
      go_wp2
      exact bodyPost_ret (v := .tuple #[.agg #[.slice a7 n7 c7, .bool m7, .slice a8 n8 c8], .bool true]) (by simp [results, Tryz.results40, go_sem, HS]) rfl HE.out

    · go_enter Tryz.func40, Tryz.ntmps40
      go_wp2_with (first
      | (go_at_call 38; (with_reducible refine (SZ.out _ BB.out.now.2.2.1.int).mono ?_); rintro e w2 ⟨rfl, hn2, hb2⟩; have BB := Lib.hid (BB.out.go hb2); clear hb2)
      | (go_at_call 59; (with_reducible refine (PW.out _ BB.out.now.2.2.1.int.nt).mono ?_); rintro e w3 ⟨a3, n3, c3, rfl, hn3, hb3⟩; have hk3 : w.heap.size + 1 < w3.heap.size := (BB.out.go hb3).now.1.lt; have BB := Lib.hid (((BB.out.go hb3).nat hn3).box (.slice a3 n3 c3) 26); clear hb3 hn3; have q0 := BB.out.now.2.2.2.1.cell; have q1 := BB.out.now.2.2.2.1.cell1; have q2 := BB.out.now.2.2.2.1.cell2)
      | (go_at_call 22; (with_reducible refine (BT.out _ BB.out.now.2.2.2.2.1).mono ?_); rintro e w4 ⟨a4, n4, c4, rfl, hn4, hb4⟩; have BB := Lib.hid (BB.out.go hb4); clear hb4)
      | (go_at_call 59; (with_reducible refine (PB.out _ _ _ _ hn4).mono ?_); rintro e w5 ⟨a5, n5, c5, rfl, hn5, hb5⟩; have hk5 : w3.heap.size < w5.heap.size := (BB.out.go hb5).now.1.lt; have BB := Lib.hid (((BB.out.go hb5).nat hn5).box (.slice a5 n5 c5) 26); clear hb5 hn5))
      have BB := Lib.hid BB.out.drew
      refine wp_region_noPanic ?_
      refine wp_region_held_drew (S := (fun y => (y.cell? ⟨w.heap.size, 0, none⟩ = some (.slice a n c) ∧ y.cell? ⟨w.heap.size, 1, none⟩ = some (.bool m) ∧ y.cell? ⟨w.heap.size, 2, none⟩ = some (.slice a2 n2 c2)) ∧ y.cell? ⟨w3.heap.size, 0, none⟩ = some (.slice a3 n3 c3) ∧ y.cell? ⟨w5.heap.size, 0, none⟩ = some (.slice a5 n5 c5))) (by kernel_rfl) ?_ (fun hH => ?_)
      · exact ⟨⟨BB.out.now.2.2.2.2.2.1.cell, BB.out.now.2.2.2.2.2.1.cell1, BB.out.now.2.2.2.2.2.1.cell2⟩, BB.out.now.2.2.1.cell, BB.out.now.1.cell⟩
      refine wpAnyH_take (i := 0) (oi := ⟨some 36, Op.load 30 (Operand.tmp 3), 30, _, _, none⟩) (v := ?v101) rfl (by kernel_rfl) (by kernel_rfl) (by kernel_rfl) (fun _ _ _ h => h) (Or.inl ⟨by rfl, ?hy101⟩) hH ?_
      case hy101 =>
        intro y hy
        (try dsimp only at hy)
        go_simp
        try with_reducible rfl
      try simp only [Act.put, List.setIfInBounds_toArray, List.set_cons_zero, List.set_cons_succ]
      refine wpAnyH_take (i := 8) (oi := ⟨some 44, Op.load 26 (Operand.tmp 8), 26, _, _, none⟩) (v := ?v102) rfl (by kernel_rfl) (by kernel_rfl) (by kernel_rfl) (fun _ _ _ h => h) (Or.inl ⟨by rfl, ?hy102⟩) hH ?_
      case hy102 =>
        intro y hy
        (try dsimp only at hy)
        go_simp
        try with_reducible rfl
      try simp only [Act.put, List.setIfInBounds_toArray, List.set_cons_zero, List.set_cons_succ]
      refine wpAnyH_take (i := 9) (oi := ⟨some 45, Op.load 26 (Operand.tmp 10), 26, _, _, none⟩) (v := ?v103) rfl (by kernel_rfl) (by kernel_rfl) (by kernel_rfl) (fun _ _ _ h => h) (Or.inl ⟨by rfl, ?hy103⟩) hH ?_
      case hy103 =>
        intro y hy
        (try dsimp only at hy)
        go_simp
        try with_reducible rfl
      try simp only [Act.put, List.setIfInBounds_toArray, List.set_cons_zero, List.set_cons_succ]
      refine wpAnyH_ready (rs := [1]) (by kernel_rfl) (by simp) ?_
      refine AllReadyH.cons (o := ⟨some 37, Op.call { callee := Callee.value (Operand.func 11), args := #[Operand.tmp 36], argTypes := #[30] }, 3, _, _, none⟩) rfl (fun K hK => ?_) AllReadyH.nil
      go_simp
      (first
          | (go_at_call 11; (with_reducible refine (SG.out _ BB.out.now.2.2.2.2.2.2.1).mono ?_); rintro e w6 ⟨rfl, hb6⟩; have BB := Lib.hid (BB.out.go hb6))
          | (go_at_call 46; (with_reducible refine (FR.out _ _ _ _ _ _ _ _ BB.out.now.2.2.2.1 BB.out.now.2.1).mono ?_); rintro e w7 ⟨a7, n7, c7, m7, a8, n8, c8, rfl, hr7, hb7⟩; have BB := Lib.hid (BB.out.go hb7); have hs := BB.out.now.2.2.2.2.1; have r0 := hs.cell; have r1 := hs.cell1; have r2 := hs.cell2; have g0 := hs.free; have g1 := hs.free1; have g2 := hs.free2; have HS := hs.set (.slice a7 n7 c7) (.bool m7) (.slice a8 n8 c8); have z0 := BB.out.now.2.2.2.2.2.1.set3o he (.slice a7 n7 c7) (.bool m7) (.slice a8 n8 c8); have z1 := BB.out.now.2.2.1.set3o (k := w.heap.size + 1) (by omega) (.slice a7 n7 c7) (.bool m7) (.slice a8 n8 c8); have z2 := BB.out.now.1.set3o (k := w.heap.size + 1) (by omega) (.slice a7 n7 c7) (.bool m7) (.slice a8 n8 c8); have HE := Lib.hid (RatTold3.done true BB.out.below (by omega) hs hr7)))
      refine hK.out _ _ ?_ (fun hH => ?_)
      · exact (by first | exact ⟨⟨z0.cell, z0.cell1, z0.cell2⟩, z1.cell, z2.cell⟩ | exact ⟨⟨BB.out.now.2.2.2.2.2.1.cell, BB.out.now.2.2.2.2.2.1.cell1, BB.out.now.2.2.2.2.2.1.cell2⟩, BB.out.now.2.2.1.cell, BB.out.now.1.cell⟩)
      clear hK K
      try simp only [Act.put, List.setIfInBounds_toArray, List.set_cons_zero, List.set_cons_succ]
      refine wpAnyH_take (i := 2) (oi := ⟨some 38, Op.binOp BinOp.lss 3 (Operand.tmp 37) (Operand.const (Value.int IntKind.i64 0)) 3, 4, _, _, none⟩) (v := ?v104) rfl (by kernel_rfl) (by kernel_rfl) (by kernel_rfl) (fun _ _ _ h => h) (Or.inl ⟨by rfl, ?hy104⟩) hH ?_
      case hy104 =>
        intro y hy
        (try dsimp only at hy)
        go_simp
        try with_reducible rfl
      try simp only [Act.put, List.setIfInBounds_toArray, List.set_cons_zero, List.set_cons_succ]
      refine wpAnyH_take (i := 3) (oi := ⟨some 39, Op.move (Operand.tmp 38), 4, _, _, none⟩) (v := ?v105) rfl (by kernel_rfl) (by kernel_rfl) (by kernel_rfl) (fun _ _ _ h => h) (Or.inl ⟨by rfl, ?hy105⟩) hH ?_
      case hy105 =>
        intro y hy
        (try dsimp only at hy)
        go_simp
        try with_reducible rfl
      try simp only [Act.put, List.setIfInBounds_toArray, List.set_cons_zero, List.set_cons_succ]
      refine wpAnyH_take (i := 4) (oi := ⟨some 40, Op.move (Operand.tmp 1), 3, _, _, some (3, true)⟩) (v := undef) rfl (by kernel_rfl) (by kernel_rfl) (by kernel_rfl) (fun _ _ _ h => h) (Or.inr ⟨by rfl, rfl⟩) hH ?_
      try simp only [Act.put, List.setIfInBounds_toArray, List.set_cons_zero, List.set_cons_succ]
      refine wpAnyH_take (i := 5) (oi := ⟨some 41, Op.binOp BinOp.rem 3 (Operand.tmp 40) (Operand.const (Value.int IntKind.i64 2)) 3, 3, _, _, some (3, true)⟩) (v := undef) rfl (by kernel_rfl) (by kernel_rfl) (by kernel_rfl) (fun _ _ _ h => h) (Or.inr ⟨by rfl, rfl⟩) hH ?_
      try simp only [Act.put, List.setIfInBounds_toArray, List.set_cons_zero, List.set_cons_succ]
      refine wpAnyH_take (i := 6) (oi := ⟨some 42, Op.binOp BinOp.eql 3 (Operand.tmp 41) (Operand.const (Value.int IntKind.i64 1)) 3, 4, _, _, some (3, true)⟩) (v := undef) rfl (by kernel_rfl) (by kernel_rfl) (by kernel_rfl) (fun _ _ _ h => h) (Or.inr ⟨by rfl, rfl⟩) hH ?_
      try simp only [Act.put, List.setIfInBounds_toArray, List.set_cons_zero, List.set_cons_succ]
      refine wpAnyH_take (i := 7) (oi := ⟨some 43, Op.pick (Operand.tmp 39) (Operand.tmp 42) (Operand.const (Value.bool false)), 4, _, _, none⟩) (v := ?v106) rfl (by kernel_rfl) (by kernel_rfl) (by kernel_rfl) (fun _ _ _ h => h) (Or.inl ⟨by rfl, ?hy106⟩) hH ?_
      case hy106 =>
        intro y hy
        (try dsimp only at hy)
        go_simp
        try with_reducible rfl
      try simp only [Act.put, List.setIfInBounds_toArray, List.set_cons_zero, List.set_cons_succ]
      refine wpAnyH_ready (rs := [10]) (by kernel_rfl) (by simp) ?_
      refine AllReadyH.cons (o := ⟨some 46, Op.call { callee := Callee.value (Operand.func 46), args := #[Operand.tmp 43, Operand.tmp 44, Operand.tmp 45], argTypes := #[4, 26, 26] }, 30, _, _, none⟩) rfl (fun K hK => ?_) AllReadyH.nil
      go_simp
      (first
          | (go_at_call 11; (with_reducible refine (SG.out _ BB.out.now.2.2.2.2.2.2.1).mono ?_); rintro e w6 ⟨rfl, hb6⟩; have BB := Lib.hid (BB.out.go hb6))
          | (go_at_call 46; (with_reducible refine (FR.out _ _ _ _ _ _ _ _ BB.out.now.2.2.2.1 BB.out.now.2.1).mono ?_); rintro e w7 ⟨a7, n7, c7, m7, a8, n8, c8, rfl, hr7, hb7⟩; have BB := Lib.hid (BB.out.go hb7); have hs := BB.out.now.2.2.2.2.1; have r0 := hs.cell; have r1 := hs.cell1; have r2 := hs.cell2; have g0 := hs.free; have g1 := hs.free1; have g2 := hs.free2; have HS := hs.set (.slice a7 n7 c7) (.bool m7) (.slice a8 n8 c8); have z0 := BB.out.now.2.2.2.2.2.1.set3o he (.slice a7 n7 c7) (.bool m7) (.slice a8 n8 c8); have z1 := BB.out.now.2.2.1.set3o (k := w.heap.size + 1) (by omega) (.slice a7 n7 c7) (.bool m7) (.slice a8 n8 c8); have z2 := BB.out.now.1.set3o (k := w.heap.size + 1) (by omega) (.slice a7 n7 c7) (.bool m7) (.slice a8 n8 c8); have HE := Lib.hid (RatTold3.done true BB.out.below (by omega) hs hr7)))
      refine hK.out _ _ ?_ (fun hH => ?_)
      · exact (by first | exact ⟨⟨z0.cell, z0.cell1, z0.cell2⟩, z1.cell, z2.cell⟩ | exact ⟨⟨BB.out.now.2.2.2.2.2.1.cell, BB.out.now.2.2.2.2.2.1.cell1, BB.out.now.2.2.2.2.2.1.cell2⟩, BB.out.now.2.2.1.cell, BB.out.now.1.cell⟩)
      clear hK K
      try simp only [Act.put, List.setIfInBounds_toArray, List.set_cons_zero, List.set_cons_succ]
      refine wpAnyH_ready (rs := [11]) (by kernel_rfl) (by simp) ?_
      refine AllReadyH.cons (o := ⟨none, Op.store 30 (Operand.tmp 6) (Operand.tmp 46), 0, _, _, none⟩) rfl (fun K hK => ?_) AllReadyH.nil
      go_simp
      refine hK.out _ _ ?_ (fun hH => ?_)
      · exact (by first | exact ⟨⟨z0.cell, z0.cell1, z0.cell2⟩, z1.cell, z2.cell⟩ | exact ⟨⟨BB.out.now.2.2.2.2.2.1.cell, BB.out.now.2.2.2.2.2.1.cell1, BB.out.now.2.2.2.2.2.1.cell2⟩, BB.out.now.2.2.1.cell, BB.out.now.1.cell⟩)
      clear hK K
      try simp only [Act.put, List.setIfInBounds_toArray, List.set_cons_zero, List.set_cons_succ]
      refine wpAnyH_take (i := 12) (oi := ⟨some 7, Op.assign (Operand.const (Value.bool true)), 4, _, _, none⟩) (v := ?v107) rfl (by kernel_rfl) (by kernel_rfl) (by kernel_rfl) (fun _ _ _ h => h) (Or.inl ⟨by rfl, ?hy107⟩) hH ?_
      case hy107 =>
        intro y hy
        (try dsimp only at hy)
        go_simp
        try with_reducible rfl
      try simp only [Act.put, List.setIfInBounds_toArray, List.set_cons_zero, List.set_cons_succ]
      refine wpAnyH_done (by kernel_rfl) ?_ _
      refine NoPanic.normal ?_
      go_wp2
      exact bodyPost_ret (v := .tuple #[.agg #[.slice a7 n7 c7, .bool m7, .slice a8 n8 c8], .bool true]) (by simp [results, Tryz.results40, go_sem, HS]) rfl HE.out

theorem raised_any (a : Option Addr) (n c : Nat) (m : Bool) (a2 : Option Addr) (n2 c2 : Nat) (P : Int) (Q : Nat) (N most : Int) (w : World) (h : RatAt w a n c m a2 n2 c2 P Q) (hQ : 0 < Q) (hl : dl P.natAbs ≤ 50) (hl2 : dl Q ≤ 50)
    (hN0 : 0 ≤ N) (hN : N ≤ 9223372036854775807) (hm : most ≤ 12) (hm0 : -9223372036854775808 ≤ most) :
    Calls Tryz.prog 40 #[.agg #[.slice a n c, .bool m, .slice a2 n2 c2], .int .i64 N, .int .i64 most] w fun e w' => RatTold3 w w' e (raP P Q N most) (raQ P Q N most) (raO P Q N most) := by
  unfold raP raQ
  cases ho : raO P Q N most with
  | false => exact raised_no a n c m a2 n2 c2 P Q N most w h hQ hl hl2 hN hm hm0 ho
  | true => exact raised_yes a n c m a2 n2 c2 P Q N most w h hQ hl hl2 hN0 hN hm hm0 ho

end Go.Proofs.YthklcdcikmninaaGreatDoor
