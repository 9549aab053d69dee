/-
  Package ratio: Pow, by contract.
-/
import Derived.Test.YthklcdcikmninaaGreatDoorRa12
namespace Go.Proofs.YthklcdcikmninaaGreatDoor
open Go.RowKit
attribute [local go_sem ↓] Go.wp_at_zero Go.wp_at_succ

/-- 1 by a number. -/
def inP (P : Int) (Q : Nat) : Int := nwP (1 * (Q : Int)) (P * ((1 : Nat) : Int))
def inQ (P : Int) (Q : Nat) : Nat := nwQ (1 * (Q : Int)) (P * ((1 : Nat) : Int))
theorem inP_abs (P : Int) (Q : Nat) : (inP P Q).natAbs ≤ Q := by
  refine Nat.le_trans (loP_absle _ _) ?_
  rw [upZ_abs, Int.one_mul, Int.natAbs_natCast]; exact Nat.le_refl _
theorem inQ_le (P : Int) (Q : Nat) : inQ P Q ≤ P.natAbs := by
  refine Nat.le_trans (loQ_le _ _) ?_
  rw [show ((1 : Nat) : Int) = 1 from rfl, Int.mul_one]; exact Nat.le_refl _
theorem inQ_pos {P : Int} (Q : Nat) (h : P ≠ 0) : 0 < inQ P Q := nwQ_pos _ (Int.mul_ne_zero h (by omega))
/-- The square. -/
def sqP (P : Int) (Q : Nat) : Int := tmP P Q P Q
def sqQ (P : Int) (Q : Nat) : Nat := tmQ P Q P Q

/-- The power. -/
def poP (P : Int) (Q : Nat) (n most : Int) : Int := if 0 ≤ n then raP P Q n most else if P = 0 then 0 else if n = -9223372036854775808 then raP (sqP (inP P Q) (inQ P Q)) (sqQ (inP P Q) (inQ P Q)) 4611686018427387904 most else raP (inP P Q) (inQ P Q) (-n) most
def poQ (P : Int) (Q : Nat) (n most : Int) : Nat := if 0 ≤ n then raQ P Q n most else if P = 0 then 1 else if n = -9223372036854775808 then raQ (sqP (inP P Q) (inQ P Q)) (sqQ (inP P Q) (inQ P Q)) 4611686018427387904 most else raQ (inP P Q) (inQ P Q) (-n) most
def poO (P : Int) (Q : Nat) (n most : Int) : Bool := if 0 ≤ n then raO P Q n most else if P = 0 then false else if n = -9223372036854775808 then raO (sqP (inP P Q) (inQ P Q)) (sqQ (inP P Q) (inQ P Q)) 4611686018427387904 most else raO (inP P Q) (inQ P Q) (-n) most

set_option maxHeartbeats 6400000 in
set_option maxRecDepth 100000 in
theorem pow_up (a : Option Addr) (n c : Nat) (m : Bool) (a2 : Option Addr) (n2 c2 : Nat) (P : Int) (Q : Nat) (N most : Int) (w : World) (h : RatAt w a n c m a2 n2 c2 P Q) (hQ : 0 < Q) (hl : dl P.natAbs ≤ 20) (hl2 : dl Q ≤ 20)
    (hN0 : 0 ≤ N) (hN : N ≤ 9223372036854775807) (hm : most ≤ 12) (hm0 : -9223372036854775808 ≤ most) :
    Calls Tryz.prog 17 #[.agg #[.slice a n c, .bool m, .slice a2 n2 c2], .int .i64 N, .int .i64 most] w fun e w' => RatTold3 w w' e (raP P Q N most) (raQ P Q N most) (raO P Q N most) := by
  have BB := Lib.hid ((Bag.start w).rat h |>.box3 (.slice a n c) (.bool m) (.slice a2 n2 c2) 30 |>.box3 (.slice none 0 0) (.bool false) (.slice none 0 0) 30)
  simp only [World.size_alloc] at BB
  have RA := Lib.hid (fun wz (h : RatAt wz a n c m a2 n2 c2 P Q) => raised_any a n c m a2 n2 c2 P Q N most wz h hQ (by omega) (by omega) hN0 hN hm hm0)
  unfold RatTold3 at RA
  generalize raP P Q N most = Z1 at *
  generalize raQ P Q N most = Z2 at *
  generalize raO P Q N most = z3 at *
  have q0 := BB.out.now.2.1.cell
  have q1 := BB.out.now.2.1.cell1
  have q2 := BB.out.now.2.1.cell2
  clear h hQ hl hl2 hm hm0
  go_enter Tryz.func17, Tryz.ntmps17
  go_wp2_with fail
  go_at_call 40
  (with_reducible refine (RA.out _ BB.out.now.2.2.1).mono ?_)
  rintro e w2 ⟨a3, n3, c3, m3, a4, n4, c4, rfl, hr, hb2⟩
  have BB := Lib.hid (BB.out.go hb2)
  have hs := BB.out.now.1
  have r0 := hs.cell
  have r1 := hs.cell1
  have r2 := hs.cell2
  have g0 := hs.free
  have g1 := hs.free1
  have g2 := hs.free2
  have HS := hs.set (.slice a3 n3 c3) (.bool m3) (.slice a4 n4 c4)
  have HE := Lib.hid (RatTold3.done z3 BB.out.below (by omega) hs hr)
  clear hs hr
  go_wp2
  exact bodyPost_ret (v := .tuple #[.agg #[.slice a3 n3 c3, .bool m3, .slice a4 n4 c4], .bool z3]) (by simp [results, Tryz.results17, go_sem, HS]) rfl HE.out


set_option linter.unusedSimpArgs false in
set_option maxHeartbeats 6400000 in
set_option maxRecDepth 100000 in
theorem pow_nought (a : Option Addr) (n c : Nat) (m : Bool) (a2 : Option Addr) (n2 c2 : Nat) (Q : Nat) (N most : Int) (w : World) (h : RatAt w a n c m a2 n2 c2 0 Q) (hQ : 0 < Q) (hl2 : dl Q ≤ 20) (hN0 : ¬ 0 ≤ N) : Calls Tryz.prog 17 #[.agg #[.slice a n c, .bool m, .slice a2 n2 c2], .int .i64 N, .int .i64 most] w fun e w' => RatTold3 w w' e 0 1 false := by
  have BB := Lib.hid ((Bag.start w).rat h |>.box3 (.slice a n c) (.bool m) (.slice a2 n2 c2) 30 |>.box3 (.slice none 0 0) (.bool false) (.slice none 0 0) 30)
  simp only [World.size_alloc] at BB
  have FR := Lib.hid (fun wz => ratFrom_any 1 wz (by omega))
  have hQK : Q < 4294967296 ^ 4 := Nat.lt_of_lt_of_le (dl_lt Q) (Nat.le_trans (Nat.pow_le_pow_right (by omega) hl2) (by decide))
  have BY := Lib.hid (fun a' n' c' m' a2' n2' c2' wz (h : RatAt wz a' n' c' m' a2' n2' c2' 1 1) (g : RatAt wz a n c m a2 n2 c2 0 Q) => by_zero a' n' c' m' a2' n2' c2' 1 1 a n c m a2 n2 c2 Q wz h g (by omega) hQ 4 (by omega) (by decide) (by decide) hQK)
  obtain ⟨U1, hU1⟩ : ∃ U1 : Int, U1 = 0 := ⟨_, rfl⟩
  obtain ⟨U2, hU2⟩ : ∃ U2 : Nat, U2 = 1 := ⟨_, rfl⟩
  have BY : Hid (∀ a' n' c' m' a2' n2' c2' wz, RatAt wz a' n' c' m' a2' n2' c2' 1 1 → RatAt wz a n c m a2 n2 c2 0 Q → Calls Tryz.prog 7 #[.agg #[.slice a' n' c', .bool m', .slice a2' n2' c2'], .agg #[.slice a n c, .bool m, .slice a2 n2 c2]] wz fun e w' => RatTold3 wz w' e U1 U2 false) := fun a' n' c' m' a2' n2' c2' wz h g => by subst hU1; subst hU2; exact BY.out a' n' c' m' a2' n2' c2' wz h g
  clear h hQ hl2 hQK hU1 hU2
  unfold RatTold3 at BY
  have q0 := BB.out.now.2.1.cell
  have q1 := BB.out.now.2.1.cell1
  have q2 := BB.out.now.2.1.cell2
  go_enter Tryz.func17, Tryz.ntmps17
  have HP : Hid (∀ (y : World) (k : Nat), Slot3 y k (.slice none 0 0) (.bool false) (.slice none 0 0) → w.heap.size + 1 < k → Bag w (fun y => Slot3 y (w.heap.size + 1) (.slice none 0 0) (.bool false) (.slice none 0 0) ∧ Slot3 y w.heap.size (.slice a n c) (.bool m) (.slice a2 n2 c2) ∧ RatAt y a n c m a2 n2 c2 0 Q ∧ True) y → ∀ (a9 : Option Addr) (n9 c9 : Nat) (m9 : Bool) (a10 : Option Addr) (n10 c10 : Nat), Bag w (fun y => Slot3 y (w.heap.size + 1) (.slice none 0 0) (.bool false) (.slice none 0 0) ∧ Slot3 y w.heap.size (.slice a n c) (.bool m) (.slice a2 n2 c2) ∧ RatAt y a n c m a2 n2 c2 0 Q ∧ True) (((y.setCell ⟨k, 0, none⟩ (.slice a9 n9 c9)).setCell ⟨k, 1, none⟩ (.bool m9)).setCell ⟨k, 2, none⟩ (.slice a10 n10 c10))) := by
    intro y k s hk B a9 n9 c9 m9 a10 n10 c10
    have q := B.now
    exact ⟨((B.below.setCell (p := ⟨k, 0, none⟩) (show w.heap.size ≤ k by omega) _).setCell (p := ⟨k, 1, none⟩) (show w.heap.size ≤ k by omega) _).setCell (p := ⟨k, 2, none⟩) (show w.heap.size ≤ k by omega) _, B.stay, q.1.set3o (by omega) _ _ _, q.2.1.set3o (by omega) _ _ _, q.2.2.1.set3 s _ _ _, trivial⟩
  have HC : Hid (∀ y, (fun y => Slot3 y (w.heap.size + 1) (.slice none 0 0) (.bool false) (.slice none 0 0) ∧ Slot3 y w.heap.size (.slice a n c) (.bool m) (.slice a2 n2 c2) ∧ RatAt y a n c m a2 n2 c2 0 Q ∧ True) y → (y.cell? ⟨w.heap.size, 0, none⟩ = some (.slice a n c) ∧ y.cell? ⟨w.heap.size, 1, none⟩ = some (.bool m) ∧ y.cell? ⟨w.heap.size, 2, none⟩ = some (.slice a2 n2 c2))) := fun y h => ⟨h.2.1.cell, h.2.1.cell1, h.2.1.cell2⟩
  go_wp2_with fail
  refine wp_capture (fun R hR => ?_)
  have TL : ∀ (k8 : Nat) (a3 : Option Addr) (n3 c3 : Nat) (m3 : Bool) (a4 : Option Addr) (n4 c4 : Nat) (a5 : Option Addr) (n5 c5 : Nat) (m5 : Bool) (a6 : Option Addr) (n6 c6 : Nat) (wy : World), Bag w (fun y => Slot3 y (w.heap.size + 1) (.slice none 0 0) (.bool false) (.slice none 0 0) ∧ Slot3 y w.heap.size (.slice a n c) (.bool m) (.slice a2 n2 c2) ∧ RatAt y a n c m a2 n2 c2 0 Q ∧ True) wy → Slot3 wy k8 (.slice a5 n5 c5) (.bool m5) (.slice a6 n6 c6) → RatAt wy a5 n5 c5 m5 a6 n6 c6 U1 U2 → w.heap.size + 1 < k8 → R .normal { tmps := #[Value.agg #[Value.slice a n c, Value.bool m, Value.slice a2 n2 c2], Value.int IntKind.i64 N, Value.int IntKind.i64 most, Value.pointer (some { block := w.heap.size, off := 0 }), undef, undef, Value.pointer (some { block := w.heap.size + 1, off := 0 }), Value.bool false, Value.pointer (some { block := k8, off := 0 }), Value.bool false, Value.int IntKind.i64 N, Value.bool false, undef, undef, undef, undef, undef, undef, Value.tuple #[Value.agg #[Value.slice a5 n5 c5, Value.bool m5, Value.slice a6 n6 c6], Value.bool false], Value.agg #[Value.slice a3 n3 c3, Value.bool m3, Value.slice a4 n4 c4], Value.agg #[Value.slice a n c, Value.bool m, Value.slice a2 n2 c2], Value.tuple #[Value.agg #[Value.slice a5 n5 c5, Value.bool m5, Value.slice a6 n6 c6], Value.bool false], Value.agg #[Value.slice a5 n5 c5, Value.bool m5, Value.slice a6 n6 c6], Value.bool false, undef, undef, undef, undef, undef, undef, undef, undef, undef, undef, undef, undef, undef, undef, undef, undef, undef, undef, undef, undef, undef, undef, undef, undef, undef], defers := [] } wy := by
    intro k8 a3 n3 c3 m3 a4 n4 c4 a5 n5 c5 m5 a6 n6 c6 wy B1 sA hr5 hk8
    rw [hR]
    have BB := Lib.hid (B1.slot3 sA)
    clear B1 sA
    have hs := BB.out.now.2.1
    have r0 := hs.cell
    have r1 := hs.cell1
    have r2 := hs.cell2
    have g0 := hs.free
    have g1 := hs.free1
    have g2 := hs.free2
    have HS := hs.set (.slice none 0 0) (.bool false) (.slice none 0 0)
    have HE := Lib.hid (RatTold3.done false BB.out.below (by omega) hs (RatAt.zero _))
    clear hs
    go_wp2
    exact bodyPost_ret (v := .tuple #[.agg #[.slice none 0 0, .bool false, .slice none 0 0], .bool false]) (by simp [results, Tryz.results17, go_sem, HS]) rfl HE.out
  refine wp_region_noPanic ?_
  refine wp_region_held_drew (S := (fun y => (y.cell? ⟨w.heap.size, 0, none⟩ = some (.slice a n c) ∧ y.cell? ⟨w.heap.size, 1, none⟩ = some (.bool m) ∧ y.cell? ⟨w.heap.size, 2, none⟩ = some (.slice a2 n2 c2)) ∧ Bag w (fun y => Slot3 y (w.heap.size + 1) (.slice none 0 0) (.bool false) (.slice none 0 0) ∧ Slot3 y w.heap.size (.slice a n c) (.bool m) (.slice a2 n2 c2) ∧ RatAt y a n c m a2 n2 c2 0 Q ∧ True) y)) (by kernel_rfl) ?_ (fun _ => ?_)
  · exact (have B9 := BB.out.drew; ⟨HC.out _ B9.now, B9⟩)
  have hH : (((w.alloc (.cells #[.slice a n c, .bool m, .slice a2 n2 c2] 30)).alloc (.cells #[.slice none 0 0, .bool false, .slice none 0 0] 30)).drew.cell? ⟨w.heap.size, 0, none⟩ = some (.slice a n c) ∧ ((w.alloc (.cells #[.slice a n c, .bool m, .slice a2 n2 c2] 30)).alloc (.cells #[.slice none 0 0, .bool false, .slice none 0 0] 30)).drew.cell? ⟨w.heap.size, 1, none⟩ = some (.bool m) ∧ ((w.alloc (.cells #[.slice a n c, .bool m, .slice a2 n2 c2] 30)).alloc (.cells #[.slice none 0 0, .bool false, .slice none 0 0] 30)).drew.cell? ⟨w.heap.size, 2, none⟩ = some (.slice a2 n2 c2)) ∧ Bag w (fun y => Slot3 y (w.heap.size + 1) (.slice none 0 0) (.bool false) (.slice none 0 0) ∧ Slot3 y w.heap.size (.slice a n c) (.bool m) (.slice a2 n2 c2) ∧ RatAt y a n c m a2 n2 c2 0 Q ∧ True) ((w.alloc (.cells #[.slice a n c, .bool m, .slice a2 n2 c2] 30)).alloc (.cells #[.slice none 0 0, .bool false, .slice none 0 0] 30)).drew := (have B9 := BB.out.drew; ⟨HC.out _ B9.now, B9⟩)
  generalize hw1 : ((w.alloc (.cells #[.slice a n c, .bool m, .slice a2 n2 c2] 30)).alloc (.cells #[.slice none 0 0, .bool false, .slice none 0 0] 30)).drew = w1 at *
  refine wpAnyH_take (i := 1) (oi := ⟨some 20, Op.load 30 (Operand.tmp 3), 30, _, _, none⟩) (v := ?v1) rfl (by kernel_rfl) (by kernel_rfl) (by kernel_rfl) (fun _ _ _ h => h) (Or.inl ⟨by rfl, ?hy1⟩) hH ?_
  case hy1 =>
    intro y hy
    (try dsimp only at hy)
    go_simp
    try with_reducible rfl
  try simp only [Act.put, List.setIfInBounds_toArray, List.set_cons_zero, List.set_cons_succ]
  refine wpAnyH_ready (rs := [0, 6]) (by kernel_rfl) (by simp) ?_
  refine AllReadyH.cons (o := ⟨some 19, Op.call { callee := Callee.value (Operand.func 18), args := #[Operand.const (Value.int IntKind.i64 1)], argTypes := #[3] }, 30, _, _, none⟩) rfl (fun K hK => ?_) ?_
  · go_simp
    (go_at_call 18; (with_reducible refine (FR.out _).mono ?_); rintro e wy0 ⟨a3, n3, c3, m3, a4, n4, c4, rfl, hr3, hbz⟩)
    refine hK.out _ _ ?_ (fun hH => ?_)
    · exact (have B9 := Bag.go hH.2 hbz; ⟨HC.out _ B9.now, B9⟩)
    clear hK K
    try simp only [Act.put, List.setIfInBounds_toArray, List.set_cons_zero, List.set_cons_succ]
    refine wpAnyH_ready (rs := [2, 6]) (by kernel_rfl) (by simp) ?_
    refine AllReadyH.cons (o := ⟨some 21, Op.call { callee := Callee.value (Operand.func 7), args := #[Operand.tmp 19, Operand.tmp 20], argTypes := #[30, 30] }, 31, _, _, none⟩) rfl (fun K hK => ?_) ?_
    · go_simp
      (go_at_call 7; (with_reducible refine (BY.out _ _ _ _ _ _ _ _ (RatAt.below hr3 (by exact Below.refl _ _)) hH.2.now.2.2.1).mono ?_); rintro e wy2 ⟨a5, n5, c5, m5, a6, n6, c6, rfl, hr5, hbz⟩)
      refine hK.out _ _ ?_ (fun hH => ?_)
      · exact (have B9 := Bag.go hH.2 hbz; ⟨HC.out _ B9.now, B9⟩)
      clear hK K
      try simp only [Act.put, List.setIfInBounds_toArray, List.set_cons_zero, List.set_cons_succ]
      refine wpAnyH_take (i := 3) (oi := ⟨some 18, Op.move (Operand.tmp 21), 31, _, _, none⟩) (v := ?v2) rfl (by kernel_rfl) (by kernel_rfl) (by kernel_rfl) (fun _ _ _ h => h) (Or.inl ⟨by rfl, ?hy2⟩) hH ?_
      case hy2 =>
        intro y hy
        (try dsimp only at hy)
        go_simp
        try with_reducible rfl
      try simp only [Act.put, List.setIfInBounds_toArray, List.set_cons_zero, List.set_cons_succ]
      refine wpAnyH_take (i := 4) (oi := ⟨some 22, Op.extract (Operand.tmp 18) 0, 30, _, _, none⟩) (v := ?v3) rfl (by kernel_rfl) (by kernel_rfl) (by kernel_rfl) (fun _ _ _ h => h) (Or.inl ⟨by rfl, ?hy3⟩) hH ?_
      case hy3 =>
        intro y hy
        (try dsimp only at hy)
        go_simp
        try with_reducible rfl
      try simp only [Act.put, List.setIfInBounds_toArray, List.set_cons_zero, List.set_cons_succ]
      refine wpAnyH_take (i := 5) (oi := ⟨some 23, Op.extract (Operand.tmp 18) 1, 4, _, _, none⟩) (v := ?v4) rfl (by kernel_rfl) (by kernel_rfl) (by kernel_rfl) (fun _ _ _ h => h) (Or.inl ⟨by rfl, ?hy4⟩) hH ?_
      case hy4 =>
        intro y hy
        (try dsimp only at hy)
        go_simp
        try with_reducible rfl
      try simp only [Act.put, List.setIfInBounds_toArray, List.set_cons_zero, List.set_cons_succ]
      refine wpAnyH_ready (rs := [6]) (by kernel_rfl) (by simp) ?_
      refine AllReadyH.cons (o := ⟨some 8, Op.alloc 30, 0, _, _, none⟩) rfl (fun K hK => ?_) AllReadyH.nil
      have hkA := hH.2.now.1.lt
      have sA := Slot3.new wy2 (.slice none 0 0) (.bool false) (.slice none 0 0) 30
      go_simp
      refine hK.out _ _ ?_ (fun hH => ?_)
      · exact (have B9 := Bag.alloc hH.2 _; ⟨HC.out _ B9.now, B9⟩)
      clear hK K
      try simp only [Act.put, List.setIfInBounds_toArray, List.set_cons_zero, List.set_cons_succ]
      refine wpAnyH_ready (rs := [7]) (by kernel_rfl) (by simp) ?_
      refine AllReadyH.cons (o := ⟨none, Op.store 30 (Operand.tmp 8) (Operand.tmp 22), 0, _, _, none⟩) rfl (fun K hK => ?_) AllReadyH.nil
      have hr5 := hr5.below (show Below wy2.heap.size wy2 (World.alloc wy2 (.cells #[.slice none 0 0, .bool false, .slice none 0 0] 30)) from by refine Below.more ?_ _; exact Below.refl _ _)
      generalize hww : (World.alloc wy2 (.cells #[.slice none 0 0, .bool false, .slice none 0 0] 30)) = ww at *
      have l0 := sA.cell
      have l1 := sA.cell1
      have l2 := sA.cell2
      have f0 := sA.free
      have f1 := sA.free1
      have f2 := sA.free2
      have B9s := HP.out _ _ sA (by omega) hH.2 a5 n5 c5 m5 a6 n6 c6
      have hr5 := RatAt.set3 hr5 sA (.slice a5 n5 c5) (.bool m5) (.slice a6 n6 c6)
      have sA := (sA.set2 (.slice a5 n5 c5) (.bool m5)).set1 (.slice a6 n6 c6)
      go_simp
      refine hK.out _ _ ?_ (fun hH => ?_)
      · exact ⟨HC.out _ B9s.now, B9s⟩
      clear hK K
      try simp only [Act.put, List.setIfInBounds_toArray, List.set_cons_zero, List.set_cons_succ]
      refine wpAnyH_take (i := 8) (oi := ⟨some 9, Op.assign (Operand.tmp 23), 4, _, _, none⟩) (v := ?v5) rfl (by kernel_rfl) (by kernel_rfl) (by kernel_rfl) (fun _ _ _ h => h) (Or.inl ⟨by rfl, ?hy5⟩) hH ?_
      case hy5 =>
        intro y hy
        (try dsimp only at hy)
        go_simp
        try with_reducible rfl
      try simp only [Act.put, List.setIfInBounds_toArray, List.set_cons_zero, List.set_cons_succ]
      refine wpAnyH_done (by kernel_rfl) ?_ _
      refine NoPanic.normal ?_
      exact TL _ _ _ _ _ _ _ _ _ _ _ _ _ _ _ _ hH.2 sA hr5 (by omega)
    refine AllReadyH.cons (o := ⟨some 8, Op.alloc 30, 0, _, _, none⟩) rfl (fun K hK => ?_) ?_
    · have hkA := hH.2.now.1.lt
      have sA := Slot3.new wy0 (.slice none 0 0) (.bool false) (.slice none 0 0) 30
      go_simp
      refine hK.out _ _ ?_ (fun hH => ?_)
      · exact (have B9 := Bag.alloc hH.2 _; ⟨HC.out _ B9.now, B9⟩)
      clear hK K
      try simp only [Act.put, List.setIfInBounds_toArray, List.set_cons_zero, List.set_cons_succ]
      refine wpAnyH_ready (rs := [2]) (by kernel_rfl) (by simp) ?_
      refine AllReadyH.cons (o := ⟨some 21, Op.call { callee := Callee.value (Operand.func 7), args := #[Operand.tmp 19, Operand.tmp 20], argTypes := #[30, 30] }, 31, _, _, none⟩) rfl (fun K hK => ?_) AllReadyH.nil
      go_simp
      (go_at_call 7; (with_reducible refine (BY.out _ _ _ _ _ _ _ _ (RatAt.below hr3 (by refine Below.more ?_ _; exact Below.refl _ _)) hH.2.now.2.2.1).mono ?_); rintro e wy2 ⟨a5, n5, c5, m5, a6, n6, c6, rfl, hr5, hbz⟩); have sA := sA.below hbz
      refine hK.out _ _ ?_ (fun hH => ?_)
      · exact (have B9 := Bag.go hH.2 hbz; ⟨HC.out _ B9.now, B9⟩)
      clear hK K
      try simp only [Act.put, List.setIfInBounds_toArray, List.set_cons_zero, List.set_cons_succ]
      refine wpAnyH_take (i := 3) (oi := ⟨some 18, Op.move (Operand.tmp 21), 31, _, _, none⟩) (v := ?v6) rfl (by kernel_rfl) (by kernel_rfl) (by kernel_rfl) (fun _ _ _ h => h) (Or.inl ⟨by rfl, ?hy6⟩) hH ?_
      case hy6 =>
        intro y hy
        (try dsimp only at hy)
        go_simp
        try with_reducible rfl
      try simp only [Act.put, List.setIfInBounds_toArray, List.set_cons_zero, List.set_cons_succ]
      refine wpAnyH_take (i := 4) (oi := ⟨some 22, Op.extract (Operand.tmp 18) 0, 30, _, _, none⟩) (v := ?v7) rfl (by kernel_rfl) (by kernel_rfl) (by kernel_rfl) (fun _ _ _ h => h) (Or.inl ⟨by rfl, ?hy7⟩) hH ?_
      case hy7 =>
        intro y hy
        (try dsimp only at hy)
        go_simp
        try with_reducible rfl
      try simp only [Act.put, List.setIfInBounds_toArray, List.set_cons_zero, List.set_cons_succ]
      refine wpAnyH_take (i := 5) (oi := ⟨some 23, Op.extract (Operand.tmp 18) 1, 4, _, _, none⟩) (v := ?v8) rfl (by kernel_rfl) (by kernel_rfl) (by kernel_rfl) (fun _ _ _ h => h) (Or.inl ⟨by rfl, ?hy8⟩) hH ?_
      case hy8 =>
        intro y hy
        (try dsimp only at hy)
        go_simp
        try with_reducible rfl
      try simp only [Act.put, List.setIfInBounds_toArray, List.set_cons_zero, List.set_cons_succ]
      refine wpAnyH_ready (rs := [7]) (by kernel_rfl) (by simp) ?_
      refine AllReadyH.cons (o := ⟨none, Op.store 30 (Operand.tmp 8) (Operand.tmp 22), 0, _, _, none⟩) rfl (fun K hK => ?_) AllReadyH.nil
      have l0 := sA.cell
      have l1 := sA.cell1
      have l2 := sA.cell2
      have f0 := sA.free
      have f1 := sA.free1
      have f2 := sA.free2
      have B9s := HP.out _ _ sA (by omega) hH.2 a5 n5 c5 m5 a6 n6 c6
      have hr5 := RatAt.set3 hr5 sA (.slice a5 n5 c5) (.bool m5) (.slice a6 n6 c6)
      have sA := (sA.set2 (.slice a5 n5 c5) (.bool m5)).set1 (.slice a6 n6 c6)
      go_simp
      refine hK.out _ _ ?_ (fun hH => ?_)
      · exact ⟨HC.out _ B9s.now, B9s⟩
      clear hK K
      try simp only [Act.put, List.setIfInBounds_toArray, List.set_cons_zero, List.set_cons_succ]
      refine wpAnyH_take (i := 8) (oi := ⟨some 9, Op.assign (Operand.tmp 23), 4, _, _, none⟩) (v := ?v9) rfl (by kernel_rfl) (by kernel_rfl) (by kernel_rfl) (fun _ _ _ h => h) (Or.inl ⟨by rfl, ?hy9⟩) hH ?_
      case hy9 =>
        intro y hy
        (try dsimp only at hy)
        go_simp
        try with_reducible rfl
      try simp only [Act.put, List.setIfInBounds_toArray, List.set_cons_zero, List.set_cons_succ]
      refine wpAnyH_done (by kernel_rfl) ?_ _
      refine NoPanic.normal ?_
      exact TL _ _ _ _ _ _ _ _ _ _ _ _ _ _ _ _ hH.2 sA hr5 (by omega)
    exact AllReadyH.nil
  refine AllReadyH.cons (o := ⟨some 8, Op.alloc 30, 0, _, _, none⟩) rfl (fun K hK => ?_) ?_
  · have hkA := hH.2.now.1.lt
    have sA := Slot3.new w1 (.slice none 0 0) (.bool false) (.slice none 0 0) 30
    go_simp
    refine hK.out _ _ ?_ (fun hH => ?_)
    · exact (have B9 := Bag.alloc hH.2 _; ⟨HC.out _ B9.now, B9⟩)
    clear hK K
    try simp only [Act.put, List.setIfInBounds_toArray, List.set_cons_zero, List.set_cons_succ]
    refine wpAnyH_ready (rs := [0]) (by kernel_rfl) (by simp) ?_
    refine AllReadyH.cons (o := ⟨some 19, Op.call { callee := Callee.value (Operand.func 18), args := #[Operand.const (Value.int IntKind.i64 1)], argTypes := #[3] }, 30, _, _, none⟩) rfl (fun K hK => ?_) AllReadyH.nil
    go_simp
    (go_at_call 18; (with_reducible refine (FR.out _).mono ?_); rintro e wy0 ⟨a3, n3, c3, m3, a4, n4, c4, rfl, hr3, hbz⟩); have sA := sA.below hbz
    refine hK.out _ _ ?_ (fun hH => ?_)
    · exact (have B9 := Bag.go hH.2 hbz; ⟨HC.out _ B9.now, B9⟩)
    clear hK K
    try simp only [Act.put, List.setIfInBounds_toArray, List.set_cons_zero, List.set_cons_succ]
    refine wpAnyH_ready (rs := [2]) (by kernel_rfl) (by simp) ?_
    refine AllReadyH.cons (o := ⟨some 21, Op.call { callee := Callee.value (Operand.func 7), args := #[Operand.tmp 19, Operand.tmp 20], argTypes := #[30, 30] }, 31, _, _, none⟩) rfl (fun K hK => ?_) AllReadyH.nil
    go_simp
    (go_at_call 7; (with_reducible refine (BY.out _ _ _ _ _ _ _ _ (RatAt.below hr3 (by exact Below.refl _ _)) hH.2.now.2.2.1).mono ?_); rintro e wy2 ⟨a5, n5, c5, m5, a6, n6, c6, rfl, hr5, hbz⟩); have sA := sA.below hbz
    refine hK.out _ _ ?_ (fun hH => ?_)
    · exact (have B9 := Bag.go hH.2 hbz; ⟨HC.out _ B9.now, B9⟩)
    clear hK K
    try simp only [Act.put, List.setIfInBounds_toArray, List.set_cons_zero, List.set_cons_succ]
    refine wpAnyH_take (i := 3) (oi := ⟨some 18, Op.move (Operand.tmp 21), 31, _, _, none⟩) (v := ?v10) rfl (by kernel_rfl) (by kernel_rfl) (by kernel_rfl) (fun _ _ _ h => h) (Or.inl ⟨by rfl, ?hy10⟩) hH ?_
    case hy10 =>
      intro y hy
      (try dsimp only at hy)
      go_simp
      try with_reducible rfl
    try simp only [Act.put, List.setIfInBounds_toArray, List.set_cons_zero, List.set_cons_succ]
    refine wpAnyH_take (i := 4) (oi := ⟨some 22, Op.extract (Operand.tmp 18) 0, 30, _, _, none⟩) (v := ?v11) rfl (by kernel_rfl) (by kernel_rfl) (by kernel_rfl) (fun _ _ _ h => h) (Or.inl ⟨by rfl, ?hy11⟩) hH ?_
    case hy11 =>
      intro y hy
      (try dsimp only at hy)
      go_simp
      try with_reducible rfl
    try simp only [Act.put, List.setIfInBounds_toArray, List.set_cons_zero, List.set_cons_succ]
    refine wpAnyH_take (i := 5) (oi := ⟨some 23, Op.extract (Operand.tmp 18) 1, 4, _, _, none⟩) (v := ?v12) rfl (by kernel_rfl) (by kernel_rfl) (by kernel_rfl) (fun _ _ _ h => h) (Or.inl ⟨by rfl, ?hy12⟩) hH ?_
    case hy12 =>
      intro y hy
      (try dsimp only at hy)
      go_simp
      try with_reducible rfl
    try simp only [Act.put, List.setIfInBounds_toArray, List.set_cons_zero, List.set_cons_succ]
    refine wpAnyH_ready (rs := [7]) (by kernel_rfl) (by simp) ?_
    refine AllReadyH.cons (o := ⟨none, Op.store 30 (Operand.tmp 8) (Operand.tmp 22), 0, _, _, none⟩) rfl (fun K hK => ?_) AllReadyH.nil
    have l0 := sA.cell
    have l1 := sA.cell1
    have l2 := sA.cell2
    have f0 := sA.free
    have f1 := sA.free1
    have f2 := sA.free2
    have B9s := HP.out _ _ sA (by omega) hH.2 a5 n5 c5 m5 a6 n6 c6
    have hr5 := RatAt.set3 hr5 sA (.slice a5 n5 c5) (.bool m5) (.slice a6 n6 c6)
    have sA := (sA.set2 (.slice a5 n5 c5) (.bool m5)).set1 (.slice a6 n6 c6)
    go_simp
    refine hK.out _ _ ?_ (fun hH => ?_)
    · exact ⟨HC.out _ B9s.now, B9s⟩
    clear hK K
    try simp only [Act.put, List.setIfInBounds_toArray, List.set_cons_zero, List.set_cons_succ]
    refine wpAnyH_take (i := 8) (oi := ⟨some 9, Op.assign (Operand.tmp 23), 4, _, _, none⟩) (v := ?v13) rfl (by kernel_rfl) (by kernel_rfl) (by kernel_rfl) (fun _ _ _ h => h) (Or.inl ⟨by rfl, ?hy13⟩) hH ?_
    case hy13 =>
      intro y hy
      (try dsimp only at hy)
      go_simp
      try with_reducible rfl
    try simp only [Act.put, List.setIfInBounds_toArray, List.set_cons_zero, List.set_cons_succ]
    refine wpAnyH_done (by kernel_rfl) ?_ _
    refine NoPanic.normal ?_
    exact TL _ _ _ _ _ _ _ _ _ _ _ _ _ _ _ _ hH.2 sA hr5 (by omega)
  exact AllReadyH.nil

set_option linter.unusedSimpArgs false in
set_option maxHeartbeats 6400000 in
set_option maxRecDepth 100000 in
theorem pow_neg (a : Option Addr) (n c : Nat) (m : Bool) (a2 : Option Addr) (n2 c2 : Nat) (P : Int) (Q : Nat) (N most : Int) (w : World) (h : RatAt w a n c m a2 n2 c2 P Q) (hQ : 0 < Q) (hP : P ≠ 0) (hl : dl P.natAbs ≤ 20) (hl2 : dl Q ≤ 20) (hN0 : ¬ 0 ≤ N) (hN : -9223372036854775808 < N) (hm : most ≤ 12) (hm0 : -9223372036854775808 ≤ most) : Calls Tryz.prog 17 #[.agg #[.slice a n c, .bool m, .slice a2 n2 c2], .int .i64 N, .int .i64 most] w fun e w' => RatTold3 w w' e (raP (inP P Q) (inQ P Q) (-N) most) (raQ (inP P Q) (inQ P Q) (-N) most) (raO (inP P Q) (inQ P Q) (-N) most) := by
  have BB := Lib.hid ((Bag.start w).rat h |>.box3 (.slice a n c) (.bool m) (.slice a2 n2 c2) 30 |>.box3 (.slice none 0 0) (.bool false) (.slice none 0 0) 30)
  simp only [World.size_alloc] at BB
  have FR := Lib.hid (fun wz => ratFrom_any 1 wz (by omega))
  have hQK : Q < 4294967296 ^ 4 := Nat.lt_of_lt_of_le (dl_lt Q) (Nat.le_trans (Nat.pow_le_pow_right (by omega) hl2) (by decide))
  have hPK : P.natAbs < 4294967296 ^ 4 := Nat.lt_of_lt_of_le (dl_lt _) (Nat.le_trans (Nat.pow_le_pow_right (by omega) hl) (by decide))
  have BY := Lib.hid (fun a' n' c' m' a2' n2' c2' wz (h : RatAt wz a' n' c' m' a2' n2' c2' 1 1) (g : RatAt wz a n c m a2 n2 c2 P Q) => by_some a' n' c' m' a2' n2' c2' 1 1 a n c m a2 n2 c2 P Q wz h g (by omega) hQ hP 4 (by omega) (by decide) (by decide) hPK hQK)
  rw [show nwP (1 * (Q : Int)) (P * ((1 : Nat) : Int)) = inP P Q from rfl, show nwQ (1 * (Q : Int)) (P * ((1 : Nat) : Int)) = inQ P Q from rfl] at BY
  have hd1 : dl (inP P Q).natAbs ≤ 20 := Nat.le_trans (dl_mono (inP_abs P Q)) hl2
  have hd2 : dl (inQ P Q) ≤ 20 := Nat.le_trans (dl_mono (inQ_le P Q)) hl
  have hp := inQ_pos Q hP
  have RA := Lib.hid (fun a n c m a2 n2 c2 wz (h : RatAt wz a n c m a2 n2 c2 (inP P Q) (inQ P Q)) => raised_any a n c m a2 n2 c2 (inP P Q) (inQ P Q) (-N) most wz h hp (by omega) (by omega) (by omega) (by omega) hm hm0)
  unfold RatTold3 at RA
  generalize raP (inP P Q) (inQ P Q) (-N) most = Z1 at *
  generalize raQ (inP P Q) (inQ P Q) (-N) most = Z2 at *
  generalize raO (inP P Q) (inQ P Q) (-N) most = z3 at *
  generalize inP P Q = U1 at *
  generalize inQ P Q = U2 at *
  obtain ⟨N', hN'⟩ : ∃ N', -N = N' := ⟨_, rfl⟩
  have hw : IntKind.i64.wrap (-N) = N' := by rw [IntWalk.i64_in _ (by omega)]; exact hN'
  rw [hN'] at RA
  have hne : N ≠ -9223372036854775808 := by omega
  clear h hQ hl hl2 hQK hPK hd1 hd2 hp hP hm hm0
  unfold RatTold3 at BY
  have q0 := BB.out.now.2.1.cell
  have q1 := BB.out.now.2.1.cell1
  have q2 := BB.out.now.2.1.cell2
  go_enter Tryz.func17, Tryz.ntmps17
  have HP : Hid (∀ (y : World) (k : Nat), Slot3 y k (.slice none 0 0) (.bool false) (.slice none 0 0) → w.heap.size + 1 < k → Bag w (fun y => Slot3 y (w.heap.size + 1) (.slice none 0 0) (.bool false) (.slice none 0 0) ∧ Slot3 y w.heap.size (.slice a n c) (.bool m) (.slice a2 n2 c2) ∧ RatAt y a n c m a2 n2 c2 P Q ∧ True) y → ∀ (a9 : Option Addr) (n9 c9 : Nat) (m9 : Bool) (a10 : Option Addr) (n10 c10 : Nat), Bag w (fun y => Slot3 y (w.heap.size + 1) (.slice none 0 0) (.bool false) (.slice none 0 0) ∧ Slot3 y w.heap.size (.slice a n c) (.bool m) (.slice a2 n2 c2) ∧ RatAt y a n c m a2 n2 c2 P Q ∧ True) (((y.setCell ⟨k, 0, none⟩ (.slice a9 n9 c9)).setCell ⟨k, 1, none⟩ (.bool m9)).setCell ⟨k, 2, none⟩ (.slice a10 n10 c10))) := by
    intro y k s hk B a9 n9 c9 m9 a10 n10 c10
    have q := B.now
    exact ⟨((B.below.setCell (p := ⟨k, 0, none⟩) (show w.heap.size ≤ k by omega) _).setCell (p := ⟨k, 1, none⟩) (show w.heap.size ≤ k by omega) _).setCell (p := ⟨k, 2, none⟩) (show w.heap.size ≤ k by omega) _, B.stay, q.1.set3o (by omega) _ _ _, q.2.1.set3o (by omega) _ _ _, q.2.2.1.set3 s _ _ _, trivial⟩
  have HC : Hid (∀ y, (fun y => Slot3 y (w.heap.size + 1) (.slice none 0 0) (.bool false) (.slice none 0 0) ∧ Slot3 y w.heap.size (.slice a n c) (.bool m) (.slice a2 n2 c2) ∧ RatAt y a n c m a2 n2 c2 P Q ∧ True) y → (y.cell? ⟨w.heap.size, 0, none⟩ = some (.slice a n c) ∧ y.cell? ⟨w.heap.size, 1, none⟩ = some (.bool m) ∧ y.cell? ⟨w.heap.size, 2, none⟩ = some (.slice a2 n2 c2))) := fun y h => ⟨h.2.1.cell, h.2.1.cell1, h.2.1.cell2⟩
  go_wp2_with fail
  refine wp_capture (fun R hR => ?_)
  have TL : ∀ (k8 : Nat) (a3 : Option Addr) (n3 c3 : Nat) (m3 : Bool) (a4 : Option Addr) (n4 c4 : Nat) (a5 : Option Addr) (n5 c5 : Nat) (m5 : Bool) (a6 : Option Addr) (n6 c6 : Nat) (wy : World), Bag w (fun y => Slot3 y (w.heap.size + 1) (.slice none 0 0) (.bool false) (.slice none 0 0) ∧ Slot3 y w.heap.size (.slice a n c) (.bool m) (.slice a2 n2 c2) ∧ RatAt y a n c m a2 n2 c2 P Q ∧ True) wy → Slot3 wy k8 (.slice a5 n5 c5) (.bool m5) (.slice a6 n6 c6) → RatAt wy a5 n5 c5 m5 a6 n6 c6 U1 U2 → w.heap.size + 1 < k8 → R .normal { tmps := #[Value.agg #[Value.slice a n c, Value.bool m, Value.slice a2 n2 c2], Value.int IntKind.i64 N, Value.int IntKind.i64 most, Value.pointer (some { block := w.heap.size, off := 0 }), undef, undef, Value.pointer (some { block := w.heap.size + 1, off := 0 }), Value.bool false, Value.pointer (some { block := k8, off := 0 }), Value.bool true, Value.int IntKind.i64 N, Value.bool false, undef, undef, undef, undef, undef, undef, Value.tuple #[Value.agg #[Value.slice a5 n5 c5, Value.bool m5, Value.slice a6 n6 c6], Value.bool true], Value.agg #[Value.slice a3 n3 c3, Value.bool m3, Value.slice a4 n4 c4], Value.agg #[Value.slice a n c, Value.bool m, Value.slice a2 n2 c2], Value.tuple #[Value.agg #[Value.slice a5 n5 c5, Value.bool m5, Value.slice a6 n6 c6], Value.bool true], Value.agg #[Value.slice a5 n5 c5, Value.bool m5, Value.slice a6 n6 c6], Value.bool true, undef, undef, undef, undef, undef, undef, undef, undef, undef, undef, undef, undef, undef, undef, undef, undef, undef, undef, undef, undef, undef, undef, undef, undef, undef], defers := [] } wy := by
    intro k8 a3 n3 c3 m3 a4 n4 c4 a5 n5 c5 m5 a6 n6 c6 wy B1 sA hr5 hk8
    rw [hR]
    have BB := Lib.hid (((B1.slot3 sA)).rat hr5)
    have q0 := BB.out.now.2.1.cell
    have q1 := BB.out.now.2.1.cell1
    have q2 := BB.out.now.2.1.cell2
    clear B1 sA hr5
    go_wp2_with fail
    go_at_call 40
    (with_reducible refine (RA.out _ _ _ _ _ _ _ _ BB.out.now.1).mono ?_)
    rintro e w9 ⟨a7, n7, c7, m7, a8, n8, c8, rfl, hr7, hb9⟩
    have BB := Lib.hid (BB.out.go hb9)
    have hs := BB.out.now.2.2.1
    have r0 := hs.cell
    have r1 := hs.cell1
    have r2 := hs.cell2
    have g0 := hs.free
    have g1 := hs.free1
    have g2 := hs.free2
    have HS := hs.set (.slice a7 n7 c7) (.bool m7) (.slice a8 n8 c8)
    have HE := Lib.hid (RatTold3.done z3 BB.out.below (by omega) hs hr7)
    clear hs
    go_wp2
    exact bodyPost_ret (v := .tuple #[.agg #[.slice a7 n7 c7, .bool m7, .slice a8 n8 c8], .bool z3]) (by simp [results, Tryz.results17, go_sem, HS]) rfl HE.out
  refine wp_region_noPanic ?_
  refine wp_region_held_drew (S := (fun y => (y.cell? ⟨w.heap.size, 0, none⟩ = some (.slice a n c) ∧ y.cell? ⟨w.heap.size, 1, none⟩ = some (.bool m) ∧ y.cell? ⟨w.heap.size, 2, none⟩ = some (.slice a2 n2 c2)) ∧ Bag w (fun y => Slot3 y (w.heap.size + 1) (.slice none 0 0) (.bool false) (.slice none 0 0) ∧ Slot3 y w.heap.size (.slice a n c) (.bool m) (.slice a2 n2 c2) ∧ RatAt y a n c m a2 n2 c2 P Q ∧ True) y)) (by kernel_rfl) ?_ (fun _ => ?_)
  · exact (have B9 := BB.out.drew; ⟨HC.out _ B9.now, B9⟩)
  have hH : (((w.alloc (.cells #[.slice a n c, .bool m, .slice a2 n2 c2] 30)).alloc (.cells #[.slice none 0 0, .bool false, .slice none 0 0] 30)).drew.cell? ⟨w.heap.size, 0, none⟩ = some (.slice a n c) ∧ ((w.alloc (.cells #[.slice a n c, .bool m, .slice a2 n2 c2] 30)).alloc (.cells #[.slice none 0 0, .bool false, .slice none 0 0] 30)).drew.cell? ⟨w.heap.size, 1, none⟩ = some (.bool m) ∧ ((w.alloc (.cells #[.slice a n c, .bool m, .slice a2 n2 c2] 30)).alloc (.cells #[.slice none 0 0, .bool false, .slice none 0 0] 30)).drew.cell? ⟨w.heap.size, 2, none⟩ = some (.slice a2 n2 c2)) ∧ Bag w (fun y => Slot3 y (w.heap.size + 1) (.slice none 0 0) (.bool false) (.slice none 0 0) ∧ Slot3 y w.heap.size (.slice a n c) (.bool m) (.slice a2 n2 c2) ∧ RatAt y a n c m a2 n2 c2 P Q ∧ True) ((w.alloc (.cells #[.slice a n c, .bool m, .slice a2 n2 c2] 30)).alloc (.cells #[.slice none 0 0, .bool false, .slice none 0 0] 30)).drew := (have B9 := BB.out.drew; ⟨HC.out _ B9.now, B9⟩)
  generalize hw1 : ((w.alloc (.cells #[.slice a n c, .bool m, .slice a2 n2 c2] 30)).alloc (.cells #[.slice none 0 0, .bool false, .slice none 0 0] 30)).drew = w1 at *
  refine wpAnyH_take (i := 1) (oi := ⟨some 20, Op.load 30 (Operand.tmp 3), 30, _, _, none⟩) (v := ?v14) rfl (by kernel_rfl) (by kernel_rfl) (by kernel_rfl) (fun _ _ _ h => h) (Or.inl ⟨by rfl, ?hy14⟩) hH ?_
  case hy14 =>
    intro y hy
    (try dsimp only at hy)
    go_simp
    try with_reducible rfl
  try simp only [Act.put, List.setIfInBounds_toArray, List.set_cons_zero, List.set_cons_succ]
  refine wpAnyH_ready (rs := [0, 6]) (by kernel_rfl) (by simp) ?_
  refine AllReadyH.cons (o := ⟨some 19, Op.call { callee := Callee.value (Operand.func 18), args := #[Operand.const (Value.int IntKind.i64 1)], argTypes := #[3] }, 30, _, _, none⟩) rfl (fun K hK => ?_) ?_
  · go_simp
    (go_at_call 18; (with_reducible refine (FR.out _).mono ?_); rintro e wy0 ⟨a3, n3, c3, m3, a4, n4, c4, rfl, hr3, hbz⟩)
    refine hK.out _ _ ?_ (fun hH => ?_)
    · exact (have B9 := Bag.go hH.2 hbz; ⟨HC.out _ B9.now, B9⟩)
    clear hK K
    try simp only [Act.put, List.setIfInBounds_toArray, List.set_cons_zero, List.set_cons_succ]
    refine wpAnyH_ready (rs := [2, 6]) (by kernel_rfl) (by simp) ?_
    refine AllReadyH.cons (o := ⟨some 21, Op.call { callee := Callee.value (Operand.func 7), args := #[Operand.tmp 19, Operand.tmp 20], argTypes := #[30, 30] }, 31, _, _, none⟩) rfl (fun K hK => ?_) ?_
    · go_simp
      (go_at_call 7; (with_reducible refine (BY.out _ _ _ _ _ _ _ _ (RatAt.below hr3 (by exact Below.refl _ _)) hH.2.now.2.2.1).mono ?_); rintro e wy2 ⟨a5, n5, c5, m5, a6, n6, c6, rfl, hr5, hbz⟩)
      refine hK.out _ _ ?_ (fun hH => ?_)
      · exact (have B9 := Bag.go hH.2 hbz; ⟨HC.out _ B9.now, B9⟩)
      clear hK K
      try simp only [Act.put, List.setIfInBounds_toArray, List.set_cons_zero, List.set_cons_succ]
      refine wpAnyH_take (i := 3) (oi := ⟨some 18, Op.move (Operand.tmp 21), 31, _, _, none⟩) (v := ?v15) rfl (by kernel_rfl) (by kernel_rfl) (by kernel_rfl) (fun _ _ _ h => h) (Or.inl ⟨by rfl, ?hy15⟩) hH ?_
      case hy15 =>
        intro y hy
        (try dsimp only at hy)
        go_simp
        try with_reducible rfl
      try simp only [Act.put, List.setIfInBounds_toArray, List.set_cons_zero, List.set_cons_succ]
      refine wpAnyH_take (i := 4) (oi := ⟨some 22, Op.extract (Operand.tmp 18) 0, 30, _, _, none⟩) (v := ?v16) rfl (by kernel_rfl) (by kernel_rfl) (by kernel_rfl) (fun _ _ _ h => h) (Or.inl ⟨by rfl, ?hy16⟩) hH ?_
      case hy16 =>
        intro y hy
        (try dsimp only at hy)
        go_simp
        try with_reducible rfl
      try simp only [Act.put, List.setIfInBounds_toArray, List.set_cons_zero, List.set_cons_succ]
      refine wpAnyH_take (i := 5) (oi := ⟨some 23, Op.extract (Operand.tmp 18) 1, 4, _, _, none⟩) (v := ?v17) rfl (by kernel_rfl) (by kernel_rfl) (by kernel_rfl) (fun _ _ _ h => h) (Or.inl ⟨by rfl, ?hy17⟩) hH ?_
      case hy17 =>
        intro y hy
        (try dsimp only at hy)
        go_simp
        try with_reducible rfl
      try simp only [Act.put, List.setIfInBounds_toArray, List.set_cons_zero, List.set_cons_succ]
      refine wpAnyH_ready (rs := [6]) (by kernel_rfl) (by simp) ?_
      refine AllReadyH.cons (o := ⟨some 8, Op.alloc 30, 0, _, _, none⟩) rfl (fun K hK => ?_) AllReadyH.nil
      have hkA := hH.2.now.1.lt
      have sA := Slot3.new wy2 (.slice none 0 0) (.bool false) (.slice none 0 0) 30
      go_simp
      refine hK.out _ _ ?_ (fun hH => ?_)
      · exact (have B9 := Bag.alloc hH.2 _; ⟨HC.out _ B9.now, B9⟩)
      clear hK K
      try simp only [Act.put, List.setIfInBounds_toArray, List.set_cons_zero, List.set_cons_succ]
      refine wpAnyH_ready (rs := [7]) (by kernel_rfl) (by simp) ?_
      refine AllReadyH.cons (o := ⟨none, Op.store 30 (Operand.tmp 8) (Operand.tmp 22), 0, _, _, none⟩) rfl (fun K hK => ?_) AllReadyH.nil
      have hr5 := hr5.below (show Below wy2.heap.size wy2 (World.alloc wy2 (.cells #[.slice none 0 0, .bool false, .slice none 0 0] 30)) from by refine Below.more ?_ _; exact Below.refl _ _)
      generalize hww : (World.alloc wy2 (.cells #[.slice none 0 0, .bool false, .slice none 0 0] 30)) = ww at *
      have l0 := sA.cell
      have l1 := sA.cell1
      have l2 := sA.cell2
      have f0 := sA.free
      have f1 := sA.free1
      have f2 := sA.free2
      have B9s := HP.out _ _ sA (by omega) hH.2 a5 n5 c5 m5 a6 n6 c6
      have hr5 := RatAt.set3 hr5 sA (.slice a5 n5 c5) (.bool m5) (.slice a6 n6 c6)
      have sA := (sA.set2 (.slice a5 n5 c5) (.bool m5)).set1 (.slice a6 n6 c6)
      go_simp
      refine hK.out _ _ ?_ (fun hH => ?_)
      · exact ⟨HC.out _ B9s.now, B9s⟩
      clear hK K
      try simp only [Act.put, List.setIfInBounds_toArray, List.set_cons_zero, List.set_cons_succ]
      refine wpAnyH_take (i := 8) (oi := ⟨some 9, Op.assign (Operand.tmp 23), 4, _, _, none⟩) (v := ?v18) rfl (by kernel_rfl) (by kernel_rfl) (by kernel_rfl) (fun _ _ _ h => h) (Or.inl ⟨by rfl, ?hy18⟩) hH ?_
      case hy18 =>
        intro y hy
        (try dsimp only at hy)
        go_simp
        try with_reducible rfl
      try simp only [Act.put, List.setIfInBounds_toArray, List.set_cons_zero, List.set_cons_succ]
      refine wpAnyH_done (by kernel_rfl) ?_ _
      refine NoPanic.normal ?_
      exact TL _ _ _ _ _ _ _ _ _ _ _ _ _ _ _ _ hH.2 sA hr5 (by omega)
    refine AllReadyH.cons (o := ⟨some 8, Op.alloc 30, 0, _, _, none⟩) rfl (fun K hK => ?_) ?_
    · have hkA := hH.2.now.1.lt
      have sA := Slot3.new wy0 (.slice none 0 0) (.bool false) (.slice none 0 0) 30
      go_simp
      refine hK.out _ _ ?_ (fun hH => ?_)
      · exact (have B9 := Bag.alloc hH.2 _; ⟨HC.out _ B9.now, B9⟩)
      clear hK K
      try simp only [Act.put, List.setIfInBounds_toArray, List.set_cons_zero, List.set_cons_succ]
      refine wpAnyH_ready (rs := [2]) (by kernel_rfl) (by simp) ?_
      refine AllReadyH.cons (o := ⟨some 21, Op.call { callee := Callee.value (Operand.func 7), args := #[Operand.tmp 19, Operand.tmp 20], argTypes := #[30, 30] }, 31, _, _, none⟩) rfl (fun K hK => ?_) AllReadyH.nil
      go_simp
      (go_at_call 7; (with_reducible refine (BY.out _ _ _ _ _ _ _ _ (RatAt.below hr3 (by refine Below.more ?_ _; exact Below.refl _ _)) hH.2.now.2.2.1).mono ?_); rintro e wy2 ⟨a5, n5, c5, m5, a6, n6, c6, rfl, hr5, hbz⟩); have sA := sA.below hbz
      refine hK.out _ _ ?_ (fun hH => ?_)
      · exact (have B9 := Bag.go hH.2 hbz; ⟨HC.out _ B9.now, B9⟩)
      clear hK K
      try simp only [Act.put, List.setIfInBounds_toArray, List.set_cons_zero, List.set_cons_succ]
      refine wpAnyH_take (i := 3) (oi := ⟨some 18, Op.move (Operand.tmp 21), 31, _, _, none⟩) (v := ?v19) rfl (by kernel_rfl) (by kernel_rfl) (by kernel_rfl) (fun _ _ _ h => h) (Or.inl ⟨by rfl, ?hy19⟩) hH ?_
      case hy19 =>
        intro y hy
        (try dsimp only at hy)
        go_simp
        try with_reducible rfl
      try simp only [Act.put, List.setIfInBounds_toArray, List.set_cons_zero, List.set_cons_succ]
      refine wpAnyH_take (i := 4) (oi := ⟨some 22, Op.extract (Operand.tmp 18) 0, 30, _, _, none⟩) (v := ?v20) rfl (by kernel_rfl) (by kernel_rfl) (by kernel_rfl) (fun _ _ _ h => h) (Or.inl ⟨by rfl, ?hy20⟩) hH ?_
      case hy20 =>
        intro y hy
        (try dsimp only at hy)
        go_simp
        try with_reducible rfl
      try simp only [Act.put, List.setIfInBounds_toArray, List.set_cons_zero, List.set_cons_succ]
      refine wpAnyH_take (i := 5) (oi := ⟨some 23, Op.extract (Operand.tmp 18) 1, 4, _, _, none⟩) (v := ?v21) rfl (by kernel_rfl) (by kernel_rfl) (by kernel_rfl) (fun _ _ _ h => h) (Or.inl ⟨by rfl, ?hy21⟩) hH ?_
      case hy21 =>
        intro y hy
        (try dsimp only at hy)
        go_simp
        try with_reducible rfl
      try simp only [Act.put, List.setIfInBounds_toArray, List.set_cons_zero, List.set_cons_succ]
      refine wpAnyH_ready (rs := [7]) (by kernel_rfl) (by simp) ?_
      refine AllReadyH.cons (o := ⟨none, Op.store 30 (Operand.tmp 8) (Operand.tmp 22), 0, _, _, none⟩) rfl (fun K hK => ?_) AllReadyH.nil
      have l0 := sA.cell
      have l1 := sA.cell1
      have l2 := sA.cell2
      have f0 := sA.free
      have f1 := sA.free1
      have f2 := sA.free2
      have B9s := HP.out _ _ sA (by omega) hH.2 a5 n5 c5 m5 a6 n6 c6
      have hr5 := RatAt.set3 hr5 sA (.slice a5 n5 c5) (.bool m5) (.slice a6 n6 c6)
      have sA := (sA.set2 (.slice a5 n5 c5) (.bool m5)).set1 (.slice a6 n6 c6)
      go_simp
      refine hK.out _ _ ?_ (fun hH => ?_)
      · exact ⟨HC.out _ B9s.now, B9s⟩
      clear hK K
      try simp only [Act.put, List.setIfInBounds_toArray, List.set_cons_zero, List.set_cons_succ]
      refine wpAnyH_take (i := 8) (oi := ⟨some 9, Op.assign (Operand.tmp 23), 4, _, _, none⟩) (v := ?v22) rfl (by kernel_rfl) (by kernel_rfl) (by kernel_rfl) (fun _ _ _ h => h) (Or.inl ⟨by rfl, ?hy22⟩) hH ?_
      case hy22 =>
        intro y hy
        (try dsimp only at hy)
        go_simp
        try with_reducible rfl
      try simp only [Act.put, List.setIfInBounds_toArray, List.set_cons_zero, List.set_cons_succ]
      refine wpAnyH_done (by kernel_rfl) ?_ _
      refine NoPanic.normal ?_
      exact TL _ _ _ _ _ _ _ _ _ _ _ _ _ _ _ _ hH.2 sA hr5 (by omega)
    exact AllReadyH.nil
  refine AllReadyH.cons (o := ⟨some 8, Op.alloc 30, 0, _, _, none⟩) rfl (fun K hK => ?_) ?_
  · have hkA := hH.2.now.1.lt
    have sA := Slot3.new w1 (.slice none 0 0) (.bool false) (.slice none 0 0) 30
    go_simp
    refine hK.out _ _ ?_ (fun hH => ?_)
    · exact (have B9 := Bag.alloc hH.2 _; ⟨HC.out _ B9.now, B9⟩)
    clear hK K
    try simp only [Act.put, List.setIfInBounds_toArray, List.set_cons_zero, List.set_cons_succ]
    refine wpAnyH_ready (rs := [0]) (by kernel_rfl) (by simp) ?_
    refine AllReadyH.cons (o := ⟨some 19, Op.call { callee := Callee.value (Operand.func 18), args := #[Operand.const (Value.int IntKind.i64 1)], argTypes := #[3] }, 30, _, _, none⟩) rfl (fun K hK => ?_) AllReadyH.nil
    go_simp
    (go_at_call 18; (with_reducible refine (FR.out _).mono ?_); rintro e wy0 ⟨a3, n3, c3, m3, a4, n4, c4, rfl, hr3, hbz⟩); have sA := sA.below hbz
    refine hK.out _ _ ?_ (fun hH => ?_)
    · exact (have B9 := Bag.go hH.2 hbz; ⟨HC.out _ B9.now, B9⟩)
    clear hK K
    try simp only [Act.put, List.setIfInBounds_toArray, List.set_cons_zero, List.set_cons_succ]
    refine wpAnyH_ready (rs := [2]) (by kernel_rfl) (by simp) ?_
    refine AllReadyH.cons (o := ⟨some 21, Op.call { callee := Callee.value (Operand.func 7), args := #[Operand.tmp 19, Operand.tmp 20], argTypes := #[30, 30] }, 31, _, _, none⟩) rfl (fun K hK => ?_) AllReadyH.nil
    go_simp
    (go_at_call 7; (with_reducible refine (BY.out _ _ _ _ _ _ _ _ (RatAt.below hr3 (by exact Below.refl _ _)) hH.2.now.2.2.1).mono ?_); rintro e wy2 ⟨a5, n5, c5, m5, a6, n6, c6, rfl, hr5, hbz⟩); have sA := sA.below hbz
    refine hK.out _ _ ?_ (fun hH => ?_)
    · exact (have B9 := Bag.go hH.2 hbz; ⟨HC.out _ B9.now, B9⟩)
    clear hK K
    try simp only [Act.put, List.setIfInBounds_toArray, List.set_cons_zero, List.set_cons_succ]
    refine wpAnyH_take (i := 3) (oi := ⟨some 18, Op.move (Operand.tmp 21), 31, _, _, none⟩) (v := ?v23) rfl (by kernel_rfl) (by kernel_rfl) (by kernel_rfl) (fun _ _ _ h => h) (Or.inl ⟨by rfl, ?hy23⟩) hH ?_
    case hy23 =>
      intro y hy
      (try dsimp only at hy)
      go_simp
      try with_reducible rfl
    try simp only [Act.put, List.setIfInBounds_toArray, List.set_cons_zero, List.set_cons_succ]
    refine wpAnyH_take (i := 4) (oi := ⟨some 22, Op.extract (Operand.tmp 18) 0, 30, _, _, none⟩) (v := ?v24) rfl (by kernel_rfl) (by kernel_rfl) (by kernel_rfl) (fun _ _ _ h => h) (Or.inl ⟨by rfl, ?hy24⟩) hH ?_
    case hy24 =>
      intro y hy
      (try dsimp only at hy)
      go_simp
      try with_reducible rfl
    try simp only [Act.put, List.setIfInBounds_toArray, List.set_cons_zero, List.set_cons_succ]
    refine wpAnyH_take (i := 5) (oi := ⟨some 23, Op.extract (Operand.tmp 18) 1, 4, _, _, none⟩) (v := ?v25) rfl (by kernel_rfl) (by kernel_rfl) (by kernel_rfl) (fun _ _ _ h => h) (Or.inl ⟨by rfl, ?hy25⟩) hH ?_
    case hy25 =>
      intro y hy
      (try dsimp only at hy)
      go_simp
      try with_reducible rfl
    try simp only [Act.put, List.setIfInBounds_toArray, List.set_cons_zero, List.set_cons_succ]
    refine wpAnyH_ready (rs := [7]) (by kernel_rfl) (by simp) ?_
    refine AllReadyH.cons (o := ⟨none, Op.store 30 (Operand.tmp 8) (Operand.tmp 22), 0, _, _, none⟩) rfl (fun K hK => ?_) AllReadyH.nil
    have l0 := sA.cell
    have l1 := sA.cell1
    have l2 := sA.cell2
    have f0 := sA.free
    have f1 := sA.free1
    have f2 := sA.free2
    have B9s := HP.out _ _ sA (by omega) hH.2 a5 n5 c5 m5 a6 n6 c6
    have hr5 := RatAt.set3 hr5 sA (.slice a5 n5 c5) (.bool m5) (.slice a6 n6 c6)
    have sA := (sA.set2 (.slice a5 n5 c5) (.bool m5)).set1 (.slice a6 n6 c6)
    go_simp
    refine hK.out _ _ ?_ (fun hH => ?_)
    · exact ⟨HC.out _ B9s.now, B9s⟩
    clear hK K
    try simp only [Act.put, List.setIfInBounds_toArray, List.set_cons_zero, List.set_cons_succ]
    refine wpAnyH_take (i := 8) (oi := ⟨some 9, Op.assign (Operand.tmp 23), 4, _, _, none⟩) (v := ?v26) rfl (by kernel_rfl) (by kernel_rfl) (by kernel_rfl) (fun _ _ _ h => h) (Or.inl ⟨by rfl, ?hy26⟩) hH ?_
    case hy26 =>
      intro y hy
      (try dsimp only at hy)
      go_simp
      try with_reducible rfl
    try simp only [Act.put, List.setIfInBounds_toArray, List.set_cons_zero, List.set_cons_succ]
    refine wpAnyH_done (by kernel_rfl) ?_ _
    refine NoPanic.normal ?_
    exact TL _ _ _ _ _ _ _ _ _ _ _ _ _ _ _ _ hH.2 sA hr5 (by omega)
  exact AllReadyH.nil

set_option linter.unusedSimpArgs false in
set_option maxHeartbeats 6400000 in
set_option maxRecDepth 100000 in
theorem pow_min (a : Option Addr) (n c : Nat) (m : Bool) (a2 : Option Addr) (n2 c2 : Nat) (P : Int) (Q : Nat) (most : Int) (w : World) (h : RatAt w a n c m a2 n2 c2 P Q) (hQ : 0 < Q) (hP : P ≠ 0) (hl : dl P.natAbs ≤ 20) (hl2 : dl Q ≤ 20) (hm : most ≤ 12) (hm0 : -9223372036854775808 ≤ most) : Calls Tryz.prog 17 #[.agg #[.slice a n c, .bool m, .slice a2 n2 c2], .int .i64 (-9223372036854775808), .int .i64 most] w fun e w' => RatTold3 w w' e (raP (sqP (inP P Q) (inQ P Q)) (sqQ (inP P Q) (inQ P Q)) 4611686018427387904 most) (raQ (sqP (inP P Q) (inQ P Q)) (sqQ (inP P Q) (inQ P Q)) 4611686018427387904 most) (raO (sqP (inP P Q) (inQ P Q)) (sqQ (inP P Q) (inQ P Q)) 4611686018427387904 most) := by
  have BB := Lib.hid ((Bag.start w).rat h |>.box3 (.slice a n c) (.bool m) (.slice a2 n2 c2) 30 |>.box3 (.slice none 0 0) (.bool false) (.slice none 0 0) 30)
  simp only [World.size_alloc] at BB
  have FR := Lib.hid (fun wz => ratFrom_any 1 wz (by omega))
  have hQK : Q < 4294967296 ^ 4 := Nat.lt_of_lt_of_le (dl_lt Q) (Nat.le_trans (Nat.pow_le_pow_right (by omega) hl2) (by decide))
  have hPK : P.natAbs < 4294967296 ^ 4 := Nat.lt_of_lt_of_le (dl_lt _) (Nat.le_trans (Nat.pow_le_pow_right (by omega) hl) (by decide))
  have BY := Lib.hid (fun a' n' c' m' a2' n2' c2' wz (h : RatAt wz a' n' c' m' a2' n2' c2' 1 1) (g : RatAt wz a n c m a2 n2 c2 P Q) => by_some a' n' c' m' a2' n2' c2' 1 1 a n c m a2 n2 c2 P Q wz h g (by omega) hQ hP 4 (by omega) (by decide) (by decide) hPK hQK)
  rw [show nwP (1 * (Q : Int)) (P * ((1 : Nat) : Int)) = inP P Q from rfl, show nwQ (1 * (Q : Int)) (P * ((1 : Nat) : Int)) = inQ P Q from rfl] at BY
  have hd1 : dl (inP P Q).natAbs ≤ 20 := Nat.le_trans (dl_mono (inP_abs P Q)) hl2
  have hd2 : dl (inQ P Q) ≤ 20 := Nat.le_trans (dl_mono (inQ_le P Q)) hl
  have hp := inQ_pos Q hP
  have hp2 : 0 < sqQ (inP P Q) (inQ P Q) := tmQ_pos _ _ hp hp
  have hI1 : (inP P Q).natAbs < 4294967296 ^ 4 := Nat.lt_of_le_of_lt (inP_abs P Q) hQK
  have hI2 : inQ P Q < 4294967296 ^ 4 := Nat.lt_of_le_of_lt (inQ_le P Q) hPK
  have hd3 : dl (sqP (inP P Q) (inQ P Q)).natAbs ≤ 50 := by
    refine Nat.le_trans (dl_mono (loP_absle _ _)) (Nat.le_trans (dl_le _ 40 (by omega) ?_) (by omega))
    rw [Int.natAbs_mul, show 40 = 20 + 20 from rfl, Nat.pow_add]
    have : (inP P Q).natAbs < 10 ^ 20 := Nat.lt_of_lt_of_le (dl_lt _) (Nat.pow_le_pow_right (by omega) hd1)
    exact Nat.mul_lt_mul'' this this
  have hd4 : dl (sqQ (inP P Q) (inQ P Q)) ≤ 50 := by
    refine Nat.le_trans (dl_mono (loQ_le _ _)) (Nat.le_trans (dl_le _ 40 (by omega) ?_) (by omega))
    rw [show 40 = 20 + 20 from rfl, Nat.pow_add]
    have : inQ P Q < 10 ^ 20 := Nat.lt_of_lt_of_le (dl_lt _) (Nat.pow_le_pow_right (by omega) hd2)
    exact Nat.mul_lt_mul'' this this
  have TM := Lib.hid (fun a n c m a2 n2 c2 sa wz (h : RatAt wz a n c m a2 n2 c2 (inP P Q) (inQ P Q)) (g : RatsAt wz sa 1 1 (fun _ => inP P Q) (fun _ => inQ P Q)) => ratTimes1_any a n c m a2 n2 c2 (inP P Q) (inQ P Q) sa (inP P Q) (inQ P Q) wz h g hp hp 4 (by omega) hI1 hI2 hI1 hI2)
  rw [show tmP (inP P Q) (inQ P Q) (inP P Q) (inQ P Q) = sqP (inP P Q) (inQ P Q) from rfl, show tmQ (inP P Q) (inQ P Q) (inP P Q) (inQ P Q) = sqQ (inP P Q) (inQ P Q) from rfl] at TM
  have RA := Lib.hid (fun a n c m a2 n2 c2 wz (h : RatAt wz a n c m a2 n2 c2 (sqP (inP P Q) (inQ P Q)) (sqQ (inP P Q) (inQ P Q))) => raised_any a n c m a2 n2 c2 _ _ 4611686018427387904 most wz h hp2 hd3 hd4 (by omega) (by omega) hm hm0)
  unfold RatTold3 at RA
  generalize raP (sqP (inP P Q) (inQ P Q)) (sqQ (inP P Q) (inQ P Q)) 4611686018427387904 most = Z1 at *
  generalize raQ (sqP (inP P Q) (inQ P Q)) (sqQ (inP P Q) (inQ P Q)) 4611686018427387904 most = Z2 at *
  generalize raO (sqP (inP P Q) (inQ P Q)) (sqQ (inP P Q) (inQ P Q)) 4611686018427387904 most = z3 at *
  generalize sqP (inP P Q) (inQ P Q) = V1 at *
  generalize sqQ (inP P Q) (inQ P Q) = V2 at *
  generalize inP P Q = U1 at *
  generalize inQ P Q = U2 at *
  clear h hQ hl hl2 hQK hPK hd1 hd2 hp hP hm hm0 hp2 hI1 hI2 hd3 hd4
  unfold RatTold3 at BY
  have q0 := BB.out.now.2.1.cell
  have q1 := BB.out.now.2.1.cell1
  have q2 := BB.out.now.2.1.cell2
  go_enter Tryz.func17, Tryz.ntmps17
  have HP : Hid (∀ (y : World) (k : Nat), Slot3 y k (.slice none 0 0) (.bool false) (.slice none 0 0) → w.heap.size + 1 < k → Bag w (fun y => Slot3 y (w.heap.size + 1) (.slice none 0 0) (.bool false) (.slice none 0 0) ∧ Slot3 y w.heap.size (.slice a n c) (.bool m) (.slice a2 n2 c2) ∧ RatAt y a n c m a2 n2 c2 P Q ∧ True) y → ∀ (a9 : Option Addr) (n9 c9 : Nat) (m9 : Bool) (a10 : Option Addr) (n10 c10 : Nat), Bag w (fun y => Slot3 y (w.heap.size + 1) (.slice none 0 0) (.bool false) (.slice none 0 0) ∧ Slot3 y w.heap.size (.slice a n c) (.bool m) (.slice a2 n2 c2) ∧ RatAt y a n c m a2 n2 c2 P Q ∧ True) (((y.setCell ⟨k, 0, none⟩ (.slice a9 n9 c9)).setCell ⟨k, 1, none⟩ (.bool m9)).setCell ⟨k, 2, none⟩ (.slice a10 n10 c10))) := by
    intro y k s hk B a9 n9 c9 m9 a10 n10 c10
    have q := B.now
    exact ⟨((B.below.setCell (p := ⟨k, 0, none⟩) (show w.heap.size ≤ k by omega) _).setCell (p := ⟨k, 1, none⟩) (show w.heap.size ≤ k by omega) _).setCell (p := ⟨k, 2, none⟩) (show w.heap.size ≤ k by omega) _, B.stay, q.1.set3o (by omega) _ _ _, q.2.1.set3o (by omega) _ _ _, q.2.2.1.set3 s _ _ _, trivial⟩
  have HC : Hid (∀ y, (fun y => Slot3 y (w.heap.size + 1) (.slice none 0 0) (.bool false) (.slice none 0 0) ∧ Slot3 y w.heap.size (.slice a n c) (.bool m) (.slice a2 n2 c2) ∧ RatAt y a n c m a2 n2 c2 P Q ∧ True) y → (y.cell? ⟨w.heap.size, 0, none⟩ = some (.slice a n c) ∧ y.cell? ⟨w.heap.size, 1, none⟩ = some (.bool m) ∧ y.cell? ⟨w.heap.size, 2, none⟩ = some (.slice a2 n2 c2))) := fun y h => ⟨h.2.1.cell, h.2.1.cell1, h.2.1.cell2⟩
  go_wp2_with fail
  refine wp_capture (fun R hR => ?_)
  have TL : ∀ (k8 : Nat) (a3 : Option Addr) (n3 c3 : Nat) (m3 : Bool) (a4 : Option Addr) (n4 c4 : Nat) (a5 : Option Addr) (n5 c5 : Nat) (m5 : Bool) (a6 : Option Addr) (n6 c6 : Nat) (wy : World), Bag w (fun y => Slot3 y (w.heap.size + 1) (.slice none 0 0) (.bool false) (.slice none 0 0) ∧ Slot3 y w.heap.size (.slice a n c) (.bool m) (.slice a2 n2 c2) ∧ RatAt y a n c m a2 n2 c2 P Q ∧ True) wy → Slot3 wy k8 (.slice a5 n5 c5) (.bool m5) (.slice a6 n6 c6) → RatAt wy a5 n5 c5 m5 a6 n6 c6 U1 U2 → w.heap.size + 1 < k8 → R .normal { tmps := #[Value.agg #[Value.slice a n c, Value.bool m, Value.slice a2 n2 c2], Value.int IntKind.i64 (-9223372036854775808), Value.int IntKind.i64 most, Value.pointer (some { block := w.heap.size, off := 0 }), undef, undef, Value.pointer (some { block := w.heap.size + 1, off := 0 }), Value.bool false, Value.pointer (some { block := k8, off := 0 }), Value.bool true, Value.int IntKind.i64 (-9223372036854775808), Value.bool false, undef, undef, undef, undef, undef, undef, Value.tuple #[Value.agg #[Value.slice a5 n5 c5, Value.bool m5, Value.slice a6 n6 c6], Value.bool true], Value.agg #[Value.slice a3 n3 c3, Value.bool m3, Value.slice a4 n4 c4], Value.agg #[Value.slice a n c, Value.bool m, Value.slice a2 n2 c2], Value.tuple #[Value.agg #[Value.slice a5 n5 c5, Value.bool m5, Value.slice a6 n6 c6], Value.bool true], Value.agg #[Value.slice a5 n5 c5, Value.bool m5, Value.slice a6 n6 c6], Value.bool true, undef, undef, undef, undef, undef, undef, undef, undef, undef, undef, undef, undef, undef, undef, undef, undef, undef, undef, undef, undef, undef, undef, undef, undef, undef], defers := [] } wy := by
    intro k8 a3 n3 c3 m3 a4 n4 c4 a5 n5 c5 m5 a6 n6 c6 wy B1 sA hr5 hk8
    rw [hR]
    have BB := Lib.hid (((B1.slot3 sA)).rat hr5)
    have q0 := BB.out.now.2.1.cell
    have q1 := BB.out.now.2.1.cell1
    have q2 := BB.out.now.2.1.cell2
    clear B1 sA hr5
    go_wp2_with fail
    go_at_call 6
    (with_reducible refine (TM.out _ _ _ _ _ _ _ _ _ ?_ ?_).mono ?_)
    · exact (BB.out.alloc _).now.1
    · exact RatsAt.old1 (Below.refl _ _) rfl (BB.out.alloc _).now.1
    rintro e w8 ⟨a7, n7, c7, m7, a8, n8, c8, rfl, hr7, hb8⟩
    have BB := Lib.hid ((BB.out.alloc _).go hb8)
    go_wp2_with fail
    go_at_call 40
    (with_reducible refine (RA.out _ _ _ _ _ _ _ _ hr7).mono ?_)
    rintro e w9 ⟨a9, n9, c9, m9, a10, n10, c10, rfl, hr9, hb9⟩
    have BB := Lib.hid (BB.out.go hb9)
    have hs := BB.out.now.2.2.1
    have r0 := hs.cell
    have r1 := hs.cell1
    have r2 := hs.cell2
    have g0 := hs.free
    have g1 := hs.free1
    have g2 := hs.free2
    have HS := hs.set (.slice a9 n9 c9) (.bool m9) (.slice a10 n10 c10)
    have HE := Lib.hid (RatTold3.done z3 BB.out.below (by omega) hs hr9)
    clear hs
    go_wp2
    exact bodyPost_ret (v := .tuple #[.agg #[.slice a9 n9 c9, .bool m9, .slice a10 n10 c10], .bool z3]) (by simp [results, Tryz.results17, go_sem, HS]) rfl HE.out
  refine wp_region_noPanic ?_
  refine wp_region_held_drew (S := (fun y => (y.cell? ⟨w.heap.size, 0, none⟩ = some (.slice a n c) ∧ y.cell? ⟨w.heap.size, 1, none⟩ = some (.bool m) ∧ y.cell? ⟨w.heap.size, 2, none⟩ = some (.slice a2 n2 c2)) ∧ Bag w (fun y => Slot3 y (w.heap.size + 1) (.slice none 0 0) (.bool false) (.slice none 0 0) ∧ Slot3 y w.heap.size (.slice a n c) (.bool m) (.slice a2 n2 c2) ∧ RatAt y a n c m a2 n2 c2 P Q ∧ True) y)) (by kernel_rfl) ?_ (fun _ => ?_)
  · exact (have B9 := BB.out.drew; ⟨HC.out _ B9.now, B9⟩)
  have hH : (((w.alloc (.cells #[.slice a n c, .bool m, .slice a2 n2 c2] 30)).alloc (.cells #[.slice none 0 0, .bool false, .slice none 0 0] 30)).drew.cell? ⟨w.heap.size, 0, none⟩ = some (.slice a n c) ∧ ((w.alloc (.cells #[.slice a n c, .bool m, .slice a2 n2 c2] 30)).alloc (.cells #[.slice none 0 0, .bool false, .slice none 0 0] 30)).drew.cell? ⟨w.heap.size, 1, none⟩ = some (.bool m) ∧ ((w.alloc (.cells #[.slice a n c, .bool m, .slice a2 n2 c2] 30)).alloc (.cells #[.slice none 0 0, .bool false, .slice none 0 0] 30)).drew.cell? ⟨w.heap.size, 2, none⟩ = some (.slice a2 n2 c2)) ∧ Bag w (fun y => Slot3 y (w.heap.size + 1) (.slice none 0 0) (.bool false) (.slice none 0 0) ∧ Slot3 y w.heap.size (.slice a n c) (.bool m) (.slice a2 n2 c2) ∧ RatAt y a n c m a2 n2 c2 P Q ∧ True) ((w.alloc (.cells #[.slice a n c, .bool m, .slice a2 n2 c2] 30)).alloc (.cells #[.slice none 0 0, .bool false, .slice none 0 0] 30)).drew := (have B9 := BB.out.drew; ⟨HC.out _ B9.now, B9⟩)
  generalize hw1 : ((w.alloc (.cells #[.slice a n c, .bool m, .slice a2 n2 c2] 30)).alloc (.cells #[.slice none 0 0, .bool false, .slice none 0 0] 30)).drew = w1 at *
  refine wpAnyH_take (i := 1) (oi := ⟨some 20, Op.load 30 (Operand.tmp 3), 30, _, _, none⟩) (v := ?v27) rfl (by kernel_rfl) (by kernel_rfl) (by kernel_rfl) (fun _ _ _ h => h) (Or.inl ⟨by rfl, ?hy27⟩) hH ?_
  case hy27 =>
    intro y hy
    (try dsimp only at hy)
    go_simp
    try with_reducible rfl
  try simp only [Act.put, List.setIfInBounds_toArray, List.set_cons_zero, List.set_cons_succ]
  refine wpAnyH_ready (rs := [0, 6]) (by kernel_rfl) (by simp) ?_
  refine AllReadyH.cons (o := ⟨some 19, Op.call { callee := Callee.value (Operand.func 18), args := #[Operand.const (Value.int IntKind.i64 1)], argTypes := #[3] }, 30, _, _, none⟩) rfl (fun K hK => ?_) ?_
  · go_simp
    (go_at_call 18; (with_reducible refine (FR.out _).mono ?_); rintro e wy0 ⟨a3, n3, c3, m3, a4, n4, c4, rfl, hr3, hbz⟩)
    refine hK.out _ _ ?_ (fun hH => ?_)
    · exact (have B9 := Bag.go hH.2 hbz; ⟨HC.out _ B9.now, B9⟩)
    clear hK K
    try simp only [Act.put, List.setIfInBounds_toArray, List.set_cons_zero, List.set_cons_succ]
    refine wpAnyH_ready (rs := [2, 6]) (by kernel_rfl) (by simp) ?_
    refine AllReadyH.cons (o := ⟨some 21, Op.call { callee := Callee.value (Operand.func 7), args := #[Operand.tmp 19, Operand.tmp 20], argTypes := #[30, 30] }, 31, _, _, none⟩) rfl (fun K hK => ?_) ?_
    · go_simp
      (go_at_call 7; (with_reducible refine (BY.out _ _ _ _ _ _ _ _ (RatAt.below hr3 (by exact Below.refl _ _)) hH.2.now.2.2.1).mono ?_); rintro e wy2 ⟨a5, n5, c5, m5, a6, n6, c6, rfl, hr5, hbz⟩)
      refine hK.out _ _ ?_ (fun hH => ?_)
      · exact (have B9 := Bag.go hH.2 hbz; ⟨HC.out _ B9.now, B9⟩)
      clear hK K
      try simp only [Act.put, List.setIfInBounds_toArray, List.set_cons_zero, List.set_cons_succ]
      refine wpAnyH_take (i := 3) (oi := ⟨some 18, Op.move (Operand.tmp 21), 31, _, _, none⟩) (v := ?v28) rfl (by kernel_rfl) (by kernel_rfl) (by kernel_rfl) (fun _ _ _ h => h) (Or.inl ⟨by rfl, ?hy28⟩) hH ?_
      case hy28 =>
        intro y hy
        (try dsimp only at hy)
        go_simp
        try with_reducible rfl
      try simp only [Act.put, List.setIfInBounds_toArray, List.set_cons_zero, List.set_cons_succ]
      refine wpAnyH_take (i := 4) (oi := ⟨some 22, Op.extract (Operand.tmp 18) 0, 30, _, _, none⟩) (v := ?v29) rfl (by kernel_rfl) (by kernel_rfl) (by kernel_rfl) (fun _ _ _ h => h) (Or.inl ⟨by rfl, ?hy29⟩) hH ?_
      case hy29 =>
        intro y hy
        (try dsimp only at hy)
        go_simp
        try with_reducible rfl
      try simp only [Act.put, List.setIfInBounds_toArray, List.set_cons_zero, List.set_cons_succ]
      refine wpAnyH_take (i := 5) (oi := ⟨some 23, Op.extract (Operand.tmp 18) 1, 4, _, _, none⟩) (v := ?v30) rfl (by kernel_rfl) (by kernel_rfl) (by kernel_rfl) (fun _ _ _ h => h) (Or.inl ⟨by rfl, ?hy30⟩) hH ?_
      case hy30 =>
        intro y hy
        (try dsimp only at hy)
        go_simp
        try with_reducible rfl
      try simp only [Act.put, List.setIfInBounds_toArray, List.set_cons_zero, List.set_cons_succ]
      refine wpAnyH_ready (rs := [6]) (by kernel_rfl) (by simp) ?_
      refine AllReadyH.cons (o := ⟨some 8, Op.alloc 30, 0, _, _, none⟩) rfl (fun K hK => ?_) AllReadyH.nil
      have hkA := hH.2.now.1.lt
      have sA := Slot3.new wy2 (.slice none 0 0) (.bool false) (.slice none 0 0) 30
      go_simp
      refine hK.out _ _ ?_ (fun hH => ?_)
      · exact (have B9 := Bag.alloc hH.2 _; ⟨HC.out _ B9.now, B9⟩)
      clear hK K
      try simp only [Act.put, List.setIfInBounds_toArray, List.set_cons_zero, List.set_cons_succ]
      refine wpAnyH_ready (rs := [7]) (by kernel_rfl) (by simp) ?_
      refine AllReadyH.cons (o := ⟨none, Op.store 30 (Operand.tmp 8) (Operand.tmp 22), 0, _, _, none⟩) rfl (fun K hK => ?_) AllReadyH.nil
      have hr5 := hr5.below (show Below wy2.heap.size wy2 (World.alloc wy2 (.cells #[.slice none 0 0, .bool false, .slice none 0 0] 30)) from by refine Below.more ?_ _; exact Below.refl _ _)
      generalize hww : (World.alloc wy2 (.cells #[.slice none 0 0, .bool false, .slice none 0 0] 30)) = ww at *
      have l0 := sA.cell
      have l1 := sA.cell1
      have l2 := sA.cell2
      have f0 := sA.free
      have f1 := sA.free1
      have f2 := sA.free2
      have B9s := HP.out _ _ sA (by omega) hH.2 a5 n5 c5 m5 a6 n6 c6
      have hr5 := RatAt.set3 hr5 sA (.slice a5 n5 c5) (.bool m5) (.slice a6 n6 c6)
      have sA := (sA.set2 (.slice a5 n5 c5) (.bool m5)).set1 (.slice a6 n6 c6)
      go_simp
      refine hK.out _ _ ?_ (fun hH => ?_)
      · exact ⟨HC.out _ B9s.now, B9s⟩
      clear hK K
      try simp only [Act.put, List.setIfInBounds_toArray, List.set_cons_zero, List.set_cons_succ]
      refine wpAnyH_take (i := 8) (oi := ⟨some 9, Op.assign (Operand.tmp 23), 4, _, _, none⟩) (v := ?v31) rfl (by kernel_rfl) (by kernel_rfl) (by kernel_rfl) (fun _ _ _ h => h) (Or.inl ⟨by rfl, ?hy31⟩) hH ?_
      case hy31 =>
        intro y hy
        (try dsimp only at hy)
        go_simp
        try with_reducible rfl
      try simp only [Act.put, List.setIfInBounds_toArray, List.set_cons_zero, List.set_cons_succ]
      refine wpAnyH_done (by kernel_rfl) ?_ _
      refine NoPanic.normal ?_
      exact TL _ _ _ _ _ _ _ _ _ _ _ _ _ _ _ _ hH.2 sA hr5 (by omega)
    refine AllReadyH.cons (o := ⟨some 8, Op.alloc 30, 0, _, _, none⟩) rfl (fun K hK => ?_) ?_
    · have hkA := hH.2.now.1.lt
      have sA := Slot3.new wy0 (.slice none 0 0) (.bool false) (.slice none 0 0) 30
      go_simp
      refine hK.out _ _ ?_ (fun hH => ?_)
      · exact (have B9 := Bag.alloc hH.2 _; ⟨HC.out _ B9.now, B9⟩)
      clear hK K
      try simp only [Act.put, List.setIfInBounds_toArray, List.set_cons_zero, List.set_cons_succ]
      refine wpAnyH_ready (rs := [2]) (by kernel_rfl) (by simp) ?_
      refine AllReadyH.cons (o := ⟨some 21, Op.call { callee := Callee.value (Operand.func 7), args := #[Operand.tmp 19, Operand.tmp 20], argTypes := #[30, 30] }, 31, _, _, none⟩) rfl (fun K hK => ?_) AllReadyH.nil
      go_simp
      (go_at_call 7; (with_reducible refine (BY.out _ _ _ _ _ _ _ _ (RatAt.below hr3 (by refine Below.more ?_ _; exact Below.refl _ _)) hH.2.now.2.2.1).mono ?_); rintro e wy2 ⟨a5, n5, c5, m5, a6, n6, c6, rfl, hr5, hbz⟩); have sA := sA.below hbz
      refine hK.out _ _ ?_ (fun hH => ?_)
      · exact (have B9 := Bag.go hH.2 hbz; ⟨HC.out _ B9.now, B9⟩)
      clear hK K
      try simp only [Act.put, List.setIfInBounds_toArray, List.set_cons_zero, List.set_cons_succ]
      refine wpAnyH_take (i := 3) (oi := ⟨some 18, Op.move (Operand.tmp 21), 31, _, _, none⟩) (v := ?v32) rfl (by kernel_rfl) (by kernel_rfl) (by kernel_rfl) (fun _ _ _ h => h) (Or.inl ⟨by rfl, ?hy32⟩) hH ?_
      case hy32 =>
        intro y hy
        (try dsimp only at hy)
        go_simp
        try with_reducible rfl
      try simp only [Act.put, List.setIfInBounds_toArray, List.set_cons_zero, List.set_cons_succ]
      refine wpAnyH_take (i := 4) (oi := ⟨some 22, Op.extract (Operand.tmp 18) 0, 30, _, _, none⟩) (v := ?v33) rfl (by kernel_rfl) (by kernel_rfl) (by kernel_rfl) (fun _ _ _ h => h) (Or.inl ⟨by rfl, ?hy33⟩) hH ?_
      case hy33 =>
        intro y hy
        (try dsimp only at hy)
        go_simp
        try with_reducible rfl
      try simp only [Act.put, List.setIfInBounds_toArray, List.set_cons_zero, List.set_cons_succ]
      refine wpAnyH_take (i := 5) (oi := ⟨some 23, Op.extract (Operand.tmp 18) 1, 4, _, _, none⟩) (v := ?v34) rfl (by kernel_rfl) (by kernel_rfl) (by kernel_rfl) (fun _ _ _ h => h) (Or.inl ⟨by rfl, ?hy34⟩) hH ?_
      case hy34 =>
        intro y hy
        (try dsimp only at hy)
        go_simp
        try with_reducible rfl
      try simp only [Act.put, List.setIfInBounds_toArray, List.set_cons_zero, List.set_cons_succ]
      refine wpAnyH_ready (rs := [7]) (by kernel_rfl) (by simp) ?_
      refine AllReadyH.cons (o := ⟨none, Op.store 30 (Operand.tmp 8) (Operand.tmp 22), 0, _, _, none⟩) rfl (fun K hK => ?_) AllReadyH.nil
      have l0 := sA.cell
      have l1 := sA.cell1
      have l2 := sA.cell2
      have f0 := sA.free
      have f1 := sA.free1
      have f2 := sA.free2
      have B9s := HP.out _ _ sA (by omega) hH.2 a5 n5 c5 m5 a6 n6 c6
      have hr5 := RatAt.set3 hr5 sA (.slice a5 n5 c5) (.bool m5) (.slice a6 n6 c6)
      have sA := (sA.set2 (.slice a5 n5 c5) (.bool m5)).set1 (.slice a6 n6 c6)
      go_simp
      refine hK.out _ _ ?_ (fun hH => ?_)
      · exact ⟨HC.out _ B9s.now, B9s⟩
      clear hK K
      try simp only [Act.put, List.setIfInBounds_toArray, List.set_cons_zero, List.set_cons_succ]
      refine wpAnyH_take (i := 8) (oi := ⟨some 9, Op.assign (Operand.tmp 23), 4, _, _, none⟩) (v := ?v35) rfl (by kernel_rfl) (by kernel_rfl) (by kernel_rfl) (fun _ _ _ h => h) (Or.inl ⟨by rfl, ?hy35⟩) hH ?_
      case hy35 =>
        intro y hy
        (try dsimp only at hy)
        go_simp
        try with_reducible rfl
      try simp only [Act.put, List.setIfInBounds_toArray, List.set_cons_zero, List.set_cons_succ]
      refine wpAnyH_done (by kernel_rfl) ?_ _
      refine NoPanic.normal ?_
      exact TL _ _ _ _ _ _ _ _ _ _ _ _ _ _ _ _ hH.2 sA hr5 (by omega)
    exact AllReadyH.nil
  refine AllReadyH.cons (o := ⟨some 8, Op.alloc 30, 0, _, _, none⟩) rfl (fun K hK => ?_) ?_
  · have hkA := hH.2.now.1.lt
    have sA := Slot3.new w1 (.slice none 0 0) (.bool false) (.slice none 0 0) 30
    go_simp
    refine hK.out _ _ ?_ (fun hH => ?_)
    · exact (have B9 := Bag.alloc hH.2 _; ⟨HC.out _ B9.now, B9⟩)
    clear hK K
    try simp only [Act.put, List.setIfInBounds_toArray, List.set_cons_zero, List.set_cons_succ]
    refine wpAnyH_ready (rs := [0]) (by kernel_rfl) (by simp) ?_
    refine AllReadyH.cons (o := ⟨some 19, Op.call { callee := Callee.value (Operand.func 18), args := #[Operand.const (Value.int IntKind.i64 1)], argTypes := #[3] }, 30, _, _, none⟩) rfl (fun K hK => ?_) AllReadyH.nil
    go_simp
    (go_at_call 18; (with_reducible refine (FR.out _).mono ?_); rintro e wy0 ⟨a3, n3, c3, m3, a4, n4, c4, rfl, hr3, hbz⟩); have sA := sA.below hbz
    refine hK.out _ _ ?_ (fun hH => ?_)
    · exact (have B9 := Bag.go hH.2 hbz; ⟨HC.out _ B9.now, B9⟩)
    clear hK K
    try simp only [Act.put, List.setIfInBounds_toArray, List.set_cons_zero, List.set_cons_succ]
    refine wpAnyH_ready (rs := [2]) (by kernel_rfl) (by simp) ?_
    refine AllReadyH.cons (o := ⟨some 21, Op.call { callee := Callee.value (Operand.func 7), args := #[Operand.tmp 19, Operand.tmp 20], argTypes := #[30, 30] }, 31, _, _, none⟩) rfl (fun K hK => ?_) AllReadyH.nil
    go_simp
    (go_at_call 7; (with_reducible refine (BY.out _ _ _ _ _ _ _ _ (RatAt.below hr3 (by exact Below.refl _ _)) hH.2.now.2.2.1).mono ?_); rintro e wy2 ⟨a5, n5, c5, m5, a6, n6, c6, rfl, hr5, hbz⟩); have sA := sA.below hbz
    refine hK.out _ _ ?_ (fun hH => ?_)
    · exact (have B9 := Bag.go hH.2 hbz; ⟨HC.out _ B9.now, B9⟩)
    clear hK K
    try simp only [Act.put, List.setIfInBounds_toArray, List.set_cons_zero, List.set_cons_succ]
    refine wpAnyH_take (i := 3) (oi := ⟨some 18, Op.move (Operand.tmp 21), 31, _, _, none⟩) (v := ?v36) rfl (by kernel_rfl) (by kernel_rfl) (by kernel_rfl) (fun _ _ _ h => h) (Or.inl ⟨by rfl, ?hy36⟩) hH ?_
    case hy36 =>
      intro y hy
      (try dsimp only at hy)
      go_simp
      try with_reducible rfl
    try simp only [Act.put, List.setIfInBounds_toArray, List.set_cons_zero, List.set_cons_succ]
    refine wpAnyH_take (i := 4) (oi := ⟨some 22, Op.extract (Operand.tmp 18) 0, 30, _, _, none⟩) (v := ?v37) rfl (by kernel_rfl) (by kernel_rfl) (by kernel_rfl) (fun _ _ _ h => h) (Or.inl ⟨by rfl, ?hy37⟩) hH ?_
    case hy37 =>
      intro y hy
      (try dsimp only at hy)
      go_simp
      try with_reducible rfl
    try simp only [Act.put, List.setIfInBounds_toArray, List.set_cons_zero, List.set_cons_succ]
    refine wpAnyH_take (i := 5) (oi := ⟨some 23, Op.extract (Operand.tmp 18) 1, 4, _, _, none⟩) (v := ?v38) rfl (by kernel_rfl) (by kernel_rfl) (by kernel_rfl) (fun _ _ _ h => h) (Or.inl ⟨by rfl, ?hy38⟩) hH ?_
    case hy38 =>
      intro y hy
      (try dsimp only at hy)
      go_simp
      try with_reducible rfl
    try simp only [Act.put, List.setIfInBounds_toArray, List.set_cons_zero, List.set_cons_succ]
    refine wpAnyH_ready (rs := [7]) (by kernel_rfl) (by simp) ?_
    refine AllReadyH.cons (o := ⟨none, Op.store 30 (Operand.tmp 8) (Operand.tmp 22), 0, _, _, none⟩) rfl (fun K hK => ?_) AllReadyH.nil
    have l0 := sA.cell
    have l1 := sA.cell1
    have l2 := sA.cell2
    have f0 := sA.free
    have f1 := sA.free1
    have f2 := sA.free2
    have B9s := HP.out _ _ sA (by omega) hH.2 a5 n5 c5 m5 a6 n6 c6
    have hr5 := RatAt.set3 hr5 sA (.slice a5 n5 c5) (.bool m5) (.slice a6 n6 c6)
    have sA := (sA.set2 (.slice a5 n5 c5) (.bool m5)).set1 (.slice a6 n6 c6)
    go_simp
    refine hK.out _ _ ?_ (fun hH => ?_)
    · exact ⟨HC.out _ B9s.now, B9s⟩
    clear hK K
    try simp only [Act.put, List.setIfInBounds_toArray, List.set_cons_zero, List.set_cons_succ]
    refine wpAnyH_take (i := 8) (oi := ⟨some 9, Op.assign (Operand.tmp 23), 4, _, _, none⟩) (v := ?v39) rfl (by kernel_rfl) (by kernel_rfl) (by kernel_rfl) (fun _ _ _ h => h) (Or.inl ⟨by rfl, ?hy39⟩) hH ?_
    case hy39 =>
      intro y hy
      (try dsimp only at hy)
      go_simp
      try with_reducible rfl
    try simp only [Act.put, List.setIfInBounds_toArray, List.set_cons_zero, List.set_cons_succ]
    refine wpAnyH_done (by kernel_rfl) ?_ _
    refine NoPanic.normal ?_
    exact TL _ _ _ _ _ _ _ _ _ _ _ _ _ _ _ _ hH.2 sA hr5 (by omega)
  exact AllReadyH.nil

theorem ratPow_any (a : Option Addr) (n c : Nat) (m : Bool) (a2 : Option Addr) (n2 c2 : Nat) (P : Int) (Q : Nat) (N most : Int) (w : World) (h : RatAt w a n c m a2 n2 c2 P Q) (hQ : 0 < Q) (hl : dl P.natAbs ≤ 20) (hl2 : dl Q ≤ 20)
    (hN0 : -9223372036854775808 ≤ N) (hN : N ≤ 9223372036854775807) (hm : most ≤ 12) (hm0 : -9223372036854775808 ≤ most) :
    Calls Tryz.prog 17 #[.agg #[.slice a n c, .bool m, .slice a2 n2 c2], .int .i64 N, .int .i64 most] w fun e w' => RatTold3 w w' e (poP P Q N most) (poQ P Q N most) (poO P Q N most) := by
  unfold poP poQ poO
  by_cases h0 : 0 ≤ N
  · rw [if_pos h0, if_pos h0, if_pos h0]
    exact pow_up a n c m a2 n2 c2 P Q N most w h hQ hl hl2 h0 hN hm hm0
  · rw [if_neg h0, if_neg h0, if_neg h0]
    by_cases hP : P = 0
    · rw [if_pos hP, if_pos hP, if_pos hP]
      subst hP
      exact pow_nought a n c m a2 n2 c2 Q N most w h hQ hl2 h0
    · rw [if_neg hP, if_neg hP, if_neg hP]
      by_cases hM : N = -9223372036854775808
      · rw [if_pos hM, if_pos hM, if_pos hM]
        subst hM
        exact pow_min a n c m a2 n2 c2 P Q most w h hQ hP hl hl2 hm hm0
      · rw [if_neg hM, if_neg hM, if_neg hM]
        exact pow_neg a n c m a2 n2 c2 P Q N most w h hQ hP hl hl2 h0 (by omega) hm hm0

end Go.Proofs.YthklcdcikmninaaGreatDoor
