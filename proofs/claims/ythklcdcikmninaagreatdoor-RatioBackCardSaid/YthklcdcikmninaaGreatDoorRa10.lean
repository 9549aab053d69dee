/-
  Package ratio: Floor, Ceil, by contract.
-/
import Derived.Test.YthklcdcikmninaaGreatDoorRa9
import Derived.Test.YthklcdcikmninaaGreatDoorInv
namespace Go.Proofs.YthklcdcikmninaaGreatDoor
open Go.RowKit
attribute [local go_sem ↓] Go.wp_at_zero Go.wp_at_succ

set_option linter.unusedSimpArgs false in
set_option maxHeartbeats 12800000 in
set_option maxRecDepth 100000 in
theorem ratFloor_any (a : Option Addr) (n c : Nat) (m : Bool) (a2 : Option Addr) (n2 c2 : Nat) (P : Int) (Q : Nat) (w : World) (h : RatAt w a n c m a2 n2 c2 P Q) (hQ : 0 < Q) (K : Nat) (hK : K ≤ 800000) (h1 : P.natAbs < 4294967296 ^ K) :
    Calls Tryz.prog 42 #[.agg #[.slice a n c, .bool m, .slice a2 n2 c2]] w fun e w' => IntTold w w' e (flQ P Q) := by
  have B0 := ((Bag.start w).rat h).box3 (.slice a n c) (.bool m) (.slice a2 n2 c2) 30 |>.box2 (.slice none 0 0) (.bool false) 28
  simp only [World.size_alloc] at B0
  have BL := Lib.hid (fun wz (h : RatAt wz a n c m a2 n2 c2 P Q) => below_any a n c m a2 n2 c2 P Q wz h hQ)
  have FL := Lib.hid (fun a2 n2 c2 m2 wz (h : IntAt wz a n c m P) (g : IntAt wz a2 n2 c2 m2 (Q : Int)) => floor_any a n c m P a2 n2 c2 m2 Q wz h g K hK h1 (by omega))
  unfold FloorTold at FL
  generalize flQ P (Q : Int) = Z at *
  generalize flR P (Q : Int) = Y at *
  have BB := Lib.hid B0
  clear h B0 hQ h1
  go_enter Tryz.func42, Tryz.ntmps42
  go_wp2_with fail
  have HP : Hid (∀ (y : World) (k : Nat) {x0 : Option Addr} {y0 z0 : Nat} {b0 : Bool}, Slot2 y k (.slice x0 y0 z0) (.bool b0) → w.heap.size + 1 < k → Bag w (fun y => Slot2 y (w.heap.size + 1) (.slice none 0 0) (.bool false) ∧ Slot3 y w.heap.size (.slice a n c) (.bool m) (.slice a2 n2 c2) ∧ RatAt y a n c m a2 n2 c2 P Q ∧ True) y → ∀ (a9 : Option Addr) (n9 c9 : Nat) (m9 : Bool), Bag w (fun y => Slot2 y (w.heap.size + 1) (.slice none 0 0) (.bool false) ∧ Slot3 y w.heap.size (.slice a n c) (.bool m) (.slice a2 n2 c2) ∧ RatAt y a n c m a2 n2 c2 P Q ∧ True) ((y.setCell ⟨k, 0, none⟩ (.slice a9 n9 c9)).setCell ⟨k, 1, none⟩ (.bool m9))) := by
    intro y k x0 y0 z0 b0 s hk B a9 n9 c9 m9
    have hx : ∀ (x : Option Addr) (y z : Nat) (ki : IntKind) (i : Int), (Value.slice x y z) ≠ .int ki i := fun _ _ _ _ _ h => by cases h
    have hb : ∀ (x : Bool) (ki : IntKind) (i : Int), (Value.bool x) ≠ .int ki i := fun _ _ _ h => by cases h
    have q := B.now
    exact ⟨(B.below.setCell (p := ⟨k, 0, none⟩) (show w.heap.size ≤ k by omega) _).setCell (p := ⟨k, 1, none⟩) (show w.heap.size ≤ k by omega) _, B.stay, q.1.set2o (by omega) _ _, q.2.1.set2o (by omega) _ _,
      ⟨⟨q.2.2.1.int.1, q.2.2.1.int.nt.set2b s (hx _ _ _) (hb _) _ _⟩, q.2.2.1.low.set2b s (hx _ _ _) (hb _) _ _⟩, trivial⟩
  refine wp_region_inv ⟨(fun j => ([[7], [8], [9], [10], [11], [6], [12], [13], [14], [3], [4], [3], [4], [5]] : List (List Nat)).getD j []), (fun j => ([[], [0], [], [2], [0, 1, 2, 3], [0, 1, 2, 3, 4], [0, 1, 2, 3, 4, 5], [0, 1, 2, 3, 4, 5], [0, 1, 2, 3, 4, 5], [], [], [0, 1, 2, 3, 4, 5, 6, 9, 10], [0, 1, 2, 3, 4, 5, 6, 7, 9, 10, 11], [0, 1, 2, 3, 4, 5, 6, 7, 8, 9, 10, 11, 12]] : List (List Nat)).getD j []), [9, 10]⟩ (fun jj vv yy => match jj with | 0 => vv = [some (.pointer (some ⟨w.heap.size, 0, none⟩))] | 1 => vv = [some (.agg #[.slice a n c, .bool m])] | 2 => vv = [some (.agg #[.slice a n c, .bool m, .slice a2 n2 c2])] | 3 => ∃ (a3 : Option Addr), ∃ (n3 : Nat), ∃ (c3 : Nat), ∃ (m3 : Bool), vv = [some (.agg #[.slice a3 n3 c3, .bool m3])] ∧ IntAt yy a3 n3 c3 m3 (Q : Int) | 4 => ∃ (a5 : Option Addr), ∃ (n5 : Nat), ∃ (c5 : Nat), ∃ (m5 : Bool), ∃ (a6 : Option Addr), ∃ (n6 : Nat), ∃ (c6 : Nat), ∃ (m6 : Bool), vv = [some (.tuple #[.agg #[.slice a5 n5 c5, .bool m5], .agg #[.slice a6 n6 c6, .bool m6], .bool true])] ∧ IntAt yy a5 n5 c5 m5 Z ∧ IntAt yy a6 n6 c6 m6 Y | 5 => ∃ (a5 : Option Addr), ∃ (n5 : Nat), ∃ (c5 : Nat), ∃ (m5 : Bool), ∃ (a6 : Option Addr), ∃ (n6 : Nat), ∃ (c6 : Nat), ∃ (m6 : Bool), vv = [some (.tuple #[.agg #[.slice a5 n5 c5, .bool m5], .agg #[.slice a6 n6 c6, .bool m6], .bool true])] ∧ IntAt yy a5 n5 c5 m5 Z ∧ IntAt yy a6 n6 c6 m6 Y | 6 => ∃ (a5 : Option Addr), ∃ (n5 : Nat), ∃ (c5 : Nat), ∃ (m5 : Bool), vv = [some (.agg #[.slice a5 n5 c5, .bool m5])] ∧ IntAt yy a5 n5 c5 m5 Z | 7 => ∃ (a6 : Option Addr), ∃ (n6 : Nat), ∃ (c6 : Nat), ∃ (m6 : Bool), vv = [some (.agg #[.slice a6 n6 c6, .bool m6])] ∧ IntAt yy a6 n6 c6 m6 Y | 8 => vv = [some (.bool true)] | 9 => ∃ (k9 : Nat), ∃ (x0 : Option Addr), ∃ (y0 : Nat), ∃ (z0 : Nat), ∃ (b0 : Bool), vv = [some (.pointer (some ⟨k9, 0, none⟩))] ∧ Slot2 yy k9 (.slice x0 y0 z0) (.bool b0) ∧ w.heap.size + 1 < k9 | 10 => ∃ (k10 : Nat), ∃ (x0 : Option Addr), ∃ (y0 : Nat), ∃ (z0 : Nat), ∃ (b0 : Bool), vv = [some (.pointer (some ⟨k10, 0, none⟩))] ∧ Slot2 yy k10 (.slice x0 y0 z0) (.bool b0) ∧ w.heap.size + 1 < k10 | 11 => ∃ (k9 : Nat), ∃ (a5 : Option Addr), ∃ (n5 : Nat), ∃ (c5 : Nat), ∃ (m5 : Bool), vv = [some (.pointer (some ⟨k9, 0, none⟩))] ∧ Slot2 yy k9 (.slice a5 n5 c5) (.bool m5) ∧ IntAt yy a5 n5 c5 m5 Z | 12 => ∃ (k10 : Nat), ∃ (a6 : Option Addr), ∃ (n6 : Nat), ∃ (c6 : Nat), ∃ (m6 : Bool), vv = [some (.pointer (some ⟨k10, 0, none⟩))] ∧ Slot2 yy k10 (.slice a6 n6 c6) (.bool m6) ∧ IntAt yy a6 n6 c6 m6 Y | 13 => vv = [some (.bool true)] | _ => True) (Bag w (fun y => Slot2 y (w.heap.size + 1) (.slice none 0 0) (.bool false) ∧ Slot3 y w.heap.size (.slice a n c) (.bool m) (.slice a2 n2 c2) ∧ RatAt y a n c m a2 n2 c2 P Q ∧ True)) (by kernel_rfl) (by kernel_rfl) (by kernel_rfl) BB.out.drew ?_ ?_ ?_
  · intro jj vv yw yw2 hb h
    match jj, h with
    | 0, h => exact h
    | 1, h => exact h
    | 2, h => exact h
    | 3, ⟨a3, n3, c3, m3, e3, g3_0⟩ => exact Exists.intro a3 (Exists.intro n3 (Exists.intro c3 (Exists.intro m3 (And.intro e3 (g3_0.below hb)))))
    | 4, ⟨a5, n5, c5, m5, a6, n6, c6, m6, e4, g4_0, g4_1⟩ => exact Exists.intro a5 (Exists.intro n5 (Exists.intro c5 (Exists.intro m5 (Exists.intro a6 (Exists.intro n6 (Exists.intro c6 (Exists.intro m6 (And.intro e4 (And.intro (g4_0.below hb) (g4_1.below hb))))))))))
    | 5, ⟨a5, n5, c5, m5, a6, n6, c6, m6, e5, g5_0, g5_1⟩ => exact Exists.intro a5 (Exists.intro n5 (Exists.intro c5 (Exists.intro m5 (Exists.intro a6 (Exists.intro n6 (Exists.intro c6 (Exists.intro m6 (And.intro e5 (And.intro (g5_0.below hb) (g5_1.below hb))))))))))
    | 6, ⟨a5, n5, c5, m5, e6, g6_0⟩ => exact Exists.intro a5 (Exists.intro n5 (Exists.intro c5 (Exists.intro m5 (And.intro e6 (g6_0.below hb)))))
    | 7, ⟨a6, n6, c6, m6, e7, g7_0⟩ => exact Exists.intro a6 (Exists.intro n6 (Exists.intro c6 (Exists.intro m6 (And.intro e7 (g7_0.below hb)))))
    | 8, h => exact h
    | 9, ⟨k9, x0, y0, z0, b0, e9, g9_0, g9_1⟩ => exact Exists.intro k9 (Exists.intro x0 (Exists.intro y0 (Exists.intro z0 (Exists.intro b0 (And.intro e9 (And.intro (g9_0.below hb) g9_1))))))
    | 10, ⟨k10, x0, y0, z0, b0, e10, g10_0, g10_1⟩ => exact Exists.intro k10 (Exists.intro x0 (Exists.intro y0 (Exists.intro z0 (Exists.intro b0 (And.intro e10 (And.intro (g10_0.below hb) g10_1))))))
    | 11, ⟨k9, a5, n5, c5, m5, e11, g11_0, g11_1⟩ => exact Exists.intro k9 (Exists.intro a5 (Exists.intro n5 (Exists.intro c5 (Exists.intro m5 (And.intro e11 (And.intro (g11_0.below hb) (g11_1.below hb)))))))
    | 12, ⟨k10, a6, n6, c6, m6, e12, g12_0, g12_1⟩ => exact Exists.intro k10 (Exists.intro a6 (Exists.intro n6 (Exists.intro c6 (Exists.intro m6 (And.intro e12 (And.intro (g12_0.below hb) (g12_1.below hb)))))))
    | 13, h => exact h
    | _ + 14, h => exact h
  · intro ac yw hsz hdf hold hB hp
    obtain ⟨k9, a5, n5, c5, m5, e11, sA, hi5⟩ := hp 11 (by decide)
    have t3 : ac.tmps[3]? = some (.pointer (some ⟨k9, 0, none⟩)) := (List.cons.inj e11).1
    have t2 : ac.tmps[2]? = some (.pointer (some ⟨w.heap.size + 1, 0, none⟩)) := hold 2 (by kernel_rfl)
    clear hold hp e11
    obtain ⟨⟨l⟩, df⟩ := ac
    match l, hsz with
    | [u0, u1, u2, u3, u4, u5, u6, u7, u8, u9, u10, u11, u12, u13, u14, u15], _ =>
    obtain rfl := Option.some.inj (show some u2 = _ from t2)
    obtain rfl := Option.some.inj (show some u3 = _ from t3)
    have q0 := sA.cell
    have q1 := sA.cell1
    have hs := hB.now.1
    have hc := hs.cell
    have hc1 := hs.cell1
    have hf := hs.free
    have hf1 := hs.free1
    have HS := hs.set (.slice a5 n5 c5) (.bool m5)
    have HE := Lib.hid (IntTold.done hB.below (by omega) hs (fun _ _ h => by cases h) hi5)
    clear hB sA hi5 hs
    go_wp2
    exact bodyPost_ret (v := .agg #[.slice a5 n5 c5, .bool m5]) (by simp [results, Tryz.results42, go_sem, HS]) rfl HE.out
  refine Stps.cons (o := _) ?_ ?_
  · intro ac yw hsz hold hB hp K hK
    have t1 : ac.tmps[1]? = some (.pointer (some ⟨w.heap.size, 0, none⟩)) := hold 1 (by kernel_rfl)
    clear hold hp hsz
    go_simp
    exact hK.out _ _ ⟨hB, rfl, Nat.le_refl _, .inl (Below.refl _ _), fun h => absurd h (by decide)⟩
  refine Stps.cons (o := _) ?_ ?_
  · intro ac yw hsz hold hB hp K hK
    have e0 := hp 0 (by decide)
    have t7 : ac.tmps[7]? = some (.pointer (some ⟨w.heap.size, 0, none⟩)) := (List.cons.inj e0).1
    clear hold hp hsz e0
    have q0 := hB.now.2.1.cell
    have q1 := hB.now.2.1.cell1
    have q2 := hB.now.2.1.cell2
    go_simp
    exact hK.out _ _ ⟨hB, rfl, Nat.le_refl _, .inl (Below.refl _ _), fun h => absurd h (by decide)⟩
  refine Stps.cons (o := _) ?_ ?_
  · intro ac yw hsz hold hB hp K hK
    have t1 : ac.tmps[1]? = some (.pointer (some ⟨w.heap.size, 0, none⟩)) := hold 1 (by kernel_rfl)
    clear hold hp hsz
    have q0 := hB.now.2.1.cell
    have q1 := hB.now.2.1.cell1
    have q2 := hB.now.2.1.cell2
    go_simp
    exact hK.out _ _ ⟨hB, rfl, Nat.le_refl _, .inl (Below.refl _ _), fun h => absurd h (by decide)⟩
  refine Stps.cons (o := _) ?_ ?_
  · intro ac yw hsz hold hB hp K hK
    have e2 := hp 2 (by decide)
    have t9 : ac.tmps[9]? = some (.agg #[.slice a n c, .bool m, .slice a2 n2 c2]) := (List.cons.inj e2).1
    clear hold hp hsz e2
    go_simp
    (go_at_call 24; (with_reducible refine (BL.out _ hB.now.2.2.1).mono ?_); rintro e wz ⟨a3, n3, c3, m3, rfl, h3_0, hbz⟩)
    exact hK.out _ _ ⟨hB.go hbz, Exists.intro a3 (Exists.intro n3 (Exists.intro c3 (Exists.intro m3 (And.intro rfl h3_0)))), hbz.size, .inl hbz, fun h => absurd h (by decide)⟩
  refine Stps.cons (o := _) ?_ ?_
  · intro ac yw hsz hold hB hp K hK
    have e1 := hp 1 (by decide)
    have t8 : ac.tmps[8]? = some (.agg #[.slice a n c, .bool m]) := (List.cons.inj e1).1
    obtain ⟨a3_3, n3_3, c3_3, m3_3, e3, g3_0⟩ := hp 3 (by decide)
    have t10 : ac.tmps[10]? = some (.agg #[.slice a3_3 n3_3 c3_3, .bool m3_3]) := (List.cons.inj e3).1
    clear hold hp hsz e1 e3
    go_simp
    (go_at_call 60; (with_reducible refine (FL.out _ _ _ _ _ hB.now.2.2.1.int g3_0).mono ?_); rintro e wz ⟨a5, n5, c5, m5, a6, n6, c6, m6, rfl, h4_0, h4_1, hbz⟩)
    exact hK.out _ _ ⟨hB.go hbz, Exists.intro a5 (Exists.intro n5 (Exists.intro c5 (Exists.intro m5 (Exists.intro a6 (Exists.intro n6 (Exists.intro c6 (Exists.intro m6 (And.intro rfl (And.intro h4_0 h4_1))))))))), hbz.size, .inl hbz, fun h => absurd h (by decide)⟩
  refine Stps.cons (o := _) ?_ ?_
  · intro ac yw hsz hold hB hp K hK
    obtain ⟨a5_4, n5_4, c5_4, m5_4, a6_4, n6_4, c6_4, m6_4, e4, g4_0, g4_1⟩ := hp 4 (by decide)
    have t11 : ac.tmps[11]? = some (.tuple #[.agg #[.slice a5_4 n5_4 c5_4, .bool m5_4], .agg #[.slice a6_4 n6_4 c6_4, .bool m6_4], .bool true]) := (List.cons.inj e4).1
    clear hold hp hsz e4
    go_simp
    exact hK.out _ _ ⟨hB, Exists.intro a5_4 (Exists.intro n5_4 (Exists.intro c5_4 (Exists.intro m5_4 (Exists.intro a6_4 (Exists.intro n6_4 (Exists.intro c6_4 (Exists.intro m6_4 (And.intro rfl (And.intro g4_0 g4_1))))))))), Nat.le_refl _, .inl (Below.refl _ _), fun h => absurd h (by decide)⟩
  refine Stps.cons (o := _) ?_ ?_
  · intro ac yw hsz hold hB hp K hK
    obtain ⟨a5_5, n5_5, c5_5, m5_5, a6_5, n6_5, c6_5, m6_5, e5, g5_0, g5_1⟩ := hp 5 (by decide)
    have t6 : ac.tmps[6]? = some (.tuple #[.agg #[.slice a5_5 n5_5 c5_5, .bool m5_5], .agg #[.slice a6_5 n6_5 c6_5, .bool m6_5], .bool true]) := (List.cons.inj e5).1
    clear hold hp hsz e5
    go_simp
    exact hK.out _ _ ⟨hB, Exists.intro a5_5 (Exists.intro n5_5 (Exists.intro c5_5 (Exists.intro m5_5 (And.intro rfl g5_0)))), Nat.le_refl _, .inl (Below.refl _ _), fun h => absurd h (by decide)⟩
  refine Stps.cons (o := _) ?_ ?_
  · intro ac yw hsz hold hB hp K hK
    obtain ⟨a5_5, n5_5, c5_5, m5_5, a6_5, n6_5, c6_5, m6_5, e5, g5_0, g5_1⟩ := hp 5 (by decide)
    have t6 : ac.tmps[6]? = some (.tuple #[.agg #[.slice a5_5 n5_5 c5_5, .bool m5_5], .agg #[.slice a6_5 n6_5 c6_5, .bool m6_5], .bool true]) := (List.cons.inj e5).1
    clear hold hp hsz e5
    go_simp
    exact hK.out _ _ ⟨hB, Exists.intro a6_5 (Exists.intro n6_5 (Exists.intro c6_5 (Exists.intro m6_5 (And.intro rfl g5_1)))), Nat.le_refl _, .inl (Below.refl _ _), fun h => absurd h (by decide)⟩
  refine Stps.cons (o := _) ?_ ?_
  · intro ac yw hsz hold hB hp K hK
    obtain ⟨a5_5, n5_5, c5_5, m5_5, a6_5, n6_5, c6_5, m6_5, e5, g5_0, g5_1⟩ := hp 5 (by decide)
    have t6 : ac.tmps[6]? = some (.tuple #[.agg #[.slice a5_5 n5_5 c5_5, .bool m5_5], .agg #[.slice a6_5 n6_5 c6_5, .bool m6_5], .bool true]) := (List.cons.inj e5).1
    clear hold hp hsz e5
    go_simp
    exact hK.out _ _ ⟨hB, rfl, Nat.le_refl _, .inl (Below.refl _ _), fun h => absurd h (by decide)⟩
  refine Stps.cons (o := _) ?_ ?_
  · intro ac yw hsz hold hB hp K hK
    clear hold hp hsz
    have hk0 := hB.now.1.lt
    have hsl := Slot2.new yw (.slice none 0 0) (.bool false) 28
    have hbz : Below yw.heap.size yw (yw.alloc (.cells #[.slice none 0 0, .bool false] 28)) ∧ yw.heap.size < (yw.alloc (.cells #[.slice none 0 0, .bool false] 28)).heap.size := ⟨(Below.refl _ _).alloc (Nat.le_refl _) _, by simp⟩
    go_simp
    exact hK.out _ _ ⟨hB.alloc _, Exists.intro yw.heap.size (Exists.intro none (Exists.intro 0 (Exists.intro 0 (Exists.intro false (And.intro rfl (And.intro hsl hk0)))))), Nat.le_of_lt hbz.2, .inl hbz.1, fun _ => ⟨_, rfl, Nat.le_refl _, hbz.2⟩⟩
  refine Stps.cons (o := _) ?_ ?_
  · intro ac yw hsz hold hB hp K hK
    clear hold hp hsz
    have hk0 := hB.now.1.lt
    have hsl := Slot2.new yw (.slice none 0 0) (.bool false) 28
    have hbz : Below yw.heap.size yw (yw.alloc (.cells #[.slice none 0 0, .bool false] 28)) ∧ yw.heap.size < (yw.alloc (.cells #[.slice none 0 0, .bool false] 28)).heap.size := ⟨(Below.refl _ _).alloc (Nat.le_refl _) _, by simp⟩
    go_simp
    exact hK.out _ _ ⟨hB.alloc _, Exists.intro yw.heap.size (Exists.intro none (Exists.intro 0 (Exists.intro 0 (Exists.intro false (And.intro rfl (And.intro hsl hk0)))))), Nat.le_of_lt hbz.2, .inl hbz.1, fun _ => ⟨_, rfl, Nat.le_refl _, hbz.2⟩⟩
  refine Stps.cons (o := _) ?_ ?_
  · intro ac yw hsz hold hB hp K hK
    obtain ⟨k9_9, x0_9, y0_9, z0_9, b0_9, e9, g9_0, g9_1⟩ := hp 9 (by decide)
    have t3 : ac.tmps[3]? = some (.pointer (some ⟨k9_9, 0, none⟩)) := (List.cons.inj e9).1
    obtain ⟨a5_6, n5_6, c5_6, m5_6, e6, g6_0⟩ := hp 6 (by decide)
    have t12 : ac.tmps[12]? = some (.agg #[.slice a5_6 n5_6 c5_6, .bool m5_6]) := (List.cons.inj e6).1
    clear hold hp hsz e9 e6
    have hs := g9_0
    have l0 := hs.cell
    have l1 := hs.cell1
    have f0 := hs.free
    have f1 := hs.free1
    have HB := HP.out _ _ hs g9_1 hB a5_6 n5_6 c5_6 m5_6
    go_simp
    refine hK.out undef _ ⟨HB, Exists.intro k9_9 (Exists.intro a5_6 (Exists.intro n5_6 (Exists.intro c5_6 (Exists.intro m5_6 (And.intro (congrArg (fun x => [x]) t3) (And.intro (hs.set2 (.slice a5_6 n5_6 c5_6) (.bool m5_6)) (IntAt.set2b g6_0 hs _ _))))))), by simp, .inr ?_, fun h => absurd h (by decide)⟩
    intro jj hj hap h
    match jj, h with
    | 0, h => exact h
    | 1, h => exact h
    | 2, h => exact h
    | 3, ⟨a3, n3, c3, m3, e3, g3_0⟩ =>
      exact Exists.intro a3 (Exists.intro n3 (Exists.intro c3 (Exists.intro m3 (And.intro e3 (IntAt.set2b g3_0 hs _ _)))))
    | 4, ⟨a5, n5, c5, m5, a6, n6, c6, m6, e4, g4_0, g4_1⟩ =>
      exact Exists.intro a5 (Exists.intro n5 (Exists.intro c5 (Exists.intro m5 (Exists.intro a6 (Exists.intro n6 (Exists.intro c6 (Exists.intro m6 (And.intro e4 (And.intro (IntAt.set2b g4_0 hs _ _) (IntAt.set2b g4_1 hs _ _))))))))))
    | 5, ⟨a5, n5, c5, m5, a6, n6, c6, m6, e5, g5_0, g5_1⟩ =>
      exact Exists.intro a5 (Exists.intro n5 (Exists.intro c5 (Exists.intro m5 (Exists.intro a6 (Exists.intro n6 (Exists.intro c6 (Exists.intro m6 (And.intro e5 (And.intro (IntAt.set2b g5_0 hs _ _) (IntAt.set2b g5_1 hs _ _))))))))))
    | 6, ⟨a5, n5, c5, m5, e6, g6_0⟩ =>
      exact Exists.intro a5 (Exists.intro n5 (Exists.intro c5 (Exists.intro m5 (And.intro e6 (IntAt.set2b g6_0 hs _ _)))))
    | 7, ⟨a6, n6, c6, m6, e7, g7_0⟩ =>
      exact Exists.intro a6 (Exists.intro n6 (Exists.intro c6 (Exists.intro m6 (And.intro e7 (IntAt.set2b g7_0 hs _ _)))))
    | 8, h => exact h
    | 9, ⟨k9, x0, y0, z0, b0, e9, g9_0, g9_1⟩ =>
      have e9 : k9 = k9_9 := by have := (List.cons.inj e9).1.symm.trans t3; cases this; rfl
      subst e9
      exact Exists.intro _ (Exists.intro _ (Exists.intro _ (Exists.intro _ (Exists.intro _ (And.intro e9 (And.intro (g9_0.set2 _ _) g9_1))))))
    | 10, ⟨k10, x0, y0, z0, b0, e10, g10_0, g10_1⟩ =>
      have hne : k10 ≠ k9_9 := fun e => hap 9 (by decide) 10 (by decide) (by decide) (by decide) (by decide) k9_9 ⟨3, rfl, t3⟩ ⟨4, rfl, e ▸ (List.cons.inj e10).1⟩
      exact Exists.intro k10 (Exists.intro x0 (Exists.intro y0 (Exists.intro z0 (Exists.intro b0 (And.intro e10 (And.intro (Slot2.set2o g10_0 hne _ _) g10_1))))))
    | 11, _ => exact absurd rfl hj
    | 12, ⟨k10, a6, n6, c6, m6, e12, g12_0, g12_1⟩ =>
      have hne : k10 ≠ k9_9 := fun e => hap 9 (by decide) 10 (by decide) (by decide) (by decide) (by decide) k9_9 ⟨3, rfl, t3⟩ ⟨4, rfl, e ▸ (List.cons.inj e12).1⟩
      exact Exists.intro k10 (Exists.intro a6 (Exists.intro n6 (Exists.intro c6 (Exists.intro m6 (And.intro e12 (And.intro (Slot2.set2o g12_0 hne _ _) (IntAt.set2b g12_1 hs _ _)))))))
    | 13, h => exact h
    | _ + 14, h => exact h
  refine Stps.cons (o := _) ?_ ?_
  · intro ac yw hsz hold hB hp K hK
    obtain ⟨k10_10, x0_10, y0_10, z0_10, b0_10, e10, g10_0, g10_1⟩ := hp 10 (by decide)
    have t4 : ac.tmps[4]? = some (.pointer (some ⟨k10_10, 0, none⟩)) := (List.cons.inj e10).1
    obtain ⟨a6_7, n6_7, c6_7, m6_7, e7, g7_0⟩ := hp 7 (by decide)
    have t13 : ac.tmps[13]? = some (.agg #[.slice a6_7 n6_7 c6_7, .bool m6_7]) := (List.cons.inj e7).1
    clear hold hp hsz e10 e7
    have hs := g10_0
    have l0 := hs.cell
    have l1 := hs.cell1
    have f0 := hs.free
    have f1 := hs.free1
    have HB := HP.out _ _ hs g10_1 hB a6_7 n6_7 c6_7 m6_7
    go_simp
    refine hK.out undef _ ⟨HB, Exists.intro k10_10 (Exists.intro a6_7 (Exists.intro n6_7 (Exists.intro c6_7 (Exists.intro m6_7 (And.intro (congrArg (fun x => [x]) t4) (And.intro (hs.set2 (.slice a6_7 n6_7 c6_7) (.bool m6_7)) (IntAt.set2b g7_0 hs _ _))))))), by simp, .inr ?_, fun h => absurd h (by decide)⟩
    intro jj hj hap h
    match jj, h with
    | 0, h => exact h
    | 1, h => exact h
    | 2, h => exact h
    | 3, ⟨a3, n3, c3, m3, e3, g3_0⟩ =>
      exact Exists.intro a3 (Exists.intro n3 (Exists.intro c3 (Exists.intro m3 (And.intro e3 (IntAt.set2b g3_0 hs _ _)))))
    | 4, ⟨a5, n5, c5, m5, a6, n6, c6, m6, e4, g4_0, g4_1⟩ =>
      exact Exists.intro a5 (Exists.intro n5 (Exists.intro c5 (Exists.intro m5 (Exists.intro a6 (Exists.intro n6 (Exists.intro c6 (Exists.intro m6 (And.intro e4 (And.intro (IntAt.set2b g4_0 hs _ _) (IntAt.set2b g4_1 hs _ _))))))))))
    | 5, ⟨a5, n5, c5, m5, a6, n6, c6, m6, e5, g5_0, g5_1⟩ =>
      exact Exists.intro a5 (Exists.intro n5 (Exists.intro c5 (Exists.intro m5 (Exists.intro a6 (Exists.intro n6 (Exists.intro c6 (Exists.intro m6 (And.intro e5 (And.intro (IntAt.set2b g5_0 hs _ _) (IntAt.set2b g5_1 hs _ _))))))))))
    | 6, ⟨a5, n5, c5, m5, e6, g6_0⟩ =>
      exact Exists.intro a5 (Exists.intro n5 (Exists.intro c5 (Exists.intro m5 (And.intro e6 (IntAt.set2b g6_0 hs _ _)))))
    | 7, ⟨a6, n6, c6, m6, e7, g7_0⟩ =>
      exact Exists.intro a6 (Exists.intro n6 (Exists.intro c6 (Exists.intro m6 (And.intro e7 (IntAt.set2b g7_0 hs _ _)))))
    | 8, h => exact h
    | 9, ⟨k9, x0, y0, z0, b0, e9, g9_0, g9_1⟩ =>
      have hne : k9 ≠ k10_10 := fun e => hap 10 (by decide) 9 (by decide) (by decide) (by decide) (by decide) k10_10 ⟨4, rfl, t4⟩ ⟨3, rfl, e ▸ (List.cons.inj e9).1⟩
      exact Exists.intro k9 (Exists.intro x0 (Exists.intro y0 (Exists.intro z0 (Exists.intro b0 (And.intro e9 (And.intro (Slot2.set2o g9_0 hne _ _) g9_1))))))
    | 10, ⟨k10, x0, y0, z0, b0, e10, g10_0, g10_1⟩ =>
      have e9 : k10 = k10_10 := by have := (List.cons.inj e10).1.symm.trans t4; cases this; rfl
      subst e9
      exact Exists.intro _ (Exists.intro _ (Exists.intro _ (Exists.intro _ (Exists.intro _ (And.intro e10 (And.intro (g10_0.set2 _ _) g10_1))))))
    | 11, ⟨k9, a5, n5, c5, m5, e11, g11_0, g11_1⟩ =>
      have hne : k9 ≠ k10_10 := fun e => hap 10 (by decide) 9 (by decide) (by decide) (by decide) (by decide) k10_10 ⟨4, rfl, t4⟩ ⟨3, rfl, e ▸ (List.cons.inj e11).1⟩
      exact Exists.intro k9 (Exists.intro a5 (Exists.intro n5 (Exists.intro c5 (Exists.intro m5 (And.intro e11 (And.intro (Slot2.set2o g11_0 hne _ _) (IntAt.set2b g11_1 hs _ _)))))))
    | 12, _ => exact absurd rfl hj
    | 13, h => exact h
    | _ + 14, h => exact h
  refine Stps.cons (o := _) ?_ ?_
  · intro ac yw hsz hold hB hp K hK
    have e8 := hp 8 (by decide)
    have t14 : ac.tmps[14]? = some (.bool true) := (List.cons.inj e8).1
    clear hold hp hsz e8
    go_simp
    exact hK.out _ _ ⟨hB, rfl, Nat.le_refl _, .inl (Below.refl _ _), fun h => absurd h (by decide)⟩
  exact Stps.nil _

end Go.Proofs.YthklcdcikmninaaGreatDoor
