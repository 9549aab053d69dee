/-
  The document's answers (package typeballref03): Floor, by contract.
-/
import Derived.Test.YtgpcfncolhmgfaaGreatDoorRr1
import Derived.Test.YtgpcfncolhmgfaaGreatDoorWr5
import Derived.Test.YtgpcfncolhmgfaaGreatDoorInv
namespace Go.Proofs.YtgpcfncolhmgfaaGreatDoor
open Go.RowKit
attribute [local go_sem ↓] Go.wp_at_zero Go.wp_at_succ

set_option linter.unusedSimpArgs false in
set_option maxHeartbeats 6400000 in
set_option maxRecDepth 100000 in
theorem r3Floor_any (P : Int) (Q : Nat) (w : World) (hQ : 0 < Q) (h1 : dl P.natAbs ≤ 400) (h2 : dl Q ≤ 400) :
    Calls Tryz.prog 71 #[.agg #[.bool (rB P), .string (rS P), .string (str (dec Q))]] w fun e w' => RTold w w' e (flQ P Q) := by
  have BB := Lib.hid ((Bag.start w).box3 (.bool (rB P)) (.string (rS P)) (.string (str (dec Q))) 34 |>.box2 (.bool false) (.string ⟨#[]⟩) 56)
  simp only [World.size_alloc] at BB
  have TA : Hid (∀ wz, Calls Tryz.prog 87 #[.agg #[.bool (rB P), .string (rS P), .string (str (dec Q))]] wz fun e w' => RTold wz w' e P) := fun wz => r3Top_any P _ wz (by omega)
  have BA : Hid (∀ wz, Calls Tryz.prog 88 #[.agg #[.bool (rB P), .string (rS P), .string (str (dec Q))]] wz fun e w' => RTold wz w' e (Q : Int)) := fun wz => r3Bot_any _ _ Q wz (by omega)
  have FL := Lib.hid (fun wz => rFloor_any P (Q : Int) wz h1 (by rw [Int.natAbs_natCast]; exact h2) (by omega))
  have HF := Lib.hid (fun w2 b s (hb : Below w.heap.size w w2) (h1 : rB (flQ P (Q : Int)) = b) (h2 : rS (flQ P (Q : Int)) = s) => RTold.fin (Y := flQ P (Q : Int)) hb (show w.heap.size ≤ w.heap.size + 1 by omega) h1 h2)
  unfold RTold at TA BA
  unfold RFloor at FL
  obtain ⟨x1, hx1⟩ : ∃ x, rB (flQ P (Q : Int)) = x := ⟨_, rfl⟩
  obtain ⟨x2, hx2⟩ : ∃ x, rS (flQ P (Q : Int)) = x := ⟨_, rfl⟩
  have HX := Lib.hid (And.intro hx1 hx2)
  rw [hx1, hx2] at FL
  generalize rB (flR P (Q : Int)) = y1 at *
  generalize rS (flR P (Q : Int)) = y2 at *
  generalize rB (Q : Int) = qb at *
  generalize rS (Q : Int) = qs at *
  generalize rB P = pb at *
  generalize rS P = ps at *
  generalize str (dec Q) = q at *
  clear h1 h2 hx1 hx2 hQ
  have HP : Hid (∀ (y : World) (k : Nat) {b0 : Bool} {s0 : ByteArray}, Slot2 y k (.bool b0) (.string s0) → w.heap.size + 1 < k → Bag w (fun y => Slot2 y (w.heap.size + 1) (.bool false) (.string ⟨#[]⟩) ∧ Slot3 y w.heap.size (.bool pb) (.string ps) (.string q) ∧ True) y → ∀ (z1 : Bool) (z2 : ByteArray), Bag w (fun y => Slot2 y (w.heap.size + 1) (.bool false) (.string ⟨#[]⟩) ∧ Slot3 y w.heap.size (.bool pb) (.string ps) (.string q) ∧ True) ((y.setCell ⟨k, 0, none⟩ (.bool z1)).setCell ⟨k, 1, none⟩ (.string z2))) := by
    intro y k b0 s0 s hk B z1 z2
    have q := B.now
    exact ⟨(B.below.setCell (p := ⟨k, 0, none⟩) (show w.heap.size ≤ k by omega) _).setCell (p := ⟨k, 1, none⟩) (show w.heap.size ≤ k by omega) _, B.stay, q.1.set2o (by omega) _ _, q.2.1.set2o (by omega) _ _, trivial⟩
  go_enter Tryz.func71, Tryz.ntmps71
  go_wp2_with fail
  refine wp_region_inv ⟨(fun j => ([[6], [7], [8], [9], [10], [5], [11], [12], [3], [4], [3], [4]] : List (List Nat)).getD j []), (fun j => ([[], [0], [], [0, 1, 2], [0, 1, 2, 3], [0, 1, 2, 3, 4], [0, 1, 2, 3, 4, 5], [0, 1, 2, 3, 4, 5], [], [], [0, 1, 2, 3, 4, 5, 6, 8, 9], [0, 1, 2, 3, 4, 5, 6, 7, 8, 9, 10]] : List (List Nat)).getD j []), [8, 9]⟩ (fun jj vv yy => match jj with | 0 => vv = [some (.agg #[.bool pb, .string ps, .string q])] | 1 => vv = [some (.agg #[.bool pb, .string ps])] | 2 => vv = [some (.agg #[.bool pb, .string ps, .string q])] | 3 => vv = [some (.agg #[.bool qb, .string qs])] | 4 => vv = [some (.tuple #[.agg #[.bool x1, .string x2], .agg #[.bool y1, .string y2]])] | 5 => vv = [some (.tuple #[.agg #[.bool x1, .string x2], .agg #[.bool y1, .string y2]])] | 6 => vv = [some (.agg #[.bool x1, .string x2])] | 7 => vv = [some (.agg #[.bool y1, .string y2])] | 8 => ∃ (k8 : Nat), ∃ (b0 : Bool), ∃ (s0 : ByteArray), vv = [some (.pointer (some ⟨k8, 0, none⟩))] ∧ Slot2 yy k8 (.bool b0) (.string s0) ∧ w.heap.size + 1 < k8 | 9 => ∃ (k9 : Nat), ∃ (b0 : Bool), ∃ (s0 : ByteArray), vv = [some (.pointer (some ⟨k9, 0, none⟩))] ∧ Slot2 yy k9 (.bool b0) (.string s0) ∧ w.heap.size + 1 < k9 | 10 => ∃ (k8 : Nat), vv = [some (.pointer (some ⟨k8, 0, none⟩))] ∧ Slot2 yy k8 (.bool x1) (.string x2) | 11 => ∃ (k9 : Nat), vv = [some (.pointer (some ⟨k9, 0, none⟩))] ∧ Slot2 yy k9 (.bool y1) (.string y2) | _ => True) (Bag w (fun y => Slot2 y (w.heap.size + 1) (.bool false) (.string ⟨#[]⟩) ∧ Slot3 y w.heap.size (.bool pb) (.string ps) (.string q) ∧ True)) (by kernel_rfl) (by kernel_rfl) (by kernel_rfl) BB.out.drew ?_ ?_ ?_
  · intro jj vv yw yw2 hb h
    match jj, h with
    | 0, h => exact h
    | 1, h => exact h
    | 2, h => exact h
    | 3, h => exact h
    | 4, h => exact h
    | 5, h => exact h
    | 6, h => exact h
    | 7, h => exact h
    | 8, ⟨k8, b0, s0, e8, g8_0, g8_1⟩ => exact Exists.intro k8 (Exists.intro b0 (Exists.intro s0 (And.intro e8 (And.intro (g8_0.below hb) g8_1))))
    | 9, ⟨k9, b0, s0, e9, g9_0, g9_1⟩ => exact Exists.intro k9 (Exists.intro b0 (Exists.intro s0 (And.intro e9 (And.intro (g9_0.below hb) g9_1))))
    | 10, ⟨k8, e10, g10_0⟩ => exact Exists.intro k8 (And.intro e10 (g10_0.below hb))
    | 11, ⟨k9, e11, g11_0⟩ => exact Exists.intro k9 (And.intro e11 (g11_0.below hb))
    | _ + 12, h => exact h
  · intro ac yw hsz hdf hold hB hp
    obtain ⟨k8, e10, sA⟩ := hp 10 (by decide)
    have t3 : ac.tmps[3]? = some (.pointer (some ⟨k8, 0, none⟩)) := (List.cons.inj e10).1
    have t2 : ac.tmps[2]? = some (.pointer (some ⟨w.heap.size + 1, 0, none⟩)) := hold 2 (by kernel_rfl)
    clear hold hp e10
    obtain ⟨⟨l⟩, df⟩ := ac
    match l, hsz with
    | [u0, u1, u2, u3, u4, u5, u6, u7, u8, u9, u10, u11, u12, u13], _ =>
    obtain rfl := Option.some.inj (show some u2 = _ from t2)
    obtain rfl := Option.some.inj (show some u3 = _ from t3)
    have q0 := sA.cell
    have q1 := sA.cell1
    have hs := hB.now.1
    have hc := hs.cell
    have hc1 := hs.cell1
    have hf := hs.free
    have hf1 := hs.free1
    have HS := hs.set (.bool x1) (.string x2)
    have HE := Lib.hid (HF.out _ x1 x2 hB.below HX.out.1 HX.out.2)
    unfold put2 at HE
    clear hB sA hs
    go_wp2
    exact bodyPost_ret (v := .agg #[.bool x1, .string x2]) (by simp [results, Tryz.results71, go_sem, HS]) rfl HE.out
  refine Stps.cons (o := _) ?_ ?_
  · intro ac yw hsz hold hB hp K hK
    have t1 : ac.tmps[1]? = some (.pointer (some ⟨w.heap.size, 0, none⟩)) := hold 1 (by kernel_rfl)
    clear hold hp hsz
    have q0 := hB.now.2.1.cell
    have q1 := hB.now.2.1.cell1
    have q2 := hB.now.2.1.cell2
    go_simp
    exact hK.out _ _ ⟨hB, rfl, Nat.le_refl _, .inl (Below.refl _ _), fun h => absurd h (by decide)⟩
  refine Stps.cons (o := _) ?_ ?_
  · intro ac yw hsz hold hB hp K hK
    have e0 := hp 0 (by decide)
    have t6 : ac.tmps[6]? = some (.agg #[.bool pb, .string ps, .string q]) := (List.cons.inj e0).1
    clear hold hp hsz e0
    go_simp
    (go_at_call 87; (with_reducible refine (TA.out _).mono ?_); rintro e wz ⟨rfl, hbz⟩)
    exact hK.out _ _ ⟨hB.go hbz, rfl, hbz.size, .inl hbz, fun h => absurd h (by decide)⟩
  refine Stps.cons (o := _) ?_ ?_
  · intro ac yw hsz hold hB hp K hK
    have t1 : ac.tmps[1]? = some (.pointer (some ⟨w.heap.size, 0, none⟩)) := hold 1 (by kernel_rfl)
    clear hold hp hsz
    have q0 := hB.now.2.1.cell
    have q1 := hB.now.2.1.cell1
    have q2 := hB.now.2.1.cell2
    go_simp
    exact hK.out _ _ ⟨hB, rfl, Nat.le_refl _, .inl (Below.refl _ _), fun h => absurd h (by decide)⟩
  refine Stps.cons (o := _) ?_ ?_
  · intro ac yw hsz hold hB hp K hK
    have e2 := hp 2 (by decide)
    have t8 : ac.tmps[8]? = some (.agg #[.bool pb, .string ps, .string q]) := (List.cons.inj e2).1
    clear hold hp hsz e2
    go_simp
    (go_at_call 88; (with_reducible refine (BA.out _).mono ?_); rintro e wz ⟨rfl, hbz⟩)
    exact hK.out _ _ ⟨hB.go hbz, rfl, hbz.size, .inl hbz, fun h => absurd h (by decide)⟩
  refine Stps.cons (o := _) ?_ ?_
  · intro ac yw hsz hold hB hp K hK
    have e1 := hp 1 (by decide)
    have t7 : ac.tmps[7]? = some (.agg #[.bool pb, .string ps]) := (List.cons.inj e1).1
    have e3 := hp 3 (by decide)
    have t9 : ac.tmps[9]? = some (.agg #[.bool qb, .string qs]) := (List.cons.inj e3).1
    clear hold hp hsz e1 e3
    go_simp
    (go_at_call 107; (with_reducible refine (FL.out _).mono ?_); rintro e wz ⟨rfl, hbz⟩)
    exact hK.out _ _ ⟨hB.go hbz, rfl, hbz.size, .inl hbz, fun h => absurd h (by decide)⟩
  refine Stps.cons (o := _) ?_ ?_
  · intro ac yw hsz hold hB hp K hK
    have e4 := hp 4 (by decide)
    have t10 : ac.tmps[10]? = some (.tuple #[.agg #[.bool x1, .string x2], .agg #[.bool y1, .string y2]]) := (List.cons.inj e4).1
    clear hold hp hsz e4
    go_simp
    exact hK.out _ _ ⟨hB, rfl, Nat.le_refl _, .inl (Below.refl _ _), fun h => absurd h (by decide)⟩
  refine Stps.cons (o := _) ?_ ?_
  · intro ac yw hsz hold hB hp K hK
    have e5 := hp 5 (by decide)
    have t5 : ac.tmps[5]? = some (.tuple #[.agg #[.bool x1, .string x2], .agg #[.bool y1, .string y2]]) := (List.cons.inj e5).1
    clear hold hp hsz e5
    go_simp
    exact hK.out _ _ ⟨hB, rfl, Nat.le_refl _, .inl (Below.refl _ _), fun h => absurd h (by decide)⟩
  refine Stps.cons (o := _) ?_ ?_
  · intro ac yw hsz hold hB hp K hK
    have e5 := hp 5 (by decide)
    have t5 : ac.tmps[5]? = some (.tuple #[.agg #[.bool x1, .string x2], .agg #[.bool y1, .string y2]]) := (List.cons.inj e5).1
    clear hold hp hsz e5
    go_simp
    exact hK.out _ _ ⟨hB, rfl, Nat.le_refl _, .inl (Below.refl _ _), fun h => absurd h (by decide)⟩
  refine Stps.cons (o := _) ?_ ?_
  · intro ac yw hsz hold hB hp K hK
    clear hold hp hsz
    have hk0 := hB.now.1.lt
    have hsl := Slot2.new yw (.bool false) (.string ⟨#[]⟩) 56
    have hbz : Below yw.heap.size yw (yw.alloc (.cells #[.bool false, .string ⟨#[]⟩] 56)) ∧ yw.heap.size < (yw.alloc (.cells #[.bool false, .string ⟨#[]⟩] 56)).heap.size := ⟨(Below.refl _ _).alloc (Nat.le_refl _) _, by simp⟩
    go_simp
    exact hK.out _ _ ⟨hB.alloc _, Exists.intro yw.heap.size (Exists.intro false (Exists.intro ⟨#[]⟩ (And.intro rfl (And.intro hsl hk0)))), Nat.le_of_lt hbz.2, .inl hbz.1, fun _ => ⟨_, rfl, Nat.le_refl _, hbz.2⟩⟩
  refine Stps.cons (o := _) ?_ ?_
  · intro ac yw hsz hold hB hp K hK
    clear hold hp hsz
    have hk0 := hB.now.1.lt
    have hsl := Slot2.new yw (.bool false) (.string ⟨#[]⟩) 56
    have hbz : Below yw.heap.size yw (yw.alloc (.cells #[.bool false, .string ⟨#[]⟩] 56)) ∧ yw.heap.size < (yw.alloc (.cells #[.bool false, .string ⟨#[]⟩] 56)).heap.size := ⟨(Below.refl _ _).alloc (Nat.le_refl _) _, by simp⟩
    go_simp
    exact hK.out _ _ ⟨hB.alloc _, Exists.intro yw.heap.size (Exists.intro false (Exists.intro ⟨#[]⟩ (And.intro rfl (And.intro hsl hk0)))), Nat.le_of_lt hbz.2, .inl hbz.1, fun _ => ⟨_, rfl, Nat.le_refl _, hbz.2⟩⟩
  refine Stps.cons (o := _) ?_ ?_
  · intro ac yw hsz hold hB hp K hK
    obtain ⟨k8_8, b0_8, s0_8, e8, g8_0, g8_1⟩ := hp 8 (by decide)
    have t3 : ac.tmps[3]? = some (.pointer (some ⟨k8_8, 0, none⟩)) := (List.cons.inj e8).1
    have e6 := hp 6 (by decide)
    have t11 : ac.tmps[11]? = some (.agg #[.bool x1, .string x2]) := (List.cons.inj e6).1
    clear hold hp hsz e8 e6
    have hs := g8_0
    have l0 := hs.cell
    have l1 := hs.cell1
    have f0 := hs.free
    have f1 := hs.free1
    have HB := HP.out _ _ hs g8_1 hB x1 x2
    go_simp
    refine hK.out undef _ ⟨HB, Exists.intro k8_8 (And.intro (congrArg (fun x => [x]) t3) (hs.set2 (.bool x1) (.string x2))), by simp, .inr ?_, fun h => absurd h (by decide)⟩
    intro jj hj hap h
    match jj, h with
    | 0, h => exact h
    | 1, h => exact h
    | 2, h => exact h
    | 3, h => exact h
    | 4, h => exact h
    | 5, h => exact h
    | 6, h => exact h
    | 7, h => exact h
    | 8, ⟨k8, b0, s0, e8, g8_0, g8_1⟩ =>
      have e9 : k8 = k8_8 := by have := (List.cons.inj e8).1.symm.trans t3; cases this; rfl
      subst e9
      exact Exists.intro _ (Exists.intro _ (Exists.intro _ (And.intro e8 (And.intro (g8_0.set2 _ _) g8_1))))
    | 9, ⟨k9, b0, s0, e9, g9_0, g9_1⟩ =>
      have hne : k9 ≠ k8_8 := fun e => hap 8 (by decide) 9 (by decide) (by decide) (by decide) (by decide) k8_8 ⟨3, rfl, t3⟩ ⟨4, rfl, e ▸ (List.cons.inj e9).1⟩
      exact Exists.intro k9 (Exists.intro b0 (Exists.intro s0 (And.intro e9 (And.intro (Slot2.set2o g9_0 hne _ _) g9_1))))
    | 10, _ => exact absurd rfl hj
    | 11, ⟨k9, e11, g11_0⟩ =>
      have hne : k9 ≠ k8_8 := fun e => hap 8 (by decide) 9 (by decide) (by decide) (by decide) (by decide) k8_8 ⟨3, rfl, t3⟩ ⟨4, rfl, e ▸ (List.cons.inj e11).1⟩
      exact Exists.intro k9 (And.intro e11 (Slot2.set2o g11_0 hne _ _))
    | _ + 12, h => exact h
  refine Stps.cons (o := _) ?_ ?_
  · intro ac yw hsz hold hB hp K hK
    obtain ⟨k9_9, b0_9, s0_9, e9, g9_0, g9_1⟩ := hp 9 (by decide)
    have t4 : ac.tmps[4]? = some (.pointer (some ⟨k9_9, 0, none⟩)) := (List.cons.inj e9).1
    have e7 := hp 7 (by decide)
    have t12 : ac.tmps[12]? = some (.agg #[.bool y1, .string y2]) := (List.cons.inj e7).1
    clear hold hp hsz e9 e7
    have hs := g9_0
    have l0 := hs.cell
    have l1 := hs.cell1
    have f0 := hs.free
    have f1 := hs.free1
    have HB := HP.out _ _ hs g9_1 hB y1 y2
    go_simp
    refine hK.out undef _ ⟨HB, Exists.intro k9_9 (And.intro (congrArg (fun x => [x]) t4) (hs.set2 (.bool y1) (.string y2))), by simp, .inr ?_, fun h => absurd h (by decide)⟩
    intro jj hj hap h
    match jj, h with
    | 0, h => exact h
    | 1, h => exact h
    | 2, h => exact h
    | 3, h => exact h
    | 4, h => exact h
    | 5, h => exact h
    | 6, h => exact h
    | 7, h => exact h
    | 8, ⟨k8, b0, s0, e8, g8_0, g8_1⟩ =>
      have hne : k8 ≠ k9_9 := fun e => hap 9 (by decide) 8 (by decide) (by decide) (by decide) (by decide) k9_9 ⟨4, rfl, t4⟩ ⟨3, rfl, e ▸ (List.cons.inj e8).1⟩
      exact Exists.intro k8 (Exists.intro b0 (Exists.intro s0 (And.intro e8 (And.intro (Slot2.set2o g8_0 hne _ _) g8_1))))
    | 9, ⟨k9, b0, s0, e9, g9_0, g9_1⟩ =>
      have e9 : k9 = k9_9 := by have := (List.cons.inj e9).1.symm.trans t4; cases this; rfl
      subst e9
      exact Exists.intro _ (Exists.intro _ (Exists.intro _ (And.intro e9 (And.intro (g9_0.set2 _ _) g9_1))))
    | 10, ⟨k8, e10, g10_0⟩ =>
      have hne : k8 ≠ k9_9 := fun e => hap 9 (by decide) 8 (by decide) (by decide) (by decide) (by decide) k9_9 ⟨4, rfl, t4⟩ ⟨3, rfl, e ▸ (List.cons.inj e10).1⟩
      exact Exists.intro k8 (And.intro e10 (Slot2.set2o g10_0 hne _ _))
    | 11, _ => exact absurd rfl hj
    | _ + 12, h => exact h
  exact Stps.nil _

end Go.Proofs.YtgpcfncolhmgfaaGreatDoor
