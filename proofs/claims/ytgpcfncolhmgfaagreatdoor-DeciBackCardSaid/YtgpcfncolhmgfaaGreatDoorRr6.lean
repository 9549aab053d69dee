/-
  The document's answers (package typeballref03): Mul, by contract.
  The document's answers (package typeballref03): Add, by contract.
-/
import Derived.Test.YtgpcfncolhmgfaaGreatDoorRr1
import Derived.Test.YtgpcfncolhmgfaaGreatDoorRa9
import Derived.Test.YtgpcfncolhmgfaaGreatDoorInv
namespace Go.Proofs.YtgpcfncolhmgfaaGreatDoor
open Go.RowKit
attribute [local go_sem ↓] Go.wp_at_zero Go.wp_at_succ

theorem nw_nat (Z : Int) {Q : Nat} : nwP Z (Q : Int) = loP Z Q ∧ nwQ Z (Q : Int) = loQ Z Q := by
  unfold nwP nwQ upZ
  rw [if_neg (by omega), Int.natAbs_natCast]
  exact ⟨rfl, rfl⟩

set_option linter.unusedSimpArgs false in
set_option maxHeartbeats 6400000 in
set_option maxRecDepth 100000 in
theorem r3Mul_any (P : Int) (Q : Nat) (P' : Int) (Q' : Nat) (w : World) (hQ : 0 < Q) (hQ' : 0 < Q') (h1 : dl P.natAbs ≤ 400) (h2 : dl Q ≤ 400) (h3 : dl P'.natAbs ≤ 400) (h4 : dl Q' ≤ 400) :
    Calls Tryz.prog 49 #[.agg #[.bool (rB P), .string (rS P), .string (str (dec Q))], .agg #[.bool (rB P'), .string (rS P'), .string (str (dec Q'))]] w fun e w' => NumTold w w' e (tmP P Q P' Q') (tmQ P Q P' Q') := by
  have BB := Lib.hid (((Bag.start w).box3 (.bool (rB P)) (.string (rS P)) (.string (str (dec Q))) 34).box3 (.bool (rB P')) (.string (rS P')) (.string (str (dec Q'))) 34 |>.box3 (.bool false) (.string ⟨#[]⟩) (.string ⟨#[]⟩) 34 |>.drew)
  simp only [World.size_alloc] at BB
  have TA : Hid (∀ wz, Calls Tryz.prog 87 #[.agg #[.bool (rB P), .string (rS P), .string (str (dec Q))]] wz fun e w' => RTold wz w' e P) := fun wz => r3Top_any P _ wz (by omega)
  have TB : Hid (∀ wz, Calls Tryz.prog 87 #[.agg #[.bool (rB P'), .string (rS P'), .string (str (dec Q'))]] wz fun e w' => RTold wz w' e P') := fun wz => r3Top_any P' _ wz (by omega)
  have BA : Hid (∀ wz, Calls Tryz.prog 88 #[.agg #[.bool (rB P), .string (rS P), .string (str (dec Q))]] wz fun e w' => RTold wz w' e (Q : Int)) := fun wz => r3Bot_any _ _ Q wz (by omega)
  have BB2 : Hid (∀ wz, Calls Tryz.prog 88 #[.agg #[.bool (rB P'), .string (rS P'), .string (str (dec Q'))]] wz fun e w' => RTold wz w' e (Q' : Int)) := fun wz => r3Bot_any _ _ Q' wz (by omega)
  have M1 := Lib.hid (fun wz => rMul_any P P' wz (by omega) (by omega))
  have M2 := Lib.hid (fun wz => rMul_any (Q : Int) (Q' : Int) wz (by rw [Int.natAbs_natCast]; omega) (by rw [Int.natAbs_natCast]; omega))
  rw [← Int.natCast_mul] at M2
  have NW := Lib.hid (fun wz => r3New_some (P * P') ((Q * Q' : Nat) : Int) wz (by have := Nat.mul_pos hQ hQ'; omega) (by rw [Int.natAbs_mul]; exact Nat.le_trans (dl_mul4 h1 h3) (by omega)) (by rw [Int.natAbs_natCast]; exact Nat.le_trans (dl_mul4 h2 h4) (by omega)))
  rw [(nw_nat (P * P') (Q := Q * Q')).1, (nw_nat (P * P') (Q := Q * Q')).2, show loP (P * P') (Q * Q') = tmP P Q P' Q' from rfl, show loQ (P * P') (Q * Q') = tmQ P Q P' Q' from rfl] at NW
  generalize tmP P Q P' Q' = X1 at *
  generalize tmQ P Q P' Q' = X2 at *
  have HF := Lib.hid (fun w2 b x y (hb : Below w.heap.size w w2) (h1 : rB X1 = b) (h2 : rS X1 = x) (h3 : str (dec X2) = y) => NumTold.done (k := w.heap.size + 1 + 1) X1 X2 hb (by omega) h1 h2 h3)
  unfold RTold at TA TB BA BB2 M1 M2
  unfold NumTold3 at NW
  obtain ⟨x1, hx1⟩ : ∃ x, rB X1 = x := ⟨_, rfl⟩
  obtain ⟨x2, hx2⟩ : ∃ x, rS X1 = x := ⟨_, rfl⟩
  obtain ⟨x3, hx3⟩ : ∃ x, str (dec X2) = x := ⟨_, rfl⟩
  rw [hx1, hx2, hx3] at NW
  have HX := Lib.hid (And.intro hx1 (And.intro hx2 hx3))
  generalize rB (P * P') = u1 at *
  generalize rS (P * P') = u2 at *
  generalize rB ((Q * Q' : Nat) : Int) = v1 at *
  generalize rS ((Q * Q' : Nat) : Int) = v2 at *
  generalize rB (Q : Int) = qb at *
  generalize rS (Q : Int) = qs at *
  generalize rB (Q' : Int) = qb' at *
  generalize rS (Q' : Int) = qs' at *
  generalize rB P = pb at *
  generalize rS P = ps at *
  generalize rB P' = pb' at *
  generalize rS P' = ps' at *
  generalize str (dec Q) = q at *
  generalize str (dec Q') = q' at *
  clear h1 h2 h3 h4 hx1 hx2 hx3 hQ hQ'
  have HP : Hid (∀ (y : World) (k : Nat) {b0 : Bool} {s0 t0 : ByteArray}, Slot3 y k (.bool b0) (.string s0) (.string t0) → w.heap.size + 1 + 1 < k → Bag w (fun y => Slot3 y (w.heap.size + 1 + 1) (.bool false) (.string ⟨#[]⟩) (.string ⟨#[]⟩) ∧ Slot3 y (w.heap.size + 1) (.bool pb') (.string ps') (.string q') ∧ Slot3 y w.heap.size (.bool pb) (.string ps) (.string q) ∧ True) y → ∀ (z1 : Bool) (z2 z3 : ByteArray), Bag w (fun y => Slot3 y (w.heap.size + 1 + 1) (.bool false) (.string ⟨#[]⟩) (.string ⟨#[]⟩) ∧ Slot3 y (w.heap.size + 1) (.bool pb') (.string ps') (.string q') ∧ Slot3 y w.heap.size (.bool pb) (.string ps) (.string q) ∧ True) (((y.setCell ⟨k, 0, none⟩ (.bool z1)).setCell ⟨k, 1, none⟩ (.string z2)).setCell ⟨k, 2, none⟩ (.string z3))) := by
    intro y k b0 s0 t0 s hk B z1 z2 z3
    have q := B.now
    exact ⟨((B.below.setCell (p := ⟨k, 0, none⟩) (show w.heap.size ≤ k by omega) _).setCell (p := ⟨k, 1, none⟩) (show w.heap.size ≤ k by omega) _).setCell (p := ⟨k, 2, none⟩) (show w.heap.size ≤ k by omega) _, B.stay, q.1.set3o (by omega) _ _ _, q.2.1.set3o (by omega) _ _ _, q.2.2.1.set3o (by omega) _ _ _, trivial⟩
  go_enter Tryz.func49, Tryz.ntmps49
  go_wp2_with fail
  refine wp_region_inv ⟨(fun j => ([[8], [9], [10], [11], [12], [13], [14], [15], [16], [17], [18], [7], [19], [20], [5], [5], [6]] : List (List Nat)).getD j []), (fun j => ([[], [0], [], [0, 1, 2], [0, 1, 2, 3], [], [0, 1, 2, 3, 4, 5], [], [0, 1, 2, 3, 4, 5, 6, 7], [0, 1, 2, 3, 4, 5, 6, 7, 8], [0, 1, 2, 3, 4, 5, 6, 7, 8, 9], [0, 1, 2, 3, 4, 5, 6, 7, 8, 9, 10], [0, 1, 2, 3, 4, 5, 6, 7, 8, 9, 10, 11], [0, 1, 2, 3, 4, 5, 6, 7, 8, 9, 10, 11], [], [0, 1, 2, 3, 4, 5, 6, 7, 8, 9, 10, 11, 12, 14], [0, 1, 2, 3, 4, 5, 6, 7, 8, 9, 10, 11, 12, 13, 14, 15]] : List (List Nat)).getD j []), [14]⟩ (fun jj vv yy => match jj with | 0 => vv = [some (.agg #[.bool pb, .string ps, .string q])] | 1 => vv = [some (.agg #[.bool pb, .string ps])] | 2 => vv = [some (.agg #[.bool pb', .string ps', .string q'])] | 3 => vv = [some (.agg #[.bool pb', .string ps'])] | 4 => vv = [some (.agg #[.bool u1, .string u2])] | 5 => vv = [some (.agg #[.bool pb, .string ps, .string q])] | 6 => vv = [some (.agg #[.bool qb, .string qs])] | 7 => vv = [some (.agg #[.bool pb', .string ps', .string q'])] | 8 => vv = [some (.agg #[.bool qb', .string qs'])] | 9 => vv = [some (.agg #[.bool v1, .string v2])] | 10 => vv = [some (.tuple #[.agg #[.bool x1, .string x2, .string x3], .bool true])] | 11 => vv = [some (.tuple #[.agg #[.bool x1, .string x2, .string x3], .bool true])] | 12 => vv = [some (.agg #[.bool x1, .string x2, .string x3])] | 13 => vv = [some (.bool true)] | 14 => ∃ (k14 : Nat), ∃ (b0 : Bool), ∃ (s0 : ByteArray), ∃ (t0 : ByteArray), vv = [some (.pointer (some ⟨k14, 0, none⟩))] ∧ Slot3 yy k14 (.bool b0) (.string s0) (.string t0) ∧ w.heap.size + 1 + 1 < k14 | 15 => ∃ (k14 : Nat), vv = [some (.pointer (some ⟨k14, 0, none⟩))] ∧ Slot3 yy k14 (.bool x1) (.string x2) (.string x3) | 16 => vv = [some (.bool true)] | _ => True) (Bag w (fun y => Slot3 y (w.heap.size + 1 + 1) (.bool false) (.string ⟨#[]⟩) (.string ⟨#[]⟩) ∧ Slot3 y (w.heap.size + 1) (.bool pb') (.string ps') (.string q') ∧ Slot3 y w.heap.size (.bool pb) (.string ps) (.string q) ∧ True)) (by kernel_rfl) (by kernel_rfl) (by kernel_rfl) BB.out ?_ ?_ ?_
  · intro jj vv yw yw2 hb h
    match jj, h with
    | 0, h => exact h
    | 1, h => exact h
    | 2, h => exact h
    | 3, h => exact h
    | 4, h => exact h
    | 5, h => exact h
    | 6, h => exact h
    | 7, h => exact h
    | 8, h => exact h
    | 9, h => exact h
    | 10, h => exact h
    | 11, h => exact h
    | 12, h => exact h
    | 13, h => exact h
    | 14, ⟨k14, b0, s0, t0, e14, g14_0, g14_1⟩ => exact Exists.intro k14 (Exists.intro b0 (Exists.intro s0 (Exists.intro t0 (And.intro e14 (And.intro (g14_0.below hb) g14_1)))))
    | 15, ⟨k14, e15, g15_0⟩ => exact Exists.intro k14 (And.intro e15 (g15_0.below hb))
    | 16, h => exact h
    | _ + 17, h => exact h
  · intro ac yw hsz hdf hold hB hp
    obtain ⟨k14, e15, hs⟩ := hp 15 (by decide)
    have t5 : ac.tmps[5]? = some (.pointer (some ⟨k14, 0, none⟩)) := (List.cons.inj e15).1
    have t4 : ac.tmps[4]? = some (.pointer (some ⟨w.heap.size + 1 + 1, 0, none⟩)) := hold 4 (by kernel_rfl)
    have e6 := hp 16 (by decide)
    have t6 : ac.tmps[6]? = some (.bool true) := (List.cons.inj e6).1
    clear hold hp e15 e6
    obtain ⟨⟨l⟩, df⟩ := ac
    match l, hsz with
    | [u0, u1, u2, u3, u4, u5, u6, u7, u8, u9, u10, u11, u12, u13, u14, u15, u16, u17, u18, u19, u20, u21], _ =>
    obtain rfl := Option.some.inj (show some u4 = _ from t4)
    obtain rfl := Option.some.inj (show some u5 = _ from t5)
    obtain rfl := Option.some.inj (show some u6 = _ from t6)
    have q0 := hs.cell
    have q1 := hs.cell1
    have q2 := hs.cell2
    have hr := hB.now.1
    have r0 := hr.cell
    have r1 := hr.cell1
    have r2 := hr.cell2
    have g0 := hr.free
    have g1 := hr.free1
    have g2 := hr.free2
    have HS := hr.set (.bool x1) (.string x2) (.string x3)
    have HE := Lib.hid (HF.out _ x1 x2 x3 hB.below HX.out.1 HX.out.2.1 HX.out.2.2)
    clear hr hs hB
    go_wp2
    exact bodyPost_ret (v := .agg #[.bool x1, .string x2, .string x3]) (by simp [results, Tryz.results49, go_sem, HS]) rfl HE.out
  refine Stps.cons (o := _) ?_ ?_
  · intro ac yw hsz hold hB hp K hK
    have t2 : ac.tmps[2]? = some (.pointer (some ⟨w.heap.size, 0, none⟩)) := hold 2 (by kernel_rfl)
    clear hold hp hsz
    have q1 := hB.now.2.1.cell
    have q2 := hB.now.2.1.cell1
    have q3 := hB.now.2.1.cell2
    have r1 := hB.now.2.2.1.cell
    have r2 := hB.now.2.2.1.cell1
    have r3 := hB.now.2.2.1.cell2
    go_simp
    exact hK.out _ _ ⟨hB, rfl, Nat.le_refl _, .inl (Below.refl _ _), fun h => absurd h (by decide)⟩
  refine Stps.cons (o := _) ?_ ?_
  · intro ac yw hsz hold hB hp K hK
    have e0 := hp 0 (by decide)
    have t8 : ac.tmps[8]? = some (.agg #[.bool pb, .string ps, .string q]) := (List.cons.inj e0).1
    clear hold hp hsz e0
    go_simp
    (go_at_call 87; (with_reducible refine (TA.out _).mono ?_); rintro e wz ⟨rfl, hbz⟩)
    exact hK.out _ _ ⟨hB.go hbz, rfl, hbz.size, .inl hbz, fun h => absurd h (by decide)⟩
  refine Stps.cons (o := _) ?_ ?_
  · intro ac yw hsz hold hB hp K hK
    have t3 : ac.tmps[3]? = some (.pointer (some ⟨w.heap.size + 1, 0, none⟩)) := hold 3 (by kernel_rfl)
    clear hold hp hsz
    have q1 := hB.now.2.1.cell
    have q2 := hB.now.2.1.cell1
    have q3 := hB.now.2.1.cell2
    have r1 := hB.now.2.2.1.cell
    have r2 := hB.now.2.2.1.cell1
    have r3 := hB.now.2.2.1.cell2
    go_simp
    exact hK.out _ _ ⟨hB, rfl, Nat.le_refl _, .inl (Below.refl _ _), fun h => absurd h (by decide)⟩
  refine Stps.cons (o := _) ?_ ?_
  · intro ac yw hsz hold hB hp K hK
    have e2 := hp 2 (by decide)
    have t10 : ac.tmps[10]? = some (.agg #[.bool pb', .string ps', .string q']) := (List.cons.inj e2).1
    clear hold hp hsz e2
    go_simp
    (go_at_call 87; (with_reducible refine (TB.out _).mono ?_); rintro e wz ⟨rfl, hbz⟩)
    exact hK.out _ _ ⟨hB.go hbz, rfl, hbz.size, .inl hbz, fun h => absurd h (by decide)⟩
  refine Stps.cons (o := _) ?_ ?_
  · intro ac yw hsz hold hB hp K hK
    have e1 := hp 1 (by decide)
    have t9 : ac.tmps[9]? = some (.agg #[.bool pb, .string ps]) := (List.cons.inj e1).1
    have e3 := hp 3 (by decide)
    have t11 : ac.tmps[11]? = some (.agg #[.bool pb', .string ps']) := (List.cons.inj e3).1
    clear hold hp hsz e1 e3
    go_simp
    (go_at_call 86; (with_reducible refine (M1.out _).mono ?_); rintro e wz ⟨rfl, hbz⟩)
    exact hK.out _ _ ⟨hB.go hbz, rfl, hbz.size, .inl hbz, fun h => absurd h (by decide)⟩
  refine Stps.cons (o := _) ?_ ?_
  · intro ac yw hsz hold hB hp K hK
    have t2 : ac.tmps[2]? = some (.pointer (some ⟨w.heap.size, 0, none⟩)) := hold 2 (by kernel_rfl)
    clear hold hp hsz
    have q1 := hB.now.2.1.cell
    have q2 := hB.now.2.1.cell1
    have q3 := hB.now.2.1.cell2
    have r1 := hB.now.2.2.1.cell
    have r2 := hB.now.2.2.1.cell1
    have r3 := hB.now.2.2.1.cell2
    go_simp
    exact hK.out _ _ ⟨hB, rfl, Nat.le_refl _, .inl (Below.refl _ _), fun h => absurd h (by decide)⟩
  refine Stps.cons (o := _) ?_ ?_
  · intro ac yw hsz hold hB hp K hK
    have e5 := hp 5 (by decide)
    have t13 : ac.tmps[13]? = some (.agg #[.bool pb, .string ps, .string q]) := (List.cons.inj e5).1
    clear hold hp hsz e5
    go_simp
    (go_at_call 88; (with_reducible refine (BA.out _).mono ?_); rintro e wz ⟨rfl, hbz⟩)
    exact hK.out _ _ ⟨hB.go hbz, rfl, hbz.size, .inl hbz, fun h => absurd h (by decide)⟩
  refine Stps.cons (o := _) ?_ ?_
  · intro ac yw hsz hold hB hp K hK
    have t3 : ac.tmps[3]? = some (.pointer (some ⟨w.heap.size + 1, 0, none⟩)) := hold 3 (by kernel_rfl)
    clear hold hp hsz
    have q1 := hB.now.2.1.cell
    have q2 := hB.now.2.1.cell1
    have q3 := hB.now.2.1.cell2
    have r1 := hB.now.2.2.1.cell
    have r2 := hB.now.2.2.1.cell1
    have r3 := hB.now.2.2.1.cell2
    go_simp
    exact hK.out _ _ ⟨hB, rfl, Nat.le_refl _, .inl (Below.refl _ _), fun h => absurd h (by decide)⟩
  refine Stps.cons (o := _) ?_ ?_
  · intro ac yw hsz hold hB hp K hK
    have e7 := hp 7 (by decide)
    have t15 : ac.tmps[15]? = some (.agg #[.bool pb', .string ps', .string q']) := (List.cons.inj e7).1
    clear hold hp hsz e7
    go_simp
    (go_at_call 88; (with_reducible refine (BB2.out _).mono ?_); rintro e wz ⟨rfl, hbz⟩)
    exact hK.out _ _ ⟨hB.go hbz, rfl, hbz.size, .inl hbz, fun h => absurd h (by decide)⟩
  refine Stps.cons (o := _) ?_ ?_
  · intro ac yw hsz hold hB hp K hK
    have e6 := hp 6 (by decide)
    have t14 : ac.tmps[14]? = some (.agg #[.bool qb, .string qs]) := (List.cons.inj e6).1
    have e8 := hp 8 (by decide)
    have t16 : ac.tmps[16]? = some (.agg #[.bool qb', .string qs']) := (List.cons.inj e8).1
    clear hold hp hsz e6 e8
    go_simp
    (go_at_call 86; (with_reducible refine (M2.out _).mono ?_); rintro e wz ⟨rfl, hbz⟩)
    exact hK.out _ _ ⟨hB.go hbz, rfl, hbz.size, .inl hbz, fun h => absurd h (by decide)⟩
  refine Stps.cons (o := _) ?_ ?_
  · intro ac yw hsz hold hB hp K hK
    have e4 := hp 4 (by decide)
    have t12 : ac.tmps[12]? = some (.agg #[.bool u1, .string u2]) := (List.cons.inj e4).1
    have e9 := hp 9 (by decide)
    have t17 : ac.tmps[17]? = some (.agg #[.bool v1, .string v2]) := (List.cons.inj e9).1
    clear hold hp hsz e4 e9
    go_simp
    (go_at_call 85; (with_reducible refine (NW.out _).mono ?_); rintro e wz ⟨rfl, hbz⟩)
    exact hK.out _ _ ⟨hB.go hbz, rfl, hbz.size, .inl hbz, fun h => absurd h (by decide)⟩
  refine Stps.cons (o := _) ?_ ?_
  · intro ac yw hsz hold hB hp K hK
    have e10 := hp 10 (by decide)
    have t18 : ac.tmps[18]? = some (.tuple #[.agg #[.bool x1, .string x2, .string x3], .bool true]) := (List.cons.inj e10).1
    clear hold hp hsz e10
    go_simp
    exact hK.out _ _ ⟨hB, rfl, Nat.le_refl _, .inl (Below.refl _ _), fun h => absurd h (by decide)⟩
  refine Stps.cons (o := _) ?_ ?_
  · intro ac yw hsz hold hB hp K hK
    have e11 := hp 11 (by decide)
    have t7 : ac.tmps[7]? = some (.tuple #[.agg #[.bool x1, .string x2, .string x3], .bool true]) := (List.cons.inj e11).1
    clear hold hp hsz e11
    go_simp
    exact hK.out _ _ ⟨hB, rfl, Nat.le_refl _, .inl (Below.refl _ _), fun h => absurd h (by decide)⟩
  refine Stps.cons (o := _) ?_ ?_
  · intro ac yw hsz hold hB hp K hK
    have e11 := hp 11 (by decide)
    have t7 : ac.tmps[7]? = some (.tuple #[.agg #[.bool x1, .string x2, .string x3], .bool true]) := (List.cons.inj e11).1
    clear hold hp hsz e11
    go_simp
    exact hK.out _ _ ⟨hB, rfl, Nat.le_refl _, .inl (Below.refl _ _), fun h => absurd h (by decide)⟩
  refine Stps.cons (o := _) ?_ ?_
  · intro ac yw hsz hold hB hp K hK
    clear hold hp hsz
    have hk0 := hB.now.1.lt
    have hsl := Slot3.new yw (.bool false) (.string ⟨#[]⟩) (.string ⟨#[]⟩) 34
    have hbz : Below yw.heap.size yw (yw.alloc (.cells #[.bool false, .string ⟨#[]⟩, .string ⟨#[]⟩] 34)) ∧ yw.heap.size < (yw.alloc (.cells #[.bool false, .string ⟨#[]⟩, .string ⟨#[]⟩] 34)).heap.size := ⟨(Below.refl _ _).alloc (Nat.le_refl _) _, by simp⟩
    go_simp
    exact hK.out _ _ ⟨hB.alloc _, Exists.intro yw.heap.size (Exists.intro false (Exists.intro ⟨#[]⟩ (Exists.intro ⟨#[]⟩ (And.intro rfl (And.intro hsl hk0))))), Nat.le_of_lt hbz.2, .inl hbz.1, fun _ => ⟨_, rfl, Nat.le_refl _, hbz.2⟩⟩
  refine Stps.cons (o := _) ?_ ?_
  · intro ac yw hsz hold hB hp K hK
    obtain ⟨k14_14, b0_14, s0_14, t0_14, e14, g14_0, g14_1⟩ := hp 14 (by decide)
    have t5 : ac.tmps[5]? = some (.pointer (some ⟨k14_14, 0, none⟩)) := (List.cons.inj e14).1
    have e12 := hp 12 (by decide)
    have t19 : ac.tmps[19]? = some (.agg #[.bool x1, .string x2, .string x3]) := (List.cons.inj e12).1
    clear hold hp hsz e14 e12
    have hs := g14_0
    have l0 := hs.cell
    have l1 := hs.cell1
    have l2 := hs.cell2
    have f0 := hs.free
    have f1 := hs.free1
    have f2 := hs.free2
    have HB := HP.out _ _ hs g14_1 hB x1 x2 x3
    go_simp
    refine hK.out undef _ ⟨HB, Exists.intro k14_14 (And.intro (congrArg (fun x => [x]) t5) (hs.set3 (.bool x1) (.string x2) (.string x3))), by simp, .inr ?_, fun h => absurd h (by decide)⟩
    intro jj hj hap h
    match jj, h with
    | 0, h => exact h
    | 1, h => exact h
    | 2, h => exact h
    | 3, h => exact h
    | 4, h => exact h
    | 5, h => exact h
    | 6, h => exact h
    | 7, h => exact h
    | 8, h => exact h
    | 9, h => exact h
    | 10, h => exact h
    | 11, h => exact h
    | 12, h => exact h
    | 13, h => exact h
    | 14, ⟨k14, b0, s0, t0, e14, g14_0, g14_1⟩ =>
      have e9 : k14 = k14_14 := by have := (List.cons.inj e14).1.symm.trans t5; cases this; rfl
      subst e9
      exact Exists.intro _ (Exists.intro _ (Exists.intro _ (Exists.intro _ (And.intro e14 (And.intro (g14_0.set3 _ _ _) g14_1)))))
    | 15, _ => exact absurd rfl hj
    | 16, h => exact h
    | _ + 17, h => exact h
  refine Stps.cons (o := _) ?_ ?_
  · intro ac yw hsz hold hB hp K hK
    have e13 := hp 13 (by decide)
    have t20 : ac.tmps[20]? = some (.bool true) := (List.cons.inj e13).1
    clear hold hp hsz e13
    go_simp
    exact hK.out _ _ ⟨hB, rfl, Nat.le_refl _, .inl (Below.refl _ _), fun h => absurd h (by decide)⟩
  exact Stps.nil _

end Go.Proofs.YtgpcfncolhmgfaaGreatDoor

namespace Go.Proofs.YtgpcfncolhmgfaaGreatDoor
open Go.RowKit
attribute [local go_sem ↓] Go.wp_at_zero Go.wp_at_succ

end Go.Proofs.YtgpcfncolhmgfaaGreatDoor

