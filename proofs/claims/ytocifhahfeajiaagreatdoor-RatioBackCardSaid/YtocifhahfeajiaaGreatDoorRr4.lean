/-
  The document's answers (package typeballref03): Div, Cmp, by contract.
-/
import Derived.Test.YtocifhahfeajiaaGreatDoorRr2
namespace Go.Proofs.YtocifhahfeajiaaGreatDoor
open Go.RowKit
attribute [local go_sem ↓] Go.wp_at_zero Go.wp_at_succ

theorem dl_mul4 {x y : Nat} (h : dl x ≤ 400) (g : dl y ≤ 400) : dl (x * y) ≤ 800 := by
  obtain ⟨K, hK⟩ : ∃ K, K = 400 := ⟨_, rfl⟩
  refine Nat.le_trans (dl_le _ (K + K) (by omega) ?_) (by omega)
  rw [Nat.pow_add]
  exact Nat.mul_lt_mul'' (Nat.lt_of_lt_of_le (dl_lt x) (Nat.pow_le_pow_right (by omega) (by omega))) (Nat.lt_of_lt_of_le (dl_lt y) (Nat.pow_le_pow_right (by omega) (by omega)))
theorem dl_mulZ {Z : Int} {y : Nat} (h : dl Z.natAbs ≤ 400) (g : dl y ≤ 400) : dl (Z * (y : Int)).natAbs ≤ 800 := by rw [Int.natAbs_mul, Int.natAbs_natCast]; exact dl_mul4 h g
theorem dl_mulY {Z : Int} {y : Nat} (h : dl Z.natAbs ≤ 400) (g : dl y ≤ 400) : dl ((y : Int) * Z).natAbs ≤ 800 := by rw [Int.mul_comm]; exact dl_mulZ h g

set_option maxHeartbeats 6400000 in
set_option maxRecDepth 100000 in
theorem r3Div_walk (P : Int) (Q : Nat) (P' : Int) (Q' : Nat) (w : World) (h1 : dl P.natAbs ≤ 400) (h2 : dl Q ≤ 400) (h3 : dl P'.natAbs ≤ 400) (h4 : dl Q' ≤ 400) (X1 : Int) (X2 : Nat) (ok : Bool)
    (NW : Hid (∀ wz, Calls Tryz.prog 105 #[.agg #[.bool (rB (P * Q')), .string (rS (P * Q'))], .agg #[.bool (rB ((Q : Int) * P')), .string (rS ((Q : Int) * P'))]] wz fun e w' => NumTold3 wz w' e X1 X2 ok)) :
    Calls Tryz.prog 92 #[.agg #[.bool (rB P), .string (rS P), .string (str (dec Q))], .agg #[.bool (rB P'), .string (rS P'), .string (str (dec Q'))]] w fun e w' => NumTold3 w w' e X1 X2 ok := by
  have BB := Lib.hid (((Bag.start w).box3 (.bool (rB P)) (.string (rS P)) (.string (str (dec Q))) 23).box3 (.bool (rB P')) (.string (rS P')) (.string (str (dec Q'))) 23 |>.box3 (.bool false) (.string ⟨#[]⟩) (.string ⟨#[]⟩) 23 |>.drew)
  simp only [World.size_alloc] at BB
  have TA : Hid (∀ wz, Calls Tryz.prog 103 #[.agg #[.bool (rB P), .string (rS P), .string (str (dec Q))]] wz fun e w' => RTold wz w' e P) := fun wz => r3Top_any P _ wz (by omega)
  have TB : Hid (∀ wz, Calls Tryz.prog 103 #[.agg #[.bool (rB P'), .string (rS P'), .string (str (dec Q'))]] wz fun e w' => RTold wz w' e P') := fun wz => r3Top_any P' _ wz (by omega)
  have BA : Hid (∀ wz, Calls Tryz.prog 104 #[.agg #[.bool (rB P), .string (rS P), .string (str (dec Q))]] wz fun e w' => RTold wz w' e (Q : Int)) := fun wz => r3Bot_any _ _ Q wz (by omega)
  have BB2 : Hid (∀ wz, Calls Tryz.prog 104 #[.agg #[.bool (rB P'), .string (rS P'), .string (str (dec Q'))]] wz fun e w' => RTold wz w' e (Q' : Int)) := fun wz => r3Bot_any _ _ Q' wz (by omega)
  have M1 := Lib.hid (fun wz => rMul_any P (Q' : Int) wz (by omega) (by rw [Int.natAbs_natCast]; omega))
  have M2 := Lib.hid (fun wz => rMul_any (Q : Int) P' wz (by rw [Int.natAbs_natCast]; omega) (by omega))
  have HF := Lib.hid (fun w2 b x y (hb : Below w.heap.size w w2) (h1 : rB X1 = b) (h2 : rS X1 = x) (h3 : str (dec X2) = y) => (show NumTold3 w (((w2.setCell ⟨w.heap.size + 1 + 1, 0, none⟩ (.bool b)).setCell ⟨w.heap.size + 1 + 1, 1, none⟩ (.string x)).setCell ⟨w.heap.size + 1 + 1, 2, none⟩ (.string y)) (.returned (.tuple #[.agg #[.bool b, .string x, .string y], .bool ok])) X1 X2 ok from
    ⟨by rw [h1, h2, h3], ((hb.setCell (p := ⟨w.heap.size + 1 + 1, 0, none⟩) (show w.heap.size ≤ w.heap.size + 1 + 1 by omega) _).setCell (p := ⟨w.heap.size + 1 + 1, 1, none⟩) (show w.heap.size ≤ w.heap.size + 1 + 1 by omega) _).setCell (p := ⟨w.heap.size + 1 + 1, 2, none⟩) (show w.heap.size ≤ w.heap.size + 1 + 1 by omega) _⟩))
  unfold RTold at TA TB BA BB2 M1 M2
  unfold NumTold3 at NW
  obtain ⟨x1, hx1⟩ : ∃ x, rB X1 = x := ⟨_, rfl⟩
  obtain ⟨x2, hx2⟩ : ∃ x, rS X1 = x := ⟨_, rfl⟩
  obtain ⟨x3, hx3⟩ : ∃ x, str (dec X2) = x := ⟨_, rfl⟩
  rw [hx1, hx2, hx3] at NW
  have HX := Lib.hid (And.intro hx1 (And.intro hx2 hx3))
  generalize rB (P * (Q' : Int)) = u1 at *
  generalize rS (P * (Q' : Int)) = u2 at *
  generalize rB ((Q : Int) * P') = v1 at *
  generalize rS ((Q : Int) * P') = v2 at *
  generalize rB (Q : Int) = qb at *
  generalize rS (Q : Int) = qs at *
  generalize rB (Q' : Int) = qb' at *
  generalize rS (Q' : Int) = qs' at *
  generalize rB P = pb at *
  generalize rS P = ps at *
  generalize rB P' = pb' at *
  generalize rS P' = ps' at *
  generalize str (dec Q) = q at *
  generalize str (dec Q') = q' at *
  clear h1 h2 h3 h4 hx1 hx2 hx3
  have he : w.heap.size ≠ w.heap.size + 1 + 1 ∧ w.heap.size + 1 ≠ w.heap.size + 1 + 1 := by omega
  go_enter Tryz.func92, Tryz.ntmps92
  go_wp2_with fail
  go_region_held3 (fun y => (y.cell? ⟨w.heap.size, 0, none⟩ = some (.bool pb) ∧ y.cell? ⟨w.heap.size, 1, none⟩ = some (.string ps) ∧ y.cell? ⟨w.heap.size, 2, none⟩ = some (.string q)) ∧ y.cell? ⟨w.heap.size + 1, 0, none⟩ = some (.bool pb') ∧ y.cell? ⟨w.heap.size + 1, 1, none⟩ = some (.string ps') ∧ y.cell? ⟨w.heap.size + 1, 2, none⟩ = some (.string q'))
    (first
      | (exact ⟨⟨z0.cell, z0.cell1, z0.cell2⟩, z1.cell, z1.cell1, z1.cell2⟩)
      | (exact ⟨⟨BB.out.now.2.2.1.cell, BB.out.now.2.2.1.cell1, BB.out.now.2.2.1.cell2⟩, BB.out.now.2.1.cell, BB.out.now.2.1.cell1, BB.out.now.2.1.cell2⟩))
    (first
      | (go_at_call 103; (with_reducible refine (TA.out _).mono ?_); rintro e w2 ⟨rfl, hb2⟩; have BB := Lib.hid (BB.out.go hb2))
      | (go_at_call 103; (with_reducible refine (TB.out _).mono ?_); rintro e w2 ⟨rfl, hb2⟩; have BB := Lib.hid (BB.out.go hb2))
      | (go_at_call 104; (with_reducible refine (BA.out _).mono ?_); rintro e w2 ⟨rfl, hb2⟩; have BB := Lib.hid (BB.out.go hb2))
      | (go_at_call 104; (with_reducible refine (BB2.out _).mono ?_); rintro e w2 ⟨rfl, hb2⟩; have BB := Lib.hid (BB.out.go hb2))
      | (go_at_call 107; (with_reducible refine (M1.out _).mono ?_); rintro e w2 ⟨rfl, hb2⟩; have BB := Lib.hid (BB.out.go hb2))
      | (go_at_call 107; (with_reducible refine (M2.out _).mono ?_); rintro e w2 ⟨rfl, hb2⟩; have BB := Lib.hid (BB.out.go hb2))
      | (go_at_call 105; (with_reducible refine (NW.out _).mono ?_); rintro e w9 ⟨rfl, hb9⟩; have BB := Lib.hid (BB.out.go hb9); have hs := BB.out.now.1; have r0 := hs.cell; have r1 := hs.cell1; have r2 := hs.cell2; have g0 := hs.free; have g1 := hs.free1; have g2 := hs.free2; have HS := hs.set (.bool x1) (.string x2) (.string x3); have z0 := BB.out.now.2.2.1.set3o he.1 (.bool x1) (.string x2) (.string x3); have z1 := BB.out.now.2.1.set3o he.2 (.bool x1) (.string x2) (.string x3); have HE := Lib.hid (HF.out _ x1 x2 x3 BB.out.below HX.out.1 HX.out.2.1 HX.out.2.2)))
  go_wp2
  exact bodyPost_ret (v := .tuple #[.agg #[.bool x1, .string x2, .string x3], .bool ok]) (by simp [results, Tryz.results92, go_sem, HS]) rfl HE.out

theorem r3Div_zero (P : Int) (Q Q' : Nat) (w : World) (h1 : dl P.natAbs ≤ 400) (h2 : dl Q ≤ 400) (h4 : dl Q' ≤ 400) :
    Calls Tryz.prog 92 #[.agg #[.bool (rB P), .string (rS P), .string (str (dec Q))], .agg #[.bool (rB 0), .string (rS 0), .string (str (dec Q'))]] w fun e w' => NumTold3 w w' e 0 1 false :=
  r3Div_walk P Q 0 Q' w h1 h2 (Nat.le_trans (dl_le _ 1 (by omega) (by decide)) (by omega)) h4 0 1 false (Lib.hid fun wz => by rw [Int.mul_zero]; exact r3New_zero _ wz)
theorem r3Div_some (P : Int) (Q : Nat) (P' : Int) (Q' : Nat) (w : World) (hQ : 0 < Q) (hP : P' ≠ 0) (h1 : dl P.natAbs ≤ 400) (h2 : dl Q ≤ 400) (h3 : dl P'.natAbs ≤ 400) (h4 : dl Q' ≤ 400) :
    Calls Tryz.prog 92 #[.agg #[.bool (rB P), .string (rS P), .string (str (dec Q))], .agg #[.bool (rB P'), .string (rS P'), .string (str (dec Q'))]] w fun e w' => NumTold3 w w' e (nwP (P * Q') (P' * Q)) (nwQ (P * Q') (P' * Q)) true := by
  rw [Int.mul_comm P' (Q : Int)]
  exact r3Div_walk P Q P' Q' w h1 h2 h3 h4 _ _ true (Lib.hid fun wz => r3New_some _ _ wz (Int.mul_ne_zero (by omega) hP) (Nat.le_trans (dl_mulZ h1 h4) (by omega)) (Nat.le_trans (dl_mulY h3 h2) (by omega)))

set_option maxHeartbeats 6400000 in
set_option maxRecDepth 100000 in
theorem r3Cmp_any (P : Int) (Q : Nat) (P' : Int) (Q' : Nat) (w : World) (h1 : dl P.natAbs ≤ 400) (h2 : dl Q ≤ 400) (h3 : dl P'.natAbs ≤ 400) (h4 : dl Q' ≤ 400) :
    Calls Tryz.prog 100 #[.agg #[.bool (rB P), .string (rS P), .string (str (dec Q))], .agg #[.bool (rB P'), .string (rS P'), .string (str (dec Q'))]] w fun e w' => e = .returned (.int .i64 (cmpZ (P * Q') (P' * Q))) ∧ Below w.heap.size w w' := by
  have BB := Lib.hid (((Bag.start w).box3 (.bool (rB P)) (.string (rS P)) (.string (str (dec Q))) 23).box3 (.bool (rB P')) (.string (rS P')) (.string (str (dec Q'))) 23 |>.drew)
  simp only [World.size_alloc] at BB
  have TA : Hid (∀ wz, Calls Tryz.prog 103 #[.agg #[.bool (rB P), .string (rS P), .string (str (dec Q))]] wz fun e w' => RTold wz w' e P) := fun wz => r3Top_any P _ wz (by omega)
  have TB : Hid (∀ wz, Calls Tryz.prog 103 #[.agg #[.bool (rB P'), .string (rS P'), .string (str (dec Q'))]] wz fun e w' => RTold wz w' e P') := fun wz => r3Top_any P' _ wz (by omega)
  have BA : Hid (∀ wz, Calls Tryz.prog 104 #[.agg #[.bool (rB P), .string (rS P), .string (str (dec Q))]] wz fun e w' => RTold wz w' e (Q : Int)) := fun wz => r3Bot_any _ _ Q wz (by omega)
  have BB2 : Hid (∀ wz, Calls Tryz.prog 104 #[.agg #[.bool (rB P'), .string (rS P'), .string (str (dec Q'))]] wz fun e w' => RTold wz w' e (Q' : Int)) := fun wz => r3Bot_any _ _ Q' wz (by omega)
  have M1 := Lib.hid (fun wz => rMul_any P (Q' : Int) wz (by omega) (by rw [Int.natAbs_natCast]; omega))
  have M2 := Lib.hid (fun wz => rMul_any P' (Q : Int) wz (by omega) (by rw [Int.natAbs_natCast]; omega))
  have CM := Lib.hid (fun wz => rCmp_any (P * Q') (P' * Q) wz (Nat.le_trans (dl_mulZ h1 h4) (by omega)) (Nat.le_trans (dl_mulZ h3 h2) (by omega)))
  unfold RTold at TA TB BA BB2 M1 M2
  generalize rB (P * (Q' : Int)) = u1 at *
  generalize rS (P * (Q' : Int)) = u2 at *
  generalize rB (P' * (Q : Int)) = v1 at *
  generalize rS (P' * (Q : Int)) = v2 at *
  generalize rB (Q : Int) = qb at *
  generalize rS (Q : Int) = qs at *
  generalize rB (Q' : Int) = qb' at *
  generalize rS (Q' : Int) = qs' at *
  generalize rB P = pb at *
  generalize rS P = ps at *
  generalize rB P' = pb' at *
  generalize rS P' = ps' at *
  generalize str (dec Q) = q at *
  generalize str (dec Q') = q' at *
  generalize cmpZ (P * (Q' : Int)) (P' * (Q : Int)) = cc at *
  clear h1 h2 h3 h4
  go_enter Tryz.func100, Tryz.ntmps100
  go_wp2_with fail
  go_region_held3 (fun y => (y.cell? ⟨w.heap.size, 0, none⟩ = some (.bool pb) ∧ y.cell? ⟨w.heap.size, 1, none⟩ = some (.string ps) ∧ y.cell? ⟨w.heap.size, 2, none⟩ = some (.string q)) ∧ y.cell? ⟨w.heap.size + 1, 0, none⟩ = some (.bool pb') ∧ y.cell? ⟨w.heap.size + 1, 1, none⟩ = some (.string ps') ∧ y.cell? ⟨w.heap.size + 1, 2, none⟩ = some (.string q'))
    (exact ⟨⟨BB.out.now.2.1.cell, BB.out.now.2.1.cell1, BB.out.now.2.1.cell2⟩, BB.out.now.1.cell, BB.out.now.1.cell1, BB.out.now.1.cell2⟩)
    (first
      | (go_at_call 103; (with_reducible refine (TA.out _).mono ?_); rintro e w2 ⟨rfl, hb2⟩; have BB := Lib.hid (BB.out.go hb2))
      | (go_at_call 103; (with_reducible refine (TB.out _).mono ?_); rintro e w2 ⟨rfl, hb2⟩; have BB := Lib.hid (BB.out.go hb2))
      | (go_at_call 104; (with_reducible refine (BA.out _).mono ?_); rintro e w2 ⟨rfl, hb2⟩; have BB := Lib.hid (BB.out.go hb2))
      | (go_at_call 104; (with_reducible refine (BB2.out _).mono ?_); rintro e w2 ⟨rfl, hb2⟩; have BB := Lib.hid (BB.out.go hb2))
      | (go_at_call 107; (with_reducible refine (M1.out _).mono ?_); rintro e w2 ⟨rfl, hb2⟩; have BB := Lib.hid (BB.out.go hb2))
      | (go_at_call 107; (with_reducible refine (M2.out _).mono ?_); rintro e w2 ⟨rfl, hb2⟩; have BB := Lib.hid (BB.out.go hb2))
      | (go_at_call 134; (with_reducible refine (CM.out _).mono ?_); rintro e w2 ⟨rfl, hb2⟩; have BB := Lib.hid (BB.out.go hb2)))
  go_wp2
  go_ret
  exact ⟨rfl, BB.out.below⟩

end Go.Proofs.YtocifhahfeajiaaGreatDoor
