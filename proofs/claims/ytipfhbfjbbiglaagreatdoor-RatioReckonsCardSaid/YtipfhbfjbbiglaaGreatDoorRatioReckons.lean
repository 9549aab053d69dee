/-
  Proved: the law RatioReckons of package typeballlaw03 returns true for every two numbers (statement RatioReckonsCardSaid), under the row's own conditions.
-/
import Derived.Test.YtipfhbfjbbiglaaGreatDoorLa2
import Derived.Test.YtipfhbfjbbiglaaGreatDoorRr7
import Derived.Test.YtipfhbfjbbiglaaGreatDoorCards
import Derived.Test.YtipfhbfjbbiglaaGreatDoorTie
import Derived.Test.YtipfhbfjbbiglaaGreatDoorNum3
import Derived.LaidMore
import Derived.Lay
import Derived.SevenTiedAt
import Derived.Stop.Joined
import Derived.Laws.StructEq
namespace Go.Proofs.YtipfhbfjbbiglaaGreatDoor
open Go.ChangeShapes Go.WideShapes Go.ChangeAt Go.RowKit Go.WideMaps Go.WideElems
open Go.ChangeMaps (open_string shut_string)
attribute [local go_sem ↓] Go.wp_at_zero Go.wp_at_succ

set_option maxHeartbeats 6400000 in
set_option maxRecDepth 100000 in
theorem ratioReckons_no (b : Bool) (s t : ByteArray) (b' : Bool) (s' t' : ByteArray) (w : World) (h : (rd3 b s t && rd3 b' s' t') = false) :
    Calls Tryz.prog 5 #[.agg #[.bool b, .string s, .string t], .agg #[.bool b', .string s', .string t']] w fun e w' => e = .returned (.bool true) ∧ Below w.heap.size w w' := by
  have BB := Lib.hid (((Bag.start w).box3 (.bool b) (.string s) (.string t) 23).box3 (.bool b') (.string s') (.string t') 23)
  simp only [World.size_alloc] at BB
  have R1 := Lib.hid (fun wz => read3_weak b s t wz)
  have R2 := Lib.hid (fun wz => read3_weak b' s' t' wz)
  unfold Read3w at R1 R2
  generalize rd3 b s t = k1 at *
  generalize rd3 b' s' t' = k2 at *
  have q0 := BB.out.now.2.1.cell
  have q1 := BB.out.now.2.1.cell1
  have q2 := BB.out.now.2.1.cell2
  cases k1 <;> cases k2
  all_goals
    first
      | (cases h; done)
      | skip
  all_goals
    clear h
    go_enter Tryz.func5, Tryz.ntmps5
    go_wp2_with fail
    go_at_call 23
    (with_reducible refine (R1.out _).mono ?_)
    rintro e w1 ⟨a, n, c, m, a2, n2, c2, rfl, hb1⟩
    have BB := Lib.hid ((BB.out.go hb1).alloc (.cells #[.slice a n c, .bool m, .slice a2 n2 c2] 37))
    clear hb1 q0 q1 q2
    have q0 := BB.out.now.1.cell
    have q1 := BB.out.now.1.cell1
    have q2 := BB.out.now.1.cell2
    go_wp2_with fail
    go_at_call 23
    (with_reducible refine (R2.out _).mono ?_)
    rintro e w2 ⟨d, k, l, v, d2, k2, l2, rfl, hb2⟩
    have BB := Lib.hid ((BB.out.go hb2).alloc (.cells #[.slice d k l, .bool v, .slice d2 k2 l2] 37))
    clear hb2
    go_wp2_with fail
    go_at_call 12
    refine (awake3_any _).mono ?_
    rintro e w3 ⟨rfl, hb3⟩
    have BB := Lib.hid (BB.out.go hb3)
    go_wp2
    go_ret
    exact ⟨rfl, BB.out.below⟩

set_option linter.unusedSimpArgs false in
set_option maxHeartbeats 6400000 in
set_option maxRecDepth 100000 in
theorem ratioReckons_yes (b : Bool) (s t : ByteArray) (b' : Bool) (s' t' : ByteArray) (w : World) (h : rd3 b s t = true) (h' : rd3 b' s' t' = true) :
    Calls Tryz.prog 5 #[.agg #[.bool b, .string s, .string t], .agg #[.bool b', .string s', .string t']] w fun e w' => e = .returned (.bool true) ∧ Below w.heap.size w w' := by
  have R1 := Lib.hid (fun wz => read3_yes b s t wz h)
  have R2 := Lib.hid (fun wz => read3_yes b' s' t' wz h')
  unfold RatTold3 at R1 R2
  obtain ⟨e1, e2, e3, hQ, _, hd1, hd2, hk1, hk2⟩ := rd3_spec h
  obtain ⟨f1, f2, f3, hQ', _, hd3, hd4, hk3, hk4⟩ := rd3_spec h'
  clear h h'
  generalize ofP b s t = P at *
  generalize ofQ b s t = Q at *
  generalize ofP b' s' t' = P' at *
  generalize ofQ b' s' t' = Q' at *
  subst e1 e2 e3 f1 f2 f3
  have BB := Lib.hid (((Bag.start w).box3 (.bool (rB P)) (.string (rS P)) (.string (str (dec Q))) 23).box3 (.bool (rB P')) (.string (rS P')) (.string (str (dec Q'))) 23)
  simp only [World.size_alloc] at BB
  have BY := Lib.hid (fun a n c m a2 n2 c2 d k l v d2 k2 l2 wz h g => by_any a n c m a2 n2 c2 P Q d k l v d2 k2 l2 P' Q' wz h g hQ hQ' 6 (by omega) hk1 hk2 hk3 hk4)
  have DV := Lib.hid (fun wz => r3Div_any P Q P' Q' wz hQ (by omega) (by omega) (by omega) (by omega))
  obtain ⟨g1, g2, g3⟩ := dv_lim hQ hk1 hk2 hk3 hk4
  have NQ := Lib.hid (fun a n c m a2 n2 c2 wz hz => num_any a n c m a2 n2 c2 (dvP P Q P' Q') (dvQ P Q P' Q') wz hz g1 12 (by omega) g2 g3)
  generalize dvP P Q P' Q' = X1 at *
  generalize dvQ P Q P' Q' = X2 at *
  generalize (!decide (P' = 0)) = ok at *
  have p13 : (4294967296 : Nat) ^ 13 = 4294967296 ^ 12 * 4294967296 := Nat.pow_succ _ _
  have m1 := mulZ_lt32 hk1 hk4
  have m2 := mulZ_lt32 hk3 hk2
  have m3 := mul_lt32 hk2 hk4
  have m4 := mulI_lt32 hk1 hk3
  rw [show (6 + 6 : Nat) = 12 from rfl] at m1 m2 m3 m4
  have s1 : (plP P Q P' Q').natAbs < 4294967296 ^ 13 := Nat.lt_of_le_of_lt (loP_absle _ _) (by have := Int.natAbs_add_le (P * (Q' : Int)) (P' * (Q : Int)); omega)
  have s2 : plQ P Q P' Q' < 4294967296 ^ 13 := Nat.lt_of_le_of_lt (loQ_le _ _) (by omega)
  have s0 : 0 < plQ P Q P' Q' := loQ_pos _ (Nat.mul_pos hQ hQ')
  have u1 : (tmP P Q P' Q').natAbs < 4294967296 ^ 13 := Nat.lt_of_le_of_lt (loP_absle _ _) (by omega)
  have u2 : tmQ P Q P' Q' < 4294967296 ^ 13 := Nat.lt_of_le_of_lt (loQ_le _ _) (by omega)
  have u0 : 0 < tmQ P Q P' Q' := loQ_pos _ (Nat.mul_pos hQ hQ')
  have PL := Lib.hid (fun a n c m a2 n2 c2 sa wz (h : RatAt wz a n c m a2 n2 c2 P Q) (g : RatsAt wz sa 1 1 (fun _ => P') (fun _ => Q')) => ratPlus1_any a n c m a2 n2 c2 P Q sa P' Q' wz h g hQ hQ' 6 (by omega) hk1 hk2 hk3 hk4)
  have TM := Lib.hid (fun a n c m a2 n2 c2 sa wz (h : RatAt wz a n c m a2 n2 c2 P Q) (g : RatsAt wz sa 1 1 (fun _ => P') (fun _ => Q')) => ratTimes1_any a n c m a2 n2 c2 P Q sa P' Q' wz h g hQ hQ' 6 (by omega) hk1 hk2 hk3 hk4)
  have NP := Lib.hid (fun a n c m a2 n2 c2 wz hz => num_any a n c m a2 n2 c2 (plP P Q P' Q') (plQ P Q P' Q') wz hz s0 13 (by omega) s1 s2)
  have NT := Lib.hid (fun a n c m a2 n2 c2 wz hz => num_any a n c m a2 n2 c2 (tmP P Q P' Q') (tmQ P Q P' Q') wz hz u0 13 (by omega) u1 u2)
  have AD := Lib.hid (fun wz => r3Add_any P Q P' Q' wz hQ hQ' (by omega) (by omega) (by omega) (by omega))
  have ML := Lib.hid (fun wz => r3Mul_any P Q P' Q' wz hQ hQ' (by omega) (by omega) (by omega) (by omega))
  have C1 := Lib.hid (fun a n c m a2 n2 c2 d k l v d2 k2 l2 wz h g => ratCmp_any a n c m a2 n2 c2 P Q d k l v d2 k2 l2 P' Q' wz h g hQ hQ' 6 (by omega) hk1 hk2 hk3 hk4)
  have C2 := Lib.hid (fun a n c m a2 n2 c2 d k l v d2 k2 l2 wz h g => ratCmp_any a n c m a2 n2 c2 P' Q' d k l v d2 k2 l2 P Q wz h g hQ' hQ 6 (by omega) hk3 hk4 hk1 hk2)
  have RC := Lib.hid (fun wz => r3Cmp_any P Q P' Q' wz (by omega) (by omega) (by omega) (by omega))
  have hbd := cmpZ_bd (P * (Q' : Int)) (P' * (Q : Int))
  rw [cmpZ_turn (P * (Q' : Int)) (P' * (Q : Int))] at C2
  obtain ⟨cm, hcm⟩ : ∃ cm, cmpZ (P * (Q' : Int)) (P' * (Q : Int)) = cm := ⟨_, rfl⟩
  rw [hcm] at C1 C2 RC hbd
  obtain ⟨cn, hcn⟩ : ∃ cn, -cm = cn := ⟨_, rfl⟩
  rw [hcn] at C2
  have hw : IntKind.i64.wrap (-cm) = cn := by rw [IntWalk.i64_in _ (by omega)]; exact hcn
  clear hbd hcn hcm
  unfold RatTold3 at BY
  unfold NumTold3 at DV
  unfold NumTold at NQ NP NT AD ML
  generalize plP P Q P' Q' = S1 at *
  generalize plQ P Q P' Q' = S2 at *
  generalize tmP P Q P' Q' = T1 at *
  generalize tmQ P Q P' Q' = T2 at *
  clear hQ hQ' hd1 hd2 hd3 hd4 hk1 hk2 hk3 hk4 g1 g2 g3 p13 m1 m2 m3 m4 s0 s1 s2 u0 u1 u2
  generalize rB S1 = sb at *
  generalize rS S1 = ss at *
  generalize str (dec S2) = sq at *
  generalize rB T1 = tb at *
  generalize rS T1 = ts at *
  generalize str (dec T2) = tq at *
  generalize rB X1 = x1 at *
  generalize rS X1 = x2 at *
  generalize str (dec X2) = x3 at *
  generalize rB P = pb at *
  generalize rS P = ps at *
  generalize str (dec Q) = q at *
  generalize rB P' = pb' at *
  generalize rS P' = ps' at *
  generalize str (dec Q') = q' at *
  have q0 := BB.out.now.2.1.cell
  have q1 := BB.out.now.2.1.cell1
  have q2 := BB.out.now.2.1.cell2
  go_enter Tryz.func5, Tryz.ntmps5
  go_wp2_with fail
  go_at_call 23
  (with_reducible refine (R1.out _).mono ?_)
  rintro e w1 ⟨a, n, c, m, a2, n2, c2, rfl, hr1, hb1⟩
  have BB := Lib.hid (((BB.out.go hb1).rat hr1).box3 (.slice a n c) (.bool m) (.slice a2 n2 c2) 37)
  clear hr1 hb1 q0 q1 q2
  have q0 := BB.out.now.2.2.1.cell
  have q1 := BB.out.now.2.2.1.cell1
  have q2 := BB.out.now.2.2.1.cell2
  go_wp2_with fail
  go_at_call 23
  (with_reducible refine (R2.out _).mono ?_)
  rintro e w2 ⟨d, k, l, v, d2, k2, l2, rfl, hr2, hb2⟩
  have BB := Lib.hid (((BB.out.go hb2).rat hr2).box3 (.slice d k l) (.bool v) (.slice d2 k2 l2) 37)
  clear hr2 hb2 q0 q1 q2
  have q0 := BB.out.now.1.cell
  have q1 := BB.out.now.1.cell1
  have q2 := BB.out.now.1.cell2
  have r0 := BB.out.now.2.2.1.cell
  have r1 := BB.out.now.2.2.1.cell1
  have r2 := BB.out.now.2.2.1.cell2
  go_wp2_with fail
  go_at_call 47
  (with_reducible refine (BY.out _ _ _ _ _ _ _ _ _ _ _ _ _ _ _ BB.out.now.2.2.2.1 BB.out.now.2.1).mono ?_)
  rintro e w3 ⟨a3, n3, c3, m3, a4, n4, c4, rfl, hr3, hb3⟩
  have BB := Lib.hid (((BB.out.go hb3).rat hr3).box3 (.slice a3 n3 c3) (.bool m3) (.slice a4 n4 c4) 37)
  clear hr3 hb3 q0 q1 q2 r0 r1 r2
  have q0 := BB.out.now.2.2.2.2.2.2.1.cell
  have q1 := BB.out.now.2.2.2.2.2.2.1.cell1
  have q2 := BB.out.now.2.2.2.2.2.2.1.cell2
  have r0 := BB.out.now.2.2.2.2.2.2.2.1.cell
  have r1 := BB.out.now.2.2.2.2.2.2.2.1.cell1
  have r2 := BB.out.now.2.2.2.2.2.2.2.1.cell2
  go_wp2_with fail
  go_at_call 48
  (with_reducible refine (DV.out _).mono ?_)
  rintro e w4 ⟨rfl, hb4⟩
  have BB := Lib.hid ((BB.out.go hb4).box3 (.bool x1) (.string x2) (.string x3) 23)
  clear hb4 q0 q1 q2 r0 r1 r2 R1 R2 BY DV
  go_wp2_with fail
  try simp only [List.append]
  have BB := Lib.hid BB.out.drew
  go_region_held3 (fun y => (y.cell? ⟨w.heap.size, 0, none⟩ = some (.bool pb) ∧ y.cell? ⟨w.heap.size, 1, none⟩ = some (.string ps) ∧ y.cell? ⟨w.heap.size, 2, none⟩ = some (.string q)) ∧ (y.cell? ⟨w.heap.size + 1, 0, none⟩ = some (.bool pb') ∧ y.cell? ⟨w.heap.size + 1, 1, none⟩ = some (.string ps') ∧ y.cell? ⟨w.heap.size + 1, 2, none⟩ = some (.string q')) ∧ (y.cell? ⟨w1.heap.size, 0, none⟩ = some (.slice a n c) ∧ y.cell? ⟨w1.heap.size, 1, none⟩ = some (.bool m) ∧ y.cell? ⟨w1.heap.size, 2, none⟩ = some (.slice a2 n2 c2)) ∧ (y.cell? ⟨w2.heap.size, 0, none⟩ = some (.slice d k l) ∧ y.cell? ⟨w2.heap.size, 1, none⟩ = some (.bool v) ∧ y.cell? ⟨w2.heap.size, 2, none⟩ = some (.slice d2 k2 l2)) ∧ (y.cell? ⟨w3.heap.size, 0, none⟩ = some (.slice a3 n3 c3) ∧ y.cell? ⟨w3.heap.size, 1, none⟩ = some (.bool m3) ∧ y.cell? ⟨w3.heap.size, 2, none⟩ = some (.slice a4 n4 c4)) ∧ (y.cell? ⟨w4.heap.size, 0, none⟩ = some (.bool x1) ∧ y.cell? ⟨w4.heap.size, 1, none⟩ = some (.string x2) ∧ y.cell? ⟨w4.heap.size, 2, none⟩ = some (.string x3)))
    (first
      | (exact ⟨⟨BB.out.now.2.2.2.2.2.2.2.2.1.cell, BB.out.now.2.2.2.2.2.2.2.2.1.cell1, BB.out.now.2.2.2.2.2.2.2.2.1.cell2⟩, ⟨BB.out.now.2.2.2.2.2.2.2.1.cell, BB.out.now.2.2.2.2.2.2.2.1.cell1, BB.out.now.2.2.2.2.2.2.2.1.cell2⟩, ⟨BB.out.now.2.2.2.2.2.1.cell, BB.out.now.2.2.2.2.2.1.cell1, BB.out.now.2.2.2.2.2.1.cell2⟩, ⟨BB.out.now.2.2.2.1.cell, BB.out.now.2.2.2.1.cell1, BB.out.now.2.2.2.1.cell2⟩, ⟨BB.out.now.2.1.cell, BB.out.now.2.1.cell1, BB.out.now.2.1.cell2⟩, ⟨BB.out.now.1.cell, BB.out.now.1.cell1, BB.out.now.1.cell2⟩⟩)
      | (exact (fun B9 : Bag w _ _ => ⟨⟨B9.now.2.2.2.2.2.2.2.2.1.cell, B9.now.2.2.2.2.2.2.2.2.1.cell1, B9.now.2.2.2.2.2.2.2.2.1.cell2⟩, ⟨B9.now.2.2.2.2.2.2.2.1.cell, B9.now.2.2.2.2.2.2.2.1.cell1, B9.now.2.2.2.2.2.2.2.1.cell2⟩, ⟨B9.now.2.2.2.2.2.1.cell, B9.now.2.2.2.2.2.1.cell1, B9.now.2.2.2.2.2.1.cell2⟩, ⟨B9.now.2.2.2.1.cell, B9.now.2.2.2.1.cell1, B9.now.2.2.2.1.cell2⟩, ⟨B9.now.2.1.cell, B9.now.2.1.cell1, B9.now.2.1.cell2⟩, ⟨B9.now.1.cell, B9.now.1.cell1, B9.now.1.cell2⟩⟩) (BB.out.alloc _)))
    (first
      | (go_at_call 49; (with_reducible refine (PL.out _ _ _ _ _ _ _ _ _ ?_ ?_).mono ?_); exact (BB.out.alloc _).now.2.2.2.2.2.2.1; (apply RatsAt.old1; (first | exact Below.refl _ _ | exact (Below.refl _ _).drew); (first | rfl | focus (simp; done)); exact (BB.out.alloc _).now.2.2.2.2.1); rintro e w5 ⟨a5, n5, c5, m5, a6, n6, c6, rfl, hr5, hb5⟩; have BB := Lib.hid ((BB.out.alloc _).go hb5))
      | (go_at_call 20; (with_reducible refine (NP.out _ _ _ _ _ _ _ _ hr5).mono ?_); rintro e w6 ⟨rfl, hb6⟩; have BB := Lib.hid (BB.out.go hb6))
      | (go_at_call 50; (with_reducible refine (AD.out _).mono ?_); rintro e w7 ⟨rfl, hb7⟩; have BB := Lib.hid (BB.out.go hb7))
      | (go_at_call 51; (with_reducible refine (TM.out _ _ _ _ _ _ _ _ _ ?_ ?_).mono ?_); exact (BB.out.alloc _).now.2.2.2.2.2.2.1; (apply RatsAt.old1; (first | exact Below.refl _ _ | exact (Below.refl _ _).drew); (first | rfl | focus (simp; done)); exact (BB.out.alloc _).now.2.2.2.2.1); rintro e w8 ⟨a7, n7, c7, m7, a8, n8, c8, rfl, hr8, hb8⟩; have BB := Lib.hid ((BB.out.alloc _).go hb8))
      | (go_at_call 20; (with_reducible refine (NT.out _ _ _ _ _ _ _ _ hr8).mono ?_); rintro e w9 ⟨rfl, hb9⟩; have BB := Lib.hid (BB.out.go hb9))
      | (go_at_call 52; (with_reducible refine (ML.out _).mono ?_); rintro e w10 ⟨rfl, hb10⟩; have BB := Lib.hid (BB.out.go hb10))
      | (go_at_call 20; (with_reducible refine (NQ.out _ _ _ _ _ _ _ _ BB.out.now.2.2.1).mono ?_); rintro e w11 ⟨rfl, hb11⟩; have BB := Lib.hid (BB.out.go hb11))
      | (go_at_call 53; (with_reducible refine (C1.out _ _ _ _ _ _ _ _ _ _ _ _ _ _ _ BB.out.now.2.2.2.2.2.2.1 BB.out.now.2.2.2.2.1).mono ?_); rintro e w12 ⟨rfl, hb12⟩; have BB := Lib.hid (BB.out.go hb12))
      | (go_at_call 54; (with_reducible refine (RC.out _).mono ?_); rintro e w13 ⟨rfl, hb13⟩; have BB := Lib.hid (BB.out.go hb13))
      | (go_at_call 53; (with_reducible refine (C2.out _ _ _ _ _ _ _ _ _ _ _ _ _ _ _ BB.out.now.2.2.2.2.1 BB.out.now.2.2.2.2.2.2.1).mono ?_); rintro e w14 ⟨rfl, hb14⟩; have BB := Lib.hid (BB.out.go hb14))
      | (go_at_call 12; refine (awake3_any _).mono ?_; rintro e w34 ⟨rfl, hb34⟩; have BB := Lib.hid (BB.out.go hb34)))
  go_wp2
  go_ret
  exact ⟨rfl, BB.out.below⟩

theorem ratioReckons_walk (b : Bool) (s t : ByteArray) (b' : Bool) (s' t' : ByteArray) (w : World) (_ : s.size ≤ maxLen) (_ : t.size ≤ maxLen) (_ : s'.size ≤ maxLen) (_ : t'.size ≤ maxLen) :
    Calls Tryz.prog 5 #[.agg #[.bool b, .string s, .string t], .agg #[.bool b', .string s', .string t']] w fun e w' => e = .returned (.bool true) ∧ Below w.heap.size w w' := by
  cases h : (rd3 b s t && rd3 b' s' t') with
  | false => exact ratioReckons_no b s t b' s' t' w h
  | true => rw [Bool.and_eq_true] at h; exact ratioReckons_yes b s t b' s' t' w h.1 h.2

theorem own : ownKnob Tryz.prog.godebug = none := by kernel_rfl

set_option maxRecDepth 100000 in
theorem ratioReckons_lifted (os : Os) (started : os.Started) (H : Type) (enc : TypeId × Value → H) :
    ReturnsInHanded {} Tryz.checked os 5 .any (fun w args => (Rows.ratioReckonsSpec.pre enc Tryz.prog Tryz.f5 [] false w args ∧ laidMetH Tryz.prog Rows.ratioReckonsRow.laid w) ∧ sizedMet enc Tryz.prog Tryz.f5 (OpenSpec.ofChange Rows.ratioReckonsSpec) false w args)
      (Rows.ratioReckonsSpec.post enc Tryz.prog Tryz.f5 false true false false) := by
  refine returnsInHanded_of_change_and (C := Tryz.checked) (X := fun w _ => laidMetH Tryz.prog Rows.ratioReckonsRow.laid w) (fun _ _ _ hh h => h.of_heap hh) own started (by kernel_rfl) Tryz.func5
    (ChangeSpec.witness_shaped (enc := enc) (C := Tryz.checked) (os := os) (X := fun w _ => laidMetH Tryz.prog Rows.ratioReckonsRow.laid w) false (World.laidAll Tryz.prog os Rows.ratioReckonsRow.laid) #[.agg #[.bool false, .string ⟨#[]⟩, .string ⟨#[]⟩], .agg #[.bool false, .string ⟨#[]⟩, .string ⟨#[]⟩]] 8 (World.laidAll_os _ _ _)
      (World.shaped_of_ZipB (by kernel_rfl) (by kernel_rfl)) (by kernel_rfl) (by kernel_rfl) (by kernel_rfl)
      (by rw [MakeChecks.laidMetH_plain _ _ _ (by kernel_rfl)]; exact laidMet_laidAll _ (by kernel_rfl) (by kernel_rfl))) ?_
  intro W base args ds gs before hval0 hW _ _ _ _
  have hval : ∀ (j : Nat) t v, Tryz.f5.params[j]? = some t → args[j]? = some v → Value.okWide Tryz.prog W .any base t v := hval0
  have hW' := hW
  obtain ⟨p, q, hA0, hV, rfl, _, _⟩ := hW
  have hA : DataW.TrodAll enc Tryz.prog W 0 (fun _ => true) true Tryz.f5.params.toList args.toList ds p := hA0
  rw [Tryz.params5] at hA hval
  obtain ⟨v0, v1, d0, d1, p0, p1, rfl, rfl, rfl, h0, h1⟩ := trodAll_two hA
  obtain ⟨rfl, rfl⟩ := trodVars_none hV
  obtain ⟨x0, y0, z0, rfl, rfl, rfl, b0, c0⟩ := open_num (hval 0 23 v0 rfl rfl) h0
  obtain ⟨x1, y1, z1, rfl, rfl, rfl, b1, c1⟩ := open_num (hval 1 23 v1 rfl rfl) h1
  simp only [List.append_nil] at hW'
  refine (ratioReckons_walk x0 y0 z0 x1 y1 z1 W b0 c0 b1 c1).mono fun e W' ⟨he, hb⟩ => ?_
  subst he
  exact ⟨_, rfl, _, _, _, [], [], [], hW', trodAll_mk1 (shut_bool Tryz.underlying4 _), trodAll_mk2 (shut_num b0 c0) (shut_num b1 c1), rfl, hb.frame _, fun h => by cases h⟩

theorem ratioReckons_row : Rows.RatioReckonsSaid :=
  OpenClaim.holds_of_wide 5 Tryz.f5 rfl rfl rfl rfl rfl rfl rfl ⟨rfl, rfl, rfl, rfl, rfl⟩ rfl rfl rfl rfl rfl (by kernel_rfl) Tryz.func5 (by kernel_rfl)
    (of_decide_eq_true (by kernel_rfl)) (by unfold Func.isWrapper; first | (rw [if_pos (by decide +kernel)]; kernel_rfl) | (rw [if_neg (by decide +kernel)]; exact ⟨rfl, rfl⟩))
    (fun os started H enc _ => ratioReckons_lifted os started H enc)

theorem ratioReckons_holds : Rows.RatioReckonsCardSaid :=
  Claim7.holds_tied_plain_at .later [] [.data, .pinned] true Rows.ratioReckonsCard.stood.harness Rows.ratioReckonsCard.stood.looks ratioReckons_row (fun _ h => by cases h) (by kernel_rfl) (fun _ h => by cases h) ratioReckons_row_tie rfl ⟨rfl, rfl⟩ (by kernel_rfl) rfl
    (fun f fn hf hfn => by
      obtain rfl : f = 5 := Option.some.inj ((show Tryz.prog.funcNamed "typeball/typeballlaw03.RatioReckons" = some 5 by kernel_rfl).symm.trans hf) |>.symm
      obtain rfl : fn = Tryz.f5 := (Option.some.inj (Tryz.func5.symm.trans hfn)).symm
      exact ⟨by kernel_rfl, fun j t ht => by
        rw [Tryz.params5] at ht
        have hm : t ∈ [23] := by simpa using Array.mem_of_getElem? ht
        have hall : ([23].all fun u => !Tryz.prog.wantsStandIn u) = true := by kernel_rfl
        exact (show Tryz.prog.wantsStandIn t = false by simpa using List.all_eq_true.1 hall t hm)⟩)
    (by kernel_rfl)
#print axioms ratioReckons_holds
end Go.Proofs.YtipfhbfjbbiglaaGreatDoor
