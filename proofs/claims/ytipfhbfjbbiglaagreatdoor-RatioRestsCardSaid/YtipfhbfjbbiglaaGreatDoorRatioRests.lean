/-
  Proved: the law RatioRests of package typeballlaw03 returns true for every two numbers (statement RatioRestsCardSaid), under the row's own conditions.
-/
import Derived.Test.YtipfhbfjbbiglaaGreatDoorLr1
import Derived.Test.YtipfhbfjbbiglaaGreatDoorCards
import Derived.Test.YtipfhbfjbbiglaaGreatDoorTie
import Derived.Test.YtipfhbfjbbiglaaGreatDoorNum3
import Derived.LaidMore
import Derived.Lay
import Derived.SevenTiedAt
import Derived.Stop.Joined
import Derived.Laws.StructEq
namespace Go.Proofs.YtipfhbfjbbiglaaGreatDoor
open Go.ChangeShapes Go.WideShapes Go.ChangeAt Go.RowKit Go.WideMaps Go.WideElems
open Go.ChangeMaps (open_string shut_string)
attribute [local go_sem ↓] Go.wp_at_zero Go.wp_at_succ

theorem RatsAt.set3o {w : World} {k b : Nat} {a0 : Option Addr} {n0 c0 : Nat} {m0 : Bool} {a1 : Option Addr} {n1 c1 : Nat} {n c : Nat} {fP : Nat → Int} {fQ : Nat → Nat} (h : RatsAt w (some ⟨b, 0, none⟩) n c fP fQ) (e : b ≠ k)
    (hs : Slot3 w k (.slice a0 n0 c0) (.bool m0) (.slice a1 n1 c1)) (u v t : Value) : RatsAt (((w.setCell ⟨k, 0, none⟩ u).setCell ⟨k, 1, none⟩ v).setCell ⟨k, 2, none⟩ t) (some ⟨b, 0, none⟩) n c fP fQ := by
  obtain ⟨h0, h1, h2⟩ := h
  refine ⟨h0, h1, ?_⟩
  rcases h2 with h2 | ⟨b', off, he, hl, hc⟩
  · exact .inl h2
  · cases he
    refine .inr ⟨b, 0, rfl, by simpa using hl, fun j hj => ?_⟩
    obtain ⟨a', n', c', m', a2', n2', c2', e1, e2, e3, hr⟩ := hc j hj
    have hn : ∀ o o' : Nat, (⟨k, o, none⟩ : Addr) ≠ ⟨b, o', none⟩ := fun o o' h => e (by cases h; rfl)
    refine ⟨a', n', c', m', a2', n2', c2', ?_, ?_, ?_, hr.set3 hs _ _ _⟩ <;>
      (rw [World.cell?_setCell_other _ _ _ _ (hn _ _), World.cell?_setCell_other _ _ _ _ (hn _ _), World.cell?_setCell_other _ _ _ _ (hn _ _)]; assumption)
theorem sgn0 (Z : Int) : decide (sgnI Z = 0) = decide (Z = 0) := by
  unfold sgnI
  by_cases h1 : Z < 0
  · rw [if_pos h1, decide_eq_false (by omega), decide_eq_false (by omega)]
  · rw [if_neg h1]
    by_cases h2 : Z = 0
    · rw [if_pos h2, decide_eq_true rfl, decide_eq_true h2]
    · rw [if_neg h2, decide_eq_false (by omega), decide_eq_false h2]

set_option maxHeartbeats 6400000 in
set_option maxRecDepth 100000 in
theorem ratioRests_no (b : Bool) (s t : ByteArray) (b' : Bool) (s' t' : ByteArray) (w : World) (h : (rd3 b s t && rd3 b' s' t') = false) :
    Calls Tryz.prog 7 #[.agg #[.bool b, .string s, .string t], .agg #[.bool b', .string s', .string t']] w fun e w' => e = .returned (.bool true) ∧ Below w.heap.size w w' := by
  have BB := Lib.hid (((Bag.start w).box3 (.bool b) (.string s) (.string t) 23).box3 (.bool b') (.string s') (.string t') 23)
  simp only [World.size_alloc] at BB
  have R1 := Lib.hid (fun wz => read3_weak b s t wz)
  have R2 := Lib.hid (fun wz => read3_weak b' s' t' wz)
  unfold Read3w at R1 R2
  generalize rd3 b s t = k1 at *
  generalize rd3 b' s' t' = k2 at *
  have q0 := BB.out.now.2.1.cell
  have q1 := BB.out.now.2.1.cell1
  have q2 := BB.out.now.2.1.cell2
  cases k1 <;> cases k2
  all_goals
    first
      | (cases h; done)
      | skip
  all_goals
    clear h
    go_enter Tryz.func7, Tryz.ntmps7
    go_wp2_with fail
    go_at_call 23
    (with_reducible refine (R1.out _).mono ?_)
    rintro e w1 ⟨a, n, c, m, a2, n2, c2, rfl, hb1⟩
    have BB := Lib.hid ((BB.out.go hb1).alloc (.cells #[.slice a n c, .bool m, .slice a2 n2 c2] 37))
    clear hb1 q0 q1 q2
    have q0 := BB.out.now.1.cell
    have q1 := BB.out.now.1.cell1
    have q2 := BB.out.now.1.cell2
    go_wp2_with fail
    go_at_call 23
    (with_reducible refine (R2.out _).mono ?_)
    rintro e w2 ⟨d, k, l, v, d2, k2, l2, rfl, hb2⟩
    have BB := Lib.hid ((BB.out.go hb2).alloc (.cells #[.slice d k l, .bool v, .slice d2 k2 l2] 37))
    clear hb2
    go_wp2_with fail
    go_at_call 12
    refine (awake3_any _).mono ?_
    rintro e w3 ⟨rfl, hb3⟩
    have BB := Lib.hid (BB.out.go hb3)
    go_wp2
    go_ret
    exact ⟨rfl, BB.out.below⟩

set_option linter.unusedSimpArgs false in
set_option maxHeartbeats 12800000 in
set_option maxRecDepth 100000 in
theorem ratioRests_yes (b : Bool) (s t : ByteArray) (b' : Bool) (s' t' : ByteArray) (w : World) (h : rd3 b s t = true) (h' : rd3 b' s' t' = true) :
    Calls Tryz.prog 7 #[.agg #[.bool b, .string s, .string t], .agg #[.bool b', .string s', .string t']] w fun e w' => e = .returned (.bool true) ∧ Below w.heap.size w w' := by
  have R1 := Lib.hid (fun wz => read3_yes b s t wz h)
  have R2 := Lib.hid (fun wz => read3_yes b' s' t' wz h')
  unfold RatTold3 at R1 R2
  obtain ⟨e1, e2, e3, hQ, _, hd1, hd2, hk1, hk2⟩ := rd3_spec h
  obtain ⟨f1, f2, f3, hQ', _, hd3, hd4, hk3, hk4⟩ := rd3_spec h'
  clear h h'
  generalize ofP b s t = P at *
  generalize ofQ b s t = Q at *
  generalize ofP b' s' t' = P' at *
  generalize ofQ b' s' t' = Q' at *
  subst e1 e2 e3 f1 f2 f3
  have BB := Lib.hid (((Bag.start w).box3 (.bool (rB P)) (.string (rS P)) (.string (str (dec Q))) 23).box3 (.bool (rB P')) (.string (rS P')) (.string (str (dec Q'))) 23)
  simp only [World.size_alloc] at BB
  have RE := Lib.hid (fun a n c m a2 n2 c2 d k l v d2 k2 l2 wz h g => rest_any a n c m a2 n2 c2 P Q d k l v d2 k2 l2 P' Q' wz h g hQ hQ' 6 (by omega) hk1 hk2 hk3 hk4)
  have RR := Lib.hid (fun wz => r3Rest_any P Q P' Q' wz hQ hQ' (by omega) (by omega) (by omega) (by omega))
  obtain ⟨g1, g2, g3⟩ := re_lim hQ hQ' hk1 hk2 hk3 hk4
  have NR := Lib.hid (fun a n c m a2 n2 c2 wz hz => num_any a n c m a2 n2 c2 (reP P Q P' Q') (reQ P Q P' Q') wz hz g1 40 (by omega) g2 g3)
  have SG := Lib.hid (fun a n c m a2 n2 c2 wz hz => ratSign_any a n c m a2 n2 c2 P Q wz hz)
  have hkc := fun hP => re_cross (P := P) (P' := P') (Q' := Q') hQ hP
  have hks := fun hP => re_sign (P := P) (P' := P') hQ hQ' hP g1
  have hk0 : P = 0 → reP P Q P' Q' = P' ∧ reQ P Q P' Q' = Q' := fun h => by unfold reP reQ; rw [if_pos h, if_pos h]; exact ⟨rfl, rfl⟩
  generalize reF P Q P' Q' = f at *
  generalize reP P Q P' Q' = F at *
  generalize reQ P Q P' Q' = G at *
  have SR := Lib.hid (fun a n c m a2 n2 c2 wz hz => ratSign_any a n c m a2 n2 c2 F G wz hz)
  have up : ∀ a b : Nat, a ≤ b → (4294967296 : Nat) ^ a ≤ 4294967296 ^ b := fun a b h => Nat.pow_le_pow_right (by omega) h
  have u40 := up 6 40 (by omega)
  have CM : Hid (P = 0 → ∀ a n c m a2 n2 c2 d k l v d2 k2 l2 wz, RatAt wz a n c m a2 n2 c2 F G → RatAt wz d k l v d2 k2 l2 P' Q' → Calls Tryz.prog 53 #[.agg #[.slice a n c, .bool m, .slice a2 n2 c2], .agg #[.slice d k l, .bool v, .slice d2 k2 l2]] wz fun e w' => e = .returned (.int .i64 0) ∧ Below wz.heap.size wz w') := by
    intro hP a n c m a2 n2 c2 d k l v d2 k2 l2 wz h g
    have := ratCmp_any a n c m a2 n2 c2 F G d k l v d2 k2 l2 P' Q' wz h g g1 hQ' 40 (by omega) g2 g3 (by omega) (by omega)
    rw [(hk0 hP).1, (hk0 hP).2, cmpZ_self] at this
    exact this
  have MN := Lib.hid (fun a n c m a2 n2 c2 wz hz => ratMinus_any a n c m a2 n2 c2 F G wz hz)
  have PL := Lib.hid (fun a n c m a2 n2 c2 sa wz (h : RatAt wz a n c m a2 n2 c2 P' Q') (g : RatsAt wz sa 1 1 (fun _ => -F) (fun _ => G)) => ratPlus1_any a n c m a2 n2 c2 P' Q' sa (-F) G wz h g hQ' g1 40 (by omega) (by omega) (by omega) (by rw [Int.natAbs_neg]; exact g2) g3)
  have s0 : 0 < plQ P' Q' (-F) G := loQ_pos _ (Nat.mul_pos hQ' g1)
  have m1 : (P' * (G : Int)).natAbs < 4294967296 ^ 80 := by rw [Int.natAbs_mul, Int.natAbs_natCast]; exact mulN_lt (a := 40) (b := 40) (by omega) g3
  have m2 : (-F * (Q' : Int)).natAbs < 4294967296 ^ 80 := by rw [Int.natAbs_mul, Int.natAbs_natCast, Int.natAbs_neg]; exact mulN_lt (a := 40) (b := 40) g2 (by omega)
  have p81 : (4294967296 : Nat) ^ 81 = 4294967296 ^ 80 * 4294967296 := Nat.pow_succ _ _
  have s1 : (plP P' Q' (-F) G).natAbs < 4294967296 ^ 81 := Nat.lt_of_le_of_lt (loP_absle _ _) (by have := Int.natAbs_add_le (P' * (G : Int)) (-F * (Q' : Int)); omega)
  have m3 : Q' * G < 4294967296 ^ 80 := mulN_lt (a := 40) (b := 40) (by omega) g3
  have s2 : plQ P' Q' (-F) G < 4294967296 ^ 81 := Nat.lt_of_le_of_lt (loQ_le _ _) (by omega)
  have hsc := fun hP => s_cross hQ' g1 (hkc hP)
  have u81 := up 6 81 (by omega)
  have BY : Hid (P ≠ 0 → ∀ a n c m a2 n2 c2 d k l v d2 k2 l2 wz, RatAt wz a n c m a2 n2 c2 (plP P' Q' (-F) G) (plQ P' Q' (-F) G) → RatAt wz d k l v d2 k2 l2 P Q → Calls Tryz.prog 47 #[.agg #[.slice a n c, .bool m, .slice a2 n2 c2], .agg #[.slice d k l, .bool v, .slice d2 k2 l2]] wz fun e w' => RatTold3 wz w' e (nwP (plP P' Q' (-F) G * Q) (P * plQ P' Q' (-F) G)) 1 true) := by
    intro hP a n c m a2 n2 c2 d k l v d2 k2 l2 wz h g
    have := by_some a n c m a2 n2 c2 (plP P' Q' (-F) G) (plQ P' Q' (-F) G) d k l v d2 k2 l2 P Q wz h g s0 hQ hP 81 (by omega) s1 s2 (by omega) (by omega)
    rw [dv_whole hP s0 (hsc hP)] at this
    exact this
  unfold RatTold3 at BY
  unfold NumTold at NR RR
  generalize hX1 : nwP (plP P' Q' (-F) G * Q) (P * plQ P' Q' (-F) G) = X1 at *
  have IW := Lib.hid (fun a n c m a2 n2 c2 wz hz => isWhole_any a n c m a2 n2 c2 X1 1 wz hz (by omega))
  rw [decide_eq_true rfl] at IW
  generalize plP P' Q' (-F) G = S1 at *
  generalize plQ P' Q' (-F) G = S2 at *
  obtain ⟨pz, hpz⟩ : ∃ x, decide (P = 0) = x := ⟨_, rfl⟩
  have hs0 := sgn0
  have sp1 : decide (sgnI P = 0) = pz := (hs0 P).trans hpz
  have sp2 : (sgnI P == 0) = pz := by rw [← sp1]; rfl
  obtain ⟨fz, hfz⟩ : ∃ x, decide (F = 0) = x := ⟨_, rfl⟩
  have sf1 : decide (sgnI F = 0) = fz := (hs0 F).trans hfz
  have sf2 : (sgnI F == 0) = fz := by rw [← sf1]; rfl
  obtain ⟨eq, heq1⟩ : ∃ x, decide (sgnI F = sgnI P) = x := ⟨_, rfl⟩
  have heq2 : (sgnI F == sgnI P) = eq := by rw [← heq1]; rfl
  have HE : pz = false → Hid (fz = false → eq = true) := by
    intro hp hf
    have h1 : P ≠ 0 := by rw [hp] at hpz; exact of_decide_eq_false hpz
    have h2 : F ≠ 0 := by rw [hf] at hfz; exact of_decide_eq_false hfz
    rw [← heq1]
    rcases hks h1 with h3 | h3
    · exact absurd h3 h2
    · exact decide_eq_true h3
  have CM2 : pz = true → Hid _ := fun h => Lib.hid (CM.out (of_decide_eq_true (hpz.trans h)))
  have BY2 : pz = false → Hid _ := fun h => Lib.hid (BY.out (of_decide_eq_false (hpz.trans h)))
  clear hX1 hkc hks hk0 up u40 u81 s0 s1 s2 m1 m2 m3 p81 hsc hQ hQ' hd1 hd2 hd3 hd4 hk1 hk2 hk3 hk4 g1 g2 g3 hpz hfz hs0 CM BY
  generalize sgnI P = sP at *
  generalize sgnI F = sF at *
  generalize rB F = fb at *
  generalize rS F = fs at *
  generalize str (dec G) = fq at *
  generalize rB P = pb at *
  generalize rS P = ps at *
  generalize str (dec Q) = q at *
  generalize rB P' = pb' at *
  generalize rS P' = ps' at *
  generalize str (dec Q') = q' at *
  have q0 := BB.out.now.2.1.cell
  have q1 := BB.out.now.2.1.cell1
  have q2 := BB.out.now.2.1.cell2
  go_enter Tryz.func7, Tryz.ntmps7
  go_wp2_with fail
  go_at_call 23
  (with_reducible refine (R1.out _).mono ?_)
  rintro e w1 ⟨a, n, c, m, a2, n2, c2, rfl, hr1, hb1⟩
  have BB := Lib.hid (((BB.out.go hb1).rat hr1).box3 (.slice a n c) (.bool m) (.slice a2 n2 c2) 37)
  have j1 : w.heap.size + 1 < w1.heap.size := by have := hb1.size; simp only [World.size_alloc] at this; omega
  clear hr1 hb1 q0 q1 q2
  have q0 := BB.out.now.2.2.1.cell
  have q1 := BB.out.now.2.2.1.cell1
  have q2 := BB.out.now.2.2.1.cell2
  go_wp2_with fail
  go_at_call 23
  (with_reducible refine (R2.out _).mono ?_)
  rintro e w2 ⟨d, k, l, v, d2, k2, l2, rfl, hr2, hb2⟩
  have BB := Lib.hid (((BB.out.go hb2).rat hr2).box3 (.slice d k l) (.bool v) (.slice d2 k2 l2) 37)
  have j2 : w1.heap.size < w2.heap.size := by have := hb2.size; simp only [World.size_alloc] at this; omega
  clear hr2 hb2 q0 q1 q2
  have q0 := BB.out.now.1.cell
  have q1 := BB.out.now.1.cell1
  have q2 := BB.out.now.1.cell2
  have r0 := BB.out.now.2.2.1.cell
  have r1 := BB.out.now.2.2.1.cell1
  have r2 := BB.out.now.2.2.1.cell2
  go_wp2_with fail
  go_at_call 55
  (with_reducible refine (RE.out _ _ _ _ _ _ _ _ _ _ _ _ _ _ _ BB.out.now.2.2.2.1 BB.out.now.2.1).mono ?_)
  rintro e w3 ⟨a3, n3, c3, m3, a4, n4, c4, rfl, hr3, hb3⟩
  have BB := Lib.hid (((BB.out.go hb3).rat hr3).box3 (.slice a3 n3 c3) (.bool m3) (.slice a4 n4 c4) 37)
  have j3 : w2.heap.size < w3.heap.size := by have := hb3.size; simp only [World.size_alloc] at this; omega
  clear hr3 hb3 q0 q1 q2 r0 r1 r2 R1 R2 RE
  go_wp2_with fail
  have BB := Lib.hid BB.out.drew
  go_region_held3 (fun y => (y.cell? ⟨w.heap.size, 0, none⟩ = some (.bool pb) ∧ y.cell? ⟨w.heap.size, 1, none⟩ = some (.string ps) ∧ y.cell? ⟨w.heap.size, 2, none⟩ = some (.string q)) ∧ (y.cell? ⟨w.heap.size + 1, 0, none⟩ = some (.bool pb') ∧ y.cell? ⟨w.heap.size + 1, 1, none⟩ = some (.string ps') ∧ y.cell? ⟨w.heap.size + 1, 2, none⟩ = some (.string q')) ∧ (y.cell? ⟨w3.heap.size, 0, none⟩ = some (.slice a3 n3 c3) ∧ y.cell? ⟨w3.heap.size, 1, none⟩ = some (.bool m3) ∧ y.cell? ⟨w3.heap.size, 2, none⟩ = some (.slice a4 n4 c4)))
    (exact ⟨⟨BB.out.now.2.2.2.2.2.2.2.1.cell, BB.out.now.2.2.2.2.2.2.2.1.cell1, BB.out.now.2.2.2.2.2.2.2.1.cell2⟩, ⟨BB.out.now.2.2.2.2.2.2.1.cell, BB.out.now.2.2.2.2.2.2.1.cell1, BB.out.now.2.2.2.2.2.2.1.cell2⟩, ⟨BB.out.now.1.cell, BB.out.now.1.cell1, BB.out.now.1.cell2⟩⟩)
    (first
      | (go_at_call 20; (with_reducible refine (NR.out _ _ _ _ _ _ _ _ BB.out.now.2.1).mono ?_); rintro e w4 ⟨rfl, hb4⟩; have BB := Lib.hid (BB.out.go hb4))
      | (go_at_call 56; (with_reducible refine (RR.out _).mono ?_); rintro e w5 ⟨rfl, hb5⟩; have BB := Lib.hid (BB.out.go hb5)))
  clear NR RR
  have q0 := BB.out.now.2.2.2.2.1.cell
  have q1 := BB.out.now.2.2.2.2.1.cell1
  have q2 := BB.out.now.2.2.2.2.1.cell2
  go_wp2_with fail
  go_at_call 34
  (with_reducible refine (SG.out _ _ _ _ _ _ _ _ BB.out.now.2.2.2.2.2.1).mono ?_)
  rintro e w6 ⟨rfl, hb6⟩
  have BB := Lib.hid (BB.out.go hb6)
  clear hb6 q0 q1 q2
  cases pz with
  | true =>
    have CM := CM2 rfl
    clear CM2 BY2 HE MN PL SG SR IW
    have q0 := BB.out.now.1.cell
    have q1 := BB.out.now.1.cell1
    have q2 := BB.out.now.1.cell2
    have r0 := BB.out.now.2.2.1.cell
    have r1 := BB.out.now.2.2.1.cell1
    have r2 := BB.out.now.2.2.1.cell2
    go_wp2_with fail
    go_at_call 53
    (with_reducible refine (CM.out _ _ _ _ _ _ _ _ _ _ _ _ _ _ _ BB.out.now.2.1 BB.out.now.2.2.2.1).mono ?_)
    rintro e w7 ⟨rfl, hb7⟩
    have BB := Lib.hid (BB.out.go hb7)
    clear hb7
    go_wp2_with fail
    go_at_call 12
    refine (awake3_any _).mono ?_
    rintro e w8 ⟨rfl, hb8⟩
    have BB := Lib.hid (BB.out.go hb8)
    go_wp2
    go_ret
    exact ⟨rfl, BB.out.below⟩
  | false =>
    have BY := BY2 rfl
    have HE3 := HE rfl
    clear CM2 BY2 HE
    go_wp2_with fail
    have HP : Hid (∀ (y : World) (k9 : Nat) {x0 : Option Addr} {y0 z0 : Nat} {b0 : Bool} {x1 : Option Addr} {y1 z1 : Nat}, Slot3 y k9 (.slice x0 y0 z0) (.bool b0) (.slice x1 y1 z1) → w3.heap.size < k9 → Bag w (fun y => Slot3 y w3.heap.size (.slice a3 n3 c3) (.bool m3) (.slice a4 n4 c4) ∧ RatAt y a3 n3 c3 m3 a4 n4 c4 F G ∧ Slot3 y w2.heap.size (.slice d k l) (.bool v) (.slice d2 k2 l2) ∧ RatAt y d k l v d2 k2 l2 P' Q' ∧ Slot3 y w1.heap.size (.slice a n c) (.bool m) (.slice a2 n2 c2) ∧ RatAt y a n c m a2 n2 c2 P Q ∧ Slot3 y (w.heap.size + 1) (.bool pb') (.string ps') (.string q') ∧ Slot3 y w.heap.size (.bool pb) (.string ps) (.string q) ∧ True) y → ∀ (a9 : Option Addr) (n9 c9 : Nat) (m9 : Bool) (a10 : Option Addr) (n10 c10 : Nat), Bag w (fun y => Slot3 y w3.heap.size (.slice a3 n3 c3) (.bool m3) (.slice a4 n4 c4) ∧ RatAt y a3 n3 c3 m3 a4 n4 c4 F G ∧ Slot3 y w2.heap.size (.slice d k l) (.bool v) (.slice d2 k2 l2) ∧ RatAt y d k l v d2 k2 l2 P' Q' ∧ Slot3 y w1.heap.size (.slice a n c) (.bool m) (.slice a2 n2 c2) ∧ RatAt y a n c m a2 n2 c2 P Q ∧ Slot3 y (w.heap.size + 1) (.bool pb') (.string ps') (.string q') ∧ Slot3 y w.heap.size (.bool pb) (.string ps) (.string q) ∧ True) (((y.setCell ⟨k9, 0, none⟩ (.slice a9 n9 c9)).setCell ⟨k9, 1, none⟩ (.bool m9)).setCell ⟨k9, 2, none⟩ (.slice a10 n10 c10))) := by
      intro y k9 x0 y0 z0 b0 x1 y1 z1 s hk B a9 n9 c9 m9 a10 n10 c10
      have q := B.now
      exact ⟨((B.below.setCell (p := ⟨k9, 0, none⟩) (show w.heap.size ≤ k9 by omega) _).setCell (p := ⟨k9, 1, none⟩) (show w.heap.size ≤ k9 by omega) _).setCell (p := ⟨k9, 2, none⟩) (show w.heap.size ≤ k9 by omega) _, B.stay, q.1.set3o (by omega) _ _ _, q.2.1.set3 s _ _ _, q.2.2.1.set3o (by omega) _ _ _, q.2.2.2.1.set3 s _ _ _, q.2.2.2.2.1.set3o (by omega) _ _ _, q.2.2.2.2.2.1.set3 s _ _ _, q.2.2.2.2.2.2.1.set3o (by omega) _ _ _, q.2.2.2.2.2.2.2.1.set3o (by omega) _ _ _, trivial⟩
    refine wp_region_inv2 ⟨(fun j => ([[49], [50], [51], [52], [53], [54], [55], [48], [56], [57], [10], [10], [11]] : List (List Nat)).getD j []), (fun j => ([[], [], [1], [1, 2], [0, 1, 2, 3], [], [0, 1, 2, 3, 4, 5], [0, 1, 2, 3, 4, 5, 6], [0, 1, 2, 3, 4, 5, 6, 7], [0, 1, 2, 3, 4, 5, 6, 7], [], [0, 1, 2, 3, 4, 5, 6, 7, 8, 10], [0, 1, 2, 3, 4, 5, 6, 7, 8, 9, 10, 11]] : List (List Nat)).getD j []), [3, 10]⟩ (fun jj vv yy => match jj with | 0 => vv = [some (.agg #[.slice d k l, .bool v, .slice d2 k2 l2])] | 1 => vv = [some (.agg #[.slice a3 n3 c3, .bool m3, .slice a4 n4 c4])] | 2 => ∃ (x12 : Option Addr), ∃ (n12 : Nat), ∃ (c12 : Nat), ∃ (m12 : Bool), ∃ (y12 : Option Addr), ∃ (o12 : Nat), ∃ (d12 : Nat), vv = [some (.agg #[.slice x12 n12 c12, .bool m12, .slice y12 o12 d12])] ∧ RatAt yy x12 n12 c12 m12 y12 o12 d12 (-F) G | 3 => ∃ (k3 : Nat), vv = [some (.slice (some ⟨k3, 0, none⟩) 1 1)] ∧ RatsAt yy (some ⟨k3, 0, none⟩) 1 1 (fun _ => -F) (fun _ => G) | 4 => ∃ (x14 : Option Addr), ∃ (n14 : Nat), ∃ (c14 : Nat), ∃ (m14 : Bool), ∃ (y14 : Option Addr), ∃ (o14 : Nat), ∃ (d14 : Nat), vv = [some (.agg #[.slice x14 n14 c14, .bool m14, .slice y14 o14 d14])] ∧ RatAt yy x14 n14 c14 m14 y14 o14 d14 S1 S2 | 5 => vv = [some (.agg #[.slice a n c, .bool m, .slice a2 n2 c2])] | 6 => ∃ (x16 : Option Addr), ∃ (n16 : Nat), ∃ (c16 : Nat), ∃ (m16 : Bool), ∃ (y16 : Option Addr), ∃ (o16 : Nat), ∃ (d16 : Nat), vv = [some (.tuple #[.agg #[.slice x16 n16 c16, .bool m16, .slice y16 o16 d16], .bool true])] ∧ RatAt yy x16 n16 c16 m16 y16 o16 d16 X1 1 | 7 => ∃ (x16 : Option Addr), ∃ (n16 : Nat), ∃ (c16 : Nat), ∃ (m16 : Bool), ∃ (y16 : Option Addr), ∃ (o16 : Nat), ∃ (d16 : Nat), vv = [some (.tuple #[.agg #[.slice x16 n16 c16, .bool m16, .slice y16 o16 d16], .bool true])] ∧ RatAt yy x16 n16 c16 m16 y16 o16 d16 X1 1 | 8 => ∃ (x16 : Option Addr), ∃ (n16 : Nat), ∃ (c16 : Nat), ∃ (m16 : Bool), ∃ (y16 : Option Addr), ∃ (o16 : Nat), ∃ (d16 : Nat), vv = [some (.agg #[.slice x16 n16 c16, .bool m16, .slice y16 o16 d16])] ∧ RatAt yy x16 n16 c16 m16 y16 o16 d16 X1 1 | 9 => vv = [some (.bool true)] | 10 => ∃ (k10 : Nat), ∃ (x0 : Option Addr), ∃ (y0 : Nat), ∃ (z0 : Nat), ∃ (b0 : Bool), ∃ (x1 : Option Addr), ∃ (y1 : Nat), ∃ (z1 : Nat), vv = [some (.pointer (some ⟨k10, 0, none⟩))] ∧ Slot3 yy k10 (.slice x0 y0 z0) (.bool b0) (.slice x1 y1 z1) ∧ w3.heap.size < k10 | 11 => ∃ (k10 : Nat), ∃ (x16 : Option Addr), ∃ (n16 : Nat), ∃ (c16 : Nat), ∃ (m16 : Bool), ∃ (y16 : Option Addr), ∃ (o16 : Nat), ∃ (d16 : Nat), vv = [some (.pointer (some ⟨k10, 0, none⟩))] ∧ Slot3 yy k10 (.slice x16 n16 c16) (.bool m16) (.slice y16 o16 d16) ∧ RatAt yy x16 n16 c16 m16 y16 o16 d16 X1 1 | 12 => vv = [some (.bool true)] | _ => True) (Bag w (fun y => Slot3 y w3.heap.size (.slice a3 n3 c3) (.bool m3) (.slice a4 n4 c4) ∧ RatAt y a3 n3 c3 m3 a4 n4 c4 F G ∧ Slot3 y w2.heap.size (.slice d k l) (.bool v) (.slice d2 k2 l2) ∧ RatAt y d k l v d2 k2 l2 P' Q' ∧ Slot3 y w1.heap.size (.slice a n c) (.bool m) (.slice a2 n2 c2) ∧ RatAt y a n c m a2 n2 c2 P Q ∧ Slot3 y (w.heap.size + 1) (.bool pb') (.string ps') (.string q') ∧ Slot3 y w.heap.size (.bool pb) (.string ps) (.string q) ∧ True)) (by kernel_rfl) (by kernel_rfl) (by kernel_rfl) BB.out.drew ?_ ?_ ?_
    · intro jj vv yw yw2 hb h
      match jj, h with
      | 0, h => exact h
      | 1, h => exact h
      | 2, ⟨x12, n12, c12, m12, y12, o12, d12, e2, g2_0⟩ => exact Exists.intro x12 (Exists.intro n12 (Exists.intro c12 (Exists.intro m12 (Exists.intro y12 (Exists.intro o12 (Exists.intro d12 (And.intro e2 (g2_0.below hb))))))))
      | 3, ⟨k3, e3, g3_0⟩ => exact Exists.intro k3 (And.intro e3 (g3_0.below hb))
      | 4, ⟨x14, n14, c14, m14, y14, o14, d14, e4, g4_0⟩ => exact Exists.intro x14 (Exists.intro n14 (Exists.intro c14 (Exists.intro m14 (Exists.intro y14 (Exists.intro o14 (Exists.intro d14 (And.intro e4 (g4_0.below hb))))))))
      | 5, h => exact h
      | 6, ⟨x16, n16, c16, m16, y16, o16, d16, e6, g6_0⟩ => exact Exists.intro x16 (Exists.intro n16 (Exists.intro c16 (Exists.intro m16 (Exists.intro y16 (Exists.intro o16 (Exists.intro d16 (And.intro e6 (g6_0.below hb))))))))
      | 7, ⟨x16, n16, c16, m16, y16, o16, d16, e7, g7_0⟩ => exact Exists.intro x16 (Exists.intro n16 (Exists.intro c16 (Exists.intro m16 (Exists.intro y16 (Exists.intro o16 (Exists.intro d16 (And.intro e7 (g7_0.below hb))))))))
      | 8, ⟨x16, n16, c16, m16, y16, o16, d16, e8, g8_0⟩ => exact Exists.intro x16 (Exists.intro n16 (Exists.intro c16 (Exists.intro m16 (Exists.intro y16 (Exists.intro o16 (Exists.intro d16 (And.intro e8 (g8_0.below hb))))))))
      | 9, h => exact h
      | 10, ⟨k10, x0, y0, z0, b0, x1, y1, z1, e10, g10_0, g10_1⟩ => exact Exists.intro k10 (Exists.intro x0 (Exists.intro y0 (Exists.intro z0 (Exists.intro b0 (Exists.intro x1 (Exists.intro y1 (Exists.intro z1 (And.intro e10 (And.intro (g10_0.below hb) g10_1)))))))))
      | 11, ⟨k10, x16, n16, c16, m16, y16, o16, d16, e11, g11_0, g11_1⟩ => exact Exists.intro k10 (Exists.intro x16 (Exists.intro n16 (Exists.intro c16 (Exists.intro m16 (Exists.intro y16 (Exists.intro o16 (Exists.intro d16 (And.intro e11 (And.intro (g11_0.below hb) (g11_1.below hb))))))))))
      | 12, h => exact h
      | _ + 13, h => exact h
    · intro ac yw hsz hdf hold hB hp
      obtain ⟨k10, x16, n16, c16, m16, y16, o16, d16, e11, sA, hr16⟩ := hp 11 (by decide)
      have t10 : ac.tmps[10]? = some (.pointer (some ⟨k10, 0, none⟩)) := (List.cons.inj e11).1
      have t5 : ac.tmps[5]? = some (.pointer (some ⟨w1.heap.size, 0, none⟩)) := hold 5 (by kernel_rfl)
      have t9 : ac.tmps[9]? = some (.pointer (some ⟨w3.heap.size, 0, none⟩)) := hold 9 (by kernel_rfl)
      clear hold hp e11
      obtain ⟨TV, hTV⟩ : ∃ TV : Nat → Value, ∀ i, (ac.tmps[i]?).getD undef = TV i := ⟨_, fun _ => rfl⟩
      have f5 := (hTV 5).symm.trans (congrArg (fun x => Option.getD x undef) t5)
      have f9 := (hTV 9).symm.trans (congrArg (fun x => Option.getD x undef) t9)
      have f10 := (hTV 10).symm.trans (congrArg (fun x => Option.getD x undef) t10)
      have hac := act_eq (n := 75) hsz TV hTV
      rw [show ((List.range 75).map TV).toArray = #[TV 0, TV 1, TV 2, TV 3, TV 4, TV 5, TV 6, TV 7, TV 8, TV 9, TV 10, TV 11, TV 12, TV 13, TV 14, TV 15, TV 16, TV 17, TV 18, TV 19, TV 20, TV 21, TV 22, TV 23, TV 24, TV 25, TV 26, TV 27, TV 28, TV 29, TV 30, TV 31, TV 32, TV 33, TV 34, TV 35, TV 36, TV 37, TV 38, TV 39, TV 40, TV 41, TV 42, TV 43, TV 44, TV 45, TV 46, TV 47, TV 48, TV 49, TV 50, TV 51, TV 52, TV 53, TV 54, TV 55, TV 56, TV 57, TV 58, TV 59, TV 60, TV 61, TV 62, TV 63, TV 64, TV 65, TV 66, TV 67, TV 68, TV 69, TV 70, TV 71, TV 72, TV 73, TV 74] from rfl, f5, f9, f10, hdf] at hac
      simp only [Option.getD_some] at hac
      subst hac
      clear hTV f5 f9 f10
      have BB := Lib.hid ((hB.slot3 sA).rat hr16)
      clear hB sA hr16 HP t5 t9 t10 MN PL BY
      go_wp2_with fail
      refine wp_region_inv ⟨(fun j => ([[58], [59], [60], [61], [62], [63], [64], [65], [66], [67], [68], [69], [70], [71], [72], [73], [74], [4]] : List (List Nat)).getD j []), (fun j => ([[], [0], [0, 1], [0, 1, 2], [0, 1, 2, 3], [0, 1, 2, 3, 4], [0, 1, 2, 3, 4, 5], [0, 1, 2, 3, 4, 5, 6], [0, 1, 2, 3, 4, 5, 6, 7], [0, 1, 2, 3, 4, 5, 6], [0, 1, 2, 3, 4, 5, 6, 7, 8, 9], [0, 1, 2, 3, 4, 5, 6, 7, 8, 9, 10], [0, 1, 2, 3, 4, 5, 6, 7, 8, 9, 10, 11], [0, 1, 2, 3, 4, 5, 6, 7, 8, 9, 10, 11, 12], [0, 1, 2, 3, 4, 5, 6, 7, 8, 9, 10, 11, 12, 13], [0, 1, 2, 3, 4, 5, 6, 7, 8, 9, 10, 11, 12, 13, 14], [0, 1, 2, 3, 4, 5, 6, 7, 8, 9, 10, 11, 12, 13, 14, 15], [0, 1, 2, 3, 4, 5, 6, 7, 8, 9, 10, 11, 12, 13, 14, 15, 16]] : List (List Nat)).getD j []), []⟩ (fun jj vv yy => match jj with | 0 => vv = [some (.agg #[.slice x16 n16 c16, .bool m16, .slice y16 o16 d16])] | 1 => vv = [some (.bool true)] | 2 => vv = [some (.bool true)] | 3 => vv = [some (.agg #[.slice a3 n3 c3, .bool m3, .slice a4 n4 c4])] | 4 => vv = [some (.int .i64 sF)] | 5 => vv = [some (.bool fz)] | 6 => vv = [some (.bool fz)] | 7 => (fz = false) → (vv = [some (.agg #[.slice a3 n3 c3, .bool m3, .slice a4 n4 c4])]) | 8 => (fz = false) → (vv = [some (.int .i64 sF)]) | 9 => (fz = false) → (vv = [some (.agg #[.slice a n c, .bool m, .slice a2 n2 c2])]) | 10 => (fz = false) → (vv = [some (.int .i64 sP)]) | 11 => (fz = false) → (vv = [some (.bool eq)]) | 12 => vv = [some (.bool true)] | 13 => vv = [some (.bool true)] | 14 => vv = [some (.bool true)] | 15 => vv = [some (.bool true)] | 16 => vv = [some (.bool true)] | 17 => vv = [some (.bool true)] | _ => True) (Bag w (fun y => RatAt y x16 n16 c16 m16 y16 o16 d16 X1 1 ∧ Slot3 y k10 (.slice x16 n16 c16) (.bool m16) (.slice y16 o16 d16) ∧ Slot3 y w3.heap.size (.slice a3 n3 c3) (.bool m3) (.slice a4 n4 c4) ∧ RatAt y a3 n3 c3 m3 a4 n4 c4 F G ∧ Slot3 y w2.heap.size (.slice d k l) (.bool v) (.slice d2 k2 l2) ∧ RatAt y d k l v d2 k2 l2 P' Q' ∧ Slot3 y w1.heap.size (.slice a n c) (.bool m) (.slice a2 n2 c2) ∧ RatAt y a n c m a2 n2 c2 P Q ∧ Slot3 y (w.heap.size + 1) (.bool pb') (.string ps') (.string q') ∧ Slot3 y w.heap.size (.bool pb) (.string ps) (.string q) ∧ True)) (by kernel_rfl) (by kernel_rfl) (by kernel_rfl) BB.out.drew ?_ ?_ ?_
      · intro jj vv yw yw2 hb h
        match jj, h with
        | 0, h => exact h
        | 1, h => exact h
        | 2, h => exact h
        | 3, h => exact h
        | 4, h => exact h
        | 5, h => exact h
        | 6, h => exact h
        | 7, h => exact h
        | 8, h => exact h
        | 9, h => exact h
        | 10, h => exact h
        | 11, h => exact h
        | 12, h => exact h
        | 13, h => exact h
        | 14, h => exact h
        | 15, h => exact h
        | 16, h => exact h
        | 17, h => exact h
        | _ + 18, h => exact h
      · intro ac yw hsz hdf hold hB hp
        have t4 : ac.tmps[4]? = some (.bool true) := (List.cons.inj (hp 17 (by decide))).1
        clear hold hp
        obtain ⟨TW, hTW⟩ : ∃ TW : Nat → Value, ∀ i, (ac.tmps[i]?).getD undef = TW i := ⟨_, fun _ => rfl⟩
        have f4 := (hTW 4).symm.trans (congrArg (fun x => Option.getD x undef) t4)
        have hac := act_eq (n := 75) hsz TW hTW
        rw [show ((List.range 75).map TW).toArray = #[TW 0, TW 1, TW 2, TW 3, TW 4, TW 5, TW 6, TW 7, TW 8, TW 9, TW 10, TW 11, TW 12, TW 13, TW 14, TW 15, TW 16, TW 17, TW 18, TW 19, TW 20, TW 21, TW 22, TW 23, TW 24, TW 25, TW 26, TW 27, TW 28, TW 29, TW 30, TW 31, TW 32, TW 33, TW 34, TW 35, TW 36, TW 37, TW 38, TW 39, TW 40, TW 41, TW 42, TW 43, TW 44, TW 45, TW 46, TW 47, TW 48, TW 49, TW 50, TW 51, TW 52, TW 53, TW 54, TW 55, TW 56, TW 57, TW 58, TW 59, TW 60, TW 61, TW 62, TW 63, TW 64, TW 65, TW 66, TW 67, TW 68, TW 69, TW 70, TW 71, TW 72, TW 73, TW 74] from rfl, f4, hdf] at hac
        simp only [Option.getD_some] at hac
        subst hac
        clear hTW f4
        go_wp2
        go_ret
        exact ⟨rfl, hB.below⟩
      refine Stps.cons (o := _) ?_ ?_
      · intro ac yw hsz hold hB hp K hK
        have t10 : ac.tmps[10]? = some (.pointer (some ⟨k10, 0, none⟩)) := hold 10 (by kernel_rfl)
        clear hold hp hsz
        have v0 := hB.now.2.1.cell
        have v1 := hB.now.2.1.cell1
        have v2 := hB.now.2.1.cell2
        have v3 := hB.now.2.2.1.cell
        have v4 := hB.now.2.2.1.cell1
        have v5 := hB.now.2.2.1.cell2
        have v6 := hB.now.2.2.2.2.2.2.1.cell
        have v7 := hB.now.2.2.2.2.2.2.1.cell1
        have v8 := hB.now.2.2.2.2.2.2.1.cell2
        go_simp
        exact hK.out _ _ ⟨hB, rfl, Nat.le_refl _, .inl (Below.refl _ _), fun h => absurd h (by decide)⟩
      refine Stps.cons (o := _) ?_ ?_
      · intro ac yw hsz hold hB hp K hK
        have e0 := hp 0 (by decide)
        have t58 : ac.tmps[58]? = some (.agg #[.slice x16 n16 c16, .bool m16, .slice y16 o16 d16]) := (List.cons.inj e0).1
        clear hold hp hsz e0
        go_simp
        (go_at_call 36; (with_reducible refine (IW.out _ _ _ _ _ _ _ _ hB.now.1).mono ?_); rintro e wz ⟨rfl, hbz⟩)
        exact hK.out _ _ ⟨hB.go hbz, rfl, hbz.size, .inl hbz, fun h => absurd h (by decide)⟩
      refine Stps.cons (o := _) ?_ ?_
      · intro ac yw hsz hold hB hp K hK
        have e1 := hp 1 (by decide)
        have t59 : ac.tmps[59]? = some (.bool true) := (List.cons.inj e1).1
        clear hold hp hsz e1
        go_simp
        exact hK.out _ _ ⟨hB, rfl, Nat.le_refl _, .inl (Below.refl _ _), fun h => absurd h (by decide)⟩
      refine Stps.cons (o := _) ?_ ?_
      · intro ac yw hsz hold hB hp K hK
        have t60 : ac.tmps[60]? = some (.bool true) := (List.cons.inj (hp 2 (by decide))).1
        rw [if_pos (wanted_pos rfl rfl t60)]
        have t9 : ac.tmps[9]? = some (.pointer (some ⟨w3.heap.size, 0, none⟩)) := hold 9 (by kernel_rfl)
        clear hold hp hsz
        have v0 := hB.now.2.1.cell
        have v1 := hB.now.2.1.cell1
        have v2 := hB.now.2.1.cell2
        have v3 := hB.now.2.2.1.cell
        have v4 := hB.now.2.2.1.cell1
        have v5 := hB.now.2.2.1.cell2
        have v6 := hB.now.2.2.2.2.2.2.1.cell
        have v7 := hB.now.2.2.2.2.2.2.1.cell1
        have v8 := hB.now.2.2.2.2.2.2.1.cell2
        go_simp
        exact hK.out _ _ ⟨hB, rfl, Nat.le_refl _, .inl (Below.refl _ _), fun h => absurd h (by decide)⟩
      refine Stps.cons (o := _) ?_ ?_
      · intro ac yw hsz hold hB hp K hK
        have t60 : ac.tmps[60]? = some (.bool true) := (List.cons.inj (hp 2 (by decide))).1
        rw [if_pos (wanted_pos rfl rfl t60)]
        have e3 := hp 3 (by decide)
        have t61 : ac.tmps[61]? = some (.agg #[.slice a3 n3 c3, .bool m3, .slice a4 n4 c4]) := (List.cons.inj e3).1
        clear hold hp hsz e3
        go_simp
        (go_at_call 34; (with_reducible refine (SR.out _ _ _ _ _ _ _ _ hB.now.2.2.2.1).mono ?_); rintro e wz ⟨rfl, hbz⟩)
        exact hK.out _ _ ⟨hB.go hbz, rfl, hbz.size, .inl hbz, fun h => absurd h (by decide)⟩
      refine Stps.cons (o := _) ?_ ?_
      · intro ac yw hsz hold hB hp K hK
        have t60 : ac.tmps[60]? = some (.bool true) := (List.cons.inj (hp 2 (by decide))).1
        rw [if_pos (wanted_pos rfl rfl t60)]
        have e4 := hp 4 (by decide)
        have t62 : ac.tmps[62]? = some (.int .i64 sF) := (List.cons.inj e4).1
        clear hold hp hsz e4
        go_simp
        exact hK.out _ _ ⟨hB, rfl, Nat.le_refl _, .inl (Below.refl _ _), fun h => absurd h (by decide)⟩
      refine Stps.cons (o := _) ?_ ?_
      · intro ac yw hsz hold hB hp K hK
        have t60 : ac.tmps[60]? = some (.bool true) := (List.cons.inj (hp 2 (by decide))).1
        rw [if_pos (wanted_pos rfl rfl t60)]
        have e5 := hp 5 (by decide)
        have t63 : ac.tmps[63]? = some (.bool fz) := (List.cons.inj e5).1
        clear hold hp hsz e5
        go_simp
        exact hK.out _ _ ⟨hB, rfl, Nat.le_refl _, .inl (Below.refl _ _), fun h => absurd h (by decide)⟩
      refine Stps.cons (o := _) ?_ ?_
      · intro ac yw hsz hold hB hp K hK
        have t64 : ac.tmps[64]? = some (.bool fz) := (List.cons.inj (hp 6 (by decide))).1
        by_cases hc : (fz) = false
        · rw [hc] at t64
          rw [if_pos (wanted_pos rfl rfl t64)]
          have t9 : ac.tmps[9]? = some (.pointer (some ⟨w3.heap.size, 0, none⟩)) := hold 9 (by kernel_rfl)
          clear hold hp hsz
          have v0 := hB.now.2.1.cell
          have v1 := hB.now.2.1.cell1
          have v2 := hB.now.2.1.cell2
          have v3 := hB.now.2.2.1.cell
          have v4 := hB.now.2.2.1.cell1
          have v5 := hB.now.2.2.1.cell2
          have v6 := hB.now.2.2.2.2.2.2.1.cell
          have v7 := hB.now.2.2.2.2.2.2.1.cell1
          have v8 := hB.now.2.2.2.2.2.2.1.cell2
          go_simp
          exact hK.out _ _ ⟨hB, fun _ => rfl, Nat.le_refl _, .inl (Below.refl _ _), fun h => absurd h (by decide)⟩
        · rw [if_neg (by rw [wanted_neg rfl rfl t64 (fun e => hc (by injection e))]; decide)]
          exact hK.out _ _ ⟨hB, fun h => absurd h hc, Nat.le_refl _, .inl (Below.refl _ _), fun h => absurd h (by decide)⟩
      refine Stps.cons (o := _) ?_ ?_
      · intro ac yw hsz hold hB hp K hK
        have t64 : ac.tmps[64]? = some (.bool fz) := (List.cons.inj (hp 6 (by decide))).1
        by_cases hc : (fz) = false
        · rw [hc] at t64
          rw [if_pos (wanted_pos rfl rfl t64)]
          have e7 := hp 7 (by decide) hc
          have t65 : ac.tmps[65]? = some (.agg #[.slice a3 n3 c3, .bool m3, .slice a4 n4 c4]) := (List.cons.inj e7).1
          clear hold hp hsz e7
          go_simp
          (go_at_call 34; (with_reducible refine (SR.out _ _ _ _ _ _ _ _ hB.now.2.2.2.1).mono ?_); rintro e wz ⟨rfl, hbz⟩)
          exact hK.out _ _ ⟨hB.go hbz, fun _ => rfl, hbz.size, .inl hbz, fun h => absurd h (by decide)⟩
        · rw [if_neg (by rw [wanted_neg rfl rfl t64 (fun e => hc (by injection e))]; decide)]
          exact hK.out _ _ ⟨hB, fun h => absurd h hc, Nat.le_refl _, .inl (Below.refl _ _), fun h => absurd h (by decide)⟩
      refine Stps.cons (o := _) ?_ ?_
      · intro ac yw hsz hold hB hp K hK
        have t64 : ac.tmps[64]? = some (.bool fz) := (List.cons.inj (hp 6 (by decide))).1
        by_cases hc : (fz) = false
        · rw [hc] at t64
          rw [if_pos (wanted_pos rfl rfl t64)]
          have t5 : ac.tmps[5]? = some (.pointer (some ⟨w1.heap.size, 0, none⟩)) := hold 5 (by kernel_rfl)
          clear hold hp hsz
          have v0 := hB.now.2.1.cell
          have v1 := hB.now.2.1.cell1
          have v2 := hB.now.2.1.cell2
          have v3 := hB.now.2.2.1.cell
          have v4 := hB.now.2.2.1.cell1
          have v5 := hB.now.2.2.1.cell2
          have v6 := hB.now.2.2.2.2.2.2.1.cell
          have v7 := hB.now.2.2.2.2.2.2.1.cell1
          have v8 := hB.now.2.2.2.2.2.2.1.cell2
          go_simp
          exact hK.out _ _ ⟨hB, fun _ => rfl, Nat.le_refl _, .inl (Below.refl _ _), fun h => absurd h (by decide)⟩
        · rw [if_neg (by rw [wanted_neg rfl rfl t64 (fun e => hc (by injection e))]; decide)]
          exact hK.out _ _ ⟨hB, fun h => absurd h hc, Nat.le_refl _, .inl (Below.refl _ _), fun h => absurd h (by decide)⟩
      refine Stps.cons (o := _) ?_ ?_
      · intro ac yw hsz hold hB hp K hK
        have t64 : ac.tmps[64]? = some (.bool fz) := (List.cons.inj (hp 6 (by decide))).1
        by_cases hc : (fz) = false
        · rw [hc] at t64
          rw [if_pos (wanted_pos rfl rfl t64)]
          have e9 := hp 9 (by decide) hc
          have t67 : ac.tmps[67]? = some (.agg #[.slice a n c, .bool m, .slice a2 n2 c2]) := (List.cons.inj e9).1
          clear hold hp hsz e9
          go_simp
          (go_at_call 34; (with_reducible refine (SG.out _ _ _ _ _ _ _ _ hB.now.2.2.2.2.2.2.2.1).mono ?_); rintro e wz ⟨rfl, hbz⟩)
          exact hK.out _ _ ⟨hB.go hbz, fun _ => rfl, hbz.size, .inl hbz, fun h => absurd h (by decide)⟩
        · rw [if_neg (by rw [wanted_neg rfl rfl t64 (fun e => hc (by injection e))]; decide)]
          exact hK.out _ _ ⟨hB, fun h => absurd h hc, Nat.le_refl _, .inl (Below.refl _ _), fun h => absurd h (by decide)⟩
      refine Stps.cons (o := _) ?_ ?_
      · intro ac yw hsz hold hB hp K hK
        have t64 : ac.tmps[64]? = some (.bool fz) := (List.cons.inj (hp 6 (by decide))).1
        by_cases hc : (fz) = false
        · rw [hc] at t64
          rw [if_pos (wanted_pos rfl rfl t64)]
          have e8 := hp 8 (by decide) hc
          have t66 : ac.tmps[66]? = some (.int .i64 sF) := (List.cons.inj e8).1
          have e10 := hp 10 (by decide) hc
          have t68 : ac.tmps[68]? = some (.int .i64 sP) := (List.cons.inj e10).1
          clear hold hp hsz e8 e10
          go_simp
          exact hK.out _ _ ⟨hB, fun _ => rfl, Nat.le_refl _, .inl (Below.refl _ _), fun h => absurd h (by decide)⟩
        · rw [if_neg (by rw [wanted_neg rfl rfl t64 (fun e => hc (by injection e))]; decide)]
          exact hK.out _ _ ⟨hB, fun h => absurd h hc, Nat.le_refl _, .inl (Below.refl _ _), fun h => absurd h (by decide)⟩
      refine Stps.cons (o := _) ?_ ?_
      · intro ac yw hsz hold hB hp K hK
        have t60 : ac.tmps[60]? = some (.bool true) := (List.cons.inj (hp 2 (by decide))).1
        rw [if_pos (wanted_pos rfl rfl t60)]
        have t64 : ac.tmps[64]? = some (.bool fz) := (List.cons.inj (hp 6 (by decide))).1
        by_cases hc : (fz) = true
        · rw [hc] at t64
          clear hold hp hsz
          go_simp
          exact hK.out _ _ ⟨hB, congrArg (fun b => [some (Value.bool b)]) ((fun _ => rfl) hc).symm, Nat.le_refl _, .inl (Below.refl _ _), fun h => absurd h (by decide)⟩
        · have hc : (fz) = false := by simpa using hc
          rw [hc] at t64
          have t69 : ac.tmps[69]? = some (.bool eq) := (List.cons.inj (hp 11 (by decide) hc)).1
          clear hold hp hsz
          go_simp
          exact hK.out _ _ ⟨hB, congrArg (fun b => [some (Value.bool b)]) ((fun h => (HE3.out h).symm) hc).symm, Nat.le_refl _, .inl (Below.refl _ _), fun h => absurd h (by decide)⟩
      refine Stps.cons (o := _) ?_ ?_
      · intro ac yw hsz hold hB hp K hK
        have e2 := hp 2 (by decide)
        have t60 : ac.tmps[60]? = some (.bool true) := (List.cons.inj e2).1
        have e12 := hp 12 (by decide)
        have t70 : ac.tmps[70]? = some (.bool true) := (List.cons.inj e12).1
        clear hold hp hsz e2 e12
        go_simp
        exact hK.out _ _ ⟨hB, rfl, Nat.le_refl _, .inl (Below.refl _ _), fun h => absurd h (by decide)⟩
      refine Stps.cons (o := _) ?_ ?_
      · intro ac yw hsz hold hB hp K hK
        have e13 := hp 13 (by decide)
        have t71 : ac.tmps[71]? = some (.bool true) := (List.cons.inj e13).1
        clear hold hp hsz e13
        go_simp
        exact hK.out _ _ ⟨hB, rfl, Nat.le_refl _, .inl (Below.refl _ _), fun h => absurd h (by decide)⟩
      refine Stps.cons (o := _) ?_ ?_
      · intro ac yw hsz hold hB hp K hK
        have t72 : ac.tmps[72]? = some (.bool true) := (List.cons.inj (hp 14 (by decide))).1
        rw [if_pos (wanted_pos rfl rfl t72)]
        clear hold hp hsz
        go_simp
        (go_at_call 12; refine (awake3_any _).mono ?_; rintro e wz ⟨rfl, hbz⟩)
        exact hK.out _ _ ⟨hB.go hbz, rfl, hbz.size, .inl hbz, fun h => absurd h (by decide)⟩
      refine Stps.cons (o := _) ?_ ?_
      · intro ac yw hsz hold hB hp K hK
        have e14 := hp 14 (by decide)
        have t72 : ac.tmps[72]? = some (.bool true) := (List.cons.inj e14).1
        have e15 := hp 15 (by decide)
        have t73 : ac.tmps[73]? = some (.bool true) := (List.cons.inj e15).1
        clear hold hp hsz e14 e15
        go_simp
        exact hK.out _ _ ⟨hB, rfl, Nat.le_refl _, .inl (Below.refl _ _), fun h => absurd h (by decide)⟩
      refine Stps.cons (o := _) ?_ ?_
      · intro ac yw hsz hold hB hp K hK
        have e16 := hp 16 (by decide)
        have t74 : ac.tmps[74]? = some (.bool true) := (List.cons.inj e16).1
        clear hold hp hsz e16
        go_simp
        exact hK.out _ _ ⟨hB, rfl, Nat.le_refl _, .inl (Below.refl _ _), fun h => absurd h (by decide)⟩
      exact Stps.nil _
    refine Stps2.cons (o := _) ?_ ?_
    · intro ac yw hsz hold hB hp K hK
      have t7 : ac.tmps[7]? = some (.pointer (some ⟨w2.heap.size, 0, none⟩)) := hold 7 (by kernel_rfl)
      clear hold hp hsz
      have v0 := hB.now.1.cell
      have v1 := hB.now.1.cell1
      have v2 := hB.now.1.cell2
      have v3 := hB.now.2.2.1.cell
      have v4 := hB.now.2.2.1.cell1
      have v5 := hB.now.2.2.1.cell2
      have v6 := hB.now.2.2.2.2.1.cell
      have v7 := hB.now.2.2.2.2.1.cell1
      have v8 := hB.now.2.2.2.2.1.cell2
      go_simp
      exact hK.out _ _ ⟨hB, rfl, Nat.le_refl _, .inl (Below.refl _ _), fun h => absurd h (by decide)⟩
    refine Stps2.cons (o := _) ?_ ?_
    · intro ac yw hsz hold hB hp K hK
      have t9 : ac.tmps[9]? = some (.pointer (some ⟨w3.heap.size, 0, none⟩)) := hold 9 (by kernel_rfl)
      clear hold hp hsz
      have v0 := hB.now.1.cell
      have v1 := hB.now.1.cell1
      have v2 := hB.now.1.cell2
      have v3 := hB.now.2.2.1.cell
      have v4 := hB.now.2.2.1.cell1
      have v5 := hB.now.2.2.1.cell2
      have v6 := hB.now.2.2.2.2.1.cell
      have v7 := hB.now.2.2.2.2.1.cell1
      have v8 := hB.now.2.2.2.2.1.cell2
      go_simp
      exact hK.out _ _ ⟨hB, rfl, Nat.le_refl _, .inl (Below.refl _ _), fun h => absurd h (by decide)⟩
    refine Stps2.cons (o := _) ?_ ?_
    · intro ac yw hsz hold hB hp K hK
      have e1 := hp 1 (by decide)
      have t50 : ac.tmps[50]? = some (.agg #[.slice a3 n3 c3, .bool m3, .slice a4 n4 c4]) := (List.cons.inj e1).1
      clear hold hp hsz e1
      go_simp
      (go_at_call 41; (with_reducible refine (MN.out _ _ _ _ _ _ _ _ hB.now.2.1).mono ?_); rintro e wz ⟨x12, n12, c12, m12, y12, o12, d12, rfl, h2_0, hbz⟩)
      exact hK.out _ _ ⟨hB.go hbz, Exists.intro x12 (Exists.intro n12 (Exists.intro c12 (Exists.intro m12 (Exists.intro y12 (Exists.intro o12 (Exists.intro d12 (And.intro rfl h2_0))))))), hbz.size, .inl hbz, fun h => absurd h (by decide)⟩
    refine Stps2.cons (o := _) ?_ ?_
    · intro ac yw hsz hold hB hp K hK
      obtain ⟨x12_2, n12_2, c12_2, m12_2, y12_2, o12_2, d12_2, e2, g2_0⟩ := hp 2 (by decide)
      have t51 : ac.tmps[51]? = some (.agg #[.slice x12_2 n12_2 c12_2, .bool m12_2, .slice y12_2 o12_2 d12_2]) := (List.cons.inj e2).1
      clear hold hp hsz e2
      have hbz : Below yw.heap.size yw (yw.alloc (.cells #[.slice x12_2 n12_2 c12_2, .bool m12_2, .slice y12_2 o12_2 d12_2] 37)) ∧ yw.heap.size < (yw.alloc (.cells #[.slice x12_2 n12_2 c12_2, .bool m12_2, .slice y12_2 o12_2 d12_2] 37)).heap.size := ⟨(Below.refl _ _).alloc (Nat.le_refl _) _, by simp⟩
      have hra := RatsAt.old1 (wk := yw) (t := 37) (Below.refl _ _) rfl (g2_0.below hbz.1)
      go_simp
      exact hK.out _ _ ⟨hB.alloc _, Exists.intro yw.heap.size (And.intro rfl hra), Nat.le_of_lt hbz.2, .inl hbz.1, fun _ => ⟨_, rfl, Nat.le_refl _, hbz.2⟩⟩
    refine Stps2.cons (o := _) ?_ ?_
    · intro ac yw hsz hold hB hp K hK
      have e0 := hp 0 (by decide)
      have t49 : ac.tmps[49]? = some (.agg #[.slice d k l, .bool v, .slice d2 k2 l2]) := (List.cons.inj e0).1
      obtain ⟨k3_3, e3, g3_0⟩ := hp 3 (by decide)
      have t52 : ac.tmps[52]? = some (.slice (some ⟨k3_3, 0, none⟩) 1 1) := (List.cons.inj e3).1
      clear hold hp hsz e0 e3
      go_simp
      (go_at_call 49; (with_reducible refine (PL.out _ _ _ _ _ _ _ _ _ hB.now.2.2.2.1 g3_0).mono ?_); rintro e wz ⟨x14, n14, c14, m14, y14, o14, d14, rfl, h4_0, hbz⟩)
      exact hK.out _ _ ⟨hB.go hbz, Exists.intro x14 (Exists.intro n14 (Exists.intro c14 (Exists.intro m14 (Exists.intro y14 (Exists.intro o14 (Exists.intro d14 (And.intro rfl h4_0))))))), hbz.size, .inl hbz, fun h => absurd h (by decide)⟩
    refine Stps2.cons (o := _) ?_ ?_
    · intro ac yw hsz hold hB hp K hK
      have t5 : ac.tmps[5]? = some (.pointer (some ⟨w1.heap.size, 0, none⟩)) := hold 5 (by kernel_rfl)
      clear hold hp hsz
      have v0 := hB.now.1.cell
      have v1 := hB.now.1.cell1
      have v2 := hB.now.1.cell2
      have v3 := hB.now.2.2.1.cell
      have v4 := hB.now.2.2.1.cell1
      have v5 := hB.now.2.2.1.cell2
      have v6 := hB.now.2.2.2.2.1.cell
      have v7 := hB.now.2.2.2.2.1.cell1
      have v8 := hB.now.2.2.2.2.1.cell2
      go_simp
      exact hK.out _ _ ⟨hB, rfl, Nat.le_refl _, .inl (Below.refl _ _), fun h => absurd h (by decide)⟩
    refine Stps2.cons (o := _) ?_ ?_
    · intro ac yw hsz hold hB hp K hK
      obtain ⟨x14_4, n14_4, c14_4, m14_4, y14_4, o14_4, d14_4, e4, g4_0⟩ := hp 4 (by decide)
      have t53 : ac.tmps[53]? = some (.agg #[.slice x14_4 n14_4 c14_4, .bool m14_4, .slice y14_4 o14_4 d14_4]) := (List.cons.inj e4).1
      have e5 := hp 5 (by decide)
      have t54 : ac.tmps[54]? = some (.agg #[.slice a n c, .bool m, .slice a2 n2 c2]) := (List.cons.inj e5).1
      clear hold hp hsz e4 e5
      go_simp
      (go_at_call 47; (with_reducible refine (BY.out _ _ _ _ _ _ _ _ _ _ _ _ _ _ _ g4_0 hB.now.2.2.2.2.2.1).mono ?_); rintro e wz ⟨x16, n16, c16, m16, y16, o16, d16, rfl, h6_0, hbz⟩)
      exact hK.out _ _ ⟨hB.go hbz, Exists.intro x16 (Exists.intro n16 (Exists.intro c16 (Exists.intro m16 (Exists.intro y16 (Exists.intro o16 (Exists.intro d16 (And.intro rfl h6_0))))))), hbz.size, .inl hbz, fun h => absurd h (by decide)⟩
    refine Stps2.cons (o := _) ?_ ?_
    · intro ac yw hsz hold hB hp K hK
      obtain ⟨x16_6, n16_6, c16_6, m16_6, y16_6, o16_6, d16_6, e6, g6_0⟩ := hp 6 (by decide)
      have t55 : ac.tmps[55]? = some (.tuple #[.agg #[.slice x16_6 n16_6 c16_6, .bool m16_6, .slice y16_6 o16_6 d16_6], .bool true]) := (List.cons.inj e6).1
      clear hold hp hsz e6
      go_simp
      exact hK.out _ _ ⟨hB, Exists.intro x16_6 (Exists.intro n16_6 (Exists.intro c16_6 (Exists.intro m16_6 (Exists.intro y16_6 (Exists.intro o16_6 (Exists.intro d16_6 (And.intro rfl g6_0))))))), Nat.le_refl _, .inl (Below.refl _ _), fun h => absurd h (by decide)⟩
    refine Stps2.cons (o := _) ?_ ?_
    · intro ac yw hsz hold hB hp K hK
      obtain ⟨x16_7, n16_7, c16_7, m16_7, y16_7, o16_7, d16_7, e7, g7_0⟩ := hp 7 (by decide)
      have t48 : ac.tmps[48]? = some (.tuple #[.agg #[.slice x16_7 n16_7 c16_7, .bool m16_7, .slice y16_7 o16_7 d16_7], .bool true]) := (List.cons.inj e7).1
      clear hold hp hsz e7
      go_simp
      exact hK.out _ _ ⟨hB, Exists.intro x16_7 (Exists.intro n16_7 (Exists.intro c16_7 (Exists.intro m16_7 (Exists.intro y16_7 (Exists.intro o16_7 (Exists.intro d16_7 (And.intro rfl g7_0))))))), Nat.le_refl _, .inl (Below.refl _ _), fun h => absurd h (by decide)⟩
    refine Stps2.cons (o := _) ?_ ?_
    · intro ac yw hsz hold hB hp K hK
      obtain ⟨x16_7, n16_7, c16_7, m16_7, y16_7, o16_7, d16_7, e7, g7_0⟩ := hp 7 (by decide)
      have t48 : ac.tmps[48]? = some (.tuple #[.agg #[.slice x16_7 n16_7 c16_7, .bool m16_7, .slice y16_7 o16_7 d16_7], .bool true]) := (List.cons.inj e7).1
      clear hold hp hsz e7
      go_simp
      exact hK.out _ _ ⟨hB, rfl, Nat.le_refl _, .inl (Below.refl _ _), fun h => absurd h (by decide)⟩
    refine Stps2.cons (o := _) ?_ ?_
    · intro ac yw hsz hold hB hp K hK
      clear hold hp hsz
      have hk0 := hB.now.1.lt
      have hsl := Slot3.new yw (.slice none 0 0) (.bool false) (.slice none 0 0) 37
      have hbz : Below yw.heap.size yw (yw.alloc (.cells #[.slice none 0 0, .bool false, .slice none 0 0] 37)) ∧ yw.heap.size < (yw.alloc (.cells #[.slice none 0 0, .bool false, .slice none 0 0] 37)).heap.size := ⟨(Below.refl _ _).alloc (Nat.le_refl _) _, by simp⟩
      go_simp
      exact hK.out _ _ ⟨hB.alloc _, Exists.intro yw.heap.size (Exists.intro none (Exists.intro 0 (Exists.intro 0 (Exists.intro false (Exists.intro none (Exists.intro 0 (Exists.intro 0 (And.intro rfl (And.intro hsl hk0))))))))), Nat.le_of_lt hbz.2, .inl hbz.1, fun _ => ⟨_, rfl, Nat.le_refl _, hbz.2⟩⟩
    refine Stps2.cons (o := _) ?_ ?_
    · intro ac yw hsz hold hB hp K hK
      obtain ⟨k10_10, x0_10, y0_10, z0_10, b0_10, x1_10, y1_10, z1_10, e10, g10_0, g10_1⟩ := hp 10 (by decide)
      have t10 : ac.tmps[10]? = some (.pointer (some ⟨k10_10, 0, none⟩)) := (List.cons.inj e10).1
      obtain ⟨x16_8, n16_8, c16_8, m16_8, y16_8, o16_8, d16_8, e8, g8_0⟩ := hp 8 (by decide)
      have t56 : ac.tmps[56]? = some (.agg #[.slice x16_8 n16_8 c16_8, .bool m16_8, .slice y16_8 o16_8 d16_8]) := (List.cons.inj e8).1
      clear hold hp hsz e10 e8
      have hs := g10_0
      have l0 := hs.cell
      have l1 := hs.cell1
      have l2 := hs.cell2
      have f0 := hs.free
      have f1 := hs.free1
      have f2 := hs.free2
      have HB := HP.out _ _ hs g10_1 hB x16_8 n16_8 c16_8 m16_8 y16_8 o16_8 d16_8
      go_simp
      refine hK.out undef _ ⟨HB, Exists.intro k10_10 (Exists.intro x16_8 (Exists.intro n16_8 (Exists.intro c16_8 (Exists.intro m16_8 (Exists.intro y16_8 (Exists.intro o16_8 (Exists.intro d16_8 (And.intro (congrArg (fun x => [x]) t10) (And.intro (hs.set3 (.slice x16_8 n16_8 c16_8) (.bool m16_8) (.slice y16_8 o16_8 d16_8)) (RatAt.set3 g8_0 hs _ _ _)))))))))), by simp, .inr ?_, fun h => absurd h (by decide)⟩
      intro jj hj hap h
      match jj, h with
      | 0, h => exact h
      | 1, h => exact h
      | 2, ⟨x12, n12, c12, m12, y12, o12, d12, e2, g2_0⟩ =>
        exact Exists.intro x12 (Exists.intro n12 (Exists.intro c12 (Exists.intro m12 (Exists.intro y12 (Exists.intro o12 (Exists.intro d12 (And.intro e2 (RatAt.set3 g2_0 hs _ _ _))))))))
      | 3, ⟨k3, e3, g3_0⟩ =>
        have hne : k3 ≠ k10_10 := fun e => hap 10 (by decide) 3 (by decide) (by decide) (by decide) (by decide) k10_10 ⟨10, _, rfl, t10, rfl⟩ ⟨52, _, rfl, (List.cons.inj e3).1, congrArg some e⟩
        exact Exists.intro k3 (And.intro e3 (RatsAt.set3o g3_0 hne hs _ _ _))
      | 4, ⟨x14, n14, c14, m14, y14, o14, d14, e4, g4_0⟩ =>
        exact Exists.intro x14 (Exists.intro n14 (Exists.intro c14 (Exists.intro m14 (Exists.intro y14 (Exists.intro o14 (Exists.intro d14 (And.intro e4 (RatAt.set3 g4_0 hs _ _ _))))))))
      | 5, h => exact h
      | 6, ⟨x16, n16, c16, m16, y16, o16, d16, e6, g6_0⟩ =>
        exact Exists.intro x16 (Exists.intro n16 (Exists.intro c16 (Exists.intro m16 (Exists.intro y16 (Exists.intro o16 (Exists.intro d16 (And.intro e6 (RatAt.set3 g6_0 hs _ _ _))))))))
      | 7, ⟨x16, n16, c16, m16, y16, o16, d16, e7, g7_0⟩ =>
        exact Exists.intro x16 (Exists.intro n16 (Exists.intro c16 (Exists.intro m16 (Exists.intro y16 (Exists.intro o16 (Exists.intro d16 (And.intro e7 (RatAt.set3 g7_0 hs _ _ _))))))))
      | 8, ⟨x16, n16, c16, m16, y16, o16, d16, e8, g8_0⟩ =>
        exact Exists.intro x16 (Exists.intro n16 (Exists.intro c16 (Exists.intro m16 (Exists.intro y16 (Exists.intro o16 (Exists.intro d16 (And.intro e8 (RatAt.set3 g8_0 hs _ _ _))))))))
      | 9, h => exact h
      | 10, ⟨k10, x0, y0, z0, b0, x1, y1, z1, e10, g10_0, g10_1⟩ =>
        have e9 : k10 = k10_10 := by have := (List.cons.inj e10).1.symm.trans t10; cases this; rfl
        subst e9
        exact Exists.intro _ (Exists.intro _ (Exists.intro _ (Exists.intro _ (Exists.intro _ (Exists.intro _ (Exists.intro _ (Exists.intro _ (And.intro e10 (And.intro (g10_0.set3 _ _ _) g10_1)))))))))
      | 11, _ => exact absurd rfl hj
      | 12, h => exact h
      | _ + 13, h => exact h
    refine Stps2.cons (o := _) ?_ ?_
    · intro ac yw hsz hold hB hp K hK
      have e9 := hp 9 (by decide)
      have t57 : ac.tmps[57]? = some (.bool true) := (List.cons.inj e9).1
      clear hold hp hsz e9
      go_simp
      exact hK.out _ _ ⟨hB, rfl, Nat.le_refl _, .inl (Below.refl _ _), fun h => absurd h (by decide)⟩
    exact Stps2.nil _

theorem ratioRests_walk (b : Bool) (s t : ByteArray) (b' : Bool) (s' t' : ByteArray) (w : World) (_ : s.size ≤ maxLen) (_ : t.size ≤ maxLen) (_ : s'.size ≤ maxLen) (_ : t'.size ≤ maxLen) :
    Calls Tryz.prog 7 #[.agg #[.bool b, .string s, .string t], .agg #[.bool b', .string s', .string t']] w fun e w' => e = .returned (.bool true) ∧ Below w.heap.size w w' := by
  cases h : (rd3 b s t && rd3 b' s' t') with
  | false => exact ratioRests_no b s t b' s' t' w h
  | true => rw [Bool.and_eq_true] at h; exact ratioRests_yes b s t b' s' t' w h.1 h.2

theorem own : ownKnob Tryz.prog.godebug = none := by kernel_rfl

set_option maxRecDepth 100000 in
theorem ratioRests_lifted (os : Os) (started : os.Started) (H : Type) (enc : TypeId × Value → H) :
    ReturnsInHanded {} Tryz.checked os 7 .any (fun w args => (Rows.ratioRestsSpec.pre enc Tryz.prog Tryz.f7 [] false w args ∧ laidMetH Tryz.prog Rows.ratioRestsRow.laid w) ∧ sizedMet enc Tryz.prog Tryz.f7 (OpenSpec.ofChange Rows.ratioRestsSpec) false w args)
      (Rows.ratioRestsSpec.post enc Tryz.prog Tryz.f7 false true false false) := by
  refine returnsInHanded_of_change_and (C := Tryz.checked) (X := fun w _ => laidMetH Tryz.prog Rows.ratioRestsRow.laid w) (fun _ _ _ hh h => h.of_heap hh) own started (by kernel_rfl) Tryz.func7
    (ChangeSpec.witness_shaped (enc := enc) (C := Tryz.checked) (os := os) (X := fun w _ => laidMetH Tryz.prog Rows.ratioRestsRow.laid w) false (World.laidAll Tryz.prog os Rows.ratioRestsRow.laid) #[.agg #[.bool false, .string ⟨#[]⟩, .string ⟨#[]⟩], .agg #[.bool false, .string ⟨#[]⟩, .string ⟨#[]⟩]] 8 (World.laidAll_os _ _ _)
      (World.shaped_of_ZipB (by kernel_rfl) (by kernel_rfl)) (by kernel_rfl) (by kernel_rfl) (by kernel_rfl)
      (by rw [MakeChecks.laidMetH_plain _ _ _ (by kernel_rfl)]; exact laidMet_laidAll _ (by kernel_rfl) (by kernel_rfl))) ?_
  intro W base args ds gs before hval0 hW _ _ _ _
  have hval : ∀ (j : Nat) t v, Tryz.f7.params[j]? = some t → args[j]? = some v → Value.okWide Tryz.prog W .any base t v := hval0
  have hW' := hW
  obtain ⟨p, q, hA0, hV, rfl, _, _⟩ := hW
  have hA : DataW.TrodAll enc Tryz.prog W 0 (fun _ => true) true Tryz.f7.params.toList args.toList ds p := hA0
  rw [Tryz.params7] at hA hval
  obtain ⟨v0, v1, d0, d1, p0, p1, rfl, rfl, rfl, h0, h1⟩ := trodAll_two hA
  obtain ⟨rfl, rfl⟩ := trodVars_none hV
  obtain ⟨x0, y0, z0, rfl, rfl, rfl, b0, c0⟩ := open_num (hval 0 23 v0 rfl rfl) h0
  obtain ⟨x1, y1, z1, rfl, rfl, rfl, b1, c1⟩ := open_num (hval 1 23 v1 rfl rfl) h1
  simp only [List.append_nil] at hW'
  refine (ratioRests_walk x0 y0 z0 x1 y1 z1 W b0 c0 b1 c1).mono fun e W' ⟨he, hb⟩ => ?_
  subst he
  exact ⟨_, rfl, _, _, _, [], [], [], hW', trodAll_mk1 (shut_bool Tryz.underlying4 _), trodAll_mk2 (shut_num b0 c0) (shut_num b1 c1), rfl, hb.frame _, fun h => by cases h⟩

theorem ratioRests_row : Rows.RatioRestsSaid :=
  OpenClaim.holds_of_wide 7 Tryz.f7 rfl rfl rfl rfl rfl rfl rfl ⟨rfl, rfl, rfl, rfl, rfl⟩ rfl rfl rfl rfl rfl (by kernel_rfl) Tryz.func7 (by kernel_rfl)
    (of_decide_eq_true (by kernel_rfl)) (by unfold Func.isWrapper; first | (rw [if_pos (by decide +kernel)]; kernel_rfl) | (rw [if_neg (by decide +kernel)]; exact ⟨rfl, rfl⟩))
    (fun os started H enc _ => ratioRests_lifted os started H enc)

theorem ratioRests_holds : Rows.RatioRestsCardSaid :=
  Claim7.holds_tied_plain_at .later [] [.data, .pinned] true Rows.ratioRestsCard.stood.harness Rows.ratioRestsCard.stood.looks ratioRests_row (fun _ h => by cases h) (by kernel_rfl) (fun _ h => by cases h) ratioRests_row_tie rfl ⟨rfl, rfl⟩ (by kernel_rfl) rfl
    (fun f fn hf hfn => by
      obtain rfl : f = 7 := Option.some.inj ((show Tryz.prog.funcNamed "typeball/typeballlaw03.RatioRests" = some 7 by kernel_rfl).symm.trans hf) |>.symm
      obtain rfl : fn = Tryz.f7 := (Option.some.inj (Tryz.func7.symm.trans hfn)).symm
      exact ⟨by kernel_rfl, fun j t ht => by
        rw [Tryz.params7] at ht
        have hm : t ∈ [23] := by simpa using Array.mem_of_getElem? ht
        have hall : ([23].all fun u => !Tryz.prog.wantsStandIn u) = true := by kernel_rfl
        exact (show Tryz.prog.wantsStandIn t = false by simpa using List.all_eq_true.1 hall t hm)⟩)
    (by kernel_rfl)
#print axioms ratioRests_holds
end Go.Proofs.YtipfhbfjbbiglaaGreatDoor
