/-
  Proved: the law RatioBack of package typeballlaw03 returns true for every three numbers (statement RatioBackCardSaid), under the row's own conditions.
-/
import Derived.Test.YthklcdcikmninaaGreatDoorRb0
import Derived.Test.YthklcdcikmninaaGreatDoorInv
import Derived.Test.YthklcdcikmninaaGreatDoorCards
import Derived.Test.YthklcdcikmninaaGreatDoorTie
import Derived.Test.YthklcdcikmninaaGreatDoorNum3
import Derived.LaidMore
import Derived.Lay
import Derived.SevenTiedAt
import Derived.Stop.Joined
import Derived.Laws.StructEq
namespace Go.Proofs.YthklcdcikmninaaGreatDoor
open Go.ChangeShapes Go.WideShapes Go.ChangeAt Go.RowKit Go.WideMaps Go.WideElems
open Go.ChangeMaps (open_string shut_string)
attribute [local go_sem ↓] Go.wp_at_zero Go.wp_at_succ

theorem RatsAt.set3o {w : World} {k b : Nat} {a0 : Option Addr} {n0 c0 : Nat} {m0 : Bool} {a1 : Option Addr} {n1 c1 : Nat} {n c : Nat} {fP : Nat → Int} {fQ : Nat → Nat} (h : RatsAt w (some ⟨b, 0, none⟩) n c fP fQ) (e : b ≠ k)
    (hs : Slot3 w k (.slice a0 n0 c0) (.bool m0) (.slice a1 n1 c1)) (u v t : Value) : RatsAt (((w.setCell ⟨k, 0, none⟩ u).setCell ⟨k, 1, none⟩ v).setCell ⟨k, 2, none⟩ t) (some ⟨b, 0, none⟩) n c fP fQ := by
  obtain ⟨h0, h1, h2⟩ := h
  refine ⟨h0, h1, ?_⟩
  rcases h2 with h2 | ⟨b', off, he, hl, hc⟩
  · exact .inl h2
  · cases he
    refine .inr ⟨b, 0, rfl, by simpa using hl, fun j hj => ?_⟩
    obtain ⟨a', n', c', m', a2', n2', c2', e1, e2, e3, hr⟩ := hc j hj
    have hn : ∀ o o' : Nat, (⟨k, o, none⟩ : Addr) ≠ ⟨b, o', none⟩ := fun o o' h => e (by cases h; rfl)
    refine ⟨a', n', c', m', a2', n2', c2', ?_, ?_, ?_, hr.set3 hs _ _ _⟩ <;>
      (rw [World.cell?_setCell_other _ _ _ _ (hn _ _), World.cell?_setCell_other _ _ _ _ (hn _ _), World.cell?_setCell_other _ _ _ _ (hn _ _)]; assumption)
theorem sgn0 (Z : Int) : decide (sgnI Z = 0) = decide (Z = 0) := by
  unfold sgnI
  by_cases h1 : Z < 0
  · rw [if_pos h1, decide_eq_false (by omega), decide_eq_false (by omega)]
  · rw [if_neg h1]
    by_cases h2 : Z = 0
    · rw [if_pos h2, decide_eq_true rfl, decide_eq_true h2]
    · rw [if_neg h2, decide_eq_false (by omega), decide_eq_false h2]
def twoP (A B : Int) (j : Nat) : Int := if j = 0 then A else B
def twoQ (A B : Nat) (j : Nat) : Nat := if j = 0 then A else B
theorem RatsAt.old2 {wk w : World} {k : Nat} {a : Option Addr} {n c : Nat} {m : Bool} {a2 : Option Addr} {n2 c2 : Nat} {P : Int} {Q : Nat} {d : Option Addr} {i l : Nat} {v : Bool} {d2 : Option Addr} {i2 l2 : Nat} {P' : Int} {Q' : Nat} {t : TypeId}
    (hb : Below (wk.alloc (.cells #[.slice a n c, .bool m, .slice a2 n2 c2, .slice d i l, .bool v, .slice d2 i2 l2] t)).heap.size (wk.alloc (.cells #[.slice a n c, .bool m, .slice a2 n2 c2, .slice d i l, .bool v, .slice d2 i2 l2] t)) w)
    (hk : wk.heap.size = k) (h : RatAt w a n c m a2 n2 c2 P Q) (g : RatAt w d i l v d2 i2 l2 P' Q') : RatsAt w (some ⟨k, 0, none⟩) 2 2 (twoP P P') (twoQ Q Q') := by
  subst hk
  have hl : wk.heap.size < (wk.alloc (.cells #[.slice a n c, .bool m, .slice a2 n2 c2, .slice d i l, .bool v, .slice d2 i2 l2] t)).heap.size := by simp
  refine ⟨Nat.le_refl _, by omega, .inr ⟨_, 0, rfl, Nat.lt_of_lt_of_le hl hb.size, fun j hj => ?_⟩⟩
  rcases (by omega : j = 0 ∨ j = 1) with rfl | rfl
  · exact ⟨a, n, c, m, a2, n2, c2, (hb.cell (p := ⟨wk.heap.size, 0, none⟩) hl).trans (by simp), (hb.cell (p := ⟨wk.heap.size, 1, none⟩) hl).trans (by simp), (hb.cell (p := ⟨wk.heap.size, 2, none⟩) hl).trans (by simp), h⟩
  · exact ⟨d, i, l, v, d2, i2, l2, (hb.cell (p := ⟨wk.heap.size, 3, none⟩) hl).trans (by simp), (hb.cell (p := ⟨wk.heap.size, 4, none⟩) hl).trans (by simp), (hb.cell (p := ⟨wk.heap.size, 5, none⟩) hl).trans (by simp), g⟩

set_option maxHeartbeats 6400000 in
set_option maxRecDepth 100000 in
theorem ratioBack_no (b : Bool) (s t : ByteArray) (b' : Bool) (s' t' : ByteArray) (b'' : Bool) (s'' t'' : ByteArray) (w : World) (h : (rd3 b s t && rd3 b' s' t' && rd3 b'' s'' t'') = false) :
    Calls Tryz.prog 3 #[.agg #[.bool b, .string s, .string t], .agg #[.bool b', .string s', .string t'], .agg #[.bool b'', .string s'', .string t'']] w fun e w' => e = .returned (.bool true) ∧ Below w.heap.size w w' := by
  have BB := Lib.hid ((((Bag.start w).box3 (.bool b) (.string s) (.string t) 23).box3 (.bool b') (.string s') (.string t') 23).box3 (.bool b'') (.string s'') (.string t'') 23)
  simp only [World.size_alloc] at BB
  have R1 := Lib.hid (fun wz => read3_weak b s t wz)
  have R2 := Lib.hid (fun wz => read3_weak b' s' t' wz)
  have R3 := Lib.hid (fun wz => read3_weak b'' s'' t'' wz)
  unfold Read3w at R1 R2 R3
  generalize rd3 b s t = k1 at *
  generalize rd3 b' s' t' = k2 at *
  generalize rd3 b'' s'' t'' = k3 at *
  have q0 := BB.out.now.2.2.1.cell
  have q1 := BB.out.now.2.2.1.cell1
  have q2 := BB.out.now.2.2.1.cell2
  cases k1 <;> cases k2 <;> cases k3
  all_goals
    first
      | (cases h; done)
      | skip
  all_goals
    clear h
    go_enter Tryz.func3, Tryz.ntmps3
    go_wp2_with fail
    go_at_call 4
    (with_reducible refine (R1.out _).mono ?_)
    rintro e w1 ⟨a, n, c, m, a2, n2, c2, rfl, hb1⟩
    have BB := Lib.hid ((BB.out.go hb1).alloc (.cells #[.slice a n c, .bool m, .slice a2 n2 c2] 30))
    clear hb1 q0 q1 q2
    have q0 := BB.out.now.2.1.cell
    have q1 := BB.out.now.2.1.cell1
    have q2 := BB.out.now.2.1.cell2
    go_wp2_with fail
    go_at_call 4
    (with_reducible refine (R2.out _).mono ?_)
    rintro e w2 ⟨d, k, l, v, d2, k2, l2, rfl, hb2⟩
    have BB := Lib.hid ((BB.out.go hb2).alloc (.cells #[.slice d k l, .bool v, .slice d2 k2 l2] 30))
    clear hb2 q0 q1 q2
    have q0 := BB.out.now.1.cell
    have q1 := BB.out.now.1.cell1
    have q2 := BB.out.now.1.cell2
    go_wp2_with fail
    go_at_call 4
    (with_reducible refine (R3.out _).mono ?_)
    rintro e w3 ⟨g, i, j, u, g2, i2, j2, rfl, hb3⟩
    have BB := Lib.hid ((BB.out.go hb3).alloc (.cells #[.slice g i j, .bool u, .slice g2 i2 j2] 30))
    clear hb3
    go_wp2_with fail
    go_at_call 5
    refine (awake3_any _).mono ?_
    rintro e w4 ⟨rfl, hb4⟩
    have BB := Lib.hid (BB.out.go hb4)
    go_wp2
    go_ret
    exact ⟨rfl, BB.out.below⟩

set_option linter.unusedSimpArgs false in
set_option maxHeartbeats 12800000 in
set_option maxRecDepth 100000 in
theorem ratioBack_yes1 (b : Bool) (s t : ByteArray) (b' : Bool) (s' t' : ByteArray) (b'' : Bool) (s'' t'' : ByteArray) (w : World) (h : rd3 b s t = true) (h' : rd3 b' s' t' = true) (h'' : rd3 b'' s'' t'' = true) (hz : ofP b' s' t' ≠ 0) :
    Calls Tryz.prog 3 #[.agg #[.bool b, .string s, .string t], .agg #[.bool b', .string s', .string t'], .agg #[.bool b'', .string s'', .string t'']] w fun e w' => e = .returned (.bool true) ∧ Below w.heap.size w w' := by
  have R1 := Lib.hid (fun wz => read3_yes b s t wz h)
  have R2 := Lib.hid (fun wz => read3_yes b' s' t' wz h')
  have R3 := Lib.hid (fun wz => read3_yes b'' s'' t'' wz h'')
  unfold RatTold3 at R1 R2 R3
  obtain ⟨e1, e2, e3, hQ, hcop, hd1, hd2, hk1, hk2⟩ := rd3_spec h
  obtain ⟨f1, f2, f3, hQ', _, hd3, hd4, hk3, hk4⟩ := rd3_spec h'
  obtain ⟨g1, g2, g3, hG, _, hd5, hd6, hk5, hk6⟩ := rd3_spec h''
  clear h h' h''
  generalize ofP b s t = P at *
  generalize ofQ b s t = Q at *
  generalize ofP b' s' t' = P' at *
  generalize ofQ b' s' t' = Q' at *
  generalize ofP b'' s'' t'' = F at *
  generalize ofQ b'' s'' t'' = G at *
  subst e1 e2 e3 f1 f2 f3 g1 g2 g3
  have BB := Lib.hid ((((Bag.start w).box3 (.bool (rB P)) (.string (rS P)) (.string (str (dec Q))) 23).box3 (.bool (rB P')) (.string (rS P')) (.string (str (dec Q'))) 23).box3 (.bool (rB F)) (.string (rS F)) (.string (str (dec G))) 23)
  simp only [World.size_alloc] at BB
  have up : ∀ x a b : Nat, a ≤ b → x < (4294967296 : Nat) ^ a → x < 4294967296 ^ b := fun x a b h g => Nat.lt_of_lt_of_le g (Nat.pow_le_pow_right (by omega) h)
  obtain ⟨hT1, hT2⟩ := tm_lim hk1 hk2 hk3 hk4
  have hT0 := tmQ_pos P P' hQ hQ'
  obtain ⟨hU1, hU2⟩ := pl_lim hk1 hk2 hk3 hk4
  have hU0 := pl_pos P P' hQ hQ'
  obtain ⟨hL1, hL2⟩ := tm_lim hU1 hU2 (up _ _ 13 (by omega) hk5) (up _ _ 13 (by omega) hk6)
  have hL0 := tmQ_pos (plP P Q P' Q') F hU0 hG
  obtain ⟨hA1, hA2⟩ := tm_lim hk1 hk2 hk5 hk6
  have hA0 := tmQ_pos P F hQ hG
  obtain ⟨hB1, hB2⟩ := tm_lim hk3 hk4 hk5 hk6
  have hB0 := tmQ_pos P' F hQ' hG
  obtain ⟨hR1, hR2⟩ := pl_lim hA1 hA2 hB1 hB2
  have hR0 := pl_pos (tmP P Q F G) (tmP P' Q' F G) hA0 hB0
  have hn3 : (-P').natAbs < 4294967296 ^ 6 := by rw [Int.natAbs_neg]; exact hk3
  obtain ⟨hS1, hS2⟩ := pl_lim hU1 hU2 (up _ _ 13 (by omega) hn3) (up _ _ 13 (by omega) hk4)
  have hS0 := pl_pos (plP P Q P' Q') (-P') hU0 hQ'
  have TM := Lib.hid (fun a n c m a2 n2 c2 sa wz (h : RatAt wz a n c m a2 n2 c2 P Q) (g : RatsAt wz sa 1 1 (fun _ => P') (fun _ => Q')) => ratTimes1_any a n c m a2 n2 c2 P Q sa P' Q' wz h g hQ hQ' 6 (by omega) hk1 hk2 hk3 hk4)
  have BY := Lib.hid (fun a n c m a2 n2 c2 d k l v d2 k2 l2 wz h g => by_any a n c m a2 n2 c2 (tmP P Q P' Q') (tmQ P Q P' Q') d k l v d2 k2 l2 P' Q' wz h g hT0 hQ' 12 (by omega) hT1 hT2 (up _ _ 12 (by omega) hk3) (up _ _ 12 (by omega) hk4))
  rw [(by_back hQ hQ' hcop hz).1, (by_back hQ hQ' hcop hz).2, decide_eq_false hz, Bool.not_false] at BY
  unfold RatTold3 at BY
  have NM := Lib.hid (fun a n c m a2 n2 c2 wz hz => num_any a n c m a2 n2 c2 P Q wz hz hQ 6 (by omega) hk1 hk2)
  unfold NumTold at NM
  have SG := Lib.hid (fun a n c m a2 n2 c2 wz hz => ratSign_any a n c m a2 n2 c2 P' Q' wz hz)
  have MN := Lib.hid (fun a n c m a2 n2 c2 wz hz => ratMinus_any a n c m a2 n2 c2 P' Q' wz hz)
  have PT := Lib.hid (fun a n c m a2 n2 c2 sa wz (h : RatAt wz a n c m a2 n2 c2 P Q) (g : RatsAt wz sa 2 2 (twoP P' (-P')) (twoQ Q' Q')) => ratPlus_any a n c m a2 n2 c2 P Q sa 2 2 (twoP P' (-P')) (twoQ Q' Q') wz h g hQ (fun j _ => by unfold twoQ; split <;> exact hQ') 13 (by omega)
    (fun k hk => by
      rcases (by omega : k = 0 ∨ k = 1) with rfl | rfl
      · exact ⟨up _ _ 13 (by omega) hk1, up _ _ 13 (by omega) hk2, up _ _ 13 (by omega) hk3, up _ _ 13 (by omega) hk4⟩
      · exact ⟨hU1, hU2, up _ _ 13 (by omega) hn3, up _ _ 13 (by omega) hk4⟩))
  rw [show (sumS P Q (twoP P' (-P')) (twoQ Q' Q') 2).1 = plP (plP P Q P' Q') (plQ P Q P' Q') (-P') Q' from rfl, show (sumS P Q (twoP P' (-P')) (twoQ Q' Q') 2).2 = plQ (plP P Q P' Q') (plQ P Q P' Q') (-P') Q' from rfl] at PT
  have C1 := Lib.hid (fun a n c m a2 n2 c2 d k l v d2 k2 l2 wz h g => ratCmp_any a n c m a2 n2 c2 (plP (plP P Q P' Q') (plQ P Q P' Q') (-P') Q') (plQ (plP P Q P' Q') (plQ P Q P' Q') (-P') Q') d k l v d2 k2 l2 P Q wz h g hS0 hQ 27 (by omega) hS1 hS2 (up _ _ 27 (by omega) hk1) (up _ _ 27 (by omega) hk2))
  rw [sum_back hQ hQ', cmpZ_self] at C1
  have PL := Lib.hid (fun a n c m a2 n2 c2 sa wz (h : RatAt wz a n c m a2 n2 c2 P Q) (g : RatsAt wz sa 1 1 (fun _ => P') (fun _ => Q')) => ratPlus1_any a n c m a2 n2 c2 P Q sa P' Q' wz h g hQ hQ' 6 (by omega) hk1 hk2 hk3 hk4)
  have TL := Lib.hid (fun a n c m a2 n2 c2 sa wz (h : RatAt wz a n c m a2 n2 c2 (plP P Q P' Q') (plQ P Q P' Q')) (g : RatsAt wz sa 1 1 (fun _ => F) (fun _ => G)) => ratTimes1_any a n c m a2 n2 c2 _ _ sa F G wz h g hU0 hG 13 (by omega) hU1 hU2 (up _ _ 13 (by omega) hk5) (up _ _ 13 (by omega) hk6))
  have TA := Lib.hid (fun a n c m a2 n2 c2 sa wz (h : RatAt wz a n c m a2 n2 c2 P Q) (g : RatsAt wz sa 1 1 (fun _ => F) (fun _ => G)) => ratTimes1_any a n c m a2 n2 c2 P Q sa F G wz h g hQ hG 6 (by omega) hk1 hk2 hk5 hk6)
  have TB := Lib.hid (fun a n c m a2 n2 c2 sa wz (h : RatAt wz a n c m a2 n2 c2 P' Q') (g : RatsAt wz sa 1 1 (fun _ => F) (fun _ => G)) => ratTimes1_any a n c m a2 n2 c2 P' Q' sa F G wz h g hQ' hG 6 (by omega) hk3 hk4 hk5 hk6)
  have PR := Lib.hid (fun a n c m a2 n2 c2 sa wz (h : RatAt wz a n c m a2 n2 c2 (tmP P Q F G) (tmQ P Q F G)) (g : RatsAt wz sa 1 1 (fun _ => tmP P' Q' F G) (fun _ => tmQ P' Q' F G)) => ratPlus1_any a n c m a2 n2 c2 _ _ sa _ _ wz h g hA0 hB0 12 (by omega) hA1 hA2 hB1 hB2)
  have C2 := Lib.hid (fun a n c m a2 n2 c2 d k l v d2 k2 l2 wz h g => ratCmp_any a n c m a2 n2 c2 (tmP (plP P Q P' Q') (plQ P Q P' Q') F G) (tmQ (plP P Q P' Q') (plQ P Q P' Q') F G) d k l v d2 k2 l2 (plP (tmP P Q F G) (tmQ P Q F G) (tmP P' Q' F G) (tmQ P' Q' F G)) (plQ (tmP P Q F G) (tmQ P Q F G) (tmP P' Q' F G) (tmQ P' Q' F G)) wz h g hL0 hR0 26 (by omega) hL1 hL2 (up _ _ 26 (by omega) hR1) (up _ _ 26 (by omega) hR2))
  rw [dist_same hQ hQ' hG, cmpZ_self] at C2
  have P0 := Lib.hid (fun a n c m a2 n2 c2 wz h => ratPlus0_any a n c m a2 n2 c2 P Q wz h hQ)
  have T0 := Lib.hid (fun a n c m a2 n2 c2 wz h => ratTimes0_any a n c m a2 n2 c2 P Q wz h hQ)
  unfold RatTold at TM MN PT PL TL TA TB PR P0 T0
  generalize plP (tmP P Q F G) (tmQ P Q F G) (tmP P' Q' F G) (tmQ P' Q' F G) = R1P at *
  generalize plQ (tmP P Q F G) (tmQ P Q F G) (tmP P' Q' F G) (tmQ P' Q' F G) = R2P at *
  generalize tmP (plP P Q P' Q') (plQ P Q P' Q') F G = L1 at *
  generalize tmQ (plP P Q P' Q') (plQ P Q P' Q') F G = L2 at *
  generalize plP (plP P Q P' Q') (plQ P Q P' Q') (-P') Q' = S1 at *
  generalize plQ (plP P Q P' Q') (plQ P Q P' Q') (-P') Q' = S2 at *
  generalize plP P Q P' Q' = U1 at *
  generalize plQ P Q P' Q' = U2 at *
  generalize tmP P Q P' Q' = T1 at *
  generalize tmQ P Q P' Q' = T2 at *
  generalize tmP P Q F G = A1 at *
  generalize tmQ P Q F G = A2 at *
  generalize tmP P' Q' F G = B1 at *
  generalize tmQ P' Q' F G = B2 at *
  have sb1 : decide (sgnI P' = 0) = false := (sgn0 P').trans (decide_eq_false hz)
  have sb2 : (sgnI P' == 0) = false := by rw [← sb1]; rfl
  have sb3 : (sgnI P' != 0) = true := by unfold bne; rw [sb2]; rfl
  clear up hT1 hT2 hT0 hU1 hU2 hU0 hL1 hL2 hL0 hA1 hA2 hA0 hB1 hB2 hB0 hR1 hR2 hR0 hn3 hS1 hS2 hS0 hQ hQ' hG hcop hd1 hd2 hd3 hd4 hd5 hd6 hk1 hk2 hk3 hk4 hk5 hk6 hz
  generalize sgnI P' = sB at *
  generalize rB P = pb at *
  generalize rS P = ps at *
  generalize str (dec Q) = q at *
  generalize rB P' = pb' at *
  generalize rS P' = ps' at *
  generalize str (dec Q') = q' at *
  generalize rB F = pf at *
  generalize rS F = pg at *
  generalize str (dec G) = qf at *
  have q0 := BB.out.now.2.2.1.cell
  have q1 := BB.out.now.2.2.1.cell1
  have q2 := BB.out.now.2.2.1.cell2
  go_enter Tryz.func3, Tryz.ntmps3
  go_wp2_with fail
  go_at_call 4
  (with_reducible refine (R1.out _).mono ?_)
  rintro e w1 ⟨a, n, c, m, a2, n2, c2, rfl, hr1, hb1⟩
  have BB := Lib.hid (((BB.out.go hb1).rat hr1).box3 (.slice a n c) (.bool m) (.slice a2 n2 c2) 30)
  have j1 : w.heap.size + 1 + 1 < w1.heap.size := by have := hb1.size; simp only [World.size_alloc] at this; omega
  clear hr1 hb1 q0 q1 q2
  have q0 := BB.out.now.2.2.2.1.cell
  have q1 := BB.out.now.2.2.2.1.cell1
  have q2 := BB.out.now.2.2.2.1.cell2
  go_wp2_with fail
  go_at_call 4
  (with_reducible refine (R2.out _).mono ?_)
  rintro e w2 ⟨d, k, l, v, d2, k2, l2, rfl, hr2, hb2⟩
  have BB := Lib.hid (((BB.out.go hb2).rat hr2).box3 (.slice d k l) (.bool v) (.slice d2 k2 l2) 30)
  have j2 : w1.heap.size < w2.heap.size := by have := hb2.size; simp only [World.size_alloc] at this; omega
  clear hr2 hb2 q0 q1 q2
  have q0 := BB.out.now.2.2.2.2.1.cell
  have q1 := BB.out.now.2.2.2.2.1.cell1
  have q2 := BB.out.now.2.2.2.2.1.cell2
  go_wp2_with fail
  go_at_call 4
  (with_reducible refine (R3.out _).mono ?_)
  rintro e w3 ⟨g, i, j, u, g2, i2, j2, rfl, hr3, hb3⟩
  have BB := Lib.hid (((BB.out.go hb3).rat hr3).box3 (.slice g i j) (.bool u) (.slice g2 i2 j2) 30)
  have j3 : w2.heap.size < w3.heap.size := by have := hb3.size; simp only [World.size_alloc] at this; omega
  clear hr3 hb3 q0 q1 q2
  clear R1 R2 R3
  go_wp2_with fail
  have HP : Hid (∀ (y : World) (k9 : Nat) {x0 : Option Addr} {y0 z0 : Nat} {b0 : Bool} {x1 : Option Addr} {y1 z1 : Nat}, Slot3 y k9 (.slice x0 y0 z0) (.bool b0) (.slice x1 y1 z1) → w3.heap.size < k9 → Bag w (fun y => Slot3 y w3.heap.size (.slice g i j) (.bool u) (.slice g2 i2 j2) ∧ RatAt y g i j u g2 i2 j2 F G ∧ Slot3 y w2.heap.size (.slice d k l) (.bool v) (.slice d2 k2 l2) ∧ RatAt y d k l v d2 k2 l2 P' Q' ∧ Slot3 y w1.heap.size (.slice a n c) (.bool m) (.slice a2 n2 c2) ∧ RatAt y a n c m a2 n2 c2 P Q ∧ Slot3 y (w.heap.size + 1 + 1) (.bool pf) (.string pg) (.string qf) ∧ Slot3 y (w.heap.size + 1) (.bool pb') (.string ps') (.string q') ∧ Slot3 y w.heap.size (.bool pb) (.string ps) (.string q) ∧ True) y → ∀ (a9 : Option Addr) (n9 c9 : Nat) (m9 : Bool) (a10 : Option Addr) (n10 c10 : Nat), Bag w (fun y => Slot3 y w3.heap.size (.slice g i j) (.bool u) (.slice g2 i2 j2) ∧ RatAt y g i j u g2 i2 j2 F G ∧ Slot3 y w2.heap.size (.slice d k l) (.bool v) (.slice d2 k2 l2) ∧ RatAt y d k l v d2 k2 l2 P' Q' ∧ Slot3 y w1.heap.size (.slice a n c) (.bool m) (.slice a2 n2 c2) ∧ RatAt y a n c m a2 n2 c2 P Q ∧ Slot3 y (w.heap.size + 1 + 1) (.bool pf) (.string pg) (.string qf) ∧ Slot3 y (w.heap.size + 1) (.bool pb') (.string ps') (.string q') ∧ Slot3 y w.heap.size (.bool pb) (.string ps) (.string q) ∧ True) (((y.setCell ⟨k9, 0, none⟩ (.slice a9 n9 c9)).setCell ⟨k9, 1, none⟩ (.bool m9)).setCell ⟨k9, 2, none⟩ (.slice a10 n10 c10))) := by
    intro y k9 x0 y0 z0 b0 x1 y1 z1 s hk B a9 n9 c9 m9 a10 n10 c10
    have q := B.now
    exact ⟨((B.below.setCell (p := ⟨k9, 0, none⟩) (show w.heap.size ≤ k9 by omega) _).setCell (p := ⟨k9, 1, none⟩) (show w.heap.size ≤ k9 by omega) _).setCell (p := ⟨k9, 2, none⟩) (show w.heap.size ≤ k9 by omega) _, B.stay, q.1.set3o (by omega) _ _ _, q.2.1.set3 s _ _ _, q.2.2.1.set3o (by omega) _ _ _, q.2.2.2.1.set3 s _ _ _, q.2.2.2.2.1.set3o (by omega) _ _ _, q.2.2.2.2.2.1.set3 s _ _ _, q.2.2.2.2.2.2.1.set3o (by omega) _ _ _, q.2.2.2.2.2.2.2.1.set3o (by omega) _ _ _, q.2.2.2.2.2.2.2.2.1.set3o (by omega) _ _ _, trivial⟩
  refine wp_region_inv2 ⟨(fun j => ([[42], [43], [44], [45], [46], [47], [41], [48], [49], [13], [13], [14]] : List (List Nat)).getD j []), (fun j => ([[], [], [1], [0, 1, 2], [], [0, 1, 2, 3, 4], [0, 1, 2, 3, 4, 5], [0, 1, 2, 3, 4, 5, 6], [0, 1, 2, 3, 4, 5, 6], [], [0, 1, 2, 3, 4, 5, 6, 7, 9], [0, 1, 2, 3, 4, 5, 6, 7, 8, 9, 10]] : List (List Nat)).getD j []), [2, 9]⟩ (fun jj vv yy => match jj with | 0 => vv = [some (.agg #[.slice a n c, .bool m, .slice a2 n2 c2])] | 1 => vv = [some (.agg #[.slice d k l, .bool v, .slice d2 k2 l2])] | 2 => ∃ (k2 : Nat), vv = [some (.slice (some ⟨k2, 0, none⟩) 1 1)] ∧ RatsAt yy (some ⟨k2, 0, none⟩) 1 1 (fun _ => P') (fun _ => Q') | 3 => ∃ (x103 : Option Addr), ∃ (n103 : Nat), ∃ (c103 : Nat), ∃ (m103 : Bool), ∃ (y103 : Option Addr), ∃ (o103 : Nat), ∃ (d103 : Nat), vv = [some (.agg #[.slice x103 n103 c103, .bool m103, .slice y103 o103 d103])] ∧ RatAt yy x103 n103 c103 m103 y103 o103 d103 T1 T2 | 4 => vv = [some (.agg #[.slice d k l, .bool v, .slice d2 k2 l2])] | 5 => ∃ (x105 : Option Addr), ∃ (n105 : Nat), ∃ (c105 : Nat), ∃ (m105 : Bool), ∃ (y105 : Option Addr), ∃ (o105 : Nat), ∃ (d105 : Nat), vv = [some (.tuple #[.agg #[.slice x105 n105 c105, .bool m105, .slice y105 o105 d105], .bool true])] ∧ RatAt yy x105 n105 c105 m105 y105 o105 d105 P Q | 6 => ∃ (x105 : Option Addr), ∃ (n105 : Nat), ∃ (c105 : Nat), ∃ (m105 : Bool), ∃ (y105 : Option Addr), ∃ (o105 : Nat), ∃ (d105 : Nat), vv = [some (.tuple #[.agg #[.slice x105 n105 c105, .bool m105, .slice y105 o105 d105], .bool true])] ∧ RatAt yy x105 n105 c105 m105 y105 o105 d105 P Q | 7 => ∃ (x105 : Option Addr), ∃ (n105 : Nat), ∃ (c105 : Nat), ∃ (m105 : Bool), ∃ (y105 : Option Addr), ∃ (o105 : Nat), ∃ (d105 : Nat), vv = [some (.agg #[.slice x105 n105 c105, .bool m105, .slice y105 o105 d105])] ∧ RatAt yy x105 n105 c105 m105 y105 o105 d105 P Q | 8 => vv = [some (.bool true)] | 9 => ∃ (k9 : Nat), ∃ (x0 : Option Addr), ∃ (y0 : Nat), ∃ (z0 : Nat), ∃ (b0 : Bool), ∃ (x1 : Option Addr), ∃ (y1 : Nat), ∃ (z1 : Nat), vv = [some (.pointer (some ⟨k9, 0, none⟩))] ∧ Slot3 yy k9 (.slice x0 y0 z0) (.bool b0) (.slice x1 y1 z1) ∧ w3.heap.size < k9 | 10 => ∃ (k9 : Nat), ∃ (x105 : Option Addr), ∃ (n105 : Nat), ∃ (c105 : Nat), ∃ (m105 : Bool), ∃ (y105 : Option Addr), ∃ (o105 : Nat), ∃ (d105 : Nat), vv = [some (.pointer (some ⟨k9, 0, none⟩))] ∧ Slot3 yy k9 (.slice x105 n105 c105) (.bool m105) (.slice y105 o105 d105) ∧ RatAt yy x105 n105 c105 m105 y105 o105 d105 P Q | 11 => vv = [some (.bool true)] | _ => True) (Bag w (fun y => Slot3 y w3.heap.size (.slice g i j) (.bool u) (.slice g2 i2 j2) ∧ RatAt y g i j u g2 i2 j2 F G ∧ Slot3 y w2.heap.size (.slice d k l) (.bool v) (.slice d2 k2 l2) ∧ RatAt y d k l v d2 k2 l2 P' Q' ∧ Slot3 y w1.heap.size (.slice a n c) (.bool m) (.slice a2 n2 c2) ∧ RatAt y a n c m a2 n2 c2 P Q ∧ Slot3 y (w.heap.size + 1 + 1) (.bool pf) (.string pg) (.string qf) ∧ Slot3 y (w.heap.size + 1) (.bool pb') (.string ps') (.string q') ∧ Slot3 y w.heap.size (.bool pb) (.string ps) (.string q) ∧ True)) (by kernel_rfl) (by kernel_rfl) (by kernel_rfl) BB.out.drew ?_ ?_ ?_
  · intro jj vv yw yw2 hb h
    match jj, h with
    | 0, h => exact h
    | 1, h => exact h
    | 2, ⟨k2, e2, g2_0⟩ => exact Exists.intro k2 (And.intro e2 (g2_0.below hb))
    | 3, ⟨x103, n103, c103, m103, y103, o103, d103, e3, g3_0⟩ => exact Exists.intro x103 (Exists.intro n103 (Exists.intro c103 (Exists.intro m103 (Exists.intro y103 (Exists.intro o103 (Exists.intro d103 (And.intro e3 (g3_0.below hb))))))))
    | 4, h => exact h
    | 5, ⟨x105, n105, c105, m105, y105, o105, d105, e5, g5_0⟩ => exact Exists.intro x105 (Exists.intro n105 (Exists.intro c105 (Exists.intro m105 (Exists.intro y105 (Exists.intro o105 (Exists.intro d105 (And.intro e5 (g5_0.below hb))))))))
    | 6, ⟨x105, n105, c105, m105, y105, o105, d105, e6, g6_0⟩ => exact Exists.intro x105 (Exists.intro n105 (Exists.intro c105 (Exists.intro m105 (Exists.intro y105 (Exists.intro o105 (Exists.intro d105 (And.intro e6 (g6_0.below hb))))))))
    | 7, ⟨x105, n105, c105, m105, y105, o105, d105, e7, g7_0⟩ => exact Exists.intro x105 (Exists.intro n105 (Exists.intro c105 (Exists.intro m105 (Exists.intro y105 (Exists.intro o105 (Exists.intro d105 (And.intro e7 (g7_0.below hb))))))))
    | 8, h => exact h
    | 9, ⟨k9, x0, y0, z0, b0, x1, y1, z1, e9, g9_0, g9_1⟩ => exact Exists.intro k9 (Exists.intro x0 (Exists.intro y0 (Exists.intro z0 (Exists.intro b0 (Exists.intro x1 (Exists.intro y1 (Exists.intro z1 (And.intro e9 (And.intro (g9_0.below hb) g9_1)))))))))
    | 10, ⟨k9, x105, n105, c105, m105, y105, o105, d105, e10, g10_0, g10_1⟩ => exact Exists.intro k9 (Exists.intro x105 (Exists.intro n105 (Exists.intro c105 (Exists.intro m105 (Exists.intro y105 (Exists.intro o105 (Exists.intro d105 (And.intro e10 (And.intro (g10_0.below hb) (g10_1.below hb))))))))))
    | 11, h => exact h
    | _ + 12, h => exact h
  · intro ac yw hsz hdf hold hB hp
    obtain ⟨k9, x105, n105, c105, m105, y105, o105, d105, e10, sA, hr16⟩ := hp 10 (by decide)
    have t13 : ac.tmps[13]? = some (.pointer (some ⟨k9, 0, none⟩)) := (List.cons.inj e10).1
    have t14 : ac.tmps[14]? = some (.bool true) := (List.cons.inj (hp 11 (by decide))).1
    have t3 : ac.tmps[3]? = some (.pointer (some ⟨w.heap.size, 0, none⟩)) := hold 3 (by kernel_rfl)
    have t7 : ac.tmps[7]? = some (.pointer (some ⟨w1.heap.size, 0, none⟩)) := hold 7 (by kernel_rfl)
    have t9 : ac.tmps[9]? = some (.pointer (some ⟨w2.heap.size, 0, none⟩)) := hold 9 (by kernel_rfl)
    have t11 : ac.tmps[11]? = some (.pointer (some ⟨w3.heap.size, 0, none⟩)) := hold 11 (by kernel_rfl)
    clear hold hp e10
    obtain ⟨TV, hTV⟩ : ∃ TV : Nat → Value, ∀ i, (ac.tmps[i]?).getD undef = TV i := ⟨_, fun _ => rfl⟩
    have f3 := (hTV 3).symm.trans (congrArg (fun x => Option.getD x undef) t3)
    have f7 := (hTV 7).symm.trans (congrArg (fun x => Option.getD x undef) t7)
    have f9 := (hTV 9).symm.trans (congrArg (fun x => Option.getD x undef) t9)
    have f11 := (hTV 11).symm.trans (congrArg (fun x => Option.getD x undef) t11)
    have f13 := (hTV 13).symm.trans (congrArg (fun x => Option.getD x undef) t13)
    have f14 := (hTV 14).symm.trans (congrArg (fun x => Option.getD x undef) t14)
    have hac := act_eq (n := 114) hsz TV hTV
    rw [show ((List.range 114).map TV).toArray = #[TV 0, TV 1, TV 2, TV 3, TV 4, TV 5, TV 6, TV 7, TV 8, TV 9, TV 10, TV 11, TV 12, TV 13, TV 14, TV 15, TV 16, TV 17, TV 18, TV 19, TV 20, TV 21, TV 22, TV 23, TV 24, TV 25, TV 26, TV 27, TV 28, TV 29, TV 30, TV 31, TV 32, TV 33, TV 34, TV 35, TV 36, TV 37, TV 38, TV 39, TV 40, TV 41, TV 42, TV 43, TV 44, TV 45, TV 46, TV 47, TV 48, TV 49, TV 50, TV 51, TV 52, TV 53, TV 54, TV 55, TV 56, TV 57, TV 58, TV 59, TV 60, TV 61, TV 62, TV 63, TV 64, TV 65, TV 66, TV 67, TV 68, TV 69, TV 70, TV 71, TV 72, TV 73, TV 74, TV 75, TV 76, TV 77, TV 78, TV 79, TV 80, TV 81, TV 82, TV 83, TV 84, TV 85, TV 86, TV 87, TV 88, TV 89, TV 90, TV 91, TV 92, TV 93, TV 94, TV 95, TV 96, TV 97, TV 98, TV 99, TV 100, TV 101, TV 102, TV 103, TV 104, TV 105, TV 106, TV 107, TV 108, TV 109, TV 110, TV 111, TV 112, TV 113] from rfl, f3, f7, f9, f11, f13, f14, hdf] at hac
    simp only [Option.getD_some] at hac
    subst hac
    clear hTV f3 f7 f9 f11 f13 f14
    have BB := Lib.hid ((hB.slot3 sA).rat hr16)
    clear hB sA hr16 HP t3 t7 t9 t11 t13 t14 TM BY
    go_wp2_with fail
    try simp only [List.append]
    refine wp_region_inv2 ⟨(fun j => ([[50], [51], [52], [53], [54], [55], [56], [57], [58], [59], [60], [61], [62], [63], [64], [65], [66], [67], [68], [69], [70], [71], [72], [73], [74], [75], [76], [77], [78], [79], [80], [81], [82], [83], [84], [85], [86], [87], [88], [89], [90], [91], [92], [93], [94], [95], [96], [97], [98], [99], [100], [101], [102], [103], [104], [105], [106], [107], [108], [109], [110], [111], [112], [113], [6]] : List (List Nat)).getD j []), (fun j => ([[], [], [], [2], [1, 2, 3], [0, 1, 2, 3, 4], [], [0, 1, 2, 3, 4, 5, 6], [0, 1, 2, 3, 4, 5, 6, 7], [0, 1, 2, 3, 4, 5, 6, 7, 8], [0, 1, 2, 3, 4, 5, 6, 7, 8, 9], [0, 1, 2, 3, 4, 5, 6, 7, 8, 9], [0, 1, 2, 3, 4, 5, 6, 7, 8, 9, 11], [0, 1, 2, 3, 4, 5, 6, 7, 8, 9, 11, 12], [0, 1, 2, 3, 4, 5, 6, 7, 8, 9, 10, 11, 12, 13], [0, 1, 2, 3, 4, 5, 6, 7, 8, 9, 10, 11, 12, 13, 14], [0, 1, 2, 3, 4, 5, 6, 7, 8, 9, 10, 11, 12, 13, 14, 15], [0, 1, 2, 3, 4, 5, 6, 7, 8, 9, 10, 11, 12, 13, 14, 15, 16], [0, 1, 2, 3, 4, 5, 6, 7, 8, 9, 10, 11, 12, 13, 14, 15, 16, 17], [0, 1, 2, 3, 4, 5, 6, 7, 8, 9, 10, 11, 12, 13, 14, 15, 16, 17, 18], [0, 1, 2, 3, 4, 5, 6, 7, 8, 9, 10, 11, 12, 13, 14, 15, 16, 17, 18, 19], [0, 1, 2, 3, 4, 5, 6, 7, 8, 9, 10, 11, 12, 13, 14, 15, 16, 17, 18, 19, 20], [0, 1, 2, 3, 4, 5, 6, 7, 8, 9, 10, 11, 12, 13, 14, 15, 16, 17, 18, 19], [0, 1, 2, 3, 4, 5, 6, 7, 8, 9, 10, 11, 12, 13, 14, 15, 16, 17, 18, 19, 20, 21, 22], [0, 1, 2, 3, 4, 5, 6, 7, 8, 9, 10, 11, 12, 13, 14, 15, 16, 17, 18, 19, 20, 21, 22, 23], [0, 1, 2, 3, 4, 5, 6, 7, 8, 9, 10, 11, 12, 13, 14, 15, 16, 17, 18, 19, 20, 21, 22, 23, 24], [0, 1, 2, 3, 4, 5, 6, 7, 8, 9, 10, 11, 12, 13, 14, 15, 16, 17, 18, 19, 20, 21, 22, 23, 24, 25], [0, 1, 2, 3, 4, 5, 6, 7, 8, 9, 10, 11, 12, 13, 14, 15, 16, 17, 18, 19, 20, 21, 22, 23, 24, 25, 26], [0, 1, 2, 3, 4, 5, 6, 7, 8, 9, 10, 11, 12, 13, 14, 15, 16, 17, 18, 19, 20, 21, 22, 23, 24, 25, 26], [0, 1, 2, 3, 4, 5, 6, 7, 8, 9, 10, 11, 12, 13, 14, 15, 16, 17, 18, 19, 20, 21, 22, 23, 24, 25, 26, 28], [0, 1, 2, 3, 4, 5, 6, 7, 8, 9, 10, 11, 12, 13, 14, 15, 16, 17, 18, 19, 20, 21, 22, 23, 24, 25, 26, 27, 28, 29], [0, 1, 2, 3, 4, 5, 6, 7, 8, 9, 10, 11, 12, 13, 14, 15, 16, 17, 18, 19, 20, 21, 22, 23, 24, 25, 26], [0, 1, 2, 3, 4, 5, 6, 7, 8, 9, 10, 11, 12, 13, 14, 15, 16, 17, 18, 19, 20, 21, 22, 23, 24, 25, 26, 31], [0, 1, 2, 3, 4, 5, 6, 7, 8, 9, 10, 11, 12, 13, 14, 15, 16, 17, 18, 19, 20, 21, 22, 23, 24, 25, 26, 27, 28, 29, 30, 31, 32], [0, 1, 2, 3, 4, 5, 6, 7, 8, 9, 10, 11, 12, 13, 14, 15, 16, 17, 18, 19, 20, 21, 22, 23, 24, 25, 26], [0, 1, 2, 3, 4, 5, 6, 7, 8, 9, 10, 11, 12, 13, 14, 15, 16, 17, 18, 19, 20, 21, 22, 23, 24, 25, 26], [0, 1, 2, 3, 4, 5, 6, 7, 8, 9, 10, 11, 12, 13, 14, 15, 16, 17, 18, 19, 20, 21, 22, 23, 24, 25, 26, 35], [0, 1, 2, 3, 4, 5, 6, 7, 8, 9, 10, 11, 12, 13, 14, 15, 16, 17, 18, 19, 20, 21, 22, 23, 24, 25, 26, 27, 28, 29, 30, 31, 32, 33, 34, 35, 36], [0, 1, 2, 3, 4, 5, 6, 7, 8, 9, 10, 11, 12, 13, 14, 15, 16, 17, 18, 19, 20, 21, 22, 23, 24, 25, 26], [0, 1, 2, 3, 4, 5, 6, 7, 8, 9, 10, 11, 12, 13, 14, 15, 16, 17, 18, 19, 20, 21, 22, 23, 24, 25, 26], [0, 1, 2, 3, 4, 5, 6, 7, 8, 9, 10, 11, 12, 13, 14, 15, 16, 17, 18, 19, 20, 21, 22, 23, 24, 25, 26, 39], [0, 1, 2, 3, 4, 5, 6, 7, 8, 9, 10, 11, 12, 13, 14, 15, 16, 17, 18, 19, 20, 21, 22, 23, 24, 25, 26, 27, 28, 29, 30, 31, 32, 33, 34, 35, 36, 37, 38, 39, 40], [0, 1, 2, 3, 4, 5, 6, 7, 8, 9, 10, 11, 12, 13, 14, 15, 16, 17, 18, 19, 20, 21, 22, 23, 24, 25, 26, 27, 28, 29, 30, 31, 32, 33, 34, 35, 36, 37, 38, 39, 40, 41], [0, 1, 2, 3, 4, 5, 6, 7, 8, 9, 10, 11, 12, 13, 14, 15, 16, 17, 18, 19, 20, 21, 22, 23, 24, 25, 26, 27, 28, 29, 30, 31, 32, 33, 34, 35, 36, 37, 38, 39, 40, 41, 42], [0, 1, 2, 3, 4, 5, 6, 7, 8, 9, 10, 11, 12, 13, 14, 15, 16, 17, 18, 19, 20, 21, 22, 23, 24, 25, 26, 27, 28, 29, 30, 31, 32, 33, 34, 35, 36, 37, 38, 39, 40, 41, 42, 43], [0, 1, 2, 3, 4, 5, 6, 7, 8, 9, 10, 11, 12, 13, 14, 15, 16, 17, 18, 19, 20, 21, 22, 23, 24, 25, 26, 27, 28, 29, 30, 31, 32, 33, 34, 35, 36, 37, 38, 39, 40, 41, 42, 43, 44], [0, 1, 2, 3, 4, 5, 6, 7, 8, 9, 10, 11, 12, 13, 14, 15, 16, 17, 18, 19, 20, 21, 22, 23, 24, 25, 26, 27, 28, 29, 30, 31, 32, 33, 34, 35, 36, 37, 38, 39, 40, 41, 42, 43, 44, 45], [0, 1, 2, 3, 4, 5, 6, 7, 8, 9, 10, 11, 12, 13, 14, 15, 16, 17, 18, 19, 20, 21, 22, 23, 24, 25, 26, 27, 28, 29, 30, 31, 32, 33, 34, 35, 36, 37, 38, 39, 40, 41, 42, 43, 44, 45, 46], [0, 1, 2, 3, 4, 5, 6, 7, 8, 9, 10, 11, 12, 13, 14, 15, 16, 17, 18, 19, 20, 21, 22, 23, 24, 25, 26, 27, 28, 29, 30, 31, 32, 33, 34, 35, 36, 37, 38, 39, 40, 41, 42, 43, 44, 45, 46, 47], [0, 1, 2, 3, 4, 5, 6, 7, 8, 9, 10, 11, 12, 13, 14, 15, 16, 17, 18, 19, 20, 21, 22, 23, 24, 25, 26, 27, 28, 29, 30, 31, 32, 33, 34, 35, 36, 37, 38, 39, 40, 41, 42, 43, 44, 45, 46, 47, 48], [0, 1, 2, 3, 4, 5, 6, 7, 8, 9, 10, 11, 12, 13, 14, 15, 16, 17, 18, 19, 20, 21, 22, 23, 24, 25, 26, 27, 28, 29, 30, 31, 32, 33, 34, 35, 36, 37, 38, 39, 40, 41, 42, 43, 44, 45, 46, 47, 48, 49], [0, 1, 2, 3, 4, 5, 6, 7, 8, 9, 10, 11, 12, 13, 14, 15, 16, 17, 18, 19, 20, 21, 22, 23, 24, 25, 26, 27, 28, 29, 30, 31, 32, 33, 34, 35, 36, 37, 38, 39, 40, 41, 42, 43, 44, 45, 46, 47], [0, 1, 2, 3, 4, 5, 6, 7, 8, 9, 10, 11, 12, 13, 14, 15, 16, 17, 18, 19, 20, 21, 22, 23, 24, 25, 26, 27, 28, 29, 30, 31, 32, 33, 34, 35, 36, 37, 38, 39, 40, 41, 42, 43, 44, 45, 46, 47, 48, 49, 50, 51], [0, 1, 2, 3, 4, 5, 6, 7, 8, 9, 10, 11, 12, 13, 14, 15, 16, 17, 18, 19, 20, 21, 22, 23, 24, 25, 26, 27, 28, 29, 30, 31, 32, 33, 34, 35, 36, 37, 38, 39, 40, 41, 42, 43, 44, 45, 46, 47, 48, 49, 50, 51, 52], [0, 1, 2, 3, 4, 5, 6, 7, 8, 9, 10, 11, 12, 13, 14, 15, 16, 17, 18, 19, 20, 21, 22, 23, 24, 25, 26, 27, 28, 29, 30, 31, 32, 33, 34, 35, 36, 37, 38, 39, 40, 41, 42, 43, 44, 45, 46, 47, 48, 49, 50, 51, 52, 53], [0, 1, 2, 3, 4, 5, 6, 7, 8, 9, 10, 11, 12, 13, 14, 15, 16, 17, 18, 19, 20, 21, 22, 23, 24, 25, 26, 27, 28, 29, 30, 31, 32, 33, 34, 35, 36, 37, 38, 39, 40, 41, 42, 43, 44, 45, 46, 47, 48, 49, 50, 51, 52, 53, 54], [0, 1, 2, 3, 4, 5, 6, 7, 8, 9, 10, 11, 12, 13, 14, 15, 16, 17, 18, 19, 20, 21, 22, 23, 24, 25, 26, 27, 28, 29, 30, 31, 32, 33, 34, 35, 36, 37, 38, 39, 40, 41, 42, 43, 44, 45, 46, 47, 48, 49, 50, 51, 52, 53, 54, 55], [0, 1, 2, 3, 4, 5, 6, 7, 8, 9, 10, 11, 12, 13, 14, 15, 16, 17, 18, 19, 20, 21, 22, 23, 24, 25, 26, 27, 28, 29, 30, 31, 32, 33, 34, 35, 36, 37, 38, 39, 40, 41, 42, 43, 44, 45, 46, 47, 48, 49, 50, 51, 52, 53, 54, 55, 56], [0, 1, 2, 3, 4, 5, 6, 7, 8, 9, 10, 11, 12, 13, 14, 15, 16, 17, 18, 19, 20, 21, 22, 23, 24, 25, 26, 27, 28, 29, 30, 31, 32, 33, 34, 35, 36, 37, 38, 39, 40, 41, 42, 43, 44, 45, 46, 47, 48, 49, 50, 51, 52, 53, 54], [0, 1, 2, 3, 4, 5, 6, 7, 8, 9, 10, 11, 12, 13, 14, 15, 16, 17, 18, 19, 20, 21, 22, 23, 24, 25, 26, 27, 28, 29, 30, 31, 32, 33, 34, 35, 36, 37, 38, 39, 40, 41, 42, 43, 44, 45, 46, 47, 48, 49, 50, 51, 52, 53, 54, 55, 56, 57, 58], [0, 1, 2, 3, 4, 5, 6, 7, 8, 9, 10, 11, 12, 13, 14, 15, 16, 17, 18, 19, 20, 21, 22, 23, 24, 25, 26, 27, 28, 29, 30, 31, 32, 33, 34, 35, 36, 37, 38, 39, 40, 41, 42, 43, 44, 45, 46, 47, 48, 49, 50, 51, 52, 53, 54, 55, 56, 57, 58, 59], [0, 1, 2, 3, 4, 5, 6, 7, 8, 9, 10, 11, 12, 13, 14, 15, 16, 17, 18, 19, 20, 21, 22, 23, 24, 25, 26, 27, 28, 29, 30, 31, 32, 33, 34, 35, 36, 37, 38, 39, 40, 41, 42, 43, 44, 45, 46, 47, 48, 49, 50, 51, 52, 53, 54, 55, 56, 57, 58, 59, 60], [0, 1, 2, 3, 4, 5, 6, 7, 8, 9, 10, 11, 12, 13, 14, 15, 16, 17, 18, 19, 20, 21, 22, 23, 24, 25, 26, 27, 28, 29, 30, 31, 32, 33, 34, 35, 36, 37, 38, 39, 40, 41, 42, 43, 44, 45, 46, 47, 48, 49, 50, 51, 52, 53, 54, 55, 56, 57, 58, 59, 60, 61], [0, 1, 2, 3, 4, 5, 6, 7, 8, 9, 10, 11, 12, 13, 14, 15, 16, 17, 18, 19, 20, 21, 22, 23, 24, 25, 26, 27, 28, 29, 30, 31, 32, 33, 34, 35, 36, 37, 38, 39, 40, 41, 42, 43, 44, 45, 46, 47, 48, 49, 50, 51, 52, 53, 54, 55, 56, 57, 58, 59, 60, 61, 62], [0, 1, 2, 3, 4, 5, 6, 7, 8, 9, 10, 11, 12, 13, 14, 15, 16, 17, 18, 19, 20, 21, 22, 23, 24, 25, 26, 27, 28, 29, 30, 31, 32, 33, 34, 35, 36, 37, 38, 39, 40, 41, 42, 43, 44, 45, 46, 47, 48, 49, 50, 51, 52, 53, 54, 55, 56, 57, 58, 59, 60, 61, 62, 63]] : List (List Nat)).getD j []), [4, 29, 32, 36, 40, 42]⟩ (fun jj vv yy => match jj with | 0 => vv = [some (.agg #[.slice a n c, .bool m, .slice a2 n2 c2])] | 1 => vv = [some (.agg #[.slice d k l, .bool v, .slice d2 k2 l2])] | 2 => vv = [some (.agg #[.slice d k l, .bool v, .slice d2 k2 l2])] | 3 => ∃ (x103 : Option Addr), ∃ (n103 : Nat), ∃ (c103 : Nat), ∃ (m103 : Bool), ∃ (y103 : Option Addr), ∃ (o103 : Nat), ∃ (d103 : Nat), vv = [some (.agg #[.slice x103 n103 c103, .bool m103, .slice y103 o103 d103])] ∧ RatAt yy x103 n103 c103 m103 y103 o103 d103 (-P') Q' | 4 => ∃ (k4 : Nat), vv = [some (.slice (some ⟨k4, 0, none⟩) 2 2)] ∧ RatsAt yy (some ⟨k4, 0, none⟩) 2 2 (twoP P' (-P')) (twoQ Q' Q') | 5 => ∃ (x105 : Option Addr), ∃ (n105 : Nat), ∃ (c105 : Nat), ∃ (m105 : Bool), ∃ (y105 : Option Addr), ∃ (o105 : Nat), ∃ (d105 : Nat), vv = [some (.agg #[.slice x105 n105 c105, .bool m105, .slice y105 o105 d105])] ∧ RatAt yy x105 n105 c105 m105 y105 o105 d105 S1 S2 | 6 => vv = [some (.agg #[.slice a n c, .bool m, .slice a2 n2 c2])] | 7 => vv = [some (.int .i64 0)] | 8 => vv = [some (.bool true)] | 9 => vv = [some (.bool true)] | 10 => vv = [some (.bool true)] | 11 => vv = [some (.agg #[.slice d k l, .bool v, .slice d2 k2 l2])] | 12 => vv = [some (.int .i64 sB)] | 13 => vv = [some (.bool true)] | 14 => vv = [some (.bool true)] | 15 => vv = [some (.bool true)] | 16 => vv = [some (.bool true)] | 17 => vv = [some (.bool true)] | 18 => vv = [some (.bool false)] | 19 => vv = [some (.bool false)] | 20 => vv = [some (.agg #[.slice x105 n105 c105, .bool m105, .slice y105 o105 d105])] | 21 => vv = [some (.agg #[.bool pb, .string ps, .string q])] | 22 => vv = [some (.agg #[.bool pb, .string ps, .string q])] | 23 => vv = [some (.bool true)] | 24 => vv = [some (.bool true)] | 25 => vv = [some (.bool true)] | 26 => vv = [some (.bool true)] | 27 => vv = [some (.agg #[.slice a n c, .bool m, .slice a2 n2 c2])] | 28 => vv = [some (.agg #[.slice d k l, .bool v, .slice d2 k2 l2])] | 29 => ∃ (k29 : Nat), vv = [some (.slice (some ⟨k29, 0, none⟩) 1 1)] ∧ RatsAt yy (some ⟨k29, 0, none⟩) 1 1 (fun _ => P') (fun _ => Q') | 30 => ∃ (x130 : Option Addr), ∃ (n130 : Nat), ∃ (c130 : Nat), ∃ (m130 : Bool), ∃ (y130 : Option Addr), ∃ (o130 : Nat), ∃ (d130 : Nat), vv = [some (.agg #[.slice x130 n130 c130, .bool m130, .slice y130 o130 d130])] ∧ RatAt yy x130 n130 c130 m130 y130 o130 d130 U1 U2 | 31 => vv = [some (.agg #[.slice g i j, .bool u, .slice g2 i2 j2])] | 32 => ∃ (k32 : Nat), vv = [some (.slice (some ⟨k32, 0, none⟩) 1 1)] ∧ RatsAt yy (some ⟨k32, 0, none⟩) 1 1 (fun _ => F) (fun _ => G) | 33 => ∃ (x133 : Option Addr), ∃ (n133 : Nat), ∃ (c133 : Nat), ∃ (m133 : Bool), ∃ (y133 : Option Addr), ∃ (o133 : Nat), ∃ (d133 : Nat), vv = [some (.agg #[.slice x133 n133 c133, .bool m133, .slice y133 o133 d133])] ∧ RatAt yy x133 n133 c133 m133 y133 o133 d133 L1 L2 | 34 => vv = [some (.agg #[.slice a n c, .bool m, .slice a2 n2 c2])] | 35 => vv = [some (.agg #[.slice g i j, .bool u, .slice g2 i2 j2])] | 36 => ∃ (k36 : Nat), vv = [some (.slice (some ⟨k36, 0, none⟩) 1 1)] ∧ RatsAt yy (some ⟨k36, 0, none⟩) 1 1 (fun _ => F) (fun _ => G) | 37 => ∃ (x137 : Option Addr), ∃ (n137 : Nat), ∃ (c137 : Nat), ∃ (m137 : Bool), ∃ (y137 : Option Addr), ∃ (o137 : Nat), ∃ (d137 : Nat), vv = [some (.agg #[.slice x137 n137 c137, .bool m137, .slice y137 o137 d137])] ∧ RatAt yy x137 n137 c137 m137 y137 o137 d137 A1 A2 | 38 => vv = [some (.agg #[.slice d k l, .bool v, .slice d2 k2 l2])] | 39 => vv = [some (.agg #[.slice g i j, .bool u, .slice g2 i2 j2])] | 40 => ∃ (k40 : Nat), vv = [some (.slice (some ⟨k40, 0, none⟩) 1 1)] ∧ RatsAt yy (some ⟨k40, 0, none⟩) 1 1 (fun _ => F) (fun _ => G) | 41 => ∃ (x141 : Option Addr), ∃ (n141 : Nat), ∃ (c141 : Nat), ∃ (m141 : Bool), ∃ (y141 : Option Addr), ∃ (o141 : Nat), ∃ (d141 : Nat), vv = [some (.agg #[.slice x141 n141 c141, .bool m141, .slice y141 o141 d141])] ∧ RatAt yy x141 n141 c141 m141 y141 o141 d141 B1 B2 | 42 => ∃ (k42 : Nat), vv = [some (.slice (some ⟨k42, 0, none⟩) 1 1)] ∧ RatsAt yy (some ⟨k42, 0, none⟩) 1 1 (fun _ => B1) (fun _ => B2) | 43 => ∃ (x143 : Option Addr), ∃ (n143 : Nat), ∃ (c143 : Nat), ∃ (m143 : Bool), ∃ (y143 : Option Addr), ∃ (o143 : Nat), ∃ (d143 : Nat), vv = [some (.agg #[.slice x143 n143 c143, .bool m143, .slice y143 o143 d143])] ∧ RatAt yy x143 n143 c143 m143 y143 o143 d143 R1P R2P | 44 => vv = [some (.int .i64 0)] | 45 => vv = [some (.bool true)] | 46 => vv = [some (.bool true)] | 47 => vv = [some (.bool true)] | 48 => vv = [some (.agg #[.slice a n c, .bool m, .slice a2 n2 c2])] | 49 => ∃ (x149 : Option Addr), ∃ (n149 : Nat), ∃ (c149 : Nat), ∃ (m149 : Bool), ∃ (y149 : Option Addr), ∃ (o149 : Nat), ∃ (d149 : Nat), vv = [some (.agg #[.slice x149 n149 c149, .bool m149, .slice y149 o149 d149])] ∧ RatAt yy x149 n149 c149 m149 y149 o149 d149 P Q | 50 => vv = [some (.agg #[.bool pb, .string ps, .string q])] | 51 => vv = [some (.agg #[.bool pb, .string ps, .string q])] | 52 => vv = [some (.bool true)] | 53 => vv = [some (.bool true)] | 54 => vv = [some (.bool true)] | 55 => vv = [some (.agg #[.slice a n c, .bool m, .slice a2 n2 c2])] | 56 => ∃ (x156 : Option Addr), ∃ (n156 : Nat), ∃ (c156 : Nat), ∃ (m156 : Bool), ∃ (y156 : Option Addr), ∃ (o156 : Nat), ∃ (d156 : Nat), vv = [some (.agg #[.slice x156 n156 c156, .bool m156, .slice y156 o156 d156])] ∧ RatAt yy x156 n156 c156 m156 y156 o156 d156 P Q | 57 => vv = [some (.agg #[.bool pb, .string ps, .string q])] | 58 => vv = [some (.agg #[.bool pb, .string ps, .string q])] | 59 => vv = [some (.bool true)] | 60 => vv = [some (.bool true)] | 61 => vv = [some (.bool true)] | 62 => vv = [some (.bool true)] | 63 => vv = [some (.bool true)] | 64 => vv = [some (.bool true)] | _ => True) (Bag w (fun y => RatAt y x105 n105 c105 m105 y105 o105 d105 P Q ∧ Slot3 y k9 (.slice x105 n105 c105) (.bool m105) (.slice y105 o105 d105) ∧ Slot3 y w3.heap.size (.slice g i j) (.bool u) (.slice g2 i2 j2) ∧ RatAt y g i j u g2 i2 j2 F G ∧ Slot3 y w2.heap.size (.slice d k l) (.bool v) (.slice d2 k2 l2) ∧ RatAt y d k l v d2 k2 l2 P' Q' ∧ Slot3 y w1.heap.size (.slice a n c) (.bool m) (.slice a2 n2 c2) ∧ RatAt y a n c m a2 n2 c2 P Q ∧ Slot3 y (w.heap.size + 1 + 1) (.bool pf) (.string pg) (.string qf) ∧ Slot3 y (w.heap.size + 1) (.bool pb') (.string ps') (.string q') ∧ Slot3 y w.heap.size (.bool pb) (.string ps) (.string q) ∧ True)) (by kernel_rfl) (by kernel_rfl) (by kernel_rfl) BB.out.drew ?_ ?_ ?_
    · intro jj vv yw yw2 hb h
      match jj, h with
      | 0, h => exact h
      | 1, h => exact h
      | 2, h => exact h
      | 3, ⟨x103, n103, c103, m103, y103, o103, d103, e3, g3_0⟩ => exact Exists.intro x103 (Exists.intro n103 (Exists.intro c103 (Exists.intro m103 (Exists.intro y103 (Exists.intro o103 (Exists.intro d103 (And.intro e3 (g3_0.below hb))))))))
      | 4, ⟨k4, e4, g4_0⟩ => exact Exists.intro k4 (And.intro e4 (g4_0.below hb))
      | 5, ⟨x105, n105, c105, m105, y105, o105, d105, e5, g5_0⟩ => exact Exists.intro x105 (Exists.intro n105 (Exists.intro c105 (Exists.intro m105 (Exists.intro y105 (Exists.intro o105 (Exists.intro d105 (And.intro e5 (g5_0.below hb))))))))
      | 6, h => exact h
      | 7, h => exact h
      | 8, h => exact h
      | 9, h => exact h
      | 10, h => exact h
      | 11, h => exact h
      | 12, h => exact h
      | 13, h => exact h
      | 14, h => exact h
      | 15, h => exact h
      | 16, h => exact h
      | 17, h => exact h
      | 18, h => exact h
      | 19, h => exact h
      | 20, h => exact h
      | 21, h => exact h
      | 22, h => exact h
      | 23, h => exact h
      | 24, h => exact h
      | 25, h => exact h
      | 26, h => exact h
      | 27, h => exact h
      | 28, h => exact h
      | 29, ⟨k29, e29, g29_0⟩ => exact Exists.intro k29 (And.intro e29 (g29_0.below hb))
      | 30, ⟨x130, n130, c130, m130, y130, o130, d130, e30, g30_0⟩ => exact Exists.intro x130 (Exists.intro n130 (Exists.intro c130 (Exists.intro m130 (Exists.intro y130 (Exists.intro o130 (Exists.intro d130 (And.intro e30 (g30_0.below hb))))))))
      | 31, h => exact h
      | 32, ⟨k32, e32, g32_0⟩ => exact Exists.intro k32 (And.intro e32 (g32_0.below hb))
      | 33, ⟨x133, n133, c133, m133, y133, o133, d133, e33, g33_0⟩ => exact Exists.intro x133 (Exists.intro n133 (Exists.intro c133 (Exists.intro m133 (Exists.intro y133 (Exists.intro o133 (Exists.intro d133 (And.intro e33 (g33_0.below hb))))))))
      | 34, h => exact h
      | 35, h => exact h
      | 36, ⟨k36, e36, g36_0⟩ => exact Exists.intro k36 (And.intro e36 (g36_0.below hb))
      | 37, ⟨x137, n137, c137, m137, y137, o137, d137, e37, g37_0⟩ => exact Exists.intro x137 (Exists.intro n137 (Exists.intro c137 (Exists.intro m137 (Exists.intro y137 (Exists.intro o137 (Exists.intro d137 (And.intro e37 (g37_0.below hb))))))))
      | 38, h => exact h
      | 39, h => exact h
      | 40, ⟨k40, e40, g40_0⟩ => exact Exists.intro k40 (And.intro e40 (g40_0.below hb))
      | 41, ⟨x141, n141, c141, m141, y141, o141, d141, e41, g41_0⟩ => exact Exists.intro x141 (Exists.intro n141 (Exists.intro c141 (Exists.intro m141 (Exists.intro y141 (Exists.intro o141 (Exists.intro d141 (And.intro e41 (g41_0.below hb))))))))
      | 42, ⟨k42, e42, g42_0⟩ => exact Exists.intro k42 (And.intro e42 (g42_0.below hb))
      | 43, ⟨x143, n143, c143, m143, y143, o143, d143, e43, g43_0⟩ => exact Exists.intro x143 (Exists.intro n143 (Exists.intro c143 (Exists.intro m143 (Exists.intro y143 (Exists.intro o143 (Exists.intro d143 (And.intro e43 (g43_0.below hb))))))))
      | 44, h => exact h
      | 45, h => exact h
      | 46, h => exact h
      | 47, h => exact h
      | 48, h => exact h
      | 49, ⟨x149, n149, c149, m149, y149, o149, d149, e49, g49_0⟩ => exact Exists.intro x149 (Exists.intro n149 (Exists.intro c149 (Exists.intro m149 (Exists.intro y149 (Exists.intro o149 (Exists.intro d149 (And.intro e49 (g49_0.below hb))))))))
      | 50, h => exact h
      | 51, h => exact h
      | 52, h => exact h
      | 53, h => exact h
      | 54, h => exact h
      | 55, h => exact h
      | 56, ⟨x156, n156, c156, m156, y156, o156, d156, e56, g56_0⟩ => exact Exists.intro x156 (Exists.intro n156 (Exists.intro c156 (Exists.intro m156 (Exists.intro y156 (Exists.intro o156 (Exists.intro d156 (And.intro e56 (g56_0.below hb))))))))
      | 57, h => exact h
      | 58, h => exact h
      | 59, h => exact h
      | 60, h => exact h
      | 61, h => exact h
      | 62, h => exact h
      | 63, h => exact h
      | 64, h => exact h
      | _ + 65, h => exact h
    · intro ac yw hsz hdf hold hB hp
      have t6 : ac.tmps[6]? = some (.bool true) := (List.cons.inj (hp 64 (by decide))).1
      clear hold hp
      obtain ⟨TW, hTW⟩ : ∃ TW : Nat → Value, ∀ i, (ac.tmps[i]?).getD undef = TW i := ⟨_, fun _ => rfl⟩
      have f6 := (hTW 6).symm.trans (congrArg (fun x => Option.getD x undef) t6)
      have hac := act_eq (n := 114) hsz TW hTW
      rw [show ((List.range 114).map TW).toArray = #[TW 0, TW 1, TW 2, TW 3, TW 4, TW 5, TW 6, TW 7, TW 8, TW 9, TW 10, TW 11, TW 12, TW 13, TW 14, TW 15, TW 16, TW 17, TW 18, TW 19, TW 20, TW 21, TW 22, TW 23, TW 24, TW 25, TW 26, TW 27, TW 28, TW 29, TW 30, TW 31, TW 32, TW 33, TW 34, TW 35, TW 36, TW 37, TW 38, TW 39, TW 40, TW 41, TW 42, TW 43, TW 44, TW 45, TW 46, TW 47, TW 48, TW 49, TW 50, TW 51, TW 52, TW 53, TW 54, TW 55, TW 56, TW 57, TW 58, TW 59, TW 60, TW 61, TW 62, TW 63, TW 64, TW 65, TW 66, TW 67, TW 68, TW 69, TW 70, TW 71, TW 72, TW 73, TW 74, TW 75, TW 76, TW 77, TW 78, TW 79, TW 80, TW 81, TW 82, TW 83, TW 84, TW 85, TW 86, TW 87, TW 88, TW 89, TW 90, TW 91, TW 92, TW 93, TW 94, TW 95, TW 96, TW 97, TW 98, TW 99, TW 100, TW 101, TW 102, TW 103, TW 104, TW 105, TW 106, TW 107, TW 108, TW 109, TW 110, TW 111, TW 112, TW 113] from rfl, f6, hdf] at hac
      simp only [Option.getD_some] at hac
      subst hac
      clear hTW f6
      go_wp2
      go_ret
      exact ⟨rfl, hB.below⟩
    refine Stps2.cons (o := _) ?_ ?_
    · intro ac yw hsz hold hB hp K hK
      have t7 : ac.tmps[7]? = some (.pointer (some ⟨w1.heap.size, 0, none⟩)) := hold 7 (by kernel_rfl)
      clear hold hp hsz
      have v0 := hB.now.2.1.cell
      have v1 := hB.now.2.1.cell1
      have v2 := hB.now.2.1.cell2
      have v3 := hB.now.2.2.1.cell
      have v4 := hB.now.2.2.1.cell1
      have v5 := hB.now.2.2.1.cell2
      have v6 := hB.now.2.2.2.2.1.cell
      have v7 := hB.now.2.2.2.2.1.cell1
      have v8 := hB.now.2.2.2.2.1.cell2
      have v9 := hB.now.2.2.2.2.2.2.1.cell
      have v10 := hB.now.2.2.2.2.2.2.1.cell1
      have v11 := hB.now.2.2.2.2.2.2.1.cell2
      have v12 := hB.now.2.2.2.2.2.2.2.2.2.2.1.cell
      have v13 := hB.now.2.2.2.2.2.2.2.2.2.2.1.cell1
      have v14 := hB.now.2.2.2.2.2.2.2.2.2.2.1.cell2
      go_simp
      exact hK.out _ _ ⟨hB, rfl, Nat.le_refl _, .inl (Below.refl _ _), fun h => absurd h (by decide)⟩
    refine Stps2.cons (o := _) ?_ ?_
    · intro ac yw hsz hold hB hp K hK
      have t9 : ac.tmps[9]? = some (.pointer (some ⟨w2.heap.size, 0, none⟩)) := hold 9 (by kernel_rfl)
      clear hold hp hsz
      have v0 := hB.now.2.1.cell
      have v1 := hB.now.2.1.cell1
      have v2 := hB.now.2.1.cell2
      have v3 := hB.now.2.2.1.cell
      have v4 := hB.now.2.2.1.cell1
      have v5 := hB.now.2.2.1.cell2
      have v6 := hB.now.2.2.2.2.1.cell
      have v7 := hB.now.2.2.2.2.1.cell1
      have v8 := hB.now.2.2.2.2.1.cell2
      have v9 := hB.now.2.2.2.2.2.2.1.cell
      have v10 := hB.now.2.2.2.2.2.2.1.cell1
      have v11 := hB.now.2.2.2.2.2.2.1.cell2
      have v12 := hB.now.2.2.2.2.2.2.2.2.2.2.1.cell
      have v13 := hB.now.2.2.2.2.2.2.2.2.2.2.1.cell1
      have v14 := hB.now.2.2.2.2.2.2.2.2.2.2.1.cell2
      go_simp
      exact hK.out _ _ ⟨hB, rfl, Nat.le_refl _, .inl (Below.refl _ _), fun h => absurd h (by decide)⟩
    refine Stps2.cons (o := _) ?_ ?_
    · intro ac yw hsz hold hB hp K hK
      have t9 : ac.tmps[9]? = some (.pointer (some ⟨w2.heap.size, 0, none⟩)) := hold 9 (by kernel_rfl)
      clear hold hp hsz
      have v0 := hB.now.2.1.cell
      have v1 := hB.now.2.1.cell1
      have v2 := hB.now.2.1.cell2
      have v3 := hB.now.2.2.1.cell
      have v4 := hB.now.2.2.1.cell1
      have v5 := hB.now.2.2.1.cell2
      have v6 := hB.now.2.2.2.2.1.cell
      have v7 := hB.now.2.2.2.2.1.cell1
      have v8 := hB.now.2.2.2.2.1.cell2
      have v9 := hB.now.2.2.2.2.2.2.1.cell
      have v10 := hB.now.2.2.2.2.2.2.1.cell1
      have v11 := hB.now.2.2.2.2.2.2.1.cell2
      have v12 := hB.now.2.2.2.2.2.2.2.2.2.2.1.cell
      have v13 := hB.now.2.2.2.2.2.2.2.2.2.2.1.cell1
      have v14 := hB.now.2.2.2.2.2.2.2.2.2.2.1.cell2
      go_simp
      exact hK.out _ _ ⟨hB, rfl, Nat.le_refl _, .inl (Below.refl _ _), fun h => absurd h (by decide)⟩
    refine Stps2.cons (o := _) ?_ ?_
    · intro ac yw hsz hold hB hp K hK
      have e2 := hp 2 (by decide)
      have t52 : ac.tmps[52]? = some (.agg #[.slice d k l, .bool v, .slice d2 k2 l2]) := (List.cons.inj e2).1
      clear hold hp hsz e2
      go_simp
      (go_at_call 9; (with_reducible refine (MN.out _ _ _ _ _ _ _ _ hB.now.2.2.2.2.2.1).mono ?_); rintro e wz ⟨x103, n103, c103, m103, y103, o103, d103, rfl, h3_0, hbz⟩)
      exact hK.out _ _ ⟨hB.go hbz, Exists.intro x103 (Exists.intro n103 (Exists.intro c103 (Exists.intro m103 (Exists.intro y103 (Exists.intro o103 (Exists.intro d103 (And.intro rfl h3_0))))))), hbz.size, .inl hbz, fun h => absurd h (by decide)⟩
    refine Stps2.cons (o := _) ?_ ?_
    · intro ac yw hsz hold hB hp K hK
      have e1 := hp 1 (by decide)
      have t51 : ac.tmps[51]? = some (.agg #[.slice d k l, .bool v, .slice d2 k2 l2]) := (List.cons.inj e1).1
      obtain ⟨x103_3, n103_3, c103_3, m103_3, y103_3, o103_3, d103_3, e3, g3_0⟩ := hp 3 (by decide)
      have t53 : ac.tmps[53]? = some (.agg #[.slice x103_3 n103_3 c103_3, .bool m103_3, .slice y103_3 o103_3 d103_3]) := (List.cons.inj e3).1
      clear hold hp hsz e1 e3
      have hbz : Below yw.heap.size yw (yw.alloc (.cells #[.slice d k l, .bool v, .slice d2 k2 l2, .slice x103_3 n103_3 c103_3, .bool m103_3, .slice y103_3 o103_3 d103_3] 30)) ∧ yw.heap.size < (yw.alloc (.cells #[.slice d k l, .bool v, .slice d2 k2 l2, .slice x103_3 n103_3 c103_3, .bool m103_3, .slice y103_3 o103_3 d103_3] 30)).heap.size := ⟨(Below.refl _ _).alloc (Nat.le_refl _) _, by simp⟩
      have hra := RatsAt.old2 (wk := yw) (t := 30) (Below.refl _ _) rfl (RatAt.below (hB.now.2.2.2.2.2.1) hbz.1) (g3_0.below hbz.1)
      go_simp
      exact hK.out _ _ ⟨hB.alloc _, Exists.intro yw.heap.size (And.intro rfl hra), Nat.le_of_lt hbz.2, .inl hbz.1, fun _ => ⟨_, rfl, Nat.le_refl _, hbz.2⟩⟩
    refine Stps2.cons (o := _) ?_ ?_
    · intro ac yw hsz hold hB hp K hK
      have e0 := hp 0 (by decide)
      have t50 : ac.tmps[50]? = some (.agg #[.slice a n c, .bool m, .slice a2 n2 c2]) := (List.cons.inj e0).1
      obtain ⟨k4_4, e4, g4_0⟩ := hp 4 (by decide)
      have t54 : ac.tmps[54]? = some (.slice (some ⟨k4_4, 0, none⟩) 2 2) := (List.cons.inj e4).1
      clear hold hp hsz e0 e4
      go_simp
      (go_at_call 8; (with_reducible refine (PT.out _ _ _ _ _ _ _ _ _ hB.now.2.2.2.2.2.2.2.1 g4_0).mono ?_); rintro e wz ⟨x105, n105, c105, m105, y105, o105, d105, rfl, h5_0, hbz⟩)
      exact hK.out _ _ ⟨hB.go hbz, Exists.intro x105 (Exists.intro n105 (Exists.intro c105 (Exists.intro m105 (Exists.intro y105 (Exists.intro o105 (Exists.intro d105 (And.intro rfl h5_0))))))), hbz.size, .inl hbz, fun h => absurd h (by decide)⟩
    refine Stps2.cons (o := _) ?_ ?_
    · intro ac yw hsz hold hB hp K hK
      have t7 : ac.tmps[7]? = some (.pointer (some ⟨w1.heap.size, 0, none⟩)) := hold 7 (by kernel_rfl)
      clear hold hp hsz
      have v0 := hB.now.2.1.cell
      have v1 := hB.now.2.1.cell1
      have v2 := hB.now.2.1.cell2
      have v3 := hB.now.2.2.1.cell
      have v4 := hB.now.2.2.1.cell1
      have v5 := hB.now.2.2.1.cell2
      have v6 := hB.now.2.2.2.2.1.cell
      have v7 := hB.now.2.2.2.2.1.cell1
      have v8 := hB.now.2.2.2.2.1.cell2
      have v9 := hB.now.2.2.2.2.2.2.1.cell
      have v10 := hB.now.2.2.2.2.2.2.1.cell1
      have v11 := hB.now.2.2.2.2.2.2.1.cell2
      have v12 := hB.now.2.2.2.2.2.2.2.2.2.2.1.cell
      have v13 := hB.now.2.2.2.2.2.2.2.2.2.2.1.cell1
      have v14 := hB.now.2.2.2.2.2.2.2.2.2.2.1.cell2
      go_simp
      exact hK.out _ _ ⟨hB, rfl, Nat.le_refl _, .inl (Below.refl _ _), fun h => absurd h (by decide)⟩
    refine Stps2.cons (o := _) ?_ ?_
    · intro ac yw hsz hold hB hp K hK
      obtain ⟨x105_5, n105_5, c105_5, m105_5, y105_5, o105_5, d105_5, e5, g5_0⟩ := hp 5 (by decide)
      have t55 : ac.tmps[55]? = some (.agg #[.slice x105_5 n105_5 c105_5, .bool m105_5, .slice y105_5 o105_5 d105_5]) := (List.cons.inj e5).1
      have e6 := hp 6 (by decide)
      have t56 : ac.tmps[56]? = some (.agg #[.slice a n c, .bool m, .slice a2 n2 c2]) := (List.cons.inj e6).1
      clear hold hp hsz e5 e6
      go_simp
      (go_at_call 10; (with_reducible refine (C1.out _ _ _ _ _ _ _ _ _ _ _ _ _ _ _ g5_0 hB.now.2.2.2.2.2.2.2.1).mono ?_); rintro e wz ⟨rfl, hbz⟩)
      exact hK.out _ _ ⟨hB.go hbz, rfl, hbz.size, .inl hbz, fun h => absurd h (by decide)⟩
    refine Stps2.cons (o := _) ?_ ?_
    · intro ac yw hsz hold hB hp K hK
      have e7 := hp 7 (by decide)
      have t57 : ac.tmps[57]? = some (.int .i64 0) := (List.cons.inj e7).1
      clear hold hp hsz e7
      go_simp
      exact hK.out _ _ ⟨hB, rfl, Nat.le_refl _, .inl (Below.refl _ _), fun h => absurd h (by decide)⟩
    refine Stps2.cons (o := _) ?_ ?_
    · intro ac yw hsz hold hB hp K hK
      have e8 := hp 8 (by decide)
      have t58 : ac.tmps[58]? = some (.bool true) := (List.cons.inj e8).1
      clear hold hp hsz e8
      go_simp
      exact hK.out _ _ ⟨hB, rfl, Nat.le_refl _, .inl (Below.refl _ _), fun h => absurd h (by decide)⟩
    refine Stps2.cons (o := _) ?_ ?_
    · intro ac yw hsz hold hB hp K hK
      have t59 : ac.tmps[59]? = some (.bool true) := (List.cons.inj (hp 9 (by decide))).1
      rw [if_pos (wanted_pos rfl rfl t59)]
      have t14 : ac.tmps[14]? = some (.bool true) := hold 14 (by kernel_rfl)
      clear hold hp hsz
      go_simp
      exact hK.out _ _ ⟨hB, rfl, Nat.le_refl _, .inl (Below.refl _ _), fun h => absurd h (by decide)⟩
    refine Stps2.cons (o := _) ?_ ?_
    · intro ac yw hsz hold hB hp K hK
      have t59 : ac.tmps[59]? = some (.bool true) := (List.cons.inj (hp 9 (by decide))).1
      rw [if_pos (wanted_pos rfl rfl t59)]
      have t9 : ac.tmps[9]? = some (.pointer (some ⟨w2.heap.size, 0, none⟩)) := hold 9 (by kernel_rfl)
      clear hold hp hsz
      have v0 := hB.now.2.1.cell
      have v1 := hB.now.2.1.cell1
      have v2 := hB.now.2.1.cell2
      have v3 := hB.now.2.2.1.cell
      have v4 := hB.now.2.2.1.cell1
      have v5 := hB.now.2.2.1.cell2
      have v6 := hB.now.2.2.2.2.1.cell
      have v7 := hB.now.2.2.2.2.1.cell1
      have v8 := hB.now.2.2.2.2.1.cell2
      have v9 := hB.now.2.2.2.2.2.2.1.cell
      have v10 := hB.now.2.2.2.2.2.2.1.cell1
      have v11 := hB.now.2.2.2.2.2.2.1.cell2
      have v12 := hB.now.2.2.2.2.2.2.2.2.2.2.1.cell
      have v13 := hB.now.2.2.2.2.2.2.2.2.2.2.1.cell1
      have v14 := hB.now.2.2.2.2.2.2.2.2.2.2.1.cell2
      go_simp
      exact hK.out _ _ ⟨hB, rfl, Nat.le_refl _, .inl (Below.refl _ _), fun h => absurd h (by decide)⟩
    refine Stps2.cons (o := _) ?_ ?_
    · intro ac yw hsz hold hB hp K hK
      have t59 : ac.tmps[59]? = some (.bool true) := (List.cons.inj (hp 9 (by decide))).1
      rw [if_pos (wanted_pos rfl rfl t59)]
      have e11 := hp 11 (by decide)
      have t61 : ac.tmps[61]? = some (.agg #[.slice d k l, .bool v, .slice d2 k2 l2]) := (List.cons.inj e11).1
      clear hold hp hsz e11
      go_simp
      (go_at_call 11; (with_reducible refine (SG.out _ _ _ _ _ _ _ _ hB.now.2.2.2.2.2.1).mono ?_); rintro e wz ⟨rfl, hbz⟩)
      exact hK.out _ _ ⟨hB.go hbz, rfl, hbz.size, .inl hbz, fun h => absurd h (by decide)⟩
    refine Stps2.cons (o := _) ?_ ?_
    · intro ac yw hsz hold hB hp K hK
      have t59 : ac.tmps[59]? = some (.bool true) := (List.cons.inj (hp 9 (by decide))).1
      rw [if_pos (wanted_pos rfl rfl t59)]
      have e12 := hp 12 (by decide)
      have t62 : ac.tmps[62]? = some (.int .i64 sB) := (List.cons.inj e12).1
      clear hold hp hsz e12
      go_simp
      exact hK.out _ _ ⟨hB, rfl, Nat.le_refl _, .inl (Below.refl _ _), fun h => absurd h (by decide)⟩
    refine Stps2.cons (o := _) ?_ ?_
    · intro ac yw hsz hold hB hp K hK
      have t59 : ac.tmps[59]? = some (.bool true) := (List.cons.inj (hp 9 (by decide))).1
      rw [if_pos (wanted_pos rfl rfl t59)]
      have e10 := hp 10 (by decide)
      have t60 : ac.tmps[60]? = some (.bool true) := (List.cons.inj e10).1
      have e13 := hp 13 (by decide)
      have t63 : ac.tmps[63]? = some (.bool true) := (List.cons.inj e13).1
      clear hold hp hsz e10 e13
      go_simp
      exact hK.out _ _ ⟨hB, rfl, Nat.le_refl _, .inl (Below.refl _ _), fun h => absurd h (by decide)⟩
    refine Stps2.cons (o := _) ?_ ?_
    · intro ac yw hsz hold hB hp K hK
      have e9 := hp 9 (by decide)
      have t59 : ac.tmps[59]? = some (.bool true) := (List.cons.inj e9).1
      have e14 := hp 14 (by decide)
      have t64 : ac.tmps[64]? = some (.bool true) := (List.cons.inj e14).1
      clear hold hp hsz e9 e14
      go_simp
      exact hK.out _ _ ⟨hB, rfl, Nat.le_refl _, .inl (Below.refl _ _), fun h => absurd h (by decide)⟩
    refine Stps2.cons (o := _) ?_ ?_
    · intro ac yw hsz hold hB hp K hK
      have e15 := hp 15 (by decide)
      have t65 : ac.tmps[65]? = some (.bool true) := (List.cons.inj e15).1
      clear hold hp hsz e15
      go_simp
      exact hK.out _ _ ⟨hB, rfl, Nat.le_refl _, .inl (Below.refl _ _), fun h => absurd h (by decide)⟩
    refine Stps2.cons (o := _) ?_ ?_
    · intro ac yw hsz hold hB hp K hK
      have t66 : ac.tmps[66]? = some (.bool true) := (List.cons.inj (hp 16 (by decide))).1
      rw [if_pos (wanted_pos rfl rfl t66)]
      have t14 : ac.tmps[14]? = some (.bool true) := hold 14 (by kernel_rfl)
      clear hold hp hsz
      go_simp
      exact hK.out _ _ ⟨hB, rfl, Nat.le_refl _, .inl (Below.refl _ _), fun h => absurd h (by decide)⟩
    refine Stps2.cons (o := _) ?_ ?_
    · intro ac yw hsz hold hB hp K hK
      have t66 : ac.tmps[66]? = some (.bool true) := (List.cons.inj (hp 16 (by decide))).1
      rw [if_pos (wanted_pos rfl rfl t66)]
      have e17 := hp 17 (by decide)
      have t67 : ac.tmps[67]? = some (.bool true) := (List.cons.inj e17).1
      clear hold hp hsz e17
      go_simp
      exact hK.out _ _ ⟨hB, rfl, Nat.le_refl _, .inl (Below.refl _ _), fun h => absurd h (by decide)⟩
    refine Stps2.cons (o := _) ?_ ?_
    · intro ac yw hsz hold hB hp K hK
      have t66 : ac.tmps[66]? = some (.bool true) := (List.cons.inj (hp 16 (by decide))).1
      rw [if_pos (wanted_pos rfl rfl t66)]
      have e18 := hp 18 (by decide)
      have t68 : ac.tmps[68]? = some (.bool false) := (List.cons.inj e18).1
      clear hold hp hsz e18
      go_simp
      exact hK.out _ _ ⟨hB, rfl, Nat.le_refl _, .inl (Below.refl _ _), fun h => absurd h (by decide)⟩
    refine Stps2.cons (o := _) ?_ ?_
    · intro ac yw hsz hold hB hp K hK
      have t69 : ac.tmps[69]? = some (.bool false) := (List.cons.inj (hp 19 (by decide))).1
      rw [if_pos (wanted_pos rfl rfl t69)]
      have t13 : ac.tmps[13]? = some (.pointer (some ⟨k9, 0, none⟩)) := hold 13 (by kernel_rfl)
      clear hold hp hsz
      have v0 := hB.now.2.1.cell
      have v1 := hB.now.2.1.cell1
      have v2 := hB.now.2.1.cell2
      have v3 := hB.now.2.2.1.cell
      have v4 := hB.now.2.2.1.cell1
      have v5 := hB.now.2.2.1.cell2
      have v6 := hB.now.2.2.2.2.1.cell
      have v7 := hB.now.2.2.2.2.1.cell1
      have v8 := hB.now.2.2.2.2.1.cell2
      have v9 := hB.now.2.2.2.2.2.2.1.cell
      have v10 := hB.now.2.2.2.2.2.2.1.cell1
      have v11 := hB.now.2.2.2.2.2.2.1.cell2
      have v12 := hB.now.2.2.2.2.2.2.2.2.2.2.1.cell
      have v13 := hB.now.2.2.2.2.2.2.2.2.2.2.1.cell1
      have v14 := hB.now.2.2.2.2.2.2.2.2.2.2.1.cell2
      go_simp
      exact hK.out _ _ ⟨hB, rfl, Nat.le_refl _, .inl (Below.refl _ _), fun h => absurd h (by decide)⟩
    refine Stps2.cons (o := _) ?_ ?_
    · intro ac yw hsz hold hB hp K hK
      have t69 : ac.tmps[69]? = some (.bool false) := (List.cons.inj (hp 19 (by decide))).1
      rw [if_pos (wanted_pos rfl rfl t69)]
      have e20 := hp 20 (by decide)
      have t70 : ac.tmps[70]? = some (.agg #[.slice x105 n105 c105, .bool m105, .slice y105 o105 d105]) := (List.cons.inj e20).1
      clear hold hp hsz e20
      go_simp
      (go_at_call 12; (with_reducible refine (NM.out _ _ _ _ _ _ _ _ hB.now.1).mono ?_); rintro e wz ⟨rfl, hbz⟩)
      exact hK.out _ _ ⟨hB.go hbz, rfl, hbz.size, .inl hbz, fun h => absurd h (by decide)⟩
    refine Stps2.cons (o := _) ?_ ?_
    · intro ac yw hsz hold hB hp K hK
      have t69 : ac.tmps[69]? = some (.bool false) := (List.cons.inj (hp 19 (by decide))).1
      rw [if_pos (wanted_pos rfl rfl t69)]
      have t3 : ac.tmps[3]? = some (.pointer (some ⟨w.heap.size, 0, none⟩)) := hold 3 (by kernel_rfl)
      clear hold hp hsz
      have v0 := hB.now.2.1.cell
      have v1 := hB.now.2.1.cell1
      have v2 := hB.now.2.1.cell2
      have v3 := hB.now.2.2.1.cell
      have v4 := hB.now.2.2.1.cell1
      have v5 := hB.now.2.2.1.cell2
      have v6 := hB.now.2.2.2.2.1.cell
      have v7 := hB.now.2.2.2.2.1.cell1
      have v8 := hB.now.2.2.2.2.1.cell2
      have v9 := hB.now.2.2.2.2.2.2.1.cell
      have v10 := hB.now.2.2.2.2.2.2.1.cell1
      have v11 := hB.now.2.2.2.2.2.2.1.cell2
      have v12 := hB.now.2.2.2.2.2.2.2.2.2.2.1.cell
      have v13 := hB.now.2.2.2.2.2.2.2.2.2.2.1.cell1
      have v14 := hB.now.2.2.2.2.2.2.2.2.2.2.1.cell2
      go_simp
      exact hK.out _ _ ⟨hB, rfl, Nat.le_refl _, .inl (Below.refl _ _), fun h => absurd h (by decide)⟩
    refine Stps2.cons (o := _) ?_ ?_
    · intro ac yw hsz hold hB hp K hK
      have t69 : ac.tmps[69]? = some (.bool false) := (List.cons.inj (hp 19 (by decide))).1
      rw [if_pos (wanted_pos rfl rfl t69)]
      have e21 := hp 21 (by decide)
      have t71 : ac.tmps[71]? = some (.agg #[.bool pb, .string ps, .string q]) := (List.cons.inj e21).1
      have e22 := hp 22 (by decide)
      have t72 : ac.tmps[72]? = some (.agg #[.bool pb, .string ps, .string q]) := (List.cons.inj e22).1
      clear hold hp hsz e21 e22
      go_simp
      exact hK.out _ _ ⟨hB, rfl, Nat.le_refl _, .inl (Below.refl _ _), fun h => absurd h (by decide)⟩
    refine Stps2.cons (o := _) ?_ ?_
    · intro ac yw hsz hold hB hp K hK
      have t66 : ac.tmps[66]? = some (.bool true) := (List.cons.inj (hp 16 (by decide))).1
      rw [if_pos (wanted_pos rfl rfl t66)]
      have e19 := hp 19 (by decide)
      have t69 : ac.tmps[69]? = some (.bool false) := (List.cons.inj e19).1
      have e23 := hp 23 (by decide)
      have t73 : ac.tmps[73]? = some (.bool true) := (List.cons.inj e23).1
      clear hold hp hsz e19 e23
      go_simp
      exact hK.out _ _ ⟨hB, rfl, Nat.le_refl _, .inl (Below.refl _ _), fun h => absurd h (by decide)⟩
    refine Stps2.cons (o := _) ?_ ?_
    · intro ac yw hsz hold hB hp K hK
      have e16 := hp 16 (by decide)
      have t66 : ac.tmps[66]? = some (.bool true) := (List.cons.inj e16).1
      have e24 := hp 24 (by decide)
      have t74 : ac.tmps[74]? = some (.bool true) := (List.cons.inj e24).1
      clear hold hp hsz e16 e24
      go_simp
      exact hK.out _ _ ⟨hB, rfl, Nat.le_refl _, .inl (Below.refl _ _), fun h => absurd h (by decide)⟩
    refine Stps2.cons (o := _) ?_ ?_
    · intro ac yw hsz hold hB hp K hK
      have e25 := hp 25 (by decide)
      have t75 : ac.tmps[75]? = some (.bool true) := (List.cons.inj e25).1
      clear hold hp hsz e25
      go_simp
      exact hK.out _ _ ⟨hB, rfl, Nat.le_refl _, .inl (Below.refl _ _), fun h => absurd h (by decide)⟩
    refine Stps2.cons (o := _) ?_ ?_
    · intro ac yw hsz hold hB hp K hK
      have t76 : ac.tmps[76]? = some (.bool true) := (List.cons.inj (hp 26 (by decide))).1
      rw [if_pos (wanted_pos rfl rfl t76)]
      have t7 : ac.tmps[7]? = some (.pointer (some ⟨w1.heap.size, 0, none⟩)) := hold 7 (by kernel_rfl)
      clear hold hp hsz
      have v0 := hB.now.2.1.cell
      have v1 := hB.now.2.1.cell1
      have v2 := hB.now.2.1.cell2
      have v3 := hB.now.2.2.1.cell
      have v4 := hB.now.2.2.1.cell1
      have v5 := hB.now.2.2.1.cell2
      have v6 := hB.now.2.2.2.2.1.cell
      have v7 := hB.now.2.2.2.2.1.cell1
      have v8 := hB.now.2.2.2.2.1.cell2
      have v9 := hB.now.2.2.2.2.2.2.1.cell
      have v10 := hB.now.2.2.2.2.2.2.1.cell1
      have v11 := hB.now.2.2.2.2.2.2.1.cell2
      have v12 := hB.now.2.2.2.2.2.2.2.2.2.2.1.cell
      have v13 := hB.now.2.2.2.2.2.2.2.2.2.2.1.cell1
      have v14 := hB.now.2.2.2.2.2.2.2.2.2.2.1.cell2
      go_simp
      exact hK.out _ _ ⟨hB, rfl, Nat.le_refl _, .inl (Below.refl _ _), fun h => absurd h (by decide)⟩
    refine Stps2.cons (o := _) ?_ ?_
    · intro ac yw hsz hold hB hp K hK
      have t76 : ac.tmps[76]? = some (.bool true) := (List.cons.inj (hp 26 (by decide))).1
      rw [if_pos (wanted_pos rfl rfl t76)]
      have t9 : ac.tmps[9]? = some (.pointer (some ⟨w2.heap.size, 0, none⟩)) := hold 9 (by kernel_rfl)
      clear hold hp hsz
      have v0 := hB.now.2.1.cell
      have v1 := hB.now.2.1.cell1
      have v2 := hB.now.2.1.cell2
      have v3 := hB.now.2.2.1.cell
      have v4 := hB.now.2.2.1.cell1
      have v5 := hB.now.2.2.1.cell2
      have v6 := hB.now.2.2.2.2.1.cell
      have v7 := hB.now.2.2.2.2.1.cell1
      have v8 := hB.now.2.2.2.2.1.cell2
      have v9 := hB.now.2.2.2.2.2.2.1.cell
      have v10 := hB.now.2.2.2.2.2.2.1.cell1
      have v11 := hB.now.2.2.2.2.2.2.1.cell2
      have v12 := hB.now.2.2.2.2.2.2.2.2.2.2.1.cell
      have v13 := hB.now.2.2.2.2.2.2.2.2.2.2.1.cell1
      have v14 := hB.now.2.2.2.2.2.2.2.2.2.2.1.cell2
      go_simp
      exact hK.out _ _ ⟨hB, rfl, Nat.le_refl _, .inl (Below.refl _ _), fun h => absurd h (by decide)⟩
    refine Stps2.cons (o := _) ?_ ?_
    · intro ac yw hsz hold hB hp K hK
      have t76 : ac.tmps[76]? = some (.bool true) := (List.cons.inj (hp 26 (by decide))).1
      rw [if_pos (wanted_pos rfl rfl t76)]
      have e28 := hp 28 (by decide)
      have t78 : ac.tmps[78]? = some (.agg #[.slice d k l, .bool v, .slice d2 k2 l2]) := (List.cons.inj e28).1
      clear hold hp hsz e28
      have hbz : Below yw.heap.size yw (yw.alloc (.cells #[.slice d k l, .bool v, .slice d2 k2 l2] 30)) ∧ yw.heap.size < (yw.alloc (.cells #[.slice d k l, .bool v, .slice d2 k2 l2] 30)).heap.size := ⟨(Below.refl _ _).alloc (Nat.le_refl _) _, by simp⟩
      have hra := RatsAt.old1 (wk := yw) (t := 30) (Below.refl _ _) rfl (RatAt.below (hB.now.2.2.2.2.2.1) hbz.1)
      go_simp
      exact hK.out _ _ ⟨hB.alloc _, Exists.intro yw.heap.size (And.intro rfl hra), Nat.le_of_lt hbz.2, .inl hbz.1, fun _ => ⟨_, rfl, Nat.le_refl _, hbz.2⟩⟩
    refine Stps2.cons (o := _) ?_ ?_
    · intro ac yw hsz hold hB hp K hK
      have t76 : ac.tmps[76]? = some (.bool true) := (List.cons.inj (hp 26 (by decide))).1
      rw [if_pos (wanted_pos rfl rfl t76)]
      have e27 := hp 27 (by decide)
      have t77 : ac.tmps[77]? = some (.agg #[.slice a n c, .bool m, .slice a2 n2 c2]) := (List.cons.inj e27).1
      obtain ⟨k29_29, e29, g29_0⟩ := hp 29 (by decide)
      have t79 : ac.tmps[79]? = some (.slice (some ⟨k29_29, 0, none⟩) 1 1) := (List.cons.inj e29).1
      clear hold hp hsz e27 e29
      go_simp
      (go_at_call 8; (with_reducible refine (PL.out _ _ _ _ _ _ _ _ _ hB.now.2.2.2.2.2.2.2.1 g29_0).mono ?_); rintro e wz ⟨x130, n130, c130, m130, y130, o130, d130, rfl, h30_0, hbz⟩)
      exact hK.out _ _ ⟨hB.go hbz, Exists.intro x130 (Exists.intro n130 (Exists.intro c130 (Exists.intro m130 (Exists.intro y130 (Exists.intro o130 (Exists.intro d130 (And.intro rfl h30_0))))))), hbz.size, .inl hbz, fun h => absurd h (by decide)⟩
    refine Stps2.cons (o := _) ?_ ?_
    · intro ac yw hsz hold hB hp K hK
      have t76 : ac.tmps[76]? = some (.bool true) := (List.cons.inj (hp 26 (by decide))).1
      rw [if_pos (wanted_pos rfl rfl t76)]
      have t11 : ac.tmps[11]? = some (.pointer (some ⟨w3.heap.size, 0, none⟩)) := hold 11 (by kernel_rfl)
      clear hold hp hsz
      have v0 := hB.now.2.1.cell
      have v1 := hB.now.2.1.cell1
      have v2 := hB.now.2.1.cell2
      have v3 := hB.now.2.2.1.cell
      have v4 := hB.now.2.2.1.cell1
      have v5 := hB.now.2.2.1.cell2
      have v6 := hB.now.2.2.2.2.1.cell
      have v7 := hB.now.2.2.2.2.1.cell1
      have v8 := hB.now.2.2.2.2.1.cell2
      have v9 := hB.now.2.2.2.2.2.2.1.cell
      have v10 := hB.now.2.2.2.2.2.2.1.cell1
      have v11 := hB.now.2.2.2.2.2.2.1.cell2
      have v12 := hB.now.2.2.2.2.2.2.2.2.2.2.1.cell
      have v13 := hB.now.2.2.2.2.2.2.2.2.2.2.1.cell1
      have v14 := hB.now.2.2.2.2.2.2.2.2.2.2.1.cell2
      go_simp
      exact hK.out _ _ ⟨hB, rfl, Nat.le_refl _, .inl (Below.refl _ _), fun h => absurd h (by decide)⟩
    refine Stps2.cons (o := _) ?_ ?_
    · intro ac yw hsz hold hB hp K hK
      have t76 : ac.tmps[76]? = some (.bool true) := (List.cons.inj (hp 26 (by decide))).1
      rw [if_pos (wanted_pos rfl rfl t76)]
      have e31 := hp 31 (by decide)
      have t81 : ac.tmps[81]? = some (.agg #[.slice g i j, .bool u, .slice g2 i2 j2]) := (List.cons.inj e31).1
      clear hold hp hsz e31
      have hbz : Below yw.heap.size yw (yw.alloc (.cells #[.slice g i j, .bool u, .slice g2 i2 j2] 30)) ∧ yw.heap.size < (yw.alloc (.cells #[.slice g i j, .bool u, .slice g2 i2 j2] 30)).heap.size := ⟨(Below.refl _ _).alloc (Nat.le_refl _) _, by simp⟩
      have hra := RatsAt.old1 (wk := yw) (t := 30) (Below.refl _ _) rfl (RatAt.below (hB.now.2.2.2.1) hbz.1)
      go_simp
      exact hK.out _ _ ⟨hB.alloc _, Exists.intro yw.heap.size (And.intro rfl hra), Nat.le_of_lt hbz.2, .inl hbz.1, fun _ => ⟨_, rfl, Nat.le_refl _, hbz.2⟩⟩
    refine Stps2.cons (o := _) ?_ ?_
    · intro ac yw hsz hold hB hp K hK
      have t76 : ac.tmps[76]? = some (.bool true) := (List.cons.inj (hp 26 (by decide))).1
      rw [if_pos (wanted_pos rfl rfl t76)]
      obtain ⟨x130_30, n130_30, c130_30, m130_30, y130_30, o130_30, d130_30, e30, g30_0⟩ := hp 30 (by decide)
      have t80 : ac.tmps[80]? = some (.agg #[.slice x130_30 n130_30 c130_30, .bool m130_30, .slice y130_30 o130_30 d130_30]) := (List.cons.inj e30).1
      obtain ⟨k32_32, e32, g32_0⟩ := hp 32 (by decide)
      have t82 : ac.tmps[82]? = some (.slice (some ⟨k32_32, 0, none⟩) 1 1) := (List.cons.inj e32).1
      clear hold hp hsz e30 e32
      go_simp
      (go_at_call 6; (with_reducible refine (TL.out _ _ _ _ _ _ _ _ _ g30_0 g32_0).mono ?_); rintro e wz ⟨x133, n133, c133, m133, y133, o133, d133, rfl, h33_0, hbz⟩)
      exact hK.out _ _ ⟨hB.go hbz, Exists.intro x133 (Exists.intro n133 (Exists.intro c133 (Exists.intro m133 (Exists.intro y133 (Exists.intro o133 (Exists.intro d133 (And.intro rfl h33_0))))))), hbz.size, .inl hbz, fun h => absurd h (by decide)⟩
    refine Stps2.cons (o := _) ?_ ?_
    · intro ac yw hsz hold hB hp K hK
      have t76 : ac.tmps[76]? = some (.bool true) := (List.cons.inj (hp 26 (by decide))).1
      rw [if_pos (wanted_pos rfl rfl t76)]
      have t7 : ac.tmps[7]? = some (.pointer (some ⟨w1.heap.size, 0, none⟩)) := hold 7 (by kernel_rfl)
      clear hold hp hsz
      have v0 := hB.now.2.1.cell
      have v1 := hB.now.2.1.cell1
      have v2 := hB.now.2.1.cell2
      have v3 := hB.now.2.2.1.cell
      have v4 := hB.now.2.2.1.cell1
      have v5 := hB.now.2.2.1.cell2
      have v6 := hB.now.2.2.2.2.1.cell
      have v7 := hB.now.2.2.2.2.1.cell1
      have v8 := hB.now.2.2.2.2.1.cell2
      have v9 := hB.now.2.2.2.2.2.2.1.cell
      have v10 := hB.now.2.2.2.2.2.2.1.cell1
      have v11 := hB.now.2.2.2.2.2.2.1.cell2
      have v12 := hB.now.2.2.2.2.2.2.2.2.2.2.1.cell
      have v13 := hB.now.2.2.2.2.2.2.2.2.2.2.1.cell1
      have v14 := hB.now.2.2.2.2.2.2.2.2.2.2.1.cell2
      go_simp
      exact hK.out _ _ ⟨hB, rfl, Nat.le_refl _, .inl (Below.refl _ _), fun h => absurd h (by decide)⟩
    refine Stps2.cons (o := _) ?_ ?_
    · intro ac yw hsz hold hB hp K hK
      have t76 : ac.tmps[76]? = some (.bool true) := (List.cons.inj (hp 26 (by decide))).1
      rw [if_pos (wanted_pos rfl rfl t76)]
      have t11 : ac.tmps[11]? = some (.pointer (some ⟨w3.heap.size, 0, none⟩)) := hold 11 (by kernel_rfl)
      clear hold hp hsz
      have v0 := hB.now.2.1.cell
      have v1 := hB.now.2.1.cell1
      have v2 := hB.now.2.1.cell2
      have v3 := hB.now.2.2.1.cell
      have v4 := hB.now.2.2.1.cell1
      have v5 := hB.now.2.2.1.cell2
      have v6 := hB.now.2.2.2.2.1.cell
      have v7 := hB.now.2.2.2.2.1.cell1
      have v8 := hB.now.2.2.2.2.1.cell2
      have v9 := hB.now.2.2.2.2.2.2.1.cell
      have v10 := hB.now.2.2.2.2.2.2.1.cell1
      have v11 := hB.now.2.2.2.2.2.2.1.cell2
      have v12 := hB.now.2.2.2.2.2.2.2.2.2.2.1.cell
      have v13 := hB.now.2.2.2.2.2.2.2.2.2.2.1.cell1
      have v14 := hB.now.2.2.2.2.2.2.2.2.2.2.1.cell2
      go_simp
      exact hK.out _ _ ⟨hB, rfl, Nat.le_refl _, .inl (Below.refl _ _), fun h => absurd h (by decide)⟩
    refine Stps2.cons (o := _) ?_ ?_
    · intro ac yw hsz hold hB hp K hK
      have t76 : ac.tmps[76]? = some (.bool true) := (List.cons.inj (hp 26 (by decide))).1
      rw [if_pos (wanted_pos rfl rfl t76)]
      have e35 := hp 35 (by decide)
      have t85 : ac.tmps[85]? = some (.agg #[.slice g i j, .bool u, .slice g2 i2 j2]) := (List.cons.inj e35).1
      clear hold hp hsz e35
      have hbz : Below yw.heap.size yw (yw.alloc (.cells #[.slice g i j, .bool u, .slice g2 i2 j2] 30)) ∧ yw.heap.size < (yw.alloc (.cells #[.slice g i j, .bool u, .slice g2 i2 j2] 30)).heap.size := ⟨(Below.refl _ _).alloc (Nat.le_refl _) _, by simp⟩
      have hra := RatsAt.old1 (wk := yw) (t := 30) (Below.refl _ _) rfl (RatAt.below (hB.now.2.2.2.1) hbz.1)
      go_simp
      exact hK.out _ _ ⟨hB.alloc _, Exists.intro yw.heap.size (And.intro rfl hra), Nat.le_of_lt hbz.2, .inl hbz.1, fun _ => ⟨_, rfl, Nat.le_refl _, hbz.2⟩⟩
    refine Stps2.cons (o := _) ?_ ?_
    · intro ac yw hsz hold hB hp K hK
      have t76 : ac.tmps[76]? = some (.bool true) := (List.cons.inj (hp 26 (by decide))).1
      rw [if_pos (wanted_pos rfl rfl t76)]
      have e34 := hp 34 (by decide)
      have t84 : ac.tmps[84]? = some (.agg #[.slice a n c, .bool m, .slice a2 n2 c2]) := (List.cons.inj e34).1
      obtain ⟨k36_36, e36, g36_0⟩ := hp 36 (by decide)
      have t86 : ac.tmps[86]? = some (.slice (some ⟨k36_36, 0, none⟩) 1 1) := (List.cons.inj e36).1
      clear hold hp hsz e34 e36
      go_simp
      (go_at_call 6; (with_reducible refine (TA.out _ _ _ _ _ _ _ _ _ hB.now.2.2.2.2.2.2.2.1 g36_0).mono ?_); rintro e wz ⟨x137, n137, c137, m137, y137, o137, d137, rfl, h37_0, hbz⟩)
      exact hK.out _ _ ⟨hB.go hbz, Exists.intro x137 (Exists.intro n137 (Exists.intro c137 (Exists.intro m137 (Exists.intro y137 (Exists.intro o137 (Exists.intro d137 (And.intro rfl h37_0))))))), hbz.size, .inl hbz, fun h => absurd h (by decide)⟩
    refine Stps2.cons (o := _) ?_ ?_
    · intro ac yw hsz hold hB hp K hK
      have t76 : ac.tmps[76]? = some (.bool true) := (List.cons.inj (hp 26 (by decide))).1
      rw [if_pos (wanted_pos rfl rfl t76)]
      have t9 : ac.tmps[9]? = some (.pointer (some ⟨w2.heap.size, 0, none⟩)) := hold 9 (by kernel_rfl)
      clear hold hp hsz
      have v0 := hB.now.2.1.cell
      have v1 := hB.now.2.1.cell1
      have v2 := hB.now.2.1.cell2
      have v3 := hB.now.2.2.1.cell
      have v4 := hB.now.2.2.1.cell1
      have v5 := hB.now.2.2.1.cell2
      have v6 := hB.now.2.2.2.2.1.cell
      have v7 := hB.now.2.2.2.2.1.cell1
      have v8 := hB.now.2.2.2.2.1.cell2
      have v9 := hB.now.2.2.2.2.2.2.1.cell
      have v10 := hB.now.2.2.2.2.2.2.1.cell1
      have v11 := hB.now.2.2.2.2.2.2.1.cell2
      have v12 := hB.now.2.2.2.2.2.2.2.2.2.2.1.cell
      have v13 := hB.now.2.2.2.2.2.2.2.2.2.2.1.cell1
      have v14 := hB.now.2.2.2.2.2.2.2.2.2.2.1.cell2
      go_simp
      exact hK.out _ _ ⟨hB, rfl, Nat.le_refl _, .inl (Below.refl _ _), fun h => absurd h (by decide)⟩
    refine Stps2.cons (o := _) ?_ ?_
    · intro ac yw hsz hold hB hp K hK
      have t76 : ac.tmps[76]? = some (.bool true) := (List.cons.inj (hp 26 (by decide))).1
      rw [if_pos (wanted_pos rfl rfl t76)]
      have t11 : ac.tmps[11]? = some (.pointer (some ⟨w3.heap.size, 0, none⟩)) := hold 11 (by kernel_rfl)
      clear hold hp hsz
      have v0 := hB.now.2.1.cell
      have v1 := hB.now.2.1.cell1
      have v2 := hB.now.2.1.cell2
      have v3 := hB.now.2.2.1.cell
      have v4 := hB.now.2.2.1.cell1
      have v5 := hB.now.2.2.1.cell2
      have v6 := hB.now.2.2.2.2.1.cell
      have v7 := hB.now.2.2.2.2.1.cell1
      have v8 := hB.now.2.2.2.2.1.cell2
      have v9 := hB.now.2.2.2.2.2.2.1.cell
      have v10 := hB.now.2.2.2.2.2.2.1.cell1
      have v11 := hB.now.2.2.2.2.2.2.1.cell2
      have v12 := hB.now.2.2.2.2.2.2.2.2.2.2.1.cell
      have v13 := hB.now.2.2.2.2.2.2.2.2.2.2.1.cell1
      have v14 := hB.now.2.2.2.2.2.2.2.2.2.2.1.cell2
      go_simp
      exact hK.out _ _ ⟨hB, rfl, Nat.le_refl _, .inl (Below.refl _ _), fun h => absurd h (by decide)⟩
    refine Stps2.cons (o := _) ?_ ?_
    · intro ac yw hsz hold hB hp K hK
      have t76 : ac.tmps[76]? = some (.bool true) := (List.cons.inj (hp 26 (by decide))).1
      rw [if_pos (wanted_pos rfl rfl t76)]
      have e39 := hp 39 (by decide)
      have t89 : ac.tmps[89]? = some (.agg #[.slice g i j, .bool u, .slice g2 i2 j2]) := (List.cons.inj e39).1
      clear hold hp hsz e39
      have hbz : Below yw.heap.size yw (yw.alloc (.cells #[.slice g i j, .bool u, .slice g2 i2 j2] 30)) ∧ yw.heap.size < (yw.alloc (.cells #[.slice g i j, .bool u, .slice g2 i2 j2] 30)).heap.size := ⟨(Below.refl _ _).alloc (Nat.le_refl _) _, by simp⟩
      have hra := RatsAt.old1 (wk := yw) (t := 30) (Below.refl _ _) rfl (RatAt.below (hB.now.2.2.2.1) hbz.1)
      go_simp
      exact hK.out _ _ ⟨hB.alloc _, Exists.intro yw.heap.size (And.intro rfl hra), Nat.le_of_lt hbz.2, .inl hbz.1, fun _ => ⟨_, rfl, Nat.le_refl _, hbz.2⟩⟩
    refine Stps2.cons (o := _) ?_ ?_
    · intro ac yw hsz hold hB hp K hK
      have t76 : ac.tmps[76]? = some (.bool true) := (List.cons.inj (hp 26 (by decide))).1
      rw [if_pos (wanted_pos rfl rfl t76)]
      have e38 := hp 38 (by decide)
      have t88 : ac.tmps[88]? = some (.agg #[.slice d k l, .bool v, .slice d2 k2 l2]) := (List.cons.inj e38).1
      obtain ⟨k40_40, e40, g40_0⟩ := hp 40 (by decide)
      have t90 : ac.tmps[90]? = some (.slice (some ⟨k40_40, 0, none⟩) 1 1) := (List.cons.inj e40).1
      clear hold hp hsz e38 e40
      go_simp
      (go_at_call 6; (with_reducible refine (TB.out _ _ _ _ _ _ _ _ _ hB.now.2.2.2.2.2.1 g40_0).mono ?_); rintro e wz ⟨x141, n141, c141, m141, y141, o141, d141, rfl, h41_0, hbz⟩)
      exact hK.out _ _ ⟨hB.go hbz, Exists.intro x141 (Exists.intro n141 (Exists.intro c141 (Exists.intro m141 (Exists.intro y141 (Exists.intro o141 (Exists.intro d141 (And.intro rfl h41_0))))))), hbz.size, .inl hbz, fun h => absurd h (by decide)⟩
    refine Stps2.cons (o := _) ?_ ?_
    · intro ac yw hsz hold hB hp K hK
      have t76 : ac.tmps[76]? = some (.bool true) := (List.cons.inj (hp 26 (by decide))).1
      rw [if_pos (wanted_pos rfl rfl t76)]
      obtain ⟨x141_41, n141_41, c141_41, m141_41, y141_41, o141_41, d141_41, e41, g41_0⟩ := hp 41 (by decide)
      have t91 : ac.tmps[91]? = some (.agg #[.slice x141_41 n141_41 c141_41, .bool m141_41, .slice y141_41 o141_41 d141_41]) := (List.cons.inj e41).1
      clear hold hp hsz e41
      have hbz : Below yw.heap.size yw (yw.alloc (.cells #[.slice x141_41 n141_41 c141_41, .bool m141_41, .slice y141_41 o141_41 d141_41] 30)) ∧ yw.heap.size < (yw.alloc (.cells #[.slice x141_41 n141_41 c141_41, .bool m141_41, .slice y141_41 o141_41 d141_41] 30)).heap.size := ⟨(Below.refl _ _).alloc (Nat.le_refl _) _, by simp⟩
      have hra := RatsAt.old1 (wk := yw) (t := 30) (Below.refl _ _) rfl (RatAt.below (g41_0) hbz.1)
      go_simp
      exact hK.out _ _ ⟨hB.alloc _, Exists.intro yw.heap.size (And.intro rfl hra), Nat.le_of_lt hbz.2, .inl hbz.1, fun _ => ⟨_, rfl, Nat.le_refl _, hbz.2⟩⟩
    refine Stps2.cons (o := _) ?_ ?_
    · intro ac yw hsz hold hB hp K hK
      have t76 : ac.tmps[76]? = some (.bool true) := (List.cons.inj (hp 26 (by decide))).1
      rw [if_pos (wanted_pos rfl rfl t76)]
      obtain ⟨x137_37, n137_37, c137_37, m137_37, y137_37, o137_37, d137_37, e37, g37_0⟩ := hp 37 (by decide)
      have t87 : ac.tmps[87]? = some (.agg #[.slice x137_37 n137_37 c137_37, .bool m137_37, .slice y137_37 o137_37 d137_37]) := (List.cons.inj e37).1
      obtain ⟨k42_42, e42, g42_0⟩ := hp 42 (by decide)
      have t92 : ac.tmps[92]? = some (.slice (some ⟨k42_42, 0, none⟩) 1 1) := (List.cons.inj e42).1
      clear hold hp hsz e37 e42
      go_simp
      (go_at_call 8; (with_reducible refine (PR.out _ _ _ _ _ _ _ _ _ g37_0 g42_0).mono ?_); rintro e wz ⟨x143, n143, c143, m143, y143, o143, d143, rfl, h43_0, hbz⟩)
      exact hK.out _ _ ⟨hB.go hbz, Exists.intro x143 (Exists.intro n143 (Exists.intro c143 (Exists.intro m143 (Exists.intro y143 (Exists.intro o143 (Exists.intro d143 (And.intro rfl h43_0))))))), hbz.size, .inl hbz, fun h => absurd h (by decide)⟩
    refine Stps2.cons (o := _) ?_ ?_
    · intro ac yw hsz hold hB hp K hK
      have t76 : ac.tmps[76]? = some (.bool true) := (List.cons.inj (hp 26 (by decide))).1
      rw [if_pos (wanted_pos rfl rfl t76)]
      obtain ⟨x133_33, n133_33, c133_33, m133_33, y133_33, o133_33, d133_33, e33, g33_0⟩ := hp 33 (by decide)
      have t83 : ac.tmps[83]? = some (.agg #[.slice x133_33 n133_33 c133_33, .bool m133_33, .slice y133_33 o133_33 d133_33]) := (List.cons.inj e33).1
      obtain ⟨x143_43, n143_43, c143_43, m143_43, y143_43, o143_43, d143_43, e43, g43_0⟩ := hp 43 (by decide)
      have t93 : ac.tmps[93]? = some (.agg #[.slice x143_43 n143_43 c143_43, .bool m143_43, .slice y143_43 o143_43 d143_43]) := (List.cons.inj e43).1
      clear hold hp hsz e33 e43
      go_simp
      (go_at_call 10; (with_reducible refine (C2.out _ _ _ _ _ _ _ _ _ _ _ _ _ _ _ g33_0 g43_0).mono ?_); rintro e wz ⟨rfl, hbz⟩)
      exact hK.out _ _ ⟨hB.go hbz, rfl, hbz.size, .inl hbz, fun h => absurd h (by decide)⟩
    refine Stps2.cons (o := _) ?_ ?_
    · intro ac yw hsz hold hB hp K hK
      have t76 : ac.tmps[76]? = some (.bool true) := (List.cons.inj (hp 26 (by decide))).1
      rw [if_pos (wanted_pos rfl rfl t76)]
      have e44 := hp 44 (by decide)
      have t94 : ac.tmps[94]? = some (.int .i64 0) := (List.cons.inj e44).1
      clear hold hp hsz e44
      go_simp
      exact hK.out _ _ ⟨hB, rfl, Nat.le_refl _, .inl (Below.refl _ _), fun h => absurd h (by decide)⟩
    refine Stps2.cons (o := _) ?_ ?_
    · intro ac yw hsz hold hB hp K hK
      have e26 := hp 26 (by decide)
      have t76 : ac.tmps[76]? = some (.bool true) := (List.cons.inj e26).1
      have e45 := hp 45 (by decide)
      have t95 : ac.tmps[95]? = some (.bool true) := (List.cons.inj e45).1
      clear hold hp hsz e26 e45
      go_simp
      exact hK.out _ _ ⟨hB, rfl, Nat.le_refl _, .inl (Below.refl _ _), fun h => absurd h (by decide)⟩
    refine Stps2.cons (o := _) ?_ ?_
    · intro ac yw hsz hold hB hp K hK
      have e46 := hp 46 (by decide)
      have t96 : ac.tmps[96]? = some (.bool true) := (List.cons.inj e46).1
      clear hold hp hsz e46
      go_simp
      exact hK.out _ _ ⟨hB, rfl, Nat.le_refl _, .inl (Below.refl _ _), fun h => absurd h (by decide)⟩
    refine Stps2.cons (o := _) ?_ ?_
    · intro ac yw hsz hold hB hp K hK
      have t97 : ac.tmps[97]? = some (.bool true) := (List.cons.inj (hp 47 (by decide))).1
      rw [if_pos (wanted_pos rfl rfl t97)]
      have t7 : ac.tmps[7]? = some (.pointer (some ⟨w1.heap.size, 0, none⟩)) := hold 7 (by kernel_rfl)
      clear hold hp hsz
      have v0 := hB.now.2.1.cell
      have v1 := hB.now.2.1.cell1
      have v2 := hB.now.2.1.cell2
      have v3 := hB.now.2.2.1.cell
      have v4 := hB.now.2.2.1.cell1
      have v5 := hB.now.2.2.1.cell2
      have v6 := hB.now.2.2.2.2.1.cell
      have v7 := hB.now.2.2.2.2.1.cell1
      have v8 := hB.now.2.2.2.2.1.cell2
      have v9 := hB.now.2.2.2.2.2.2.1.cell
      have v10 := hB.now.2.2.2.2.2.2.1.cell1
      have v11 := hB.now.2.2.2.2.2.2.1.cell2
      have v12 := hB.now.2.2.2.2.2.2.2.2.2.2.1.cell
      have v13 := hB.now.2.2.2.2.2.2.2.2.2.2.1.cell1
      have v14 := hB.now.2.2.2.2.2.2.2.2.2.2.1.cell2
      go_simp
      exact hK.out _ _ ⟨hB, rfl, Nat.le_refl _, .inl (Below.refl _ _), fun h => absurd h (by decide)⟩
    refine Stps2.cons (o := _) ?_ ?_
    · intro ac yw hsz hold hB hp K hK
      have t97 : ac.tmps[97]? = some (.bool true) := (List.cons.inj (hp 47 (by decide))).1
      rw [if_pos (wanted_pos rfl rfl t97)]
      have e48 := hp 48 (by decide)
      have t98 : ac.tmps[98]? = some (.agg #[.slice a n c, .bool m, .slice a2 n2 c2]) := (List.cons.inj e48).1
      clear hold hp hsz e48
      go_simp
      (go_at_call 8; (with_reducible refine (P0.out _ _ _ _ _ _ _ _ hB.now.2.2.2.2.2.2.2.1).mono ?_); rintro e wz ⟨x149, n149, c149, m149, y149, o149, d149, rfl, h49_0, hbz⟩)
      exact hK.out _ _ ⟨hB.go hbz, Exists.intro x149 (Exists.intro n149 (Exists.intro c149 (Exists.intro m149 (Exists.intro y149 (Exists.intro o149 (Exists.intro d149 (And.intro rfl h49_0))))))), hbz.size, .inl hbz, fun h => absurd h (by decide)⟩
    refine Stps2.cons (o := _) ?_ ?_
    · intro ac yw hsz hold hB hp K hK
      have t97 : ac.tmps[97]? = some (.bool true) := (List.cons.inj (hp 47 (by decide))).1
      rw [if_pos (wanted_pos rfl rfl t97)]
      obtain ⟨x149_49, n149_49, c149_49, m149_49, y149_49, o149_49, d149_49, e49, g49_0⟩ := hp 49 (by decide)
      have t99 : ac.tmps[99]? = some (.agg #[.slice x149_49 n149_49 c149_49, .bool m149_49, .slice y149_49 o149_49 d149_49]) := (List.cons.inj e49).1
      clear hold hp hsz e49
      go_simp
      (go_at_call 12; (with_reducible refine (NM.out _ _ _ _ _ _ _ _ g49_0).mono ?_); rintro e wz ⟨rfl, hbz⟩)
      exact hK.out _ _ ⟨hB.go hbz, rfl, hbz.size, .inl hbz, fun h => absurd h (by decide)⟩
    refine Stps2.cons (o := _) ?_ ?_
    · intro ac yw hsz hold hB hp K hK
      have t97 : ac.tmps[97]? = some (.bool true) := (List.cons.inj (hp 47 (by decide))).1
      rw [if_pos (wanted_pos rfl rfl t97)]
      have t3 : ac.tmps[3]? = some (.pointer (some ⟨w.heap.size, 0, none⟩)) := hold 3 (by kernel_rfl)
      clear hold hp hsz
      have v0 := hB.now.2.1.cell
      have v1 := hB.now.2.1.cell1
      have v2 := hB.now.2.1.cell2
      have v3 := hB.now.2.2.1.cell
      have v4 := hB.now.2.2.1.cell1
      have v5 := hB.now.2.2.1.cell2
      have v6 := hB.now.2.2.2.2.1.cell
      have v7 := hB.now.2.2.2.2.1.cell1
      have v8 := hB.now.2.2.2.2.1.cell2
      have v9 := hB.now.2.2.2.2.2.2.1.cell
      have v10 := hB.now.2.2.2.2.2.2.1.cell1
      have v11 := hB.now.2.2.2.2.2.2.1.cell2
      have v12 := hB.now.2.2.2.2.2.2.2.2.2.2.1.cell
      have v13 := hB.now.2.2.2.2.2.2.2.2.2.2.1.cell1
      have v14 := hB.now.2.2.2.2.2.2.2.2.2.2.1.cell2
      go_simp
      exact hK.out _ _ ⟨hB, rfl, Nat.le_refl _, .inl (Below.refl _ _), fun h => absurd h (by decide)⟩
    refine Stps2.cons (o := _) ?_ ?_
    · intro ac yw hsz hold hB hp K hK
      have t97 : ac.tmps[97]? = some (.bool true) := (List.cons.inj (hp 47 (by decide))).1
      rw [if_pos (wanted_pos rfl rfl t97)]
      have e50 := hp 50 (by decide)
      have t100 : ac.tmps[100]? = some (.agg #[.bool pb, .string ps, .string q]) := (List.cons.inj e50).1
      have e51 := hp 51 (by decide)
      have t101 : ac.tmps[101]? = some (.agg #[.bool pb, .string ps, .string q]) := (List.cons.inj e51).1
      clear hold hp hsz e50 e51
      go_simp
      exact hK.out _ _ ⟨hB, rfl, Nat.le_refl _, .inl (Below.refl _ _), fun h => absurd h (by decide)⟩
    refine Stps2.cons (o := _) ?_ ?_
    · intro ac yw hsz hold hB hp K hK
      have e47 := hp 47 (by decide)
      have t97 : ac.tmps[97]? = some (.bool true) := (List.cons.inj e47).1
      have e52 := hp 52 (by decide)
      have t102 : ac.tmps[102]? = some (.bool true) := (List.cons.inj e52).1
      clear hold hp hsz e47 e52
      go_simp
      exact hK.out _ _ ⟨hB, rfl, Nat.le_refl _, .inl (Below.refl _ _), fun h => absurd h (by decide)⟩
    refine Stps2.cons (o := _) ?_ ?_
    · intro ac yw hsz hold hB hp K hK
      have e53 := hp 53 (by decide)
      have t103 : ac.tmps[103]? = some (.bool true) := (List.cons.inj e53).1
      clear hold hp hsz e53
      go_simp
      exact hK.out _ _ ⟨hB, rfl, Nat.le_refl _, .inl (Below.refl _ _), fun h => absurd h (by decide)⟩
    refine Stps2.cons (o := _) ?_ ?_
    · intro ac yw hsz hold hB hp K hK
      have t104 : ac.tmps[104]? = some (.bool true) := (List.cons.inj (hp 54 (by decide))).1
      rw [if_pos (wanted_pos rfl rfl t104)]
      have t7 : ac.tmps[7]? = some (.pointer (some ⟨w1.heap.size, 0, none⟩)) := hold 7 (by kernel_rfl)
      clear hold hp hsz
      have v0 := hB.now.2.1.cell
      have v1 := hB.now.2.1.cell1
      have v2 := hB.now.2.1.cell2
      have v3 := hB.now.2.2.1.cell
      have v4 := hB.now.2.2.1.cell1
      have v5 := hB.now.2.2.1.cell2
      have v6 := hB.now.2.2.2.2.1.cell
      have v7 := hB.now.2.2.2.2.1.cell1
      have v8 := hB.now.2.2.2.2.1.cell2
      have v9 := hB.now.2.2.2.2.2.2.1.cell
      have v10 := hB.now.2.2.2.2.2.2.1.cell1
      have v11 := hB.now.2.2.2.2.2.2.1.cell2
      have v12 := hB.now.2.2.2.2.2.2.2.2.2.2.1.cell
      have v13 := hB.now.2.2.2.2.2.2.2.2.2.2.1.cell1
      have v14 := hB.now.2.2.2.2.2.2.2.2.2.2.1.cell2
      go_simp
      exact hK.out _ _ ⟨hB, rfl, Nat.le_refl _, .inl (Below.refl _ _), fun h => absurd h (by decide)⟩
    refine Stps2.cons (o := _) ?_ ?_
    · intro ac yw hsz hold hB hp K hK
      have t104 : ac.tmps[104]? = some (.bool true) := (List.cons.inj (hp 54 (by decide))).1
      rw [if_pos (wanted_pos rfl rfl t104)]
      have e55 := hp 55 (by decide)
      have t105 : ac.tmps[105]? = some (.agg #[.slice a n c, .bool m, .slice a2 n2 c2]) := (List.cons.inj e55).1
      clear hold hp hsz e55
      go_simp
      (go_at_call 6; (with_reducible refine (T0.out _ _ _ _ _ _ _ _ hB.now.2.2.2.2.2.2.2.1).mono ?_); rintro e wz ⟨x156, n156, c156, m156, y156, o156, d156, rfl, h56_0, hbz⟩)
      exact hK.out _ _ ⟨hB.go hbz, Exists.intro x156 (Exists.intro n156 (Exists.intro c156 (Exists.intro m156 (Exists.intro y156 (Exists.intro o156 (Exists.intro d156 (And.intro rfl h56_0))))))), hbz.size, .inl hbz, fun h => absurd h (by decide)⟩
    refine Stps2.cons (o := _) ?_ ?_
    · intro ac yw hsz hold hB hp K hK
      have t104 : ac.tmps[104]? = some (.bool true) := (List.cons.inj (hp 54 (by decide))).1
      rw [if_pos (wanted_pos rfl rfl t104)]
      obtain ⟨x156_56, n156_56, c156_56, m156_56, y156_56, o156_56, d156_56, e56, g56_0⟩ := hp 56 (by decide)
      have t106 : ac.tmps[106]? = some (.agg #[.slice x156_56 n156_56 c156_56, .bool m156_56, .slice y156_56 o156_56 d156_56]) := (List.cons.inj e56).1
      clear hold hp hsz e56
      go_simp
      (go_at_call 12; (with_reducible refine (NM.out _ _ _ _ _ _ _ _ g56_0).mono ?_); rintro e wz ⟨rfl, hbz⟩)
      exact hK.out _ _ ⟨hB.go hbz, rfl, hbz.size, .inl hbz, fun h => absurd h (by decide)⟩
    refine Stps2.cons (o := _) ?_ ?_
    · intro ac yw hsz hold hB hp K hK
      have t104 : ac.tmps[104]? = some (.bool true) := (List.cons.inj (hp 54 (by decide))).1
      rw [if_pos (wanted_pos rfl rfl t104)]
      have t3 : ac.tmps[3]? = some (.pointer (some ⟨w.heap.size, 0, none⟩)) := hold 3 (by kernel_rfl)
      clear hold hp hsz
      have v0 := hB.now.2.1.cell
      have v1 := hB.now.2.1.cell1
      have v2 := hB.now.2.1.cell2
      have v3 := hB.now.2.2.1.cell
      have v4 := hB.now.2.2.1.cell1
      have v5 := hB.now.2.2.1.cell2
      have v6 := hB.now.2.2.2.2.1.cell
      have v7 := hB.now.2.2.2.2.1.cell1
      have v8 := hB.now.2.2.2.2.1.cell2
      have v9 := hB.now.2.2.2.2.2.2.1.cell
      have v10 := hB.now.2.2.2.2.2.2.1.cell1
      have v11 := hB.now.2.2.2.2.2.2.1.cell2
      have v12 := hB.now.2.2.2.2.2.2.2.2.2.2.1.cell
      have v13 := hB.now.2.2.2.2.2.2.2.2.2.2.1.cell1
      have v14 := hB.now.2.2.2.2.2.2.2.2.2.2.1.cell2
      go_simp
      exact hK.out _ _ ⟨hB, rfl, Nat.le_refl _, .inl (Below.refl _ _), fun h => absurd h (by decide)⟩
    refine Stps2.cons (o := _) ?_ ?_
    · intro ac yw hsz hold hB hp K hK
      have t104 : ac.tmps[104]? = some (.bool true) := (List.cons.inj (hp 54 (by decide))).1
      rw [if_pos (wanted_pos rfl rfl t104)]
      have e57 := hp 57 (by decide)
      have t107 : ac.tmps[107]? = some (.agg #[.bool pb, .string ps, .string q]) := (List.cons.inj e57).1
      have e58 := hp 58 (by decide)
      have t108 : ac.tmps[108]? = some (.agg #[.bool pb, .string ps, .string q]) := (List.cons.inj e58).1
      clear hold hp hsz e57 e58
      go_simp
      exact hK.out _ _ ⟨hB, rfl, Nat.le_refl _, .inl (Below.refl _ _), fun h => absurd h (by decide)⟩
    refine Stps2.cons (o := _) ?_ ?_
    · intro ac yw hsz hold hB hp K hK
      have e54 := hp 54 (by decide)
      have t104 : ac.tmps[104]? = some (.bool true) := (List.cons.inj e54).1
      have e59 := hp 59 (by decide)
      have t109 : ac.tmps[109]? = some (.bool true) := (List.cons.inj e59).1
      clear hold hp hsz e54 e59
      go_simp
      exact hK.out _ _ ⟨hB, rfl, Nat.le_refl _, .inl (Below.refl _ _), fun h => absurd h (by decide)⟩
    refine Stps2.cons (o := _) ?_ ?_
    · intro ac yw hsz hold hB hp K hK
      have e60 := hp 60 (by decide)
      have t110 : ac.tmps[110]? = some (.bool true) := (List.cons.inj e60).1
      clear hold hp hsz e60
      go_simp
      exact hK.out _ _ ⟨hB, rfl, Nat.le_refl _, .inl (Below.refl _ _), fun h => absurd h (by decide)⟩
    refine Stps2.cons (o := _) ?_ ?_
    · intro ac yw hsz hold hB hp K hK
      have t111 : ac.tmps[111]? = some (.bool true) := (List.cons.inj (hp 61 (by decide))).1
      rw [if_pos (wanted_pos rfl rfl t111)]
      clear hold hp hsz
      go_simp
      (go_at_call 5; refine (awake3_any _).mono ?_; rintro e wz ⟨rfl, hbz⟩)
      exact hK.out _ _ ⟨hB.go hbz, rfl, hbz.size, .inl hbz, fun h => absurd h (by decide)⟩
    refine Stps2.cons (o := _) ?_ ?_
    · intro ac yw hsz hold hB hp K hK
      have e61 := hp 61 (by decide)
      have t111 : ac.tmps[111]? = some (.bool true) := (List.cons.inj e61).1
      have e62 := hp 62 (by decide)
      have t112 : ac.tmps[112]? = some (.bool true) := (List.cons.inj e62).1
      clear hold hp hsz e61 e62
      go_simp
      exact hK.out _ _ ⟨hB, rfl, Nat.le_refl _, .inl (Below.refl _ _), fun h => absurd h (by decide)⟩
    refine Stps2.cons (o := _) ?_ ?_
    · intro ac yw hsz hold hB hp K hK
      have e63 := hp 63 (by decide)
      have t113 : ac.tmps[113]? = some (.bool true) := (List.cons.inj e63).1
      clear hold hp hsz e63
      go_simp
      exact hK.out _ _ ⟨hB, rfl, Nat.le_refl _, .inl (Below.refl _ _), fun h => absurd h (by decide)⟩
    exact Stps2.nil _
  refine Stps2.cons (o := _) ?_ ?_
  · intro ac yw hsz hold hB hp K hK
    have t7 : ac.tmps[7]? = some (.pointer (some ⟨w1.heap.size, 0, none⟩)) := hold 7 (by kernel_rfl)
    clear hold hp hsz
    have v0 := hB.now.1.cell
    have v1 := hB.now.1.cell1
    have v2 := hB.now.1.cell2
    have v3 := hB.now.2.2.1.cell
    have v4 := hB.now.2.2.1.cell1
    have v5 := hB.now.2.2.1.cell2
    have v6 := hB.now.2.2.2.2.1.cell
    have v7 := hB.now.2.2.2.2.1.cell1
    have v8 := hB.now.2.2.2.2.1.cell2
    go_simp
    exact hK.out _ _ ⟨hB, rfl, Nat.le_refl _, .inl (Below.refl _ _), fun h => absurd h (by decide)⟩
  refine Stps2.cons (o := _) ?_ ?_
  · intro ac yw hsz hold hB hp K hK
    have t9 : ac.tmps[9]? = some (.pointer (some ⟨w2.heap.size, 0, none⟩)) := hold 9 (by kernel_rfl)
    clear hold hp hsz
    have v0 := hB.now.1.cell
    have v1 := hB.now.1.cell1
    have v2 := hB.now.1.cell2
    have v3 := hB.now.2.2.1.cell
    have v4 := hB.now.2.2.1.cell1
    have v5 := hB.now.2.2.1.cell2
    have v6 := hB.now.2.2.2.2.1.cell
    have v7 := hB.now.2.2.2.2.1.cell1
    have v8 := hB.now.2.2.2.2.1.cell2
    go_simp
    exact hK.out _ _ ⟨hB, rfl, Nat.le_refl _, .inl (Below.refl _ _), fun h => absurd h (by decide)⟩
  refine Stps2.cons (o := _) ?_ ?_
  · intro ac yw hsz hold hB hp K hK
    have e1 := hp 1 (by decide)
    have t43 : ac.tmps[43]? = some (.agg #[.slice d k l, .bool v, .slice d2 k2 l2]) := (List.cons.inj e1).1
    clear hold hp hsz e1
    have hbz : Below yw.heap.size yw (yw.alloc (.cells #[.slice d k l, .bool v, .slice d2 k2 l2] 30)) ∧ yw.heap.size < (yw.alloc (.cells #[.slice d k l, .bool v, .slice d2 k2 l2] 30)).heap.size := ⟨(Below.refl _ _).alloc (Nat.le_refl _) _, by simp⟩
    have hra := RatsAt.old1 (wk := yw) (t := 30) (Below.refl _ _) rfl (RatAt.below (hB.now.2.2.2.1) hbz.1)
    go_simp
    exact hK.out _ _ ⟨hB.alloc _, Exists.intro yw.heap.size (And.intro rfl hra), Nat.le_of_lt hbz.2, .inl hbz.1, fun _ => ⟨_, rfl, Nat.le_refl _, hbz.2⟩⟩
  refine Stps2.cons (o := _) ?_ ?_
  · intro ac yw hsz hold hB hp K hK
    have e0 := hp 0 (by decide)
    have t42 : ac.tmps[42]? = some (.agg #[.slice a n c, .bool m, .slice a2 n2 c2]) := (List.cons.inj e0).1
    obtain ⟨k2_2, e2, g2_0⟩ := hp 2 (by decide)
    have t44 : ac.tmps[44]? = some (.slice (some ⟨k2_2, 0, none⟩) 1 1) := (List.cons.inj e2).1
    clear hold hp hsz e0 e2
    go_simp
    (go_at_call 6; (with_reducible refine (TM.out _ _ _ _ _ _ _ _ _ hB.now.2.2.2.2.2.1 g2_0).mono ?_); rintro e wz ⟨x103, n103, c103, m103, y103, o103, d103, rfl, h3_0, hbz⟩)
    exact hK.out _ _ ⟨hB.go hbz, Exists.intro x103 (Exists.intro n103 (Exists.intro c103 (Exists.intro m103 (Exists.intro y103 (Exists.intro o103 (Exists.intro d103 (And.intro rfl h3_0))))))), hbz.size, .inl hbz, fun h => absurd h (by decide)⟩
  refine Stps2.cons (o := _) ?_ ?_
  · intro ac yw hsz hold hB hp K hK
    have t9 : ac.tmps[9]? = some (.pointer (some ⟨w2.heap.size, 0, none⟩)) := hold 9 (by kernel_rfl)
    clear hold hp hsz
    have v0 := hB.now.1.cell
    have v1 := hB.now.1.cell1
    have v2 := hB.now.1.cell2
    have v3 := hB.now.2.2.1.cell
    have v4 := hB.now.2.2.1.cell1
    have v5 := hB.now.2.2.1.cell2
    have v6 := hB.now.2.2.2.2.1.cell
    have v7 := hB.now.2.2.2.2.1.cell1
    have v8 := hB.now.2.2.2.2.1.cell2
    go_simp
    exact hK.out _ _ ⟨hB, rfl, Nat.le_refl _, .inl (Below.refl _ _), fun h => absurd h (by decide)⟩
  refine Stps2.cons (o := _) ?_ ?_
  · intro ac yw hsz hold hB hp K hK
    obtain ⟨x103_3, n103_3, c103_3, m103_3, y103_3, o103_3, d103_3, e3, g3_0⟩ := hp 3 (by decide)
    have t45 : ac.tmps[45]? = some (.agg #[.slice x103_3 n103_3 c103_3, .bool m103_3, .slice y103_3 o103_3 d103_3]) := (List.cons.inj e3).1
    have e4 := hp 4 (by decide)
    have t46 : ac.tmps[46]? = some (.agg #[.slice d k l, .bool v, .slice d2 k2 l2]) := (List.cons.inj e4).1
    clear hold hp hsz e3 e4
    go_simp
    (go_at_call 7; (with_reducible refine (BY.out _ _ _ _ _ _ _ _ _ _ _ _ _ _ _ g3_0 hB.now.2.2.2.1).mono ?_); rintro e wz ⟨x105, n105, c105, m105, y105, o105, d105, rfl, h5_0, hbz⟩)
    exact hK.out _ _ ⟨hB.go hbz, Exists.intro x105 (Exists.intro n105 (Exists.intro c105 (Exists.intro m105 (Exists.intro y105 (Exists.intro o105 (Exists.intro d105 (And.intro rfl h5_0))))))), hbz.size, .inl hbz, fun h => absurd h (by decide)⟩
  refine Stps2.cons (o := _) ?_ ?_
  · intro ac yw hsz hold hB hp K hK
    obtain ⟨x105_5, n105_5, c105_5, m105_5, y105_5, o105_5, d105_5, e5, g5_0⟩ := hp 5 (by decide)
    have t47 : ac.tmps[47]? = some (.tuple #[.agg #[.slice x105_5 n105_5 c105_5, .bool m105_5, .slice y105_5 o105_5 d105_5], .bool true]) := (List.cons.inj e5).1
    clear hold hp hsz e5
    go_simp
    exact hK.out _ _ ⟨hB, Exists.intro x105_5 (Exists.intro n105_5 (Exists.intro c105_5 (Exists.intro m105_5 (Exists.intro y105_5 (Exists.intro o105_5 (Exists.intro d105_5 (And.intro rfl g5_0))))))), Nat.le_refl _, .inl (Below.refl _ _), fun h => absurd h (by decide)⟩
  refine Stps2.cons (o := _) ?_ ?_
  · intro ac yw hsz hold hB hp K hK
    obtain ⟨x105_6, n105_6, c105_6, m105_6, y105_6, o105_6, d105_6, e6, g6_0⟩ := hp 6 (by decide)
    have t41 : ac.tmps[41]? = some (.tuple #[.agg #[.slice x105_6 n105_6 c105_6, .bool m105_6, .slice y105_6 o105_6 d105_6], .bool true]) := (List.cons.inj e6).1
    clear hold hp hsz e6
    go_simp
    exact hK.out _ _ ⟨hB, Exists.intro x105_6 (Exists.intro n105_6 (Exists.intro c105_6 (Exists.intro m105_6 (Exists.intro y105_6 (Exists.intro o105_6 (Exists.intro d105_6 (And.intro rfl g6_0))))))), Nat.le_refl _, .inl (Below.refl _ _), fun h => absurd h (by decide)⟩
  refine Stps2.cons (o := _) ?_ ?_
  · intro ac yw hsz hold hB hp K hK
    obtain ⟨x105_6, n105_6, c105_6, m105_6, y105_6, o105_6, d105_6, e6, g6_0⟩ := hp 6 (by decide)
    have t41 : ac.tmps[41]? = some (.tuple #[.agg #[.slice x105_6 n105_6 c105_6, .bool m105_6, .slice y105_6 o105_6 d105_6], .bool true]) := (List.cons.inj e6).1
    clear hold hp hsz e6
    go_simp
    exact hK.out _ _ ⟨hB, rfl, Nat.le_refl _, .inl (Below.refl _ _), fun h => absurd h (by decide)⟩
  refine Stps2.cons (o := _) ?_ ?_
  · intro ac yw hsz hold hB hp K hK
    clear hold hp hsz
    have hk0 := hB.now.1.lt
    have hsl := Slot3.new yw (.slice none 0 0) (.bool false) (.slice none 0 0) 30
    have hbz : Below yw.heap.size yw (yw.alloc (.cells #[.slice none 0 0, .bool false, .slice none 0 0] 30)) ∧ yw.heap.size < (yw.alloc (.cells #[.slice none 0 0, .bool false, .slice none 0 0] 30)).heap.size := ⟨(Below.refl _ _).alloc (Nat.le_refl _) _, by simp⟩
    go_simp
    exact hK.out _ _ ⟨hB.alloc _, Exists.intro yw.heap.size (Exists.intro none (Exists.intro 0 (Exists.intro 0 (Exists.intro false (Exists.intro none (Exists.intro 0 (Exists.intro 0 (And.intro rfl (And.intro hsl hk0))))))))), Nat.le_of_lt hbz.2, .inl hbz.1, fun _ => ⟨_, rfl, Nat.le_refl _, hbz.2⟩⟩
  refine Stps2.cons (o := _) ?_ ?_
  · intro ac yw hsz hold hB hp K hK
    obtain ⟨k9_9, x0_9, y0_9, z0_9, b0_9, x1_9, y1_9, z1_9, e9, g9_0, g9_1⟩ := hp 9 (by decide)
    have t13 : ac.tmps[13]? = some (.pointer (some ⟨k9_9, 0, none⟩)) := (List.cons.inj e9).1
    obtain ⟨x105_7, n105_7, c105_7, m105_7, y105_7, o105_7, d105_7, e7, g7_0⟩ := hp 7 (by decide)
    have t48 : ac.tmps[48]? = some (.agg #[.slice x105_7 n105_7 c105_7, .bool m105_7, .slice y105_7 o105_7 d105_7]) := (List.cons.inj e7).1
    clear hold hp hsz e9 e7
    have hs := g9_0
    have l0 := hs.cell
    have l1 := hs.cell1
    have l2 := hs.cell2
    have f0 := hs.free
    have f1 := hs.free1
    have f2 := hs.free2
    have HB := HP.out _ _ hs g9_1 hB x105_7 n105_7 c105_7 m105_7 y105_7 o105_7 d105_7
    go_simp
    refine hK.out undef _ ⟨HB, Exists.intro k9_9 (Exists.intro x105_7 (Exists.intro n105_7 (Exists.intro c105_7 (Exists.intro m105_7 (Exists.intro y105_7 (Exists.intro o105_7 (Exists.intro d105_7 (And.intro (congrArg (fun x => [x]) t13) (And.intro (hs.set3 (.slice x105_7 n105_7 c105_7) (.bool m105_7) (.slice y105_7 o105_7 d105_7)) (RatAt.set3 g7_0 hs _ _ _)))))))))), by simp, .inr ?_, fun h => absurd h (by decide)⟩
    intro jj hj hap h
    match jj, h with
    | 0, h => exact h
    | 1, h => exact h
    | 2, ⟨k2, e2, g2_0⟩ =>
      have hne : k2 ≠ k9_9 := fun e => hap 9 (by decide) 2 (by decide) (by decide) (by decide) (by decide) k9_9 ⟨13, _, rfl, t13, rfl⟩ ⟨44, _, rfl, (List.cons.inj e2).1, congrArg some e⟩
      exact Exists.intro k2 (And.intro e2 (RatsAt.set3o g2_0 hne hs _ _ _))
    | 3, ⟨x103, n103, c103, m103, y103, o103, d103, e3, g3_0⟩ =>
      exact Exists.intro x103 (Exists.intro n103 (Exists.intro c103 (Exists.intro m103 (Exists.intro y103 (Exists.intro o103 (Exists.intro d103 (And.intro e3 (RatAt.set3 g3_0 hs _ _ _))))))))
    | 4, h => exact h
    | 5, ⟨x105, n105, c105, m105, y105, o105, d105, e5, g5_0⟩ =>
      exact Exists.intro x105 (Exists.intro n105 (Exists.intro c105 (Exists.intro m105 (Exists.intro y105 (Exists.intro o105 (Exists.intro d105 (And.intro e5 (RatAt.set3 g5_0 hs _ _ _))))))))
    | 6, ⟨x105, n105, c105, m105, y105, o105, d105, e6, g6_0⟩ =>
      exact Exists.intro x105 (Exists.intro n105 (Exists.intro c105 (Exists.intro m105 (Exists.intro y105 (Exists.intro o105 (Exists.intro d105 (And.intro e6 (RatAt.set3 g6_0 hs _ _ _))))))))
    | 7, ⟨x105, n105, c105, m105, y105, o105, d105, e7, g7_0⟩ =>
      exact Exists.intro x105 (Exists.intro n105 (Exists.intro c105 (Exists.intro m105 (Exists.intro y105 (Exists.intro o105 (Exists.intro d105 (And.intro e7 (RatAt.set3 g7_0 hs _ _ _))))))))
    | 8, h => exact h
    | 9, ⟨k9, x0, y0, z0, b0, x1, y1, z1, e9, g9_0, g9_1⟩ =>
      have e9 : k9 = k9_9 := by have := (List.cons.inj e9).1.symm.trans t13; cases this; rfl
      subst e9
      exact Exists.intro _ (Exists.intro _ (Exists.intro _ (Exists.intro _ (Exists.intro _ (Exists.intro _ (Exists.intro _ (Exists.intro _ (And.intro e9 (And.intro (g9_0.set3 _ _ _) g9_1)))))))))
    | 10, _ => exact absurd rfl hj
    | 11, h => exact h
    | _ + 12, h => exact h
  refine Stps2.cons (o := _) ?_ ?_
  · intro ac yw hsz hold hB hp K hK
    have e8 := hp 8 (by decide)
    have t49 : ac.tmps[49]? = some (.bool true) := (List.cons.inj e8).1
    clear hold hp hsz e8
    go_simp
    exact hK.out _ _ ⟨hB, rfl, Nat.le_refl _, .inl (Below.refl _ _), fun h => absurd h (by decide)⟩
  exact Stps2.nil _

set_option linter.unusedSimpArgs false in
set_option maxHeartbeats 12800000 in
set_option maxRecDepth 100000 in
theorem ratioBack_yes0 (b : Bool) (s t : ByteArray) (b' : Bool) (s' t' : ByteArray) (b'' : Bool) (s'' t'' : ByteArray) (w : World) (h : rd3 b s t = true) (h' : rd3 b' s' t' = true) (h'' : rd3 b'' s'' t'' = true) (hz : ofP b' s' t' = 0) :
    Calls Tryz.prog 3 #[.agg #[.bool b, .string s, .string t], .agg #[.bool b', .string s', .string t'], .agg #[.bool b'', .string s'', .string t'']] w fun e w' => e = .returned (.bool true) ∧ Below w.heap.size w w' := by
  have R1 := Lib.hid (fun wz => read3_yes b s t wz h)
  have R2 := Lib.hid (fun wz => read3_yes b' s' t' wz h')
  have R3 := Lib.hid (fun wz => read3_yes b'' s'' t'' wz h'')
  unfold RatTold3 at R1 R2 R3
  obtain ⟨e1, e2, e3, hQ, hcop, hd1, hd2, hk1, hk2⟩ := rd3_spec h
  obtain ⟨f1, f2, f3, hQ', _, hd3, hd4, hk3, hk4⟩ := rd3_spec h'
  obtain ⟨g1, g2, g3, hG, _, hd5, hd6, hk5, hk6⟩ := rd3_spec h''
  clear h h' h''
  generalize ofP b s t = P at *
  generalize ofQ b s t = Q at *
  generalize ofP b' s' t' = P' at *
  generalize ofQ b' s' t' = Q' at *
  generalize ofP b'' s'' t'' = F at *
  generalize ofQ b'' s'' t'' = G at *
  subst e1 e2 e3 f1 f2 f3 g1 g2 g3
  have BB := Lib.hid ((((Bag.start w).box3 (.bool (rB P)) (.string (rS P)) (.string (str (dec Q))) 23).box3 (.bool (rB P')) (.string (rS P')) (.string (str (dec Q'))) 23).box3 (.bool (rB F)) (.string (rS F)) (.string (str (dec G))) 23)
  simp only [World.size_alloc] at BB
  have up : ∀ x a b : Nat, a ≤ b → x < (4294967296 : Nat) ^ a → x < 4294967296 ^ b := fun x a b h g => Nat.lt_of_lt_of_le g (Nat.pow_le_pow_right (by omega) h)
  obtain ⟨hT1, hT2⟩ := tm_lim hk1 hk2 hk3 hk4
  have hT0 := tmQ_pos P P' hQ hQ'
  obtain ⟨hU1, hU2⟩ := pl_lim hk1 hk2 hk3 hk4
  have hU0 := pl_pos P P' hQ hQ'
  obtain ⟨hL1, hL2⟩ := tm_lim hU1 hU2 (up _ _ 13 (by omega) hk5) (up _ _ 13 (by omega) hk6)
  have hL0 := tmQ_pos (plP P Q P' Q') F hU0 hG
  obtain ⟨hA1, hA2⟩ := tm_lim hk1 hk2 hk5 hk6
  have hA0 := tmQ_pos P F hQ hG
  obtain ⟨hB1, hB2⟩ := tm_lim hk3 hk4 hk5 hk6
  have hB0 := tmQ_pos P' F hQ' hG
  obtain ⟨hR1, hR2⟩ := pl_lim hA1 hA2 hB1 hB2
  have hR0 := pl_pos (tmP P Q F G) (tmP P' Q' F G) hA0 hB0
  have hn3 : (-P').natAbs < 4294967296 ^ 6 := by rw [Int.natAbs_neg]; exact hk3
  obtain ⟨hS1, hS2⟩ := pl_lim hU1 hU2 (up _ _ 13 (by omega) hn3) (up _ _ 13 (by omega) hk4)
  have hS0 := pl_pos (plP P Q P' Q') (-P') hU0 hQ'
  have TM := Lib.hid (fun a n c m a2 n2 c2 sa wz (h : RatAt wz a n c m a2 n2 c2 P Q) (g : RatsAt wz sa 1 1 (fun _ => P') (fun _ => Q')) => ratTimes1_any a n c m a2 n2 c2 P Q sa P' Q' wz h g hQ hQ' 6 (by omega) hk1 hk2 hk3 hk4)
  have BY := Lib.hid (fun a n c m a2 n2 c2 d k l v d2 k2 l2 wz h g => by_any a n c m a2 n2 c2 (tmP P Q P' Q') (tmQ P Q P' Q') d k l v d2 k2 l2 P' Q' wz h g hT0 hQ' 12 (by omega) hT1 hT2 (up _ _ 12 (by omega) hk3) (up _ _ 12 (by omega) hk4))
  rw [show dvP (tmP P Q P' Q') (tmQ P Q P' Q') P' Q' = 0 by unfold dvP; rw [if_pos hz], show dvQ (tmP P Q P' Q') (tmQ P Q P' Q') P' Q' = 1 by unfold dvQ; rw [if_pos hz], decide_eq_true hz, Bool.not_true] at BY
  unfold RatTold3 at BY
  have NM := Lib.hid (fun a n c m a2 n2 c2 wz hz => num_any a n c m a2 n2 c2 P Q wz hz hQ 6 (by omega) hk1 hk2)
  unfold NumTold at NM
  have SG := Lib.hid (fun a n c m a2 n2 c2 wz hz => ratSign_any a n c m a2 n2 c2 P' Q' wz hz)
  have MN := Lib.hid (fun a n c m a2 n2 c2 wz hz => ratMinus_any a n c m a2 n2 c2 P' Q' wz hz)
  have PT := Lib.hid (fun a n c m a2 n2 c2 sa wz (h : RatAt wz a n c m a2 n2 c2 P Q) (g : RatsAt wz sa 2 2 (twoP P' (-P')) (twoQ Q' Q')) => ratPlus_any a n c m a2 n2 c2 P Q sa 2 2 (twoP P' (-P')) (twoQ Q' Q') wz h g hQ (fun j _ => by unfold twoQ; split <;> exact hQ') 13 (by omega)
    (fun k hk => by
      rcases (by omega : k = 0 ∨ k = 1) with rfl | rfl
      · exact ⟨up _ _ 13 (by omega) hk1, up _ _ 13 (by omega) hk2, up _ _ 13 (by omega) hk3, up _ _ 13 (by omega) hk4⟩
      · exact ⟨hU1, hU2, up _ _ 13 (by omega) hn3, up _ _ 13 (by omega) hk4⟩))
  rw [show (sumS P Q (twoP P' (-P')) (twoQ Q' Q') 2).1 = plP (plP P Q P' Q') (plQ P Q P' Q') (-P') Q' from rfl, show (sumS P Q (twoP P' (-P')) (twoQ Q' Q') 2).2 = plQ (plP P Q P' Q') (plQ P Q P' Q') (-P') Q' from rfl] at PT
  have C1 := Lib.hid (fun a n c m a2 n2 c2 d k l v d2 k2 l2 wz h g => ratCmp_any a n c m a2 n2 c2 (plP (plP P Q P' Q') (plQ P Q P' Q') (-P') Q') (plQ (plP P Q P' Q') (plQ P Q P' Q') (-P') Q') d k l v d2 k2 l2 P Q wz h g hS0 hQ 27 (by omega) hS1 hS2 (up _ _ 27 (by omega) hk1) (up _ _ 27 (by omega) hk2))
  rw [sum_back hQ hQ', cmpZ_self] at C1
  have PL := Lib.hid (fun a n c m a2 n2 c2 sa wz (h : RatAt wz a n c m a2 n2 c2 P Q) (g : RatsAt wz sa 1 1 (fun _ => P') (fun _ => Q')) => ratPlus1_any a n c m a2 n2 c2 P Q sa P' Q' wz h g hQ hQ' 6 (by omega) hk1 hk2 hk3 hk4)
  have TL := Lib.hid (fun a n c m a2 n2 c2 sa wz (h : RatAt wz a n c m a2 n2 c2 (plP P Q P' Q') (plQ P Q P' Q')) (g : RatsAt wz sa 1 1 (fun _ => F) (fun _ => G)) => ratTimes1_any a n c m a2 n2 c2 _ _ sa F G wz h g hU0 hG 13 (by omega) hU1 hU2 (up _ _ 13 (by omega) hk5) (up _ _ 13 (by omega) hk6))
  have TA := Lib.hid (fun a n c m a2 n2 c2 sa wz (h : RatAt wz a n c m a2 n2 c2 P Q) (g : RatsAt wz sa 1 1 (fun _ => F) (fun _ => G)) => ratTimes1_any a n c m a2 n2 c2 P Q sa F G wz h g hQ hG 6 (by omega) hk1 hk2 hk5 hk6)
  have TB := Lib.hid (fun a n c m a2 n2 c2 sa wz (h : RatAt wz a n c m a2 n2 c2 P' Q') (g : RatsAt wz sa 1 1 (fun _ => F) (fun _ => G)) => ratTimes1_any a n c m a2 n2 c2 P' Q' sa F G wz h g hQ' hG 6 (by omega) hk3 hk4 hk5 hk6)
  have PR := Lib.hid (fun a n c m a2 n2 c2 sa wz (h : RatAt wz a n c m a2 n2 c2 (tmP P Q F G) (tmQ P Q F G)) (g : RatsAt wz sa 1 1 (fun _ => tmP P' Q' F G) (fun _ => tmQ P' Q' F G)) => ratPlus1_any a n c m a2 n2 c2 _ _ sa _ _ wz h g hA0 hB0 12 (by omega) hA1 hA2 hB1 hB2)
  have C2 := Lib.hid (fun a n c m a2 n2 c2 d k l v d2 k2 l2 wz h g => ratCmp_any a n c m a2 n2 c2 (tmP (plP P Q P' Q') (plQ P Q P' Q') F G) (tmQ (plP P Q P' Q') (plQ P Q P' Q') F G) d k l v d2 k2 l2 (plP (tmP P Q F G) (tmQ P Q F G) (tmP P' Q' F G) (tmQ P' Q' F G)) (plQ (tmP P Q F G) (tmQ P Q F G) (tmP P' Q' F G) (tmQ P' Q' F G)) wz h g hL0 hR0 26 (by omega) hL1 hL2 (up _ _ 26 (by omega) hR1) (up _ _ 26 (by omega) hR2))
  rw [dist_same hQ hQ' hG, cmpZ_self] at C2
  have P0 := Lib.hid (fun a n c m a2 n2 c2 wz h => ratPlus0_any a n c m a2 n2 c2 P Q wz h hQ)
  have T0 := Lib.hid (fun a n c m a2 n2 c2 wz h => ratTimes0_any a n c m a2 n2 c2 P Q wz h hQ)
  unfold RatTold at TM MN PT PL TL TA TB PR P0 T0
  generalize plP (tmP P Q F G) (tmQ P Q F G) (tmP P' Q' F G) (tmQ P' Q' F G) = R1P at *
  generalize plQ (tmP P Q F G) (tmQ P Q F G) (tmP P' Q' F G) (tmQ P' Q' F G) = R2P at *
  generalize tmP (plP P Q P' Q') (plQ P Q P' Q') F G = L1 at *
  generalize tmQ (plP P Q P' Q') (plQ P Q P' Q') F G = L2 at *
  generalize plP (plP P Q P' Q') (plQ P Q P' Q') (-P') Q' = S1 at *
  generalize plQ (plP P Q P' Q') (plQ P Q P' Q') (-P') Q' = S2 at *
  generalize plP P Q P' Q' = U1 at *
  generalize plQ P Q P' Q' = U2 at *
  generalize tmP P Q P' Q' = T1 at *
  generalize tmQ P Q P' Q' = T2 at *
  generalize tmP P Q F G = A1 at *
  generalize tmQ P Q F G = A2 at *
  generalize tmP P' Q' F G = B1 at *
  generalize tmQ P' Q' F G = B2 at *
  rw [show sgnI P' = 0 from of_decide_eq_true ((sgn0 P').trans (decide_eq_true hz))] at SG
  clear up hT1 hT2 hT0 hU1 hU2 hU0 hL1 hL2 hL0 hA1 hA2 hA0 hB1 hB2 hB0 hR1 hR2 hR0 hn3 hS1 hS2 hS0 hQ hQ' hG hcop hd1 hd2 hd3 hd4 hd5 hd6 hk1 hk2 hk3 hk4 hk5 hk6 hz
  generalize rB P = pb at *
  generalize rS P = ps at *
  generalize str (dec Q) = q at *
  generalize rB P' = pb' at *
  generalize rS P' = ps' at *
  generalize str (dec Q') = q' at *
  generalize rB F = pf at *
  generalize rS F = pg at *
  generalize str (dec G) = qf at *
  have q0 := BB.out.now.2.2.1.cell
  have q1 := BB.out.now.2.2.1.cell1
  have q2 := BB.out.now.2.2.1.cell2
  go_enter Tryz.func3, Tryz.ntmps3
  go_wp2_with fail
  go_at_call 4
  (with_reducible refine (R1.out _).mono ?_)
  rintro e w1 ⟨a, n, c, m, a2, n2, c2, rfl, hr1, hb1⟩
  have BB := Lib.hid (((BB.out.go hb1).rat hr1).box3 (.slice a n c) (.bool m) (.slice a2 n2 c2) 30)
  have j1 : w.heap.size + 1 + 1 < w1.heap.size := by have := hb1.size; simp only [World.size_alloc] at this; omega
  clear hr1 hb1 q0 q1 q2
  have q0 := BB.out.now.2.2.2.1.cell
  have q1 := BB.out.now.2.2.2.1.cell1
  have q2 := BB.out.now.2.2.2.1.cell2
  go_wp2_with fail
  go_at_call 4
  (with_reducible refine (R2.out _).mono ?_)
  rintro e w2 ⟨d, k, l, v, d2, k2, l2, rfl, hr2, hb2⟩
  have BB := Lib.hid (((BB.out.go hb2).rat hr2).box3 (.slice d k l) (.bool v) (.slice d2 k2 l2) 30)
  have j2 : w1.heap.size < w2.heap.size := by have := hb2.size; simp only [World.size_alloc] at this; omega
  clear hr2 hb2 q0 q1 q2
  have q0 := BB.out.now.2.2.2.2.1.cell
  have q1 := BB.out.now.2.2.2.2.1.cell1
  have q2 := BB.out.now.2.2.2.2.1.cell2
  go_wp2_with fail
  go_at_call 4
  (with_reducible refine (R3.out _).mono ?_)
  rintro e w3 ⟨g, i, j, u, g2, i2, j2, rfl, hr3, hb3⟩
  have BB := Lib.hid (((BB.out.go hb3).rat hr3).box3 (.slice g i j) (.bool u) (.slice g2 i2 j2) 30)
  have j3 : w2.heap.size < w3.heap.size := by have := hb3.size; simp only [World.size_alloc] at this; omega
  clear hr3 hb3 q0 q1 q2
  clear R1 R2 R3
  go_wp2_with fail
  have HP : Hid (∀ (y : World) (k9 : Nat) {x0 : Option Addr} {y0 z0 : Nat} {b0 : Bool} {x1 : Option Addr} {y1 z1 : Nat}, Slot3 y k9 (.slice x0 y0 z0) (.bool b0) (.slice x1 y1 z1) → w3.heap.size < k9 → Bag w (fun y => Slot3 y w3.heap.size (.slice g i j) (.bool u) (.slice g2 i2 j2) ∧ RatAt y g i j u g2 i2 j2 F G ∧ Slot3 y w2.heap.size (.slice d k l) (.bool v) (.slice d2 k2 l2) ∧ RatAt y d k l v d2 k2 l2 P' Q' ∧ Slot3 y w1.heap.size (.slice a n c) (.bool m) (.slice a2 n2 c2) ∧ RatAt y a n c m a2 n2 c2 P Q ∧ Slot3 y (w.heap.size + 1 + 1) (.bool pf) (.string pg) (.string qf) ∧ Slot3 y (w.heap.size + 1) (.bool pb') (.string ps') (.string q') ∧ Slot3 y w.heap.size (.bool pb) (.string ps) (.string q) ∧ True) y → ∀ (a9 : Option Addr) (n9 c9 : Nat) (m9 : Bool) (a10 : Option Addr) (n10 c10 : Nat), Bag w (fun y => Slot3 y w3.heap.size (.slice g i j) (.bool u) (.slice g2 i2 j2) ∧ RatAt y g i j u g2 i2 j2 F G ∧ Slot3 y w2.heap.size (.slice d k l) (.bool v) (.slice d2 k2 l2) ∧ RatAt y d k l v d2 k2 l2 P' Q' ∧ Slot3 y w1.heap.size (.slice a n c) (.bool m) (.slice a2 n2 c2) ∧ RatAt y a n c m a2 n2 c2 P Q ∧ Slot3 y (w.heap.size + 1 + 1) (.bool pf) (.string pg) (.string qf) ∧ Slot3 y (w.heap.size + 1) (.bool pb') (.string ps') (.string q') ∧ Slot3 y w.heap.size (.bool pb) (.string ps) (.string q) ∧ True) (((y.setCell ⟨k9, 0, none⟩ (.slice a9 n9 c9)).setCell ⟨k9, 1, none⟩ (.bool m9)).setCell ⟨k9, 2, none⟩ (.slice a10 n10 c10))) := by
    intro y k9 x0 y0 z0 b0 x1 y1 z1 s hk B a9 n9 c9 m9 a10 n10 c10
    have q := B.now
    exact ⟨((B.below.setCell (p := ⟨k9, 0, none⟩) (show w.heap.size ≤ k9 by omega) _).setCell (p := ⟨k9, 1, none⟩) (show w.heap.size ≤ k9 by omega) _).setCell (p := ⟨k9, 2, none⟩) (show w.heap.size ≤ k9 by omega) _, B.stay, q.1.set3o (by omega) _ _ _, q.2.1.set3 s _ _ _, q.2.2.1.set3o (by omega) _ _ _, q.2.2.2.1.set3 s _ _ _, q.2.2.2.2.1.set3o (by omega) _ _ _, q.2.2.2.2.2.1.set3 s _ _ _, q.2.2.2.2.2.2.1.set3o (by omega) _ _ _, q.2.2.2.2.2.2.2.1.set3o (by omega) _ _ _, q.2.2.2.2.2.2.2.2.1.set3o (by omega) _ _ _, trivial⟩
  refine wp_region_inv2 ⟨(fun j => ([[42], [43], [44], [45], [46], [47], [41], [48], [49], [13], [13], [14]] : List (List Nat)).getD j []), (fun j => ([[], [], [1], [0, 1, 2], [], [0, 1, 2, 3, 4], [0, 1, 2, 3, 4, 5], [0, 1, 2, 3, 4, 5, 6], [0, 1, 2, 3, 4, 5, 6], [], [0, 1, 2, 3, 4, 5, 6, 7, 9], [0, 1, 2, 3, 4, 5, 6, 7, 8, 9, 10]] : List (List Nat)).getD j []), [2, 9]⟩ (fun jj vv yy => match jj with | 0 => vv = [some (.agg #[.slice a n c, .bool m, .slice a2 n2 c2])] | 1 => vv = [some (.agg #[.slice d k l, .bool v, .slice d2 k2 l2])] | 2 => ∃ (k2 : Nat), vv = [some (.slice (some ⟨k2, 0, none⟩) 1 1)] ∧ RatsAt yy (some ⟨k2, 0, none⟩) 1 1 (fun _ => P') (fun _ => Q') | 3 => ∃ (x103 : Option Addr), ∃ (n103 : Nat), ∃ (c103 : Nat), ∃ (m103 : Bool), ∃ (y103 : Option Addr), ∃ (o103 : Nat), ∃ (d103 : Nat), vv = [some (.agg #[.slice x103 n103 c103, .bool m103, .slice y103 o103 d103])] ∧ RatAt yy x103 n103 c103 m103 y103 o103 d103 T1 T2 | 4 => vv = [some (.agg #[.slice d k l, .bool v, .slice d2 k2 l2])] | 5 => ∃ (x105 : Option Addr), ∃ (n105 : Nat), ∃ (c105 : Nat), ∃ (m105 : Bool), ∃ (y105 : Option Addr), ∃ (o105 : Nat), ∃ (d105 : Nat), vv = [some (.tuple #[.agg #[.slice x105 n105 c105, .bool m105, .slice y105 o105 d105], .bool false])] ∧ RatAt yy x105 n105 c105 m105 y105 o105 d105 0 1 | 6 => ∃ (x105 : Option Addr), ∃ (n105 : Nat), ∃ (c105 : Nat), ∃ (m105 : Bool), ∃ (y105 : Option Addr), ∃ (o105 : Nat), ∃ (d105 : Nat), vv = [some (.tuple #[.agg #[.slice x105 n105 c105, .bool m105, .slice y105 o105 d105], .bool false])] ∧ RatAt yy x105 n105 c105 m105 y105 o105 d105 0 1 | 7 => ∃ (x105 : Option Addr), ∃ (n105 : Nat), ∃ (c105 : Nat), ∃ (m105 : Bool), ∃ (y105 : Option Addr), ∃ (o105 : Nat), ∃ (d105 : Nat), vv = [some (.agg #[.slice x105 n105 c105, .bool m105, .slice y105 o105 d105])] ∧ RatAt yy x105 n105 c105 m105 y105 o105 d105 0 1 | 8 => vv = [some (.bool false)] | 9 => ∃ (k9 : Nat), ∃ (x0 : Option Addr), ∃ (y0 : Nat), ∃ (z0 : Nat), ∃ (b0 : Bool), ∃ (x1 : Option Addr), ∃ (y1 : Nat), ∃ (z1 : Nat), vv = [some (.pointer (some ⟨k9, 0, none⟩))] ∧ Slot3 yy k9 (.slice x0 y0 z0) (.bool b0) (.slice x1 y1 z1) ∧ w3.heap.size < k9 | 10 => ∃ (k9 : Nat), ∃ (x105 : Option Addr), ∃ (n105 : Nat), ∃ (c105 : Nat), ∃ (m105 : Bool), ∃ (y105 : Option Addr), ∃ (o105 : Nat), ∃ (d105 : Nat), vv = [some (.pointer (some ⟨k9, 0, none⟩))] ∧ Slot3 yy k9 (.slice x105 n105 c105) (.bool m105) (.slice y105 o105 d105) ∧ RatAt yy x105 n105 c105 m105 y105 o105 d105 0 1 | 11 => vv = [some (.bool false)] | _ => True) (Bag w (fun y => Slot3 y w3.heap.size (.slice g i j) (.bool u) (.slice g2 i2 j2) ∧ RatAt y g i j u g2 i2 j2 F G ∧ Slot3 y w2.heap.size (.slice d k l) (.bool v) (.slice d2 k2 l2) ∧ RatAt y d k l v d2 k2 l2 P' Q' ∧ Slot3 y w1.heap.size (.slice a n c) (.bool m) (.slice a2 n2 c2) ∧ RatAt y a n c m a2 n2 c2 P Q ∧ Slot3 y (w.heap.size + 1 + 1) (.bool pf) (.string pg) (.string qf) ∧ Slot3 y (w.heap.size + 1) (.bool pb') (.string ps') (.string q') ∧ Slot3 y w.heap.size (.bool pb) (.string ps) (.string q) ∧ True)) (by kernel_rfl) (by kernel_rfl) (by kernel_rfl) BB.out.drew ?_ ?_ ?_
  · intro jj vv yw yw2 hb h
    match jj, h with
    | 0, h => exact h
    | 1, h => exact h
    | 2, ⟨k2, e2, g2_0⟩ => exact Exists.intro k2 (And.intro e2 (g2_0.below hb))
    | 3, ⟨x103, n103, c103, m103, y103, o103, d103, e3, g3_0⟩ => exact Exists.intro x103 (Exists.intro n103 (Exists.intro c103 (Exists.intro m103 (Exists.intro y103 (Exists.intro o103 (Exists.intro d103 (And.intro e3 (g3_0.below hb))))))))
    | 4, h => exact h
    | 5, ⟨x105, n105, c105, m105, y105, o105, d105, e5, g5_0⟩ => exact Exists.intro x105 (Exists.intro n105 (Exists.intro c105 (Exists.intro m105 (Exists.intro y105 (Exists.intro o105 (Exists.intro d105 (And.intro e5 (g5_0.below hb))))))))
    | 6, ⟨x105, n105, c105, m105, y105, o105, d105, e6, g6_0⟩ => exact Exists.intro x105 (Exists.intro n105 (Exists.intro c105 (Exists.intro m105 (Exists.intro y105 (Exists.intro o105 (Exists.intro d105 (And.intro e6 (g6_0.below hb))))))))
    | 7, ⟨x105, n105, c105, m105, y105, o105, d105, e7, g7_0⟩ => exact Exists.intro x105 (Exists.intro n105 (Exists.intro c105 (Exists.intro m105 (Exists.intro y105 (Exists.intro o105 (Exists.intro d105 (And.intro e7 (g7_0.below hb))))))))
    | 8, h => exact h
    | 9, ⟨k9, x0, y0, z0, b0, x1, y1, z1, e9, g9_0, g9_1⟩ => exact Exists.intro k9 (Exists.intro x0 (Exists.intro y0 (Exists.intro z0 (Exists.intro b0 (Exists.intro x1 (Exists.intro y1 (Exists.intro z1 (And.intro e9 (And.intro (g9_0.below hb) g9_1)))))))))
    | 10, ⟨k9, x105, n105, c105, m105, y105, o105, d105, e10, g10_0, g10_1⟩ => exact Exists.intro k9 (Exists.intro x105 (Exists.intro n105 (Exists.intro c105 (Exists.intro m105 (Exists.intro y105 (Exists.intro o105 (Exists.intro d105 (And.intro e10 (And.intro (g10_0.below hb) (g10_1.below hb))))))))))
    | 11, h => exact h
    | _ + 12, h => exact h
  · intro ac yw hsz hdf hold hB hp
    obtain ⟨k9, x105, n105, c105, m105, y105, o105, d105, e10, sA, hr16⟩ := hp 10 (by decide)
    have t13 : ac.tmps[13]? = some (.pointer (some ⟨k9, 0, none⟩)) := (List.cons.inj e10).1
    have t14 : ac.tmps[14]? = some (.bool false) := (List.cons.inj (hp 11 (by decide))).1
    have t3 : ac.tmps[3]? = some (.pointer (some ⟨w.heap.size, 0, none⟩)) := hold 3 (by kernel_rfl)
    have t7 : ac.tmps[7]? = some (.pointer (some ⟨w1.heap.size, 0, none⟩)) := hold 7 (by kernel_rfl)
    have t9 : ac.tmps[9]? = some (.pointer (some ⟨w2.heap.size, 0, none⟩)) := hold 9 (by kernel_rfl)
    have t11 : ac.tmps[11]? = some (.pointer (some ⟨w3.heap.size, 0, none⟩)) := hold 11 (by kernel_rfl)
    clear hold hp e10
    obtain ⟨TV, hTV⟩ : ∃ TV : Nat → Value, ∀ i, (ac.tmps[i]?).getD undef = TV i := ⟨_, fun _ => rfl⟩
    have f3 := (hTV 3).symm.trans (congrArg (fun x => Option.getD x undef) t3)
    have f7 := (hTV 7).symm.trans (congrArg (fun x => Option.getD x undef) t7)
    have f9 := (hTV 9).symm.trans (congrArg (fun x => Option.getD x undef) t9)
    have f11 := (hTV 11).symm.trans (congrArg (fun x => Option.getD x undef) t11)
    have f13 := (hTV 13).symm.trans (congrArg (fun x => Option.getD x undef) t13)
    have f14 := (hTV 14).symm.trans (congrArg (fun x => Option.getD x undef) t14)
    have hac := act_eq (n := 114) hsz TV hTV
    rw [show ((List.range 114).map TV).toArray = #[TV 0, TV 1, TV 2, TV 3, TV 4, TV 5, TV 6, TV 7, TV 8, TV 9, TV 10, TV 11, TV 12, TV 13, TV 14, TV 15, TV 16, TV 17, TV 18, TV 19, TV 20, TV 21, TV 22, TV 23, TV 24, TV 25, TV 26, TV 27, TV 28, TV 29, TV 30, TV 31, TV 32, TV 33, TV 34, TV 35, TV 36, TV 37, TV 38, TV 39, TV 40, TV 41, TV 42, TV 43, TV 44, TV 45, TV 46, TV 47, TV 48, TV 49, TV 50, TV 51, TV 52, TV 53, TV 54, TV 55, TV 56, TV 57, TV 58, TV 59, TV 60, TV 61, TV 62, TV 63, TV 64, TV 65, TV 66, TV 67, TV 68, TV 69, TV 70, TV 71, TV 72, TV 73, TV 74, TV 75, TV 76, TV 77, TV 78, TV 79, TV 80, TV 81, TV 82, TV 83, TV 84, TV 85, TV 86, TV 87, TV 88, TV 89, TV 90, TV 91, TV 92, TV 93, TV 94, TV 95, TV 96, TV 97, TV 98, TV 99, TV 100, TV 101, TV 102, TV 103, TV 104, TV 105, TV 106, TV 107, TV 108, TV 109, TV 110, TV 111, TV 112, TV 113] from rfl, f3, f7, f9, f11, f13, f14, hdf] at hac
    simp only [Option.getD_some] at hac
    subst hac
    clear hTV f3 f7 f9 f11 f13 f14
    have BB := Lib.hid ((hB.slot3 sA).rat hr16)
    clear hB sA hr16 HP t3 t7 t9 t11 t13 t14 TM BY
    go_wp2_with fail
    try simp only [List.append]
    refine wp_region_inv2 ⟨(fun j => ([[50], [51], [52], [53], [54], [55], [56], [57], [58], [59], [60], [61], [62], [63], [64], [65], [66], [67], [68], [69], [], [], [], [], [74], [75], [76], [77], [78], [79], [80], [81], [82], [83], [84], [85], [86], [87], [88], [89], [90], [91], [92], [93], [94], [95], [96], [97], [98], [99], [100], [101], [102], [103], [104], [105], [106], [107], [108], [109], [110], [111], [112], [113], [6]] : List (List Nat)).getD j []), (fun j => ([[], [], [], [2], [1, 2, 3], [0, 1, 2, 3, 4], [], [0, 1, 2, 3, 4, 5, 6], [0, 1, 2, 3, 4, 5, 6, 7], [0, 1, 2, 3, 4, 5, 6, 7, 8], [0, 1, 2, 3, 4, 5, 6, 7, 8, 9], [0, 1, 2, 3, 4, 5, 6, 7, 8, 9], [0, 1, 2, 3, 4, 5, 6, 7, 8, 9, 11], [0, 1, 2, 3, 4, 5, 6, 7, 8, 9, 11, 12], [0, 1, 2, 3, 4, 5, 6, 7, 8, 9, 10, 11, 12, 13], [0, 1, 2, 3, 4, 5, 6, 7, 8, 9, 10, 11, 12, 13, 14], [0, 1, 2, 3, 4, 5, 6, 7, 8, 9, 10, 11, 12, 13, 14, 15], [0, 1, 2, 3, 4, 5, 6, 7, 8, 9, 10, 11, 12, 13, 14, 15, 16], [0, 1, 2, 3, 4, 5, 6, 7, 8, 9, 10, 11, 12, 13, 14, 15, 16, 17], [0, 1, 2, 3, 4, 5, 6, 7, 8, 9, 10, 11, 12, 13, 14, 15, 16, 17, 18], [0, 1, 2, 3, 4, 5, 6, 7, 8, 9, 10, 11, 12, 13, 14, 15, 16, 17, 18, 19], [0, 1, 2, 3, 4, 5, 6, 7, 8, 9, 10, 11, 12, 13, 14, 15, 16, 17, 18, 19, 20], [0, 1, 2, 3, 4, 5, 6, 7, 8, 9, 10, 11, 12, 13, 14, 15, 16, 17, 18, 19], [0, 1, 2, 3, 4, 5, 6, 7, 8, 9, 10, 11, 12, 13, 14, 15, 16, 17, 18, 19, 20, 21, 22], [0, 1, 2, 3, 4, 5, 6, 7, 8, 9, 10, 11, 12, 13, 14, 15, 16, 17, 18, 19, 20, 21, 22, 23], [0, 1, 2, 3, 4, 5, 6, 7, 8, 9, 10, 11, 12, 13, 14, 15, 16, 17, 18, 19, 20, 21, 22, 23, 24], [0, 1, 2, 3, 4, 5, 6, 7, 8, 9, 10, 11, 12, 13, 14, 15, 16, 17, 18, 19, 20, 21, 22, 23, 24, 25], [0, 1, 2, 3, 4, 5, 6, 7, 8, 9, 10, 11, 12, 13, 14, 15, 16, 17, 18, 19, 20, 21, 22, 23, 24, 25, 26], [0, 1, 2, 3, 4, 5, 6, 7, 8, 9, 10, 11, 12, 13, 14, 15, 16, 17, 18, 19, 20, 21, 22, 23, 24, 25, 26], [0, 1, 2, 3, 4, 5, 6, 7, 8, 9, 10, 11, 12, 13, 14, 15, 16, 17, 18, 19, 20, 21, 22, 23, 24, 25, 26, 28], [0, 1, 2, 3, 4, 5, 6, 7, 8, 9, 10, 11, 12, 13, 14, 15, 16, 17, 18, 19, 20, 21, 22, 23, 24, 25, 26, 27, 28, 29], [0, 1, 2, 3, 4, 5, 6, 7, 8, 9, 10, 11, 12, 13, 14, 15, 16, 17, 18, 19, 20, 21, 22, 23, 24, 25, 26], [0, 1, 2, 3, 4, 5, 6, 7, 8, 9, 10, 11, 12, 13, 14, 15, 16, 17, 18, 19, 20, 21, 22, 23, 24, 25, 26, 31], [0, 1, 2, 3, 4, 5, 6, 7, 8, 9, 10, 11, 12, 13, 14, 15, 16, 17, 18, 19, 20, 21, 22, 23, 24, 25, 26, 27, 28, 29, 30, 31, 32], [0, 1, 2, 3, 4, 5, 6, 7, 8, 9, 10, 11, 12, 13, 14, 15, 16, 17, 18, 19, 20, 21, 22, 23, 24, 25, 26], [0, 1, 2, 3, 4, 5, 6, 7, 8, 9, 10, 11, 12, 13, 14, 15, 16, 17, 18, 19, 20, 21, 22, 23, 24, 25, 26], [0, 1, 2, 3, 4, 5, 6, 7, 8, 9, 10, 11, 12, 13, 14, 15, 16, 17, 18, 19, 20, 21, 22, 23, 24, 25, 26, 35], [0, 1, 2, 3, 4, 5, 6, 7, 8, 9, 10, 11, 12, 13, 14, 15, 16, 17, 18, 19, 20, 21, 22, 23, 24, 25, 26, 27, 28, 29, 30, 31, 32, 33, 34, 35, 36], [0, 1, 2, 3, 4, 5, 6, 7, 8, 9, 10, 11, 12, 13, 14, 15, 16, 17, 18, 19, 20, 21, 22, 23, 24, 25, 26], [0, 1, 2, 3, 4, 5, 6, 7, 8, 9, 10, 11, 12, 13, 14, 15, 16, 17, 18, 19, 20, 21, 22, 23, 24, 25, 26], [0, 1, 2, 3, 4, 5, 6, 7, 8, 9, 10, 11, 12, 13, 14, 15, 16, 17, 18, 19, 20, 21, 22, 23, 24, 25, 26, 39], [0, 1, 2, 3, 4, 5, 6, 7, 8, 9, 10, 11, 12, 13, 14, 15, 16, 17, 18, 19, 20, 21, 22, 23, 24, 25, 26, 27, 28, 29, 30, 31, 32, 33, 34, 35, 36, 37, 38, 39, 40], [0, 1, 2, 3, 4, 5, 6, 7, 8, 9, 10, 11, 12, 13, 14, 15, 16, 17, 18, 19, 20, 21, 22, 23, 24, 25, 26, 27, 28, 29, 30, 31, 32, 33, 34, 35, 36, 37, 38, 39, 40, 41], [0, 1, 2, 3, 4, 5, 6, 7, 8, 9, 10, 11, 12, 13, 14, 15, 16, 17, 18, 19, 20, 21, 22, 23, 24, 25, 26, 27, 28, 29, 30, 31, 32, 33, 34, 35, 36, 37, 38, 39, 40, 41, 42], [0, 1, 2, 3, 4, 5, 6, 7, 8, 9, 10, 11, 12, 13, 14, 15, 16, 17, 18, 19, 20, 21, 22, 23, 24, 25, 26, 27, 28, 29, 30, 31, 32, 33, 34, 35, 36, 37, 38, 39, 40, 41, 42, 43], [0, 1, 2, 3, 4, 5, 6, 7, 8, 9, 10, 11, 12, 13, 14, 15, 16, 17, 18, 19, 20, 21, 22, 23, 24, 25, 26, 27, 28, 29, 30, 31, 32, 33, 34, 35, 36, 37, 38, 39, 40, 41, 42, 43, 44], [0, 1, 2, 3, 4, 5, 6, 7, 8, 9, 10, 11, 12, 13, 14, 15, 16, 17, 18, 19, 20, 21, 22, 23, 24, 25, 26, 27, 28, 29, 30, 31, 32, 33, 34, 35, 36, 37, 38, 39, 40, 41, 42, 43, 44, 45], [0, 1, 2, 3, 4, 5, 6, 7, 8, 9, 10, 11, 12, 13, 14, 15, 16, 17, 18, 19, 20, 21, 22, 23, 24, 25, 26, 27, 28, 29, 30, 31, 32, 33, 34, 35, 36, 37, 38, 39, 40, 41, 42, 43, 44, 45, 46], [0, 1, 2, 3, 4, 5, 6, 7, 8, 9, 10, 11, 12, 13, 14, 15, 16, 17, 18, 19, 20, 21, 22, 23, 24, 25, 26, 27, 28, 29, 30, 31, 32, 33, 34, 35, 36, 37, 38, 39, 40, 41, 42, 43, 44, 45, 46, 47], [0, 1, 2, 3, 4, 5, 6, 7, 8, 9, 10, 11, 12, 13, 14, 15, 16, 17, 18, 19, 20, 21, 22, 23, 24, 25, 26, 27, 28, 29, 30, 31, 32, 33, 34, 35, 36, 37, 38, 39, 40, 41, 42, 43, 44, 45, 46, 47, 48], [0, 1, 2, 3, 4, 5, 6, 7, 8, 9, 10, 11, 12, 13, 14, 15, 16, 17, 18, 19, 20, 21, 22, 23, 24, 25, 26, 27, 28, 29, 30, 31, 32, 33, 34, 35, 36, 37, 38, 39, 40, 41, 42, 43, 44, 45, 46, 47, 48, 49], [0, 1, 2, 3, 4, 5, 6, 7, 8, 9, 10, 11, 12, 13, 14, 15, 16, 17, 18, 19, 20, 21, 22, 23, 24, 25, 26, 27, 28, 29, 30, 31, 32, 33, 34, 35, 36, 37, 38, 39, 40, 41, 42, 43, 44, 45, 46, 47], [0, 1, 2, 3, 4, 5, 6, 7, 8, 9, 10, 11, 12, 13, 14, 15, 16, 17, 18, 19, 20, 21, 22, 23, 24, 25, 26, 27, 28, 29, 30, 31, 32, 33, 34, 35, 36, 37, 38, 39, 40, 41, 42, 43, 44, 45, 46, 47, 48, 49, 50, 51], [0, 1, 2, 3, 4, 5, 6, 7, 8, 9, 10, 11, 12, 13, 14, 15, 16, 17, 18, 19, 20, 21, 22, 23, 24, 25, 26, 27, 28, 29, 30, 31, 32, 33, 34, 35, 36, 37, 38, 39, 40, 41, 42, 43, 44, 45, 46, 47, 48, 49, 50, 51, 52], [0, 1, 2, 3, 4, 5, 6, 7, 8, 9, 10, 11, 12, 13, 14, 15, 16, 17, 18, 19, 20, 21, 22, 23, 24, 25, 26, 27, 28, 29, 30, 31, 32, 33, 34, 35, 36, 37, 38, 39, 40, 41, 42, 43, 44, 45, 46, 47, 48, 49, 50, 51, 52, 53], [0, 1, 2, 3, 4, 5, 6, 7, 8, 9, 10, 11, 12, 13, 14, 15, 16, 17, 18, 19, 20, 21, 22, 23, 24, 25, 26, 27, 28, 29, 30, 31, 32, 33, 34, 35, 36, 37, 38, 39, 40, 41, 42, 43, 44, 45, 46, 47, 48, 49, 50, 51, 52, 53, 54], [0, 1, 2, 3, 4, 5, 6, 7, 8, 9, 10, 11, 12, 13, 14, 15, 16, 17, 18, 19, 20, 21, 22, 23, 24, 25, 26, 27, 28, 29, 30, 31, 32, 33, 34, 35, 36, 37, 38, 39, 40, 41, 42, 43, 44, 45, 46, 47, 48, 49, 50, 51, 52, 53, 54, 55], [0, 1, 2, 3, 4, 5, 6, 7, 8, 9, 10, 11, 12, 13, 14, 15, 16, 17, 18, 19, 20, 21, 22, 23, 24, 25, 26, 27, 28, 29, 30, 31, 32, 33, 34, 35, 36, 37, 38, 39, 40, 41, 42, 43, 44, 45, 46, 47, 48, 49, 50, 51, 52, 53, 54, 55, 56], [0, 1, 2, 3, 4, 5, 6, 7, 8, 9, 10, 11, 12, 13, 14, 15, 16, 17, 18, 19, 20, 21, 22, 23, 24, 25, 26, 27, 28, 29, 30, 31, 32, 33, 34, 35, 36, 37, 38, 39, 40, 41, 42, 43, 44, 45, 46, 47, 48, 49, 50, 51, 52, 53, 54], [0, 1, 2, 3, 4, 5, 6, 7, 8, 9, 10, 11, 12, 13, 14, 15, 16, 17, 18, 19, 20, 21, 22, 23, 24, 25, 26, 27, 28, 29, 30, 31, 32, 33, 34, 35, 36, 37, 38, 39, 40, 41, 42, 43, 44, 45, 46, 47, 48, 49, 50, 51, 52, 53, 54, 55, 56, 57, 58], [0, 1, 2, 3, 4, 5, 6, 7, 8, 9, 10, 11, 12, 13, 14, 15, 16, 17, 18, 19, 20, 21, 22, 23, 24, 25, 26, 27, 28, 29, 30, 31, 32, 33, 34, 35, 36, 37, 38, 39, 40, 41, 42, 43, 44, 45, 46, 47, 48, 49, 50, 51, 52, 53, 54, 55, 56, 57, 58, 59], [0, 1, 2, 3, 4, 5, 6, 7, 8, 9, 10, 11, 12, 13, 14, 15, 16, 17, 18, 19, 20, 21, 22, 23, 24, 25, 26, 27, 28, 29, 30, 31, 32, 33, 34, 35, 36, 37, 38, 39, 40, 41, 42, 43, 44, 45, 46, 47, 48, 49, 50, 51, 52, 53, 54, 55, 56, 57, 58, 59, 60], [0, 1, 2, 3, 4, 5, 6, 7, 8, 9, 10, 11, 12, 13, 14, 15, 16, 17, 18, 19, 20, 21, 22, 23, 24, 25, 26, 27, 28, 29, 30, 31, 32, 33, 34, 35, 36, 37, 38, 39, 40, 41, 42, 43, 44, 45, 46, 47, 48, 49, 50, 51, 52, 53, 54, 55, 56, 57, 58, 59, 60, 61], [0, 1, 2, 3, 4, 5, 6, 7, 8, 9, 10, 11, 12, 13, 14, 15, 16, 17, 18, 19, 20, 21, 22, 23, 24, 25, 26, 27, 28, 29, 30, 31, 32, 33, 34, 35, 36, 37, 38, 39, 40, 41, 42, 43, 44, 45, 46, 47, 48, 49, 50, 51, 52, 53, 54, 55, 56, 57, 58, 59, 60, 61, 62], [0, 1, 2, 3, 4, 5, 6, 7, 8, 9, 10, 11, 12, 13, 14, 15, 16, 17, 18, 19, 20, 21, 22, 23, 24, 25, 26, 27, 28, 29, 30, 31, 32, 33, 34, 35, 36, 37, 38, 39, 40, 41, 42, 43, 44, 45, 46, 47, 48, 49, 50, 51, 52, 53, 54, 55, 56, 57, 58, 59, 60, 61, 62, 63]] : List (List Nat)).getD j []), [4, 29, 32, 36, 40, 42]⟩ (fun jj vv yy => match jj with | 0 => vv = [some (.agg #[.slice a n c, .bool m, .slice a2 n2 c2])] | 1 => vv = [some (.agg #[.slice d k l, .bool v, .slice d2 k2 l2])] | 2 => vv = [some (.agg #[.slice d k l, .bool v, .slice d2 k2 l2])] | 3 => ∃ (x103 : Option Addr), ∃ (n103 : Nat), ∃ (c103 : Nat), ∃ (m103 : Bool), ∃ (y103 : Option Addr), ∃ (o103 : Nat), ∃ (d103 : Nat), vv = [some (.agg #[.slice x103 n103 c103, .bool m103, .slice y103 o103 d103])] ∧ RatAt yy x103 n103 c103 m103 y103 o103 d103 (-P') Q' | 4 => ∃ (k4 : Nat), vv = [some (.slice (some ⟨k4, 0, none⟩) 2 2)] ∧ RatsAt yy (some ⟨k4, 0, none⟩) 2 2 (twoP P' (-P')) (twoQ Q' Q') | 5 => ∃ (x105 : Option Addr), ∃ (n105 : Nat), ∃ (c105 : Nat), ∃ (m105 : Bool), ∃ (y105 : Option Addr), ∃ (o105 : Nat), ∃ (d105 : Nat), vv = [some (.agg #[.slice x105 n105 c105, .bool m105, .slice y105 o105 d105])] ∧ RatAt yy x105 n105 c105 m105 y105 o105 d105 S1 S2 | 6 => vv = [some (.agg #[.slice a n c, .bool m, .slice a2 n2 c2])] | 7 => vv = [some (.int .i64 0)] | 8 => vv = [some (.bool true)] | 9 => vv = [some (.bool true)] | 10 => vv = [some (.bool false)] | 11 => vv = [some (.agg #[.slice d k l, .bool v, .slice d2 k2 l2])] | 12 => vv = [some (.int .i64 0)] | 13 => vv = [some (.bool false)] | 14 => vv = [some (.bool true)] | 15 => vv = [some (.bool true)] | 16 => vv = [some (.bool true)] | 17 => vv = [some (.bool false)] | 18 => vv = [some (.bool true)] | 19 => vv = [some (.bool true)] | 20 => True | 21 => True | 22 => True | 23 => True | 24 => vv = [some (.bool true)] | 25 => vv = [some (.bool true)] | 26 => vv = [some (.bool true)] | 27 => vv = [some (.agg #[.slice a n c, .bool m, .slice a2 n2 c2])] | 28 => vv = [some (.agg #[.slice d k l, .bool v, .slice d2 k2 l2])] | 29 => ∃ (k29 : Nat), vv = [some (.slice (some ⟨k29, 0, none⟩) 1 1)] ∧ RatsAt yy (some ⟨k29, 0, none⟩) 1 1 (fun _ => P') (fun _ => Q') | 30 => ∃ (x130 : Option Addr), ∃ (n130 : Nat), ∃ (c130 : Nat), ∃ (m130 : Bool), ∃ (y130 : Option Addr), ∃ (o130 : Nat), ∃ (d130 : Nat), vv = [some (.agg #[.slice x130 n130 c130, .bool m130, .slice y130 o130 d130])] ∧ RatAt yy x130 n130 c130 m130 y130 o130 d130 U1 U2 | 31 => vv = [some (.agg #[.slice g i j, .bool u, .slice g2 i2 j2])] | 32 => ∃ (k32 : Nat), vv = [some (.slice (some ⟨k32, 0, none⟩) 1 1)] ∧ RatsAt yy (some ⟨k32, 0, none⟩) 1 1 (fun _ => F) (fun _ => G) | 33 => ∃ (x133 : Option Addr), ∃ (n133 : Nat), ∃ (c133 : Nat), ∃ (m133 : Bool), ∃ (y133 : Option Addr), ∃ (o133 : Nat), ∃ (d133 : Nat), vv = [some (.agg #[.slice x133 n133 c133, .bool m133, .slice y133 o133 d133])] ∧ RatAt yy x133 n133 c133 m133 y133 o133 d133 L1 L2 | 34 => vv = [some (.agg #[.slice a n c, .bool m, .slice a2 n2 c2])] | 35 => vv = [some (.agg #[.slice g i j, .bool u, .slice g2 i2 j2])] | 36 => ∃ (k36 : Nat), vv = [some (.slice (some ⟨k36, 0, none⟩) 1 1)] ∧ RatsAt yy (some ⟨k36, 0, none⟩) 1 1 (fun _ => F) (fun _ => G) | 37 => ∃ (x137 : Option Addr), ∃ (n137 : Nat), ∃ (c137 : Nat), ∃ (m137 : Bool), ∃ (y137 : Option Addr), ∃ (o137 : Nat), ∃ (d137 : Nat), vv = [some (.agg #[.slice x137 n137 c137, .bool m137, .slice y137 o137 d137])] ∧ RatAt yy x137 n137 c137 m137 y137 o137 d137 A1 A2 | 38 => vv = [some (.agg #[.slice d k l, .bool v, .slice d2 k2 l2])] | 39 => vv = [some (.agg #[.slice g i j, .bool u, .slice g2 i2 j2])] | 40 => ∃ (k40 : Nat), vv = [some (.slice (some ⟨k40, 0, none⟩) 1 1)] ∧ RatsAt yy (some ⟨k40, 0, none⟩) 1 1 (fun _ => F) (fun _ => G) | 41 => ∃ (x141 : Option Addr), ∃ (n141 : Nat), ∃ (c141 : Nat), ∃ (m141 : Bool), ∃ (y141 : Option Addr), ∃ (o141 : Nat), ∃ (d141 : Nat), vv = [some (.agg #[.slice x141 n141 c141, .bool m141, .slice y141 o141 d141])] ∧ RatAt yy x141 n141 c141 m141 y141 o141 d141 B1 B2 | 42 => ∃ (k42 : Nat), vv = [some (.slice (some ⟨k42, 0, none⟩) 1 1)] ∧ RatsAt yy (some ⟨k42, 0, none⟩) 1 1 (fun _ => B1) (fun _ => B2) | 43 => ∃ (x143 : Option Addr), ∃ (n143 : Nat), ∃ (c143 : Nat), ∃ (m143 : Bool), ∃ (y143 : Option Addr), ∃ (o143 : Nat), ∃ (d143 : Nat), vv = [some (.agg #[.slice x143 n143 c143, .bool m143, .slice y143 o143 d143])] ∧ RatAt yy x143 n143 c143 m143 y143 o143 d143 R1P R2P | 44 => vv = [some (.int .i64 0)] | 45 => vv = [some (.bool true)] | 46 => vv = [some (.bool true)] | 47 => vv = [some (.bool true)] | 48 => vv = [some (.agg #[.slice a n c, .bool m, .slice a2 n2 c2])] | 49 => ∃ (x149 : Option Addr), ∃ (n149 : Nat), ∃ (c149 : Nat), ∃ (m149 : Bool), ∃ (y149 : Option Addr), ∃ (o149 : Nat), ∃ (d149 : Nat), vv = [some (.agg #[.slice x149 n149 c149, .bool m149, .slice y149 o149 d149])] ∧ RatAt yy x149 n149 c149 m149 y149 o149 d149 P Q | 50 => vv = [some (.agg #[.bool pb, .string ps, .string q])] | 51 => vv = [some (.agg #[.bool pb, .string ps, .string q])] | 52 => vv = [some (.bool true)] | 53 => vv = [some (.bool true)] | 54 => vv = [some (.bool true)] | 55 => vv = [some (.agg #[.slice a n c, .bool m, .slice a2 n2 c2])] | 56 => ∃ (x156 : Option Addr), ∃ (n156 : Nat), ∃ (c156 : Nat), ∃ (m156 : Bool), ∃ (y156 : Option Addr), ∃ (o156 : Nat), ∃ (d156 : Nat), vv = [some (.agg #[.slice x156 n156 c156, .bool m156, .slice y156 o156 d156])] ∧ RatAt yy x156 n156 c156 m156 y156 o156 d156 P Q | 57 => vv = [some (.agg #[.bool pb, .string ps, .string q])] | 58 => vv = [some (.agg #[.bool pb, .string ps, .string q])] | 59 => vv = [some (.bool true)] | 60 => vv = [some (.bool true)] | 61 => vv = [some (.bool true)] | 62 => vv = [some (.bool true)] | 63 => vv = [some (.bool true)] | 64 => vv = [some (.bool true)] | _ => True) (Bag w (fun y => RatAt y x105 n105 c105 m105 y105 o105 d105 0 1 ∧ Slot3 y k9 (.slice x105 n105 c105) (.bool m105) (.slice y105 o105 d105) ∧ Slot3 y w3.heap.size (.slice g i j) (.bool u) (.slice g2 i2 j2) ∧ RatAt y g i j u g2 i2 j2 F G ∧ Slot3 y w2.heap.size (.slice d k l) (.bool v) (.slice d2 k2 l2) ∧ RatAt y d k l v d2 k2 l2 P' Q' ∧ Slot3 y w1.heap.size (.slice a n c) (.bool m) (.slice a2 n2 c2) ∧ RatAt y a n c m a2 n2 c2 P Q ∧ Slot3 y (w.heap.size + 1 + 1) (.bool pf) (.string pg) (.string qf) ∧ Slot3 y (w.heap.size + 1) (.bool pb') (.string ps') (.string q') ∧ Slot3 y w.heap.size (.bool pb) (.string ps) (.string q) ∧ True)) (by kernel_rfl) (by kernel_rfl) (by kernel_rfl) BB.out.drew ?_ ?_ ?_
    · intro jj vv yw yw2 hb h
      match jj, h with
      | 0, h => exact h
      | 1, h => exact h
      | 2, h => exact h
      | 3, ⟨x103, n103, c103, m103, y103, o103, d103, e3, g3_0⟩ => exact Exists.intro x103 (Exists.intro n103 (Exists.intro c103 (Exists.intro m103 (Exists.intro y103 (Exists.intro o103 (Exists.intro d103 (And.intro e3 (g3_0.below hb))))))))
      | 4, ⟨k4, e4, g4_0⟩ => exact Exists.intro k4 (And.intro e4 (g4_0.below hb))
      | 5, ⟨x105, n105, c105, m105, y105, o105, d105, e5, g5_0⟩ => exact Exists.intro x105 (Exists.intro n105 (Exists.intro c105 (Exists.intro m105 (Exists.intro y105 (Exists.intro o105 (Exists.intro d105 (And.intro e5 (g5_0.below hb))))))))
      | 6, h => exact h
      | 7, h => exact h
      | 8, h => exact h
      | 9, h => exact h
      | 10, h => exact h
      | 11, h => exact h
      | 12, h => exact h
      | 13, h => exact h
      | 14, h => exact h
      | 15, h => exact h
      | 16, h => exact h
      | 17, h => exact h
      | 18, h => exact h
      | 19, h => exact h
      | 20, h => exact h
      | 21, h => exact h
      | 22, h => exact h
      | 23, h => exact h
      | 24, h => exact h
      | 25, h => exact h
      | 26, h => exact h
      | 27, h => exact h
      | 28, h => exact h
      | 29, ⟨k29, e29, g29_0⟩ => exact Exists.intro k29 (And.intro e29 (g29_0.below hb))
      | 30, ⟨x130, n130, c130, m130, y130, o130, d130, e30, g30_0⟩ => exact Exists.intro x130 (Exists.intro n130 (Exists.intro c130 (Exists.intro m130 (Exists.intro y130 (Exists.intro o130 (Exists.intro d130 (And.intro e30 (g30_0.below hb))))))))
      | 31, h => exact h
      | 32, ⟨k32, e32, g32_0⟩ => exact Exists.intro k32 (And.intro e32 (g32_0.below hb))
      | 33, ⟨x133, n133, c133, m133, y133, o133, d133, e33, g33_0⟩ => exact Exists.intro x133 (Exists.intro n133 (Exists.intro c133 (Exists.intro m133 (Exists.intro y133 (Exists.intro o133 (Exists.intro d133 (And.intro e33 (g33_0.below hb))))))))
      | 34, h => exact h
      | 35, h => exact h
      | 36, ⟨k36, e36, g36_0⟩ => exact Exists.intro k36 (And.intro e36 (g36_0.below hb))
      | 37, ⟨x137, n137, c137, m137, y137, o137, d137, e37, g37_0⟩ => exact Exists.intro x137 (Exists.intro n137 (Exists.intro c137 (Exists.intro m137 (Exists.intro y137 (Exists.intro o137 (Exists.intro d137 (And.intro e37 (g37_0.below hb))))))))
      | 38, h => exact h
      | 39, h => exact h
      | 40, ⟨k40, e40, g40_0⟩ => exact Exists.intro k40 (And.intro e40 (g40_0.below hb))
      | 41, ⟨x141, n141, c141, m141, y141, o141, d141, e41, g41_0⟩ => exact Exists.intro x141 (Exists.intro n141 (Exists.intro c141 (Exists.intro m141 (Exists.intro y141 (Exists.intro o141 (Exists.intro d141 (And.intro e41 (g41_0.below hb))))))))
      | 42, ⟨k42, e42, g42_0⟩ => exact Exists.intro k42 (And.intro e42 (g42_0.below hb))
      | 43, ⟨x143, n143, c143, m143, y143, o143, d143, e43, g43_0⟩ => exact Exists.intro x143 (Exists.intro n143 (Exists.intro c143 (Exists.intro m143 (Exists.intro y143 (Exists.intro o143 (Exists.intro d143 (And.intro e43 (g43_0.below hb))))))))
      | 44, h => exact h
      | 45, h => exact h
      | 46, h => exact h
      | 47, h => exact h
      | 48, h => exact h
      | 49, ⟨x149, n149, c149, m149, y149, o149, d149, e49, g49_0⟩ => exact Exists.intro x149 (Exists.intro n149 (Exists.intro c149 (Exists.intro m149 (Exists.intro y149 (Exists.intro o149 (Exists.intro d149 (And.intro e49 (g49_0.below hb))))))))
      | 50, h => exact h
      | 51, h => exact h
      | 52, h => exact h
      | 53, h => exact h
      | 54, h => exact h
      | 55, h => exact h
      | 56, ⟨x156, n156, c156, m156, y156, o156, d156, e56, g56_0⟩ => exact Exists.intro x156 (Exists.intro n156 (Exists.intro c156 (Exists.intro m156 (Exists.intro y156 (Exists.intro o156 (Exists.intro d156 (And.intro e56 (g56_0.below hb))))))))
      | 57, h => exact h
      | 58, h => exact h
      | 59, h => exact h
      | 60, h => exact h
      | 61, h => exact h
      | 62, h => exact h
      | 63, h => exact h
      | 64, h => exact h
      | _ + 65, h => exact h
    · intro ac yw hsz hdf hold hB hp
      have t6 : ac.tmps[6]? = some (.bool true) := (List.cons.inj (hp 64 (by decide))).1
      clear hold hp
      obtain ⟨TW, hTW⟩ : ∃ TW : Nat → Value, ∀ i, (ac.tmps[i]?).getD undef = TW i := ⟨_, fun _ => rfl⟩
      have f6 := (hTW 6).symm.trans (congrArg (fun x => Option.getD x undef) t6)
      have hac := act_eq (n := 114) hsz TW hTW
      rw [show ((List.range 114).map TW).toArray = #[TW 0, TW 1, TW 2, TW 3, TW 4, TW 5, TW 6, TW 7, TW 8, TW 9, TW 10, TW 11, TW 12, TW 13, TW 14, TW 15, TW 16, TW 17, TW 18, TW 19, TW 20, TW 21, TW 22, TW 23, TW 24, TW 25, TW 26, TW 27, TW 28, TW 29, TW 30, TW 31, TW 32, TW 33, TW 34, TW 35, TW 36, TW 37, TW 38, TW 39, TW 40, TW 41, TW 42, TW 43, TW 44, TW 45, TW 46, TW 47, TW 48, TW 49, TW 50, TW 51, TW 52, TW 53, TW 54, TW 55, TW 56, TW 57, TW 58, TW 59, TW 60, TW 61, TW 62, TW 63, TW 64, TW 65, TW 66, TW 67, TW 68, TW 69, TW 70, TW 71, TW 72, TW 73, TW 74, TW 75, TW 76, TW 77, TW 78, TW 79, TW 80, TW 81, TW 82, TW 83, TW 84, TW 85, TW 86, TW 87, TW 88, TW 89, TW 90, TW 91, TW 92, TW 93, TW 94, TW 95, TW 96, TW 97, TW 98, TW 99, TW 100, TW 101, TW 102, TW 103, TW 104, TW 105, TW 106, TW 107, TW 108, TW 109, TW 110, TW 111, TW 112, TW 113] from rfl, f6, hdf] at hac
      simp only [Option.getD_some] at hac
      subst hac
      clear hTW f6
      go_wp2
      go_ret
      exact ⟨rfl, hB.below⟩
    refine Stps2.cons (o := _) ?_ ?_
    · intro ac yw hsz hold hB hp K hK
      have t7 : ac.tmps[7]? = some (.pointer (some ⟨w1.heap.size, 0, none⟩)) := hold 7 (by kernel_rfl)
      clear hold hp hsz
      have v0 := hB.now.2.1.cell
      have v1 := hB.now.2.1.cell1
      have v2 := hB.now.2.1.cell2
      have v3 := hB.now.2.2.1.cell
      have v4 := hB.now.2.2.1.cell1
      have v5 := hB.now.2.2.1.cell2
      have v6 := hB.now.2.2.2.2.1.cell
      have v7 := hB.now.2.2.2.2.1.cell1
      have v8 := hB.now.2.2.2.2.1.cell2
      have v9 := hB.now.2.2.2.2.2.2.1.cell
      have v10 := hB.now.2.2.2.2.2.2.1.cell1
      have v11 := hB.now.2.2.2.2.2.2.1.cell2
      have v12 := hB.now.2.2.2.2.2.2.2.2.2.2.1.cell
      have v13 := hB.now.2.2.2.2.2.2.2.2.2.2.1.cell1
      have v14 := hB.now.2.2.2.2.2.2.2.2.2.2.1.cell2
      go_simp
      exact hK.out _ _ ⟨hB, rfl, Nat.le_refl _, .inl (Below.refl _ _), fun h => absurd h (by decide)⟩
    refine Stps2.cons (o := _) ?_ ?_
    · intro ac yw hsz hold hB hp K hK
      have t9 : ac.tmps[9]? = some (.pointer (some ⟨w2.heap.size, 0, none⟩)) := hold 9 (by kernel_rfl)
      clear hold hp hsz
      have v0 := hB.now.2.1.cell
      have v1 := hB.now.2.1.cell1
      have v2 := hB.now.2.1.cell2
      have v3 := hB.now.2.2.1.cell
      have v4 := hB.now.2.2.1.cell1
      have v5 := hB.now.2.2.1.cell2
      have v6 := hB.now.2.2.2.2.1.cell
      have v7 := hB.now.2.2.2.2.1.cell1
      have v8 := hB.now.2.2.2.2.1.cell2
      have v9 := hB.now.2.2.2.2.2.2.1.cell
      have v10 := hB.now.2.2.2.2.2.2.1.cell1
      have v11 := hB.now.2.2.2.2.2.2.1.cell2
      have v12 := hB.now.2.2.2.2.2.2.2.2.2.2.1.cell
      have v13 := hB.now.2.2.2.2.2.2.2.2.2.2.1.cell1
      have v14 := hB.now.2.2.2.2.2.2.2.2.2.2.1.cell2
      go_simp
      exact hK.out _ _ ⟨hB, rfl, Nat.le_refl _, .inl (Below.refl _ _), fun h => absurd h (by decide)⟩
    refine Stps2.cons (o := _) ?_ ?_
    · intro ac yw hsz hold hB hp K hK
      have t9 : ac.tmps[9]? = some (.pointer (some ⟨w2.heap.size, 0, none⟩)) := hold 9 (by kernel_rfl)
      clear hold hp hsz
      have v0 := hB.now.2.1.cell
      have v1 := hB.now.2.1.cell1
      have v2 := hB.now.2.1.cell2
      have v3 := hB.now.2.2.1.cell
      have v4 := hB.now.2.2.1.cell1
      have v5 := hB.now.2.2.1.cell2
      have v6 := hB.now.2.2.2.2.1.cell
      have v7 := hB.now.2.2.2.2.1.cell1
      have v8 := hB.now.2.2.2.2.1.cell2
      have v9 := hB.now.2.2.2.2.2.2.1.cell
      have v10 := hB.now.2.2.2.2.2.2.1.cell1
      have v11 := hB.now.2.2.2.2.2.2.1.cell2
      have v12 := hB.now.2.2.2.2.2.2.2.2.2.2.1.cell
      have v13 := hB.now.2.2.2.2.2.2.2.2.2.2.1.cell1
      have v14 := hB.now.2.2.2.2.2.2.2.2.2.2.1.cell2
      go_simp
      exact hK.out _ _ ⟨hB, rfl, Nat.le_refl _, .inl (Below.refl _ _), fun h => absurd h (by decide)⟩
    refine Stps2.cons (o := _) ?_ ?_
    · intro ac yw hsz hold hB hp K hK
      have e2 := hp 2 (by decide)
      have t52 : ac.tmps[52]? = some (.agg #[.slice d k l, .bool v, .slice d2 k2 l2]) := (List.cons.inj e2).1
      clear hold hp hsz e2
      go_simp
      (go_at_call 9; (with_reducible refine (MN.out _ _ _ _ _ _ _ _ hB.now.2.2.2.2.2.1).mono ?_); rintro e wz ⟨x103, n103, c103, m103, y103, o103, d103, rfl, h3_0, hbz⟩)
      exact hK.out _ _ ⟨hB.go hbz, Exists.intro x103 (Exists.intro n103 (Exists.intro c103 (Exists.intro m103 (Exists.intro y103 (Exists.intro o103 (Exists.intro d103 (And.intro rfl h3_0))))))), hbz.size, .inl hbz, fun h => absurd h (by decide)⟩
    refine Stps2.cons (o := _) ?_ ?_
    · intro ac yw hsz hold hB hp K hK
      have e1 := hp 1 (by decide)
      have t51 : ac.tmps[51]? = some (.agg #[.slice d k l, .bool v, .slice d2 k2 l2]) := (List.cons.inj e1).1
      obtain ⟨x103_3, n103_3, c103_3, m103_3, y103_3, o103_3, d103_3, e3, g3_0⟩ := hp 3 (by decide)
      have t53 : ac.tmps[53]? = some (.agg #[.slice x103_3 n103_3 c103_3, .bool m103_3, .slice y103_3 o103_3 d103_3]) := (List.cons.inj e3).1
      clear hold hp hsz e1 e3
      have hbz : Below yw.heap.size yw (yw.alloc (.cells #[.slice d k l, .bool v, .slice d2 k2 l2, .slice x103_3 n103_3 c103_3, .bool m103_3, .slice y103_3 o103_3 d103_3] 30)) ∧ yw.heap.size < (yw.alloc (.cells #[.slice d k l, .bool v, .slice d2 k2 l2, .slice x103_3 n103_3 c103_3, .bool m103_3, .slice y103_3 o103_3 d103_3] 30)).heap.size := ⟨(Below.refl _ _).alloc (Nat.le_refl _) _, by simp⟩
      have hra := RatsAt.old2 (wk := yw) (t := 30) (Below.refl _ _) rfl (RatAt.below (hB.now.2.2.2.2.2.1) hbz.1) (g3_0.below hbz.1)
      go_simp
      exact hK.out _ _ ⟨hB.alloc _, Exists.intro yw.heap.size (And.intro rfl hra), Nat.le_of_lt hbz.2, .inl hbz.1, fun _ => ⟨_, rfl, Nat.le_refl _, hbz.2⟩⟩
    refine Stps2.cons (o := _) ?_ ?_
    · intro ac yw hsz hold hB hp K hK
      have e0 := hp 0 (by decide)
      have t50 : ac.tmps[50]? = some (.agg #[.slice a n c, .bool m, .slice a2 n2 c2]) := (List.cons.inj e0).1
      obtain ⟨k4_4, e4, g4_0⟩ := hp 4 (by decide)
      have t54 : ac.tmps[54]? = some (.slice (some ⟨k4_4, 0, none⟩) 2 2) := (List.cons.inj e4).1
      clear hold hp hsz e0 e4
      go_simp
      (go_at_call 8; (with_reducible refine (PT.out _ _ _ _ _ _ _ _ _ hB.now.2.2.2.2.2.2.2.1 g4_0).mono ?_); rintro e wz ⟨x105, n105, c105, m105, y105, o105, d105, rfl, h5_0, hbz⟩)
      exact hK.out _ _ ⟨hB.go hbz, Exists.intro x105 (Exists.intro n105 (Exists.intro c105 (Exists.intro m105 (Exists.intro y105 (Exists.intro o105 (Exists.intro d105 (And.intro rfl h5_0))))))), hbz.size, .inl hbz, fun h => absurd h (by decide)⟩
    refine Stps2.cons (o := _) ?_ ?_
    · intro ac yw hsz hold hB hp K hK
      have t7 : ac.tmps[7]? = some (.pointer (some ⟨w1.heap.size, 0, none⟩)) := hold 7 (by kernel_rfl)
      clear hold hp hsz
      have v0 := hB.now.2.1.cell
      have v1 := hB.now.2.1.cell1
      have v2 := hB.now.2.1.cell2
      have v3 := hB.now.2.2.1.cell
      have v4 := hB.now.2.2.1.cell1
      have v5 := hB.now.2.2.1.cell2
      have v6 := hB.now.2.2.2.2.1.cell
      have v7 := hB.now.2.2.2.2.1.cell1
      have v8 := hB.now.2.2.2.2.1.cell2
      have v9 := hB.now.2.2.2.2.2.2.1.cell
      have v10 := hB.now.2.2.2.2.2.2.1.cell1
      have v11 := hB.now.2.2.2.2.2.2.1.cell2
      have v12 := hB.now.2.2.2.2.2.2.2.2.2.2.1.cell
      have v13 := hB.now.2.2.2.2.2.2.2.2.2.2.1.cell1
      have v14 := hB.now.2.2.2.2.2.2.2.2.2.2.1.cell2
      go_simp
      exact hK.out _ _ ⟨hB, rfl, Nat.le_refl _, .inl (Below.refl _ _), fun h => absurd h (by decide)⟩
    refine Stps2.cons (o := _) ?_ ?_
    · intro ac yw hsz hold hB hp K hK
      obtain ⟨x105_5, n105_5, c105_5, m105_5, y105_5, o105_5, d105_5, e5, g5_0⟩ := hp 5 (by decide)
      have t55 : ac.tmps[55]? = some (.agg #[.slice x105_5 n105_5 c105_5, .bool m105_5, .slice y105_5 o105_5 d105_5]) := (List.cons.inj e5).1
      have e6 := hp 6 (by decide)
      have t56 : ac.tmps[56]? = some (.agg #[.slice a n c, .bool m, .slice a2 n2 c2]) := (List.cons.inj e6).1
      clear hold hp hsz e5 e6
      go_simp
      (go_at_call 10; (with_reducible refine (C1.out _ _ _ _ _ _ _ _ _ _ _ _ _ _ _ g5_0 hB.now.2.2.2.2.2.2.2.1).mono ?_); rintro e wz ⟨rfl, hbz⟩)
      exact hK.out _ _ ⟨hB.go hbz, rfl, hbz.size, .inl hbz, fun h => absurd h (by decide)⟩
    refine Stps2.cons (o := _) ?_ ?_
    · intro ac yw hsz hold hB hp K hK
      have e7 := hp 7 (by decide)
      have t57 : ac.tmps[57]? = some (.int .i64 0) := (List.cons.inj e7).1
      clear hold hp hsz e7
      go_simp
      exact hK.out _ _ ⟨hB, rfl, Nat.le_refl _, .inl (Below.refl _ _), fun h => absurd h (by decide)⟩
    refine Stps2.cons (o := _) ?_ ?_
    · intro ac yw hsz hold hB hp K hK
      have e8 := hp 8 (by decide)
      have t58 : ac.tmps[58]? = some (.bool true) := (List.cons.inj e8).1
      clear hold hp hsz e8
      go_simp
      exact hK.out _ _ ⟨hB, rfl, Nat.le_refl _, .inl (Below.refl _ _), fun h => absurd h (by decide)⟩
    refine Stps2.cons (o := _) ?_ ?_
    · intro ac yw hsz hold hB hp K hK
      have t59 : ac.tmps[59]? = some (.bool true) := (List.cons.inj (hp 9 (by decide))).1
      rw [if_pos (wanted_pos rfl rfl t59)]
      have t14 : ac.tmps[14]? = some (.bool false) := hold 14 (by kernel_rfl)
      clear hold hp hsz
      go_simp
      exact hK.out _ _ ⟨hB, rfl, Nat.le_refl _, .inl (Below.refl _ _), fun h => absurd h (by decide)⟩
    refine Stps2.cons (o := _) ?_ ?_
    · intro ac yw hsz hold hB hp K hK
      have t59 : ac.tmps[59]? = some (.bool true) := (List.cons.inj (hp 9 (by decide))).1
      rw [if_pos (wanted_pos rfl rfl t59)]
      have t9 : ac.tmps[9]? = some (.pointer (some ⟨w2.heap.size, 0, none⟩)) := hold 9 (by kernel_rfl)
      clear hold hp hsz
      have v0 := hB.now.2.1.cell
      have v1 := hB.now.2.1.cell1
      have v2 := hB.now.2.1.cell2
      have v3 := hB.now.2.2.1.cell
      have v4 := hB.now.2.2.1.cell1
      have v5 := hB.now.2.2.1.cell2
      have v6 := hB.now.2.2.2.2.1.cell
      have v7 := hB.now.2.2.2.2.1.cell1
      have v8 := hB.now.2.2.2.2.1.cell2
      have v9 := hB.now.2.2.2.2.2.2.1.cell
      have v10 := hB.now.2.2.2.2.2.2.1.cell1
      have v11 := hB.now.2.2.2.2.2.2.1.cell2
      have v12 := hB.now.2.2.2.2.2.2.2.2.2.2.1.cell
      have v13 := hB.now.2.2.2.2.2.2.2.2.2.2.1.cell1
      have v14 := hB.now.2.2.2.2.2.2.2.2.2.2.1.cell2
      go_simp
      exact hK.out _ _ ⟨hB, rfl, Nat.le_refl _, .inl (Below.refl _ _), fun h => absurd h (by decide)⟩
    refine Stps2.cons (o := _) ?_ ?_
    · intro ac yw hsz hold hB hp K hK
      have t59 : ac.tmps[59]? = some (.bool true) := (List.cons.inj (hp 9 (by decide))).1
      rw [if_pos (wanted_pos rfl rfl t59)]
      have e11 := hp 11 (by decide)
      have t61 : ac.tmps[61]? = some (.agg #[.slice d k l, .bool v, .slice d2 k2 l2]) := (List.cons.inj e11).1
      clear hold hp hsz e11
      go_simp
      (go_at_call 11; (with_reducible refine (SG.out _ _ _ _ _ _ _ _ hB.now.2.2.2.2.2.1).mono ?_); rintro e wz ⟨rfl, hbz⟩)
      exact hK.out _ _ ⟨hB.go hbz, rfl, hbz.size, .inl hbz, fun h => absurd h (by decide)⟩
    refine Stps2.cons (o := _) ?_ ?_
    · intro ac yw hsz hold hB hp K hK
      have t59 : ac.tmps[59]? = some (.bool true) := (List.cons.inj (hp 9 (by decide))).1
      rw [if_pos (wanted_pos rfl rfl t59)]
      have e12 := hp 12 (by decide)
      have t62 : ac.tmps[62]? = some (.int .i64 0) := (List.cons.inj e12).1
      clear hold hp hsz e12
      go_simp
      exact hK.out _ _ ⟨hB, rfl, Nat.le_refl _, .inl (Below.refl _ _), fun h => absurd h (by decide)⟩
    refine Stps2.cons (o := _) ?_ ?_
    · intro ac yw hsz hold hB hp K hK
      have t59 : ac.tmps[59]? = some (.bool true) := (List.cons.inj (hp 9 (by decide))).1
      rw [if_pos (wanted_pos rfl rfl t59)]
      have e10 := hp 10 (by decide)
      have t60 : ac.tmps[60]? = some (.bool false) := (List.cons.inj e10).1
      have e13 := hp 13 (by decide)
      have t63 : ac.tmps[63]? = some (.bool false) := (List.cons.inj e13).1
      clear hold hp hsz e10 e13
      go_simp
      exact hK.out _ _ ⟨hB, rfl, Nat.le_refl _, .inl (Below.refl _ _), fun h => absurd h (by decide)⟩
    refine Stps2.cons (o := _) ?_ ?_
    · intro ac yw hsz hold hB hp K hK
      have e9 := hp 9 (by decide)
      have t59 : ac.tmps[59]? = some (.bool true) := (List.cons.inj e9).1
      have e14 := hp 14 (by decide)
      have t64 : ac.tmps[64]? = some (.bool true) := (List.cons.inj e14).1
      clear hold hp hsz e9 e14
      go_simp
      exact hK.out _ _ ⟨hB, rfl, Nat.le_refl _, .inl (Below.refl _ _), fun h => absurd h (by decide)⟩
    refine Stps2.cons (o := _) ?_ ?_
    · intro ac yw hsz hold hB hp K hK
      have e15 := hp 15 (by decide)
      have t65 : ac.tmps[65]? = some (.bool true) := (List.cons.inj e15).1
      clear hold hp hsz e15
      go_simp
      exact hK.out _ _ ⟨hB, rfl, Nat.le_refl _, .inl (Below.refl _ _), fun h => absurd h (by decide)⟩
    refine Stps2.cons (o := _) ?_ ?_
    · intro ac yw hsz hold hB hp K hK
      have t66 : ac.tmps[66]? = some (.bool true) := (List.cons.inj (hp 16 (by decide))).1
      rw [if_pos (wanted_pos rfl rfl t66)]
      have t14 : ac.tmps[14]? = some (.bool false) := hold 14 (by kernel_rfl)
      clear hold hp hsz
      go_simp
      exact hK.out _ _ ⟨hB, rfl, Nat.le_refl _, .inl (Below.refl _ _), fun h => absurd h (by decide)⟩
    refine Stps2.cons (o := _) ?_ ?_
    · intro ac yw hsz hold hB hp K hK
      have t66 : ac.tmps[66]? = some (.bool true) := (List.cons.inj (hp 16 (by decide))).1
      rw [if_pos (wanted_pos rfl rfl t66)]
      have e17 := hp 17 (by decide)
      have t67 : ac.tmps[67]? = some (.bool false) := (List.cons.inj e17).1
      clear hold hp hsz e17
      go_simp
      exact hK.out _ _ ⟨hB, rfl, Nat.le_refl _, .inl (Below.refl _ _), fun h => absurd h (by decide)⟩
    refine Stps2.cons (o := _) ?_ ?_
    · intro ac yw hsz hold hB hp K hK
      have t66 : ac.tmps[66]? = some (.bool true) := (List.cons.inj (hp 16 (by decide))).1
      rw [if_pos (wanted_pos rfl rfl t66)]
      have e18 := hp 18 (by decide)
      have t68 : ac.tmps[68]? = some (.bool true) := (List.cons.inj e18).1
      clear hold hp hsz e18
      go_simp
      exact hK.out _ _ ⟨hB, rfl, Nat.le_refl _, .inl (Below.refl _ _), fun h => absurd h (by decide)⟩
    refine Stps2.cons (o := _) ?_ ?_
    · intro ac yw hsz hold hB hp K hK
      have t69 : ac.tmps[69]? = some (.bool true) := (List.cons.inj (hp 19 (by decide))).1
      rw [if_neg (by rw [wanted_neg rfl rfl t69 (fun e => by cases e)]; decide)]
      exact hK.out _ _ ⟨hB, trivial, Nat.le_refl _, .inl (Below.refl _ _), fun h => absurd h (by decide)⟩
    refine Stps2.cons (o := _) ?_ ?_
    · intro ac yw hsz hold hB hp K hK
      have t69 : ac.tmps[69]? = some (.bool true) := (List.cons.inj (hp 19 (by decide))).1
      rw [if_neg (by rw [wanted_neg rfl rfl t69 (fun e => by cases e)]; decide)]
      exact hK.out _ _ ⟨hB, trivial, Nat.le_refl _, .inl (Below.refl _ _), fun h => absurd h (by decide)⟩
    refine Stps2.cons (o := _) ?_ ?_
    · intro ac yw hsz hold hB hp K hK
      have t69 : ac.tmps[69]? = some (.bool true) := (List.cons.inj (hp 19 (by decide))).1
      rw [if_neg (by rw [wanted_neg rfl rfl t69 (fun e => by cases e)]; decide)]
      exact hK.out _ _ ⟨hB, trivial, Nat.le_refl _, .inl (Below.refl _ _), fun h => absurd h (by decide)⟩
    refine Stps2.cons (o := _) ?_ ?_
    · intro ac yw hsz hold hB hp K hK
      have t69 : ac.tmps[69]? = some (.bool true) := (List.cons.inj (hp 19 (by decide))).1
      rw [if_neg (by rw [wanted_neg rfl rfl t69 (fun e => by cases e)]; decide)]
      exact hK.out _ _ ⟨hB, trivial, Nat.le_refl _, .inl (Below.refl _ _), fun h => absurd h (by decide)⟩
    refine Stps2.cons (o := _) ?_ ?_
    · intro ac yw hsz hold hB hp K hK
      have t66 : ac.tmps[66]? = some (.bool true) := (List.cons.inj (hp 16 (by decide))).1
      rw [if_pos (wanted_pos rfl rfl t66)]
      have e19 := hp 19 (by decide)
      have t69 : ac.tmps[69]? = some (.bool true) := (List.cons.inj e19).1
      clear hold hp hsz e19
      go_simp
      exact hK.out _ _ ⟨hB, rfl, Nat.le_refl _, .inl (Below.refl _ _), fun h => absurd h (by decide)⟩
    refine Stps2.cons (o := _) ?_ ?_
    · intro ac yw hsz hold hB hp K hK
      have e16 := hp 16 (by decide)
      have t66 : ac.tmps[66]? = some (.bool true) := (List.cons.inj e16).1
      have e24 := hp 24 (by decide)
      have t74 : ac.tmps[74]? = some (.bool true) := (List.cons.inj e24).1
      clear hold hp hsz e16 e24
      go_simp
      exact hK.out _ _ ⟨hB, rfl, Nat.le_refl _, .inl (Below.refl _ _), fun h => absurd h (by decide)⟩
    refine Stps2.cons (o := _) ?_ ?_
    · intro ac yw hsz hold hB hp K hK
      have e25 := hp 25 (by decide)
      have t75 : ac.tmps[75]? = some (.bool true) := (List.cons.inj e25).1
      clear hold hp hsz e25
      go_simp
      exact hK.out _ _ ⟨hB, rfl, Nat.le_refl _, .inl (Below.refl _ _), fun h => absurd h (by decide)⟩
    refine Stps2.cons (o := _) ?_ ?_
    · intro ac yw hsz hold hB hp K hK
      have t76 : ac.tmps[76]? = some (.bool true) := (List.cons.inj (hp 26 (by decide))).1
      rw [if_pos (wanted_pos rfl rfl t76)]
      have t7 : ac.tmps[7]? = some (.pointer (some ⟨w1.heap.size, 0, none⟩)) := hold 7 (by kernel_rfl)
      clear hold hp hsz
      have v0 := hB.now.2.1.cell
      have v1 := hB.now.2.1.cell1
      have v2 := hB.now.2.1.cell2
      have v3 := hB.now.2.2.1.cell
      have v4 := hB.now.2.2.1.cell1
      have v5 := hB.now.2.2.1.cell2
      have v6 := hB.now.2.2.2.2.1.cell
      have v7 := hB.now.2.2.2.2.1.cell1
      have v8 := hB.now.2.2.2.2.1.cell2
      have v9 := hB.now.2.2.2.2.2.2.1.cell
      have v10 := hB.now.2.2.2.2.2.2.1.cell1
      have v11 := hB.now.2.2.2.2.2.2.1.cell2
      have v12 := hB.now.2.2.2.2.2.2.2.2.2.2.1.cell
      have v13 := hB.now.2.2.2.2.2.2.2.2.2.2.1.cell1
      have v14 := hB.now.2.2.2.2.2.2.2.2.2.2.1.cell2
      go_simp
      exact hK.out _ _ ⟨hB, rfl, Nat.le_refl _, .inl (Below.refl _ _), fun h => absurd h (by decide)⟩
    refine Stps2.cons (o := _) ?_ ?_
    · intro ac yw hsz hold hB hp K hK
      have t76 : ac.tmps[76]? = some (.bool true) := (List.cons.inj (hp 26 (by decide))).1
      rw [if_pos (wanted_pos rfl rfl t76)]
      have t9 : ac.tmps[9]? = some (.pointer (some ⟨w2.heap.size, 0, none⟩)) := hold 9 (by kernel_rfl)
      clear hold hp hsz
      have v0 := hB.now.2.1.cell
      have v1 := hB.now.2.1.cell1
      have v2 := hB.now.2.1.cell2
      have v3 := hB.now.2.2.1.cell
      have v4 := hB.now.2.2.1.cell1
      have v5 := hB.now.2.2.1.cell2
      have v6 := hB.now.2.2.2.2.1.cell
      have v7 := hB.now.2.2.2.2.1.cell1
      have v8 := hB.now.2.2.2.2.1.cell2
      have v9 := hB.now.2.2.2.2.2.2.1.cell
      have v10 := hB.now.2.2.2.2.2.2.1.cell1
      have v11 := hB.now.2.2.2.2.2.2.1.cell2
      have v12 := hB.now.2.2.2.2.2.2.2.2.2.2.1.cell
      have v13 := hB.now.2.2.2.2.2.2.2.2.2.2.1.cell1
      have v14 := hB.now.2.2.2.2.2.2.2.2.2.2.1.cell2
      go_simp
      exact hK.out _ _ ⟨hB, rfl, Nat.le_refl _, .inl (Below.refl _ _), fun h => absurd h (by decide)⟩
    refine Stps2.cons (o := _) ?_ ?_
    · intro ac yw hsz hold hB hp K hK
      have t76 : ac.tmps[76]? = some (.bool true) := (List.cons.inj (hp 26 (by decide))).1
      rw [if_pos (wanted_pos rfl rfl t76)]
      have e28 := hp 28 (by decide)
      have t78 : ac.tmps[78]? = some (.agg #[.slice d k l, .bool v, .slice d2 k2 l2]) := (List.cons.inj e28).1
      clear hold hp hsz e28
      have hbz : Below yw.heap.size yw (yw.alloc (.cells #[.slice d k l, .bool v, .slice d2 k2 l2] 30)) ∧ yw.heap.size < (yw.alloc (.cells #[.slice d k l, .bool v, .slice d2 k2 l2] 30)).heap.size := ⟨(Below.refl _ _).alloc (Nat.le_refl _) _, by simp⟩
      have hra := RatsAt.old1 (wk := yw) (t := 30) (Below.refl _ _) rfl (RatAt.below (hB.now.2.2.2.2.2.1) hbz.1)
      go_simp
      exact hK.out _ _ ⟨hB.alloc _, Exists.intro yw.heap.size (And.intro rfl hra), Nat.le_of_lt hbz.2, .inl hbz.1, fun _ => ⟨_, rfl, Nat.le_refl _, hbz.2⟩⟩
    refine Stps2.cons (o := _) ?_ ?_
    · intro ac yw hsz hold hB hp K hK
      have t76 : ac.tmps[76]? = some (.bool true) := (List.cons.inj (hp 26 (by decide))).1
      rw [if_pos (wanted_pos rfl rfl t76)]
      have e27 := hp 27 (by decide)
      have t77 : ac.tmps[77]? = some (.agg #[.slice a n c, .bool m, .slice a2 n2 c2]) := (List.cons.inj e27).1
      obtain ⟨k29_29, e29, g29_0⟩ := hp 29 (by decide)
      have t79 : ac.tmps[79]? = some (.slice (some ⟨k29_29, 0, none⟩) 1 1) := (List.cons.inj e29).1
      clear hold hp hsz e27 e29
      go_simp
      (go_at_call 8; (with_reducible refine (PL.out _ _ _ _ _ _ _ _ _ hB.now.2.2.2.2.2.2.2.1 g29_0).mono ?_); rintro e wz ⟨x130, n130, c130, m130, y130, o130, d130, rfl, h30_0, hbz⟩)
      exact hK.out _ _ ⟨hB.go hbz, Exists.intro x130 (Exists.intro n130 (Exists.intro c130 (Exists.intro m130 (Exists.intro y130 (Exists.intro o130 (Exists.intro d130 (And.intro rfl h30_0))))))), hbz.size, .inl hbz, fun h => absurd h (by decide)⟩
    refine Stps2.cons (o := _) ?_ ?_
    · intro ac yw hsz hold hB hp K hK
      have t76 : ac.tmps[76]? = some (.bool true) := (List.cons.inj (hp 26 (by decide))).1
      rw [if_pos (wanted_pos rfl rfl t76)]
      have t11 : ac.tmps[11]? = some (.pointer (some ⟨w3.heap.size, 0, none⟩)) := hold 11 (by kernel_rfl)
      clear hold hp hsz
      have v0 := hB.now.2.1.cell
      have v1 := hB.now.2.1.cell1
      have v2 := hB.now.2.1.cell2
      have v3 := hB.now.2.2.1.cell
      have v4 := hB.now.2.2.1.cell1
      have v5 := hB.now.2.2.1.cell2
      have v6 := hB.now.2.2.2.2.1.cell
      have v7 := hB.now.2.2.2.2.1.cell1
      have v8 := hB.now.2.2.2.2.1.cell2
      have v9 := hB.now.2.2.2.2.2.2.1.cell
      have v10 := hB.now.2.2.2.2.2.2.1.cell1
      have v11 := hB.now.2.2.2.2.2.2.1.cell2
      have v12 := hB.now.2.2.2.2.2.2.2.2.2.2.1.cell
      have v13 := hB.now.2.2.2.2.2.2.2.2.2.2.1.cell1
      have v14 := hB.now.2.2.2.2.2.2.2.2.2.2.1.cell2
      go_simp
      exact hK.out _ _ ⟨hB, rfl, Nat.le_refl _, .inl (Below.refl _ _), fun h => absurd h (by decide)⟩
    refine Stps2.cons (o := _) ?_ ?_
    · intro ac yw hsz hold hB hp K hK
      have t76 : ac.tmps[76]? = some (.bool true) := (List.cons.inj (hp 26 (by decide))).1
      rw [if_pos (wanted_pos rfl rfl t76)]
      have e31 := hp 31 (by decide)
      have t81 : ac.tmps[81]? = some (.agg #[.slice g i j, .bool u, .slice g2 i2 j2]) := (List.cons.inj e31).1
      clear hold hp hsz e31
      have hbz : Below yw.heap.size yw (yw.alloc (.cells #[.slice g i j, .bool u, .slice g2 i2 j2] 30)) ∧ yw.heap.size < (yw.alloc (.cells #[.slice g i j, .bool u, .slice g2 i2 j2] 30)).heap.size := ⟨(Below.refl _ _).alloc (Nat.le_refl _) _, by simp⟩
      have hra := RatsAt.old1 (wk := yw) (t := 30) (Below.refl _ _) rfl (RatAt.below (hB.now.2.2.2.1) hbz.1)
      go_simp
      exact hK.out _ _ ⟨hB.alloc _, Exists.intro yw.heap.size (And.intro rfl hra), Nat.le_of_lt hbz.2, .inl hbz.1, fun _ => ⟨_, rfl, Nat.le_refl _, hbz.2⟩⟩
    refine Stps2.cons (o := _) ?_ ?_
    · intro ac yw hsz hold hB hp K hK
      have t76 : ac.tmps[76]? = some (.bool true) := (List.cons.inj (hp 26 (by decide))).1
      rw [if_pos (wanted_pos rfl rfl t76)]
      obtain ⟨x130_30, n130_30, c130_30, m130_30, y130_30, o130_30, d130_30, e30, g30_0⟩ := hp 30 (by decide)
      have t80 : ac.tmps[80]? = some (.agg #[.slice x130_30 n130_30 c130_30, .bool m130_30, .slice y130_30 o130_30 d130_30]) := (List.cons.inj e30).1
      obtain ⟨k32_32, e32, g32_0⟩ := hp 32 (by decide)
      have t82 : ac.tmps[82]? = some (.slice (some ⟨k32_32, 0, none⟩) 1 1) := (List.cons.inj e32).1
      clear hold hp hsz e30 e32
      go_simp
      (go_at_call 6; (with_reducible refine (TL.out _ _ _ _ _ _ _ _ _ g30_0 g32_0).mono ?_); rintro e wz ⟨x133, n133, c133, m133, y133, o133, d133, rfl, h33_0, hbz⟩)
      exact hK.out _ _ ⟨hB.go hbz, Exists.intro x133 (Exists.intro n133 (Exists.intro c133 (Exists.intro m133 (Exists.intro y133 (Exists.intro o133 (Exists.intro d133 (And.intro rfl h33_0))))))), hbz.size, .inl hbz, fun h => absurd h (by decide)⟩
    refine Stps2.cons (o := _) ?_ ?_
    · intro ac yw hsz hold hB hp K hK
      have t76 : ac.tmps[76]? = some (.bool true) := (List.cons.inj (hp 26 (by decide))).1
      rw [if_pos (wanted_pos rfl rfl t76)]
      have t7 : ac.tmps[7]? = some (.pointer (some ⟨w1.heap.size, 0, none⟩)) := hold 7 (by kernel_rfl)
      clear hold hp hsz
      have v0 := hB.now.2.1.cell
      have v1 := hB.now.2.1.cell1
      have v2 := hB.now.2.1.cell2
      have v3 := hB.now.2.2.1.cell
      have v4 := hB.now.2.2.1.cell1
      have v5 := hB.now.2.2.1.cell2
      have v6 := hB.now.2.2.2.2.1.cell
      have v7 := hB.now.2.2.2.2.1.cell1
      have v8 := hB.now.2.2.2.2.1.cell2
      have v9 := hB.now.2.2.2.2.2.2.1.cell
      have v10 := hB.now.2.2.2.2.2.2.1.cell1
      have v11 := hB.now.2.2.2.2.2.2.1.cell2
      have v12 := hB.now.2.2.2.2.2.2.2.2.2.2.1.cell
      have v13 := hB.now.2.2.2.2.2.2.2.2.2.2.1.cell1
      have v14 := hB.now.2.2.2.2.2.2.2.2.2.2.1.cell2
      go_simp
      exact hK.out _ _ ⟨hB, rfl, Nat.le_refl _, .inl (Below.refl _ _), fun h => absurd h (by decide)⟩
    refine Stps2.cons (o := _) ?_ ?_
    · intro ac yw hsz hold hB hp K hK
      have t76 : ac.tmps[76]? = some (.bool true) := (List.cons.inj (hp 26 (by decide))).1
      rw [if_pos (wanted_pos rfl rfl t76)]
      have t11 : ac.tmps[11]? = some (.pointer (some ⟨w3.heap.size, 0, none⟩)) := hold 11 (by kernel_rfl)
      clear hold hp hsz
      have v0 := hB.now.2.1.cell
      have v1 := hB.now.2.1.cell1
      have v2 := hB.now.2.1.cell2
      have v3 := hB.now.2.2.1.cell
      have v4 := hB.now.2.2.1.cell1
      have v5 := hB.now.2.2.1.cell2
      have v6 := hB.now.2.2.2.2.1.cell
      have v7 := hB.now.2.2.2.2.1.cell1
      have v8 := hB.now.2.2.2.2.1.cell2
      have v9 := hB.now.2.2.2.2.2.2.1.cell
      have v10 := hB.now.2.2.2.2.2.2.1.cell1
      have v11 := hB.now.2.2.2.2.2.2.1.cell2
      have v12 := hB.now.2.2.2.2.2.2.2.2.2.2.1.cell
      have v13 := hB.now.2.2.2.2.2.2.2.2.2.2.1.cell1
      have v14 := hB.now.2.2.2.2.2.2.2.2.2.2.1.cell2
      go_simp
      exact hK.out _ _ ⟨hB, rfl, Nat.le_refl _, .inl (Below.refl _ _), fun h => absurd h (by decide)⟩
    refine Stps2.cons (o := _) ?_ ?_
    · intro ac yw hsz hold hB hp K hK
      have t76 : ac.tmps[76]? = some (.bool true) := (List.cons.inj (hp 26 (by decide))).1
      rw [if_pos (wanted_pos rfl rfl t76)]
      have e35 := hp 35 (by decide)
      have t85 : ac.tmps[85]? = some (.agg #[.slice g i j, .bool u, .slice g2 i2 j2]) := (List.cons.inj e35).1
      clear hold hp hsz e35
      have hbz : Below yw.heap.size yw (yw.alloc (.cells #[.slice g i j, .bool u, .slice g2 i2 j2] 30)) ∧ yw.heap.size < (yw.alloc (.cells #[.slice g i j, .bool u, .slice g2 i2 j2] 30)).heap.size := ⟨(Below.refl _ _).alloc (Nat.le_refl _) _, by simp⟩
      have hra := RatsAt.old1 (wk := yw) (t := 30) (Below.refl _ _) rfl (RatAt.below (hB.now.2.2.2.1) hbz.1)
      go_simp
      exact hK.out _ _ ⟨hB.alloc _, Exists.intro yw.heap.size (And.intro rfl hra), Nat.le_of_lt hbz.2, .inl hbz.1, fun _ => ⟨_, rfl, Nat.le_refl _, hbz.2⟩⟩
    refine Stps2.cons (o := _) ?_ ?_
    · intro ac yw hsz hold hB hp K hK
      have t76 : ac.tmps[76]? = some (.bool true) := (List.cons.inj (hp 26 (by decide))).1
      rw [if_pos (wanted_pos rfl rfl t76)]
      have e34 := hp 34 (by decide)
      have t84 : ac.tmps[84]? = some (.agg #[.slice a n c, .bool m, .slice a2 n2 c2]) := (List.cons.inj e34).1
      obtain ⟨k36_36, e36, g36_0⟩ := hp 36 (by decide)
      have t86 : ac.tmps[86]? = some (.slice (some ⟨k36_36, 0, none⟩) 1 1) := (List.cons.inj e36).1
      clear hold hp hsz e34 e36
      go_simp
      (go_at_call 6; (with_reducible refine (TA.out _ _ _ _ _ _ _ _ _ hB.now.2.2.2.2.2.2.2.1 g36_0).mono ?_); rintro e wz ⟨x137, n137, c137, m137, y137, o137, d137, rfl, h37_0, hbz⟩)
      exact hK.out _ _ ⟨hB.go hbz, Exists.intro x137 (Exists.intro n137 (Exists.intro c137 (Exists.intro m137 (Exists.intro y137 (Exists.intro o137 (Exists.intro d137 (And.intro rfl h37_0))))))), hbz.size, .inl hbz, fun h => absurd h (by decide)⟩
    refine Stps2.cons (o := _) ?_ ?_
    · intro ac yw hsz hold hB hp K hK
      have t76 : ac.tmps[76]? = some (.bool true) := (List.cons.inj (hp 26 (by decide))).1
      rw [if_pos (wanted_pos rfl rfl t76)]
      have t9 : ac.tmps[9]? = some (.pointer (some ⟨w2.heap.size, 0, none⟩)) := hold 9 (by kernel_rfl)
      clear hold hp hsz
      have v0 := hB.now.2.1.cell
      have v1 := hB.now.2.1.cell1
      have v2 := hB.now.2.1.cell2
      have v3 := hB.now.2.2.1.cell
      have v4 := hB.now.2.2.1.cell1
      have v5 := hB.now.2.2.1.cell2
      have v6 := hB.now.2.2.2.2.1.cell
      have v7 := hB.now.2.2.2.2.1.cell1
      have v8 := hB.now.2.2.2.2.1.cell2
      have v9 := hB.now.2.2.2.2.2.2.1.cell
      have v10 := hB.now.2.2.2.2.2.2.1.cell1
      have v11 := hB.now.2.2.2.2.2.2.1.cell2
      have v12 := hB.now.2.2.2.2.2.2.2.2.2.2.1.cell
      have v13 := hB.now.2.2.2.2.2.2.2.2.2.2.1.cell1
      have v14 := hB.now.2.2.2.2.2.2.2.2.2.2.1.cell2
      go_simp
      exact hK.out _ _ ⟨hB, rfl, Nat.le_refl _, .inl (Below.refl _ _), fun h => absurd h (by decide)⟩
    refine Stps2.cons (o := _) ?_ ?_
    · intro ac yw hsz hold hB hp K hK
      have t76 : ac.tmps[76]? = some (.bool true) := (List.cons.inj (hp 26 (by decide))).1
      rw [if_pos (wanted_pos rfl rfl t76)]
      have t11 : ac.tmps[11]? = some (.pointer (some ⟨w3.heap.size, 0, none⟩)) := hold 11 (by kernel_rfl)
      clear hold hp hsz
      have v0 := hB.now.2.1.cell
      have v1 := hB.now.2.1.cell1
      have v2 := hB.now.2.1.cell2
      have v3 := hB.now.2.2.1.cell
      have v4 := hB.now.2.2.1.cell1
      have v5 := hB.now.2.2.1.cell2
      have v6 := hB.now.2.2.2.2.1.cell
      have v7 := hB.now.2.2.2.2.1.cell1
      have v8 := hB.now.2.2.2.2.1.cell2
      have v9 := hB.now.2.2.2.2.2.2.1.cell
      have v10 := hB.now.2.2.2.2.2.2.1.cell1
      have v11 := hB.now.2.2.2.2.2.2.1.cell2
      have v12 := hB.now.2.2.2.2.2.2.2.2.2.2.1.cell
      have v13 := hB.now.2.2.2.2.2.2.2.2.2.2.1.cell1
      have v14 := hB.now.2.2.2.2.2.2.2.2.2.2.1.cell2
      go_simp
      exact hK.out _ _ ⟨hB, rfl, Nat.le_refl _, .inl (Below.refl _ _), fun h => absurd h (by decide)⟩
    refine Stps2.cons (o := _) ?_ ?_
    · intro ac yw hsz hold hB hp K hK
      have t76 : ac.tmps[76]? = some (.bool true) := (List.cons.inj (hp 26 (by decide))).1
      rw [if_pos (wanted_pos rfl rfl t76)]
      have e39 := hp 39 (by decide)
      have t89 : ac.tmps[89]? = some (.agg #[.slice g i j, .bool u, .slice g2 i2 j2]) := (List.cons.inj e39).1
      clear hold hp hsz e39
      have hbz : Below yw.heap.size yw (yw.alloc (.cells #[.slice g i j, .bool u, .slice g2 i2 j2] 30)) ∧ yw.heap.size < (yw.alloc (.cells #[.slice g i j, .bool u, .slice g2 i2 j2] 30)).heap.size := ⟨(Below.refl _ _).alloc (Nat.le_refl _) _, by simp⟩
      have hra := RatsAt.old1 (wk := yw) (t := 30) (Below.refl _ _) rfl (RatAt.below (hB.now.2.2.2.1) hbz.1)
      go_simp
      exact hK.out _ _ ⟨hB.alloc _, Exists.intro yw.heap.size (And.intro rfl hra), Nat.le_of_lt hbz.2, .inl hbz.1, fun _ => ⟨_, rfl, Nat.le_refl _, hbz.2⟩⟩
    refine Stps2.cons (o := _) ?_ ?_
    · intro ac yw hsz hold hB hp K hK
      have t76 : ac.tmps[76]? = some (.bool true) := (List.cons.inj (hp 26 (by decide))).1
      rw [if_pos (wanted_pos rfl rfl t76)]
      have e38 := hp 38 (by decide)
      have t88 : ac.tmps[88]? = some (.agg #[.slice d k l, .bool v, .slice d2 k2 l2]) := (List.cons.inj e38).1
      obtain ⟨k40_40, e40, g40_0⟩ := hp 40 (by decide)
      have t90 : ac.tmps[90]? = some (.slice (some ⟨k40_40, 0, none⟩) 1 1) := (List.cons.inj e40).1
      clear hold hp hsz e38 e40
      go_simp
      (go_at_call 6; (with_reducible refine (TB.out _ _ _ _ _ _ _ _ _ hB.now.2.2.2.2.2.1 g40_0).mono ?_); rintro e wz ⟨x141, n141, c141, m141, y141, o141, d141, rfl, h41_0, hbz⟩)
      exact hK.out _ _ ⟨hB.go hbz, Exists.intro x141 (Exists.intro n141 (Exists.intro c141 (Exists.intro m141 (Exists.intro y141 (Exists.intro o141 (Exists.intro d141 (And.intro rfl h41_0))))))), hbz.size, .inl hbz, fun h => absurd h (by decide)⟩
    refine Stps2.cons (o := _) ?_ ?_
    · intro ac yw hsz hold hB hp K hK
      have t76 : ac.tmps[76]? = some (.bool true) := (List.cons.inj (hp 26 (by decide))).1
      rw [if_pos (wanted_pos rfl rfl t76)]
      obtain ⟨x141_41, n141_41, c141_41, m141_41, y141_41, o141_41, d141_41, e41, g41_0⟩ := hp 41 (by decide)
      have t91 : ac.tmps[91]? = some (.agg #[.slice x141_41 n141_41 c141_41, .bool m141_41, .slice y141_41 o141_41 d141_41]) := (List.cons.inj e41).1
      clear hold hp hsz e41
      have hbz : Below yw.heap.size yw (yw.alloc (.cells #[.slice x141_41 n141_41 c141_41, .bool m141_41, .slice y141_41 o141_41 d141_41] 30)) ∧ yw.heap.size < (yw.alloc (.cells #[.slice x141_41 n141_41 c141_41, .bool m141_41, .slice y141_41 o141_41 d141_41] 30)).heap.size := ⟨(Below.refl _ _).alloc (Nat.le_refl _) _, by simp⟩
      have hra := RatsAt.old1 (wk := yw) (t := 30) (Below.refl _ _) rfl (RatAt.below (g41_0) hbz.1)
      go_simp
      exact hK.out _ _ ⟨hB.alloc _, Exists.intro yw.heap.size (And.intro rfl hra), Nat.le_of_lt hbz.2, .inl hbz.1, fun _ => ⟨_, rfl, Nat.le_refl _, hbz.2⟩⟩
    refine Stps2.cons (o := _) ?_ ?_
    · intro ac yw hsz hold hB hp K hK
      have t76 : ac.tmps[76]? = some (.bool true) := (List.cons.inj (hp 26 (by decide))).1
      rw [if_pos (wanted_pos rfl rfl t76)]
      obtain ⟨x137_37, n137_37, c137_37, m137_37, y137_37, o137_37, d137_37, e37, g37_0⟩ := hp 37 (by decide)
      have t87 : ac.tmps[87]? = some (.agg #[.slice x137_37 n137_37 c137_37, .bool m137_37, .slice y137_37 o137_37 d137_37]) := (List.cons.inj e37).1
      obtain ⟨k42_42, e42, g42_0⟩ := hp 42 (by decide)
      have t92 : ac.tmps[92]? = some (.slice (some ⟨k42_42, 0, none⟩) 1 1) := (List.cons.inj e42).1
      clear hold hp hsz e37 e42
      go_simp
      (go_at_call 8; (with_reducible refine (PR.out _ _ _ _ _ _ _ _ _ g37_0 g42_0).mono ?_); rintro e wz ⟨x143, n143, c143, m143, y143, o143, d143, rfl, h43_0, hbz⟩)
      exact hK.out _ _ ⟨hB.go hbz, Exists.intro x143 (Exists.intro n143 (Exists.intro c143 (Exists.intro m143 (Exists.intro y143 (Exists.intro o143 (Exists.intro d143 (And.intro rfl h43_0))))))), hbz.size, .inl hbz, fun h => absurd h (by decide)⟩
    refine Stps2.cons (o := _) ?_ ?_
    · intro ac yw hsz hold hB hp K hK
      have t76 : ac.tmps[76]? = some (.bool true) := (List.cons.inj (hp 26 (by decide))).1
      rw [if_pos (wanted_pos rfl rfl t76)]
      obtain ⟨x133_33, n133_33, c133_33, m133_33, y133_33, o133_33, d133_33, e33, g33_0⟩ := hp 33 (by decide)
      have t83 : ac.tmps[83]? = some (.agg #[.slice x133_33 n133_33 c133_33, .bool m133_33, .slice y133_33 o133_33 d133_33]) := (List.cons.inj e33).1
      obtain ⟨x143_43, n143_43, c143_43, m143_43, y143_43, o143_43, d143_43, e43, g43_0⟩ := hp 43 (by decide)
      have t93 : ac.tmps[93]? = some (.agg #[.slice x143_43 n143_43 c143_43, .bool m143_43, .slice y143_43 o143_43 d143_43]) := (List.cons.inj e43).1
      clear hold hp hsz e33 e43
      go_simp
      (go_at_call 10; (with_reducible refine (C2.out _ _ _ _ _ _ _ _ _ _ _ _ _ _ _ g33_0 g43_0).mono ?_); rintro e wz ⟨rfl, hbz⟩)
      exact hK.out _ _ ⟨hB.go hbz, rfl, hbz.size, .inl hbz, fun h => absurd h (by decide)⟩
    refine Stps2.cons (o := _) ?_ ?_
    · intro ac yw hsz hold hB hp K hK
      have t76 : ac.tmps[76]? = some (.bool true) := (List.cons.inj (hp 26 (by decide))).1
      rw [if_pos (wanted_pos rfl rfl t76)]
      have e44 := hp 44 (by decide)
      have t94 : ac.tmps[94]? = some (.int .i64 0) := (List.cons.inj e44).1
      clear hold hp hsz e44
      go_simp
      exact hK.out _ _ ⟨hB, rfl, Nat.le_refl _, .inl (Below.refl _ _), fun h => absurd h (by decide)⟩
    refine Stps2.cons (o := _) ?_ ?_
    · intro ac yw hsz hold hB hp K hK
      have e26 := hp 26 (by decide)
      have t76 : ac.tmps[76]? = some (.bool true) := (List.cons.inj e26).1
      have e45 := hp 45 (by decide)
      have t95 : ac.tmps[95]? = some (.bool true) := (List.cons.inj e45).1
      clear hold hp hsz e26 e45
      go_simp
      exact hK.out _ _ ⟨hB, rfl, Nat.le_refl _, .inl (Below.refl _ _), fun h => absurd h (by decide)⟩
    refine Stps2.cons (o := _) ?_ ?_
    · intro ac yw hsz hold hB hp K hK
      have e46 := hp 46 (by decide)
      have t96 : ac.tmps[96]? = some (.bool true) := (List.cons.inj e46).1
      clear hold hp hsz e46
      go_simp
      exact hK.out _ _ ⟨hB, rfl, Nat.le_refl _, .inl (Below.refl _ _), fun h => absurd h (by decide)⟩
    refine Stps2.cons (o := _) ?_ ?_
    · intro ac yw hsz hold hB hp K hK
      have t97 : ac.tmps[97]? = some (.bool true) := (List.cons.inj (hp 47 (by decide))).1
      rw [if_pos (wanted_pos rfl rfl t97)]
      have t7 : ac.tmps[7]? = some (.pointer (some ⟨w1.heap.size, 0, none⟩)) := hold 7 (by kernel_rfl)
      clear hold hp hsz
      have v0 := hB.now.2.1.cell
      have v1 := hB.now.2.1.cell1
      have v2 := hB.now.2.1.cell2
      have v3 := hB.now.2.2.1.cell
      have v4 := hB.now.2.2.1.cell1
      have v5 := hB.now.2.2.1.cell2
      have v6 := hB.now.2.2.2.2.1.cell
      have v7 := hB.now.2.2.2.2.1.cell1
      have v8 := hB.now.2.2.2.2.1.cell2
      have v9 := hB.now.2.2.2.2.2.2.1.cell
      have v10 := hB.now.2.2.2.2.2.2.1.cell1
      have v11 := hB.now.2.2.2.2.2.2.1.cell2
      have v12 := hB.now.2.2.2.2.2.2.2.2.2.2.1.cell
      have v13 := hB.now.2.2.2.2.2.2.2.2.2.2.1.cell1
      have v14 := hB.now.2.2.2.2.2.2.2.2.2.2.1.cell2
      go_simp
      exact hK.out _ _ ⟨hB, rfl, Nat.le_refl _, .inl (Below.refl _ _), fun h => absurd h (by decide)⟩
    refine Stps2.cons (o := _) ?_ ?_
    · intro ac yw hsz hold hB hp K hK
      have t97 : ac.tmps[97]? = some (.bool true) := (List.cons.inj (hp 47 (by decide))).1
      rw [if_pos (wanted_pos rfl rfl t97)]
      have e48 := hp 48 (by decide)
      have t98 : ac.tmps[98]? = some (.agg #[.slice a n c, .bool m, .slice a2 n2 c2]) := (List.cons.inj e48).1
      clear hold hp hsz e48
      go_simp
      (go_at_call 8; (with_reducible refine (P0.out _ _ _ _ _ _ _ _ hB.now.2.2.2.2.2.2.2.1).mono ?_); rintro e wz ⟨x149, n149, c149, m149, y149, o149, d149, rfl, h49_0, hbz⟩)
      exact hK.out _ _ ⟨hB.go hbz, Exists.intro x149 (Exists.intro n149 (Exists.intro c149 (Exists.intro m149 (Exists.intro y149 (Exists.intro o149 (Exists.intro d149 (And.intro rfl h49_0))))))), hbz.size, .inl hbz, fun h => absurd h (by decide)⟩
    refine Stps2.cons (o := _) ?_ ?_
    · intro ac yw hsz hold hB hp K hK
      have t97 : ac.tmps[97]? = some (.bool true) := (List.cons.inj (hp 47 (by decide))).1
      rw [if_pos (wanted_pos rfl rfl t97)]
      obtain ⟨x149_49, n149_49, c149_49, m149_49, y149_49, o149_49, d149_49, e49, g49_0⟩ := hp 49 (by decide)
      have t99 : ac.tmps[99]? = some (.agg #[.slice x149_49 n149_49 c149_49, .bool m149_49, .slice y149_49 o149_49 d149_49]) := (List.cons.inj e49).1
      clear hold hp hsz e49
      go_simp
      (go_at_call 12; (with_reducible refine (NM.out _ _ _ _ _ _ _ _ g49_0).mono ?_); rintro e wz ⟨rfl, hbz⟩)
      exact hK.out _ _ ⟨hB.go hbz, rfl, hbz.size, .inl hbz, fun h => absurd h (by decide)⟩
    refine Stps2.cons (o := _) ?_ ?_
    · intro ac yw hsz hold hB hp K hK
      have t97 : ac.tmps[97]? = some (.bool true) := (List.cons.inj (hp 47 (by decide))).1
      rw [if_pos (wanted_pos rfl rfl t97)]
      have t3 : ac.tmps[3]? = some (.pointer (some ⟨w.heap.size, 0, none⟩)) := hold 3 (by kernel_rfl)
      clear hold hp hsz
      have v0 := hB.now.2.1.cell
      have v1 := hB.now.2.1.cell1
      have v2 := hB.now.2.1.cell2
      have v3 := hB.now.2.2.1.cell
      have v4 := hB.now.2.2.1.cell1
      have v5 := hB.now.2.2.1.cell2
      have v6 := hB.now.2.2.2.2.1.cell
      have v7 := hB.now.2.2.2.2.1.cell1
      have v8 := hB.now.2.2.2.2.1.cell2
      have v9 := hB.now.2.2.2.2.2.2.1.cell
      have v10 := hB.now.2.2.2.2.2.2.1.cell1
      have v11 := hB.now.2.2.2.2.2.2.1.cell2
      have v12 := hB.now.2.2.2.2.2.2.2.2.2.2.1.cell
      have v13 := hB.now.2.2.2.2.2.2.2.2.2.2.1.cell1
      have v14 := hB.now.2.2.2.2.2.2.2.2.2.2.1.cell2
      go_simp
      exact hK.out _ _ ⟨hB, rfl, Nat.le_refl _, .inl (Below.refl _ _), fun h => absurd h (by decide)⟩
    refine Stps2.cons (o := _) ?_ ?_
    · intro ac yw hsz hold hB hp K hK
      have t97 : ac.tmps[97]? = some (.bool true) := (List.cons.inj (hp 47 (by decide))).1
      rw [if_pos (wanted_pos rfl rfl t97)]
      have e50 := hp 50 (by decide)
      have t100 : ac.tmps[100]? = some (.agg #[.bool pb, .string ps, .string q]) := (List.cons.inj e50).1
      have e51 := hp 51 (by decide)
      have t101 : ac.tmps[101]? = some (.agg #[.bool pb, .string ps, .string q]) := (List.cons.inj e51).1
      clear hold hp hsz e50 e51
      go_simp
      exact hK.out _ _ ⟨hB, rfl, Nat.le_refl _, .inl (Below.refl _ _), fun h => absurd h (by decide)⟩
    refine Stps2.cons (o := _) ?_ ?_
    · intro ac yw hsz hold hB hp K hK
      have e47 := hp 47 (by decide)
      have t97 : ac.tmps[97]? = some (.bool true) := (List.cons.inj e47).1
      have e52 := hp 52 (by decide)
      have t102 : ac.tmps[102]? = some (.bool true) := (List.cons.inj e52).1
      clear hold hp hsz e47 e52
      go_simp
      exact hK.out _ _ ⟨hB, rfl, Nat.le_refl _, .inl (Below.refl _ _), fun h => absurd h (by decide)⟩
    refine Stps2.cons (o := _) ?_ ?_
    · intro ac yw hsz hold hB hp K hK
      have e53 := hp 53 (by decide)
      have t103 : ac.tmps[103]? = some (.bool true) := (List.cons.inj e53).1
      clear hold hp hsz e53
      go_simp
      exact hK.out _ _ ⟨hB, rfl, Nat.le_refl _, .inl (Below.refl _ _), fun h => absurd h (by decide)⟩
    refine Stps2.cons (o := _) ?_ ?_
    · intro ac yw hsz hold hB hp K hK
      have t104 : ac.tmps[104]? = some (.bool true) := (List.cons.inj (hp 54 (by decide))).1
      rw [if_pos (wanted_pos rfl rfl t104)]
      have t7 : ac.tmps[7]? = some (.pointer (some ⟨w1.heap.size, 0, none⟩)) := hold 7 (by kernel_rfl)
      clear hold hp hsz
      have v0 := hB.now.2.1.cell
      have v1 := hB.now.2.1.cell1
      have v2 := hB.now.2.1.cell2
      have v3 := hB.now.2.2.1.cell
      have v4 := hB.now.2.2.1.cell1
      have v5 := hB.now.2.2.1.cell2
      have v6 := hB.now.2.2.2.2.1.cell
      have v7 := hB.now.2.2.2.2.1.cell1
      have v8 := hB.now.2.2.2.2.1.cell2
      have v9 := hB.now.2.2.2.2.2.2.1.cell
      have v10 := hB.now.2.2.2.2.2.2.1.cell1
      have v11 := hB.now.2.2.2.2.2.2.1.cell2
      have v12 := hB.now.2.2.2.2.2.2.2.2.2.2.1.cell
      have v13 := hB.now.2.2.2.2.2.2.2.2.2.2.1.cell1
      have v14 := hB.now.2.2.2.2.2.2.2.2.2.2.1.cell2
      go_simp
      exact hK.out _ _ ⟨hB, rfl, Nat.le_refl _, .inl (Below.refl _ _), fun h => absurd h (by decide)⟩
    refine Stps2.cons (o := _) ?_ ?_
    · intro ac yw hsz hold hB hp K hK
      have t104 : ac.tmps[104]? = some (.bool true) := (List.cons.inj (hp 54 (by decide))).1
      rw [if_pos (wanted_pos rfl rfl t104)]
      have e55 := hp 55 (by decide)
      have t105 : ac.tmps[105]? = some (.agg #[.slice a n c, .bool m, .slice a2 n2 c2]) := (List.cons.inj e55).1
      clear hold hp hsz e55
      go_simp
      (go_at_call 6; (with_reducible refine (T0.out _ _ _ _ _ _ _ _ hB.now.2.2.2.2.2.2.2.1).mono ?_); rintro e wz ⟨x156, n156, c156, m156, y156, o156, d156, rfl, h56_0, hbz⟩)
      exact hK.out _ _ ⟨hB.go hbz, Exists.intro x156 (Exists.intro n156 (Exists.intro c156 (Exists.intro m156 (Exists.intro y156 (Exists.intro o156 (Exists.intro d156 (And.intro rfl h56_0))))))), hbz.size, .inl hbz, fun h => absurd h (by decide)⟩
    refine Stps2.cons (o := _) ?_ ?_
    · intro ac yw hsz hold hB hp K hK
      have t104 : ac.tmps[104]? = some (.bool true) := (List.cons.inj (hp 54 (by decide))).1
      rw [if_pos (wanted_pos rfl rfl t104)]
      obtain ⟨x156_56, n156_56, c156_56, m156_56, y156_56, o156_56, d156_56, e56, g56_0⟩ := hp 56 (by decide)
      have t106 : ac.tmps[106]? = some (.agg #[.slice x156_56 n156_56 c156_56, .bool m156_56, .slice y156_56 o156_56 d156_56]) := (List.cons.inj e56).1
      clear hold hp hsz e56
      go_simp
      (go_at_call 12; (with_reducible refine (NM.out _ _ _ _ _ _ _ _ g56_0).mono ?_); rintro e wz ⟨rfl, hbz⟩)
      exact hK.out _ _ ⟨hB.go hbz, rfl, hbz.size, .inl hbz, fun h => absurd h (by decide)⟩
    refine Stps2.cons (o := _) ?_ ?_
    · intro ac yw hsz hold hB hp K hK
      have t104 : ac.tmps[104]? = some (.bool true) := (List.cons.inj (hp 54 (by decide))).1
      rw [if_pos (wanted_pos rfl rfl t104)]
      have t3 : ac.tmps[3]? = some (.pointer (some ⟨w.heap.size, 0, none⟩)) := hold 3 (by kernel_rfl)
      clear hold hp hsz
      have v0 := hB.now.2.1.cell
      have v1 := hB.now.2.1.cell1
      have v2 := hB.now.2.1.cell2
      have v3 := hB.now.2.2.1.cell
      have v4 := hB.now.2.2.1.cell1
      have v5 := hB.now.2.2.1.cell2
      have v6 := hB.now.2.2.2.2.1.cell
      have v7 := hB.now.2.2.2.2.1.cell1
      have v8 := hB.now.2.2.2.2.1.cell2
      have v9 := hB.now.2.2.2.2.2.2.1.cell
      have v10 := hB.now.2.2.2.2.2.2.1.cell1
      have v11 := hB.now.2.2.2.2.2.2.1.cell2
      have v12 := hB.now.2.2.2.2.2.2.2.2.2.2.1.cell
      have v13 := hB.now.2.2.2.2.2.2.2.2.2.2.1.cell1
      have v14 := hB.now.2.2.2.2.2.2.2.2.2.2.1.cell2
      go_simp
      exact hK.out _ _ ⟨hB, rfl, Nat.le_refl _, .inl (Below.refl _ _), fun h => absurd h (by decide)⟩
    refine Stps2.cons (o := _) ?_ ?_
    · intro ac yw hsz hold hB hp K hK
      have t104 : ac.tmps[104]? = some (.bool true) := (List.cons.inj (hp 54 (by decide))).1
      rw [if_pos (wanted_pos rfl rfl t104)]
      have e57 := hp 57 (by decide)
      have t107 : ac.tmps[107]? = some (.agg #[.bool pb, .string ps, .string q]) := (List.cons.inj e57).1
      have e58 := hp 58 (by decide)
      have t108 : ac.tmps[108]? = some (.agg #[.bool pb, .string ps, .string q]) := (List.cons.inj e58).1
      clear hold hp hsz e57 e58
      go_simp
      exact hK.out _ _ ⟨hB, rfl, Nat.le_refl _, .inl (Below.refl _ _), fun h => absurd h (by decide)⟩
    refine Stps2.cons (o := _) ?_ ?_
    · intro ac yw hsz hold hB hp K hK
      have e54 := hp 54 (by decide)
      have t104 : ac.tmps[104]? = some (.bool true) := (List.cons.inj e54).1
      have e59 := hp 59 (by decide)
      have t109 : ac.tmps[109]? = some (.bool true) := (List.cons.inj e59).1
      clear hold hp hsz e54 e59
      go_simp
      exact hK.out _ _ ⟨hB, rfl, Nat.le_refl _, .inl (Below.refl _ _), fun h => absurd h (by decide)⟩
    refine Stps2.cons (o := _) ?_ ?_
    · intro ac yw hsz hold hB hp K hK
      have e60 := hp 60 (by decide)
      have t110 : ac.tmps[110]? = some (.bool true) := (List.cons.inj e60).1
      clear hold hp hsz e60
      go_simp
      exact hK.out _ _ ⟨hB, rfl, Nat.le_refl _, .inl (Below.refl _ _), fun h => absurd h (by decide)⟩
    refine Stps2.cons (o := _) ?_ ?_
    · intro ac yw hsz hold hB hp K hK
      have t111 : ac.tmps[111]? = some (.bool true) := (List.cons.inj (hp 61 (by decide))).1
      rw [if_pos (wanted_pos rfl rfl t111)]
      clear hold hp hsz
      go_simp
      (go_at_call 5; refine (awake3_any _).mono ?_; rintro e wz ⟨rfl, hbz⟩)
      exact hK.out _ _ ⟨hB.go hbz, rfl, hbz.size, .inl hbz, fun h => absurd h (by decide)⟩
    refine Stps2.cons (o := _) ?_ ?_
    · intro ac yw hsz hold hB hp K hK
      have e61 := hp 61 (by decide)
      have t111 : ac.tmps[111]? = some (.bool true) := (List.cons.inj e61).1
      have e62 := hp 62 (by decide)
      have t112 : ac.tmps[112]? = some (.bool true) := (List.cons.inj e62).1
      clear hold hp hsz e61 e62
      go_simp
      exact hK.out _ _ ⟨hB, rfl, Nat.le_refl _, .inl (Below.refl _ _), fun h => absurd h (by decide)⟩
    refine Stps2.cons (o := _) ?_ ?_
    · intro ac yw hsz hold hB hp K hK
      have e63 := hp 63 (by decide)
      have t113 : ac.tmps[113]? = some (.bool true) := (List.cons.inj e63).1
      clear hold hp hsz e63
      go_simp
      exact hK.out _ _ ⟨hB, rfl, Nat.le_refl _, .inl (Below.refl _ _), fun h => absurd h (by decide)⟩
    exact Stps2.nil _
  refine Stps2.cons (o := _) ?_ ?_
  · intro ac yw hsz hold hB hp K hK
    have t7 : ac.tmps[7]? = some (.pointer (some ⟨w1.heap.size, 0, none⟩)) := hold 7 (by kernel_rfl)
    clear hold hp hsz
    have v0 := hB.now.1.cell
    have v1 := hB.now.1.cell1
    have v2 := hB.now.1.cell2
    have v3 := hB.now.2.2.1.cell
    have v4 := hB.now.2.2.1.cell1
    have v5 := hB.now.2.2.1.cell2
    have v6 := hB.now.2.2.2.2.1.cell
    have v7 := hB.now.2.2.2.2.1.cell1
    have v8 := hB.now.2.2.2.2.1.cell2
    go_simp
    exact hK.out _ _ ⟨hB, rfl, Nat.le_refl _, .inl (Below.refl _ _), fun h => absurd h (by decide)⟩
  refine Stps2.cons (o := _) ?_ ?_
  · intro ac yw hsz hold hB hp K hK
    have t9 : ac.tmps[9]? = some (.pointer (some ⟨w2.heap.size, 0, none⟩)) := hold 9 (by kernel_rfl)
    clear hold hp hsz
    have v0 := hB.now.1.cell
    have v1 := hB.now.1.cell1
    have v2 := hB.now.1.cell2
    have v3 := hB.now.2.2.1.cell
    have v4 := hB.now.2.2.1.cell1
    have v5 := hB.now.2.2.1.cell2
    have v6 := hB.now.2.2.2.2.1.cell
    have v7 := hB.now.2.2.2.2.1.cell1
    have v8 := hB.now.2.2.2.2.1.cell2
    go_simp
    exact hK.out _ _ ⟨hB, rfl, Nat.le_refl _, .inl (Below.refl _ _), fun h => absurd h (by decide)⟩
  refine Stps2.cons (o := _) ?_ ?_
  · intro ac yw hsz hold hB hp K hK
    have e1 := hp 1 (by decide)
    have t43 : ac.tmps[43]? = some (.agg #[.slice d k l, .bool v, .slice d2 k2 l2]) := (List.cons.inj e1).1
    clear hold hp hsz e1
    have hbz : Below yw.heap.size yw (yw.alloc (.cells #[.slice d k l, .bool v, .slice d2 k2 l2] 30)) ∧ yw.heap.size < (yw.alloc (.cells #[.slice d k l, .bool v, .slice d2 k2 l2] 30)).heap.size := ⟨(Below.refl _ _).alloc (Nat.le_refl _) _, by simp⟩
    have hra := RatsAt.old1 (wk := yw) (t := 30) (Below.refl _ _) rfl (RatAt.below (hB.now.2.2.2.1) hbz.1)
    go_simp
    exact hK.out _ _ ⟨hB.alloc _, Exists.intro yw.heap.size (And.intro rfl hra), Nat.le_of_lt hbz.2, .inl hbz.1, fun _ => ⟨_, rfl, Nat.le_refl _, hbz.2⟩⟩
  refine Stps2.cons (o := _) ?_ ?_
  · intro ac yw hsz hold hB hp K hK
    have e0 := hp 0 (by decide)
    have t42 : ac.tmps[42]? = some (.agg #[.slice a n c, .bool m, .slice a2 n2 c2]) := (List.cons.inj e0).1
    obtain ⟨k2_2, e2, g2_0⟩ := hp 2 (by decide)
    have t44 : ac.tmps[44]? = some (.slice (some ⟨k2_2, 0, none⟩) 1 1) := (List.cons.inj e2).1
    clear hold hp hsz e0 e2
    go_simp
    (go_at_call 6; (with_reducible refine (TM.out _ _ _ _ _ _ _ _ _ hB.now.2.2.2.2.2.1 g2_0).mono ?_); rintro e wz ⟨x103, n103, c103, m103, y103, o103, d103, rfl, h3_0, hbz⟩)
    exact hK.out _ _ ⟨hB.go hbz, Exists.intro x103 (Exists.intro n103 (Exists.intro c103 (Exists.intro m103 (Exists.intro y103 (Exists.intro o103 (Exists.intro d103 (And.intro rfl h3_0))))))), hbz.size, .inl hbz, fun h => absurd h (by decide)⟩
  refine Stps2.cons (o := _) ?_ ?_
  · intro ac yw hsz hold hB hp K hK
    have t9 : ac.tmps[9]? = some (.pointer (some ⟨w2.heap.size, 0, none⟩)) := hold 9 (by kernel_rfl)
    clear hold hp hsz
    have v0 := hB.now.1.cell
    have v1 := hB.now.1.cell1
    have v2 := hB.now.1.cell2
    have v3 := hB.now.2.2.1.cell
    have v4 := hB.now.2.2.1.cell1
    have v5 := hB.now.2.2.1.cell2
    have v6 := hB.now.2.2.2.2.1.cell
    have v7 := hB.now.2.2.2.2.1.cell1
    have v8 := hB.now.2.2.2.2.1.cell2
    go_simp
    exact hK.out _ _ ⟨hB, rfl, Nat.le_refl _, .inl (Below.refl _ _), fun h => absurd h (by decide)⟩
  refine Stps2.cons (o := _) ?_ ?_
  · intro ac yw hsz hold hB hp K hK
    obtain ⟨x103_3, n103_3, c103_3, m103_3, y103_3, o103_3, d103_3, e3, g3_0⟩ := hp 3 (by decide)
    have t45 : ac.tmps[45]? = some (.agg #[.slice x103_3 n103_3 c103_3, .bool m103_3, .slice y103_3 o103_3 d103_3]) := (List.cons.inj e3).1
    have e4 := hp 4 (by decide)
    have t46 : ac.tmps[46]? = some (.agg #[.slice d k l, .bool v, .slice d2 k2 l2]) := (List.cons.inj e4).1
    clear hold hp hsz e3 e4
    go_simp
    (go_at_call 7; (with_reducible refine (BY.out _ _ _ _ _ _ _ _ _ _ _ _ _ _ _ g3_0 hB.now.2.2.2.1).mono ?_); rintro e wz ⟨x105, n105, c105, m105, y105, o105, d105, rfl, h5_0, hbz⟩)
    exact hK.out _ _ ⟨hB.go hbz, Exists.intro x105 (Exists.intro n105 (Exists.intro c105 (Exists.intro m105 (Exists.intro y105 (Exists.intro o105 (Exists.intro d105 (And.intro rfl h5_0))))))), hbz.size, .inl hbz, fun h => absurd h (by decide)⟩
  refine Stps2.cons (o := _) ?_ ?_
  · intro ac yw hsz hold hB hp K hK
    obtain ⟨x105_5, n105_5, c105_5, m105_5, y105_5, o105_5, d105_5, e5, g5_0⟩ := hp 5 (by decide)
    have t47 : ac.tmps[47]? = some (.tuple #[.agg #[.slice x105_5 n105_5 c105_5, .bool m105_5, .slice y105_5 o105_5 d105_5], .bool false]) := (List.cons.inj e5).1
    clear hold hp hsz e5
    go_simp
    exact hK.out _ _ ⟨hB, Exists.intro x105_5 (Exists.intro n105_5 (Exists.intro c105_5 (Exists.intro m105_5 (Exists.intro y105_5 (Exists.intro o105_5 (Exists.intro d105_5 (And.intro rfl g5_0))))))), Nat.le_refl _, .inl (Below.refl _ _), fun h => absurd h (by decide)⟩
  refine Stps2.cons (o := _) ?_ ?_
  · intro ac yw hsz hold hB hp K hK
    obtain ⟨x105_6, n105_6, c105_6, m105_6, y105_6, o105_6, d105_6, e6, g6_0⟩ := hp 6 (by decide)
    have t41 : ac.tmps[41]? = some (.tuple #[.agg #[.slice x105_6 n105_6 c105_6, .bool m105_6, .slice y105_6 o105_6 d105_6], .bool false]) := (List.cons.inj e6).1
    clear hold hp hsz e6
    go_simp
    exact hK.out _ _ ⟨hB, Exists.intro x105_6 (Exists.intro n105_6 (Exists.intro c105_6 (Exists.intro m105_6 (Exists.intro y105_6 (Exists.intro o105_6 (Exists.intro d105_6 (And.intro rfl g6_0))))))), Nat.le_refl _, .inl (Below.refl _ _), fun h => absurd h (by decide)⟩
  refine Stps2.cons (o := _) ?_ ?_
  · intro ac yw hsz hold hB hp K hK
    obtain ⟨x105_6, n105_6, c105_6, m105_6, y105_6, o105_6, d105_6, e6, g6_0⟩ := hp 6 (by decide)
    have t41 : ac.tmps[41]? = some (.tuple #[.agg #[.slice x105_6 n105_6 c105_6, .bool m105_6, .slice y105_6 o105_6 d105_6], .bool false]) := (List.cons.inj e6).1
    clear hold hp hsz e6
    go_simp
    exact hK.out _ _ ⟨hB, rfl, Nat.le_refl _, .inl (Below.refl _ _), fun h => absurd h (by decide)⟩
  refine Stps2.cons (o := _) ?_ ?_
  · intro ac yw hsz hold hB hp K hK
    clear hold hp hsz
    have hk0 := hB.now.1.lt
    have hsl := Slot3.new yw (.slice none 0 0) (.bool false) (.slice none 0 0) 30
    have hbz : Below yw.heap.size yw (yw.alloc (.cells #[.slice none 0 0, .bool false, .slice none 0 0] 30)) ∧ yw.heap.size < (yw.alloc (.cells #[.slice none 0 0, .bool false, .slice none 0 0] 30)).heap.size := ⟨(Below.refl _ _).alloc (Nat.le_refl _) _, by simp⟩
    go_simp
    exact hK.out _ _ ⟨hB.alloc _, Exists.intro yw.heap.size (Exists.intro none (Exists.intro 0 (Exists.intro 0 (Exists.intro false (Exists.intro none (Exists.intro 0 (Exists.intro 0 (And.intro rfl (And.intro hsl hk0))))))))), Nat.le_of_lt hbz.2, .inl hbz.1, fun _ => ⟨_, rfl, Nat.le_refl _, hbz.2⟩⟩
  refine Stps2.cons (o := _) ?_ ?_
  · intro ac yw hsz hold hB hp K hK
    obtain ⟨k9_9, x0_9, y0_9, z0_9, b0_9, x1_9, y1_9, z1_9, e9, g9_0, g9_1⟩ := hp 9 (by decide)
    have t13 : ac.tmps[13]? = some (.pointer (some ⟨k9_9, 0, none⟩)) := (List.cons.inj e9).1
    obtain ⟨x105_7, n105_7, c105_7, m105_7, y105_7, o105_7, d105_7, e7, g7_0⟩ := hp 7 (by decide)
    have t48 : ac.tmps[48]? = some (.agg #[.slice x105_7 n105_7 c105_7, .bool m105_7, .slice y105_7 o105_7 d105_7]) := (List.cons.inj e7).1
    clear hold hp hsz e9 e7
    have hs := g9_0
    have l0 := hs.cell
    have l1 := hs.cell1
    have l2 := hs.cell2
    have f0 := hs.free
    have f1 := hs.free1
    have f2 := hs.free2
    have HB := HP.out _ _ hs g9_1 hB x105_7 n105_7 c105_7 m105_7 y105_7 o105_7 d105_7
    go_simp
    refine hK.out undef _ ⟨HB, Exists.intro k9_9 (Exists.intro x105_7 (Exists.intro n105_7 (Exists.intro c105_7 (Exists.intro m105_7 (Exists.intro y105_7 (Exists.intro o105_7 (Exists.intro d105_7 (And.intro (congrArg (fun x => [x]) t13) (And.intro (hs.set3 (.slice x105_7 n105_7 c105_7) (.bool m105_7) (.slice y105_7 o105_7 d105_7)) (RatAt.set3 g7_0 hs _ _ _)))))))))), by simp, .inr ?_, fun h => absurd h (by decide)⟩
    intro jj hj hap h
    match jj, h with
    | 0, h => exact h
    | 1, h => exact h
    | 2, ⟨k2, e2, g2_0⟩ =>
      have hne : k2 ≠ k9_9 := fun e => hap 9 (by decide) 2 (by decide) (by decide) (by decide) (by decide) k9_9 ⟨13, _, rfl, t13, rfl⟩ ⟨44, _, rfl, (List.cons.inj e2).1, congrArg some e⟩
      exact Exists.intro k2 (And.intro e2 (RatsAt.set3o g2_0 hne hs _ _ _))
    | 3, ⟨x103, n103, c103, m103, y103, o103, d103, e3, g3_0⟩ =>
      exact Exists.intro x103 (Exists.intro n103 (Exists.intro c103 (Exists.intro m103 (Exists.intro y103 (Exists.intro o103 (Exists.intro d103 (And.intro e3 (RatAt.set3 g3_0 hs _ _ _))))))))
    | 4, h => exact h
    | 5, ⟨x105, n105, c105, m105, y105, o105, d105, e5, g5_0⟩ =>
      exact Exists.intro x105 (Exists.intro n105 (Exists.intro c105 (Exists.intro m105 (Exists.intro y105 (Exists.intro o105 (Exists.intro d105 (And.intro e5 (RatAt.set3 g5_0 hs _ _ _))))))))
    | 6, ⟨x105, n105, c105, m105, y105, o105, d105, e6, g6_0⟩ =>
      exact Exists.intro x105 (Exists.intro n105 (Exists.intro c105 (Exists.intro m105 (Exists.intro y105 (Exists.intro o105 (Exists.intro d105 (And.intro e6 (RatAt.set3 g6_0 hs _ _ _))))))))
    | 7, ⟨x105, n105, c105, m105, y105, o105, d105, e7, g7_0⟩ =>
      exact Exists.intro x105 (Exists.intro n105 (Exists.intro c105 (Exists.intro m105 (Exists.intro y105 (Exists.intro o105 (Exists.intro d105 (And.intro e7 (RatAt.set3 g7_0 hs _ _ _))))))))
    | 8, h => exact h
    | 9, ⟨k9, x0, y0, z0, b0, x1, y1, z1, e9, g9_0, g9_1⟩ =>
      have e9 : k9 = k9_9 := by have := (List.cons.inj e9).1.symm.trans t13; cases this; rfl
      subst e9
      exact Exists.intro _ (Exists.intro _ (Exists.intro _ (Exists.intro _ (Exists.intro _ (Exists.intro _ (Exists.intro _ (Exists.intro _ (And.intro e9 (And.intro (g9_0.set3 _ _ _) g9_1)))))))))
    | 10, _ => exact absurd rfl hj
    | 11, h => exact h
    | _ + 12, h => exact h
  refine Stps2.cons (o := _) ?_ ?_
  · intro ac yw hsz hold hB hp K hK
    have e8 := hp 8 (by decide)
    have t49 : ac.tmps[49]? = some (.bool false) := (List.cons.inj e8).1
    clear hold hp hsz e8
    go_simp
    exact hK.out _ _ ⟨hB, rfl, Nat.le_refl _, .inl (Below.refl _ _), fun h => absurd h (by decide)⟩
  exact Stps2.nil _

theorem ratioBack_walk (b : Bool) (s t : ByteArray) (b' : Bool) (s' t' : ByteArray) (b'' : Bool) (s'' t'' : ByteArray) (w : World) (_ : s.size ≤ maxLen) (_ : t.size ≤ maxLen) (_ : s'.size ≤ maxLen) (_ : t'.size ≤ maxLen) (_ : s''.size ≤ maxLen) (_ : t''.size ≤ maxLen) :
    Calls Tryz.prog 3 #[.agg #[.bool b, .string s, .string t], .agg #[.bool b', .string s', .string t'], .agg #[.bool b'', .string s'', .string t'']] w fun e w' => e = .returned (.bool true) ∧ Below w.heap.size w w' := by
  cases h : (rd3 b s t && rd3 b' s' t' && rd3 b'' s'' t'') with
  | false => exact ratioBack_no b s t b' s' t' b'' s'' t'' w h
  | true =>
    rw [Bool.and_eq_true, Bool.and_eq_true] at h
    by_cases hz : ofP b' s' t' = 0
    · exact ratioBack_yes0 b s t b' s' t' b'' s'' t'' w h.1.1 h.1.2 h.2 hz
    · exact ratioBack_yes1 b s t b' s' t' b'' s'' t'' w h.1.1 h.1.2 h.2 hz

theorem own : ownKnob Tryz.prog.godebug = none := by kernel_rfl

set_option maxRecDepth 100000 in
theorem ratioBack_lifted (os : Os) (started : os.Started) (H : Type) (enc : TypeId × Value → H) :
    ReturnsInHanded {} Tryz.checked os 3 .any (fun w args => (Rows.ratioBackSpec.pre enc Tryz.prog Tryz.f3 [] false w args ∧ laidMetH Tryz.prog Rows.ratioBackRow.laid w) ∧ sizedMet enc Tryz.prog Tryz.f3 (OpenSpec.ofChange Rows.ratioBackSpec) false w args)
      (Rows.ratioBackSpec.post enc Tryz.prog Tryz.f3 false true false false) := by
  refine returnsInHanded_of_change_and (C := Tryz.checked) (X := fun w _ => laidMetH Tryz.prog Rows.ratioBackRow.laid w) (fun _ _ _ hh h => h.of_heap hh) own started (by kernel_rfl) Tryz.func3
    (ChangeSpec.witness_shaped (enc := enc) (C := Tryz.checked) (os := os) (X := fun w _ => laidMetH Tryz.prog Rows.ratioBackRow.laid w) false (World.laidAll Tryz.prog os Rows.ratioBackRow.laid) #[.agg #[.bool false, .string ⟨#[]⟩, .string ⟨#[]⟩], .agg #[.bool false, .string ⟨#[]⟩, .string ⟨#[]⟩], .agg #[.bool false, .string ⟨#[]⟩, .string ⟨#[]⟩]] 8 (World.laidAll_os _ _ _)
      (World.shaped_of_ZipB (by kernel_rfl) (by kernel_rfl)) (by kernel_rfl) (by kernel_rfl) (by kernel_rfl)
      (by rw [MakeChecks.laidMetH_plain _ _ _ (by kernel_rfl)]; exact laidMet_laidAll _ (by kernel_rfl) (by kernel_rfl))) ?_
  intro W base args ds gs before hval0 hW _ _ _ _
  have hval : ∀ (j : Nat) t v, Tryz.f3.params[j]? = some t → args[j]? = some v → Value.okWide Tryz.prog W .any base t v := hval0
  have hW' := hW
  obtain ⟨p, q, hA0, hV, rfl, _, _⟩ := hW
  have hA : DataW.TrodAll enc Tryz.prog W 0 (fun _ => true) true Tryz.f3.params.toList args.toList ds p := hA0
  rw [Tryz.params3] at hA hval
  obtain ⟨v0, v1, v2, d0, d1, d2, p0, p1, p2, rfl, rfl, rfl, h0, h1, h2⟩ := trodAll_three hA
  obtain ⟨rfl, rfl⟩ := trodVars_none hV
  obtain ⟨x0, y0, z0, rfl, rfl, rfl, b0, c0⟩ := open_num (hval 0 23 v0 rfl rfl) h0
  obtain ⟨x1, y1, z1, rfl, rfl, rfl, b1, c1⟩ := open_num (hval 1 23 v1 rfl rfl) h1
  obtain ⟨x2, y2, z2, rfl, rfl, rfl, b2, c2⟩ := open_num (hval 2 23 v2 rfl rfl) h2
  simp only [List.append_nil] at hW'
  refine (ratioBack_walk x0 y0 z0 x1 y1 z1 x2 y2 z2 W b0 c0 b1 c1 b2 c2).mono fun e W' ⟨he, hb⟩ => ?_
  subst he
  exact ⟨_, rfl, _, _, _, [], [], [], hW', trodAll_mk1 (shut_bool Tryz.underlying4 _), trodAll_mk3 (shut_num b0 c0) (shut_num b1 c1) (shut_num b2 c2), rfl, hb.frame _, fun h => by cases h⟩

theorem ratioBack_row : Rows.RatioBackSaid :=
  OpenClaim.holds_of_wide 3 Tryz.f3 rfl rfl rfl rfl rfl rfl rfl ⟨rfl, rfl, rfl, rfl, rfl⟩ rfl rfl rfl rfl rfl (by kernel_rfl) Tryz.func3 (by kernel_rfl)
    (of_decide_eq_true (by kernel_rfl)) (by unfold Func.isWrapper; first | (rw [if_pos (by decide +kernel)]; kernel_rfl) | (rw [if_neg (by decide +kernel)]; exact ⟨rfl, rfl⟩))
    (fun os started H enc _ => ratioBack_lifted os started H enc)

theorem ratioBack_holds : Rows.RatioBackCardSaid :=
  Claim7.holds_tied_plain_at .later [] [.data, .pinned] true Rows.ratioBackCard.stood.harness Rows.ratioBackCard.stood.looks ratioBack_row (fun _ h => by cases h) (by kernel_rfl) (fun _ h => by cases h) ratioBack_row_tie rfl ⟨rfl, rfl⟩ (by kernel_rfl) rfl
    (fun f fn hf hfn => by
      obtain rfl : f = 3 := Option.some.inj ((show Tryz.prog.funcNamed "typeball/typeballlaw03.RatioBack" = some 3 by kernel_rfl).symm.trans hf) |>.symm
      obtain rfl : fn = Tryz.f3 := (Option.some.inj (Tryz.func3.symm.trans hfn)).symm
      exact ⟨by kernel_rfl, fun j t ht => by
        rw [Tryz.params3] at ht
        have hm : t ∈ [23] := by simpa using Array.mem_of_getElem? ht
        have hall : ([23].all fun u => !Tryz.prog.wantsStandIn u) = true := by kernel_rfl
        exact (show Tryz.prog.wantsStandIn t = false by simpa using List.all_eq_true.1 hall t hm)⟩)
    (by kernel_rfl)
#print axioms ratioBack_holds
end Go.Proofs.YthklcdcikmninaaGreatDoor
