/-
  Proved: the law DyadTurned of package typeballlaw13 returns true for every two numbers, under the row's own conditions.
-/
import Derived.Test.YtpdcdebnkbnogaaGreatDoorQ1
import Derived.Test.YtpdcdebnkbnogaaGreatDoorQ2
import Derived.Test.YtpdcdebnkbnogaaGreatDoorQ3
import Derived.Test.YtpdcdebnkbnogaaGreatDoorQ4
import Derived.Test.YtpdcdebnkbnogaaGreatDoorQ5
import Derived.Test.YtpdcdebnkbnogaaGreatDoorQ6
import Derived.Test.YtpdcdebnkbnogaaGreatDoorQ7
import Derived.Test.YtpdcdebnkbnogaaGreatDoorQ8
import Derived.Test.YtpdcdebnkbnogaaGreatDoorQ9
import Derived.Test.YtpdcdebnkbnogaaGreatDoorQ10
import Derived.Test.YtpdcdebnkbnogaaGreatDoorU1
import Derived.Test.YtpdcdebnkbnogaaGreatDoorU2
import Derived.Test.YtpdcdebnkbnogaaGreatDoorCards
import Derived.Test.YtpdcdebnkbnogaaGreatDoorTie
import Derived.Deep.Strs
import Derived.ProofKit
import Derived.OpenShut
import Derived.LaidMore
import Derived.Lay
import Derived.SevenTiedAt
import Derived.Stop.Joined
import Derived.Laws.StructEq
set_option maxHeartbeats 12800000
set_option maxRecDepth 100000
set_option linter.unusedSimpArgs false
set_option linter.unusedVariables false
namespace Go.Proofs.YtpdcdebnkbnogaaGreatDoor
open Go.ChangeShapes Go.WideShapes Go.ChangeAt Go.RowKit Go.WideMaps Go.WideElems
open Go.ChangeMaps (open_string shut_string)
attribute [local go_sem ↓] Go.wp_at_zero Go.wp_at_succ
set_option linter.unusedVariables false
set_option linter.unusedSimpArgs false
theorem Bag.putR {w yy : World} {P : World -> Prop} {N : Nat} (B0 : Bag w P yy) (hN : w.heap.size <= N) (hp : ∀ (y : World) (k9 : Nat) (x0 : Option Addr) (y0 z0 : Nat) (b0 : Bool) (u1 : Option Addr) (p1 z1 : Nat), Slot3 y k9 (.slice x0 y0 z0) (.bool b0) (.slice u1 p1 z1) -> N < k9 -> P y -> ∀ (a9 : Option Addr) (n9 c9 : Nat) (m9 : Bool) (a10 : Option Addr) (n10 c10 : Nat), P (((y.setCell ⟨k9, 0, none⟩ (.slice a9 n9 c9)).setCell ⟨k9, 1, none⟩ (.bool m9)).setCell ⟨k9, 2, none⟩ (.slice a10 n10 c10))) :
    ∀ (y : World) (k9 : Nat) {x0 : Option Addr} {y0 z0 : Nat} {b0 : Bool} {u1 : Option Addr} {p1 z1 : Nat}, Slot3 y k9 (.slice x0 y0 z0) (.bool b0) (.slice u1 p1 z1) -> N < k9 -> Bag w P y -> ∀ (a9 : Option Addr) (n9 c9 : Nat) (m9 : Bool) (a10 : Option Addr) (n10 c10 : Nat), Bag w P (((y.setCell ⟨k9, 0, none⟩ (.slice a9 n9 c9)).setCell ⟨k9, 1, none⟩ (.bool m9)).setCell ⟨k9, 2, none⟩ (.slice a10 n10 c10)) :=
 fun y k9 _ _ _ _ _ _ _ s hk B a9 n9 c9 m9 a10 n10 c10 => ⟨((B.below.setCell (p := ⟨k9, 0, none⟩) (show w.heap.size <= k9 by omega) _).setCell (p := ⟨k9, 1, none⟩) (show w.heap.size <= k9 by omega) _).setCell (p := ⟨k9, 2, none⟩) (show w.heap.size <= k9 by omega) _, B.stay, hp y k9 _ _ _ _ _ _ _ s hk B.now a9 n9 c9 m9 a10 n10 c10⟩
structure SgAt (y : World) (k : Nat) : Prop where
 lt : k < y.heap.size
 at' : ∀ j, j < 6 -> y.cell? ⟨k, j, none⟩ = some (.int .i32 (sgT j))
theorem SgAt.below {w w' : World} {k : Nat} (h : SgAt w k) (hb : Below w.heap.size w w') : SgAt w' k := ⟨Nat.lt_of_lt_of_le h.lt hb.size, fun j hj => (hb.cell (p := ⟨k, j, none⟩) h.lt).trans (h.at' j hj)⟩
theorem SgAt.set3o {w : World} {k j : Nat} (h : SgAt w j) (e : j ≠ k) (u v t : Value) : SgAt (((w.setCell ⟨k, 0, none⟩ u).setCell ⟨k, 1, none⟩ v).setCell ⟨k, 2, none⟩ t) j := by
 have hn : ∀ o o' : Nat, (⟨k, o, none⟩ : Addr) ≠ ⟨j, o', none⟩ := fun o o' h => e (by cases h; rfl)
 exact ⟨by simpa using h.lt, fun i hi => by rw [World.cell?_setCell_other _ _ _ _ (hn _ _), World.cell?_setCell_other _ _ _ _ (hn _ _), World.cell?_setCell_other _ _ _ _ (hn _ _)]; exact h.at' i hi⟩
theorem SgAt.new (w : World) (t : TypeId) : SgAt (w.alloc (.cells sgV t)) w.heap.size := ⟨by simp, fun j hj => sgT_cell (Row.new w t sgV) hj⟩
theorem Bag.sg {w0 w : World} {P : World -> Prop} {k : Nat} (h : Bag w0 P w) (q : SgAt w k) : Bag w0 (fun y => SgAt y k /\ P y) w := h.add (fun _ _ hb q => q.below hb) q
theorem dyadTurned_no1 (b : Bool) (s t : ByteArray) (b' : Bool) (s' t' : ByteArray) (w : World) (hA : rd13 b s t = false) :
    Calls Tryz.prog 6 #[.agg #[.bool b, .string s, .string t], .agg #[.bool b', .string s', .string t']] w fun e w' => e = .returned (.bool true) /\ Below w.heap.size w w' := by
 cases hB : rd13 b' s' t' with
 | true =>
  have BB := Lib.hid (((Bag.start w).box3 (.bool b) (.string s) (.string t) 46).box3 (.bool b') (.string s') (.string t') 46)
  simp only [World.size_alloc] at BB
  have AW := Lib.hid (fun wz => awake13_any wz)
  have RA := Lib.hid (fun wz => read13_no b s t wz hA)
  unfold RatTold3 at RA
  have RB := Lib.hid (fun wz => read13_yes b' s' t' wz hB)
  unfold RatTold3 at RB
  generalize ofP b' s' t' = P at *
  generalize ofQ b' s' t' = Q at *
  clear hA hB
  have q00 := BB.out.now.2.1.cell
  have q01 := BB.out.now.2.1.cell1
  have q02 := BB.out.now.2.1.cell2
  have q10 := BB.out.now.1.cell
  have q11 := BB.out.now.1.cell1
  have q12 := BB.out.now.1.cell2
  go_enter Tryz.func6, Tryz.ntmps6
  go_wp2_with fail
  go_at_call 15
  (with_reducible refine (RA.out _).mono ?_)
  rintro e w1 ⟨x1, xn1, xc1, xm1, y1, yn1, yc1, rfl, hr1, hb1⟩
  have BB := Lib.hid (((BB.out.go hb1).rat hr1).box3 (.slice x1 xn1 xc1) (.bool xm1) (.slice y1 yn1 yc1) 53)
  clear hb1
  clear hr1
  clear q00 q01 q02 q10 q11 q12
  have q00 := BB.out.now.2.2.2.1.cell
  have q01 := BB.out.now.2.2.2.1.cell1
  have q02 := BB.out.now.2.2.2.1.cell2
  have q10 := BB.out.now.2.2.1.cell
  have q11 := BB.out.now.2.2.1.cell1
  have q12 := BB.out.now.2.2.1.cell2
  go_wp2_with fail
  go_at_call 15
  (with_reducible refine (RB.out _).mono ?_)
  rintro e w2 ⟨x2, xn2, xc2, xm2, y2, yn2, yc2, rfl, hr2, hb2⟩
  have BB := Lib.hid (((BB.out.go hb2).rat hr2).box3 (.slice x2 xn2 xc2) (.bool xm2) (.slice y2 yn2 yc2) 53)
  clear hb2
  clear hr2
  clear q00 q01 q02 q10 q11 q12
  have q00 := BB.out.now.2.2.2.2.2.1.cell
  have q01 := BB.out.now.2.2.2.2.2.1.cell1
  have q02 := BB.out.now.2.2.2.2.2.1.cell2
  have q10 := BB.out.now.2.2.2.2.1.cell
  have q11 := BB.out.now.2.2.2.2.1.cell1
  have q12 := BB.out.now.2.2.2.2.1.cell2
  go_wp2_with fail
  go_at_call 16
  (with_reducible refine (AW.out _).mono ?_)
  rintro e w3 ⟨rfl, hb3⟩
  have BB := Lib.hid (BB.out.go hb3)
  clear hb3
  clear q00 q01 q02 q10 q11 q12
  have q00 := BB.out.now.2.2.2.2.2.1.cell
  have q01 := BB.out.now.2.2.2.2.2.1.cell1
  have q02 := BB.out.now.2.2.2.2.2.1.cell2
  have q10 := BB.out.now.2.2.2.2.1.cell
  have q11 := BB.out.now.2.2.2.2.1.cell1
  have q12 := BB.out.now.2.2.2.2.1.cell2
  go_wp2
  go_ret
  exact ⟨rfl, BB.out.below⟩
 | false =>
  have BB := Lib.hid (((Bag.start w).box3 (.bool b) (.string s) (.string t) 46).box3 (.bool b') (.string s') (.string t') 46)
  simp only [World.size_alloc] at BB
  have AW := Lib.hid (fun wz => awake13_any wz)
  have RA := Lib.hid (fun wz => read13_no b s t wz hA)
  unfold RatTold3 at RA
  have RB := Lib.hid (fun wz => read13_no b' s' t' wz hB)
  unfold RatTold3 at RB
  clear hA hB
  have q00 := BB.out.now.2.1.cell
  have q01 := BB.out.now.2.1.cell1
  have q02 := BB.out.now.2.1.cell2
  have q10 := BB.out.now.1.cell
  have q11 := BB.out.now.1.cell1
  have q12 := BB.out.now.1.cell2
  go_enter Tryz.func6, Tryz.ntmps6
  go_wp2_with fail
  go_at_call 15
  (with_reducible refine (RA.out _).mono ?_)
  rintro e w1 ⟨x1, xn1, xc1, xm1, y1, yn1, yc1, rfl, hr1, hb1⟩
  have BB := Lib.hid (((BB.out.go hb1).rat hr1).box3 (.slice x1 xn1 xc1) (.bool xm1) (.slice y1 yn1 yc1) 53)
  clear hb1
  clear hr1
  clear q00 q01 q02 q10 q11 q12
  have q00 := BB.out.now.2.2.2.1.cell
  have q01 := BB.out.now.2.2.2.1.cell1
  have q02 := BB.out.now.2.2.2.1.cell2
  have q10 := BB.out.now.2.2.1.cell
  have q11 := BB.out.now.2.2.1.cell1
  have q12 := BB.out.now.2.2.1.cell2
  go_wp2_with fail
  go_at_call 15
  (with_reducible refine (RB.out _).mono ?_)
  rintro e w2 ⟨x2, xn2, xc2, xm2, y2, yn2, yc2, rfl, hr2, hb2⟩
  have BB := Lib.hid (((BB.out.go hb2).rat hr2).box3 (.slice x2 xn2 xc2) (.bool xm2) (.slice y2 yn2 yc2) 53)
  clear hb2
  clear hr2
  clear q00 q01 q02 q10 q11 q12
  have q00 := BB.out.now.2.2.2.2.2.1.cell
  have q01 := BB.out.now.2.2.2.2.2.1.cell1
  have q02 := BB.out.now.2.2.2.2.2.1.cell2
  have q10 := BB.out.now.2.2.2.2.1.cell
  have q11 := BB.out.now.2.2.2.2.1.cell1
  have q12 := BB.out.now.2.2.2.2.1.cell2
  go_wp2_with fail
  go_at_call 16
  (with_reducible refine (AW.out _).mono ?_)
  rintro e w3 ⟨rfl, hb3⟩
  have BB := Lib.hid (BB.out.go hb3)
  clear hb3
  clear q00 q01 q02 q10 q11 q12
  have q00 := BB.out.now.2.2.2.2.2.1.cell
  have q01 := BB.out.now.2.2.2.2.2.1.cell1
  have q02 := BB.out.now.2.2.2.2.2.1.cell2
  have q10 := BB.out.now.2.2.2.2.1.cell
  have q11 := BB.out.now.2.2.2.2.1.cell1
  have q12 := BB.out.now.2.2.2.2.1.cell2
  go_wp2
  go_ret
  exact ⟨rfl, BB.out.below⟩
theorem dyadTurned_no2 (b : Bool) (s t : ByteArray) (b' : Bool) (s' t' : ByteArray) (w : World) (hA : rd13 b s t = true) (hB : rd13 b' s' t' = false) :
    Calls Tryz.prog 6 #[.agg #[.bool b, .string s, .string t], .agg #[.bool b', .string s', .string t']] w fun e w' => e = .returned (.bool true) /\ Below w.heap.size w w' := by
 have BB := Lib.hid (((Bag.start w).box3 (.bool b) (.string s) (.string t) 46).box3 (.bool b') (.string s') (.string t') 46)
 simp only [World.size_alloc] at BB
 have AW := Lib.hid (fun wz => awake13_any wz)
 have RA := Lib.hid (fun wz => read13_yes b s t wz hA)
 unfold RatTold3 at RA
 have RB := Lib.hid (fun wz => read13_no b' s' t' wz hB)
 unfold RatTold3 at RB
 generalize ofP b s t = P at *
 generalize ofQ b s t = Q at *
 clear hA hB
 have q00 := BB.out.now.2.1.cell
 have q01 := BB.out.now.2.1.cell1
 have q02 := BB.out.now.2.1.cell2
 have q10 := BB.out.now.1.cell
 have q11 := BB.out.now.1.cell1
 have q12 := BB.out.now.1.cell2
 go_enter Tryz.func6, Tryz.ntmps6
 go_wp2_with fail
 go_at_call 15
 (with_reducible refine (RA.out _).mono ?_)
 rintro e w1 ⟨x1, xn1, xc1, xm1, y1, yn1, yc1, rfl, hr1, hb1⟩
 have BB := Lib.hid (((BB.out.go hb1).rat hr1).box3 (.slice x1 xn1 xc1) (.bool xm1) (.slice y1 yn1 yc1) 53)
 clear hb1
 clear hr1
 clear q00 q01 q02 q10 q11 q12
 have q00 := BB.out.now.2.2.2.1.cell
 have q01 := BB.out.now.2.2.2.1.cell1
 have q02 := BB.out.now.2.2.2.1.cell2
 have q10 := BB.out.now.2.2.1.cell
 have q11 := BB.out.now.2.2.1.cell1
 have q12 := BB.out.now.2.2.1.cell2
 go_wp2_with fail
 go_at_call 15
 (with_reducible refine (RB.out _).mono ?_)
 rintro e w2 ⟨x2, xn2, xc2, xm2, y2, yn2, yc2, rfl, hr2, hb2⟩
 have BB := Lib.hid (((BB.out.go hb2).rat hr2).box3 (.slice x2 xn2 xc2) (.bool xm2) (.slice y2 yn2 yc2) 53)
 clear hb2
 clear hr2
 clear q00 q01 q02 q10 q11 q12
 have q00 := BB.out.now.2.2.2.2.2.1.cell
 have q01 := BB.out.now.2.2.2.2.2.1.cell1
 have q02 := BB.out.now.2.2.2.2.2.1.cell2
 have q10 := BB.out.now.2.2.2.2.1.cell
 have q11 := BB.out.now.2.2.2.2.1.cell1
 have q12 := BB.out.now.2.2.2.2.1.cell2
 go_wp2_with fail
 go_at_call 16
 (with_reducible refine (AW.out _).mono ?_)
 rintro e w3 ⟨rfl, hb3⟩
 have BB := Lib.hid (BB.out.go hb3)
 clear hb3
 clear q00 q01 q02 q10 q11 q12
 have q00 := BB.out.now.2.2.2.2.2.1.cell
 have q01 := BB.out.now.2.2.2.2.2.1.cell1
 have q02 := BB.out.now.2.2.2.2.2.1.cell2
 have q10 := BB.out.now.2.2.2.2.1.cell
 have q11 := BB.out.now.2.2.2.2.1.cell1
 have q12 := BB.out.now.2.2.2.2.1.cell2
 go_wp2
 go_ret
 exact ⟨rfl, BB.out.below⟩
theorem start13 {w y : World} {k1 k2 : Nat} {x1 : Option Addr} {n1 c1 : Nat} {m1 : Bool} {y1 : Option Addr} {o1 d1 : Nat} {x2 : Option Addr} {n2 c2 : Nat} {m2 : Bool} {y2 : Option Addr} {o2 d2 : Nat} {P P' : Int} {Q Q' : Nat} {U : World -> Prop}
    (h : Bag w (fun y => Slot3 y k2 (.slice x2 n2 c2) (.bool m2) (.slice y2 o2 d2) /\ RatAt y x2 n2 c2 m2 y2 o2 d2 P' Q' /\ Slot3 y k1 (.slice x1 n1 c1) (.bool m1) (.slice y1 o1 d1) /\ RatAt y x1 n1 c1 m1 y1 o1 d1 P Q /\ U y) y) :
    Bag w (fun y => Slot3 y k2 (.slice x2 n2 c2) (.bool m2) (.slice y2 o2 d2) /\ RatAt y x2 n2 c2 m2 y2 o2 d2 P' Q' /\ Slot3 y k1 (.slice x1 n1 c1) (.bool m1) (.slice y1 o1 d1) /\ RatAt y x1 n1 c1 m1 y1 o1 d1 P Q /\ True) y :=
 ⟨h.below, fun _ _ hb q => ⟨q.1.below hb, q.2.1.below hb, q.2.2.1.below hb, q.2.2.2.1.below hb, trivial⟩, h.now.1, h.now.2.1, h.now.2.2.1, h.now.2.2.2.1, trivial⟩
theorem end13 {w y : World} {kS k1 k2 : Nat} {x1 : Option Addr} {n1 c1 : Nat} {m1 : Bool} {y1 : Option Addr} {o1 d1 : Nat} {x2 : Option Addr} {n2 c2 : Nat} {m2 : Bool} {y2 : Option Addr} {o2 d2 : Nat} {P P' : Int} {Q Q' : Nat} {A B C D : World -> Prop}
    (h : Bag w (fun y => A y /\ B y /\ C y /\ D y /\ SgAt y kS /\ Slot3 y k2 (.slice x2 n2 c2) (.bool m2) (.slice y2 o2 d2) /\ RatAt y x2 n2 c2 m2 y2 o2 d2 P' Q' /\ Slot3 y k1 (.slice x1 n1 c1) (.bool m1) (.slice y1 o1 d1) /\ RatAt y x1 n1 c1 m1 y1 o1 d1 P Q /\ True) y) :
    Bag w (fun y => SgAt y kS /\ Slot3 y k2 (.slice x2 n2 c2) (.bool m2) (.slice y2 o2 d2) /\ RatAt y x2 n2 c2 m2 y2 o2 d2 P' Q' /\ Slot3 y k1 (.slice x1 n1 c1) (.bool m1) (.slice y1 o1 d1) /\ RatAt y x1 n1 c1 m1 y1 o1 d1 P Q /\ True) y :=
 have q := h.now.2.2.2.2
 ⟨h.below, fun _ _ hb q => ⟨q.1.below hb, q.2.1.below hb, q.2.2.1.below hb, q.2.2.2.1.below hb, q.2.2.2.2.1.below hb, trivial⟩, q.1, q.2.1, q.2.2.1, q.2.2.2.1, q.2.2.2.2.1, trivial⟩
theorem dyadTurned_yes (b : Bool) (s t : ByteArray) (b' : Bool) (s' t' : ByteArray) (w : World) (hA : rd13 b s t = true) (hB : rd13 b' s' t' = true) :
    Calls Tryz.prog 6 #[.agg #[.bool b, .string s, .string t], .agg #[.bool b', .string s', .string t']] w fun e w' => e = .returned (.bool true) /\ Below w.heap.size w w' := by
 have BB := Lib.hid (((Bag.start w).box3 (.bool b) (.string s) (.string t) 46).box3 (.bool b') (.string s') (.string t') 46)
 simp only [World.size_alloc] at BB
 have AW := Lib.hid (fun wz => awake13_any wz)
 have RA := Lib.hid (fun wz => read13_yes b s t wz hA)
 unfold RatTold3 at RA
 have RB := Lib.hid (fun wz => read13_yes b' s' t' wz hB)
 unfold RatTold3 at RB
 obtain ⟨_, _, _, hQ, _, _, _, g1, g2⟩ := rd13_spec hA
 obtain ⟨_, _, _, hQ', _, _, _, g3, g4⟩ := rd13_spec hB
 generalize ofP b s t = P at *
 generalize ofQ b s t = Q at *
 generalize ofP b' s' t' = P' at *
 generalize ofQ b' s' t' = Q' at *
 have TU := Lib.hid (fun j => turned_any hQ hQ' g1 g2 g3 g4 (sgT_in j))
 unfold Turned at TU
 have WA := Lib.hid (fun (c : Int) (hc : c ≠ 42) a n d m a2 n2 d2 b k l v b2 k2 l2 wz h g => dtwo_any c a n d m a2 n2 d2 P Q b k l v b2 k2 l2 P' Q' 64 wz h g hQ hQ' 7 (by decide) g1 g2 g3 g4 (by decide) (fun e => absurd e hc))
 have WB := Lib.hid (fun (c : Int) (hc : c ≠ 42) a n d m a2 n2 d2 b k l v b2 k2 l2 wz h g => dtwo_any c a n d m a2 n2 d2 P' Q' b k l v b2 k2 l2 P Q 64 wz h g hQ' hQ 7 (by decide) g3 g4 g1 g2 (by decide) (fun e => absurd e hc))
 obtain ⟨L, E, A, e1, e2, e3, e4, e5, e6, hL, hE, hA9⟩ := tri_any P Q P' Q'
 have W1 := Lib.hid (WA.out 60 (by decide))
 have W2 := Lib.hid (WB.out 62 (by decide))
 have W3 := Lib.hid (WA.out 61 (by decide))
 have W4 := Lib.hid (WA.out 62 (by decide))
 rw [e1] at W1
 rw [e2] at W2
 rw [e3] at W3
 rw [e4] at W4
 unfold RatTold4 at W1 W2 W3 W4
 have sml : ∀ Z : Int, 0 <= Z /\ Z <= 2 -> Z.natAbs < 4294967296 ^ 2 := fun Z h => Nat.lt_of_le_of_lt (show Z.natAbs <= 2 by omega) (by decide)
 have CL : Hid (∀ a n c m a2 n2 c2 b k l v b2 k2 l2 wz, RatAt wz a n c m a2 n2 c2 L 1 -> RatAt wz b k l v b2 k2 l2 L 1 -> Calls Tryz.prog 24 #[.agg #[.slice a n c, .bool m, .slice a2 n2 c2], .agg #[.slice b k l, .bool v, .slice b2 k2 l2]] wz fun e w' => e = .returned (.int .i64 0) /\ Below wz.heap.size wz w') := Lib.hid (fun a n c m a2 n2 c2 b k l v b2 k2 l2 wz h g => by
  have := ratCmp_any a n c m a2 n2 c2 L 1 b k l v b2 k2 l2 L 1 wz h g Nat.one_pos Nat.one_pos 2 (by decide) (sml L (by omega)) (by decide) (sml L (by omega)) (by decide)
  rw [cmpZ_eq rfl] at this
  exact this)
 have PT : Hid (∀ a n c m a2 n2 c2 sa wz, RatAt wz a n c m a2 n2 c2 L 1 -> RatsAt wz sa 2 2 (twoP E A) (twoQ 1 1) -> Calls Tryz.prog 25 #[.agg #[.slice a n c, .bool m, .slice a2 n2 c2], .slice sa 2 2] wz fun e w' => RatTold wz w' e 1 1) := Lib.hid (fun a n c m a2 n2 c2 sa wz h g => by
  have := ratPlus_any a n c m a2 n2 c2 L 1 sa 2 2 (twoP E A) (twoQ 1 1) wz h g Nat.one_pos (fun j _ => by unfold twoQ; split <;> decide) 2 (by decide) (fun k hk => by
   have s1 : (1 : Nat) < 4294967296 ^ 2 := by decide
   rcases (by omega : k = 0 ∨ k = 1) with rfl | rfl
   · exact ⟨sml L (by omega), s1, sml E (by omega), s1⟩
   · rw [e6]
     exact ⟨sml (L + E) (by omega), s1, sml A (by omega), s1⟩)
  rw [e5] at this
  exact this)
 unfold RatTold at PT
 have FR1 := Lib.hid (fun wz => ratFrom_any 1 wz (by decide))
 have C1 : Hid (∀ a n c m a2 n2 c2 b k l v b2 k2 l2 wz, RatAt wz a n c m a2 n2 c2 1 1 -> RatAt wz b k l v b2 k2 l2 1 1 -> Calls Tryz.prog 24 #[.agg #[.slice a n c, .bool m, .slice a2 n2 c2], .agg #[.slice b k l, .bool v, .slice b2 k2 l2]] wz fun e w' => e = .returned (.int .i64 0) /\ Below wz.heap.size wz w') := Lib.hid (fun a n c m a2 n2 c2 b k l v b2 k2 l2 wz h g => ratCmp_any a n c m a2 n2 c2 1 1 b k l v b2 k2 l2 1 1 wz h g Nat.one_pos Nat.one_pos 2 (by decide) (by decide) (by decide) (by decide) (by decide))
 clear hA hB hQ hQ' g1 g2 g3 g4 e1 e2 e3 e4 e5 e6 hL hE hA9 sml
 have q00 := BB.out.now.2.1.cell
 have q01 := BB.out.now.2.1.cell1
 have q02 := BB.out.now.2.1.cell2
 have q10 := BB.out.now.1.cell
 have q11 := BB.out.now.1.cell1
 have q12 := BB.out.now.1.cell2
 go_enter Tryz.func6, Tryz.ntmps6
 go_wp2_with fail
 go_at_call 15
 (with_reducible refine (RA.out _).mono ?_)
 rintro e w1 ⟨x1, xn1, xc1, xm1, y1, yn1, yc1, rfl, hr1, hb1⟩
 have j1 : w.heap.size + 1 < w1.heap.size := by have := hb1.size; simp only [World.size_alloc] at this; omega
 have BB := Lib.hid (((BB.out.go hb1).rat hr1).box3 (.slice x1 xn1 xc1) (.bool xm1) (.slice y1 yn1 yc1) 53)
 clear hb1
 clear hr1
 clear q00 q01 q02 q10 q11 q12
 have q00 := BB.out.now.2.2.2.1.cell
 have q01 := BB.out.now.2.2.2.1.cell1
 have q02 := BB.out.now.2.2.2.1.cell2
 have q10 := BB.out.now.2.2.1.cell
 have q11 := BB.out.now.2.2.1.cell1
 have q12 := BB.out.now.2.2.1.cell2
 go_wp2_with fail
 go_at_call 15
 (with_reducible refine (RB.out _).mono ?_)
 rintro e w2 ⟨x2, xn2, xc2, xm2, y2, yn2, yc2, rfl, hr2, hb2⟩
 have j2 : w1.heap.size < w2.heap.size := by have := hb2.size; simp only [World.size_alloc] at this; omega
 have BB := Lib.hid (((BB.out.go hb2).rat hr2).box3 (.slice x2 xn2 xc2) (.bool xm2) (.slice y2 yn2 yc2) 53)
 clear hb2
 clear hr2
 clear q00 q01 q02 q10 q11 q12
 have q00 := BB.out.now.2.2.2.2.2.1.cell
 have q01 := BB.out.now.2.2.2.2.2.1.cell1
 have q02 := BB.out.now.2.2.2.2.2.1.cell2
 have q10 := BB.out.now.2.2.2.2.1.cell
 have q11 := BB.out.now.2.2.2.2.1.cell1
 have q12 := BB.out.now.2.2.2.2.1.cell2
 have BB := Lib.hid (start13 BB.out)
 go_wp2_with fail
 have BB := Lib.hid ((BB.out.alloc (.cells sgV 21)).sg (SgAt.new _ 21))
 simp only [World.size_alloc] at BB
 generalize hW : (World.alloc _ (.cells sgV 21)) = Y0 at *
 clear hW
 go_loopw [10] (fun i wr => ∃ j : Nat, j <= 6 /\ i = .int .i64 (j : Int) /\ Hid (Bag w (fun y => SgAt y (w2.heap.size + 1) /\ Slot3 y w2.heap.size (.slice x2 xn2 xc2) (.bool xm2) (.slice y2 yn2 yc2) /\ RatAt y x2 xn2 xc2 xm2 y2 yn2 yc2 P' Q' /\ Slot3 y w1.heap.size (.slice x1 xn1 xc1) (.bool xm1) (.slice y1 yn1 yc1) /\ RatAt y x1 xn1 xc1 xm1 y1 yn1 yc1 P Q /\ True) wr)) (fun i _ => 7 - (intOf i).toNat)
 case atStart => exact ⟨0, by omega, rfl, BB.out⟩
 case round =>
  obtain ⟨j, hj, rfl, hB9⟩ := hrel
  have BB := Lib.hid hB9.out
  clear hB9
  by_cases hj6 : j < 6
  · obtain ⟨X, Y, X', Y', f1, f2, f3, y1', y2', b1, b2, b3, b4⟩ := TU.out j
    have TA := Lib.hid (WA.out (sgT j) (by have := sgT_in j; omega))
    have TB := Lib.hid (WB.out (sgT j) (by have := sgT_in j; omega))
    rw [f1] at TA
    rw [f2] at TB
    unfold RatTold4 at TA TB
    obtain ⟨c9, hc9⟩ : ∃ z, sgT j = z := ⟨_, rfl⟩
    rw [hc9] at TA TB
    have CX : Hid (∀ a n c m a2 n2 c2 b k l v b2 k2 l2 wz, RatAt wz a n c m a2 n2 c2 X Y -> RatAt wz b k l v b2 k2 l2 X' Y' -> Calls Tryz.prog 24 #[.agg #[.slice a n c, .bool m, .slice a2 n2 c2], .agg #[.slice b k l, .bool v, .slice b2 k2 l2]] wz fun e w' => e = .returned (.int .i64 0) /\ Below wz.heap.size wz w') := Lib.hid (fun a n c m a2 n2 c2 b k l v b2' k2 l2 wz h g => by
     have := ratCmp_any a n c m a2 n2 c2 X Y b k l v b2' k2 l2 X' Y' wz h g y1' y2' 64 (by decide) b1 b2 b3 b4
     rw [f3] at this
     exact this)
    clear f1 f2 f3 y1' y2' b1 b2 b3 b4
    have HP := Lib.hid (Bag.putR (N := (w2.heap.size + 1)) BB.out (by omega) (fun y k9 x0 y0 z0 b0 u1 p1 z1 s hk q a9 n9 c9 m9 a10 n10 c10 => ⟨q.1.set3o (by omega) _ _ _, q.2.1.set3o (by omega) _ _ _, q.2.2.1.set3 s _ _ _, q.2.2.2.1.set3o (by omega) _ _ _, q.2.2.2.2.1.set3 s _ _ _, trivial⟩))
    go_wp2_with fail
    refine wp_region_inv2 ⟨(fun j => ([[48], [49], [50], [51], [52], [53], [54], [47], [55], [56], [11], [11], [12]] : List (List Nat)).getD j []), (fun j => ([[], [], [0, 1], [0, 1, 2], [], [], [0, 1, 2, 3, 4, 5], [0, 1, 2, 3, 4, 5, 6], [0, 1, 2, 3, 4, 5, 6, 7], [0, 1, 2, 3, 4, 5, 6, 7], [], [0, 1, 2, 3, 4, 5, 6, 7, 8, 10], [0, 1, 2, 3, 4, 5, 6, 7, 8, 9, 10, 11]] : List (List Nat)).getD j []), [10]⟩ (fun jj vv yy => match jj with | 0 => vv = [some (.slice (some ⟨w2.heap.size + 1, 0, none⟩) 6 6)] | 1 => vv = [some (.int .i64 (j : Int))] | 2 => vv = [some (.pointer (some ⟨w2.heap.size + 1, j, none⟩))] | 3 => vv = [some (.int .i32 c9)] | 4 => vv = [some (.agg #[.slice x1 xn1 xc1, .bool xm1, .slice y1 yn1 yc1])] | 5 => vv = [some (.agg #[.slice x2 xn2 xc2, .bool xm2, .slice y2 yn2 yc2])] | 6 => ∃ (x92 : Option Addr), ∃ (n92 : Nat), ∃ (c92 : Nat), ∃ (m92 : Bool), ∃ (y92 : Option Addr), ∃ (o92 : Nat), ∃ (d92 : Nat), vv = [some (.tuple #[.agg #[.slice x92 n92 c92, .bool m92, .slice y92 o92 d92], .int .i64 0])] /\ RatAt yy x92 n92 c92 m92 y92 o92 d92 X Y | 7 => ∃ (x92 : Option Addr), ∃ (n92 : Nat), ∃ (c92 : Nat), ∃ (m92 : Bool), ∃ (y92 : Option Addr), ∃ (o92 : Nat), ∃ (d92 : Nat), vv = [some (.tuple #[.agg #[.slice x92 n92 c92, .bool m92, .slice y92 o92 d92], .int .i64 0])] /\ RatAt yy x92 n92 c92 m92 y92 o92 d92 X Y | 8 => ∃ (x92 : Option Addr), ∃ (n92 : Nat), ∃ (c92 : Nat), ∃ (m92 : Bool), ∃ (y92 : Option Addr), ∃ (o92 : Nat), ∃ (d92 : Nat), vv = [some (.agg #[.slice x92 n92 c92, .bool m92, .slice y92 o92 d92])] /\ RatAt yy x92 n92 c92 m92 y92 o92 d92 X Y | 9 => vv = [some (.int .i64 0)] | 10 => ∃ (k10 : Nat), ∃ (x0 : Option Addr), ∃ (y0 : Nat), ∃ (z0 : Nat), ∃ (b0 : Bool), ∃ (u1 : Option Addr), ∃ (p1 : Nat), ∃ (z1 : Nat), vv = [some (.pointer (some ⟨k10, 0, none⟩))] /\ Slot3 yy k10 (.slice x0 y0 z0) (.bool b0) (.slice u1 p1 z1) /\ (w2.heap.size + 1) < k10 | 11 => ∃ (k10 : Nat), ∃ (x92 : Option Addr), ∃ (n92 : Nat), ∃ (c92 : Nat), ∃ (m92 : Bool), ∃ (y92 : Option Addr), ∃ (o92 : Nat), ∃ (d92 : Nat), vv = [some (.pointer (some ⟨k10, 0, none⟩))] /\ Slot3 yy k10 (.slice x92 n92 c92) (.bool m92) (.slice y92 o92 d92) /\ RatAt yy x92 n92 c92 m92 y92 o92 d92 X Y | 12 => vv = [some (.int .i64 0)] | _ => True) (Bag w _) (by kernel_rfl) (by kernel_rfl) (by kernel_rfl) BB.out.drew ?_ ?_ ?_
    · intro jj vv yw yw2 hb h
      match jj, h with
      | 0, h => exact h
      | 1, h => exact h
      | 2, h => exact h
      | 3, h => exact h
      | 4, h => exact h
      | 5, h => exact h
      | 6, ⟨x92, n92, c92, m92, y92, o92, d92, e6, g6_0⟩ => exact Exists.intro x92 (Exists.intro n92 (Exists.intro c92 (Exists.intro m92 (Exists.intro y92 (Exists.intro o92 (Exists.intro d92 (And.intro e6 (g6_0.below hb))))))))
      | 7, ⟨x92, n92, c92, m92, y92, o92, d92, e7, g7_0⟩ => exact Exists.intro x92 (Exists.intro n92 (Exists.intro c92 (Exists.intro m92 (Exists.intro y92 (Exists.intro o92 (Exists.intro d92 (And.intro e7 (g7_0.below hb))))))))
      | 8, ⟨x92, n92, c92, m92, y92, o92, d92, e8, g8_0⟩ => exact Exists.intro x92 (Exists.intro n92 (Exists.intro c92 (Exists.intro m92 (Exists.intro y92 (Exists.intro o92 (Exists.intro d92 (And.intro e8 (g8_0.below hb))))))))
      | 9, h => exact h
      | 10, ⟨k10, x0, y0, z0, b0, u1, p1, z1, e10, g10_0, g10_1⟩ => exact Exists.intro k10 (Exists.intro x0 (Exists.intro y0 (Exists.intro z0 (Exists.intro b0 (Exists.intro u1 (Exists.intro p1 (Exists.intro z1 (And.intro e10 (And.intro (g10_0.below hb) g10_1)))))))))
      | 11, ⟨k10, x92, n92, c92, m92, y92, o92, d92, e11, g11_0, g11_1⟩ => exact Exists.intro k10 (Exists.intro x92 (Exists.intro n92 (Exists.intro c92 (Exists.intro m92 (Exists.intro y92 (Exists.intro o92 (Exists.intro d92 (And.intro e11 (And.intro (g11_0.below hb) (g11_1.below hb))))))))))
      | 12, h => exact h
      | _ + 13, h => exact h
    · intro ac yw hsz hdf hold hB hp
      obtain ⟨kb9, x92, n92, c92, m92, y92, o92, d92, e11, sX, hrX⟩ := hp 11 (by decide)
      have t11 : ac.tmps[11]? = some (.pointer (some ⟨kb9, 0, none⟩)) := (List.cons.inj e11).1
      have hk9 : (w2.heap.size + 1) < kb9 := by
       obtain ⟨k9', _, _, _, _, _, _, _, e9, _, h9⟩ := hp 10 (by decide)
       have := (List.cons.inj e9).1.symm.trans t11
       cases this
       exact h9
      have t12 : ac.tmps[12]? = some (.int .i64 0) := (List.cons.inj (hp 12 (by decide))).1
      have t0 : ac.tmps[0]? = some (.agg #[.bool b, .string s, .string t]) := hold 0 (by kernel_rfl)
      have t1 : ac.tmps[1]? = some (.agg #[.bool b', .string s', .string t']) := hold 1 (by kernel_rfl)
      have t2 : ac.tmps[2]? = some (.pointer (some ⟨w.heap.size, 0, none⟩)) := hold 2 (by kernel_rfl)
      have t3 : ac.tmps[3]? = some (.pointer (some ⟨w.heap.size + 1, 0, none⟩)) := hold 3 (by kernel_rfl)
      have t5 : ac.tmps[5]? = some (.pointer (some ⟨w1.heap.size, 0, none⟩)) := hold 5 (by kernel_rfl)
      have t6 : ac.tmps[6]? = some (.bool true) := hold 6 (by kernel_rfl)
      have t7 : ac.tmps[7]? = some (.pointer (some ⟨w2.heap.size, 0, none⟩)) := hold 7 (by kernel_rfl)
      have t8 : ac.tmps[8]? = some (.bool true) := hold 8 (by kernel_rfl)
      have t9 : ac.tmps[9]? = some (.slice (some ⟨w2.heap.size + 1, 0, none⟩) 6 6) := hold 9 (by kernel_rfl)
      have t10 : ac.tmps[10]? = some (.int .i64 (j : Int)) := hold 10 (by kernel_rfl)
      have t15 : ac.tmps[15]? = some (undef) := hold 15 (by kernel_rfl)
      have t16 : ac.tmps[16]? = some (undef) := hold 16 (by kernel_rfl)
      have t17 : ac.tmps[17]? = some (undef) := hold 17 (by kernel_rfl)
      have t18 : ac.tmps[18]? = some (undef) := hold 18 (by kernel_rfl)
      have t19 : ac.tmps[19]? = some (undef) := hold 19 (by kernel_rfl)
      have t20 : ac.tmps[20]? = some (undef) := hold 20 (by kernel_rfl)
      have t21 : ac.tmps[21]? = some (undef) := hold 21 (by kernel_rfl)
      have t22 : ac.tmps[22]? = some (undef) := hold 22 (by kernel_rfl)
      have t23 : ac.tmps[23]? = some (.tuple #[.agg #[.slice x1 xn1 xc1, .bool xm1, .slice y1 yn1 yc1], .bool true]) := hold 23 (by kernel_rfl)
      have t24 : ac.tmps[24]? = some (.agg #[.bool b, .string s, .string t]) := hold 24 (by kernel_rfl)
      have t25 : ac.tmps[25]? = some (.tuple #[.agg #[.slice x1 xn1 xc1, .bool xm1, .slice y1 yn1 yc1], .bool true]) := hold 25 (by kernel_rfl)
      have t26 : ac.tmps[26]? = some (.agg #[.slice x1 xn1 xc1, .bool xm1, .slice y1 yn1 yc1]) := hold 26 (by kernel_rfl)
      have t27 : ac.tmps[27]? = some (.bool true) := hold 27 (by kernel_rfl)
      have t28 : ac.tmps[28]? = some (.tuple #[.agg #[.slice x2 xn2 xc2, .bool xm2, .slice y2 yn2 yc2], .bool true]) := hold 28 (by kernel_rfl)
      have t29 : ac.tmps[29]? = some (.agg #[.bool b', .string s', .string t']) := hold 29 (by kernel_rfl)
      have t30 : ac.tmps[30]? = some (.tuple #[.agg #[.slice x2 xn2 xc2, .bool xm2, .slice y2 yn2 yc2], .bool true]) := hold 30 (by kernel_rfl)
      have t31 : ac.tmps[31]? = some (.agg #[.slice x2 xn2 xc2, .bool xm2, .slice y2 yn2 yc2]) := hold 31 (by kernel_rfl)
      have t32 : ac.tmps[32]? = some (.bool true) := hold 32 (by kernel_rfl)
      have t33 : ac.tmps[33]? = some (.bool true) := hold 33 (by kernel_rfl)
      have t34 : ac.tmps[34]? = some (.bool false) := hold 34 (by kernel_rfl)
      have t35 : ac.tmps[35]? = some (.bool false) := hold 35 (by kernel_rfl)
      have t36 : ac.tmps[36]? = some (.bool true) := hold 36 (by kernel_rfl)
      have t37 : ac.tmps[37]? = some (.bool false) := hold 37 (by kernel_rfl)
      have t38 : ac.tmps[38]? = some (.bool false) := hold 38 (by kernel_rfl)
      have t39 : ac.tmps[39]? = some (undef) := hold 39 (by kernel_rfl)
      have t40 : ac.tmps[40]? = some (.slice (some ⟨w2.heap.size + 1, 0, none⟩) 6 6) := hold 40 (by kernel_rfl)
      have t79 : ac.tmps[79]? = some (undef) := hold 79 (by kernel_rfl)
      have t80 : ac.tmps[80]? = some (undef) := hold 80 (by kernel_rfl)
      have t81 : ac.tmps[81]? = some (undef) := hold 81 (by kernel_rfl)
      have t82 : ac.tmps[82]? = some (undef) := hold 82 (by kernel_rfl)
      have t83 : ac.tmps[83]? = some (undef) := hold 83 (by kernel_rfl)
      have t84 : ac.tmps[84]? = some (undef) := hold 84 (by kernel_rfl)
      have t85 : ac.tmps[85]? = some (undef) := hold 85 (by kernel_rfl)
      have t86 : ac.tmps[86]? = some (undef) := hold 86 (by kernel_rfl)
      have t87 : ac.tmps[87]? = some (undef) := hold 87 (by kernel_rfl)
      have t88 : ac.tmps[88]? = some (undef) := hold 88 (by kernel_rfl)
      have t89 : ac.tmps[89]? = some (undef) := hold 89 (by kernel_rfl)
      have t90 : ac.tmps[90]? = some (undef) := hold 90 (by kernel_rfl)
      have t91 : ac.tmps[91]? = some (undef) := hold 91 (by kernel_rfl)
      have t92 : ac.tmps[92]? = some (undef) := hold 92 (by kernel_rfl)
      have t93 : ac.tmps[93]? = some (undef) := hold 93 (by kernel_rfl)
      have t94 : ac.tmps[94]? = some (undef) := hold 94 (by kernel_rfl)
      have t95 : ac.tmps[95]? = some (undef) := hold 95 (by kernel_rfl)
      have t96 : ac.tmps[96]? = some (undef) := hold 96 (by kernel_rfl)
      have t97 : ac.tmps[97]? = some (undef) := hold 97 (by kernel_rfl)
      have t98 : ac.tmps[98]? = some (undef) := hold 98 (by kernel_rfl)
      have t99 : ac.tmps[99]? = some (undef) := hold 99 (by kernel_rfl)
      have t100 : ac.tmps[100]? = some (undef) := hold 100 (by kernel_rfl)
      have t101 : ac.tmps[101]? = some (undef) := hold 101 (by kernel_rfl)
      have t102 : ac.tmps[102]? = some (undef) := hold 102 (by kernel_rfl)
      have t103 : ac.tmps[103]? = some (undef) := hold 103 (by kernel_rfl)
      have t104 : ac.tmps[104]? = some (undef) := hold 104 (by kernel_rfl)
      have t105 : ac.tmps[105]? = some (undef) := hold 105 (by kernel_rfl)
      have t106 : ac.tmps[106]? = some (undef) := hold 106 (by kernel_rfl)
      have t107 : ac.tmps[107]? = some (undef) := hold 107 (by kernel_rfl)
      have t108 : ac.tmps[108]? = some (undef) := hold 108 (by kernel_rfl)
      have t109 : ac.tmps[109]? = some (undef) := hold 109 (by kernel_rfl)
      have t110 : ac.tmps[110]? = some (undef) := hold 110 (by kernel_rfl)
      have t111 : ac.tmps[111]? = some (undef) := hold 111 (by kernel_rfl)
      have t112 : ac.tmps[112]? = some (undef) := hold 112 (by kernel_rfl)
      have t113 : ac.tmps[113]? = some (undef) := hold 113 (by kernel_rfl)
      have t114 : ac.tmps[114]? = some (undef) := hold 114 (by kernel_rfl)
      have t115 : ac.tmps[115]? = some (undef) := hold 115 (by kernel_rfl)
      have t116 : ac.tmps[116]? = some (undef) := hold 116 (by kernel_rfl)
      have t117 : ac.tmps[117]? = some (undef) := hold 117 (by kernel_rfl)
      have t118 : ac.tmps[118]? = some (undef) := hold 118 (by kernel_rfl)
      have t119 : ac.tmps[119]? = some (undef) := hold 119 (by kernel_rfl)
      clear hold hp e11
      obtain ⟨TV9, hTV9⟩ : ∃ TV9 : Nat -> Value, ∀ i, (ac.tmps[i]?).getD undef = TV9 i := ⟨_, fun _ => rfl⟩
      have f0 := (hTV9 0).symm.trans (congrArg (fun x => Option.getD x undef) t0)
      have f1 := (hTV9 1).symm.trans (congrArg (fun x => Option.getD x undef) t1)
      have f2 := (hTV9 2).symm.trans (congrArg (fun x => Option.getD x undef) t2)
      have f3 := (hTV9 3).symm.trans (congrArg (fun x => Option.getD x undef) t3)
      have f5 := (hTV9 5).symm.trans (congrArg (fun x => Option.getD x undef) t5)
      have f6 := (hTV9 6).symm.trans (congrArg (fun x => Option.getD x undef) t6)
      have f7 := (hTV9 7).symm.trans (congrArg (fun x => Option.getD x undef) t7)
      have f8 := (hTV9 8).symm.trans (congrArg (fun x => Option.getD x undef) t8)
      have f9 := (hTV9 9).symm.trans (congrArg (fun x => Option.getD x undef) t9)
      have f10 := (hTV9 10).symm.trans (congrArg (fun x => Option.getD x undef) t10)
      have f11 := (hTV9 11).symm.trans (congrArg (fun x => Option.getD x undef) t11)
      have f12 := (hTV9 12).symm.trans (congrArg (fun x => Option.getD x undef) t12)
      have f15 := (hTV9 15).symm.trans (congrArg (fun x => Option.getD x undef) t15)
      have f16 := (hTV9 16).symm.trans (congrArg (fun x => Option.getD x undef) t16)
      have f17 := (hTV9 17).symm.trans (congrArg (fun x => Option.getD x undef) t17)
      have f18 := (hTV9 18).symm.trans (congrArg (fun x => Option.getD x undef) t18)
      have f19 := (hTV9 19).symm.trans (congrArg (fun x => Option.getD x undef) t19)
      have f20 := (hTV9 20).symm.trans (congrArg (fun x => Option.getD x undef) t20)
      have f21 := (hTV9 21).symm.trans (congrArg (fun x => Option.getD x undef) t21)
      have f22 := (hTV9 22).symm.trans (congrArg (fun x => Option.getD x undef) t22)
      have f23 := (hTV9 23).symm.trans (congrArg (fun x => Option.getD x undef) t23)
      have f24 := (hTV9 24).symm.trans (congrArg (fun x => Option.getD x undef) t24)
      have f25 := (hTV9 25).symm.trans (congrArg (fun x => Option.getD x undef) t25)
      have f26 := (hTV9 26).symm.trans (congrArg (fun x => Option.getD x undef) t26)
      have f27 := (hTV9 27).symm.trans (congrArg (fun x => Option.getD x undef) t27)
      have f28 := (hTV9 28).symm.trans (congrArg (fun x => Option.getD x undef) t28)
      have f29 := (hTV9 29).symm.trans (congrArg (fun x => Option.getD x undef) t29)
      have f30 := (hTV9 30).symm.trans (congrArg (fun x => Option.getD x undef) t30)
      have f31 := (hTV9 31).symm.trans (congrArg (fun x => Option.getD x undef) t31)
      have f32 := (hTV9 32).symm.trans (congrArg (fun x => Option.getD x undef) t32)
      have f33 := (hTV9 33).symm.trans (congrArg (fun x => Option.getD x undef) t33)
      have f34 := (hTV9 34).symm.trans (congrArg (fun x => Option.getD x undef) t34)
      have f35 := (hTV9 35).symm.trans (congrArg (fun x => Option.getD x undef) t35)
      have f36 := (hTV9 36).symm.trans (congrArg (fun x => Option.getD x undef) t36)
      have f37 := (hTV9 37).symm.trans (congrArg (fun x => Option.getD x undef) t37)
      have f38 := (hTV9 38).symm.trans (congrArg (fun x => Option.getD x undef) t38)
      have f39 := (hTV9 39).symm.trans (congrArg (fun x => Option.getD x undef) t39)
      have f40 := (hTV9 40).symm.trans (congrArg (fun x => Option.getD x undef) t40)
      have f79 := (hTV9 79).symm.trans (congrArg (fun x => Option.getD x undef) t79)
      have f80 := (hTV9 80).symm.trans (congrArg (fun x => Option.getD x undef) t80)
      have f81 := (hTV9 81).symm.trans (congrArg (fun x => Option.getD x undef) t81)
      have f82 := (hTV9 82).symm.trans (congrArg (fun x => Option.getD x undef) t82)
      have f83 := (hTV9 83).symm.trans (congrArg (fun x => Option.getD x undef) t83)
      have f84 := (hTV9 84).symm.trans (congrArg (fun x => Option.getD x undef) t84)
      have f85 := (hTV9 85).symm.trans (congrArg (fun x => Option.getD x undef) t85)
      have f86 := (hTV9 86).symm.trans (congrArg (fun x => Option.getD x undef) t86)
      have f87 := (hTV9 87).symm.trans (congrArg (fun x => Option.getD x undef) t87)
      have f88 := (hTV9 88).symm.trans (congrArg (fun x => Option.getD x undef) t88)
      have f89 := (hTV9 89).symm.trans (congrArg (fun x => Option.getD x undef) t89)
      have f90 := (hTV9 90).symm.trans (congrArg (fun x => Option.getD x undef) t90)
      have f91 := (hTV9 91).symm.trans (congrArg (fun x => Option.getD x undef) t91)
      have f92 := (hTV9 92).symm.trans (congrArg (fun x => Option.getD x undef) t92)
      have f93 := (hTV9 93).symm.trans (congrArg (fun x => Option.getD x undef) t93)
      have f94 := (hTV9 94).symm.trans (congrArg (fun x => Option.getD x undef) t94)
      have f95 := (hTV9 95).symm.trans (congrArg (fun x => Option.getD x undef) t95)
      have f96 := (hTV9 96).symm.trans (congrArg (fun x => Option.getD x undef) t96)
      have f97 := (hTV9 97).symm.trans (congrArg (fun x => Option.getD x undef) t97)
      have f98 := (hTV9 98).symm.trans (congrArg (fun x => Option.getD x undef) t98)
      have f99 := (hTV9 99).symm.trans (congrArg (fun x => Option.getD x undef) t99)
      have f100 := (hTV9 100).symm.trans (congrArg (fun x => Option.getD x undef) t100)
      have f101 := (hTV9 101).symm.trans (congrArg (fun x => Option.getD x undef) t101)
      have f102 := (hTV9 102).symm.trans (congrArg (fun x => Option.getD x undef) t102)
      have f103 := (hTV9 103).symm.trans (congrArg (fun x => Option.getD x undef) t103)
      have f104 := (hTV9 104).symm.trans (congrArg (fun x => Option.getD x undef) t104)
      have f105 := (hTV9 105).symm.trans (congrArg (fun x => Option.getD x undef) t105)
      have f106 := (hTV9 106).symm.trans (congrArg (fun x => Option.getD x undef) t106)
      have f107 := (hTV9 107).symm.trans (congrArg (fun x => Option.getD x undef) t107)
      have f108 := (hTV9 108).symm.trans (congrArg (fun x => Option.getD x undef) t108)
      have f109 := (hTV9 109).symm.trans (congrArg (fun x => Option.getD x undef) t109)
      have f110 := (hTV9 110).symm.trans (congrArg (fun x => Option.getD x undef) t110)
      have f111 := (hTV9 111).symm.trans (congrArg (fun x => Option.getD x undef) t111)
      have f112 := (hTV9 112).symm.trans (congrArg (fun x => Option.getD x undef) t112)
      have f113 := (hTV9 113).symm.trans (congrArg (fun x => Option.getD x undef) t113)
      have f114 := (hTV9 114).symm.trans (congrArg (fun x => Option.getD x undef) t114)
      have f115 := (hTV9 115).symm.trans (congrArg (fun x => Option.getD x undef) t115)
      have f116 := (hTV9 116).symm.trans (congrArg (fun x => Option.getD x undef) t116)
      have f117 := (hTV9 117).symm.trans (congrArg (fun x => Option.getD x undef) t117)
      have f118 := (hTV9 118).symm.trans (congrArg (fun x => Option.getD x undef) t118)
      have f119 := (hTV9 119).symm.trans (congrArg (fun x => Option.getD x undef) t119)
      have hac := act_eq (n := 120) hsz TV9 hTV9
      rw [show ((List.range 120).map TV9).toArray = #[TV9 0, TV9 1, TV9 2, TV9 3, TV9 4, TV9 5, TV9 6, TV9 7, TV9 8, TV9 9, TV9 10, TV9 11, TV9 12, TV9 13, TV9 14, TV9 15, TV9 16, TV9 17, TV9 18, TV9 19, TV9 20, TV9 21, TV9 22, TV9 23, TV9 24, TV9 25, TV9 26, TV9 27, TV9 28, TV9 29, TV9 30, TV9 31, TV9 32, TV9 33, TV9 34, TV9 35, TV9 36, TV9 37, TV9 38, TV9 39, TV9 40, TV9 41, TV9 42, TV9 43, TV9 44, TV9 45, TV9 46, TV9 47, TV9 48, TV9 49, TV9 50, TV9 51, TV9 52, TV9 53, TV9 54, TV9 55, TV9 56, TV9 57, TV9 58, TV9 59, TV9 60, TV9 61, TV9 62, TV9 63, TV9 64, TV9 65, TV9 66, TV9 67, TV9 68, TV9 69, TV9 70, TV9 71, TV9 72, TV9 73, TV9 74, TV9 75, TV9 76, TV9 77, TV9 78, TV9 79, TV9 80, TV9 81, TV9 82, TV9 83, TV9 84, TV9 85, TV9 86, TV9 87, TV9 88, TV9 89, TV9 90, TV9 91, TV9 92, TV9 93, TV9 94, TV9 95, TV9 96, TV9 97, TV9 98, TV9 99, TV9 100, TV9 101, TV9 102, TV9 103, TV9 104, TV9 105, TV9 106, TV9 107, TV9 108, TV9 109, TV9 110, TV9 111, TV9 112, TV9 113, TV9 114, TV9 115, TV9 116, TV9 117, TV9 118, TV9 119] from rfl, f0, f1, f2, f3, f5, f6, f7, f8, f9, f10, f11, f12, f15, f16, f17, f18, f19, f20, f21, f22, f23, f24, f25, f26, f27, f28, f29, f30, f31, f32, f33, f34, f35, f36, f37, f38, f39, f40, f79, f80, f81, f82, f83, f84, f85, f86, f87, f88, f89, f90, f91, f92, f93, f94, f95, f96, f97, f98, f99, f100, f101, f102, f103, f104, f105, f106, f107, f108, f109, f110, f111, f112, f113, f114, f115, f116, f117, f118, f119, hdf] at hac
      simp only [Option.getD_some] at hac
      subst hac
      clear hTV9 f0 f1 f2 f3 f5 f6 f7 f8 f9 f10 f11 f12 f15 f16 f17 f18 f19 f20 f21 f22 f23 f24 f25 f26 f27 f28 f29 f30 f31 f32 f33 f34 f35 f36 f37 f38 f39 f40 f79 f80 f81 f82 f83 f84 f85 f86 f87 f88 f89 f90 f91 f92 f93 f94 f95 f96 f97 f98 f99 f100 f101 f102 f103 f104 f105 f106 f107 f108 f109 f110 f111 f112 f113 f114 f115 f116 f117 f118 f119
      have BB := Lib.hid ((hB.rat hrX).slot3 sX)
      clear hB sX hrX HP hsz t0 t1 t2 t3 t5 t6 t7 t8 t9 t10 t11 t12 t15 t16 t17 t18 t19 t20 t21 t22 t23 t24 t25 t26 t27 t28 t29 t30 t31 t32 t33 t34 t35 t36 t37 t38 t39 t40 t79 t80 t81 t82 t83 t84 t85 t86 t87 t88 t89 t90 t91 t92 t93 t94 t95 t96 t97 t98 t99 t100 t101 t102 t103 t104 t105 t106 t107 t108 t109 t110 t111 t112 t113 t114 t115 t116 t117 t118 t119
      have HP := Lib.hid (Bag.putR (N := kb9) BB.out (by omega) (fun y k9 x0 y0 z0 b0 u1 p1 z1 s hk q a9 n9 c9 m9 a10 n10 c10 => ⟨q.1.set3o (by omega) _ _ _, q.2.1.set3 s _ _ _, q.2.2.1.set3o (by omega) _ _ _, q.2.2.2.1.set3o (by omega) _ _ _, q.2.2.2.2.1.set3 s _ _ _, q.2.2.2.2.2.1.set3o (by omega) _ _ _, q.2.2.2.2.2.2.1.set3 s _ _ _, trivial⟩))
      go_wp2_with fail
      refine wp_region_inv2 ⟨(fun j => ([[58], [59], [60], [61], [62], [63], [64], [57], [65], [66], [13], [13], [14]] : List (List Nat)).getD j []), (fun j => ([[], [], [0, 1], [0, 1, 2], [], [], [0, 1, 2, 3, 4, 5], [0, 1, 2, 3, 4, 5, 6], [0, 1, 2, 3, 4, 5, 6, 7], [0, 1, 2, 3, 4, 5, 6, 7], [], [0, 1, 2, 3, 4, 5, 6, 7, 8, 10], [0, 1, 2, 3, 4, 5, 6, 7, 8, 9, 10, 11]] : List (List Nat)).getD j []), [10]⟩ (fun jj vv yy => match jj with | 0 => vv = [some (.slice (some ⟨w2.heap.size + 1, 0, none⟩) 6 6)] | 1 => vv = [some (.int .i64 (j : Int))] | 2 => vv = [some (.pointer (some ⟨w2.heap.size + 1, j, none⟩))] | 3 => vv = [some (.int .i32 c9)] | 4 => vv = [some (.agg #[.slice x2 xn2 xc2, .bool xm2, .slice y2 yn2 yc2])] | 5 => vv = [some (.agg #[.slice x1 xn1 xc1, .bool xm1, .slice y1 yn1 yc1])] | 6 => ∃ (x102 : Option Addr), ∃ (n102 : Nat), ∃ (c102 : Nat), ∃ (m102 : Bool), ∃ (y102 : Option Addr), ∃ (o102 : Nat), ∃ (d102 : Nat), vv = [some (.tuple #[.agg #[.slice x102 n102 c102, .bool m102, .slice y102 o102 d102], .int .i64 0])] /\ RatAt yy x102 n102 c102 m102 y102 o102 d102 X' Y' | 7 => ∃ (x102 : Option Addr), ∃ (n102 : Nat), ∃ (c102 : Nat), ∃ (m102 : Bool), ∃ (y102 : Option Addr), ∃ (o102 : Nat), ∃ (d102 : Nat), vv = [some (.tuple #[.agg #[.slice x102 n102 c102, .bool m102, .slice y102 o102 d102], .int .i64 0])] /\ RatAt yy x102 n102 c102 m102 y102 o102 d102 X' Y' | 8 => ∃ (x102 : Option Addr), ∃ (n102 : Nat), ∃ (c102 : Nat), ∃ (m102 : Bool), ∃ (y102 : Option Addr), ∃ (o102 : Nat), ∃ (d102 : Nat), vv = [some (.agg #[.slice x102 n102 c102, .bool m102, .slice y102 o102 d102])] /\ RatAt yy x102 n102 c102 m102 y102 o102 d102 X' Y' | 9 => vv = [some (.int .i64 0)] | 10 => ∃ (k10 : Nat), ∃ (x0 : Option Addr), ∃ (y0 : Nat), ∃ (z0 : Nat), ∃ (b0 : Bool), ∃ (u1 : Option Addr), ∃ (p1 : Nat), ∃ (z1 : Nat), vv = [some (.pointer (some ⟨k10, 0, none⟩))] /\ Slot3 yy k10 (.slice x0 y0 z0) (.bool b0) (.slice u1 p1 z1) /\ kb9 < k10 | 11 => ∃ (k10 : Nat), ∃ (x102 : Option Addr), ∃ (n102 : Nat), ∃ (c102 : Nat), ∃ (m102 : Bool), ∃ (y102 : Option Addr), ∃ (o102 : Nat), ∃ (d102 : Nat), vv = [some (.pointer (some ⟨k10, 0, none⟩))] /\ Slot3 yy k10 (.slice x102 n102 c102) (.bool m102) (.slice y102 o102 d102) /\ RatAt yy x102 n102 c102 m102 y102 o102 d102 X' Y' | 12 => vv = [some (.int .i64 0)] | _ => True) (Bag w _) (by kernel_rfl) (by kernel_rfl) (by kernel_rfl) BB.out.drew ?_ ?_ ?_
      · intro jj vv yw yw2 hb h
        match jj, h with
        | 0, h => exact h
        | 1, h => exact h
        | 2, h => exact h
        | 3, h => exact h
        | 4, h => exact h
        | 5, h => exact h
        | 6, ⟨x102, n102, c102, m102, y102, o102, d102, e6, g6_0⟩ => exact Exists.intro x102 (Exists.intro n102 (Exists.intro c102 (Exists.intro m102 (Exists.intro y102 (Exists.intro o102 (Exists.intro d102 (And.intro e6 (g6_0.below hb))))))))
        | 7, ⟨x102, n102, c102, m102, y102, o102, d102, e7, g7_0⟩ => exact Exists.intro x102 (Exists.intro n102 (Exists.intro c102 (Exists.intro m102 (Exists.intro y102 (Exists.intro o102 (Exists.intro d102 (And.intro e7 (g7_0.below hb))))))))
        | 8, ⟨x102, n102, c102, m102, y102, o102, d102, e8, g8_0⟩ => exact Exists.intro x102 (Exists.intro n102 (Exists.intro c102 (Exists.intro m102 (Exists.intro y102 (Exists.intro o102 (Exists.intro d102 (And.intro e8 (g8_0.below hb))))))))
        | 9, h => exact h
        | 10, ⟨k10, x0, y0, z0, b0, u1, p1, z1, e10, g10_0, g10_1⟩ => exact Exists.intro k10 (Exists.intro x0 (Exists.intro y0 (Exists.intro z0 (Exists.intro b0 (Exists.intro u1 (Exists.intro p1 (Exists.intro z1 (And.intro e10 (And.intro (g10_0.below hb) g10_1)))))))))
        | 11, ⟨k10, x102, n102, c102, m102, y102, o102, d102, e11, g11_0, g11_1⟩ => exact Exists.intro k10 (Exists.intro x102 (Exists.intro n102 (Exists.intro c102 (Exists.intro m102 (Exists.intro y102 (Exists.intro o102 (Exists.intro d102 (And.intro e11 (And.intro (g11_0.below hb) (g11_1.below hb))))))))))
        | 12, h => exact h
        | _ + 13, h => exact h
      · intro ac yw hsz hdf hold hB hp
        obtain ⟨kb10, x102, n102, c102, m102, y102, o102, d102, e11, sX, hrX⟩ := hp 11 (by decide)
        have t13 : ac.tmps[13]? = some (.pointer (some ⟨kb10, 0, none⟩)) := (List.cons.inj e11).1
        have hk10 : kb9 < kb10 := by
         obtain ⟨k9', _, _, _, _, _, _, _, e9, _, h9⟩ := hp 10 (by decide)
         have := (List.cons.inj e9).1.symm.trans t13
         cases this
         exact h9
        have t14 : ac.tmps[14]? = some (.int .i64 0) := (List.cons.inj (hp 12 (by decide))).1
        have t0 : ac.tmps[0]? = some (.agg #[.bool b, .string s, .string t]) := hold 0 (by kernel_rfl)
        have t1 : ac.tmps[1]? = some (.agg #[.bool b', .string s', .string t']) := hold 1 (by kernel_rfl)
        have t2 : ac.tmps[2]? = some (.pointer (some ⟨w.heap.size, 0, none⟩)) := hold 2 (by kernel_rfl)
        have t3 : ac.tmps[3]? = some (.pointer (some ⟨w.heap.size + 1, 0, none⟩)) := hold 3 (by kernel_rfl)
        have t5 : ac.tmps[5]? = some (.pointer (some ⟨w1.heap.size, 0, none⟩)) := hold 5 (by kernel_rfl)
        have t6 : ac.tmps[6]? = some (.bool true) := hold 6 (by kernel_rfl)
        have t7 : ac.tmps[7]? = some (.pointer (some ⟨w2.heap.size, 0, none⟩)) := hold 7 (by kernel_rfl)
        have t8 : ac.tmps[8]? = some (.bool true) := hold 8 (by kernel_rfl)
        have t9 : ac.tmps[9]? = some (.slice (some ⟨w2.heap.size + 1, 0, none⟩) 6 6) := hold 9 (by kernel_rfl)
        have t10 : ac.tmps[10]? = some (.int .i64 (j : Int)) := hold 10 (by kernel_rfl)
        have t15 : ac.tmps[15]? = some (undef) := hold 15 (by kernel_rfl)
        have t16 : ac.tmps[16]? = some (undef) := hold 16 (by kernel_rfl)
        have t17 : ac.tmps[17]? = some (undef) := hold 17 (by kernel_rfl)
        have t18 : ac.tmps[18]? = some (undef) := hold 18 (by kernel_rfl)
        have t19 : ac.tmps[19]? = some (undef) := hold 19 (by kernel_rfl)
        have t20 : ac.tmps[20]? = some (undef) := hold 20 (by kernel_rfl)
        have t21 : ac.tmps[21]? = some (undef) := hold 21 (by kernel_rfl)
        have t22 : ac.tmps[22]? = some (undef) := hold 22 (by kernel_rfl)
        have t23 : ac.tmps[23]? = some (.tuple #[.agg #[.slice x1 xn1 xc1, .bool xm1, .slice y1 yn1 yc1], .bool true]) := hold 23 (by kernel_rfl)
        have t24 : ac.tmps[24]? = some (.agg #[.bool b, .string s, .string t]) := hold 24 (by kernel_rfl)
        have t25 : ac.tmps[25]? = some (.tuple #[.agg #[.slice x1 xn1 xc1, .bool xm1, .slice y1 yn1 yc1], .bool true]) := hold 25 (by kernel_rfl)
        have t26 : ac.tmps[26]? = some (.agg #[.slice x1 xn1 xc1, .bool xm1, .slice y1 yn1 yc1]) := hold 26 (by kernel_rfl)
        have t27 : ac.tmps[27]? = some (.bool true) := hold 27 (by kernel_rfl)
        have t28 : ac.tmps[28]? = some (.tuple #[.agg #[.slice x2 xn2 xc2, .bool xm2, .slice y2 yn2 yc2], .bool true]) := hold 28 (by kernel_rfl)
        have t29 : ac.tmps[29]? = some (.agg #[.bool b', .string s', .string t']) := hold 29 (by kernel_rfl)
        have t30 : ac.tmps[30]? = some (.tuple #[.agg #[.slice x2 xn2 xc2, .bool xm2, .slice y2 yn2 yc2], .bool true]) := hold 30 (by kernel_rfl)
        have t31 : ac.tmps[31]? = some (.agg #[.slice x2 xn2 xc2, .bool xm2, .slice y2 yn2 yc2]) := hold 31 (by kernel_rfl)
        have t32 : ac.tmps[32]? = some (.bool true) := hold 32 (by kernel_rfl)
        have t33 : ac.tmps[33]? = some (.bool true) := hold 33 (by kernel_rfl)
        have t34 : ac.tmps[34]? = some (.bool false) := hold 34 (by kernel_rfl)
        have t35 : ac.tmps[35]? = some (.bool false) := hold 35 (by kernel_rfl)
        have t36 : ac.tmps[36]? = some (.bool true) := hold 36 (by kernel_rfl)
        have t37 : ac.tmps[37]? = some (.bool false) := hold 37 (by kernel_rfl)
        have t38 : ac.tmps[38]? = some (.bool false) := hold 38 (by kernel_rfl)
        have t39 : ac.tmps[39]? = some (undef) := hold 39 (by kernel_rfl)
        have t40 : ac.tmps[40]? = some (.slice (some ⟨w2.heap.size + 1, 0, none⟩) 6 6) := hold 40 (by kernel_rfl)
        have t79 : ac.tmps[79]? = some (undef) := hold 79 (by kernel_rfl)
        have t80 : ac.tmps[80]? = some (undef) := hold 80 (by kernel_rfl)
        have t81 : ac.tmps[81]? = some (undef) := hold 81 (by kernel_rfl)
        have t82 : ac.tmps[82]? = some (undef) := hold 82 (by kernel_rfl)
        have t83 : ac.tmps[83]? = some (undef) := hold 83 (by kernel_rfl)
        have t84 : ac.tmps[84]? = some (undef) := hold 84 (by kernel_rfl)
        have t85 : ac.tmps[85]? = some (undef) := hold 85 (by kernel_rfl)
        have t86 : ac.tmps[86]? = some (undef) := hold 86 (by kernel_rfl)
        have t87 : ac.tmps[87]? = some (undef) := hold 87 (by kernel_rfl)
        have t88 : ac.tmps[88]? = some (undef) := hold 88 (by kernel_rfl)
        have t89 : ac.tmps[89]? = some (undef) := hold 89 (by kernel_rfl)
        have t90 : ac.tmps[90]? = some (undef) := hold 90 (by kernel_rfl)
        have t91 : ac.tmps[91]? = some (undef) := hold 91 (by kernel_rfl)
        have t92 : ac.tmps[92]? = some (undef) := hold 92 (by kernel_rfl)
        have t93 : ac.tmps[93]? = some (undef) := hold 93 (by kernel_rfl)
        have t94 : ac.tmps[94]? = some (undef) := hold 94 (by kernel_rfl)
        have t95 : ac.tmps[95]? = some (undef) := hold 95 (by kernel_rfl)
        have t96 : ac.tmps[96]? = some (undef) := hold 96 (by kernel_rfl)
        have t97 : ac.tmps[97]? = some (undef) := hold 97 (by kernel_rfl)
        have t98 : ac.tmps[98]? = some (undef) := hold 98 (by kernel_rfl)
        have t99 : ac.tmps[99]? = some (undef) := hold 99 (by kernel_rfl)
        have t100 : ac.tmps[100]? = some (undef) := hold 100 (by kernel_rfl)
        have t101 : ac.tmps[101]? = some (undef) := hold 101 (by kernel_rfl)
        have t102 : ac.tmps[102]? = some (undef) := hold 102 (by kernel_rfl)
        have t103 : ac.tmps[103]? = some (undef) := hold 103 (by kernel_rfl)
        have t104 : ac.tmps[104]? = some (undef) := hold 104 (by kernel_rfl)
        have t105 : ac.tmps[105]? = some (undef) := hold 105 (by kernel_rfl)
        have t106 : ac.tmps[106]? = some (undef) := hold 106 (by kernel_rfl)
        have t107 : ac.tmps[107]? = some (undef) := hold 107 (by kernel_rfl)
        have t108 : ac.tmps[108]? = some (undef) := hold 108 (by kernel_rfl)
        have t109 : ac.tmps[109]? = some (undef) := hold 109 (by kernel_rfl)
        have t110 : ac.tmps[110]? = some (undef) := hold 110 (by kernel_rfl)
        have t111 : ac.tmps[111]? = some (undef) := hold 111 (by kernel_rfl)
        have t112 : ac.tmps[112]? = some (undef) := hold 112 (by kernel_rfl)
        have t113 : ac.tmps[113]? = some (undef) := hold 113 (by kernel_rfl)
        have t114 : ac.tmps[114]? = some (undef) := hold 114 (by kernel_rfl)
        have t115 : ac.tmps[115]? = some (undef) := hold 115 (by kernel_rfl)
        have t116 : ac.tmps[116]? = some (undef) := hold 116 (by kernel_rfl)
        have t117 : ac.tmps[117]? = some (undef) := hold 117 (by kernel_rfl)
        have t118 : ac.tmps[118]? = some (undef) := hold 118 (by kernel_rfl)
        have t119 : ac.tmps[119]? = some (undef) := hold 119 (by kernel_rfl)
        have t11 : ac.tmps[11]? = some (.pointer (some ⟨kb9, 0, none⟩)) := hold 11 (by kernel_rfl)
        have t12 : ac.tmps[12]? = some (.int .i64 0) := hold 12 (by kernel_rfl)
        clear hold hp e11
        obtain ⟨TV10, hTV10⟩ : ∃ TV10 : Nat -> Value, ∀ i, (ac.tmps[i]?).getD undef = TV10 i := ⟨_, fun _ => rfl⟩
        have f0 := (hTV10 0).symm.trans (congrArg (fun x => Option.getD x undef) t0)
        have f1 := (hTV10 1).symm.trans (congrArg (fun x => Option.getD x undef) t1)
        have f2 := (hTV10 2).symm.trans (congrArg (fun x => Option.getD x undef) t2)
        have f3 := (hTV10 3).symm.trans (congrArg (fun x => Option.getD x undef) t3)
        have f5 := (hTV10 5).symm.trans (congrArg (fun x => Option.getD x undef) t5)
        have f6 := (hTV10 6).symm.trans (congrArg (fun x => Option.getD x undef) t6)
        have f7 := (hTV10 7).symm.trans (congrArg (fun x => Option.getD x undef) t7)
        have f8 := (hTV10 8).symm.trans (congrArg (fun x => Option.getD x undef) t8)
        have f9 := (hTV10 9).symm.trans (congrArg (fun x => Option.getD x undef) t9)
        have f10 := (hTV10 10).symm.trans (congrArg (fun x => Option.getD x undef) t10)
        have f11 := (hTV10 11).symm.trans (congrArg (fun x => Option.getD x undef) t11)
        have f12 := (hTV10 12).symm.trans (congrArg (fun x => Option.getD x undef) t12)
        have f13 := (hTV10 13).symm.trans (congrArg (fun x => Option.getD x undef) t13)
        have f14 := (hTV10 14).symm.trans (congrArg (fun x => Option.getD x undef) t14)
        have f15 := (hTV10 15).symm.trans (congrArg (fun x => Option.getD x undef) t15)
        have f16 := (hTV10 16).symm.trans (congrArg (fun x => Option.getD x undef) t16)
        have f17 := (hTV10 17).symm.trans (congrArg (fun x => Option.getD x undef) t17)
        have f18 := (hTV10 18).symm.trans (congrArg (fun x => Option.getD x undef) t18)
        have f19 := (hTV10 19).symm.trans (congrArg (fun x => Option.getD x undef) t19)
        have f20 := (hTV10 20).symm.trans (congrArg (fun x => Option.getD x undef) t20)
        have f21 := (hTV10 21).symm.trans (congrArg (fun x => Option.getD x undef) t21)
        have f22 := (hTV10 22).symm.trans (congrArg (fun x => Option.getD x undef) t22)
        have f23 := (hTV10 23).symm.trans (congrArg (fun x => Option.getD x undef) t23)
        have f24 := (hTV10 24).symm.trans (congrArg (fun x => Option.getD x undef) t24)
        have f25 := (hTV10 25).symm.trans (congrArg (fun x => Option.getD x undef) t25)
        have f26 := (hTV10 26).symm.trans (congrArg (fun x => Option.getD x undef) t26)
        have f27 := (hTV10 27).symm.trans (congrArg (fun x => Option.getD x undef) t27)
        have f28 := (hTV10 28).symm.trans (congrArg (fun x => Option.getD x undef) t28)
        have f29 := (hTV10 29).symm.trans (congrArg (fun x => Option.getD x undef) t29)
        have f30 := (hTV10 30).symm.trans (congrArg (fun x => Option.getD x undef) t30)
        have f31 := (hTV10 31).symm.trans (congrArg (fun x => Option.getD x undef) t31)
        have f32 := (hTV10 32).symm.trans (congrArg (fun x => Option.getD x undef) t32)
        have f33 := (hTV10 33).symm.trans (congrArg (fun x => Option.getD x undef) t33)
        have f34 := (hTV10 34).symm.trans (congrArg (fun x => Option.getD x undef) t34)
        have f35 := (hTV10 35).symm.trans (congrArg (fun x => Option.getD x undef) t35)
        have f36 := (hTV10 36).symm.trans (congrArg (fun x => Option.getD x undef) t36)
        have f37 := (hTV10 37).symm.trans (congrArg (fun x => Option.getD x undef) t37)
        have f38 := (hTV10 38).symm.trans (congrArg (fun x => Option.getD x undef) t38)
        have f39 := (hTV10 39).symm.trans (congrArg (fun x => Option.getD x undef) t39)
        have f40 := (hTV10 40).symm.trans (congrArg (fun x => Option.getD x undef) t40)
        have f79 := (hTV10 79).symm.trans (congrArg (fun x => Option.getD x undef) t79)
        have f80 := (hTV10 80).symm.trans (congrArg (fun x => Option.getD x undef) t80)
        have f81 := (hTV10 81).symm.trans (congrArg (fun x => Option.getD x undef) t81)
        have f82 := (hTV10 82).symm.trans (congrArg (fun x => Option.getD x undef) t82)
        have f83 := (hTV10 83).symm.trans (congrArg (fun x => Option.getD x undef) t83)
        have f84 := (hTV10 84).symm.trans (congrArg (fun x => Option.getD x undef) t84)
        have f85 := (hTV10 85).symm.trans (congrArg (fun x => Option.getD x undef) t85)
        have f86 := (hTV10 86).symm.trans (congrArg (fun x => Option.getD x undef) t86)
        have f87 := (hTV10 87).symm.trans (congrArg (fun x => Option.getD x undef) t87)
        have f88 := (hTV10 88).symm.trans (congrArg (fun x => Option.getD x undef) t88)
        have f89 := (hTV10 89).symm.trans (congrArg (fun x => Option.getD x undef) t89)
        have f90 := (hTV10 90).symm.trans (congrArg (fun x => Option.getD x undef) t90)
        have f91 := (hTV10 91).symm.trans (congrArg (fun x => Option.getD x undef) t91)
        have f92 := (hTV10 92).symm.trans (congrArg (fun x => Option.getD x undef) t92)
        have f93 := (hTV10 93).symm.trans (congrArg (fun x => Option.getD x undef) t93)
        have f94 := (hTV10 94).symm.trans (congrArg (fun x => Option.getD x undef) t94)
        have f95 := (hTV10 95).symm.trans (congrArg (fun x => Option.getD x undef) t95)
        have f96 := (hTV10 96).symm.trans (congrArg (fun x => Option.getD x undef) t96)
        have f97 := (hTV10 97).symm.trans (congrArg (fun x => Option.getD x undef) t97)
        have f98 := (hTV10 98).symm.trans (congrArg (fun x => Option.getD x undef) t98)
        have f99 := (hTV10 99).symm.trans (congrArg (fun x => Option.getD x undef) t99)
        have f100 := (hTV10 100).symm.trans (congrArg (fun x => Option.getD x undef) t100)
        have f101 := (hTV10 101).symm.trans (congrArg (fun x => Option.getD x undef) t101)
        have f102 := (hTV10 102).symm.trans (congrArg (fun x => Option.getD x undef) t102)
        have f103 := (hTV10 103).symm.trans (congrArg (fun x => Option.getD x undef) t103)
        have f104 := (hTV10 104).symm.trans (congrArg (fun x => Option.getD x undef) t104)
        have f105 := (hTV10 105).symm.trans (congrArg (fun x => Option.getD x undef) t105)
        have f106 := (hTV10 106).symm.trans (congrArg (fun x => Option.getD x undef) t106)
        have f107 := (hTV10 107).symm.trans (congrArg (fun x => Option.getD x undef) t107)
        have f108 := (hTV10 108).symm.trans (congrArg (fun x => Option.getD x undef) t108)
        have f109 := (hTV10 109).symm.trans (congrArg (fun x => Option.getD x undef) t109)
        have f110 := (hTV10 110).symm.trans (congrArg (fun x => Option.getD x undef) t110)
        have f111 := (hTV10 111).symm.trans (congrArg (fun x => Option.getD x undef) t111)
        have f112 := (hTV10 112).symm.trans (congrArg (fun x => Option.getD x undef) t112)
        have f113 := (hTV10 113).symm.trans (congrArg (fun x => Option.getD x undef) t113)
        have f114 := (hTV10 114).symm.trans (congrArg (fun x => Option.getD x undef) t114)
        have f115 := (hTV10 115).symm.trans (congrArg (fun x => Option.getD x undef) t115)
        have f116 := (hTV10 116).symm.trans (congrArg (fun x => Option.getD x undef) t116)
        have f117 := (hTV10 117).symm.trans (congrArg (fun x => Option.getD x undef) t117)
        have f118 := (hTV10 118).symm.trans (congrArg (fun x => Option.getD x undef) t118)
        have f119 := (hTV10 119).symm.trans (congrArg (fun x => Option.getD x undef) t119)
        have hac := act_eq (n := 120) hsz TV10 hTV10
        rw [show ((List.range 120).map TV10).toArray = #[TV10 0, TV10 1, TV10 2, TV10 3, TV10 4, TV10 5, TV10 6, TV10 7, TV10 8, TV10 9, TV10 10, TV10 11, TV10 12, TV10 13, TV10 14, TV10 15, TV10 16, TV10 17, TV10 18, TV10 19, TV10 20, TV10 21, TV10 22, TV10 23, TV10 24, TV10 25, TV10 26, TV10 27, TV10 28, TV10 29, TV10 30, TV10 31, TV10 32, TV10 33, TV10 34, TV10 35, TV10 36, TV10 37, TV10 38, TV10 39, TV10 40, TV10 41, TV10 42, TV10 43, TV10 44, TV10 45, TV10 46, TV10 47, TV10 48, TV10 49, TV10 50, TV10 51, TV10 52, TV10 53, TV10 54, TV10 55, TV10 56, TV10 57, TV10 58, TV10 59, TV10 60, TV10 61, TV10 62, TV10 63, TV10 64, TV10 65, TV10 66, TV10 67, TV10 68, TV10 69, TV10 70, TV10 71, TV10 72, TV10 73, TV10 74, TV10 75, TV10 76, TV10 77, TV10 78, TV10 79, TV10 80, TV10 81, TV10 82, TV10 83, TV10 84, TV10 85, TV10 86, TV10 87, TV10 88, TV10 89, TV10 90, TV10 91, TV10 92, TV10 93, TV10 94, TV10 95, TV10 96, TV10 97, TV10 98, TV10 99, TV10 100, TV10 101, TV10 102, TV10 103, TV10 104, TV10 105, TV10 106, TV10 107, TV10 108, TV10 109, TV10 110, TV10 111, TV10 112, TV10 113, TV10 114, TV10 115, TV10 116, TV10 117, TV10 118, TV10 119] from rfl, f0, f1, f2, f3, f5, f6, f7, f8, f9, f10, f11, f12, f13, f14, f15, f16, f17, f18, f19, f20, f21, f22, f23, f24, f25, f26, f27, f28, f29, f30, f31, f32, f33, f34, f35, f36, f37, f38, f39, f40, f79, f80, f81, f82, f83, f84, f85, f86, f87, f88, f89, f90, f91, f92, f93, f94, f95, f96, f97, f98, f99, f100, f101, f102, f103, f104, f105, f106, f107, f108, f109, f110, f111, f112, f113, f114, f115, f116, f117, f118, f119, hdf] at hac
        simp only [Option.getD_some] at hac
        subst hac
        clear hTV10 f0 f1 f2 f3 f5 f6 f7 f8 f9 f10 f11 f12 f13 f14 f15 f16 f17 f18 f19 f20 f21 f22 f23 f24 f25 f26 f27 f28 f29 f30 f31 f32 f33 f34 f35 f36 f37 f38 f39 f40 f79 f80 f81 f82 f83 f84 f85 f86 f87 f88 f89 f90 f91 f92 f93 f94 f95 f96 f97 f98 f99 f100 f101 f102 f103 f104 f105 f106 f107 f108 f109 f110 f111 f112 f113 f114 f115 f116 f117 f118 f119
        have BB := Lib.hid ((hB.rat hrX).slot3 sX)
        clear hB sX hrX HP hsz t0 t1 t2 t3 t5 t6 t7 t8 t9 t10 t11 t12 t13 t14 t15 t16 t17 t18 t19 t20 t21 t22 t23 t24 t25 t26 t27 t28 t29 t30 t31 t32 t33 t34 t35 t36 t37 t38 t39 t40 t79 t80 t81 t82 t83 t84 t85 t86 t87 t88 t89 t90 t91 t92 t93 t94 t95 t96 t97 t98 t99 t100 t101 t102 t103 t104 t105 t106 t107 t108 t109 t110 t111 t112 t113 t114 t115 t116 t117 t118 t119
        have q00 := BB.out.now.2.2.1.cell
        have q01 := BB.out.now.2.2.1.cell1
        have q02 := BB.out.now.2.2.1.cell2
        have q10 := BB.out.now.1.cell
        have q11 := BB.out.now.1.cell1
        have q12 := BB.out.now.1.cell2
        go_wp2_with fail
        go_at_call 24
        (with_reducible refine (CX.out _ _ _ _ _ _ _ _ _ _ _ _ _ _ _ BB.out.now.2.2.2.1 BB.out.now.2.1).mono ?_)
        rintro e w40 ⟨rfl, hb40⟩
        have BB := Lib.hid (BB.out.go hb40)
        clear hb40
        clear q00 q01 q02 q10 q11 q12
        have BB := Lib.hid (end13 BB.out)
        go_wp2_with fail
        go_roundw
        case rel => exact ⟨j + 1, by omega, by go_num, BB.out⟩
        case measure => simp [intOf]; omega
      refine Stps2.cons (o := _) ?_ ?_
      · intro ac yw hsz hold hB hp K hK
        have t9 : ac.tmps[9]? = some (.slice (some ⟨w2.heap.size + 1, 0, none⟩) 6 6) := hold 9 (by kernel_rfl)
        clear hold hp hsz
        go_simp
        exact hK.out _ _ ⟨hB, rfl, Nat.le_refl _, .inl (Below.refl _ _), fun h => absurd h (by decide)⟩
      refine Stps2.cons (o := _) ?_ ?_
      · intro ac yw hsz hold hB hp K hK
        have t10 : ac.tmps[10]? = some (.int .i64 (j : Int)) := hold 10 (by kernel_rfl)
        clear hold hp hsz
        go_simp
        exact hK.out _ _ ⟨hB, rfl, Nat.le_refl _, .inl (Below.refl _ _), fun h => absurd h (by decide)⟩
      refine Stps2.cons (o := _) ?_ ?_
      · intro ac yw hsz hold hB hp K hK
        have e0 := hp 0 (by decide)
        have t58 : ac.tmps[58]? = some (.slice (some ⟨w2.heap.size + 1, 0, none⟩) 6 6) := (List.cons.inj e0).1
        have e1 := hp 1 (by decide)
        have t59 : ac.tmps[59]? = some (.int .i64 (j : Int)) := (List.cons.inj e1).1
        clear hold hp hsz e0 e1
        go_simp
        exact hK.out _ _ ⟨hB, rfl, Nat.le_refl _, .inl (Below.refl _ _), fun h => absurd h (by decide)⟩
      refine Stps2.cons (o := _) ?_ ?_
      · intro ac yw hsz hold hB hp K hK
        have e2 := hp 2 (by decide)
        have t60 : ac.tmps[60]? = some (.pointer (some ⟨w2.heap.size + 1, j, none⟩)) := (List.cons.inj e2).1
        clear hold hp hsz e2
        have v0 := hB.now.2.2.2.2.2.1.cell
        have v1 := hB.now.2.2.2.2.2.1.cell1
        have v2 := hB.now.2.2.2.2.2.1.cell2
        have v3 := hB.now.2.2.2.1.cell
        have v4 := hB.now.2.2.2.1.cell1
        have v5 := hB.now.2.2.2.1.cell2
        have vS := hB.now.2.2.1.at' j hj6
        rw [hc9] at vS
        go_simp
        exact hK.out _ _ ⟨hB, rfl, Nat.le_refl _, .inl (Below.refl _ _), fun h => absurd h (by decide)⟩
      refine Stps2.cons (o := _) ?_ ?_
      · intro ac yw hsz hold hB hp K hK
        have t7 : ac.tmps[7]? = some (.pointer (some ⟨w2.heap.size, 0, none⟩)) := hold 7 (by kernel_rfl)
        clear hold hp hsz
        have v0 := hB.now.2.2.2.2.2.1.cell
        have v1 := hB.now.2.2.2.2.2.1.cell1
        have v2 := hB.now.2.2.2.2.2.1.cell2
        have v3 := hB.now.2.2.2.1.cell
        have v4 := hB.now.2.2.2.1.cell1
        have v5 := hB.now.2.2.2.1.cell2
        have vS := hB.now.2.2.1.at' j hj6
        rw [hc9] at vS
        go_simp
        exact hK.out _ _ ⟨hB, rfl, Nat.le_refl _, .inl (Below.refl _ _), fun h => absurd h (by decide)⟩
      refine Stps2.cons (o := _) ?_ ?_
      · intro ac yw hsz hold hB hp K hK
        have t5 : ac.tmps[5]? = some (.pointer (some ⟨w1.heap.size, 0, none⟩)) := hold 5 (by kernel_rfl)
        clear hold hp hsz
        have v0 := hB.now.2.2.2.2.2.1.cell
        have v1 := hB.now.2.2.2.2.2.1.cell1
        have v2 := hB.now.2.2.2.2.2.1.cell2
        have v3 := hB.now.2.2.2.1.cell
        have v4 := hB.now.2.2.2.1.cell1
        have v5 := hB.now.2.2.2.1.cell2
        have vS := hB.now.2.2.1.at' j hj6
        rw [hc9] at vS
        go_simp
        exact hK.out _ _ ⟨hB, rfl, Nat.le_refl _, .inl (Below.refl _ _), fun h => absurd h (by decide)⟩
      refine Stps2.cons (o := _) ?_ ?_
      · intro ac yw hsz hold hB hp K hK
        have e3 := hp 3 (by decide)
        have t61 : ac.tmps[61]? = some (.int .i32 c9) := (List.cons.inj e3).1
        have e4 := hp 4 (by decide)
        have t62 : ac.tmps[62]? = some (.agg #[.slice x2 xn2 xc2, .bool xm2, .slice y2 yn2 yc2]) := (List.cons.inj e4).1
        have e5 := hp 5 (by decide)
        have t63 : ac.tmps[63]? = some (.agg #[.slice x1 xn1 xc1, .bool xm1, .slice y1 yn1 yc1]) := (List.cons.inj e5).1
        clear hold hp hsz e3 e4 e5
        go_simp
        (go_at_call 17; (with_reducible refine (TB.out _ _ _ _ _ _ _ _ _ _ _ _ _ _ _ hB.now.2.2.2.2.1 hB.now.2.2.2.2.2.2.1).mono ?_); rintro e wz ⟨x102, n102, c102, m102, y102, o102, d102, rfl, h6_0, hbz⟩)
        exact hK.out _ _ ⟨hB.go hbz, Exists.intro x102 (Exists.intro n102 (Exists.intro c102 (Exists.intro m102 (Exists.intro y102 (Exists.intro o102 (Exists.intro d102 (And.intro rfl h6_0))))))), hbz.size, .inl hbz, fun h => absurd h (by decide)⟩
      refine Stps2.cons (o := _) ?_ ?_
      · intro ac yw hsz hold hB hp K hK
        obtain ⟨x102_6, n102_6, c102_6, m102_6, y102_6, o102_6, d102_6, e6, g6_0⟩ := hp 6 (by decide)
        have t64 : ac.tmps[64]? = some (.tuple #[.agg #[.slice x102_6 n102_6 c102_6, .bool m102_6, .slice y102_6 o102_6 d102_6], .int .i64 0]) := (List.cons.inj e6).1
        clear hold hp hsz e6
        go_simp
        exact hK.out _ _ ⟨hB, Exists.intro x102_6 (Exists.intro n102_6 (Exists.intro c102_6 (Exists.intro m102_6 (Exists.intro y102_6 (Exists.intro o102_6 (Exists.intro d102_6 (And.intro rfl g6_0))))))), Nat.le_refl _, .inl (Below.refl _ _), fun h => absurd h (by decide)⟩
      refine Stps2.cons (o := _) ?_ ?_
      · intro ac yw hsz hold hB hp K hK
        obtain ⟨x102_7, n102_7, c102_7, m102_7, y102_7, o102_7, d102_7, e7, g7_0⟩ := hp 7 (by decide)
        have t57 : ac.tmps[57]? = some (.tuple #[.agg #[.slice x102_7 n102_7 c102_7, .bool m102_7, .slice y102_7 o102_7 d102_7], .int .i64 0]) := (List.cons.inj e7).1
        clear hold hp hsz e7
        go_simp
        exact hK.out _ _ ⟨hB, Exists.intro x102_7 (Exists.intro n102_7 (Exists.intro c102_7 (Exists.intro m102_7 (Exists.intro y102_7 (Exists.intro o102_7 (Exists.intro d102_7 (And.intro rfl g7_0))))))), Nat.le_refl _, .inl (Below.refl _ _), fun h => absurd h (by decide)⟩
      refine Stps2.cons (o := _) ?_ ?_
      · intro ac yw hsz hold hB hp K hK
        obtain ⟨x102_7, n102_7, c102_7, m102_7, y102_7, o102_7, d102_7, e7, g7_0⟩ := hp 7 (by decide)
        have t57 : ac.tmps[57]? = some (.tuple #[.agg #[.slice x102_7 n102_7 c102_7, .bool m102_7, .slice y102_7 o102_7 d102_7], .int .i64 0]) := (List.cons.inj e7).1
        clear hold hp hsz e7
        go_simp
        exact hK.out _ _ ⟨hB, rfl, Nat.le_refl _, .inl (Below.refl _ _), fun h => absurd h (by decide)⟩
      refine Stps2.cons (o := _) ?_ ?_
      · intro ac yw hsz hold hB hp K hK
        clear hold hp hsz
        have hk0 := hB.now.1.lt
        have hsl := Slot3.new yw (.slice none 0 0) (.bool false) (.slice none 0 0) 53
        have hbz : Below yw.heap.size yw (yw.alloc (.cells #[.slice none 0 0, .bool false, .slice none 0 0] 53)) /\ yw.heap.size < (yw.alloc (.cells #[.slice none 0 0, .bool false, .slice none 0 0] 53)).heap.size := ⟨(Below.refl _ _).alloc (Nat.le_refl _) _, by simp⟩
        go_simp
        exact hK.out _ _ ⟨hB.alloc _, Exists.intro yw.heap.size (Exists.intro none (Exists.intro 0 (Exists.intro 0 (Exists.intro false (Exists.intro none (Exists.intro 0 (Exists.intro 0 (And.intro rfl (And.intro hsl hk0))))))))), Nat.le_of_lt hbz.2, .inl hbz.1, fun _ => ⟨_, rfl, Nat.le_refl _, hbz.2⟩⟩
      refine Stps2.cons (o := _) ?_ ?_
      · intro ac yw hsz hold hB hp K hK
        obtain ⟨k10_10, x0_10, y0_10, z0_10, b0_10, u1_10, p1_10, z1_10, e10, g10_0, g10_1⟩ := hp 10 (by decide)
        have t13 : ac.tmps[13]? = some (.pointer (some ⟨k10_10, 0, none⟩)) := (List.cons.inj e10).1
        obtain ⟨x102_8, n102_8, c102_8, m102_8, y102_8, o102_8, d102_8, e8, g8_0⟩ := hp 8 (by decide)
        have t65 : ac.tmps[65]? = some (.agg #[.slice x102_8 n102_8 c102_8, .bool m102_8, .slice y102_8 o102_8 d102_8]) := (List.cons.inj e8).1
        clear hold hp hsz e10 e8
        have hs := g10_0
        have l0 := hs.cell
        have l1 := hs.cell1
        have l2 := hs.cell2
        have f0 := hs.free
        have f1 := hs.free1
        have f2 := hs.free2
        have HB := HP.out _ _ hs g10_1 hB x102_8 n102_8 c102_8 m102_8 y102_8 o102_8 d102_8
        go_simp
        refine hK.out undef _ ⟨HB, Exists.intro k10_10 (Exists.intro x102_8 (Exists.intro n102_8 (Exists.intro c102_8 (Exists.intro m102_8 (Exists.intro y102_8 (Exists.intro o102_8 (Exists.intro d102_8 (And.intro (congrArg (fun x => [x]) t13) (And.intro (hs.set3 (.slice x102_8 n102_8 c102_8) (.bool m102_8) (.slice y102_8 o102_8 d102_8)) (RatAt.set3 g8_0 hs _ _ _)))))))))), by simp, .inr ?_, fun h => absurd h (by decide)⟩
        intro jj hj hap h
        match jj, h with
        | 0, h => exact h
        | 1, h => exact h
        | 2, h => exact h
        | 3, h => exact h
        | 4, h => exact h
        | 5, h => exact h
        | 6, ⟨x102, n102, c102, m102, y102, o102, d102, e6, g6_0⟩ =>
         exact Exists.intro x102 (Exists.intro n102 (Exists.intro c102 (Exists.intro m102 (Exists.intro y102 (Exists.intro o102 (Exists.intro d102 (And.intro e6 (RatAt.set3 g6_0 hs _ _ _))))))))
        | 7, ⟨x102, n102, c102, m102, y102, o102, d102, e7, g7_0⟩ =>
         exact Exists.intro x102 (Exists.intro n102 (Exists.intro c102 (Exists.intro m102 (Exists.intro y102 (Exists.intro o102 (Exists.intro d102 (And.intro e7 (RatAt.set3 g7_0 hs _ _ _))))))))
        | 8, ⟨x102, n102, c102, m102, y102, o102, d102, e8, g8_0⟩ =>
         exact Exists.intro x102 (Exists.intro n102 (Exists.intro c102 (Exists.intro m102 (Exists.intro y102 (Exists.intro o102 (Exists.intro d102 (And.intro e8 (RatAt.set3 g8_0 hs _ _ _))))))))
        | 9, h => exact h
        | 10, ⟨k10, x0, y0, z0, b0, u1, p1, z1, e10, g10_0, g10_1⟩ =>
         have e9 : k10 = k10_10 := by have := (List.cons.inj e10).1.symm.trans t13; cases this; rfl
         subst e9
         exact Exists.intro _ (Exists.intro _ (Exists.intro _ (Exists.intro _ (Exists.intro _ (Exists.intro _ (Exists.intro _ (Exists.intro _ (And.intro e10 (And.intro (g10_0.set3 _ _ _) g10_1)))))))))
        | 11, _ => exact absurd rfl hj
        | 12, h => exact h
        | _ + 13, h => exact h
      refine Stps2.cons (o := _) ?_ ?_
      · intro ac yw hsz hold hB hp K hK
        have e9 := hp 9 (by decide)
        have t66 : ac.tmps[66]? = some (.int .i64 0) := (List.cons.inj e9).1
        clear hold hp hsz e9
        go_simp
        exact hK.out _ _ ⟨hB, rfl, Nat.le_refl _, .inl (Below.refl _ _), fun h => absurd h (by decide)⟩
      exact Stps2.nil _
    refine Stps2.cons (o := _) ?_ ?_
    · intro ac yw hsz hold hB hp K hK
      have t9 : ac.tmps[9]? = some (.slice (some ⟨w2.heap.size + 1, 0, none⟩) 6 6) := hold 9 (by kernel_rfl)
      clear hold hp hsz
      go_simp
      exact hK.out _ _ ⟨hB, rfl, Nat.le_refl _, .inl (Below.refl _ _), fun h => absurd h (by decide)⟩
    refine Stps2.cons (o := _) ?_ ?_
    · intro ac yw hsz hold hB hp K hK
      have t10 : ac.tmps[10]? = some (.int .i64 (j : Int)) := hold 10 (by kernel_rfl)
      clear hold hp hsz
      go_simp
      exact hK.out _ _ ⟨hB, rfl, Nat.le_refl _, .inl (Below.refl _ _), fun h => absurd h (by decide)⟩
    refine Stps2.cons (o := _) ?_ ?_
    · intro ac yw hsz hold hB hp K hK
      have e0 := hp 0 (by decide)
      have t48 : ac.tmps[48]? = some (.slice (some ⟨w2.heap.size + 1, 0, none⟩) 6 6) := (List.cons.inj e0).1
      have e1 := hp 1 (by decide)
      have t49 : ac.tmps[49]? = some (.int .i64 (j : Int)) := (List.cons.inj e1).1
      clear hold hp hsz e0 e1
      go_simp
      exact hK.out _ _ ⟨hB, rfl, Nat.le_refl _, .inl (Below.refl _ _), fun h => absurd h (by decide)⟩
    refine Stps2.cons (o := _) ?_ ?_
    · intro ac yw hsz hold hB hp K hK
      have e2 := hp 2 (by decide)
      have t50 : ac.tmps[50]? = some (.pointer (some ⟨w2.heap.size + 1, j, none⟩)) := (List.cons.inj e2).1
      clear hold hp hsz e2
      have v0 := hB.now.2.2.2.1.cell
      have v1 := hB.now.2.2.2.1.cell1
      have v2 := hB.now.2.2.2.1.cell2
      have v3 := hB.now.2.1.cell
      have v4 := hB.now.2.1.cell1
      have v5 := hB.now.2.1.cell2
      have vS := hB.now.1.at' j hj6
      rw [hc9] at vS
      go_simp
      exact hK.out _ _ ⟨hB, rfl, Nat.le_refl _, .inl (Below.refl _ _), fun h => absurd h (by decide)⟩
    refine Stps2.cons (o := _) ?_ ?_
    · intro ac yw hsz hold hB hp K hK
      have t5 : ac.tmps[5]? = some (.pointer (some ⟨w1.heap.size, 0, none⟩)) := hold 5 (by kernel_rfl)
      clear hold hp hsz
      have v0 := hB.now.2.2.2.1.cell
      have v1 := hB.now.2.2.2.1.cell1
      have v2 := hB.now.2.2.2.1.cell2
      have v3 := hB.now.2.1.cell
      have v4 := hB.now.2.1.cell1
      have v5 := hB.now.2.1.cell2
      have vS := hB.now.1.at' j hj6
      rw [hc9] at vS
      go_simp
      exact hK.out _ _ ⟨hB, rfl, Nat.le_refl _, .inl (Below.refl _ _), fun h => absurd h (by decide)⟩
    refine Stps2.cons (o := _) ?_ ?_
    · intro ac yw hsz hold hB hp K hK
      have t7 : ac.tmps[7]? = some (.pointer (some ⟨w2.heap.size, 0, none⟩)) := hold 7 (by kernel_rfl)
      clear hold hp hsz
      have v0 := hB.now.2.2.2.1.cell
      have v1 := hB.now.2.2.2.1.cell1
      have v2 := hB.now.2.2.2.1.cell2
      have v3 := hB.now.2.1.cell
      have v4 := hB.now.2.1.cell1
      have v5 := hB.now.2.1.cell2
      have vS := hB.now.1.at' j hj6
      rw [hc9] at vS
      go_simp
      exact hK.out _ _ ⟨hB, rfl, Nat.le_refl _, .inl (Below.refl _ _), fun h => absurd h (by decide)⟩
    refine Stps2.cons (o := _) ?_ ?_
    · intro ac yw hsz hold hB hp K hK
      have e3 := hp 3 (by decide)
      have t51 : ac.tmps[51]? = some (.int .i32 c9) := (List.cons.inj e3).1
      have e4 := hp 4 (by decide)
      have t52 : ac.tmps[52]? = some (.agg #[.slice x1 xn1 xc1, .bool xm1, .slice y1 yn1 yc1]) := (List.cons.inj e4).1
      have e5 := hp 5 (by decide)
      have t53 : ac.tmps[53]? = some (.agg #[.slice x2 xn2 xc2, .bool xm2, .slice y2 yn2 yc2]) := (List.cons.inj e5).1
      clear hold hp hsz e3 e4 e5
      go_simp
      (go_at_call 17; (with_reducible refine (TA.out _ _ _ _ _ _ _ _ _ _ _ _ _ _ _ hB.now.2.2.2.2.1 hB.now.2.2.1).mono ?_); rintro e wz ⟨x92, n92, c92, m92, y92, o92, d92, rfl, h6_0, hbz⟩)
      exact hK.out _ _ ⟨hB.go hbz, Exists.intro x92 (Exists.intro n92 (Exists.intro c92 (Exists.intro m92 (Exists.intro y92 (Exists.intro o92 (Exists.intro d92 (And.intro rfl h6_0))))))), hbz.size, .inl hbz, fun h => absurd h (by decide)⟩
    refine Stps2.cons (o := _) ?_ ?_
    · intro ac yw hsz hold hB hp K hK
      obtain ⟨x92_6, n92_6, c92_6, m92_6, y92_6, o92_6, d92_6, e6, g6_0⟩ := hp 6 (by decide)
      have t54 : ac.tmps[54]? = some (.tuple #[.agg #[.slice x92_6 n92_6 c92_6, .bool m92_6, .slice y92_6 o92_6 d92_6], .int .i64 0]) := (List.cons.inj e6).1
      clear hold hp hsz e6
      go_simp
      exact hK.out _ _ ⟨hB, Exists.intro x92_6 (Exists.intro n92_6 (Exists.intro c92_6 (Exists.intro m92_6 (Exists.intro y92_6 (Exists.intro o92_6 (Exists.intro d92_6 (And.intro rfl g6_0))))))), Nat.le_refl _, .inl (Below.refl _ _), fun h => absurd h (by decide)⟩
    refine Stps2.cons (o := _) ?_ ?_
    · intro ac yw hsz hold hB hp K hK
      obtain ⟨x92_7, n92_7, c92_7, m92_7, y92_7, o92_7, d92_7, e7, g7_0⟩ := hp 7 (by decide)
      have t47 : ac.tmps[47]? = some (.tuple #[.agg #[.slice x92_7 n92_7 c92_7, .bool m92_7, .slice y92_7 o92_7 d92_7], .int .i64 0]) := (List.cons.inj e7).1
      clear hold hp hsz e7
      go_simp
      exact hK.out _ _ ⟨hB, Exists.intro x92_7 (Exists.intro n92_7 (Exists.intro c92_7 (Exists.intro m92_7 (Exists.intro y92_7 (Exists.intro o92_7 (Exists.intro d92_7 (And.intro rfl g7_0))))))), Nat.le_refl _, .inl (Below.refl _ _), fun h => absurd h (by decide)⟩
    refine Stps2.cons (o := _) ?_ ?_
    · intro ac yw hsz hold hB hp K hK
      obtain ⟨x92_7, n92_7, c92_7, m92_7, y92_7, o92_7, d92_7, e7, g7_0⟩ := hp 7 (by decide)
      have t47 : ac.tmps[47]? = some (.tuple #[.agg #[.slice x92_7 n92_7 c92_7, .bool m92_7, .slice y92_7 o92_7 d92_7], .int .i64 0]) := (List.cons.inj e7).1
      clear hold hp hsz e7
      go_simp
      exact hK.out _ _ ⟨hB, rfl, Nat.le_refl _, .inl (Below.refl _ _), fun h => absurd h (by decide)⟩
    refine Stps2.cons (o := _) ?_ ?_
    · intro ac yw hsz hold hB hp K hK
      clear hold hp hsz
      have hk0 := hB.now.1.lt
      have hsl := Slot3.new yw (.slice none 0 0) (.bool false) (.slice none 0 0) 53
      have hbz : Below yw.heap.size yw (yw.alloc (.cells #[.slice none 0 0, .bool false, .slice none 0 0] 53)) /\ yw.heap.size < (yw.alloc (.cells #[.slice none 0 0, .bool false, .slice none 0 0] 53)).heap.size := ⟨(Below.refl _ _).alloc (Nat.le_refl _) _, by simp⟩
      go_simp
      exact hK.out _ _ ⟨hB.alloc _, Exists.intro yw.heap.size (Exists.intro none (Exists.intro 0 (Exists.intro 0 (Exists.intro false (Exists.intro none (Exists.intro 0 (Exists.intro 0 (And.intro rfl (And.intro hsl hk0))))))))), Nat.le_of_lt hbz.2, .inl hbz.1, fun _ => ⟨_, rfl, Nat.le_refl _, hbz.2⟩⟩
    refine Stps2.cons (o := _) ?_ ?_
    · intro ac yw hsz hold hB hp K hK
      obtain ⟨k10_10, x0_10, y0_10, z0_10, b0_10, u1_10, p1_10, z1_10, e10, g10_0, g10_1⟩ := hp 10 (by decide)
      have t11 : ac.tmps[11]? = some (.pointer (some ⟨k10_10, 0, none⟩)) := (List.cons.inj e10).1
      obtain ⟨x92_8, n92_8, c92_8, m92_8, y92_8, o92_8, d92_8, e8, g8_0⟩ := hp 8 (by decide)
      have t55 : ac.tmps[55]? = some (.agg #[.slice x92_8 n92_8 c92_8, .bool m92_8, .slice y92_8 o92_8 d92_8]) := (List.cons.inj e8).1
      clear hold hp hsz e10 e8
      have hs := g10_0
      have l0 := hs.cell
      have l1 := hs.cell1
      have l2 := hs.cell2
      have f0 := hs.free
      have f1 := hs.free1
      have f2 := hs.free2
      have HB := HP.out _ _ hs g10_1 hB x92_8 n92_8 c92_8 m92_8 y92_8 o92_8 d92_8
      go_simp
      refine hK.out undef _ ⟨HB, Exists.intro k10_10 (Exists.intro x92_8 (Exists.intro n92_8 (Exists.intro c92_8 (Exists.intro m92_8 (Exists.intro y92_8 (Exists.intro o92_8 (Exists.intro d92_8 (And.intro (congrArg (fun x => [x]) t11) (And.intro (hs.set3 (.slice x92_8 n92_8 c92_8) (.bool m92_8) (.slice y92_8 o92_8 d92_8)) (RatAt.set3 g8_0 hs _ _ _)))))))))), by simp, .inr ?_, fun h => absurd h (by decide)⟩
      intro jj hj hap h
      match jj, h with
      | 0, h => exact h
      | 1, h => exact h
      | 2, h => exact h
      | 3, h => exact h
      | 4, h => exact h
      | 5, h => exact h
      | 6, ⟨x92, n92, c92, m92, y92, o92, d92, e6, g6_0⟩ =>
       exact Exists.intro x92 (Exists.intro n92 (Exists.intro c92 (Exists.intro m92 (Exists.intro y92 (Exists.intro o92 (Exists.intro d92 (And.intro e6 (RatAt.set3 g6_0 hs _ _ _))))))))
      | 7, ⟨x92, n92, c92, m92, y92, o92, d92, e7, g7_0⟩ =>
       exact Exists.intro x92 (Exists.intro n92 (Exists.intro c92 (Exists.intro m92 (Exists.intro y92 (Exists.intro o92 (Exists.intro d92 (And.intro e7 (RatAt.set3 g7_0 hs _ _ _))))))))
      | 8, ⟨x92, n92, c92, m92, y92, o92, d92, e8, g8_0⟩ =>
       exact Exists.intro x92 (Exists.intro n92 (Exists.intro c92 (Exists.intro m92 (Exists.intro y92 (Exists.intro o92 (Exists.intro d92 (And.intro e8 (RatAt.set3 g8_0 hs _ _ _))))))))
      | 9, h => exact h
      | 10, ⟨k10, x0, y0, z0, b0, u1, p1, z1, e10, g10_0, g10_1⟩ =>
       have e9 : k10 = k10_10 := by have := (List.cons.inj e10).1.symm.trans t11; cases this; rfl
       subst e9
       exact Exists.intro _ (Exists.intro _ (Exists.intro _ (Exists.intro _ (Exists.intro _ (Exists.intro _ (Exists.intro _ (Exists.intro _ (And.intro e10 (And.intro (g10_0.set3 _ _ _) g10_1)))))))))
      | 11, _ => exact absurd rfl hj
      | 12, h => exact h
      | _ + 13, h => exact h
    refine Stps2.cons (o := _) ?_ ?_
    · intro ac yw hsz hold hB hp K hK
      have e9 := hp 9 (by decide)
      have t56 : ac.tmps[56]? = some (.int .i64 0) := (List.cons.inj e9).1
      clear hold hp hsz e9
      go_simp
      exact hK.out _ _ ⟨hB, rfl, Nat.le_refl _, .inl (Below.refl _ _), fun h => absurd h (by decide)⟩
    exact Stps2.nil _
  · obtain rfl : j = 6 := by omega
    clear TU WA WB hj6
    have q00 := BB.out.now.2.2.2.1.cell
    have q01 := BB.out.now.2.2.2.1.cell1
    have q02 := BB.out.now.2.2.2.1.cell2
    have q10 := BB.out.now.2.1.cell
    have q11 := BB.out.now.2.1.cell1
    have q12 := BB.out.now.2.1.cell2
    go_wp2_with fail
    go_at_call 17
    (with_reducible refine (W1.out _ _ _ _ _ _ _ _ _ _ _ _ _ _ _ BB.out.now.2.2.2.2.1 BB.out.now.2.2.1).mono ?_)
    rintro e w50 ⟨x50, xn50, xc50, xm50, y50, yn50, yc50, rfl, hr50, hb50⟩
    have BB := Lib.hid (((BB.out.go hb50).rat hr50).box3 (.slice x50 xn50 xc50) (.bool xm50) (.slice y50 yn50 yc50) 53)
    clear hb50
    clear hr50
    clear q00 q01 q02 q10 q11 q12
    have q00 := BB.out.now.2.2.2.2.2.1.cell
    have q01 := BB.out.now.2.2.2.2.2.1.cell1
    have q02 := BB.out.now.2.2.2.2.2.1.cell2
    have q10 := BB.out.now.2.2.2.1.cell
    have q11 := BB.out.now.2.2.2.1.cell1
    have q12 := BB.out.now.2.2.2.1.cell2
    go_wp2_with fail
    go_at_call 17
    (with_reducible refine (W2.out _ _ _ _ _ _ _ _ _ _ _ _ _ _ _ BB.out.now.2.2.2.2.1 BB.out.now.2.2.2.2.2.2.1).mono ?_)
    rintro e w51 ⟨x51, xn51, xc51, xm51, y51, yn51, yc51, rfl, hr51, hb51⟩
    have BB := Lib.hid (((BB.out.go hb51).rat hr51).box3 (.slice x51 xn51 xc51) (.bool xm51) (.slice y51 yn51 yc51) 53)
    clear hb51
    clear hr51
    clear q00 q01 q02 q10 q11 q12
    have q00 := BB.out.now.2.2.2.2.2.2.2.1.cell
    have q01 := BB.out.now.2.2.2.2.2.2.2.1.cell1
    have q02 := BB.out.now.2.2.2.2.2.2.2.1.cell2
    have q10 := BB.out.now.2.2.2.2.2.1.cell
    have q11 := BB.out.now.2.2.2.2.2.1.cell1
    have q12 := BB.out.now.2.2.2.2.2.1.cell2
    go_wp2_with fail
    go_at_call 17
    (with_reducible refine (W3.out _ _ _ _ _ _ _ _ _ _ _ _ _ _ _ BB.out.now.2.2.2.2.2.2.2.2.1 BB.out.now.2.2.2.2.2.2.1).mono ?_)
    rintro e w52 ⟨x52, xn52, xc52, xm52, y52, yn52, yc52, rfl, hr52, hb52⟩
    have BB := Lib.hid (((BB.out.go hb52).rat hr52).box3 (.slice x52 xn52 xc52) (.bool xm52) (.slice y52 yn52 yc52) 53)
    clear hb52
    clear hr52
    clear q00 q01 q02 q10 q11 q12
    have q00 := BB.out.now.2.2.2.2.2.2.2.2.2.1.cell
    have q01 := BB.out.now.2.2.2.2.2.2.2.2.2.1.cell1
    have q02 := BB.out.now.2.2.2.2.2.2.2.2.2.1.cell2
    have q10 := BB.out.now.2.2.2.2.2.2.2.1.cell
    have q11 := BB.out.now.2.2.2.2.2.2.2.1.cell1
    have q12 := BB.out.now.2.2.2.2.2.2.2.1.cell2
    go_wp2_with fail
    go_at_call 17
    (with_reducible refine (W4.out _ _ _ _ _ _ _ _ _ _ _ _ _ _ _ BB.out.now.2.2.2.2.2.2.2.2.2.2.1 BB.out.now.2.2.2.2.2.2.2.2.1).mono ?_)
    rintro e w53 ⟨x53, xn53, xc53, xm53, y53, yn53, yc53, rfl, hr53, hb53⟩
    have BB := Lib.hid (((BB.out.go hb53).rat hr53).box3 (.slice x53 xn53 xc53) (.bool xm53) (.slice y53 yn53 yc53) 53)
    clear hb53
    clear hr53
    clear q00 q01 q02 q10 q11 q12
    have q00 := BB.out.now.2.2.2.2.2.2.2.2.2.2.2.1.cell
    have q01 := BB.out.now.2.2.2.2.2.2.2.2.2.2.2.1.cell1
    have q02 := BB.out.now.2.2.2.2.2.2.2.2.2.2.2.1.cell2
    have q10 := BB.out.now.2.2.2.2.2.2.2.2.2.1.cell
    have q11 := BB.out.now.2.2.2.2.2.2.2.2.2.1.cell1
    have q12 := BB.out.now.2.2.2.2.2.2.2.2.2.1.cell2
    clear q00 q01 q02 q10 q11 q12
    have q00 := BB.out.now.2.2.2.2.2.2.1.cell
    have q01 := BB.out.now.2.2.2.2.2.2.1.cell1
    have q02 := BB.out.now.2.2.2.2.2.2.1.cell2
    have q10 := BB.out.now.2.2.2.2.1.cell
    have q11 := BB.out.now.2.2.2.2.1.cell1
    have q12 := BB.out.now.2.2.2.2.1.cell2
    have q20 := BB.out.now.2.2.1.cell
    have q21 := BB.out.now.2.2.1.cell1
    have q22 := BB.out.now.2.2.1.cell2
    have q30 := BB.out.now.1.cell
    have q31 := BB.out.now.1.cell1
    have q32 := BB.out.now.1.cell2
    go_wp2_with fail
    go_at_call 24
    (with_reducible refine (CL.out _ _ _ _ _ _ _ _ _ _ _ _ _ _ _ BB.out.now.2.2.2.2.2.2.2.1 BB.out.now.2.2.2.2.2.1).mono ?_)
    rintro e w54 ⟨rfl, hb54⟩
    have BB := Lib.hid (BB.out.go hb54)
    clear hb54
    clear q00 q01 q02 q10 q11 q12 q20 q21 q22 q30 q31 q32
    have q00 := BB.out.now.2.2.2.2.2.2.1.cell
    have q01 := BB.out.now.2.2.2.2.2.2.1.cell1
    have q02 := BB.out.now.2.2.2.2.2.2.1.cell2
    have q10 := BB.out.now.2.2.2.2.1.cell
    have q11 := BB.out.now.2.2.2.2.1.cell1
    have q12 := BB.out.now.2.2.2.2.1.cell2
    have q20 := BB.out.now.2.2.1.cell
    have q21 := BB.out.now.2.2.1.cell1
    have q22 := BB.out.now.2.2.1.cell2
    have q30 := BB.out.now.1.cell
    have q31 := BB.out.now.1.cell1
    have q32 := BB.out.now.1.cell2
    go_wp2_with fail
    go_at_call 25
    (with_reducible refine (PT.out _ _ _ _ _ _ _ _ _ ?_ ?_).mono ?_)
    · exact (BB.out.alloc _).now.2.2.2.2.2.2.2.1
    · exact RatsAt.old2 (Below.refl _ _) (by first | rfl | simp) (BB.out.alloc _).now.2.2.2.1 (BB.out.alloc _).now.2.1
    rintro e w55 ⟨x55, xn55, xc55, xm55, y55, yn55, yc55, rfl, hr55, hb55⟩
    have BB := Lib.hid (((BB.out.alloc _).go hb55).rat hr55)
    clear hb55 hr55
    go_wp2_with fail
    go_at_call 26
    (with_reducible refine (FR1.out _).mono ?_)
    rintro e w56 ⟨x56, xn56, xc56, xm56, y56, yn56, yc56, rfl, hr56, hb56⟩
    have BB := Lib.hid ((BB.out.go hb56).rat hr56)
    clear hb56
    clear hr56
    go_wp2_with fail
    go_at_call 24
    (with_reducible refine (C1.out _ _ _ _ _ _ _ _ _ _ _ _ _ _ _ BB.out.now.2.1 BB.out.now.1).mono ?_)
    rintro e w57 ⟨rfl, hb57⟩
    have BB := Lib.hid (BB.out.go hb57)
    clear hb57
    go_wp2_with fail
    go_at_call 16
    (with_reducible refine (AW.out _).mono ?_)
    rintro e w58 ⟨rfl, hb58⟩
    have BB := Lib.hid (BB.out.go hb58)
    clear hb58
    go_wp2
    go_ret
    exact ⟨rfl, BB.out.below⟩
theorem dyadTurned_walk (b : Bool) (s t : ByteArray) (b' : Bool) (s' t' : ByteArray) (w : World) (_ : s.size <= maxLen) (_ : t.size <= maxLen) (_ : s'.size <= maxLen) (_ : t'.size <= maxLen) :
    Calls Tryz.prog 6 #[.agg #[.bool b, .string s, .string t], .agg #[.bool b', .string s', .string t']] w fun e w' => e = .returned (.bool true) /\ Below w.heap.size w w' := by
 cases hA : rd13 b s t with
 | false => exact dyadTurned_no1 b s t b' s' t' w hA
 | true =>
  cases hB : rd13 b' s' t' with
  | false => exact dyadTurned_no2 b s t b' s' t' w hA hB
  | true => exact dyadTurned_yes b s t b' s' t' w hA hB
theorem own : ownKnob Tryz.prog.godebug = none := by kernel_rfl
theorem dyadTurned_lifted (os : Os) (started : os.Started) (H : Type) (enc : TypeId × Value -> H) :
    ReturnsInHanded {} Tryz.checked os 6 .any (fun w args => (Rows.dyadTurnedSpec.pre enc Tryz.prog Tryz.f6 [] false w args /\ laidMetH Tryz.prog Rows.dyadTurnedRow.laid w) /\ sizedMet enc Tryz.prog Tryz.f6 (OpenSpec.ofChange Rows.dyadTurnedSpec) false w args)
     (Rows.dyadTurnedSpec.post enc Tryz.prog Tryz.f6 false true false false) := by
 refine returnsInHanded_of_change_and (C := Tryz.checked) (X := fun w _ => laidMetH Tryz.prog Rows.dyadTurnedRow.laid w) (fun _ _ _ hh h => h.of_heap hh) own started (by kernel_rfl) Tryz.func6
  (ChangeSpec.witness_shaped (enc := enc) (C := Tryz.checked) (os := os) (X := fun w _ => laidMetH Tryz.prog Rows.dyadTurnedRow.laid w) false (World.laidAll Tryz.prog os Rows.dyadTurnedRow.laid) #[.agg #[.bool false, .string ⟨#[]⟩, .string ⟨#[]⟩], .agg #[.bool false, .string ⟨#[]⟩, .string ⟨#[]⟩]] 8 (World.laidAll_os _ _ _)
    (World.shaped_of_ZipB (by kernel_rfl) (by kernel_rfl)) (by kernel_rfl) (by kernel_rfl) (by kernel_rfl)
    (by rw [MakeChecks.laidMetH_plain _ _ _ (by kernel_rfl)]; exact laidMet_laidAll _ (by kernel_rfl) (by kernel_rfl))) ?_
 intro W base args ds gs before hval0 hW _ _ _ _
 have hval : ∀ (j : Nat) t v, Tryz.f6.params[j]? = some t -> args[j]? = some v -> Value.okWide Tryz.prog W .any base t v := hval0
 have hW' := hW
 obtain ⟨p, q, hA0, hV, rfl, _, _⟩ := hW
 have hA : DataW.TrodAll enc Tryz.prog W 0 (fun _ => true) true Tryz.f6.params.toList args.toList ds p := hA0
 rw [Tryz.params6] at hA hval
 obtain ⟨v0, v1, d0, d1, p0, p1, rfl, rfl, rfl, h0, h1⟩ := trodAll_two hA
 obtain ⟨rfl, rfl⟩ := trodVars_none hV
 obtain ⟨x0, y0, z0, rfl, rfl, rfl, b0, c0⟩ := open_num (hval 0 46 v0 rfl rfl) h0
 obtain ⟨x1, y1, z1, rfl, rfl, rfl, b1, c1⟩ := open_num (hval 1 46 v1 rfl rfl) h1
 simp only [List.append_nil] at hW'
 refine (dyadTurned_walk x0 y0 z0 x1 y1 z1 W b0 c0 b1 c1).mono fun e W' ⟨he, hb⟩ => ?_
 subst he
 exact ⟨_, rfl, _, _, _, [], [], [], hW', trodAll_mk1 (shut_bool Tryz.underlying4 _), trodAll_mk2 (shut_num b0 c0) (shut_num b1 c1), rfl, hb.frame _, fun h => by cases h⟩
theorem dyadTurned_row : Rows.DyadTurnedSaid :=
 OpenClaim.holds_of_wide 6 Tryz.f6 rfl rfl rfl rfl rfl rfl rfl ⟨rfl, rfl, rfl, rfl, rfl⟩ rfl rfl rfl rfl rfl (by kernel_rfl) Tryz.func6 (by kernel_rfl)
  (of_decide_eq_true (by kernel_rfl)) (by unfold Func.isWrapper; first | (rw [if_pos (by decide +kernel)]; kernel_rfl) | (rw [if_neg (by decide +kernel)]; exact ⟨rfl, rfl⟩))
  (fun os started H enc _ => dyadTurned_lifted os started H enc)
theorem dyadTurned_holds : Rows.DyadTurnedCardSaid :=
 Claim7.holds_tied_plain_at .later [] [.data, .pinned] true Rows.dyadTurnedCard.stood.harness Rows.dyadTurnedCard.stood.looks dyadTurned_row (fun _ h => by cases h) (by kernel_rfl) (fun _ h => by cases h) dyadTurned_row_tie rfl ⟨rfl, rfl⟩ (by kernel_rfl) rfl
  (fun f fn hf hfn => by
    obtain rfl : f = 6 := Option.some.inj ((show Tryz.prog.funcNamed "typeball/typeballlaw13.DyadTurned" = some 6 by kernel_rfl).symm.trans hf) |>.symm
    obtain rfl : fn = Tryz.f6 := (Option.some.inj (Tryz.func6.symm.trans hfn)).symm
    exact ⟨by kernel_rfl, fun j t ht => by
     rw [Tryz.params6] at ht
     have hm : t ∈ [46] := by simpa using Array.mem_of_getElem? ht
     have hall : ([46].all fun u => !Tryz.prog.wantsStandIn u) = true := by kernel_rfl
     exact (show Tryz.prog.wantsStandIn t = false by simpa using List.all_eq_true.1 hall t hm)⟩)
  (by kernel_rfl)
#print axioms dyadTurned_holds
end Go.Proofs.YtpdcdebnkbnogaaGreatDoor
