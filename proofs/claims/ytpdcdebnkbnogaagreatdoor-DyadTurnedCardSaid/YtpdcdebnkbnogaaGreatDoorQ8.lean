/-
  Texts of this seat, laid together.
-/
import Derived.Test.YtpdcdebnkbnogaaGreatDoorQ1
import Derived.Test.YtpdcdebnkbnogaaGreatDoorQ2
import Derived.Test.YtpdcdebnkbnogaaGreatDoorQ3
import Derived.Test.YtpdcdebnkbnogaaGreatDoorQ4
import Derived.Test.YtpdcdebnkbnogaaGreatDoorQ5
import Derived.Test.YtpdcdebnkbnogaaGreatDoorQ6
import Derived.Test.YtpdcdebnkbnogaaGreatDoorQ7
set_option maxHeartbeats 12800000
set_option maxRecDepth 100000
set_option linter.unusedSimpArgs false
set_option linter.unusedVariables false
namespace Go.Proofs.YtpdcdebnkbnogaaGreatDoor
open Go.RowKit
attribute [local go_sem ↓] Go.wp_at_zero Go.wp_at_succ
set_option linter.unusedVariables false
set_option linter.unusedSimpArgs false
theorem dgreater_any (a : Option Addr) (n c : Nat) (m : Bool) (a2 : Option Addr) (n2 c2 : Nat) (P : Int) (Q : Nat) (b : Option Addr) (k l : Nat) (v : Bool) (b2 : Option Addr) (k2 l2 : Nat) (P' : Int) (Q' : Nat) (w : World) (h : RatAt w a n c m a2 n2 c2 P Q) (g : RatAt w b k l v b2 k2 l2 P' Q') (hQ : 0 < Q) (hQ' : 0 < Q') (K : Nat) (hK : K <= 20000) (h1 : P.natAbs < 4294967296 ^ K) (h2 : Q < 4294967296 ^ K) (h3 : P'.natAbs < 4294967296 ^ K) (h4 : Q' < 4294967296 ^ K) :
    Calls Tryz.prog 150 #[.agg #[.slice a n c, .bool m, .slice a2 n2 c2], .agg #[.slice b k l, .bool v, .slice b2 k2 l2]] w fun e w' => RatTold w w' e (if cmpZ (P * Q') (P' * Q) < 0 then P' else P) (if cmpZ (P * Q') (P' * Q) < 0 then Q' else Q) := by
 have CM := Lib.hid (fun wz h g => ratCmp_any a n c m a2 n2 c2 P Q b k l v b2 k2 l2 P' Q' wz h g hQ hQ' K (by omega) h1 h2 h3 h4)
 obtain ⟨CZ, hCZ⟩ : ∃ z, cmpZ (P * Q') (P' * Q) = z := ⟨_, rfl⟩
 rw [hCZ] at CM
 rw [hCZ]
 clear hCZ
 by_cases hz : CZ < 0
 · rw [if_pos hz, if_pos hz]
   have d0 : decide (CZ < 0) = true := decide_eq_true hz
   clear hz hQ hQ' hK h1 h2 h3 h4
   have BB := Lib.hid ((((((Bag.start w).rat h).rat g).box3 (.slice a n c) (.bool m) (.slice a2 n2 c2) 53).box3 (.slice b k l) (.bool v) (.slice b2 k2 l2) 53).box3 (.slice none 0 0) (.bool false) (.slice none 0 0) 53)
   simp only [World.size_alloc] at BB
   have q00 := BB.out.now.2.2.1.cell
   have q01 := BB.out.now.2.2.1.cell1
   have q02 := BB.out.now.2.2.1.cell2
   have q10 := BB.out.now.2.1.cell
   have q11 := BB.out.now.2.1.cell1
   have q12 := BB.out.now.2.1.cell2
   go_enter Tryz.func150, Tryz.ntmps150
   go_wp2_with fail
   go_at_call 24
   (with_reducible refine (CM.out _ BB.out.now.2.2.2.2.1 BB.out.now.2.2.2.1).mono ?_)
   rintro e w1 ⟨rfl, hb1⟩
   have BB := Lib.hid (BB.out.go hb1)
   clear hb1
   clear q00 q01 q02 q10 q11 q12
   have q00 := BB.out.now.2.2.1.cell
   have q01 := BB.out.now.2.2.1.cell1
   have q02 := BB.out.now.2.2.1.cell2
   have q10 := BB.out.now.2.1.cell
   have q11 := BB.out.now.2.1.cell1
   have q12 := BB.out.now.2.1.cell2
   have hs := BB.out.now.1
   have u0 := hs.cell
   have u1 := hs.cell1
   have u2 := hs.cell2
   have g0 := hs.free
   have g1 := hs.free1
   have g2 := hs.free2
   have HS := hs.set (.slice b k l) (.bool v) (.slice b2 k2 l2)
   have HE := Lib.hid (RatTold.done BB.out.below (by omega) hs BB.out.now.2.2.2.1)
   clear hs
   go_wp2
   exact bodyPost_ret (v := .agg #[.slice b k l, .bool v, .slice b2 k2 l2]) (by simp [results, Tryz.results150, go_sem, HS]) rfl HE.out
 · rw [if_neg hz, if_neg hz]
   have d0 : decide (CZ < 0) = false := decide_eq_false hz
   clear hz hQ hQ' hK h1 h2 h3 h4
   have BB := Lib.hid ((((((Bag.start w).rat h).rat g).box3 (.slice a n c) (.bool m) (.slice a2 n2 c2) 53).box3 (.slice b k l) (.bool v) (.slice b2 k2 l2) 53).box3 (.slice none 0 0) (.bool false) (.slice none 0 0) 53)
   simp only [World.size_alloc] at BB
   have q00 := BB.out.now.2.2.1.cell
   have q01 := BB.out.now.2.2.1.cell1
   have q02 := BB.out.now.2.2.1.cell2
   have q10 := BB.out.now.2.1.cell
   have q11 := BB.out.now.2.1.cell1
   have q12 := BB.out.now.2.1.cell2
   go_enter Tryz.func150, Tryz.ntmps150
   go_wp2_with fail
   go_at_call 24
   (with_reducible refine (CM.out _ BB.out.now.2.2.2.2.1 BB.out.now.2.2.2.1).mono ?_)
   rintro e w1 ⟨rfl, hb1⟩
   have BB := Lib.hid (BB.out.go hb1)
   clear hb1
   clear q00 q01 q02 q10 q11 q12
   have q00 := BB.out.now.2.2.1.cell
   have q01 := BB.out.now.2.2.1.cell1
   have q02 := BB.out.now.2.2.1.cell2
   have q10 := BB.out.now.2.1.cell
   have q11 := BB.out.now.2.1.cell1
   have q12 := BB.out.now.2.1.cell2
   have hs := BB.out.now.1
   have u0 := hs.cell
   have u1 := hs.cell1
   have u2 := hs.cell2
   have g0 := hs.free
   have g1 := hs.free1
   have g2 := hs.free2
   have HS := hs.set (.slice a n c) (.bool m) (.slice a2 n2 c2)
   have HE := Lib.hid (RatTold.done BB.out.below (by omega) hs BB.out.now.2.2.2.2.1)
   clear hs
   go_wp2
   exact bodyPost_ret (v := .agg #[.slice a n c, .bool m, .slice a2 n2 c2]) (by simp [results, Tryz.results150, go_sem, HS]) rfl HE.out
theorem dlesser_any (a : Option Addr) (n c : Nat) (m : Bool) (a2 : Option Addr) (n2 c2 : Nat) (P : Int) (Q : Nat) (b : Option Addr) (k l : Nat) (v : Bool) (b2 : Option Addr) (k2 l2 : Nat) (P' : Int) (Q' : Nat) (w : World) (h : RatAt w a n c m a2 n2 c2 P Q) (g : RatAt w b k l v b2 k2 l2 P' Q') (hQ : 0 < Q) (hQ' : 0 < Q') (K : Nat) (hK : K <= 20000) (h1 : P.natAbs < 4294967296 ^ K) (h2 : Q < 4294967296 ^ K) (h3 : P'.natAbs < 4294967296 ^ K) (h4 : Q' < 4294967296 ^ K) :
    Calls Tryz.prog 151 #[.agg #[.slice a n c, .bool m, .slice a2 n2 c2], .agg #[.slice b k l, .bool v, .slice b2 k2 l2]] w fun e w' => RatTold w w' e (if 0 < cmpZ (P * Q') (P' * Q) then P' else P) (if 0 < cmpZ (P * Q') (P' * Q) then Q' else Q) := by
 have CM := Lib.hid (fun wz h g => ratCmp_any a n c m a2 n2 c2 P Q b k l v b2 k2 l2 P' Q' wz h g hQ hQ' K (by omega) h1 h2 h3 h4)
 obtain ⟨CZ, hCZ⟩ : ∃ z, cmpZ (P * Q') (P' * Q) = z := ⟨_, rfl⟩
 rw [hCZ] at CM
 rw [hCZ]
 clear hCZ
 by_cases hz : 0 < CZ
 · rw [if_pos hz, if_pos hz]
   have d0 : decide (0 < CZ) = true := decide_eq_true hz
   clear hz hQ hQ' hK h1 h2 h3 h4
   have BB := Lib.hid ((((((Bag.start w).rat h).rat g).box3 (.slice a n c) (.bool m) (.slice a2 n2 c2) 53).box3 (.slice b k l) (.bool v) (.slice b2 k2 l2) 53).box3 (.slice none 0 0) (.bool false) (.slice none 0 0) 53)
   simp only [World.size_alloc] at BB
   have q00 := BB.out.now.2.2.1.cell
   have q01 := BB.out.now.2.2.1.cell1
   have q02 := BB.out.now.2.2.1.cell2
   have q10 := BB.out.now.2.1.cell
   have q11 := BB.out.now.2.1.cell1
   have q12 := BB.out.now.2.1.cell2
   go_enter Tryz.func151, Tryz.ntmps151
   go_wp2_with fail
   go_at_call 24
   (with_reducible refine (CM.out _ BB.out.now.2.2.2.2.1 BB.out.now.2.2.2.1).mono ?_)
   rintro e w1 ⟨rfl, hb1⟩
   have BB := Lib.hid (BB.out.go hb1)
   clear hb1
   clear q00 q01 q02 q10 q11 q12
   have q00 := BB.out.now.2.2.1.cell
   have q01 := BB.out.now.2.2.1.cell1
   have q02 := BB.out.now.2.2.1.cell2
   have q10 := BB.out.now.2.1.cell
   have q11 := BB.out.now.2.1.cell1
   have q12 := BB.out.now.2.1.cell2
   have hs := BB.out.now.1
   have u0 := hs.cell
   have u1 := hs.cell1
   have u2 := hs.cell2
   have g0 := hs.free
   have g1 := hs.free1
   have g2 := hs.free2
   have HS := hs.set (.slice b k l) (.bool v) (.slice b2 k2 l2)
   have HE := Lib.hid (RatTold.done BB.out.below (by omega) hs BB.out.now.2.2.2.1)
   clear hs
   go_wp2
   exact bodyPost_ret (v := .agg #[.slice b k l, .bool v, .slice b2 k2 l2]) (by simp [results, Tryz.results151, go_sem, HS]) rfl HE.out
 · rw [if_neg hz, if_neg hz]
   have d0 : decide (0 < CZ) = false := decide_eq_false hz
   clear hz hQ hQ' hK h1 h2 h3 h4
   have BB := Lib.hid ((((((Bag.start w).rat h).rat g).box3 (.slice a n c) (.bool m) (.slice a2 n2 c2) 53).box3 (.slice b k l) (.bool v) (.slice b2 k2 l2) 53).box3 (.slice none 0 0) (.bool false) (.slice none 0 0) 53)
   simp only [World.size_alloc] at BB
   have q00 := BB.out.now.2.2.1.cell
   have q01 := BB.out.now.2.2.1.cell1
   have q02 := BB.out.now.2.2.1.cell2
   have q10 := BB.out.now.2.1.cell
   have q11 := BB.out.now.2.1.cell1
   have q12 := BB.out.now.2.1.cell2
   go_enter Tryz.func151, Tryz.ntmps151
   go_wp2_with fail
   go_at_call 24
   (with_reducible refine (CM.out _ BB.out.now.2.2.2.2.1 BB.out.now.2.2.2.1).mono ?_)
   rintro e w1 ⟨rfl, hb1⟩
   have BB := Lib.hid (BB.out.go hb1)
   clear hb1
   clear q00 q01 q02 q10 q11 q12
   have q00 := BB.out.now.2.2.1.cell
   have q01 := BB.out.now.2.2.1.cell1
   have q02 := BB.out.now.2.2.1.cell2
   have q10 := BB.out.now.2.1.cell
   have q11 := BB.out.now.2.1.cell1
   have q12 := BB.out.now.2.1.cell2
   have hs := BB.out.now.1
   have u0 := hs.cell
   have u1 := hs.cell1
   have u2 := hs.cell2
   have g0 := hs.free
   have g1 := hs.free1
   have g2 := hs.free2
   have HS := hs.set (.slice a n c) (.bool m) (.slice a2 n2 c2)
   have HE := Lib.hid (RatTold.done BB.out.below (by omega) hs BB.out.now.2.2.2.2.1)
   clear hs
   go_wp2
   exact bodyPost_ret (v := .agg #[.slice a n c, .bool m, .slice a2 n2 c2]) (by simp [results, Tryz.results151, go_sem, HS]) rfl HE.out
theorem dquotient_any (a : Option Addr) (n c : Nat) (m : Bool) (a2 : Option Addr) (n2 c2 : Nat) (P : Int) (Q : Nat) (b : Option Addr) (k l : Nat) (v : Bool) (b2 : Option Addr) (k2 l2 : Nat) (P' : Int) (Q' : Nat) (w : World) (h : RatAt w a n c m a2 n2 c2 P Q) (g : RatAt w b k l v b2 k2 l2 P' Q') (hQ : 0 < Q) (hQ' : 0 < Q') (K : Nat) (hK : K <= 20000) (h1 : P.natAbs < 4294967296 ^ K) (h2 : Q < 4294967296 ^ K) (h3 : P'.natAbs < 4294967296 ^ K) (h4 : Q' < 4294967296 ^ K) :
    Calls Tryz.prog 149 #[.agg #[.slice a n c, .bool m, .slice a2 n2 c2], .agg #[.slice b k l, .bool v, .slice b2 k2 l2]] w fun e w' => RatTold4 w w' e (if P' = 0 then (if P = 0 then (1, 1, 0) else (0, 1, 22)) else (nwP (P * Q') (P' * Q), nwQ (P * Q') (P' * Q), 0) : Ans).1 (if P' = 0 then (if P = 0 then (1, 1, 0) else (0, 1, 22)) else (nwP (P * Q') (P' * Q), nwQ (P * Q') (P' * Q), 0) : Ans).2.1 (if P' = 0 then (if P = 0 then (1, 1, 0) else (0, 1, 22)) else (nwP (P * Q') (P' * Q), nwQ (P * Q') (P' * Q), 0) : Ans).2.2 := by
 show Calls _ _ _ _ (fun e w' => RatTold4 w w' e (if P' = 0 then (if P = 0 then (1, 1, 0) else (0, 1, 22)) else (nwP (P * Q') (P' * Q), nwQ (P * Q') (P' * Q), 0) : Ans).1 (if P' = 0 then (if P = 0 then (1, 1, 0) else (0, 1, 22)) else (nwP (P * Q') (P' * Q), nwQ (P * Q') (P' * Q), 0) : Ans).2.1 (if P' = 0 then (if P = 0 then (1, 1, 0) else (0, 1, 22)) else (nwP (P * Q') (P' * Q), nwQ (P * Q') (P' * Q), 0) : Ans).2.2)
 have SA := Lib.hid (fun wz h => ratSign_any a n c m a2 n2 c2 P Q wz h)
 have SB := Lib.hid (fun wz h => ratSign_any b k l v b2 k2 l2 P' Q' wz h)
 by_cases hQ0 : P' = 0
 · by_cases hP : P = 0
   · rw [if_pos hQ0, if_pos hP]
     have FR := Lib.hid (fun wz => ratFrom_any 1 wz (by omega))
     rw [sgn_zr.2 hP] at SA
     rw [sgn_zr.2 hQ0] at SB
     clear hP hQ0 hQ hQ' hK h1 h2 h3 h4
     have BB := Lib.hid ((((((Bag.start w).rat h).rat g).box3 (.slice a n c) (.bool m) (.slice a2 n2 c2) 53).box3 (.slice b k l) (.bool v) (.slice b2 k2 l2) 53).box3 (.slice none 0 0) (.bool false) (.slice none 0 0) 53)
     simp only [World.size_alloc] at BB
     have q00 := BB.out.now.2.2.1.cell
     have q01 := BB.out.now.2.2.1.cell1
     have q02 := BB.out.now.2.2.1.cell2
     have q10 := BB.out.now.2.1.cell
     have q11 := BB.out.now.2.1.cell1
     have q12 := BB.out.now.2.1.cell2
     go_enter Tryz.func149, Tryz.ntmps149
     go_wp2_with fail
     go_at_call 28
     (with_reducible refine (SA.out _ BB.out.now.2.2.2.2.1).mono ?_)
     rintro e w1 ⟨rfl, hb1⟩
     have BB := Lib.hid (BB.out.go hb1)
     clear hb1
     clear q00 q01 q02 q10 q11 q12
     have q00 := BB.out.now.2.2.1.cell
     have q01 := BB.out.now.2.2.1.cell1
     have q02 := BB.out.now.2.2.1.cell2
     have q10 := BB.out.now.2.1.cell
     have q11 := BB.out.now.2.1.cell1
     have q12 := BB.out.now.2.1.cell2
     go_wp2_with fail
     go_at_call 28
     (with_reducible refine (SB.out _ BB.out.now.2.2.2.1).mono ?_)
     rintro e w2 ⟨rfl, hb2⟩
     have BB := Lib.hid (BB.out.go hb2)
     clear hb2
     clear q00 q01 q02 q10 q11 q12
     have q00 := BB.out.now.2.2.1.cell
     have q01 := BB.out.now.2.2.1.cell1
     have q02 := BB.out.now.2.2.1.cell2
     have q10 := BB.out.now.2.1.cell
     have q11 := BB.out.now.2.1.cell1
     have q12 := BB.out.now.2.1.cell2
     go_wp2_with fail
     go_at_call 26
     (with_reducible refine (FR.out _).mono ?_)
     rintro e w3 ⟨x3, xn3, xc3, xm3, y3, yn3, yc3, rfl, hr3, hb3⟩
     have BB := Lib.hid (BB.out.go hb3)
     clear hb3
     clear q00 q01 q02 q10 q11 q12
     have q00 := BB.out.now.2.2.1.cell
     have q01 := BB.out.now.2.2.1.cell1
     have q02 := BB.out.now.2.2.1.cell2
     have q10 := BB.out.now.2.1.cell
     have q11 := BB.out.now.2.1.cell1
     have q12 := BB.out.now.2.1.cell2
     have hs := BB.out.now.1
     have u0 := hs.cell
     have u1 := hs.cell1
     have u2 := hs.cell2
     have g0 := hs.free
     have g1 := hs.free1
     have g2 := hs.free2
     have HS := hs.set (.slice x3 xn3 xc3) (.bool xm3) (.slice y3 yn3 yc3)
     have HE := Lib.hid (RatTold4.done 0 BB.out.below (by omega) hs hr3)
     clear hs
     go_wp2
     exact bodyPost_ret (v := .tuple #[.agg #[.slice x3 xn3 xc3, .bool xm3, .slice y3 yn3 yc3], .int .i64 0]) (by simp [results, Tryz.results149, go_sem, HS]) rfl HE.out
   · rw [if_pos hQ0, if_neg hP]
     have BY : Hid (∀ wz, RatAt wz a n c m a2 n2 c2 P Q -> RatAt wz b k l v b2 k2 l2 P' Q' -> Calls Tryz.prog 186 #[.agg #[.slice a n c, .bool m, .slice a2 n2 c2], .agg #[.slice b k l, .bool v, .slice b2 k2 l2]] wz fun e w' => RatTold3 wz w' e 0 1 false) := Lib.hid (fun wz h g => by
      rw [hQ0] at g
      exact by_zero a n c m a2 n2 c2 P Q b k l v b2 k2 l2 Q' wz h g hQ hQ' K (by omega) h1 h2 h4)
     unfold RatTold3 at BY
     have d0 : (sgnI P == 0) = false := beq_eq_false_iff_ne.2 (fun e => hP (sgn_zr.1 e))
     generalize sgnI P = sa at *
     clear hP hQ0 hQ hQ' hK h1 h2 h3 h4
     have BB := Lib.hid ((((((Bag.start w).rat h).rat g).box3 (.slice a n c) (.bool m) (.slice a2 n2 c2) 53).box3 (.slice b k l) (.bool v) (.slice b2 k2 l2) 53).box3 (.slice none 0 0) (.bool false) (.slice none 0 0) 53)
     simp only [World.size_alloc] at BB
     have q00 := BB.out.now.2.2.1.cell
     have q01 := BB.out.now.2.2.1.cell1
     have q02 := BB.out.now.2.2.1.cell2
     have q10 := BB.out.now.2.1.cell
     have q11 := BB.out.now.2.1.cell1
     have q12 := BB.out.now.2.1.cell2
     go_enter Tryz.func149, Tryz.ntmps149
     go_wp2_with fail
     go_at_call 28
     (with_reducible refine (SA.out _ BB.out.now.2.2.2.2.1).mono ?_)
     rintro e w1 ⟨rfl, hb1⟩
     have BB := Lib.hid (BB.out.go hb1)
     clear hb1
     clear q00 q01 q02 q10 q11 q12
     have q00 := BB.out.now.2.2.1.cell
     have q01 := BB.out.now.2.2.1.cell1
     have q02 := BB.out.now.2.2.1.cell2
     have q10 := BB.out.now.2.1.cell
     have q11 := BB.out.now.2.1.cell1
     have q12 := BB.out.now.2.1.cell2
     go_wp2_with fail
     go_at_call 186
     (with_reducible refine (BY.out _ BB.out.now.2.2.2.2.1 BB.out.now.2.2.2.1).mono ?_)
     rintro e w2 ⟨x2, xn2, xc2, xm2, y2, yn2, yc2, rfl, hr2, hb2⟩
     have BB := Lib.hid (((BB.out.go hb2).rat hr2).box3 (.slice x2 xn2 xc2) (.bool xm2) (.slice y2 yn2 yc2) 53)
     clear hb2
     clear hr2
     clear q00 q01 q02 q10 q11 q12
     have q00 := BB.out.now.2.2.2.2.1.cell
     have q01 := BB.out.now.2.2.2.2.1.cell1
     have q02 := BB.out.now.2.2.2.2.1.cell2
     have q10 := BB.out.now.2.2.2.1.cell
     have q11 := BB.out.now.2.2.2.1.cell1
     have q12 := BB.out.now.2.2.2.1.cell2
     have q20 := BB.out.now.1.cell
     have q21 := BB.out.now.1.cell1
     have q22 := BB.out.now.1.cell2
     have hs := BB.out.now.2.2.1
     have u0 := hs.cell
     have u1 := hs.cell1
     have u2 := hs.cell2
     have g0 := hs.free
     have g1 := hs.free1
     have g2 := hs.free2
     have HS := hs.set (.slice none 0 0) (.bool false) (.slice none 0 0)
     have HE := Lib.hid (RatTold4.done 22 BB.out.below (by omega) hs (RatAt.zero _))
     clear hs
     go_wp2
     exact bodyPost_ret (v := .tuple #[.agg #[.slice none 0 0, .bool false, .slice none 0 0], .int .i64 22]) (by simp [results, Tryz.results149, go_sem, HS]) rfl HE.out
 · rw [if_neg hQ0]
   have BY := Lib.hid (fun wz h g => by_some a n c m a2 n2 c2 P Q b k l v b2 k2 l2 P' Q' wz h g hQ hQ' hQ0 K (by omega) h1 h2 h3 h4)
   unfold RatTold3 at BY
   generalize nwP (P * Q') (P' * Q) = Z1 at *
   generalize nwQ (P * Q') (P' * Q) = Z2 at *
   by_cases hP : P = 0
   · rw [sgn_zr.2 hP] at SA
     have d1 : (sgnI P' == 0) = false := beq_eq_false_iff_ne.2 (fun e => hQ0 (sgn_zr.1 e))
     generalize sgnI P' = sb at *
     clear hP hQ0 hQ hQ' hK h1 h2 h3 h4
     have BB := Lib.hid ((((((Bag.start w).rat h).rat g).box3 (.slice a n c) (.bool m) (.slice a2 n2 c2) 53).box3 (.slice b k l) (.bool v) (.slice b2 k2 l2) 53).box3 (.slice none 0 0) (.bool false) (.slice none 0 0) 53)
     simp only [World.size_alloc] at BB
     have q00 := BB.out.now.2.2.1.cell
     have q01 := BB.out.now.2.2.1.cell1
     have q02 := BB.out.now.2.2.1.cell2
     have q10 := BB.out.now.2.1.cell
     have q11 := BB.out.now.2.1.cell1
     have q12 := BB.out.now.2.1.cell2
     go_enter Tryz.func149, Tryz.ntmps149
     go_wp2_with fail
     go_at_call 28
     (with_reducible refine (SA.out _ BB.out.now.2.2.2.2.1).mono ?_)
     rintro e w1 ⟨rfl, hb1⟩
     have BB := Lib.hid (BB.out.go hb1)
     clear hb1
     clear q00 q01 q02 q10 q11 q12
     have q00 := BB.out.now.2.2.1.cell
     have q01 := BB.out.now.2.2.1.cell1
     have q02 := BB.out.now.2.2.1.cell2
     have q10 := BB.out.now.2.1.cell
     have q11 := BB.out.now.2.1.cell1
     have q12 := BB.out.now.2.1.cell2
     go_wp2_with fail
     go_at_call 28
     (with_reducible refine (SB.out _ BB.out.now.2.2.2.1).mono ?_)
     rintro e w2 ⟨rfl, hb2⟩
     have BB := Lib.hid (BB.out.go hb2)
     clear hb2
     clear q00 q01 q02 q10 q11 q12
     have q00 := BB.out.now.2.2.1.cell
     have q01 := BB.out.now.2.2.1.cell1
     have q02 := BB.out.now.2.2.1.cell2
     have q10 := BB.out.now.2.1.cell
     have q11 := BB.out.now.2.1.cell1
     have q12 := BB.out.now.2.1.cell2
     go_wp2_with fail
     go_at_call 186
     (with_reducible refine (BY.out _ BB.out.now.2.2.2.2.1 BB.out.now.2.2.2.1).mono ?_)
     rintro e w3 ⟨x3, xn3, xc3, xm3, y3, yn3, yc3, rfl, hr3, hb3⟩
     have BB := Lib.hid (((BB.out.go hb3).rat hr3).box3 (.slice x3 xn3 xc3) (.bool xm3) (.slice y3 yn3 yc3) 53)
     clear hb3
     clear hr3
     clear q00 q01 q02 q10 q11 q12
     have q00 := BB.out.now.2.2.2.2.1.cell
     have q01 := BB.out.now.2.2.2.2.1.cell1
     have q02 := BB.out.now.2.2.2.2.1.cell2
     have q10 := BB.out.now.2.2.2.1.cell
     have q11 := BB.out.now.2.2.2.1.cell1
     have q12 := BB.out.now.2.2.2.1.cell2
     have q20 := BB.out.now.1.cell
     have q21 := BB.out.now.1.cell1
     have q22 := BB.out.now.1.cell2
     have hs := BB.out.now.2.2.1
     have u0 := hs.cell
     have u1 := hs.cell1
     have u2 := hs.cell2
     have g0 := hs.free
     have g1 := hs.free1
     have g2 := hs.free2
     have HS := hs.set (.slice x3 xn3 xc3) (.bool xm3) (.slice y3 yn3 yc3)
     have HE := Lib.hid (RatTold4.done 0 BB.out.below (by omega) hs BB.out.now.2.1)
     clear hs
     go_wp2
     exact bodyPost_ret (v := .tuple #[.agg #[.slice x3 xn3 xc3, .bool xm3, .slice y3 yn3 yc3], .int .i64 0]) (by simp [results, Tryz.results149, go_sem, HS]) rfl HE.out
   · have d0 : (sgnI P == 0) = false := beq_eq_false_iff_ne.2 (fun e => hP (sgn_zr.1 e))
     generalize sgnI P = sa at *
     clear hP hQ0 hQ hQ' hK h1 h2 h3 h4
     have BB := Lib.hid ((((((Bag.start w).rat h).rat g).box3 (.slice a n c) (.bool m) (.slice a2 n2 c2) 53).box3 (.slice b k l) (.bool v) (.slice b2 k2 l2) 53).box3 (.slice none 0 0) (.bool false) (.slice none 0 0) 53)
     simp only [World.size_alloc] at BB
     have q00 := BB.out.now.2.2.1.cell
     have q01 := BB.out.now.2.2.1.cell1
     have q02 := BB.out.now.2.2.1.cell2
     have q10 := BB.out.now.2.1.cell
     have q11 := BB.out.now.2.1.cell1
     have q12 := BB.out.now.2.1.cell2
     go_enter Tryz.func149, Tryz.ntmps149
     go_wp2_with fail
     go_at_call 28
     (with_reducible refine (SA.out _ BB.out.now.2.2.2.2.1).mono ?_)
     rintro e w1 ⟨rfl, hb1⟩
     have BB := Lib.hid (BB.out.go hb1)
     clear hb1
     clear q00 q01 q02 q10 q11 q12
     have q00 := BB.out.now.2.2.1.cell
     have q01 := BB.out.now.2.2.1.cell1
     have q02 := BB.out.now.2.2.1.cell2
     have q10 := BB.out.now.2.1.cell
     have q11 := BB.out.now.2.1.cell1
     have q12 := BB.out.now.2.1.cell2
     go_wp2_with fail
     go_at_call 186
     (with_reducible refine (BY.out _ BB.out.now.2.2.2.2.1 BB.out.now.2.2.2.1).mono ?_)
     rintro e w2 ⟨x2, xn2, xc2, xm2, y2, yn2, yc2, rfl, hr2, hb2⟩
     have BB := Lib.hid (((BB.out.go hb2).rat hr2).box3 (.slice x2 xn2 xc2) (.bool xm2) (.slice y2 yn2 yc2) 53)
     clear hb2
     clear hr2
     clear q00 q01 q02 q10 q11 q12
     have q00 := BB.out.now.2.2.2.2.1.cell
     have q01 := BB.out.now.2.2.2.2.1.cell1
     have q02 := BB.out.now.2.2.2.2.1.cell2
     have q10 := BB.out.now.2.2.2.1.cell
     have q11 := BB.out.now.2.2.2.1.cell1
     have q12 := BB.out.now.2.2.2.1.cell2
     have q20 := BB.out.now.1.cell
     have q21 := BB.out.now.1.cell1
     have q22 := BB.out.now.1.cell2
     have hs := BB.out.now.2.2.1
     have u0 := hs.cell
     have u1 := hs.cell1
     have u2 := hs.cell2
     have g0 := hs.free
     have g1 := hs.free1
     have g2 := hs.free2
     have HS := hs.set (.slice x2 xn2 xc2) (.bool xm2) (.slice y2 yn2 yc2)
     have HE := Lib.hid (RatTold4.done 0 BB.out.below (by omega) hs BB.out.now.2.1)
     clear hs
     go_wp2
     exact bodyPost_ret (v := .tuple #[.agg #[.slice x2 xn2 xc2, .bool xm2, .slice y2 yn2 yc2], .int .i64 0]) (by simp [results, Tryz.results149, go_sem, HS]) rfl HE.out
def cntB (P : Int) (Q : Nat) : Bool := decide (Q = 1) && decide (0 <= P)
theorem disCount_any (a : Option Addr) (n c : Nat) (m : Bool) (a2 : Option Addr) (n2 c2 : Nat) (P : Int) (Q : Nat) (w : World) (h : RatAt w a n c m a2 n2 c2 P Q) (hQ : 0 < Q) :
    Calls Tryz.prog 191 #[.agg #[.slice a n c, .bool m, .slice a2 n2 c2]] w fun e w' => e = .returned (.bool (cntB P Q)) /\ Below w.heap.size w w' := by
 have LM := Lib.hid (fun wz h => isWhole_any a n c m a2 n2 c2 P Q wz h hQ)
 have SG := Lib.hid (fun wz h => ratSign_any a n c m a2 n2 c2 P Q wz h)
 have ht : cntB P Q = (decide (Q = 1) && decide (0 <= sgnI P)) := by
  unfold cntB
  rw [Bool.eq_iff_iff, Bool.and_eq_true, Bool.and_eq_true, decide_eq_true_eq, decide_eq_true_eq, decide_eq_true_eq, sgn_nn]
 rw [ht]
 obtain ⟨lb, hlb⟩ : ∃ z, decide (Q = 1) = z := ⟨_, rfl⟩
 rw [hlb] at LM ⊢
 generalize sgnI P = sg at *
 clear hlb ht hQ
 cases lb with
 | false =>
  have BB := Lib.hid (((Bag.start w).rat h).box3 (.slice a n c) (.bool m) (.slice a2 n2 c2) 53)
  have q00 := BB.out.now.1.cell
  have q01 := BB.out.now.1.cell1
  have q02 := BB.out.now.1.cell2
  go_enter Tryz.func191, Tryz.ntmps191
  go_wp2_with fail
  go_at_call 68
  (with_reducible refine (LM.out _ BB.out.now.2.1).mono ?_)
  rintro e w1 ⟨rfl, hb1⟩
  have BB := Lib.hid (BB.out.go hb1)
  clear hb1
  clear q00 q01 q02
  have q00 := BB.out.now.1.cell
  have q01 := BB.out.now.1.cell1
  have q02 := BB.out.now.1.cell2
  go_wp2
  go_ret
  exact ⟨rfl, BB.out.below⟩
 | true =>
  have BB := Lib.hid (((Bag.start w).rat h).box3 (.slice a n c) (.bool m) (.slice a2 n2 c2) 53)
  have q00 := BB.out.now.1.cell
  have q01 := BB.out.now.1.cell1
  have q02 := BB.out.now.1.cell2
  go_enter Tryz.func191, Tryz.ntmps191
  go_wp2_with fail
  go_at_call 68
  (with_reducible refine (LM.out _ BB.out.now.2.1).mono ?_)
  rintro e w1 ⟨rfl, hb1⟩
  have BB := Lib.hid (BB.out.go hb1)
  clear hb1
  clear q00 q01 q02
  have q00 := BB.out.now.1.cell
  have q01 := BB.out.now.1.cell1
  have q02 := BB.out.now.1.cell2
  go_wp2_with fail
  go_at_call 28
  (with_reducible refine (SG.out _ BB.out.now.2.1).mono ?_)
  rintro e w2 ⟨rfl, hb2⟩
  have BB := Lib.hid (BB.out.go hb2)
  clear hb2
  clear q00 q01 q02
  have q00 := BB.out.now.1.cell
  have q01 := BB.out.now.1.cell1
  have q02 := BB.out.now.1.cell2
  go_wp2
  go_ret
  exact ⟨rfl, BB.out.below⟩
theorem dpower_frac (a : Option Addr) (n c : Nat) (m : Bool) (a2 : Option Addr) (n2 c2 : Nat) (P : Int) (Q : Nat) (b : Option Addr) (k l : Nat) (v : Bool) (b2 : Option Addr) (k2 l2 : Nat) (P' : Int) (Q' : Nat) (lm : Int) (w : World) (h : RatAt w a n c m a2 n2 c2 P Q) (g : RatAt w b k l v b2 k2 l2 P' Q') (hQ : 0 < Q) (hQ' : 0 < Q') (hn : Q' ≠ 1) :
    Calls Tryz.prog 153 #[.agg #[.slice a n c, .bool m, .slice a2 n2 c2], .agg #[.slice b k l, .bool v, .slice b2 k2 l2], .int .i64 lm] w fun e w' => RatTold4 w w' e 0 1 22 := by
 have IW := Lib.hid (fun wz h => isWhole_any b k l v b2 k2 l2 P' Q' wz h hQ')
 rw [decide_eq_false hn] at IW
 clear hQ hQ' hn
 have BB := Lib.hid ((((((Bag.start w).rat h).rat g).box3 (.slice a n c) (.bool m) (.slice a2 n2 c2) 53).box3 (.slice b k l) (.bool v) (.slice b2 k2 l2) 53).box3 (.slice none 0 0) (.bool false) (.slice none 0 0) 53)
 simp only [World.size_alloc] at BB
 have q00 := BB.out.now.2.2.1.cell
 have q01 := BB.out.now.2.2.1.cell1
 have q02 := BB.out.now.2.2.1.cell2
 have q10 := BB.out.now.2.1.cell
 have q11 := BB.out.now.2.1.cell1
 have q12 := BB.out.now.2.1.cell2
 go_enter Tryz.func153, Tryz.ntmps153
 go_wp2_with fail
 go_at_call 68
 (with_reducible refine (IW.out _ BB.out.now.2.2.2.1).mono ?_)
 rintro e w1 ⟨rfl, hb1⟩
 have BB := Lib.hid (BB.out.go hb1)
 clear hb1
 clear q00 q01 q02 q10 q11 q12
 have q00 := BB.out.now.2.2.1.cell
 have q01 := BB.out.now.2.2.1.cell1
 have q02 := BB.out.now.2.2.1.cell2
 have q10 := BB.out.now.2.1.cell
 have q11 := BB.out.now.2.1.cell1
 have q12 := BB.out.now.2.1.cell2
 have hs := BB.out.now.1
 have u0 := hs.cell
 have u1 := hs.cell1
 have u2 := hs.cell2
 have g0 := hs.free
 have g1 := hs.free1
 have g2 := hs.free2
 have HS := hs.set (.slice none 0 0) (.bool false) (.slice none 0 0)
 have HE := Lib.hid (RatTold4.done 22 BB.out.below (by omega) hs (RatAt.zero _))
 clear hs
 go_wp2
 exact bodyPost_ret (v := .tuple #[.agg #[.slice none 0 0, .bool false, .slice none 0 0], .int .i64 22]) (by simp [results, Tryz.results153, go_sem, HS]) rfl HE.out
theorem dpower_nought (a : Option Addr) (n c : Nat) (m : Bool) (a2 : Option Addr) (n2 c2 : Nat) (Q : Nat) (b : Option Addr) (k l : Nat) (v : Bool) (b2 : Option Addr) (k2 l2 : Nat) (P' : Int) (lm : Int) (w : World) (h : RatAt w a n c m a2 n2 c2 0 Q) (g : RatAt w b k l v b2 k2 l2 P' 1) (hQ : 0 < Q) (hn : P' < 0) :
    Calls Tryz.prog 153 #[.agg #[.slice a n c, .bool m, .slice a2 n2 c2], .agg #[.slice b k l, .bool v, .slice b2 k2 l2], .int .i64 lm] w fun e w' => RatTold4 w w' e 0 1 22 := by
 have IW := Lib.hid (fun wz h => isWhole_any b k l v b2 k2 l2 P' 1 wz h (by decide))
 rw [show decide ((1 : Nat) = 1) = true from rfl] at IW
 have SA := Lib.hid (fun wz h => ratSign_any a n c m a2 n2 c2 0 Q wz h)
 have SB := Lib.hid (fun wz h => ratSign_any b k l v b2 k2 l2 P' 1 wz h)
 rw [show sgnI 0 = 0 from rfl] at SA
 have d0 : decide (sgnI P' < 0) = true := decide_eq_true (sgn_ng.2 hn)
 generalize sgnI P' = sb at *
 clear hQ hn
 have BB := Lib.hid ((((((Bag.start w).rat h).rat g).box3 (.slice a n c) (.bool m) (.slice a2 n2 c2) 53).box3 (.slice b k l) (.bool v) (.slice b2 k2 l2) 53).box3 (.slice none 0 0) (.bool false) (.slice none 0 0) 53)
 simp only [World.size_alloc] at BB
 have q00 := BB.out.now.2.2.1.cell
 have q01 := BB.out.now.2.2.1.cell1
 have q02 := BB.out.now.2.2.1.cell2
 have q10 := BB.out.now.2.1.cell
 have q11 := BB.out.now.2.1.cell1
 have q12 := BB.out.now.2.1.cell2
 go_enter Tryz.func153, Tryz.ntmps153
 go_wp2_with fail
 go_at_call 68
 (with_reducible refine (IW.out _ BB.out.now.2.2.2.1).mono ?_)
 rintro e w1 ⟨rfl, hb1⟩
 have BB := Lib.hid (BB.out.go hb1)
 clear hb1
 clear q00 q01 q02 q10 q11 q12
 have q00 := BB.out.now.2.2.1.cell
 have q01 := BB.out.now.2.2.1.cell1
 have q02 := BB.out.now.2.2.1.cell2
 have q10 := BB.out.now.2.1.cell
 have q11 := BB.out.now.2.1.cell1
 have q12 := BB.out.now.2.1.cell2
 go_wp2_with fail
 go_at_call 28
 (with_reducible refine (SA.out _ BB.out.now.2.2.2.2.1).mono ?_)
 rintro e w2 ⟨rfl, hb2⟩
 have BB := Lib.hid (BB.out.go hb2)
 clear hb2
 clear q00 q01 q02 q10 q11 q12
 have q00 := BB.out.now.2.2.1.cell
 have q01 := BB.out.now.2.2.1.cell1
 have q02 := BB.out.now.2.2.1.cell2
 have q10 := BB.out.now.2.1.cell
 have q11 := BB.out.now.2.1.cell1
 have q12 := BB.out.now.2.1.cell2
 go_wp2_with fail
 go_at_call 28
 (with_reducible refine (SB.out _ BB.out.now.2.2.2.1).mono ?_)
 rintro e w3 ⟨rfl, hb3⟩
 have BB := Lib.hid (BB.out.go hb3)
 clear hb3
 clear q00 q01 q02 q10 q11 q12
 have q00 := BB.out.now.2.2.1.cell
 have q01 := BB.out.now.2.2.1.cell1
 have q02 := BB.out.now.2.2.1.cell2
 have q10 := BB.out.now.2.1.cell
 have q11 := BB.out.now.2.1.cell1
 have q12 := BB.out.now.2.1.cell2
 have hs := BB.out.now.1
 have u0 := hs.cell
 have u1 := hs.cell1
 have u2 := hs.cell2
 have g0 := hs.free
 have g1 := hs.free1
 have g2 := hs.free2
 have HS := hs.set (.slice none 0 0) (.bool false) (.slice none 0 0)
 have HE := Lib.hid (RatTold4.done 22 BB.out.below (by omega) hs (RatAt.zero _))
 clear hs
 go_wp2
 exact bodyPost_ret (v := .tuple #[.agg #[.slice none 0 0, .bool false, .slice none 0 0], .int .i64 22]) (by simp [results, Tryz.results153, go_sem, HS]) rfl HE.out
theorem dpower_none (a : Option Addr) (n c : Nat) (m : Bool) (a2 : Option Addr) (n2 c2 : Nat) (P : Int) (Q : Nat) (b : Option Addr) (k l : Nat) (v : Bool) (b2 : Option Addr) (k2 l2 : Nat) (lm : Int) (w : World) (h : RatAt w a n c m a2 n2 c2 P Q) (g : RatAt w b k l v b2 k2 l2 0 1) (hQ : 0 < Q) :
    Calls Tryz.prog 153 #[.agg #[.slice a n c, .bool m, .slice a2 n2 c2], .agg #[.slice b k l, .bool v, .slice b2 k2 l2], .int .i64 lm] w fun e w' => RatTold4 w w' e 1 1 0 := by
 have IW := Lib.hid (fun wz h => isWhole_any b k l v b2 k2 l2 0 1 wz h (by decide))
 rw [show decide ((1 : Nat) = 1) = true from rfl] at IW
 have SA := Lib.hid (fun wz h => ratSign_any a n c m a2 n2 c2 P Q wz h)
 have SB := Lib.hid (fun wz h => ratSign_any b k l v b2 k2 l2 0 1 wz h)
 rw [show sgnI 0 = 0 from rfl] at SB
 have FR := Lib.hid (fun wz => ratFrom_any 1 wz (by omega))
 by_cases hz : P = 0
 · rw [sgn_zr.2 hz] at SA
   clear hz hQ
   have BB := Lib.hid ((((((Bag.start w).rat h).rat g).box3 (.slice a n c) (.bool m) (.slice a2 n2 c2) 53).box3 (.slice b k l) (.bool v) (.slice b2 k2 l2) 53).box3 (.slice none 0 0) (.bool false) (.slice none 0 0) 53)
   simp only [World.size_alloc] at BB
   have q00 := BB.out.now.2.2.1.cell
   have q01 := BB.out.now.2.2.1.cell1
   have q02 := BB.out.now.2.2.1.cell2
   have q10 := BB.out.now.2.1.cell
   have q11 := BB.out.now.2.1.cell1
   have q12 := BB.out.now.2.1.cell2
   go_enter Tryz.func153, Tryz.ntmps153
   go_wp2_with fail
   go_at_call 68
   (with_reducible refine (IW.out _ BB.out.now.2.2.2.1).mono ?_)
   rintro e w1 ⟨rfl, hb1⟩
   have BB := Lib.hid (BB.out.go hb1)
   clear hb1
   clear q00 q01 q02 q10 q11 q12
   have q00 := BB.out.now.2.2.1.cell
   have q01 := BB.out.now.2.2.1.cell1
   have q02 := BB.out.now.2.2.1.cell2
   have q10 := BB.out.now.2.1.cell
   have q11 := BB.out.now.2.1.cell1
   have q12 := BB.out.now.2.1.cell2
   go_wp2_with fail
   go_at_call 28
   (with_reducible refine (SA.out _ BB.out.now.2.2.2.2.1).mono ?_)
   rintro e w2 ⟨rfl, hb2⟩
   have BB := Lib.hid (BB.out.go hb2)
   clear hb2
   clear q00 q01 q02 q10 q11 q12
   have q00 := BB.out.now.2.2.1.cell
   have q01 := BB.out.now.2.2.1.cell1
   have q02 := BB.out.now.2.2.1.cell2
   have q10 := BB.out.now.2.1.cell
   have q11 := BB.out.now.2.1.cell1
   have q12 := BB.out.now.2.1.cell2
   go_wp2_with fail
   go_at_call 28
   (with_reducible refine (SB.out _ BB.out.now.2.2.2.1).mono ?_)
   rintro e w3 ⟨rfl, hb3⟩
   have BB := Lib.hid (BB.out.go hb3)
   clear hb3
   clear q00 q01 q02 q10 q11 q12
   have q00 := BB.out.now.2.2.1.cell
   have q01 := BB.out.now.2.2.1.cell1
   have q02 := BB.out.now.2.2.1.cell2
   have q10 := BB.out.now.2.1.cell
   have q11 := BB.out.now.2.1.cell1
   have q12 := BB.out.now.2.1.cell2
   go_wp2_with fail
   go_at_call 28
   (with_reducible refine (SB.out _ BB.out.now.2.2.2.1).mono ?_)
   rintro e w4 ⟨rfl, hb4⟩
   have BB := Lib.hid (BB.out.go hb4)
   clear hb4
   clear q00 q01 q02 q10 q11 q12
   have q00 := BB.out.now.2.2.1.cell
   have q01 := BB.out.now.2.2.1.cell1
   have q02 := BB.out.now.2.2.1.cell2
   have q10 := BB.out.now.2.1.cell
   have q11 := BB.out.now.2.1.cell1
   have q12 := BB.out.now.2.1.cell2
   go_wp2_with fail
   go_at_call 26
   (with_reducible refine (FR.out _).mono ?_)
   rintro e w5 ⟨x5, xn5, xc5, xm5, y5, yn5, yc5, rfl, hr5, hb5⟩
   have BB := Lib.hid (BB.out.go hb5)
   clear hb5
   clear q00 q01 q02 q10 q11 q12
   have q00 := BB.out.now.2.2.1.cell
   have q01 := BB.out.now.2.2.1.cell1
   have q02 := BB.out.now.2.2.1.cell2
   have q10 := BB.out.now.2.1.cell
   have q11 := BB.out.now.2.1.cell1
   have q12 := BB.out.now.2.1.cell2
   have hs := BB.out.now.1
   have u0 := hs.cell
   have u1 := hs.cell1
   have u2 := hs.cell2
   have g0 := hs.free
   have g1 := hs.free1
   have g2 := hs.free2
   have HS := hs.set (.slice x5 xn5 xc5) (.bool xm5) (.slice y5 yn5 yc5)
   have HE := Lib.hid (RatTold4.done 0 BB.out.below (by omega) hs hr5)
   clear hs
   go_wp2
   exact bodyPost_ret (v := .tuple #[.agg #[.slice x5 xn5 xc5, .bool xm5, .slice y5 yn5 yc5], .int .i64 0]) (by simp [results, Tryz.results153, go_sem, HS]) rfl HE.out
 · have dA : (sgnI P == 0) = false := beq_eq_false_iff_ne.2 (fun e => hz (sgn_zr.1 e))
   generalize sgnI P = sa at *
   clear hz hQ
   have BB := Lib.hid ((((((Bag.start w).rat h).rat g).box3 (.slice a n c) (.bool m) (.slice a2 n2 c2) 53).box3 (.slice b k l) (.bool v) (.slice b2 k2 l2) 53).box3 (.slice none 0 0) (.bool false) (.slice none 0 0) 53)
   simp only [World.size_alloc] at BB
   have q00 := BB.out.now.2.2.1.cell
   have q01 := BB.out.now.2.2.1.cell1
   have q02 := BB.out.now.2.2.1.cell2
   have q10 := BB.out.now.2.1.cell
   have q11 := BB.out.now.2.1.cell1
   have q12 := BB.out.now.2.1.cell2
   go_enter Tryz.func153, Tryz.ntmps153
   go_wp2_with fail
   go_at_call 68
   (with_reducible refine (IW.out _ BB.out.now.2.2.2.1).mono ?_)
   rintro e w1 ⟨rfl, hb1⟩
   have BB := Lib.hid (BB.out.go hb1)
   clear hb1
   clear q00 q01 q02 q10 q11 q12
   have q00 := BB.out.now.2.2.1.cell
   have q01 := BB.out.now.2.2.1.cell1
   have q02 := BB.out.now.2.2.1.cell2
   have q10 := BB.out.now.2.1.cell
   have q11 := BB.out.now.2.1.cell1
   have q12 := BB.out.now.2.1.cell2
   go_wp2_with fail
   go_at_call 28
   (with_reducible refine (SA.out _ BB.out.now.2.2.2.2.1).mono ?_)
   rintro e w2 ⟨rfl, hb2⟩
   have BB := Lib.hid (BB.out.go hb2)
   clear hb2
   clear q00 q01 q02 q10 q11 q12
   have q00 := BB.out.now.2.2.1.cell
   have q01 := BB.out.now.2.2.1.cell1
   have q02 := BB.out.now.2.2.1.cell2
   have q10 := BB.out.now.2.1.cell
   have q11 := BB.out.now.2.1.cell1
   have q12 := BB.out.now.2.1.cell2
   go_wp2_with fail
   go_at_call 28
   (with_reducible refine (SB.out _ BB.out.now.2.2.2.1).mono ?_)
   rintro e w3 ⟨rfl, hb3⟩
   have BB := Lib.hid (BB.out.go hb3)
   clear hb3
   clear q00 q01 q02 q10 q11 q12
   have q00 := BB.out.now.2.2.1.cell
   have q01 := BB.out.now.2.2.1.cell1
   have q02 := BB.out.now.2.2.1.cell2
   have q10 := BB.out.now.2.1.cell
   have q11 := BB.out.now.2.1.cell1
   have q12 := BB.out.now.2.1.cell2
   go_wp2_with fail
   go_at_call 26
   (with_reducible refine (FR.out _).mono ?_)
   rintro e w4 ⟨x4, xn4, xc4, xm4, y4, yn4, yc4, rfl, hr4, hb4⟩
   have BB := Lib.hid (BB.out.go hb4)
   clear hb4
   clear q00 q01 q02 q10 q11 q12
   have q00 := BB.out.now.2.2.1.cell
   have q01 := BB.out.now.2.2.1.cell1
   have q02 := BB.out.now.2.2.1.cell2
   have q10 := BB.out.now.2.1.cell
   have q11 := BB.out.now.2.1.cell1
   have q12 := BB.out.now.2.1.cell2
   have hs := BB.out.now.1
   have u0 := hs.cell
   have u1 := hs.cell1
   have u2 := hs.cell2
   have g0 := hs.free
   have g1 := hs.free1
   have g2 := hs.free2
   have HS := hs.set (.slice x4 xn4 xc4) (.bool xm4) (.slice y4 yn4 yc4)
   have HE := Lib.hid (RatTold4.done 0 BB.out.below (by omega) hs hr4)
   clear hs
   go_wp2
   exact bodyPost_ret (v := .tuple #[.agg #[.slice x4 xn4 xc4, .bool xm4, .slice y4 yn4 yc4], .int .i64 0]) (by simp [results, Tryz.results153, go_sem, HS]) rfl HE.out
theorem limB_lt {P : Int} {Q : Nat} (h : limB P Q = true) : P.natAbs < 4294967296 ^ 1 := by
 unfold limB at h
 rw [Bool.and_eq_true, Bool.or_eq_true, decide_eq_true_eq, decide_eq_true_eq, decide_eq_true_eq] at h
 omega
theorem dpower_lim1 (a : Option Addr) (n c : Nat) (m : Bool) (a2 : Option Addr) (n2 c2 : Nat) (P : Int) (b : Option Addr) (k l : Nat) (v : Bool) (b2 : Option Addr) (k2 l2 : Nat) (P' : Int) (lm : Int) (w : World) (h : RatAt w a n c m a2 n2 c2 P 1) (g : RatAt w b k l v b2 k2 l2 P' 1) (hl : limB P 1 = true) (hn : P' ≠ 0) (hb : P' < 0 -> P ≠ 0) (he : P'.natAbs % 2 = 0) :
    Calls Tryz.prog 153 #[.agg #[.slice a n c, .bool m, .slice a2 n2 c2], .agg #[.slice b k l, .bool v, .slice b2 k2 l2], .int .i64 lm] w fun e w' => RatTold4 w w' e (P * P) 1 0 := by
 have IW := Lib.hid (fun wz h => isWhole_any b k l v b2 k2 l2 P' 1 wz h (by decide))
 rw [show decide ((1 : Nat) = 1) = true from rfl] at IW
 have SA := Lib.hid (fun wz h => ratSign_any a n c m a2 n2 c2 P 1 wz h)
 have SB := Lib.hid (fun wz h => ratSign_any b k l v b2 k2 l2 P' 1 wz h)
 have dB : (sgnI P' == 0) = false := beq_eq_false_iff_ne.2 (fun e => hn (sgn_zr.1 e))
 have LM := Lib.hid (fun wz h => limited_any a n c m a2 n2 c2 P 1 wz h (by decide))
 rw [show (decide ((1 : Nat) = 1) && (decide (P.natAbs = 0) || decide (P.natAbs = 1))) = true from hl] at LM
 have TP := Lib.hid (fun wz h => top_any b k l v b2 k2 l2 P' 1 wz h)
 unfold IntTold2 at TP
 have hfd : ∀ wz : World, (Instr.field 51 (.agg #[.slice b k l, .bool v]) 0).run Tryz.prog wz = .ok (.agg #[.slice b k l]) wz := fun _ => by kernel_rfl
 have EV := Lib.hid (fun wz h => even_any (.agg #[.slice b k l]) P'.natAbs wz h)
 rw [decide_eq_true he] at EV
 have hPP : tmP P 1 P 1 = P * P /\ tmQ P 1 P 1 = 1 := by
  unfold tmP tmQ
  exact lo_one (P := P * P) (Q := 1 * 1) (Nat.gcd_one_right _)
 have TM := Lib.hid (fun sa wz (h : RatAt wz a n c m a2 n2 c2 P 1) (g : RatsAt wz sa 1 1 (fun _ => P) (fun _ => 1)) => ratTimes1_any a n c m a2 n2 c2 P 1 sa P 1 wz h g (by decide) (by decide) 1 (by omega) (limB_lt hl) (by decide) (limB_lt hl) (by decide))
 rw [hPP.1, hPP.2] at TM
 generalize P * P = PP at *
 clear hPP
 by_cases hz : P = 0
 · have dZ : decide (sgnI P' < 0) = false := decide_eq_false (fun e => hb (sgn_ng.1 e) hz)
   rw [sgn_zr.2 hz] at SA
   generalize sgnI P' = sb at *
   clear hz hn hl he hb
   have BB := Lib.hid ((((((Bag.start w).rat h).rat g).box3 (.slice a n c) (.bool m) (.slice a2 n2 c2) 53).box3 (.slice b k l) (.bool v) (.slice b2 k2 l2) 53).box3 (.slice none 0 0) (.bool false) (.slice none 0 0) 53)
   simp only [World.size_alloc] at BB
   have q00 := BB.out.now.2.2.1.cell
   have q01 := BB.out.now.2.2.1.cell1
   have q02 := BB.out.now.2.2.1.cell2
   have q10 := BB.out.now.2.1.cell
   have q11 := BB.out.now.2.1.cell1
   have q12 := BB.out.now.2.1.cell2
   go_enter Tryz.func153, Tryz.ntmps153
   go_wp2_with fail
   go_at_call 68
   (with_reducible refine (IW.out _ BB.out.now.2.2.2.1).mono ?_)
   rintro e w1 ⟨rfl, hb1⟩
   have BB := Lib.hid (BB.out.go hb1)
   clear hb1
   clear q00 q01 q02 q10 q11 q12
   have q00 := BB.out.now.2.2.1.cell
   have q01 := BB.out.now.2.2.1.cell1
   have q02 := BB.out.now.2.2.1.cell2
   have q10 := BB.out.now.2.1.cell
   have q11 := BB.out.now.2.1.cell1
   have q12 := BB.out.now.2.1.cell2
   go_wp2_with fail
   go_at_call 28
   (with_reducible refine (SA.out _ BB.out.now.2.2.2.2.1).mono ?_)
   rintro e w2 ⟨rfl, hb2⟩
   have BB := Lib.hid (BB.out.go hb2)
   clear hb2
   clear q00 q01 q02 q10 q11 q12
   have q00 := BB.out.now.2.2.1.cell
   have q01 := BB.out.now.2.2.1.cell1
   have q02 := BB.out.now.2.2.1.cell2
   have q10 := BB.out.now.2.1.cell
   have q11 := BB.out.now.2.1.cell1
   have q12 := BB.out.now.2.1.cell2
   go_wp2_with fail
   go_at_call 28
   (with_reducible refine (SB.out _ BB.out.now.2.2.2.1).mono ?_)
   rintro e w3 ⟨rfl, hb3⟩
   have BB := Lib.hid (BB.out.go hb3)
   clear hb3
   clear q00 q01 q02 q10 q11 q12
   have q00 := BB.out.now.2.2.1.cell
   have q01 := BB.out.now.2.2.1.cell1
   have q02 := BB.out.now.2.2.1.cell2
   have q10 := BB.out.now.2.1.cell
   have q11 := BB.out.now.2.1.cell1
   have q12 := BB.out.now.2.1.cell2
   go_wp2_with fail
   go_at_call 28
   (with_reducible refine (SB.out _ BB.out.now.2.2.2.1).mono ?_)
   rintro e w4 ⟨rfl, hb4⟩
   have BB := Lib.hid (BB.out.go hb4)
   clear hb4
   clear q00 q01 q02 q10 q11 q12
   have q00 := BB.out.now.2.2.1.cell
   have q01 := BB.out.now.2.2.1.cell1
   have q02 := BB.out.now.2.2.1.cell2
   have q10 := BB.out.now.2.1.cell
   have q11 := BB.out.now.2.1.cell1
   have q12 := BB.out.now.2.1.cell2
   go_wp2_with fail
   go_at_call 147
   (with_reducible refine (LM.out _ BB.out.now.2.2.2.2.1).mono ?_)
   rintro e w5 ⟨rfl, hb5⟩
   have BB := Lib.hid (BB.out.go hb5)
   clear hb5
   clear q00 q01 q02 q10 q11 q12
   have q00 := BB.out.now.2.2.1.cell
   have q01 := BB.out.now.2.2.1.cell1
   have q02 := BB.out.now.2.2.1.cell2
   have q10 := BB.out.now.2.1.cell
   have q11 := BB.out.now.2.1.cell1
   have q12 := BB.out.now.2.1.cell2
   go_wp2_with fail
   go_at_call 188
   (with_reducible refine (TP.out _ BB.out.now.2.2.2.1).mono ?_)
   rintro e w6 ⟨rfl, hi6, hb6⟩
   have BB := Lib.hid (BB.out.go hb6)
   clear hb6
   clear hi6
   clear q00 q01 q02 q10 q11 q12
   have q00 := BB.out.now.2.2.1.cell
   have q01 := BB.out.now.2.2.1.cell1
   have q02 := BB.out.now.2.2.1.cell2
   have q10 := BB.out.now.2.1.cell
   have q11 := BB.out.now.2.1.cell1
   have q12 := BB.out.now.2.1.cell2
   go_wp2_with fail
   go_at_call 189
   (with_reducible refine (EV.out _ BB.out.now.2.2.2.1.int.nt).mono ?_)
   rintro e w7 ⟨rfl, hb7⟩
   have BB := Lib.hid (BB.out.go hb7)
   clear hb7
   clear q00 q01 q02 q10 q11 q12
   have q00 := BB.out.now.2.2.1.cell
   have q01 := BB.out.now.2.2.1.cell1
   have q02 := BB.out.now.2.2.1.cell2
   have q10 := BB.out.now.2.1.cell
   have q11 := BB.out.now.2.1.cell1
   have q12 := BB.out.now.2.1.cell2
   go_wp2_with fail
   go_at_call 27
   (with_reducible refine (TM.out _ _ ?_ ?_).mono ?_)
   · exact (BB.out.alloc _).now.2.2.2.2.1
   · exact RatsAt.old1 (Below.refl _ _) rfl (BB.out.alloc _).now.2.2.2.2.1
   rintro e w8 ⟨x8, xn8, xc8, xm8, y8, yn8, yc8, rfl, hr8, hb8⟩
   have BB := Lib.hid ((BB.out.alloc _).go hb8)
   clear hb8
   clear q00 q01 q02 q10 q11 q12
   have q00 := BB.out.now.2.2.1.cell
   have q01 := BB.out.now.2.2.1.cell1
   have q02 := BB.out.now.2.2.1.cell2
   have q10 := BB.out.now.2.1.cell
   have q11 := BB.out.now.2.1.cell1
   have q12 := BB.out.now.2.1.cell2
   have hs := BB.out.now.1
   have u0 := hs.cell
   have u1 := hs.cell1
   have u2 := hs.cell2
   have g0 := hs.free
   have g1 := hs.free1
   have g2 := hs.free2
   have HS := hs.set (.slice x8 xn8 xc8) (.bool xm8) (.slice y8 yn8 yc8)
   have HE := Lib.hid (RatTold4.done 0 BB.out.below (by omega) hs hr8)
   clear hs
   go_wp2
   exact bodyPost_ret (v := .tuple #[.agg #[.slice x8 xn8 xc8, .bool xm8, .slice y8 yn8 yc8], .int .i64 0]) (by simp [results, Tryz.results153, go_sem, HS]) rfl HE.out
 · have dA : (sgnI P == 0) = false := beq_eq_false_iff_ne.2 (fun e => hz (sgn_zr.1 e))
   generalize sgnI P = sa at *
   generalize sgnI P' = sb at *
   clear hz hn hl he hb
   have BB := Lib.hid ((((((Bag.start w).rat h).rat g).box3 (.slice a n c) (.bool m) (.slice a2 n2 c2) 53).box3 (.slice b k l) (.bool v) (.slice b2 k2 l2) 53).box3 (.slice none 0 0) (.bool false) (.slice none 0 0) 53)
   simp only [World.size_alloc] at BB
   have q00 := BB.out.now.2.2.1.cell
   have q01 := BB.out.now.2.2.1.cell1
   have q02 := BB.out.now.2.2.1.cell2
   have q10 := BB.out.now.2.1.cell
   have q11 := BB.out.now.2.1.cell1
   have q12 := BB.out.now.2.1.cell2
   go_enter Tryz.func153, Tryz.ntmps153
   go_wp2_with fail
   go_at_call 68
   (with_reducible refine (IW.out _ BB.out.now.2.2.2.1).mono ?_)
   rintro e w1 ⟨rfl, hb1⟩
   have BB := Lib.hid (BB.out.go hb1)
   clear hb1
   clear q00 q01 q02 q10 q11 q12
   have q00 := BB.out.now.2.2.1.cell
   have q01 := BB.out.now.2.2.1.cell1
   have q02 := BB.out.now.2.2.1.cell2
   have q10 := BB.out.now.2.1.cell
   have q11 := BB.out.now.2.1.cell1
   have q12 := BB.out.now.2.1.cell2
   go_wp2_with fail
   go_at_call 28
   (with_reducible refine (SA.out _ BB.out.now.2.2.2.2.1).mono ?_)
   rintro e w2 ⟨rfl, hb2⟩
   have BB := Lib.hid (BB.out.go hb2)
   clear hb2
   clear q00 q01 q02 q10 q11 q12
   have q00 := BB.out.now.2.2.1.cell
   have q01 := BB.out.now.2.2.1.cell1
   have q02 := BB.out.now.2.2.1.cell2
   have q10 := BB.out.now.2.1.cell
   have q11 := BB.out.now.2.1.cell1
   have q12 := BB.out.now.2.1.cell2
   go_wp2_with fail
   go_at_call 28
   (with_reducible refine (SB.out _ BB.out.now.2.2.2.1).mono ?_)
   rintro e w3 ⟨rfl, hb3⟩
   have BB := Lib.hid (BB.out.go hb3)
   clear hb3
   clear q00 q01 q02 q10 q11 q12
   have q00 := BB.out.now.2.2.1.cell
   have q01 := BB.out.now.2.2.1.cell1
   have q02 := BB.out.now.2.2.1.cell2
   have q10 := BB.out.now.2.1.cell
   have q11 := BB.out.now.2.1.cell1
   have q12 := BB.out.now.2.1.cell2
   go_wp2_with fail
   go_at_call 147
   (with_reducible refine (LM.out _ BB.out.now.2.2.2.2.1).mono ?_)
   rintro e w4 ⟨rfl, hb4⟩
   have BB := Lib.hid (BB.out.go hb4)
   clear hb4
   clear q00 q01 q02 q10 q11 q12
   have q00 := BB.out.now.2.2.1.cell
   have q01 := BB.out.now.2.2.1.cell1
   have q02 := BB.out.now.2.2.1.cell2
   have q10 := BB.out.now.2.1.cell
   have q11 := BB.out.now.2.1.cell1
   have q12 := BB.out.now.2.1.cell2
   go_wp2_with fail
   go_at_call 188
   (with_reducible refine (TP.out _ BB.out.now.2.2.2.1).mono ?_)
   rintro e w5 ⟨rfl, hi5, hb5⟩
   have BB := Lib.hid (BB.out.go hb5)
   clear hb5
   clear hi5
   clear q00 q01 q02 q10 q11 q12
   have q00 := BB.out.now.2.2.1.cell
   have q01 := BB.out.now.2.2.1.cell1
   have q02 := BB.out.now.2.2.1.cell2
   have q10 := BB.out.now.2.1.cell
   have q11 := BB.out.now.2.1.cell1
   have q12 := BB.out.now.2.1.cell2
   go_wp2_with fail
   go_at_call 189
   (with_reducible refine (EV.out _ BB.out.now.2.2.2.1.int.nt).mono ?_)
   rintro e w6 ⟨rfl, hb6⟩
   have BB := Lib.hid (BB.out.go hb6)
   clear hb6
   clear q00 q01 q02 q10 q11 q12
   have q00 := BB.out.now.2.2.1.cell
   have q01 := BB.out.now.2.2.1.cell1
   have q02 := BB.out.now.2.2.1.cell2
   have q10 := BB.out.now.2.1.cell
   have q11 := BB.out.now.2.1.cell1
   have q12 := BB.out.now.2.1.cell2
   go_wp2_with fail
   go_at_call 27
   (with_reducible refine (TM.out _ _ ?_ ?_).mono ?_)
   · exact (BB.out.alloc _).now.2.2.2.2.1
   · exact RatsAt.old1 (Below.refl _ _) rfl (BB.out.alloc _).now.2.2.2.2.1
   rintro e w7 ⟨x7, xn7, xc7, xm7, y7, yn7, yc7, rfl, hr7, hb7⟩
   have BB := Lib.hid ((BB.out.alloc _).go hb7)
   clear hb7
   clear q00 q01 q02 q10 q11 q12
   have q00 := BB.out.now.2.2.1.cell
   have q01 := BB.out.now.2.2.1.cell1
   have q02 := BB.out.now.2.2.1.cell2
   have q10 := BB.out.now.2.1.cell
   have q11 := BB.out.now.2.1.cell1
   have q12 := BB.out.now.2.1.cell2
   have hs := BB.out.now.1
   have u0 := hs.cell
   have u1 := hs.cell1
   have u2 := hs.cell2
   have g0 := hs.free
   have g1 := hs.free1
   have g2 := hs.free2
   have HS := hs.set (.slice x7 xn7 xc7) (.bool xm7) (.slice y7 yn7 yc7)
   have HE := Lib.hid (RatTold4.done 0 BB.out.below (by omega) hs hr7)
   clear hs
   go_wp2
   exact bodyPost_ret (v := .tuple #[.agg #[.slice x7 xn7 xc7, .bool xm7, .slice y7 yn7 yc7], .int .i64 0]) (by simp [results, Tryz.results153, go_sem, HS]) rfl HE.out
theorem dpower_lim0 (a : Option Addr) (n c : Nat) (m : Bool) (a2 : Option Addr) (n2 c2 : Nat) (P : Int) (b : Option Addr) (k l : Nat) (v : Bool) (b2 : Option Addr) (k2 l2 : Nat) (P' : Int) (lm : Int) (w : World) (h : RatAt w a n c m a2 n2 c2 P 1) (g : RatAt w b k l v b2 k2 l2 P' 1) (hl : limB P 1 = true) (hn : P' ≠ 0) (hb : P' < 0 -> P ≠ 0) (he : ¬ P'.natAbs % 2 = 0) :
    Calls Tryz.prog 153 #[.agg #[.slice a n c, .bool m, .slice a2 n2 c2], .agg #[.slice b k l, .bool v, .slice b2 k2 l2], .int .i64 lm] w fun e w' => RatTold4 w w' e (P) 1 0 := by
 have IW := Lib.hid (fun wz h => isWhole_any b k l v b2 k2 l2 P' 1 wz h (by decide))
 rw [show decide ((1 : Nat) = 1) = true from rfl] at IW
 have SA := Lib.hid (fun wz h => ratSign_any a n c m a2 n2 c2 P 1 wz h)
 have SB := Lib.hid (fun wz h => ratSign_any b k l v b2 k2 l2 P' 1 wz h)
 have dB : (sgnI P' == 0) = false := beq_eq_false_iff_ne.2 (fun e => hn (sgn_zr.1 e))
 have LM := Lib.hid (fun wz h => limited_any a n c m a2 n2 c2 P 1 wz h (by decide))
 rw [show (decide ((1 : Nat) = 1) && (decide (P.natAbs = 0) || decide (P.natAbs = 1))) = true from hl] at LM
 have TP := Lib.hid (fun wz h => top_any b k l v b2 k2 l2 P' 1 wz h)
 unfold IntTold2 at TP
 have hfd : ∀ wz : World, (Instr.field 51 (.agg #[.slice b k l, .bool v]) 0).run Tryz.prog wz = .ok (.agg #[.slice b k l]) wz := fun _ => by kernel_rfl
 have EV := Lib.hid (fun wz h => even_any (.agg #[.slice b k l]) P'.natAbs wz h)
 rw [decide_eq_false he] at EV
 by_cases hz : P = 0
 · have dZ : decide (sgnI P' < 0) = false := decide_eq_false (fun e => hb (sgn_ng.1 e) hz)
   rw [sgn_zr.2 hz] at SA
   generalize sgnI P' = sb at *
   clear hz hn hl he hb
   have BB := Lib.hid ((((((Bag.start w).rat h).rat g).box3 (.slice a n c) (.bool m) (.slice a2 n2 c2) 53).box3 (.slice b k l) (.bool v) (.slice b2 k2 l2) 53).box3 (.slice none 0 0) (.bool false) (.slice none 0 0) 53)
   simp only [World.size_alloc] at BB
   have q00 := BB.out.now.2.2.1.cell
   have q01 := BB.out.now.2.2.1.cell1
   have q02 := BB.out.now.2.2.1.cell2
   have q10 := BB.out.now.2.1.cell
   have q11 := BB.out.now.2.1.cell1
   have q12 := BB.out.now.2.1.cell2
   go_enter Tryz.func153, Tryz.ntmps153
   go_wp2_with fail
   go_at_call 68
   (with_reducible refine (IW.out _ BB.out.now.2.2.2.1).mono ?_)
   rintro e w1 ⟨rfl, hb1⟩
   have BB := Lib.hid (BB.out.go hb1)
   clear hb1
   clear q00 q01 q02 q10 q11 q12
   have q00 := BB.out.now.2.2.1.cell
   have q01 := BB.out.now.2.2.1.cell1
   have q02 := BB.out.now.2.2.1.cell2
   have q10 := BB.out.now.2.1.cell
   have q11 := BB.out.now.2.1.cell1
   have q12 := BB.out.now.2.1.cell2
   go_wp2_with fail
   go_at_call 28
   (with_reducible refine (SA.out _ BB.out.now.2.2.2.2.1).mono ?_)
   rintro e w2 ⟨rfl, hb2⟩
   have BB := Lib.hid (BB.out.go hb2)
   clear hb2
   clear q00 q01 q02 q10 q11 q12
   have q00 := BB.out.now.2.2.1.cell
   have q01 := BB.out.now.2.2.1.cell1
   have q02 := BB.out.now.2.2.1.cell2
   have q10 := BB.out.now.2.1.cell
   have q11 := BB.out.now.2.1.cell1
   have q12 := BB.out.now.2.1.cell2
   go_wp2_with fail
   go_at_call 28
   (with_reducible refine (SB.out _ BB.out.now.2.2.2.1).mono ?_)
   rintro e w3 ⟨rfl, hb3⟩
   have BB := Lib.hid (BB.out.go hb3)
   clear hb3
   clear q00 q01 q02 q10 q11 q12
   have q00 := BB.out.now.2.2.1.cell
   have q01 := BB.out.now.2.2.1.cell1
   have q02 := BB.out.now.2.2.1.cell2
   have q10 := BB.out.now.2.1.cell
   have q11 := BB.out.now.2.1.cell1
   have q12 := BB.out.now.2.1.cell2
   go_wp2_with fail
   go_at_call 28
   (with_reducible refine (SB.out _ BB.out.now.2.2.2.1).mono ?_)
   rintro e w4 ⟨rfl, hb4⟩
   have BB := Lib.hid (BB.out.go hb4)
   clear hb4
   clear q00 q01 q02 q10 q11 q12
   have q00 := BB.out.now.2.2.1.cell
   have q01 := BB.out.now.2.2.1.cell1
   have q02 := BB.out.now.2.2.1.cell2
   have q10 := BB.out.now.2.1.cell
   have q11 := BB.out.now.2.1.cell1
   have q12 := BB.out.now.2.1.cell2
   go_wp2_with fail
   go_at_call 147
   (with_reducible refine (LM.out _ BB.out.now.2.2.2.2.1).mono ?_)
   rintro e w5 ⟨rfl, hb5⟩
   have BB := Lib.hid (BB.out.go hb5)
   clear hb5
   clear q00 q01 q02 q10 q11 q12
   have q00 := BB.out.now.2.2.1.cell
   have q01 := BB.out.now.2.2.1.cell1
   have q02 := BB.out.now.2.2.1.cell2
   have q10 := BB.out.now.2.1.cell
   have q11 := BB.out.now.2.1.cell1
   have q12 := BB.out.now.2.1.cell2
   go_wp2_with fail
   go_at_call 188
   (with_reducible refine (TP.out _ BB.out.now.2.2.2.1).mono ?_)
   rintro e w6 ⟨rfl, hi6, hb6⟩
   have BB := Lib.hid (BB.out.go hb6)
   clear hb6
   clear hi6
   clear q00 q01 q02 q10 q11 q12
   have q00 := BB.out.now.2.2.1.cell
   have q01 := BB.out.now.2.2.1.cell1
   have q02 := BB.out.now.2.2.1.cell2
   have q10 := BB.out.now.2.1.cell
   have q11 := BB.out.now.2.1.cell1
   have q12 := BB.out.now.2.1.cell2
   go_wp2_with fail
   go_at_call 189
   (with_reducible refine (EV.out _ BB.out.now.2.2.2.1.int.nt).mono ?_)
   rintro e w7 ⟨rfl, hb7⟩
   have BB := Lib.hid (BB.out.go hb7)
   clear hb7
   clear q00 q01 q02 q10 q11 q12
   have q00 := BB.out.now.2.2.1.cell
   have q01 := BB.out.now.2.2.1.cell1
   have q02 := BB.out.now.2.2.1.cell2
   have q10 := BB.out.now.2.1.cell
   have q11 := BB.out.now.2.1.cell1
   have q12 := BB.out.now.2.1.cell2
   go_wp2_with fail
   go_at_call 147
   (with_reducible refine (LM.out _ BB.out.now.2.2.2.2.1).mono ?_)
   rintro e w8 ⟨rfl, hb8⟩
   have BB := Lib.hid (BB.out.go hb8)
   clear hb8
   clear q00 q01 q02 q10 q11 q12
   have q00 := BB.out.now.2.2.1.cell
   have q01 := BB.out.now.2.2.1.cell1
   have q02 := BB.out.now.2.2.1.cell2
   have q10 := BB.out.now.2.1.cell
   have q11 := BB.out.now.2.1.cell1
   have q12 := BB.out.now.2.1.cell2
   have hs := BB.out.now.1
   have u0 := hs.cell
   have u1 := hs.cell1
   have u2 := hs.cell2
   have g0 := hs.free
   have g1 := hs.free1
   have g2 := hs.free2
   have HS := hs.set (.slice a n c) (.bool m) (.slice a2 n2 c2)
   have HE := Lib.hid (RatTold4.done 0 BB.out.below (by omega) hs BB.out.now.2.2.2.2.1)
   clear hs
   go_wp2
   exact bodyPost_ret (v := .tuple #[.agg #[.slice a n c, .bool m, .slice a2 n2 c2], .int .i64 0]) (by simp [results, Tryz.results153, go_sem, HS]) rfl HE.out
 · have dA : (sgnI P == 0) = false := beq_eq_false_iff_ne.2 (fun e => hz (sgn_zr.1 e))
   generalize sgnI P = sa at *
   generalize sgnI P' = sb at *
   clear hz hn hl he hb
   have BB := Lib.hid ((((((Bag.start w).rat h).rat g).box3 (.slice a n c) (.bool m) (.slice a2 n2 c2) 53).box3 (.slice b k l) (.bool v) (.slice b2 k2 l2) 53).box3 (.slice none 0 0) (.bool false) (.slice none 0 0) 53)
   simp only [World.size_alloc] at BB
   have q00 := BB.out.now.2.2.1.cell
   have q01 := BB.out.now.2.2.1.cell1
   have q02 := BB.out.now.2.2.1.cell2
   have q10 := BB.out.now.2.1.cell
   have q11 := BB.out.now.2.1.cell1
   have q12 := BB.out.now.2.1.cell2
   go_enter Tryz.func153, Tryz.ntmps153
   go_wp2_with fail
   go_at_call 68
   (with_reducible refine (IW.out _ BB.out.now.2.2.2.1).mono ?_)
   rintro e w1 ⟨rfl, hb1⟩
   have BB := Lib.hid (BB.out.go hb1)
   clear hb1
   clear q00 q01 q02 q10 q11 q12
   have q00 := BB.out.now.2.2.1.cell
   have q01 := BB.out.now.2.2.1.cell1
   have q02 := BB.out.now.2.2.1.cell2
   have q10 := BB.out.now.2.1.cell
   have q11 := BB.out.now.2.1.cell1
   have q12 := BB.out.now.2.1.cell2
   go_wp2_with fail
   go_at_call 28
   (with_reducible refine (SA.out _ BB.out.now.2.2.2.2.1).mono ?_)
   rintro e w2 ⟨rfl, hb2⟩
   have BB := Lib.hid (BB.out.go hb2)
   clear hb2
   clear q00 q01 q02 q10 q11 q12
   have q00 := BB.out.now.2.2.1.cell
   have q01 := BB.out.now.2.2.1.cell1
   have q02 := BB.out.now.2.2.1.cell2
   have q10 := BB.out.now.2.1.cell
   have q11 := BB.out.now.2.1.cell1
   have q12 := BB.out.now.2.1.cell2
   go_wp2_with fail
   go_at_call 28
   (with_reducible refine (SB.out _ BB.out.now.2.2.2.1).mono ?_)
   rintro e w3 ⟨rfl, hb3⟩
   have BB := Lib.hid (BB.out.go hb3)
   clear hb3
   clear q00 q01 q02 q10 q11 q12
   have q00 := BB.out.now.2.2.1.cell
   have q01 := BB.out.now.2.2.1.cell1
   have q02 := BB.out.now.2.2.1.cell2
   have q10 := BB.out.now.2.1.cell
   have q11 := BB.out.now.2.1.cell1
   have q12 := BB.out.now.2.1.cell2
   go_wp2_with fail
   go_at_call 147
   (with_reducible refine (LM.out _ BB.out.now.2.2.2.2.1).mono ?_)
   rintro e w4 ⟨rfl, hb4⟩
   have BB := Lib.hid (BB.out.go hb4)
   clear hb4
   clear q00 q01 q02 q10 q11 q12
   have q00 := BB.out.now.2.2.1.cell
   have q01 := BB.out.now.2.2.1.cell1
   have q02 := BB.out.now.2.2.1.cell2
   have q10 := BB.out.now.2.1.cell
   have q11 := BB.out.now.2.1.cell1
   have q12 := BB.out.now.2.1.cell2
   go_wp2_with fail
   go_at_call 188
   (with_reducible refine (TP.out _ BB.out.now.2.2.2.1).mono ?_)
   rintro e w5 ⟨rfl, hi5, hb5⟩
   have BB := Lib.hid (BB.out.go hb5)
   clear hb5
   clear hi5
   clear q00 q01 q02 q10 q11 q12
   have q00 := BB.out.now.2.2.1.cell
   have q01 := BB.out.now.2.2.1.cell1
   have q02 := BB.out.now.2.2.1.cell2
   have q10 := BB.out.now.2.1.cell
   have q11 := BB.out.now.2.1.cell1
   have q12 := BB.out.now.2.1.cell2
   go_wp2_with fail
   go_at_call 189
   (with_reducible refine (EV.out _ BB.out.now.2.2.2.1.int.nt).mono ?_)
   rintro e w6 ⟨rfl, hb6⟩
   have BB := Lib.hid (BB.out.go hb6)
   clear hb6
   clear q00 q01 q02 q10 q11 q12
   have q00 := BB.out.now.2.2.1.cell
   have q01 := BB.out.now.2.2.1.cell1
   have q02 := BB.out.now.2.2.1.cell2
   have q10 := BB.out.now.2.1.cell
   have q11 := BB.out.now.2.1.cell1
   have q12 := BB.out.now.2.1.cell2
   go_wp2_with fail
   go_at_call 147
   (with_reducible refine (LM.out _ BB.out.now.2.2.2.2.1).mono ?_)
   rintro e w7 ⟨rfl, hb7⟩
   have BB := Lib.hid (BB.out.go hb7)
   clear hb7
   clear q00 q01 q02 q10 q11 q12
   have q00 := BB.out.now.2.2.1.cell
   have q01 := BB.out.now.2.2.1.cell1
   have q02 := BB.out.now.2.2.1.cell2
   have q10 := BB.out.now.2.1.cell
   have q11 := BB.out.now.2.1.cell1
   have q12 := BB.out.now.2.1.cell2
   have hs := BB.out.now.1
   have u0 := hs.cell
   have u1 := hs.cell1
   have u2 := hs.cell2
   have g0 := hs.free
   have g1 := hs.free1
   have g2 := hs.free2
   have HS := hs.set (.slice a n c) (.bool m) (.slice a2 n2 c2)
   have HE := Lib.hid (RatTold4.done 0 BB.out.below (by omega) hs BB.out.now.2.2.2.2.1)
   clear hs
   go_wp2
   exact bodyPost_ret (v := .tuple #[.agg #[.slice a n c, .bool m, .slice a2 n2 c2], .int .i64 0]) (by simp [results, Tryz.results153, go_sem, HS]) rfl HE.out
theorem fit_in {Z : Int} (h : fitB Z = true) : fitI Z = Z /\ -9223372036854775808 <= Z /\ Z <= 9223372036854775807 := by
 unfold fitI
 rw [if_pos h]
 exact ⟨rfl, of_decide_eq_true h⟩
theorem dpower_far (a : Option Addr) (n c : Nat) (m : Bool) (a2 : Option Addr) (n2 c2 : Nat) (P : Int) (Q : Nat) (b : Option Addr) (k l : Nat) (v : Bool) (b2 : Option Addr) (k2 l2 : Nat) (P' : Int) (lm : Int) (w : World) (h : RatAt w a n c m a2 n2 c2 P Q) (g : RatAt w b k l v b2 k2 l2 P' 1) (hQ : 0 < Q) (hl : limB P Q = false) (hn : P' ≠ 0) (hb : P' < 0 -> P ≠ 0) (hf : fitB P' = false) :
    Calls Tryz.prog 153 #[.agg #[.slice a n c, .bool m, .slice a2 n2 c2], .agg #[.slice b k l, .bool v, .slice b2 k2 l2], .int .i64 lm] w fun e w' => RatTold4 w w' e 0 1 26 := by
 have IW := Lib.hid (fun wz h => isWhole_any b k l v b2 k2 l2 P' 1 wz h (by decide))
 rw [show decide ((1 : Nat) = 1) = true from rfl] at IW
 have SA := Lib.hid (fun wz h => ratSign_any a n c m a2 n2 c2 P Q wz h)
 have SB := Lib.hid (fun wz h => ratSign_any b k l v b2 k2 l2 P' 1 wz h)
 have dB : (sgnI P' == 0) = false := beq_eq_false_iff_ne.2 (fun e => hn (sgn_zr.1 e))
 have LM := Lib.hid (fun wz h => limited_any a n c m a2 n2 c2 P Q wz h hQ)
 rw [show (decide (Q = 1) && (decide (P.natAbs = 0) || decide (P.natAbs = 1))) = false from hl] at LM
 have IN := Lib.hid (fun wz h => ratInt_any b k l v b2 k2 l2 P' 1 wz h (by decide))
 rw [if_pos rfl, show decide ((1 : Nat) = 1) = true from rfl, Bool.true_and] at IN
 rw [hf] at IN
 generalize fitI P' = fi at *
 by_cases hz : P = 0
 · have dZ : decide (sgnI P' < 0) = false := decide_eq_false (fun e => hb (sgn_ng.1 e) hz)
   rw [sgn_zr.2 hz] at SA
   generalize sgnI P' = sb at *
   clear hz hn hl hb hQ hf
   have BB := Lib.hid ((((((Bag.start w).rat h).rat g).box3 (.slice a n c) (.bool m) (.slice a2 n2 c2) 53).box3 (.slice b k l) (.bool v) (.slice b2 k2 l2) 53).box3 (.slice none 0 0) (.bool false) (.slice none 0 0) 53)
   simp only [World.size_alloc] at BB
   have q00 := BB.out.now.2.2.1.cell
   have q01 := BB.out.now.2.2.1.cell1
   have q02 := BB.out.now.2.2.1.cell2
   have q10 := BB.out.now.2.1.cell
   have q11 := BB.out.now.2.1.cell1
   have q12 := BB.out.now.2.1.cell2
   go_enter Tryz.func153, Tryz.ntmps153
   go_wp2_with fail
   go_at_call 68
   (with_reducible refine (IW.out _ BB.out.now.2.2.2.1).mono ?_)
   rintro e w1 ⟨rfl, hb1⟩
   have BB := Lib.hid (BB.out.go hb1)
   clear hb1
   clear q00 q01 q02 q10 q11 q12
   have q00 := BB.out.now.2.2.1.cell
   have q01 := BB.out.now.2.2.1.cell1
   have q02 := BB.out.now.2.2.1.cell2
   have q10 := BB.out.now.2.1.cell
   have q11 := BB.out.now.2.1.cell1
   have q12 := BB.out.now.2.1.cell2
   go_wp2_with fail
   go_at_call 28
   (with_reducible refine (SA.out _ BB.out.now.2.2.2.2.1).mono ?_)
   rintro e w2 ⟨rfl, hb2⟩
   have BB := Lib.hid (BB.out.go hb2)
   clear hb2
   clear q00 q01 q02 q10 q11 q12
   have q00 := BB.out.now.2.2.1.cell
   have q01 := BB.out.now.2.2.1.cell1
   have q02 := BB.out.now.2.2.1.cell2
   have q10 := BB.out.now.2.1.cell
   have q11 := BB.out.now.2.1.cell1
   have q12 := BB.out.now.2.1.cell2
   go_wp2_with fail
   go_at_call 28
   (with_reducible refine (SB.out _ BB.out.now.2.2.2.1).mono ?_)
   rintro e w3 ⟨rfl, hb3⟩
   have BB := Lib.hid (BB.out.go hb3)
   clear hb3
   clear q00 q01 q02 q10 q11 q12
   have q00 := BB.out.now.2.2.1.cell
   have q01 := BB.out.now.2.2.1.cell1
   have q02 := BB.out.now.2.2.1.cell2
   have q10 := BB.out.now.2.1.cell
   have q11 := BB.out.now.2.1.cell1
   have q12 := BB.out.now.2.1.cell2
   go_wp2_with fail
   go_at_call 28
   (with_reducible refine (SB.out _ BB.out.now.2.2.2.1).mono ?_)
   rintro e w4 ⟨rfl, hb4⟩
   have BB := Lib.hid (BB.out.go hb4)
   clear hb4
   clear q00 q01 q02 q10 q11 q12
   have q00 := BB.out.now.2.2.1.cell
   have q01 := BB.out.now.2.2.1.cell1
   have q02 := BB.out.now.2.2.1.cell2
   have q10 := BB.out.now.2.1.cell
   have q11 := BB.out.now.2.1.cell1
   have q12 := BB.out.now.2.1.cell2
   go_wp2_with fail
   go_at_call 147
   (with_reducible refine (LM.out _ BB.out.now.2.2.2.2.1).mono ?_)
   rintro e w5 ⟨rfl, hb5⟩
   have BB := Lib.hid (BB.out.go hb5)
   clear hb5
   clear q00 q01 q02 q10 q11 q12
   have q00 := BB.out.now.2.2.1.cell
   have q01 := BB.out.now.2.2.1.cell1
   have q02 := BB.out.now.2.2.1.cell2
   have q10 := BB.out.now.2.1.cell
   have q11 := BB.out.now.2.1.cell1
   have q12 := BB.out.now.2.1.cell2
   go_wp2_with fail
   go_at_call 147
   (with_reducible refine (LM.out _ BB.out.now.2.2.2.2.1).mono ?_)
   rintro e w6 ⟨rfl, hb6⟩
   have BB := Lib.hid (BB.out.go hb6)
   clear hb6
   clear q00 q01 q02 q10 q11 q12
   have q00 := BB.out.now.2.2.1.cell
   have q01 := BB.out.now.2.2.1.cell1
   have q02 := BB.out.now.2.2.1.cell2
   have q10 := BB.out.now.2.1.cell
   have q11 := BB.out.now.2.1.cell1
   have q12 := BB.out.now.2.1.cell2
   go_wp2_with fail
   go_at_call 179
   (with_reducible refine (IN.out _ BB.out.now.2.2.2.1).mono ?_)
   rintro e w7 ⟨rfl, hb7⟩
   have BB := Lib.hid (BB.out.go hb7)
   clear hb7
   clear q00 q01 q02 q10 q11 q12
   have q00 := BB.out.now.2.2.1.cell
   have q01 := BB.out.now.2.2.1.cell1
   have q02 := BB.out.now.2.2.1.cell2
   have q10 := BB.out.now.2.1.cell
   have q11 := BB.out.now.2.1.cell1
   have q12 := BB.out.now.2.1.cell2
   have hs := BB.out.now.1
   have u0 := hs.cell
   have u1 := hs.cell1
   have u2 := hs.cell2
   have g0 := hs.free
   have g1 := hs.free1
   have g2 := hs.free2
   have HS := hs.set (.slice none 0 0) (.bool false) (.slice none 0 0)
   have HE := Lib.hid (RatTold4.done 26 BB.out.below (by omega) hs (RatAt.zero _))
   clear hs
   go_wp2
   exact bodyPost_ret (v := .tuple #[.agg #[.slice none 0 0, .bool false, .slice none 0 0], .int .i64 26]) (by simp [results, Tryz.results153, go_sem, HS]) rfl HE.out
 · have dA : (sgnI P == 0) = false := beq_eq_false_iff_ne.2 (fun e => hz (sgn_zr.1 e))
   generalize sgnI P = sa at *
   generalize sgnI P' = sb at *
   clear hz hn hl hb hQ hf
   have BB := Lib.hid ((((((Bag.start w).rat h).rat g).box3 (.slice a n c) (.bool m) (.slice a2 n2 c2) 53).box3 (.slice b k l) (.bool v) (.slice b2 k2 l2) 53).box3 (.slice none 0 0) (.bool false) (.slice none 0 0) 53)
   simp only [World.size_alloc] at BB
   have q00 := BB.out.now.2.2.1.cell
   have q01 := BB.out.now.2.2.1.cell1
   have q02 := BB.out.now.2.2.1.cell2
   have q10 := BB.out.now.2.1.cell
   have q11 := BB.out.now.2.1.cell1
   have q12 := BB.out.now.2.1.cell2
   go_enter Tryz.func153, Tryz.ntmps153
   go_wp2_with fail
   go_at_call 68
   (with_reducible refine (IW.out _ BB.out.now.2.2.2.1).mono ?_)
   rintro e w1 ⟨rfl, hb1⟩
   have BB := Lib.hid (BB.out.go hb1)
   clear hb1
   clear q00 q01 q02 q10 q11 q12
   have q00 := BB.out.now.2.2.1.cell
   have q01 := BB.out.now.2.2.1.cell1
   have q02 := BB.out.now.2.2.1.cell2
   have q10 := BB.out.now.2.1.cell
   have q11 := BB.out.now.2.1.cell1
   have q12 := BB.out.now.2.1.cell2
   go_wp2_with fail
   go_at_call 28
   (with_reducible refine (SA.out _ BB.out.now.2.2.2.2.1).mono ?_)
   rintro e w2 ⟨rfl, hb2⟩
   have BB := Lib.hid (BB.out.go hb2)
   clear hb2
   clear q00 q01 q02 q10 q11 q12
   have q00 := BB.out.now.2.2.1.cell
   have q01 := BB.out.now.2.2.1.cell1
   have q02 := BB.out.now.2.2.1.cell2
   have q10 := BB.out.now.2.1.cell
   have q11 := BB.out.now.2.1.cell1
   have q12 := BB.out.now.2.1.cell2
   go_wp2_with fail
   go_at_call 28
   (with_reducible refine (SB.out _ BB.out.now.2.2.2.1).mono ?_)
   rintro e w3 ⟨rfl, hb3⟩
   have BB := Lib.hid (BB.out.go hb3)
   clear hb3
   clear q00 q01 q02 q10 q11 q12
   have q00 := BB.out.now.2.2.1.cell
   have q01 := BB.out.now.2.2.1.cell1
   have q02 := BB.out.now.2.2.1.cell2
   have q10 := BB.out.now.2.1.cell
   have q11 := BB.out.now.2.1.cell1
   have q12 := BB.out.now.2.1.cell2
   go_wp2_with fail
   go_at_call 147
   (with_reducible refine (LM.out _ BB.out.now.2.2.2.2.1).mono ?_)
   rintro e w4 ⟨rfl, hb4⟩
   have BB := Lib.hid (BB.out.go hb4)
   clear hb4
   clear q00 q01 q02 q10 q11 q12
   have q00 := BB.out.now.2.2.1.cell
   have q01 := BB.out.now.2.2.1.cell1
   have q02 := BB.out.now.2.2.1.cell2
   have q10 := BB.out.now.2.1.cell
   have q11 := BB.out.now.2.1.cell1
   have q12 := BB.out.now.2.1.cell2
   go_wp2_with fail
   go_at_call 147
   (with_reducible refine (LM.out _ BB.out.now.2.2.2.2.1).mono ?_)
   rintro e w5 ⟨rfl, hb5⟩
   have BB := Lib.hid (BB.out.go hb5)
   clear hb5
   clear q00 q01 q02 q10 q11 q12
   have q00 := BB.out.now.2.2.1.cell
   have q01 := BB.out.now.2.2.1.cell1
   have q02 := BB.out.now.2.2.1.cell2
   have q10 := BB.out.now.2.1.cell
   have q11 := BB.out.now.2.1.cell1
   have q12 := BB.out.now.2.1.cell2
   go_wp2_with fail
   go_at_call 179
   (with_reducible refine (IN.out _ BB.out.now.2.2.2.1).mono ?_)
   rintro e w6 ⟨rfl, hb6⟩
   have BB := Lib.hid (BB.out.go hb6)
   clear hb6
   clear q00 q01 q02 q10 q11 q12
   have q00 := BB.out.now.2.2.1.cell
   have q01 := BB.out.now.2.2.1.cell1
   have q02 := BB.out.now.2.2.1.cell2
   have q10 := BB.out.now.2.1.cell
   have q11 := BB.out.now.2.1.cell1
   have q12 := BB.out.now.2.1.cell2
   have hs := BB.out.now.1
   have u0 := hs.cell
   have u1 := hs.cell1
   have u2 := hs.cell2
   have g0 := hs.free
   have g1 := hs.free1
   have g2 := hs.free2
   have HS := hs.set (.slice none 0 0) (.bool false) (.slice none 0 0)
   have HE := Lib.hid (RatTold4.done 26 BB.out.below (by omega) hs (RatAt.zero _))
   clear hs
   go_wp2
   exact bodyPost_ret (v := .tuple #[.agg #[.slice none 0 0, .bool false, .slice none 0 0], .int .i64 26]) (by simp [results, Tryz.results153, go_sem, HS]) rfl HE.out
theorem dpower_yes (a : Option Addr) (n c : Nat) (m : Bool) (a2 : Option Addr) (n2 c2 : Nat) (P : Int) (Q : Nat) (b : Option Addr) (k l : Nat) (v : Bool) (b2 : Option Addr) (k2 l2 : Nat) (P' : Int) (lm : Int) (w : World) (h : RatAt w a n c m a2 n2 c2 P Q) (g : RatAt w b k l v b2 k2 l2 P' 1) (hQ : 0 < Q) (hl : limB P Q = false) (hn : P' ≠ 0) (hb : P' < 0 -> P ≠ 0) (hf : fitB P' = true) (hm : 1 <= lm /\ lm <= 64) (d1 : dl P.natAbs <= 60) (d2 : dl Q <= 60) (ho : poO P Q P' lm = true) :
    Calls Tryz.prog 153 #[.agg #[.slice a n c, .bool m, .slice a2 n2 c2], .agg #[.slice b k l, .bool v, .slice b2 k2 l2], .int .i64 lm] w fun e w' => RatTold4 w w' e (poP P Q P' lm) (poQ P Q P' lm) 0 := by
 have IW := Lib.hid (fun wz h => isWhole_any b k l v b2 k2 l2 P' 1 wz h (by decide))
 rw [show decide ((1 : Nat) = 1) = true from rfl] at IW
 have SA := Lib.hid (fun wz h => ratSign_any a n c m a2 n2 c2 P Q wz h)
 have SB := Lib.hid (fun wz h => ratSign_any b k l v b2 k2 l2 P' 1 wz h)
 have dB : (sgnI P' == 0) = false := beq_eq_false_iff_ne.2 (fun e => hn (sgn_zr.1 e))
 have LM := Lib.hid (fun wz h => limited_any a n c m a2 n2 c2 P Q wz h hQ)
 rw [show (decide (Q = 1) && (decide (P.natAbs = 0) || decide (P.natAbs = 1))) = false from hl] at LM
 have IN := Lib.hid (fun wz h => ratInt_any b k l v b2 k2 l2 P' 1 wz h (by decide))
 rw [if_pos rfl, show decide ((1 : Nat) = 1) = true from rfl, Bool.true_and] at IN
 rw [hf] at IN
 have hfi : fitI P' = P' /\ -9223372036854775808 <= P' /\ P' <= 9223372036854775807 := fit_in hf
 rw [hfi.1] at IN
 have PW := Lib.hid (fun wz h => ratPow_any a n c m a2 n2 c2 P Q P' lm wz h hQ d1 d2 hfi.2.1 hfi.2.2 hm.2 (by omega))
 unfold RatTold3 at PW
 rw [ho] at PW
 generalize poP P Q P' lm = Z1 at *
 generalize poQ P Q P' lm = Z2 at *
 by_cases hz : P = 0
 · have dZ : decide (sgnI P' < 0) = false := decide_eq_false (fun e => hb (sgn_ng.1 e) hz)
   rw [sgn_zr.2 hz] at SA
   generalize sgnI P' = sb at *
   clear hz hn hl hb hQ hf hm d1 d2 ho hfi
   have BB := Lib.hid ((((((Bag.start w).rat h).rat g).box3 (.slice a n c) (.bool m) (.slice a2 n2 c2) 53).box3 (.slice b k l) (.bool v) (.slice b2 k2 l2) 53).box3 (.slice none 0 0) (.bool false) (.slice none 0 0) 53)
   simp only [World.size_alloc] at BB
   have q00 := BB.out.now.2.2.1.cell
   have q01 := BB.out.now.2.2.1.cell1
   have q02 := BB.out.now.2.2.1.cell2
   have q10 := BB.out.now.2.1.cell
   have q11 := BB.out.now.2.1.cell1
   have q12 := BB.out.now.2.1.cell2
   go_enter Tryz.func153, Tryz.ntmps153
   go_wp2_with fail
   go_at_call 68
   (with_reducible refine (IW.out _ BB.out.now.2.2.2.1).mono ?_)
   rintro e w1 ⟨rfl, hb1⟩
   have BB := Lib.hid (BB.out.go hb1)
   clear hb1
   clear q00 q01 q02 q10 q11 q12
   have q00 := BB.out.now.2.2.1.cell
   have q01 := BB.out.now.2.2.1.cell1
   have q02 := BB.out.now.2.2.1.cell2
   have q10 := BB.out.now.2.1.cell
   have q11 := BB.out.now.2.1.cell1
   have q12 := BB.out.now.2.1.cell2
   go_wp2_with fail
   go_at_call 28
   (with_reducible refine (SA.out _ BB.out.now.2.2.2.2.1).mono ?_)
   rintro e w2 ⟨rfl, hb2⟩
   have BB := Lib.hid (BB.out.go hb2)
   clear hb2
   clear q00 q01 q02 q10 q11 q12
   have q00 := BB.out.now.2.2.1.cell
   have q01 := BB.out.now.2.2.1.cell1
   have q02 := BB.out.now.2.2.1.cell2
   have q10 := BB.out.now.2.1.cell
   have q11 := BB.out.now.2.1.cell1
   have q12 := BB.out.now.2.1.cell2
   go_wp2_with fail
   go_at_call 28
   (with_reducible refine (SB.out _ BB.out.now.2.2.2.1).mono ?_)
   rintro e w3 ⟨rfl, hb3⟩
   have BB := Lib.hid (BB.out.go hb3)
   clear hb3
   clear q00 q01 q02 q10 q11 q12
   have q00 := BB.out.now.2.2.1.cell
   have q01 := BB.out.now.2.2.1.cell1
   have q02 := BB.out.now.2.2.1.cell2
   have q10 := BB.out.now.2.1.cell
   have q11 := BB.out.now.2.1.cell1
   have q12 := BB.out.now.2.1.cell2
   go_wp2_with fail
   go_at_call 28
   (with_reducible refine (SB.out _ BB.out.now.2.2.2.1).mono ?_)
   rintro e w4 ⟨rfl, hb4⟩
   have BB := Lib.hid (BB.out.go hb4)
   clear hb4
   clear q00 q01 q02 q10 q11 q12
   have q00 := BB.out.now.2.2.1.cell
   have q01 := BB.out.now.2.2.1.cell1
   have q02 := BB.out.now.2.2.1.cell2
   have q10 := BB.out.now.2.1.cell
   have q11 := BB.out.now.2.1.cell1
   have q12 := BB.out.now.2.1.cell2
   go_wp2_with fail
   go_at_call 147
   (with_reducible refine (LM.out _ BB.out.now.2.2.2.2.1).mono ?_)
   rintro e w5 ⟨rfl, hb5⟩
   have BB := Lib.hid (BB.out.go hb5)
   clear hb5
   clear q00 q01 q02 q10 q11 q12
   have q00 := BB.out.now.2.2.1.cell
   have q01 := BB.out.now.2.2.1.cell1
   have q02 := BB.out.now.2.2.1.cell2
   have q10 := BB.out.now.2.1.cell
   have q11 := BB.out.now.2.1.cell1
   have q12 := BB.out.now.2.1.cell2
   go_wp2_with fail
   go_at_call 147
   (with_reducible refine (LM.out _ BB.out.now.2.2.2.2.1).mono ?_)
   rintro e w6 ⟨rfl, hb6⟩
   have BB := Lib.hid (BB.out.go hb6)
   clear hb6
   clear q00 q01 q02 q10 q11 q12
   have q00 := BB.out.now.2.2.1.cell
   have q01 := BB.out.now.2.2.1.cell1
   have q02 := BB.out.now.2.2.1.cell2
   have q10 := BB.out.now.2.1.cell
   have q11 := BB.out.now.2.1.cell1
   have q12 := BB.out.now.2.1.cell2
   go_wp2_with fail
   go_at_call 179
   (with_reducible refine (IN.out _ BB.out.now.2.2.2.1).mono ?_)
   rintro e w7 ⟨rfl, hb7⟩
   have BB := Lib.hid (BB.out.go hb7)
   clear hb7
   clear q00 q01 q02 q10 q11 q12
   have q00 := BB.out.now.2.2.1.cell
   have q01 := BB.out.now.2.2.1.cell1
   have q02 := BB.out.now.2.2.1.cell2
   have q10 := BB.out.now.2.1.cell
   have q11 := BB.out.now.2.1.cell1
   have q12 := BB.out.now.2.1.cell2
   go_wp2_with fail
   go_at_call 190
   (with_reducible refine (PW.out _ BB.out.now.2.2.2.2.1).mono ?_)
   rintro e w8 ⟨x8, xn8, xc8, xm8, y8, yn8, yc8, rfl, hr8, hb8⟩
   have BB := Lib.hid (((BB.out.go hb8).rat hr8).box3 (.slice x8 xn8 xc8) (.bool xm8) (.slice y8 yn8 yc8) 53)
   clear hb8
   clear hr8
   clear q00 q01 q02 q10 q11 q12
   have q00 := BB.out.now.2.2.2.2.1.cell
   have q01 := BB.out.now.2.2.2.2.1.cell1
   have q02 := BB.out.now.2.2.2.2.1.cell2
   have q10 := BB.out.now.2.2.2.1.cell
   have q11 := BB.out.now.2.2.2.1.cell1
   have q12 := BB.out.now.2.2.2.1.cell2
   have q20 := BB.out.now.1.cell
   have q21 := BB.out.now.1.cell1
   have q22 := BB.out.now.1.cell2
   have hs := BB.out.now.2.2.1
   have u0 := hs.cell
   have u1 := hs.cell1
   have u2 := hs.cell2
   have g0 := hs.free
   have g1 := hs.free1
   have g2 := hs.free2
   have HS := hs.set (.slice x8 xn8 xc8) (.bool xm8) (.slice y8 yn8 yc8)
   have HE := Lib.hid (RatTold4.done 0 BB.out.below (by omega) hs BB.out.now.2.1)
   clear hs
   go_wp2
   exact bodyPost_ret (v := .tuple #[.agg #[.slice x8 xn8 xc8, .bool xm8, .slice y8 yn8 yc8], .int .i64 0]) (by simp [results, Tryz.results153, go_sem, HS]) rfl HE.out
 · have dA : (sgnI P == 0) = false := beq_eq_false_iff_ne.2 (fun e => hz (sgn_zr.1 e))
   generalize sgnI P = sa at *
   generalize sgnI P' = sb at *
   clear hz hn hl hb hQ hf hm d1 d2 ho hfi
   have BB := Lib.hid ((((((Bag.start w).rat h).rat g).box3 (.slice a n c) (.bool m) (.slice a2 n2 c2) 53).box3 (.slice b k l) (.bool v) (.slice b2 k2 l2) 53).box3 (.slice none 0 0) (.bool false) (.slice none 0 0) 53)
   simp only [World.size_alloc] at BB
   have q00 := BB.out.now.2.2.1.cell
   have q01 := BB.out.now.2.2.1.cell1
   have q02 := BB.out.now.2.2.1.cell2
   have q10 := BB.out.now.2.1.cell
   have q11 := BB.out.now.2.1.cell1
   have q12 := BB.out.now.2.1.cell2
   go_enter Tryz.func153, Tryz.ntmps153
   go_wp2_with fail
   go_at_call 68
   (with_reducible refine (IW.out _ BB.out.now.2.2.2.1).mono ?_)
   rintro e w1 ⟨rfl, hb1⟩
   have BB := Lib.hid (BB.out.go hb1)
   clear hb1
   clear q00 q01 q02 q10 q11 q12
   have q00 := BB.out.now.2.2.1.cell
   have q01 := BB.out.now.2.2.1.cell1
   have q02 := BB.out.now.2.2.1.cell2
   have q10 := BB.out.now.2.1.cell
   have q11 := BB.out.now.2.1.cell1
   have q12 := BB.out.now.2.1.cell2
   go_wp2_with fail
   go_at_call 28
   (with_reducible refine (SA.out _ BB.out.now.2.2.2.2.1).mono ?_)
   rintro e w2 ⟨rfl, hb2⟩
   have BB := Lib.hid (BB.out.go hb2)
   clear hb2
   clear q00 q01 q02 q10 q11 q12
   have q00 := BB.out.now.2.2.1.cell
   have q01 := BB.out.now.2.2.1.cell1
   have q02 := BB.out.now.2.2.1.cell2
   have q10 := BB.out.now.2.1.cell
   have q11 := BB.out.now.2.1.cell1
   have q12 := BB.out.now.2.1.cell2
   go_wp2_with fail
   go_at_call 28
   (with_reducible refine (SB.out _ BB.out.now.2.2.2.1).mono ?_)
   rintro e w3 ⟨rfl, hb3⟩
   have BB := Lib.hid (BB.out.go hb3)
   clear hb3
   clear q00 q01 q02 q10 q11 q12
   have q00 := BB.out.now.2.2.1.cell
   have q01 := BB.out.now.2.2.1.cell1
   have q02 := BB.out.now.2.2.1.cell2
   have q10 := BB.out.now.2.1.cell
   have q11 := BB.out.now.2.1.cell1
   have q12 := BB.out.now.2.1.cell2
   go_wp2_with fail
   go_at_call 147
   (with_reducible refine (LM.out _ BB.out.now.2.2.2.2.1).mono ?_)
   rintro e w4 ⟨rfl, hb4⟩
   have BB := Lib.hid (BB.out.go hb4)
   clear hb4
   clear q00 q01 q02 q10 q11 q12
   have q00 := BB.out.now.2.2.1.cell
   have q01 := BB.out.now.2.2.1.cell1
   have q02 := BB.out.now.2.2.1.cell2
   have q10 := BB.out.now.2.1.cell
   have q11 := BB.out.now.2.1.cell1
   have q12 := BB.out.now.2.1.cell2
   go_wp2_with fail
   go_at_call 147
   (with_reducible refine (LM.out _ BB.out.now.2.2.2.2.1).mono ?_)
   rintro e w5 ⟨rfl, hb5⟩
   have BB := Lib.hid (BB.out.go hb5)
   clear hb5
   clear q00 q01 q02 q10 q11 q12
   have q00 := BB.out.now.2.2.1.cell
   have q01 := BB.out.now.2.2.1.cell1
   have q02 := BB.out.now.2.2.1.cell2
   have q10 := BB.out.now.2.1.cell
   have q11 := BB.out.now.2.1.cell1
   have q12 := BB.out.now.2.1.cell2
   go_wp2_with fail
   go_at_call 179
   (with_reducible refine (IN.out _ BB.out.now.2.2.2.1).mono ?_)
   rintro e w6 ⟨rfl, hb6⟩
   have BB := Lib.hid (BB.out.go hb6)
   clear hb6
   clear q00 q01 q02 q10 q11 q12
   have q00 := BB.out.now.2.2.1.cell
   have q01 := BB.out.now.2.2.1.cell1
   have q02 := BB.out.now.2.2.1.cell2
   have q10 := BB.out.now.2.1.cell
   have q11 := BB.out.now.2.1.cell1
   have q12 := BB.out.now.2.1.cell2
   go_wp2_with fail
   go_at_call 190
   (with_reducible refine (PW.out _ BB.out.now.2.2.2.2.1).mono ?_)
   rintro e w7 ⟨x7, xn7, xc7, xm7, y7, yn7, yc7, rfl, hr7, hb7⟩
   have BB := Lib.hid (((BB.out.go hb7).rat hr7).box3 (.slice x7 xn7 xc7) (.bool xm7) (.slice y7 yn7 yc7) 53)
   clear hb7
   clear hr7
   clear q00 q01 q02 q10 q11 q12
   have q00 := BB.out.now.2.2.2.2.1.cell
   have q01 := BB.out.now.2.2.2.2.1.cell1
   have q02 := BB.out.now.2.2.2.2.1.cell2
   have q10 := BB.out.now.2.2.2.1.cell
   have q11 := BB.out.now.2.2.2.1.cell1
   have q12 := BB.out.now.2.2.2.1.cell2
   have q20 := BB.out.now.1.cell
   have q21 := BB.out.now.1.cell1
   have q22 := BB.out.now.1.cell2
   have hs := BB.out.now.2.2.1
   have u0 := hs.cell
   have u1 := hs.cell1
   have u2 := hs.cell2
   have g0 := hs.free
   have g1 := hs.free1
   have g2 := hs.free2
   have HS := hs.set (.slice x7 xn7 xc7) (.bool xm7) (.slice y7 yn7 yc7)
   have HE := Lib.hid (RatTold4.done 0 BB.out.below (by omega) hs BB.out.now.2.1)
   clear hs
   go_wp2
   exact bodyPost_ret (v := .tuple #[.agg #[.slice x7 xn7 xc7, .bool xm7, .slice y7 yn7 yc7], .int .i64 0]) (by simp [results, Tryz.results153, go_sem, HS]) rfl HE.out
theorem dpower_long (a : Option Addr) (n c : Nat) (m : Bool) (a2 : Option Addr) (n2 c2 : Nat) (P : Int) (Q : Nat) (b : Option Addr) (k l : Nat) (v : Bool) (b2 : Option Addr) (k2 l2 : Nat) (P' : Int) (lm : Int) (w : World) (h : RatAt w a n c m a2 n2 c2 P Q) (g : RatAt w b k l v b2 k2 l2 P' 1) (hQ : 0 < Q) (hl : limB P Q = false) (hn : P' ≠ 0) (hb : P' < 0 -> P ≠ 0) (hf : fitB P' = true) (hm : 1 <= lm /\ lm <= 64) (d1 : dl P.natAbs <= 60) (d2 : dl Q <= 60) (ho : poO P Q P' lm = false) :
    Calls Tryz.prog 153 #[.agg #[.slice a n c, .bool m, .slice a2 n2 c2], .agg #[.slice b k l, .bool v, .slice b2 k2 l2], .int .i64 lm] w fun e w' => RatTold4 w w' e 0 1 26 := by
 have IW := Lib.hid (fun wz h => isWhole_any b k l v b2 k2 l2 P' 1 wz h (by decide))
 rw [show decide ((1 : Nat) = 1) = true from rfl] at IW
 have SA := Lib.hid (fun wz h => ratSign_any a n c m a2 n2 c2 P Q wz h)
 have SB := Lib.hid (fun wz h => ratSign_any b k l v b2 k2 l2 P' 1 wz h)
 have dB : (sgnI P' == 0) = false := beq_eq_false_iff_ne.2 (fun e => hn (sgn_zr.1 e))
 have LM := Lib.hid (fun wz h => limited_any a n c m a2 n2 c2 P Q wz h hQ)
 rw [show (decide (Q = 1) && (decide (P.natAbs = 0) || decide (P.natAbs = 1))) = false from hl] at LM
 have IN := Lib.hid (fun wz h => ratInt_any b k l v b2 k2 l2 P' 1 wz h (by decide))
 rw [if_pos rfl, show decide ((1 : Nat) = 1) = true from rfl, Bool.true_and] at IN
 rw [hf] at IN
 have hfi : fitI P' = P' /\ -9223372036854775808 <= P' /\ P' <= 9223372036854775807 := fit_in hf
 rw [hfi.1] at IN
 have PW := Lib.hid (fun wz h => ratPow_any a n c m a2 n2 c2 P Q P' lm wz h hQ d1 d2 hfi.2.1 hfi.2.2 hm.2 (by omega))
 unfold RatTold3 at PW
 rw [ho] at PW
 generalize poP P Q P' lm = Z1 at *
 generalize poQ P Q P' lm = Z2 at *
 by_cases hz : P = 0
 · have dZ : decide (sgnI P' < 0) = false := decide_eq_false (fun e => hb (sgn_ng.1 e) hz)
   rw [sgn_zr.2 hz] at SA
   generalize sgnI P' = sb at *
   clear hz hn hl hb hQ hf hm d1 d2 ho hfi
   have BB := Lib.hid ((((((Bag.start w).rat h).rat g).box3 (.slice a n c) (.bool m) (.slice a2 n2 c2) 53).box3 (.slice b k l) (.bool v) (.slice b2 k2 l2) 53).box3 (.slice none 0 0) (.bool false) (.slice none 0 0) 53)
   simp only [World.size_alloc] at BB
   have q00 := BB.out.now.2.2.1.cell
   have q01 := BB.out.now.2.2.1.cell1
   have q02 := BB.out.now.2.2.1.cell2
   have q10 := BB.out.now.2.1.cell
   have q11 := BB.out.now.2.1.cell1
   have q12 := BB.out.now.2.1.cell2
   go_enter Tryz.func153, Tryz.ntmps153
   go_wp2_with fail
   go_at_call 68
   (with_reducible refine (IW.out _ BB.out.now.2.2.2.1).mono ?_)
   rintro e w1 ⟨rfl, hb1⟩
   have BB := Lib.hid (BB.out.go hb1)
   clear hb1
   clear q00 q01 q02 q10 q11 q12
   have q00 := BB.out.now.2.2.1.cell
   have q01 := BB.out.now.2.2.1.cell1
   have q02 := BB.out.now.2.2.1.cell2
   have q10 := BB.out.now.2.1.cell
   have q11 := BB.out.now.2.1.cell1
   have q12 := BB.out.now.2.1.cell2
   go_wp2_with fail
   go_at_call 28
   (with_reducible refine (SA.out _ BB.out.now.2.2.2.2.1).mono ?_)
   rintro e w2 ⟨rfl, hb2⟩
   have BB := Lib.hid (BB.out.go hb2)
   clear hb2
   clear q00 q01 q02 q10 q11 q12
   have q00 := BB.out.now.2.2.1.cell
   have q01 := BB.out.now.2.2.1.cell1
   have q02 := BB.out.now.2.2.1.cell2
   have q10 := BB.out.now.2.1.cell
   have q11 := BB.out.now.2.1.cell1
   have q12 := BB.out.now.2.1.cell2
   go_wp2_with fail
   go_at_call 28
   (with_reducible refine (SB.out _ BB.out.now.2.2.2.1).mono ?_)
   rintro e w3 ⟨rfl, hb3⟩
   have BB := Lib.hid (BB.out.go hb3)
   clear hb3
   clear q00 q01 q02 q10 q11 q12
   have q00 := BB.out.now.2.2.1.cell
   have q01 := BB.out.now.2.2.1.cell1
   have q02 := BB.out.now.2.2.1.cell2
   have q10 := BB.out.now.2.1.cell
   have q11 := BB.out.now.2.1.cell1
   have q12 := BB.out.now.2.1.cell2
   go_wp2_with fail
   go_at_call 28
   (with_reducible refine (SB.out _ BB.out.now.2.2.2.1).mono ?_)
   rintro e w4 ⟨rfl, hb4⟩
   have BB := Lib.hid (BB.out.go hb4)
   clear hb4
   clear q00 q01 q02 q10 q11 q12
   have q00 := BB.out.now.2.2.1.cell
   have q01 := BB.out.now.2.2.1.cell1
   have q02 := BB.out.now.2.2.1.cell2
   have q10 := BB.out.now.2.1.cell
   have q11 := BB.out.now.2.1.cell1
   have q12 := BB.out.now.2.1.cell2
   go_wp2_with fail
   go_at_call 147
   (with_reducible refine (LM.out _ BB.out.now.2.2.2.2.1).mono ?_)
   rintro e w5 ⟨rfl, hb5⟩
   have BB := Lib.hid (BB.out.go hb5)
   clear hb5
   clear q00 q01 q02 q10 q11 q12
   have q00 := BB.out.now.2.2.1.cell
   have q01 := BB.out.now.2.2.1.cell1
   have q02 := BB.out.now.2.2.1.cell2
   have q10 := BB.out.now.2.1.cell
   have q11 := BB.out.now.2.1.cell1
   have q12 := BB.out.now.2.1.cell2
   go_wp2_with fail
   go_at_call 147
   (with_reducible refine (LM.out _ BB.out.now.2.2.2.2.1).mono ?_)
   rintro e w6 ⟨rfl, hb6⟩
   have BB := Lib.hid (BB.out.go hb6)
   clear hb6
   clear q00 q01 q02 q10 q11 q12
   have q00 := BB.out.now.2.2.1.cell
   have q01 := BB.out.now.2.2.1.cell1
   have q02 := BB.out.now.2.2.1.cell2
   have q10 := BB.out.now.2.1.cell
   have q11 := BB.out.now.2.1.cell1
   have q12 := BB.out.now.2.1.cell2
   go_wp2_with fail
   go_at_call 179
   (with_reducible refine (IN.out _ BB.out.now.2.2.2.1).mono ?_)
   rintro e w7 ⟨rfl, hb7⟩
   have BB := Lib.hid (BB.out.go hb7)
   clear hb7
   clear q00 q01 q02 q10 q11 q12
   have q00 := BB.out.now.2.2.1.cell
   have q01 := BB.out.now.2.2.1.cell1
   have q02 := BB.out.now.2.2.1.cell2
   have q10 := BB.out.now.2.1.cell
   have q11 := BB.out.now.2.1.cell1
   have q12 := BB.out.now.2.1.cell2
   go_wp2_with fail
   go_at_call 190
   (with_reducible refine (PW.out _ BB.out.now.2.2.2.2.1).mono ?_)
   rintro e w8 ⟨x8, xn8, xc8, xm8, y8, yn8, yc8, rfl, hr8, hb8⟩
   have BB := Lib.hid (((BB.out.go hb8).rat hr8).box3 (.slice x8 xn8 xc8) (.bool xm8) (.slice y8 yn8 yc8) 53)
   clear hb8
   clear hr8
   clear q00 q01 q02 q10 q11 q12
   have q00 := BB.out.now.2.2.2.2.1.cell
   have q01 := BB.out.now.2.2.2.2.1.cell1
   have q02 := BB.out.now.2.2.2.2.1.cell2
   have q10 := BB.out.now.2.2.2.1.cell
   have q11 := BB.out.now.2.2.2.1.cell1
   have q12 := BB.out.now.2.2.2.1.cell2
   have q20 := BB.out.now.1.cell
   have q21 := BB.out.now.1.cell1
   have q22 := BB.out.now.1.cell2
   have hs := BB.out.now.2.2.1
   have u0 := hs.cell
   have u1 := hs.cell1
   have u2 := hs.cell2
   have g0 := hs.free
   have g1 := hs.free1
   have g2 := hs.free2
   have HS := hs.set (.slice none 0 0) (.bool false) (.slice none 0 0)
   have HE := Lib.hid (RatTold4.done 26 BB.out.below (by omega) hs (RatAt.zero _))
   clear hs
   go_wp2
   exact bodyPost_ret (v := .tuple #[.agg #[.slice none 0 0, .bool false, .slice none 0 0], .int .i64 26]) (by simp [results, Tryz.results153, go_sem, HS]) rfl HE.out
 · have dA : (sgnI P == 0) = false := beq_eq_false_iff_ne.2 (fun e => hz (sgn_zr.1 e))
   generalize sgnI P = sa at *
   generalize sgnI P' = sb at *
   clear hz hn hl hb hQ hf hm d1 d2 ho hfi
   have BB := Lib.hid ((((((Bag.start w).rat h).rat g).box3 (.slice a n c) (.bool m) (.slice a2 n2 c2) 53).box3 (.slice b k l) (.bool v) (.slice b2 k2 l2) 53).box3 (.slice none 0 0) (.bool false) (.slice none 0 0) 53)
   simp only [World.size_alloc] at BB
   have q00 := BB.out.now.2.2.1.cell
   have q01 := BB.out.now.2.2.1.cell1
   have q02 := BB.out.now.2.2.1.cell2
   have q10 := BB.out.now.2.1.cell
   have q11 := BB.out.now.2.1.cell1
   have q12 := BB.out.now.2.1.cell2
   go_enter Tryz.func153, Tryz.ntmps153
   go_wp2_with fail
   go_at_call 68
   (with_reducible refine (IW.out _ BB.out.now.2.2.2.1).mono ?_)
   rintro e w1 ⟨rfl, hb1⟩
   have BB := Lib.hid (BB.out.go hb1)
   clear hb1
   clear q00 q01 q02 q10 q11 q12
   have q00 := BB.out.now.2.2.1.cell
   have q01 := BB.out.now.2.2.1.cell1
   have q02 := BB.out.now.2.2.1.cell2
   have q10 := BB.out.now.2.1.cell
   have q11 := BB.out.now.2.1.cell1
   have q12 := BB.out.now.2.1.cell2
   go_wp2_with fail
   go_at_call 28
   (with_reducible refine (SA.out _ BB.out.now.2.2.2.2.1).mono ?_)
   rintro e w2 ⟨rfl, hb2⟩
   have BB := Lib.hid (BB.out.go hb2)
   clear hb2
   clear q00 q01 q02 q10 q11 q12
   have q00 := BB.out.now.2.2.1.cell
   have q01 := BB.out.now.2.2.1.cell1
   have q02 := BB.out.now.2.2.1.cell2
   have q10 := BB.out.now.2.1.cell
   have q11 := BB.out.now.2.1.cell1
   have q12 := BB.out.now.2.1.cell2
   go_wp2_with fail
   go_at_call 28
   (with_reducible refine (SB.out _ BB.out.now.2.2.2.1).mono ?_)
   rintro e w3 ⟨rfl, hb3⟩
   have BB := Lib.hid (BB.out.go hb3)
   clear hb3
   clear q00 q01 q02 q10 q11 q12
   have q00 := BB.out.now.2.2.1.cell
   have q01 := BB.out.now.2.2.1.cell1
   have q02 := BB.out.now.2.2.1.cell2
   have q10 := BB.out.now.2.1.cell
   have q11 := BB.out.now.2.1.cell1
   have q12 := BB.out.now.2.1.cell2
   go_wp2_with fail
   go_at_call 147
   (with_reducible refine (LM.out _ BB.out.now.2.2.2.2.1).mono ?_)
   rintro e w4 ⟨rfl, hb4⟩
   have BB := Lib.hid (BB.out.go hb4)
   clear hb4
   clear q00 q01 q02 q10 q11 q12
   have q00 := BB.out.now.2.2.1.cell
   have q01 := BB.out.now.2.2.1.cell1
   have q02 := BB.out.now.2.2.1.cell2
   have q10 := BB.out.now.2.1.cell
   have q11 := BB.out.now.2.1.cell1
   have q12 := BB.out.now.2.1.cell2
   go_wp2_with fail
   go_at_call 147
   (with_reducible refine (LM.out _ BB.out.now.2.2.2.2.1).mono ?_)
   rintro e w5 ⟨rfl, hb5⟩
   have BB := Lib.hid (BB.out.go hb5)
   clear hb5
   clear q00 q01 q02 q10 q11 q12
   have q00 := BB.out.now.2.2.1.cell
   have q01 := BB.out.now.2.2.1.cell1
   have q02 := BB.out.now.2.2.1.cell2
   have q10 := BB.out.now.2.1.cell
   have q11 := BB.out.now.2.1.cell1
   have q12 := BB.out.now.2.1.cell2
   go_wp2_with fail
   go_at_call 179
   (with_reducible refine (IN.out _ BB.out.now.2.2.2.1).mono ?_)
   rintro e w6 ⟨rfl, hb6⟩
   have BB := Lib.hid (BB.out.go hb6)
   clear hb6
   clear q00 q01 q02 q10 q11 q12
   have q00 := BB.out.now.2.2.1.cell
   have q01 := BB.out.now.2.2.1.cell1
   have q02 := BB.out.now.2.2.1.cell2
   have q10 := BB.out.now.2.1.cell
   have q11 := BB.out.now.2.1.cell1
   have q12 := BB.out.now.2.1.cell2
   go_wp2_with fail
   go_at_call 190
   (with_reducible refine (PW.out _ BB.out.now.2.2.2.2.1).mono ?_)
   rintro e w7 ⟨x7, xn7, xc7, xm7, y7, yn7, yc7, rfl, hr7, hb7⟩
   have BB := Lib.hid (((BB.out.go hb7).rat hr7).box3 (.slice x7 xn7 xc7) (.bool xm7) (.slice y7 yn7 yc7) 53)
   clear hb7
   clear hr7
   clear q00 q01 q02 q10 q11 q12
   have q00 := BB.out.now.2.2.2.2.1.cell
   have q01 := BB.out.now.2.2.2.2.1.cell1
   have q02 := BB.out.now.2.2.2.2.1.cell2
   have q10 := BB.out.now.2.2.2.1.cell
   have q11 := BB.out.now.2.2.2.1.cell1
   have q12 := BB.out.now.2.2.2.1.cell2
   have q20 := BB.out.now.1.cell
   have q21 := BB.out.now.1.cell1
   have q22 := BB.out.now.1.cell2
   have hs := BB.out.now.2.2.1
   have u0 := hs.cell
   have u1 := hs.cell1
   have u2 := hs.cell2
   have g0 := hs.free
   have g1 := hs.free1
   have g2 := hs.free2
   have HS := hs.set (.slice none 0 0) (.bool false) (.slice none 0 0)
   have HE := Lib.hid (RatTold4.done 26 BB.out.below (by omega) hs (RatAt.zero _))
   clear hs
   go_wp2
   exact bodyPost_ret (v := .tuple #[.agg #[.slice none 0 0, .bool false, .slice none 0 0], .int .i64 26]) (by simp [results, Tryz.results153, go_sem, HS]) rfl HE.out
theorem dpower_any (a : Option Addr) (n c : Nat) (m : Bool) (a2 : Option Addr) (n2 c2 : Nat) (P : Int) (Q : Nat) (b : Option Addr) (k l : Nat) (v : Bool) (b2 : Option Addr) (k2 l2 : Nat) (P' : Int) (Q' : Nat) (lm : Int) (w : World) (h : RatAt w a n c m a2 n2 c2 P Q) (g : RatAt w b k l v b2 k2 l2 P' Q') (hQ : 0 < Q) (hQ' : 0 < Q') (hm : 1 <= lm /\ lm <= 64) (d1 : dl P.natAbs <= 60) (d2 : dl Q <= 60) :
    Calls Tryz.prog 153 #[.agg #[.slice a n c, .bool m, .slice a2 n2 c2], .agg #[.slice b k l, .bool v, .slice b2 k2 l2], .int .i64 lm] w fun e w' => RatTold4 w w' e (powT P Q P' Q' lm).1 (powT P Q P' Q' lm).2.1 (powT P Q P' Q' lm).2.2 := by
 unfold powT
 by_cases hw : Q' = 1
 case neg =>
  rw [if_pos (.inl hw)]
  exact dpower_frac a n c m a2 n2 c2 P Q b k l v b2 k2 l2 P' Q' lm w h g hQ hQ' hw
 case pos =>
 subst hw
 by_cases hz : P = 0 /\ P' < 0
 · rw [if_pos (.inr hz)]
   obtain ⟨rfl, hn⟩ := hz
   exact dpower_nought a n c m a2 n2 c2 Q b k l v b2 k2 l2 P' lm w h g hQ hn
 rw [if_neg (by omega)]
 by_cases hn : P' = 0
 · rw [if_pos hn]
   subst hn
   exact dpower_none a n c m a2 n2 c2 P Q b k l v b2 k2 l2 lm w h g hQ
 rw [if_neg hn]
 cases hl : limB P Q with
 | true =>
  rw [if_pos rfl]
  obtain rfl : Q = 1 := by
   unfold limB at hl
   rw [Bool.and_eq_true, decide_eq_true_eq] at hl
   exact hl.1
  by_cases he : P' % 2 = 0
  · rw [if_pos he]
    exact dpower_lim1 a n c m a2 n2 c2 P b k l v b2 k2 l2 P' lm w h g hl hn (by omega) (by omega)
  · rw [if_neg he]
    exact dpower_lim0 a n c m a2 n2 c2 P b k l v b2 k2 l2 P' lm w h g hl hn (by omega) (by omega)
 | false =>
  rw [if_neg (by decide)]
  cases hf : fitB P' with
  | false =>
   rw [if_pos rfl]
   exact dpower_far a n c m a2 n2 c2 P Q b k l v b2 k2 l2 P' lm w h g hQ hl hn (by omega) hf
  | true =>
   rw [if_neg (by decide)]
   cases ho : poO P Q P' lm with
   | true =>
    rw [if_pos rfl]
    exact dpower_yes a n c m a2 n2 c2 P Q b k l v b2 k2 l2 P' lm w h g hQ hl hn (by omega) hf hm d1 d2 ho
   | false =>
    rw [if_neg (by decide)]
    exact dpower_long a n c m a2 n2 c2 P Q b k l v b2 k2 l2 P' lm w h g hQ hl hn (by omega) hf hm d1 d2 ho
end Go.Proofs.YtpdcdebnkbnogaaGreatDoor
namespace Go.Proofs.YtpdcdebnkbnogaaGreatDoor
open Go Go.RowKit
section
variable {P : Program} {md : Region.Mode} {ops : Array Oper} {Q : Exit -> Act -> World -> Prop} {L : Plan} {p : Nat -> List (Option Value) -> World -> Prop} {B : World -> Prop} {a0 : Act}
theorem wpAny_inv5 (ok : L.ok md ops a0.tmps.size = true) (hal : L.al.all (fun i => (dstI ops i).isSome) = true) (stay : ∀ j v w w', Below w.heap.size w w' -> p j v w -> p j v w') (steps : Stps2 P ops Q L p B a0 0 ops.toList)
    (done : ∀ a w, a.tmps.size = a0.tmps.size -> a.defers = a0.defers -> (∀ t, stays ops t = true -> a.tmps[t]? = a0.tmps[t]?) -> B w -> (∀ j, j < ops.size -> p j (vw a (L.D j)) w) -> (∀ i ∈ L.al, ∀ j ∈ L.al, i ≠ j -> i < ops.size -> j < ops.size -> ∀ k, Ptr2 a ops i k -> ¬ Ptr2 a ops j k) -> Q .normal a w) :
    ∀ (fuel : Nat) (listed : Array Bool) (a : Act) (w : World), Inv2 md ops L p B a0 listed a w -> (List.range ops.size).countP (fun i => !listed.getD i true) <= fuel -> wpAny P md ops Q fuel listed a w := by
 intro fuel
 induction fuel with
 | zero =>
  intro listed a w I hc
  have hall : ∀ j, j < ops.size -> listed.getD j true = true := by
   intro j hj
   have := List.countP_eq_zero.1 (Nat.le_zero.1 hc) j (List.mem_range.2 hj)
   simpa using this
  have hr : Region.ready md ops listed = [] := by
   rw [List.eq_nil_iff_forall_not_mem]
   intro j hj
   obtain ⟨h1, o, h2, _⟩ := mem_ready.1 hj
   rw [hall j (Array.getElem?_eq_some_iff.1 h2).1] at h1; cases h1
  exact ⟨hr, done a w I.asz I.dfs I.old I.bag (fun j hj => I.fct j (ready_all ok I.lsz hr j hj)) (fun i hi j hj hne h1 h2 => I.apt i hi j hj hne (ready_all ok I.lsz hr i h1) (ready_all ok I.lsz hr j h2))⟩
 | succ fuel ih =>
  intro listed a w I hc
  refine ⟨fun hr => done a w I.asz I.dfs I.old I.bag (fun j hj => I.fct j (ready_all ok I.lsz hr j hj)) (fun i hi j hj hne h1 h2 => I.apt i hi j hj hne (ready_all ok I.lsz hr i h1) (ready_all ok I.lsz hr j h2)), fun i hi => ?_⟩
  obtain ⟨hu, o, ho, hr⟩ := mem_ready.1 hi
  have hio : i < ops.size := (Array.getElem?_eq_some_iff.1 ho).1
  have hst := steps.get i o (by rw [Array.getElem?_toList]; exact ho)
  rw [Nat.zero_add] at hst
  have hpre : ∀ e ∈ L.pre i, listed.getD e false = true := by
   intro e he
   rcases (Plan.ok_spec ok hio).2.1 e he with h | ⟨k, hk, hek⟩
   · obtain ⟨x, h1, h2, rfl⟩ := (aft_mem ho).1 h; exact hr x h1 h2
   · obtain ⟨x, h1, h2, rfl⟩ := (aft_mem ho).1 hk; exact I.clo _ (hr x h1 h2) e hek
  refine wpOp_step ho (fun K hK => hst a w I.asz I.old I.bag (fun j hj => I.fct j (hpre j hj)) K (fun v w' G => hK _ _ (ih _ _ _ (I.step ok hal stay ho hu hr G) ?_)))
  have hil : i < listed.size := by rw [I.lsz]; exact hio
  have hun : listed[i] = false := by simpa [hil] using hu
  have := cnt_set (fun j => !listed.getD j true) (fun j => !(listed.setIfInBounds i true).getD j true) i (by simp [hil, hun]) (by simp [hil]) (fun j hj => by simp [Ne.symm hj]) ops.size
  rw [if_pos hio] at this
  omega
theorem wp_region_inv5 {id : Nat} {l : List Oper} {w : World} (L : Plan) (p : Nat -> List (Option Value) -> World -> Prop) (B : World -> Prop) (hm : P.follows .mixedOrders = true) (ok : L.ok .any l.toArray a0.tmps.size = true) (hal : L.al.all (fun i => (dstI l.toArray i).isSome) = true)
    (hB : B w.drew) (stay : ∀ j v w w', Below w.heap.size w w' -> p j v w -> p j v w')
    (done : ∀ a w, a.tmps.size = a0.tmps.size -> a.defers = a0.defers -> (∀ t, stays l.toArray t = true -> a.tmps[t]? = a0.tmps[t]?) -> B w -> (∀ j, j < l.length -> p j (vw a (L.D j)) w) -> (∀ i ∈ L.al, ∀ j ∈ L.al, i ≠ j -> i < l.length -> j < l.length -> ∀ k, Ptr2 a l.toArray i k -> ¬ Ptr2 a l.toArray j k) -> Q .normal a w)
    (steps : Stps2 P l.toArray Q L p B a0 0 l) :
    (Code.region id l.toArray true).wp P Q a0 w := by
 refine wp_region_any hm (wpAny_inv5 ok hal stay steps (fun a w h1 h2 h3 h4 h5 h6 => done a w h1 h2 h3 h4 (fun j hj => h5 j (by simpa using hj)) (fun i hi j hj hne q1 q2 => h6 i hi j hj hne (by simpa using q1) (by simpa using q2))) _ _ _ _ ⟨by simp, rfl, rfl, fun _ _ => rfl, hB, ?_, ?_, ?_, ?_⟩ ?_)
 · intro j hj; rw [lg0] at hj; cases hj
 · intro j hj; rw [lg0] at hj; cases hj
 · intro j _ hj; rw [lg0] at hj; cases hj
 · intro j _ i _ _ hj; rw [lg0] at hj; cases hj
 · exact Nat.le_trans List.countP_le_length (by simp)
end
end Go.Proofs.YtpdcdebnkbnogaaGreatDoor
