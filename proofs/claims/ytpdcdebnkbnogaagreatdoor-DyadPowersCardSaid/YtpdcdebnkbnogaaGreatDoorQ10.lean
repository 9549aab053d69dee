/-
  Texts of this seat, laid together.
-/
import Derived.Laws.StructEq
import Derived.Test.YtpdcdebnkbnogaaGreatDoorQ1
import Derived.Test.YtpdcdebnkbnogaaGreatDoorQ2
import Derived.Test.YtpdcdebnkbnogaaGreatDoorQ3
import Derived.Test.YtpdcdebnkbnogaaGreatDoorQ4
import Derived.Test.YtpdcdebnkbnogaaGreatDoorQ5
import Derived.Test.YtpdcdebnkbnogaaGreatDoorQ6
import Derived.Test.YtpdcdebnkbnogaaGreatDoorQ7
import Derived.Test.YtpdcdebnkbnogaaGreatDoorQ8
import Derived.Test.YtpdcdebnkbnogaaGreatDoorQ9
set_option maxHeartbeats 12800000
set_option maxRecDepth 100000
set_option linter.unusedSimpArgs false
set_option linter.unusedVariables false
namespace Go.Proofs.YtpdcdebnkbnogaaGreatDoor
open Go.RowKit
attribute [local go_sem ↓] Go.wp_at_zero Go.wp_at_succ
set_option linter.unusedVariables false
set_option linter.unusedSimpArgs false
theorem dcomp_plus (a : Option Addr) (n c : Nat) (m : Bool) (a2 : Option Addr) (n2 c2 : Nat) (P : Int) (Q : Nat) (b : Option Addr) (k l : Nat) (v : Bool) (b2 : Option Addr) (k2 l2 : Nat) (P' : Int) (Q' : Nat) (lm : Int) (w : World) (h : RatAt w a n c m a2 n2 c2 P Q) (g : RatAt w b k l v b2 k2 l2 P' Q') (hQ : 0 < Q) (hQ' : 0 < Q') (K : Nat) (hK : K <= 20000) (h1 : P.natAbs < 4294967296 ^ K) (h2 : Q < 4294967296 ^ K) (h3 : P'.natAbs < 4294967296 ^ K) (h4 : Q' < 4294967296 ^ K) :
    Calls Tryz.prog 106 #[.int .i32 43, .agg #[.slice a n c, .bool m, .slice a2 n2 c2], .agg #[.slice b k l, .bool v, .slice b2 k2 l2], .int .i64 lm] w fun e w' => RatTold4 w w' e (plP P Q P' Q') (plQ P Q P' Q') 0 := by
 have PL := Lib.hid (fun sa wz (h : RatAt wz a n c m a2 n2 c2 P Q) (g : RatsAt wz sa 1 1 (fun _ => P') (fun _ => Q')) => ratPlus1_any a n c m a2 n2 c2 P Q sa P' Q' wz h g hQ hQ' K (by omega) h1 h2 h3 h4)
 generalize (plP P Q P' Q') = Z1 at *
 generalize (plQ P Q P' Q') = Z2 at *
 clear hQ hQ' hK h1 h2 h3 h4
 have BB := Lib.hid ((((((Bag.start w).rat h).rat g).box3 (.slice a n c) (.bool m) (.slice a2 n2 c2) 53).box3 (.slice b k l) (.bool v) (.slice b2 k2 l2) 53).box3 (.slice none 0 0) (.bool false) (.slice none 0 0) 53)
 simp only [World.size_alloc] at BB
 have q00 := BB.out.now.2.2.1.cell
 have q01 := BB.out.now.2.2.1.cell1
 have q02 := BB.out.now.2.2.1.cell2
 have q10 := BB.out.now.2.1.cell
 have q11 := BB.out.now.2.1.cell1
 have q12 := BB.out.now.2.1.cell2
 go_enter Tryz.func106, Tryz.ntmps106
 go_wp2_with fail
 go_at_call 25
 (with_reducible refine (PL.out _ _ ?_ ?_).mono ?_)
 · exact (BB.out.alloc _).now.2.2.2.2.1
 · exact RatsAt.old1 (Below.refl _ _) (by simp) (BB.out.alloc _).now.2.2.2.1
 rintro e w1 ⟨x1, xn1, xc1, xm1, y1, yn1, yc1, rfl, hr1, hb1⟩
 have BB := Lib.hid ((BB.out.alloc _).go hb1)
 clear hb1
 clear q00 q01 q02 q10 q11 q12
 have q00 := BB.out.now.2.2.1.cell
 have q01 := BB.out.now.2.2.1.cell1
 have q02 := BB.out.now.2.2.1.cell2
 have q10 := BB.out.now.2.1.cell
 have q11 := BB.out.now.2.1.cell1
 have q12 := BB.out.now.2.1.cell2
 have hs := BB.out.now.1
 have u0 := hs.cell
 have u1 := hs.cell1
 have u2 := hs.cell2
 have g0 := hs.free
 have g1 := hs.free1
 have g2 := hs.free2
 have HS := hs.set (.slice x1 xn1 xc1) (.bool xm1) (.slice y1 yn1 yc1)
 have HE := Lib.hid (RatTold4.done 0 BB.out.below (by omega) hs hr1)
 clear hs
 go_wp2
 exact bodyPost_ret (v := .tuple #[.agg #[.slice x1 xn1 xc1, .bool xm1, .slice y1 yn1 yc1], .int .i64 0]) (by simp [results, Tryz.results106, go_sem, HS]) rfl HE.out
theorem dcomp_times (a : Option Addr) (n c : Nat) (m : Bool) (a2 : Option Addr) (n2 c2 : Nat) (P : Int) (Q : Nat) (b : Option Addr) (k l : Nat) (v : Bool) (b2 : Option Addr) (k2 l2 : Nat) (P' : Int) (Q' : Nat) (lm : Int) (w : World) (h : RatAt w a n c m a2 n2 c2 P Q) (g : RatAt w b k l v b2 k2 l2 P' Q') (hQ : 0 < Q) (hQ' : 0 < Q') (K : Nat) (hK : K <= 20000) (h1 : P.natAbs < 4294967296 ^ K) (h2 : Q < 4294967296 ^ K) (h3 : P'.natAbs < 4294967296 ^ K) (h4 : Q' < 4294967296 ^ K) :
    Calls Tryz.prog 106 #[.int .i32 215, .agg #[.slice a n c, .bool m, .slice a2 n2 c2], .agg #[.slice b k l, .bool v, .slice b2 k2 l2], .int .i64 lm] w fun e w' => RatTold4 w w' e (tmP P Q P' Q') (tmQ P Q P' Q') 0 := by
 have TM := Lib.hid (fun sa wz (h : RatAt wz a n c m a2 n2 c2 P Q) (g : RatsAt wz sa 1 1 (fun _ => P') (fun _ => Q')) => ratTimes1_any a n c m a2 n2 c2 P Q sa P' Q' wz h g hQ hQ' K (by omega) h1 h2 h3 h4)
 generalize (tmP P Q P' Q') = Z1 at *
 generalize (tmQ P Q P' Q') = Z2 at *
 clear hQ hQ' hK h1 h2 h3 h4
 have BB := Lib.hid ((((((Bag.start w).rat h).rat g).box3 (.slice a n c) (.bool m) (.slice a2 n2 c2) 53).box3 (.slice b k l) (.bool v) (.slice b2 k2 l2) 53).box3 (.slice none 0 0) (.bool false) (.slice none 0 0) 53)
 simp only [World.size_alloc] at BB
 have q00 := BB.out.now.2.2.1.cell
 have q01 := BB.out.now.2.2.1.cell1
 have q02 := BB.out.now.2.2.1.cell2
 have q10 := BB.out.now.2.1.cell
 have q11 := BB.out.now.2.1.cell1
 have q12 := BB.out.now.2.1.cell2
 go_enter Tryz.func106, Tryz.ntmps106
 go_wp2_with fail
 go_at_call 27
 (with_reducible refine (TM.out _ _ ?_ ?_).mono ?_)
 · exact (BB.out.alloc _).now.2.2.2.2.1
 · exact RatsAt.old1 (Below.refl _ _) (by simp) (BB.out.alloc _).now.2.2.2.1
 rintro e w1 ⟨x1, xn1, xc1, xm1, y1, yn1, yc1, rfl, hr1, hb1⟩
 have BB := Lib.hid ((BB.out.alloc _).go hb1)
 clear hb1
 clear q00 q01 q02 q10 q11 q12
 have q00 := BB.out.now.2.2.1.cell
 have q01 := BB.out.now.2.2.1.cell1
 have q02 := BB.out.now.2.2.1.cell2
 have q10 := BB.out.now.2.1.cell
 have q11 := BB.out.now.2.1.cell1
 have q12 := BB.out.now.2.1.cell2
 have hs := BB.out.now.1
 have u0 := hs.cell
 have u1 := hs.cell1
 have u2 := hs.cell2
 have g0 := hs.free
 have g1 := hs.free1
 have g2 := hs.free2
 have HS := hs.set (.slice x1 xn1 xc1) (.bool xm1) (.slice y1 yn1 yc1)
 have HE := Lib.hid (RatTold4.done 0 BB.out.below (by omega) hs hr1)
 clear hs
 go_wp2
 exact bodyPost_ret (v := .tuple #[.agg #[.slice x1 xn1 xc1, .bool xm1, .slice y1 yn1 yc1], .int .i64 0]) (by simp [results, Tryz.results106, go_sem, HS]) rfl HE.out
theorem dcomp_minus (a : Option Addr) (n c : Nat) (m : Bool) (a2 : Option Addr) (n2 c2 : Nat) (P : Int) (Q : Nat) (b : Option Addr) (k l : Nat) (v : Bool) (b2 : Option Addr) (k2 l2 : Nat) (P' : Int) (Q' : Nat) (lm : Int) (w : World) (h : RatAt w a n c m a2 n2 c2 P Q) (g : RatAt w b k l v b2 k2 l2 P' Q') (hQ : 0 < Q) (hQ' : 0 < Q') (K : Nat) (hK : K <= 20000) (h1 : P.natAbs < 4294967296 ^ K) (h2 : Q < 4294967296 ^ K) (h3 : P'.natAbs < 4294967296 ^ K) (h4 : Q' < 4294967296 ^ K) :
    Calls Tryz.prog 106 #[.int .i32 45, .agg #[.slice a n c, .bool m, .slice a2 n2 c2], .agg #[.slice b k l, .bool v, .slice b2 k2 l2], .int .i64 lm] w fun e w' => RatTold4 w w' e (plP P Q (-P') Q') (plQ P Q (-P') Q') 0 := by
 have MN := Lib.hid (fun wz h => ratMinus_any b k l v b2 k2 l2 P' Q' wz h)
 have PL := Lib.hid (fun sa wz (h : RatAt wz a n c m a2 n2 c2 P Q) (g : RatsAt wz sa 1 1 (fun _ => -P') (fun _ => Q')) => ratPlus1_any a n c m a2 n2 c2 P Q sa (-P') Q' wz h g hQ hQ' K (by omega) h1 h2 (by rw [Int.natAbs_neg]; exact h3) h4)
 generalize (plP P Q (-P') Q') = Z1 at *
 generalize (plQ P Q (-P') Q') = Z2 at *
 clear hQ hQ' hK h1 h2 h3 h4
 have BB := Lib.hid ((((((Bag.start w).rat h).rat g).box3 (.slice a n c) (.bool m) (.slice a2 n2 c2) 53).box3 (.slice b k l) (.bool v) (.slice b2 k2 l2) 53).box3 (.slice none 0 0) (.bool false) (.slice none 0 0) 53)
 simp only [World.size_alloc] at BB
 have q00 := BB.out.now.2.2.1.cell
 have q01 := BB.out.now.2.2.1.cell1
 have q02 := BB.out.now.2.2.1.cell2
 have q10 := BB.out.now.2.1.cell
 have q11 := BB.out.now.2.1.cell1
 have q12 := BB.out.now.2.1.cell2
 go_enter Tryz.func106, Tryz.ntmps106
 go_wp2_with fail
 have BB := Lib.hid BB.out.drew
 have he : w.heap.size ≠ w.heap.size + 1 + 1 /\ w.heap.size + 1 ≠ w.heap.size + 1 + 1 := by omega
 go_region_held3 (fun y => (y.cell? ⟨w.heap.size, 0, none⟩ = some (.slice a n c) /\ y.cell? ⟨w.heap.size, 1, none⟩ = some (.bool m) /\ y.cell? ⟨w.heap.size, 2, none⟩ = some (.slice a2 n2 c2)) /\ y.cell? ⟨w.heap.size + 1, 0, none⟩ = some (.slice b k l) /\ y.cell? ⟨w.heap.size + 1, 1, none⟩ = some (.bool v) /\ y.cell? ⟨w.heap.size + 1, 2, none⟩ = some (.slice b2 k2 l2))
  (first
    | (exact ⟨⟨z0.cell, z0.cell1, z0.cell2⟩, z1.cell, z1.cell1, z1.cell2⟩)
    | (exact ⟨⟨BB.out.now.2.2.1.cell, BB.out.now.2.2.1.cell1, BB.out.now.2.2.1.cell2⟩, BB.out.now.2.1.cell, BB.out.now.2.1.cell1, BB.out.now.2.1.cell2⟩)
    | (exact (fun B9 : Bag w _ _ => ⟨⟨B9.now.2.2.1.cell, B9.now.2.2.1.cell1, B9.now.2.2.1.cell2⟩, B9.now.2.1.cell, B9.now.2.1.cell1, B9.now.2.1.cell2⟩) (BB.out.alloc _)))
  (first
    | (go_at_call 148; (with_reducible refine (MN.out _ BB.out.now.2.2.2.1).mono ?_); rintro e w8 ⟨x8, xn8, xc8, xm8, y8, yn8, yc8, rfl, hr8, hb8⟩; have BB := Lib.hid (BB.out.go hb8))
    | (go_at_call 25; (with_reducible refine (PL.out _ _ ?_ ?_).mono ?_); exact (BB.out.alloc _).now.2.2.2.2.1; exact RatsAt.old1 (Below.refl _ _) rfl (hr8.below ((Below.refl _ _).alloc (Nat.le_refl _) _)); rintro e w9 ⟨x9, xn9, xc9, xm9, y9, yn9, yc9, rfl, hr9, hb9⟩; have BB := Lib.hid ((BB.out.alloc _).go hb9); have hs := BB.out.now.1; have u0 := hs.cell; have u1 := hs.cell1; have u2 := hs.cell2; have g0 := hs.free; have g1 := hs.free1; have g2 := hs.free2; have HS := hs.set (.slice x9 xn9 xc9) (.bool xm9) (.slice y9 yn9 yc9); have z0 := BB.out.now.2.2.1.set3o he.1 (.slice x9 xn9 xc9) (.bool xm9) (.slice y9 yn9 yc9); have z1 := BB.out.now.2.1.set3o he.2 (.slice x9 xn9 xc9) (.bool xm9) (.slice y9 yn9 yc9); have HE := Lib.hid (RatTold4.done 0 BB.out.below (by omega) hs hr9)))
 go_wp2
 exact bodyPost_ret (v := .tuple #[.agg #[.slice x9 xn9 xc9, .bool xm9, .slice y9 yn9 yc9], .int .i64 0]) (by simp [results, Tryz.results106, go_sem, HS]) rfl HE.out
theorem dcomp_upper (a : Option Addr) (n c : Nat) (m : Bool) (a2 : Option Addr) (n2 c2 : Nat) (P : Int) (Q : Nat) (b : Option Addr) (k l : Nat) (v : Bool) (b2 : Option Addr) (k2 l2 : Nat) (P' : Int) (Q' : Nat) (lm : Int) (w : World) (h : RatAt w a n c m a2 n2 c2 P Q) (g : RatAt w b k l v b2 k2 l2 P' Q') (hQ : 0 < Q) (hQ' : 0 < Q') (K : Nat) (hK : K <= 20000) (h1 : P.natAbs < 4294967296 ^ K) (h2 : Q < 4294967296 ^ K) (h3 : P'.natAbs < 4294967296 ^ K) (h4 : Q' < 4294967296 ^ K) :
    Calls Tryz.prog 106 #[.int .i32 8968, .agg #[.slice a n c, .bool m, .slice a2 n2 c2], .agg #[.slice b k l, .bool v, .slice b2 k2 l2], .int .i64 lm] w fun e w' => RatTold4 w w' e (if cmpZ (P * Q') (P' * Q) < 0 then P' else P) (if cmpZ (P * Q') (P' * Q) < 0 then Q' else Q) 0 := by
 have CN := Lib.hid (fun wz h g => dgreater_any a n c m a2 n2 c2 P Q b k l v b2 k2 l2 P' Q' wz h g hQ hQ' K (by omega) h1 h2 h3 h4)
 generalize (if cmpZ (P * Q') (P' * Q) < 0 then P' else P) = Z1 at *
 generalize (if cmpZ (P * Q') (P' * Q) < 0 then Q' else Q) = Z2 at *
 clear hQ hQ' hK h1 h2 h3 h4
 have BB := Lib.hid ((((((Bag.start w).rat h).rat g).box3 (.slice a n c) (.bool m) (.slice a2 n2 c2) 53).box3 (.slice b k l) (.bool v) (.slice b2 k2 l2) 53).box3 (.slice none 0 0) (.bool false) (.slice none 0 0) 53)
 simp only [World.size_alloc] at BB
 have q00 := BB.out.now.2.2.1.cell
 have q01 := BB.out.now.2.2.1.cell1
 have q02 := BB.out.now.2.2.1.cell2
 have q10 := BB.out.now.2.1.cell
 have q11 := BB.out.now.2.1.cell1
 have q12 := BB.out.now.2.1.cell2
 go_enter Tryz.func106, Tryz.ntmps106
 go_wp2_with fail
 go_at_call 150
 (with_reducible refine (CN.out _ BB.out.now.2.2.2.2.1 BB.out.now.2.2.2.1).mono ?_)
 rintro e w1 ⟨x1, xn1, xc1, xm1, y1, yn1, yc1, rfl, hr1, hb1⟩
 have BB := Lib.hid (BB.out.go hb1)
 clear hb1
 clear q00 q01 q02 q10 q11 q12
 have q00 := BB.out.now.2.2.1.cell
 have q01 := BB.out.now.2.2.1.cell1
 have q02 := BB.out.now.2.2.1.cell2
 have q10 := BB.out.now.2.1.cell
 have q11 := BB.out.now.2.1.cell1
 have q12 := BB.out.now.2.1.cell2
 have hs := BB.out.now.1
 have u0 := hs.cell
 have u1 := hs.cell1
 have u2 := hs.cell2
 have g0 := hs.free
 have g1 := hs.free1
 have g2 := hs.free2
 have HS := hs.set (.slice x1 xn1 xc1) (.bool xm1) (.slice y1 yn1 yc1)
 have HE := Lib.hid (RatTold4.done 0 BB.out.below (by omega) hs hr1)
 clear hs
 go_wp2
 exact bodyPost_ret (v := .tuple #[.agg #[.slice x1 xn1 xc1, .bool xm1, .slice y1 yn1 yc1], .int .i64 0]) (by simp [results, Tryz.results106, go_sem, HS]) rfl HE.out
theorem dcomp_lower (a : Option Addr) (n c : Nat) (m : Bool) (a2 : Option Addr) (n2 c2 : Nat) (P : Int) (Q : Nat) (b : Option Addr) (k l : Nat) (v : Bool) (b2 : Option Addr) (k2 l2 : Nat) (P' : Int) (Q' : Nat) (lm : Int) (w : World) (h : RatAt w a n c m a2 n2 c2 P Q) (g : RatAt w b k l v b2 k2 l2 P' Q') (hQ : 0 < Q) (hQ' : 0 < Q') (K : Nat) (hK : K <= 20000) (h1 : P.natAbs < 4294967296 ^ K) (h2 : Q < 4294967296 ^ K) (h3 : P'.natAbs < 4294967296 ^ K) (h4 : Q' < 4294967296 ^ K) :
    Calls Tryz.prog 106 #[.int .i32 8970, .agg #[.slice a n c, .bool m, .slice a2 n2 c2], .agg #[.slice b k l, .bool v, .slice b2 k2 l2], .int .i64 lm] w fun e w' => RatTold4 w w' e (if 0 < cmpZ (P * Q') (P' * Q) then P' else P) (if 0 < cmpZ (P * Q') (P' * Q) then Q' else Q) 0 := by
 have CN := Lib.hid (fun wz h g => dlesser_any a n c m a2 n2 c2 P Q b k l v b2 k2 l2 P' Q' wz h g hQ hQ' K (by omega) h1 h2 h3 h4)
 generalize (if 0 < cmpZ (P * Q') (P' * Q) then P' else P) = Z1 at *
 generalize (if 0 < cmpZ (P * Q') (P' * Q) then Q' else Q) = Z2 at *
 clear hQ hQ' hK h1 h2 h3 h4
 have BB := Lib.hid ((((((Bag.start w).rat h).rat g).box3 (.slice a n c) (.bool m) (.slice a2 n2 c2) 53).box3 (.slice b k l) (.bool v) (.slice b2 k2 l2) 53).box3 (.slice none 0 0) (.bool false) (.slice none 0 0) 53)
 simp only [World.size_alloc] at BB
 have q00 := BB.out.now.2.2.1.cell
 have q01 := BB.out.now.2.2.1.cell1
 have q02 := BB.out.now.2.2.1.cell2
 have q10 := BB.out.now.2.1.cell
 have q11 := BB.out.now.2.1.cell1
 have q12 := BB.out.now.2.1.cell2
 go_enter Tryz.func106, Tryz.ntmps106
 go_wp2_with fail
 go_at_call 151
 (with_reducible refine (CN.out _ BB.out.now.2.2.2.2.1 BB.out.now.2.2.2.1).mono ?_)
 rintro e w1 ⟨x1, xn1, xc1, xm1, y1, yn1, yc1, rfl, hr1, hb1⟩
 have BB := Lib.hid (BB.out.go hb1)
 clear hb1
 clear q00 q01 q02 q10 q11 q12
 have q00 := BB.out.now.2.2.1.cell
 have q01 := BB.out.now.2.2.1.cell1
 have q02 := BB.out.now.2.2.1.cell2
 have q10 := BB.out.now.2.1.cell
 have q11 := BB.out.now.2.1.cell1
 have q12 := BB.out.now.2.1.cell2
 have hs := BB.out.now.1
 have u0 := hs.cell
 have u1 := hs.cell1
 have u2 := hs.cell2
 have g0 := hs.free
 have g1 := hs.free1
 have g2 := hs.free2
 have HS := hs.set (.slice x1 xn1 xc1) (.bool xm1) (.slice y1 yn1 yc1)
 have HE := Lib.hid (RatTold4.done 0 BB.out.below (by omega) hs hr1)
 clear hs
 go_wp2
 exact bodyPost_ret (v := .tuple #[.agg #[.slice x1 xn1 xc1, .bool xm1, .slice y1 yn1 yc1], .int .i64 0]) (by simp [results, Tryz.results106, go_sem, HS]) rfl HE.out
theorem dcomp_rest (a : Option Addr) (n c : Nat) (m : Bool) (a2 : Option Addr) (n2 c2 : Nat) (P : Int) (Q : Nat) (b : Option Addr) (k l : Nat) (v : Bool) (b2 : Option Addr) (k2 l2 : Nat) (P' : Int) (Q' : Nat) (lm : Int) (w : World) (h : RatAt w a n c m a2 n2 c2 P Q) (g : RatAt w b k l v b2 k2 l2 P' Q') (hQ : 0 < Q) (hQ' : 0 < Q') (K : Nat) (hK : K <= 20000) (h1 : P.natAbs < 4294967296 ^ K) (h2 : Q < 4294967296 ^ K) (h3 : P'.natAbs < 4294967296 ^ K) (h4 : Q' < 4294967296 ^ K) :
    Calls Tryz.prog 106 #[.int .i32 124, .agg #[.slice a n c, .bool m, .slice a2 n2 c2], .agg #[.slice b k l, .bool v, .slice b2 k2 l2], .int .i64 lm] w fun e w' => RatTold4 w w' e (reP P Q P' Q') (reQ P Q P' Q') 0 := by
 have CN := Lib.hid (fun wz h g => rest_any a n c m a2 n2 c2 P Q b k l v b2 k2 l2 P' Q' wz h g hQ hQ' K (by omega) h1 h2 h3 h4)
 generalize (reP P Q P' Q') = Z1 at *
 generalize (reQ P Q P' Q') = Z2 at *
 clear hQ hQ' hK h1 h2 h3 h4
 have BB := Lib.hid ((((((Bag.start w).rat h).rat g).box3 (.slice a n c) (.bool m) (.slice a2 n2 c2) 53).box3 (.slice b k l) (.bool v) (.slice b2 k2 l2) 53).box3 (.slice none 0 0) (.bool false) (.slice none 0 0) 53)
 simp only [World.size_alloc] at BB
 have q00 := BB.out.now.2.2.1.cell
 have q01 := BB.out.now.2.2.1.cell1
 have q02 := BB.out.now.2.2.1.cell2
 have q10 := BB.out.now.2.1.cell
 have q11 := BB.out.now.2.1.cell1
 have q12 := BB.out.now.2.1.cell2
 go_enter Tryz.func106, Tryz.ntmps106
 go_wp2_with fail
 go_at_call 152
 (with_reducible refine (CN.out _ BB.out.now.2.2.2.2.1 BB.out.now.2.2.2.1).mono ?_)
 rintro e w1 ⟨x1, xn1, xc1, xm1, y1, yn1, yc1, rfl, hr1, hb1⟩
 have BB := Lib.hid (BB.out.go hb1)
 clear hb1
 clear q00 q01 q02 q10 q11 q12
 have q00 := BB.out.now.2.2.1.cell
 have q01 := BB.out.now.2.2.1.cell1
 have q02 := BB.out.now.2.2.1.cell2
 have q10 := BB.out.now.2.1.cell
 have q11 := BB.out.now.2.1.cell1
 have q12 := BB.out.now.2.1.cell2
 have hs := BB.out.now.1
 have u0 := hs.cell
 have u1 := hs.cell1
 have u2 := hs.cell2
 have g0 := hs.free
 have g1 := hs.free1
 have g2 := hs.free2
 have HS := hs.set (.slice x1 xn1 xc1) (.bool xm1) (.slice y1 yn1 yc1)
 have HE := Lib.hid (RatTold4.done 0 BB.out.below (by omega) hs hr1)
 clear hs
 go_wp2
 exact bodyPost_ret (v := .tuple #[.agg #[.slice x1 xn1 xc1, .bool xm1, .slice y1 yn1 yc1], .int .i64 0]) (by simp [results, Tryz.results106, go_sem, HS]) rfl HE.out
theorem dcomp_divide (a : Option Addr) (n c : Nat) (m : Bool) (a2 : Option Addr) (n2 c2 : Nat) (P : Int) (Q : Nat) (b : Option Addr) (k l : Nat) (v : Bool) (b2 : Option Addr) (k2 l2 : Nat) (P' : Int) (Q' : Nat) (lm : Int) (w : World) (h : RatAt w a n c m a2 n2 c2 P Q) (g : RatAt w b k l v b2 k2 l2 P' Q') (hQ : 0 < Q) (hQ' : 0 < Q') (K : Nat) (hK : K <= 20000) (h1 : P.natAbs < 4294967296 ^ K) (h2 : Q < 4294967296 ^ K) (h3 : P'.natAbs < 4294967296 ^ K) (h4 : Q' < 4294967296 ^ K) :
    Calls Tryz.prog 106 #[.int .i32 247, .agg #[.slice a n c, .bool m, .slice a2 n2 c2], .agg #[.slice b k l, .bool v, .slice b2 k2 l2], .int .i64 lm] w fun e w' => RatTold4 w w' e (if P' = 0 then (if P = 0 then (1, 1, 0) else (0, 1, 22)) else (nwP (P * Q') (P' * Q), nwQ (P * Q') (P' * Q), 0) : Ans).1 (if P' = 0 then (if P = 0 then (1, 1, 0) else (0, 1, 22)) else (nwP (P * Q') (P' * Q), nwQ (P * Q') (P' * Q), 0) : Ans).2.1 (if P' = 0 then (if P = 0 then (1, 1, 0) else (0, 1, 22)) else (nwP (P * Q') (P' * Q), nwQ (P * Q') (P' * Q), 0) : Ans).2.2 := by
 obtain ⟨TT, hTT⟩ : ∃ z, (if P' = 0 then (if P = 0 then (1, 1, 0) else (0, 1, 22)) else (nwP (P * Q') (P' * Q), nwQ (P * Q') (P' * Q), 0) : Ans) = z := ⟨_, rfl⟩
 have CN := Lib.hid (fun wz h g => dquotient_any a n c m a2 n2 c2 P Q b k l v b2 k2 l2 P' Q' wz h g hQ hQ' K (by omega) h1 h2 h3 h4)
 rw [hTT] at CN ⊢
 unfold RatTold4 at CN
 clear hTT
 generalize TT.1 = Z1 at *
 generalize TT.2.1 = Z2 at *
 generalize TT.2.2 = Z3 at *
 clear hQ hQ' hK h1 h2 h3 h4
 have BB := Lib.hid ((((((Bag.start w).rat h).rat g).box3 (.slice a n c) (.bool m) (.slice a2 n2 c2) 53).box3 (.slice b k l) (.bool v) (.slice b2 k2 l2) 53).box3 (.slice none 0 0) (.bool false) (.slice none 0 0) 53)
 simp only [World.size_alloc] at BB
 have q00 := BB.out.now.2.2.1.cell
 have q01 := BB.out.now.2.2.1.cell1
 have q02 := BB.out.now.2.2.1.cell2
 have q10 := BB.out.now.2.1.cell
 have q11 := BB.out.now.2.1.cell1
 have q12 := BB.out.now.2.1.cell2
 go_enter Tryz.func106, Tryz.ntmps106
 go_wp2_with fail
 go_at_call 149
 (with_reducible refine (CN.out _ BB.out.now.2.2.2.2.1 BB.out.now.2.2.2.1).mono ?_)
 rintro e w1 ⟨x1, xn1, xc1, xm1, y1, yn1, yc1, rfl, hr1, hb1⟩
 have BB := Lib.hid (BB.out.go hb1)
 clear hb1
 clear q00 q01 q02 q10 q11 q12
 have q00 := BB.out.now.2.2.1.cell
 have q01 := BB.out.now.2.2.1.cell1
 have q02 := BB.out.now.2.2.1.cell2
 have q10 := BB.out.now.2.1.cell
 have q11 := BB.out.now.2.1.cell1
 have q12 := BB.out.now.2.1.cell2
 have hs := BB.out.now.1
 have u0 := hs.cell
 have u1 := hs.cell1
 have u2 := hs.cell2
 have g0 := hs.free
 have g1 := hs.free1
 have g2 := hs.free2
 have HS := hs.set (.slice x1 xn1 xc1) (.bool xm1) (.slice y1 yn1 yc1)
 have HE := Lib.hid (RatTold4.done Z3 BB.out.below (by omega) hs hr1)
 clear hs
 go_wp2
 exact bodyPost_ret (v := .tuple #[.agg #[.slice x1 xn1 xc1, .bool xm1, .slice y1 yn1 yc1], .int .i64 Z3]) (by simp [results, Tryz.results106, go_sem, HS]) rfl HE.out
theorem dcomp_power (a : Option Addr) (n c : Nat) (m : Bool) (a2 : Option Addr) (n2 c2 : Nat) (P : Int) (Q : Nat) (b : Option Addr) (k l : Nat) (v : Bool) (b2 : Option Addr) (k2 l2 : Nat) (P' : Int) (Q' : Nat) (lm : Int) (w : World) (h : RatAt w a n c m a2 n2 c2 P Q) (g : RatAt w b k l v b2 k2 l2 P' Q') (hQ : 0 < Q) (hQ' : 0 < Q') (hm : 1 <= lm /\ lm <= 64) (d1 : dl P.natAbs <= 60) (d2 : dl Q <= 60) :
    Calls Tryz.prog 106 #[.int .i32 42, .agg #[.slice a n c, .bool m, .slice a2 n2 c2], .agg #[.slice b k l, .bool v, .slice b2 k2 l2], .int .i64 lm] w fun e w' => RatTold4 w w' e (powT P Q P' Q' lm).1 (powT P Q P' Q' lm).2.1 (powT P Q P' Q' lm).2.2 := by
 obtain ⟨TT, hTT⟩ : ∃ z, (powT P Q P' Q' lm) = z := ⟨_, rfl⟩
 have CN := Lib.hid (fun wz h g => dpower_any a n c m a2 n2 c2 P Q b k l v b2 k2 l2 P' Q' lm wz h g hQ hQ' hm d1 d2)
 rw [hTT] at CN ⊢
 unfold RatTold4 at CN
 clear hTT
 generalize TT.1 = Z1 at *
 generalize TT.2.1 = Z2 at *
 generalize TT.2.2 = Z3 at *
 clear hQ hQ' hm d1 d2
 have BB := Lib.hid ((((((Bag.start w).rat h).rat g).box3 (.slice a n c) (.bool m) (.slice a2 n2 c2) 53).box3 (.slice b k l) (.bool v) (.slice b2 k2 l2) 53).box3 (.slice none 0 0) (.bool false) (.slice none 0 0) 53)
 simp only [World.size_alloc] at BB
 have q00 := BB.out.now.2.2.1.cell
 have q01 := BB.out.now.2.2.1.cell1
 have q02 := BB.out.now.2.2.1.cell2
 have q10 := BB.out.now.2.1.cell
 have q11 := BB.out.now.2.1.cell1
 have q12 := BB.out.now.2.1.cell2
 go_enter Tryz.func106, Tryz.ntmps106
 go_wp2_with fail
 go_at_call 153
 (with_reducible refine (CN.out _ BB.out.now.2.2.2.2.1 BB.out.now.2.2.2.1).mono ?_)
 rintro e w1 ⟨x1, xn1, xc1, xm1, y1, yn1, yc1, rfl, hr1, hb1⟩
 have BB := Lib.hid (BB.out.go hb1)
 clear hb1
 clear q00 q01 q02 q10 q11 q12
 have q00 := BB.out.now.2.2.1.cell
 have q01 := BB.out.now.2.2.1.cell1
 have q02 := BB.out.now.2.2.1.cell2
 have q10 := BB.out.now.2.1.cell
 have q11 := BB.out.now.2.1.cell1
 have q12 := BB.out.now.2.1.cell2
 have hs := BB.out.now.1
 have u0 := hs.cell
 have u1 := hs.cell1
 have u2 := hs.cell2
 have g0 := hs.free
 have g1 := hs.free1
 have g2 := hs.free2
 have HS := hs.set (.slice x1 xn1 xc1) (.bool xm1) (.slice y1 yn1 yc1)
 have HE := Lib.hid (RatTold4.done Z3 BB.out.below (by omega) hs hr1)
 clear hs
 go_wp2
 exact bodyPost_ret (v := .tuple #[.agg #[.slice x1 xn1 xc1, .bool xm1, .slice y1 yn1 yc1], .int .i64 Z3]) (by simp [results, Tryz.results106, go_sem, HS]) rfl HE.out
theorem dcomp_ways (a : Option Addr) (n c : Nat) (m : Bool) (a2 : Option Addr) (n2 c2 : Nat) (P : Int) (Q : Nat) (b : Option Addr) (k l : Nat) (v : Bool) (b2 : Option Addr) (k2 l2 : Nat) (P' : Int) (Q' : Nat) (lm : Int) (w : World) (h : RatAt w a n c m a2 n2 c2 P Q) (g : RatAt w b k l v b2 k2 l2 P' Q') (hQ : 0 < Q) (hQ' : 0 < Q') (K : Nat) (hK : K <= 20000) (h1 : P.natAbs < 4294967296 ^ K) (h2 : Q < 4294967296 ^ K) (h3 : P'.natAbs < 4294967296 ^ K) (h4 : Q' < 4294967296 ^ K) (hm : 1 <= lm /\ lm <= 64) :
    Calls Tryz.prog 106 #[.int .i32 33, .agg #[.slice a n c, .bool m, .slice a2 n2 c2], .agg #[.slice b k l, .bool v, .slice b2 k2 l2], .int .i64 lm] w fun e w' => ∃ t : Ans, RatTold4 w w' e t.1 t.2.1 t.2.2 /\ Good3 lm t (waysT P Q P' Q' lm) := by
 have CN := Lib.hid (fun wz h g => dchoices_any a n c m a2 n2 c2 P Q b k l v b2 k2 l2 P' Q' lm wz h g hQ hQ' K (by omega) h1 h2 h3 h4 hm)
 obtain ⟨WT, hWT⟩ : ∃ z, waysT P Q P' Q' lm = z := ⟨_, rfl⟩
 rw [hWT] at CN ⊢
 unfold RatTold4 at CN
 clear hWT
 clear hQ hQ' hK h1 h2 h3 h4 hm
 have BB := Lib.hid ((((((Bag.start w).rat h).rat g).box3 (.slice a n c) (.bool m) (.slice a2 n2 c2) 53).box3 (.slice b k l) (.bool v) (.slice b2 k2 l2) 53).box3 (.slice none 0 0) (.bool false) (.slice none 0 0) 53)
 simp only [World.size_alloc] at BB
 have q00 := BB.out.now.2.2.1.cell
 have q01 := BB.out.now.2.2.1.cell1
 have q02 := BB.out.now.2.2.1.cell2
 have q10 := BB.out.now.2.1.cell
 have q11 := BB.out.now.2.1.cell1
 have q12 := BB.out.now.2.1.cell2
 go_enter Tryz.func106, Tryz.ntmps106
 go_wp2_with fail
 go_at_call 154
 (with_reducible refine (CN.out _ BB.out.now.2.2.2.2.1 BB.out.now.2.2.2.1).mono ?_)
 rintro e w1 ⟨⟨Z1, Z2, Z3⟩, ⟨x1, xn1, xc1, xm1, y1, yn1, yc1, rfl, hr1, hb1⟩, hg1⟩
 have BB := Lib.hid (BB.out.go hb1)
 clear hb1
 have HG := Lib.hid hg1
 clear hg1
 clear q00 q01 q02 q10 q11 q12
 have q00 := BB.out.now.2.2.1.cell
 have q01 := BB.out.now.2.2.1.cell1
 have q02 := BB.out.now.2.2.1.cell2
 have q10 := BB.out.now.2.1.cell
 have q11 := BB.out.now.2.1.cell1
 have q12 := BB.out.now.2.1.cell2
 have hs := BB.out.now.1
 have u0 := hs.cell
 have u1 := hs.cell1
 have u2 := hs.cell2
 have g0 := hs.free
 have g1 := hs.free1
 have g2 := hs.free2
 have HS := hs.set (.slice x1 xn1 xc1) (.bool xm1) (.slice y1 yn1 yc1)
 have HE := Lib.hid (RatTold4.done Z3 BB.out.below (by omega) hs hr1)
 clear hs
 go_wp2
 exact bodyPost_ret (v := .tuple #[.agg #[.slice x1 xn1 xc1, .bool xm1, .slice y1 yn1 yc1], .int .i64 Z3]) (by simp [results, Tryz.results106, go_sem, HS]) rfl ⟨(Z1, Z2, Z3), HE.out, HG.out⟩
theorem dcomp_no9055 (a : Option Addr) (n c : Nat) (m : Bool) (a2 : Option Addr) (n2 c2 : Nat) (P : Int) (Q : Nat) (b : Option Addr) (k l : Nat) (v : Bool) (b2 : Option Addr) (k2 l2 : Nat) (P' : Int) (Q' : Nat) (lm : Int) (w : World) (h : RatAt w a n c m a2 n2 c2 P Q) (g : RatAt w b k l v b2 k2 l2 P' Q') (hQ : 0 < Q) (hQ' : 0 < Q') (K : Nat) (hK : K <= 20000) (h1 : P.natAbs < 4294967296 ^ K) (h2 : Q < 4294967296 ^ K) (h3 : P'.natAbs < 4294967296 ^ K) (h4 : Q' < 4294967296 ^ K) :
    Calls Tryz.prog 106 #[.int .i32 9055, .agg #[.slice a n c, .bool m, .slice a2 n2 c2], .agg #[.slice b k l, .bool v, .slice b2 k2 l2], .int .i64 lm] w fun e w' => RatTold4 w w' e 0 1 22 := by
 clear hQ hQ' hK h1 h2 h3 h4
 have BB := Lib.hid ((((((Bag.start w).rat h).rat g).box3 (.slice a n c) (.bool m) (.slice a2 n2 c2) 53).box3 (.slice b k l) (.bool v) (.slice b2 k2 l2) 53).box3 (.slice none 0 0) (.bool false) (.slice none 0 0) 53)
 simp only [World.size_alloc] at BB
 have q00 := BB.out.now.2.2.1.cell
 have q01 := BB.out.now.2.2.1.cell1
 have q02 := BB.out.now.2.2.1.cell2
 have q10 := BB.out.now.2.1.cell
 have q11 := BB.out.now.2.1.cell1
 have q12 := BB.out.now.2.1.cell2
 go_enter Tryz.func106, Tryz.ntmps106
 have hz0 := BB.out.below
 have HE : Hid (RatTold4 w _ (.returned (.tuple #[.agg #[.slice none 0 0, .bool false, .slice none 0 0], .int .i64 22])) _ _ 22) := Lib.hid ⟨_, _, _, _, _, _, _, rfl, (RatAt.zero _), hz0⟩
 clear hz0
 have hs := BB.out.now.1
 have u0 := hs.cell
 have u1 := hs.cell1
 have u2 := hs.cell2
 have g0 := hs.free
 have g1 := hs.free1
 have g2 := hs.free2
 clear hs
 go_wp2
 exact bodyPost_ret (v := .tuple #[.agg #[.slice none 0 0, .bool false, .slice none 0 0], .int .i64 22]) (by simp [results, Tryz.results106, go_sem]) rfl HE.out
theorem dcomp_no9675 (a : Option Addr) (n c : Nat) (m : Bool) (a2 : Option Addr) (n2 c2 : Nat) (P : Int) (Q : Nat) (b : Option Addr) (k l : Nat) (v : Bool) (b2 : Option Addr) (k2 l2 : Nat) (P' : Int) (Q' : Nat) (lm : Int) (w : World) (h : RatAt w a n c m a2 n2 c2 P Q) (g : RatAt w b k l v b2 k2 l2 P' Q') (hQ : 0 < Q) (hQ' : 0 < Q') (K : Nat) (hK : K <= 20000) (h1 : P.natAbs < 4294967296 ^ K) (h2 : Q < 4294967296 ^ K) (h3 : P'.natAbs < 4294967296 ^ K) (h4 : Q' < 4294967296 ^ K) :
    Calls Tryz.prog 106 #[.int .i32 9675, .agg #[.slice a n c, .bool m, .slice a2 n2 c2], .agg #[.slice b k l, .bool v, .slice b2 k2 l2], .int .i64 lm] w fun e w' => RatTold4 w w' e 0 1 22 := by
 clear hQ hQ' hK h1 h2 h3 h4
 have BB := Lib.hid ((((((Bag.start w).rat h).rat g).box3 (.slice a n c) (.bool m) (.slice a2 n2 c2) 53).box3 (.slice b k l) (.bool v) (.slice b2 k2 l2) 53).box3 (.slice none 0 0) (.bool false) (.slice none 0 0) 53)
 simp only [World.size_alloc] at BB
 have q00 := BB.out.now.2.2.1.cell
 have q01 := BB.out.now.2.2.1.cell1
 have q02 := BB.out.now.2.2.1.cell2
 have q10 := BB.out.now.2.1.cell
 have q11 := BB.out.now.2.1.cell1
 have q12 := BB.out.now.2.1.cell2
 go_enter Tryz.func106, Tryz.ntmps106
 have hz0 := BB.out.below
 have HE : Hid (RatTold4 w _ (.returned (.tuple #[.agg #[.slice none 0 0, .bool false, .slice none 0 0], .int .i64 22])) _ _ 22) := Lib.hid ⟨_, _, _, _, _, _, _, rfl, (RatAt.zero _), hz0⟩
 clear hz0
 have hs := BB.out.now.1
 have u0 := hs.cell
 have u1 := hs.cell1
 have u2 := hs.cell2
 have g0 := hs.free
 have g1 := hs.free1
 have g2 := hs.free2
 clear hs
 go_wp2
 exact bodyPost_ret (v := .tuple #[.agg #[.slice none 0 0, .bool false, .slice none 0 0], .int .i64 22]) (by simp [results, Tryz.results106, go_sem]) rfl HE.out
theorem numT_43 (P : Int) (Q : Nat) (P' : Int) (Q' : Nat) (l : Int) : numT 43 P Q P' Q' l = (plP P Q P' Q', plQ P Q P' Q', 0) := by unfold numT; simp
theorem numT_45 (P : Int) (Q : Nat) (P' : Int) (Q' : Nat) (l : Int) : numT 45 P Q P' Q' l = (plP P Q (-P') Q', plQ P Q (-P') Q', 0) := by unfold numT; simp
theorem numT_215 (P : Int) (Q : Nat) (P' : Int) (Q' : Nat) (l : Int) : numT 215 P Q P' Q' l = (tmP P Q P' Q', tmQ P Q P' Q', 0) := by unfold numT; simp
theorem numT_247 (P : Int) (Q : Nat) (P' : Int) (Q' : Nat) (l : Int) : numT 247 P Q P' Q' l = (if P' = 0 then (if P = 0 then (1, 1, 0) else (0, 1, 22)) else (nwP (P * Q') (P' * Q), nwQ (P * Q') (P' * Q), 0) : Ans) := by unfold numT; simp
theorem numT_8968 (P : Int) (Q : Nat) (P' : Int) (Q' : Nat) (l : Int) : numT 8968 P Q P' Q' l = (if cmpZ (P * Q') (P' * Q) < 0 then (P', Q', 0) else (P, Q, 0) : Ans) := by unfold numT; simp
theorem numT_8970 (P : Int) (Q : Nat) (P' : Int) (Q' : Nat) (l : Int) : numT 8970 P Q P' Q' l = (if 0 < cmpZ (P * Q') (P' * Q) then (P', Q', 0) else (P, Q, 0) : Ans) := by unfold numT; simp
theorem numT_124 (P : Int) (Q : Nat) (P' : Int) (Q' : Nat) (l : Int) : numT 124 P Q P' Q' l = (reP P Q P' Q', reQ P Q P' Q', 0) := by unfold numT; simp
theorem numT_42 (P : Int) (Q : Nat) (P' : Int) (Q' : Nat) (l : Int) : numT 42 P Q P' Q' l = powT P Q P' Q' l := by unfold numT; simp
theorem numT_33 (P : Int) (Q : Nat) (P' : Int) (Q' : Nat) (l : Int) : numT 33 P Q P' Q' l = waysT P Q P' Q' l := by unfold numT; simp
theorem numT_9055 (P : Int) (Q : Nat) (P' : Int) (Q' : Nat) (l : Int) : numT 9055 P Q P' Q' l = (0, 1, 22) := by unfold numT; simp
theorem numT_9675 (P : Int) (Q : Nat) (P' : Int) (Q' : Nat) (l : Int) : numT 9675 P Q P' Q' l = (0, 1, 22) := by unfold numT; simp
theorem dcomputed_any (c0 : Int) (a : Option Addr) (n c : Nat) (m : Bool) (a2 : Option Addr) (n2 c2 : Nat) (P : Int) (Q : Nat) (b : Option Addr) (k l : Nat) (v : Bool) (b2 : Option Addr) (k2 l2 : Nat) (P' : Int) (Q' : Nat) (lm : Int) (w : World) (h : RatAt w a n c m a2 n2 c2 P Q) (g : RatAt w b k l v b2 k2 l2 P' Q') (hQ : 0 < Q) (hQ' : 0 < Q') (K : Nat) (hK : K <= 20000) (h1 : P.natAbs < 4294967296 ^ K) (h2 : Q < 4294967296 ^ K) (h3 : P'.natAbs < 4294967296 ^ K) (h4 : Q' < 4294967296 ^ K) (hm : 1 <= lm /\ lm <= 64) (hd : c0 = 42 -> dl P.natAbs <= 60 /\ dl Q <= 60) (hc : numK c0 = true) :
    Calls Tryz.prog 106 #[.int .i32 c0, .agg #[.slice a n c, .bool m, .slice a2 n2 c2], .agg #[.slice b k l, .bool v, .slice b2 k2 l2], .int .i64 lm] w fun e w' => ∃ t : Ans, RatTold4 w w' e t.1 t.2.1 t.2.2 /\ Good3 lm t (numT c0 P Q P' Q' lm) := by
 have hp := numT_pos c0 (P := P) (P' := P') lm hQ hQ'
 have same : ∀ {c9 : Int} {t : Ans}, numT c9 P Q P' Q' lm = t -> 0 < (numT c9 P Q P' Q' lm).2.1 -> Calls Tryz.prog 106 #[.int .i32 c9, .agg #[.slice a n c, .bool m, .slice a2 n2 c2], .agg #[.slice b k l, .bool v, .slice b2 k2 l2], .int .i64 lm] w (fun e w' => RatTold4 w w' e t.1 t.2.1 t.2.2) -> Calls Tryz.prog 106 #[.int .i32 c9, .agg #[.slice a n c, .bool m, .slice a2 n2 c2], .agg #[.slice b k l, .bool v, .slice b2 k2 l2], .int .i64 lm] w (fun e w' => ∃ t : Ans, RatTold4 w w' e t.1 t.2.1 t.2.2 /\ Good3 lm t (numT c9 P Q P' Q' lm)) := fun e hp h => h.mono (fun _ _ q => ⟨_, q, by rw [← e]; exact ⟨hp, rfl⟩⟩)
 rcases of_decide_eq_true hc with rfl | rfl | rfl | rfl | rfl | rfl | rfl | rfl | rfl | rfl | rfl
 · exact same (numT_43 _ _ _ _ _) hp (dcomp_plus a n c m a2 n2 c2 P Q b k l v b2 k2 l2 P' Q' lm w h g hQ hQ' K hK h1 h2 h3 h4)
 · exact same (numT_45 _ _ _ _ _) hp (dcomp_minus a n c m a2 n2 c2 P Q b k l v b2 k2 l2 P' Q' lm w h g hQ hQ' K hK h1 h2 h3 h4)
 · exact same (numT_215 _ _ _ _ _) hp (dcomp_times a n c m a2 n2 c2 P Q b k l v b2 k2 l2 P' Q' lm w h g hQ hQ' K hK h1 h2 h3 h4)
 · exact same (numT_247 _ _ _ _ _) hp (dcomp_divide a n c m a2 n2 c2 P Q b k l v b2 k2 l2 P' Q' lm w h g hQ hQ' K hK h1 h2 h3 h4)
 · refine same (t := (if cmpZ (P * Q') (P' * Q) < 0 then P' else P, if cmpZ (P * Q') (P' * Q) < 0 then Q' else Q, 0)) ?_ hp (dcomp_upper a n c m a2 n2 c2 P Q b k l v b2 k2 l2 P' Q' lm w h g hQ hQ' K hK h1 h2 h3 h4)
   rw [numT_8968]
   split <;> rfl
 · refine same (t := (if 0 < cmpZ (P * Q') (P' * Q) then P' else P, if 0 < cmpZ (P * Q') (P' * Q) then Q' else Q, 0)) ?_ hp (dcomp_lower a n c m a2 n2 c2 P Q b k l v b2 k2 l2 P' Q' lm w h g hQ hQ' K hK h1 h2 h3 h4)
   rw [numT_8970]
   split <;> rfl
 · exact same (numT_124 _ _ _ _ _) hp (dcomp_rest a n c m a2 n2 c2 P Q b k l v b2 k2 l2 P' Q' lm w h g hQ hQ' K hK h1 h2 h3 h4)
 · exact same (numT_42 _ _ _ _ _) hp (dcomp_power a n c m a2 n2 c2 P Q b k l v b2 k2 l2 P' Q' lm w h g hQ hQ' hm (hd rfl).1 (hd rfl).2)
 · have := dcomp_ways a n c m a2 n2 c2 P Q b k l v b2 k2 l2 P' Q' lm w h g hQ hQ' K hK h1 h2 h3 h4 hm
   rw [numT_33]
   exact this
 · exact same (numT_9055 _ _ _ _ _) hp (dcomp_no9055 a n c m a2 n2 c2 P Q b k l v b2 k2 l2 P' Q' lm w h g hQ hQ' K hK h1 h2 h3 h4)
 · exact same (numT_9675 _ _ _ _ _) hp (dcomp_no9675 a n c m a2 n2 c2 P Q b k l v b2 k2 l2 P' Q' lm w h g hQ hQ' K hK h1 h2 h3 h4)
theorem dlimited_any (c0 : Int) (a : Option Addr) (n c : Nat) (m : Bool) (a2 : Option Addr) (n2 c2 : Nat) (P : Int) (Q : Nat) (b : Option Addr) (k l : Nat) (v : Bool) (b2 : Option Addr) (k2 l2 : Nat) (P' : Int) (Q' : Nat) (lm : Int) (w : World) (h : RatAt w a n c m a2 n2 c2 P Q) (g : RatAt w b k l v b2 k2 l2 P' Q') (hQ : 0 < Q) (hQ' : 0 < Q') (K : Nat) (hK : K <= 20000) (h1 : P.natAbs < 4294967296 ^ K) (h2 : Q < 4294967296 ^ K) (h3 : P'.natAbs < 4294967296 ^ K) (h4 : Q' < 4294967296 ^ K) (hm : 1 <= lm /\ lm <= 64) (hd : c0 = 42 -> dl P.natAbs <= 60 /\ dl Q <= 60) (hc : numK c0 = true) :
    Calls Tryz.prog 58 #[.int .i32 c0, .agg #[.slice a n c, .bool m, .slice a2 n2 c2], .agg #[.slice b k l, .bool v, .slice b2 k2 l2], .int .i64 lm] w fun e w' => RatTold4 w w' e (lim3 lm (numT c0 P Q P' Q' lm)).1 (lim3 lm (numT c0 P Q P' Q' lm)).2.1 (lim3 lm (numT c0 P Q P' Q' lm)).2.2 := by
 have CN := Lib.hid (fun wz h g => dcomputed_any c0 a n c m a2 n2 c2 P Q b k l v b2 k2 l2 P' Q' lm wz h g hQ hQ' K (by omega) h1 h2 h3 h4 hm hd hc)
 unfold Good3 RatTold4 at CN
 obtain ⟨NT, hNT⟩ : ∃ z, (lim3 lm (numT c0 P Q P' Q' lm)) = z := ⟨_, rfl⟩
 rw [hNT] at CN ⊢
 have hmin : min lm 64 = lm := by omega
 clear hQ hQ' hK h1 h2 h3 h4 hm hd hc hNT
 have BB := Lib.hid ((((((Bag.start w).rat h).rat g).box3 (.slice a n c) (.bool m) (.slice a2 n2 c2) 53).box3 (.slice b k l) (.bool v) (.slice b2 k2 l2) 53).box3 (.slice none 0 0) (.bool false) (.slice none 0 0) 53)
 simp only [World.size_alloc] at BB
 have q00 := BB.out.now.2.2.1.cell
 have q01 := BB.out.now.2.2.1.cell1
 have q02 := BB.out.now.2.2.1.cell2
 have q10 := BB.out.now.2.1.cell
 have q11 := BB.out.now.2.1.cell1
 have q12 := BB.out.now.2.1.cell2
 go_enter Tryz.func58, Tryz.ntmps58
 go_wp2_with fail
 go_at_call 106
 (with_reducible refine (CN.out _ BB.out.now.2.2.2.2.1 BB.out.now.2.2.2.1).mono ?_)
 rintro e w1 ⟨⟨Z1, Z2, Z3⟩, ⟨x1, xn1, xc1, xm1, y1, yn1, yc1, rfl, hr1, hb1⟩, hq, he⟩
 have BB := Lib.hid (((BB.out.go hb1).rat hr1).box3 (.slice x1 xn1 xc1) (.bool xm1) (.slice y1 yn1 yc1) 53)
 clear hb1
 clear hr1
 clear q00 q01 q02 q10 q11 q12
 have q00 := BB.out.now.2.2.2.2.1.cell
 have q01 := BB.out.now.2.2.2.2.1.cell1
 have q02 := BB.out.now.2.2.2.2.1.cell2
 have q10 := BB.out.now.2.2.2.1.cell
 have q11 := BB.out.now.2.2.2.1.cell1
 have q12 := BB.out.now.2.2.2.1.cell2
 have q20 := BB.out.now.1.cell
 have q21 := BB.out.now.1.cell1
 have q22 := BB.out.now.1.cell2
 by_cases h0 : Z3 ≠ 0
 · have e0 := lim3_no (l := lm) (p := Z1) (q := Z2) h0
   have dE : (Z3 != 0) = true := bne_iff_ne.2 h0
   rw [e0] at he
   subst he
   clear e0 h0 hq
   have hs := BB.out.now.2.2.1
   have u0 := hs.cell
   have u1 := hs.cell1
   have u2 := hs.cell2
   have g0 := hs.free
   have g1 := hs.free1
   have g2 := hs.free2
   have HS := hs.set (.slice none 0 0) (.bool false) (.slice none 0 0)
   have HE := Lib.hid (RatTold4.done Z3 BB.out.below (by omega) hs (RatAt.zero _))
   clear hs
   go_wp2
   exact bodyPost_ret (v := .tuple #[.agg #[.slice none 0 0, .bool false, .slice none 0 0], .int .i64 Z3]) (by simp [results, Tryz.results58, go_sem, HS]) rfl HE.out
 · have h0 : Z3 = 0 := by omega
   subst h0
   rw [lim3_yes] at he
   have LM := Lib.hid (fun wz h => ratLimbs_any x1 xn1 xc1 xm1 y1 yn1 yc1 Z1 Z2 wz h hq)
   have LM : Hid (∀ wz, RatAt wz x1 xn1 xc1 xm1 y1 yn1 yc1 Z1 Z2 -> Calls Tryz.prog 107 #[.agg #[.slice x1 xn1 xc1, .bool xm1, .slice y1 yn1 yc1]] wz fun e w' => e = .returned (.int .i64 (limZ Z1 Z2)) /\ Below wz.heap.size wz w') := LM
   obtain ⟨LZ, hLZ⟩ : ∃ z, limZ Z1 Z2 = z := ⟨_, rfl⟩
   rw [hLZ] at LM he
   clear hLZ hq
   by_cases hl : lm < LZ
   · rw [if_pos hl] at he
     subst he
     have dL : decide (lm < LZ) = true := decide_eq_true hl
     clear hl
     go_wp2_with fail
     go_at_call 107
     (with_reducible refine (LM.out _ BB.out.now.2.1).mono ?_)
     rintro e w2 ⟨rfl, hb2⟩
     have BB := Lib.hid (BB.out.go hb2)
     clear hb2
     clear q00 q01 q02 q10 q11 q12 q20 q21 q22
     have q00 := BB.out.now.2.2.2.2.1.cell
     have q01 := BB.out.now.2.2.2.2.1.cell1
     have q02 := BB.out.now.2.2.2.2.1.cell2
     have q10 := BB.out.now.2.2.2.1.cell
     have q11 := BB.out.now.2.2.2.1.cell1
     have q12 := BB.out.now.2.2.2.1.cell2
     have q20 := BB.out.now.1.cell
     have q21 := BB.out.now.1.cell1
     have q22 := BB.out.now.1.cell2
     have hs := BB.out.now.2.2.1
     have u0 := hs.cell
     have u1 := hs.cell1
     have u2 := hs.cell2
     have g0 := hs.free
     have g1 := hs.free1
     have g2 := hs.free2
     have HS := hs.set (.slice none 0 0) (.bool false) (.slice none 0 0)
     have HE := Lib.hid (RatTold4.done 26 BB.out.below (by omega) hs (RatAt.zero _))
     clear hs
     go_wp2
     exact bodyPost_ret (v := .tuple #[.agg #[.slice none 0 0, .bool false, .slice none 0 0], .int .i64 26]) (by simp [results, Tryz.results58, go_sem, HS]) rfl HE.out
   · rw [if_neg hl] at he
     subst he
     have dL : decide (lm < LZ) = false := decide_eq_false hl
     clear hl
     go_wp2_with fail
     go_at_call 107
     (with_reducible refine (LM.out _ BB.out.now.2.1).mono ?_)
     rintro e w2 ⟨rfl, hb2⟩
     have BB := Lib.hid (BB.out.go hb2)
     clear hb2
     clear q00 q01 q02 q10 q11 q12 q20 q21 q22
     have q00 := BB.out.now.2.2.2.2.1.cell
     have q01 := BB.out.now.2.2.2.2.1.cell1
     have q02 := BB.out.now.2.2.2.2.1.cell2
     have q10 := BB.out.now.2.2.2.1.cell
     have q11 := BB.out.now.2.2.2.1.cell1
     have q12 := BB.out.now.2.2.2.1.cell2
     have q20 := BB.out.now.1.cell
     have q21 := BB.out.now.1.cell1
     have q22 := BB.out.now.1.cell2
     have hs := BB.out.now.2.2.1
     have u0 := hs.cell
     have u1 := hs.cell1
     have u2 := hs.cell2
     have g0 := hs.free
     have g1 := hs.free1
     have g2 := hs.free2
     have HS := hs.set (.slice x1 xn1 xc1) (.bool xm1) (.slice y1 yn1 yc1)
     have HE := Lib.hid (RatTold4.done 0 BB.out.below (by omega) hs BB.out.now.2.1)
     clear hs
     go_wp2
     exact bodyPost_ret (v := .tuple #[.agg #[.slice x1 xn1 xc1, .bool xm1, .slice y1 yn1 yc1], .int .i64 0]) (by simp [results, Tryz.results58, go_sem, HS]) rfl HE.out
theorem dtwo_any (c0 : Int) (a : Option Addr) (n c : Nat) (m : Bool) (a2 : Option Addr) (n2 c2 : Nat) (P : Int) (Q : Nat) (b : Option Addr) (k l : Nat) (v : Bool) (b2 : Option Addr) (k2 l2 : Nat) (P' : Int) (Q' : Nat) (lm : Int) (w : World) (h : RatAt w a n c m a2 n2 c2 P Q) (g : RatAt w b k l v b2 k2 l2 P' Q') (hQ : 0 < Q) (hQ' : 0 < Q') (K : Nat) (hK : K <= 20000) (h1 : P.natAbs < 4294967296 ^ K) (h2 : Q < 4294967296 ^ K) (h3 : P'.natAbs < 4294967296 ^ K) (h4 : Q' < 4294967296 ^ K) (hm : 1 <= lm /\ lm <= 64) (hd : c0 = 42 -> dl P.natAbs <= 60 /\ dl Q <= 60) :
    Calls Tryz.prog 17 #[.int .i32 c0, .agg #[.slice a n c, .bool m, .slice a2 n2 c2], .agg #[.slice b k l, .bool v, .slice b2 k2 l2], .int .i64 lm] w fun e w' => RatTold4 w w' e (twoT c0 P Q P' Q' lm).1 (twoT c0 P Q P' Q' lm).2.1 (twoT c0 P Q P' Q' lm).2.2 := by
 have KI := Lib.hid (fun wz => dkind_any c0 wz)
 cases h1c : cmpK c0 with
 | true =>
  have ek : kindZ c0 = 1 := by unfold kindZ; rw [h1c]; rfl
  have et : (twoT c0 P Q P' Q' lm) = (b1 (cmpB c0 (cmpZ (P * Q') (P' * Q))), 1, 0) := by unfold twoT; rw [h1c]; rfl
  rw [ek] at KI
  rw [et]
  have CM := Lib.hid (fun wz h g => ratCmp_any a n c m a2 n2 c2 P Q b k l v b2 k2 l2 P' Q' wz h g hQ hQ' K (by omega) h1 h2 h3 h4)
  obtain ⟨CZ, hCZ⟩ : ∃ z, cmpZ (P * Q') (P' * Q) = z := ⟨_, rfl⟩
  rw [hCZ] at CM ⊢
  have CP := Lib.hid (fun wz => dcompare_any c0 CZ wz)
  obtain ⟨CB, hCB⟩ : ∃ z, cmpB c0 CZ = z := ⟨_, rfl⟩
  rw [hCB] at CP ⊢
  have TR := Lib.hid (fun wz => dtruth_any CB wz)
  generalize b1 CB = Z1 at *
  clear hQ hQ' hK h1 h2 h3 h4 hm hd h1c ek et hCZ hCB
  have BB := Lib.hid ((((((Bag.start w).rat h).rat g).box3 (.slice a n c) (.bool m) (.slice a2 n2 c2) 53).box3 (.slice b k l) (.bool v) (.slice b2 k2 l2) 53).box3 (.slice none 0 0) (.bool false) (.slice none 0 0) 53)
  simp only [World.size_alloc] at BB
  have q00 := BB.out.now.2.2.1.cell
  have q01 := BB.out.now.2.2.1.cell1
  have q02 := BB.out.now.2.2.1.cell2
  have q10 := BB.out.now.2.1.cell
  have q11 := BB.out.now.2.1.cell1
  have q12 := BB.out.now.2.1.cell2
  go_enter Tryz.func17, Tryz.ntmps17
  go_wp2_with fail
  go_at_call 55
  (with_reducible refine (KI.out _).mono ?_)
  rintro e w1 ⟨rfl, hb1⟩
  have BB := Lib.hid (BB.out.go hb1)
  clear hb1
  clear q00 q01 q02 q10 q11 q12
  have q00 := BB.out.now.2.2.1.cell
  have q01 := BB.out.now.2.2.1.cell1
  have q02 := BB.out.now.2.2.1.cell2
  have q10 := BB.out.now.2.1.cell
  have q11 := BB.out.now.2.1.cell1
  have q12 := BB.out.now.2.1.cell2
  go_wp2_with fail
  go_at_call 24
  (with_reducible refine (CM.out _ BB.out.now.2.2.2.2.1 BB.out.now.2.2.2.1).mono ?_)
  rintro e w2 ⟨rfl, hb2⟩
  have BB := Lib.hid (BB.out.go hb2)
  clear hb2
  clear q00 q01 q02 q10 q11 q12
  have q00 := BB.out.now.2.2.1.cell
  have q01 := BB.out.now.2.2.1.cell1
  have q02 := BB.out.now.2.2.1.cell2
  have q10 := BB.out.now.2.1.cell
  have q11 := BB.out.now.2.1.cell1
  have q12 := BB.out.now.2.1.cell2
  go_wp2_with fail
  go_at_call 22
  (with_reducible refine (CP.out _).mono ?_)
  rintro e w3 ⟨rfl, hb3⟩
  have BB := Lib.hid (BB.out.go hb3)
  clear hb3
  clear q00 q01 q02 q10 q11 q12
  have q00 := BB.out.now.2.2.1.cell
  have q01 := BB.out.now.2.2.1.cell1
  have q02 := BB.out.now.2.2.1.cell2
  have q10 := BB.out.now.2.1.cell
  have q11 := BB.out.now.2.1.cell1
  have q12 := BB.out.now.2.1.cell2
  go_wp2_with fail
  go_at_call 56
  (with_reducible refine (TR.out _).mono ?_)
  rintro e w4 ⟨x4, xn4, xc4, xm4, y4, yn4, yc4, rfl, hr4, hb4⟩
  have BB := Lib.hid (BB.out.go hb4)
  clear hb4
  clear q00 q01 q02 q10 q11 q12
  have q00 := BB.out.now.2.2.1.cell
  have q01 := BB.out.now.2.2.1.cell1
  have q02 := BB.out.now.2.2.1.cell2
  have q10 := BB.out.now.2.1.cell
  have q11 := BB.out.now.2.1.cell1
  have q12 := BB.out.now.2.1.cell2
  have hs := BB.out.now.1
  have u0 := hs.cell
  have u1 := hs.cell1
  have u2 := hs.cell2
  have g0 := hs.free
  have g1 := hs.free1
  have g2 := hs.free2
  have HS := hs.set (.slice x4 xn4 xc4) (.bool xm4) (.slice y4 yn4 yc4)
  have HE := Lib.hid (RatTold4.done 0 BB.out.below (by omega) hs hr4)
  clear hs
  go_wp2
  exact bodyPost_ret (v := .tuple #[.agg #[.slice x4 xn4 xc4, .bool xm4, .slice y4 yn4 yc4], .int .i64 0]) (by simp [results, Tryz.results17, go_sem, HS]) rfl HE.out
 | false =>
  cases h2c : logK c0 with
  | true =>
   have ek : kindZ c0 = 2 := by unfold kindZ; rw [h1c, h2c]; rfl
   have et : (twoT c0 P Q P' Q' lm) = (if truB P Q && truB P' Q' then (b1 (logB c0 P P'), 1, 0) else (0, 1, 22) : Ans) := by unfold twoT; rw [h1c, h2c]; rfl
   rw [ek] at KI
   have JN := Lib.hid (fun wz h g => djoined_any a n c m a2 n2 c2 P Q b k l v b2 k2 l2 P' Q' c0 wz h g hQ hQ' h2c)
   rw [← et] at JN
   obtain ⟨TT, hTT⟩ : ∃ z, (twoT c0 P Q P' Q' lm) = z := ⟨_, rfl⟩
   rw [hTT] at JN ⊢
   unfold RatTold4 at JN
   obtain ⟨Z1, Z2, Z3⟩ := TT
   clear hQ hQ' hK h1 h2 h3 h4 hm hd h1c h2c ek et hTT
   show Calls _ _ _ _ (fun e w' => RatTold4 w w' e Z1 Z2 Z3)
   have BB := Lib.hid ((((((Bag.start w).rat h).rat g).box3 (.slice a n c) (.bool m) (.slice a2 n2 c2) 53).box3 (.slice b k l) (.bool v) (.slice b2 k2 l2) 53).box3 (.slice none 0 0) (.bool false) (.slice none 0 0) 53)
   simp only [World.size_alloc] at BB
   have q00 := BB.out.now.2.2.1.cell
   have q01 := BB.out.now.2.2.1.cell1
   have q02 := BB.out.now.2.2.1.cell2
   have q10 := BB.out.now.2.1.cell
   have q11 := BB.out.now.2.1.cell1
   have q12 := BB.out.now.2.1.cell2
   go_enter Tryz.func17, Tryz.ntmps17
   go_wp2_with fail
   go_at_call 55
   (with_reducible refine (KI.out _).mono ?_)
   rintro e w1 ⟨rfl, hb1⟩
   have BB := Lib.hid (BB.out.go hb1)
   clear hb1
   clear q00 q01 q02 q10 q11 q12
   have q00 := BB.out.now.2.2.1.cell
   have q01 := BB.out.now.2.2.1.cell1
   have q02 := BB.out.now.2.2.1.cell2
   have q10 := BB.out.now.2.1.cell
   have q11 := BB.out.now.2.1.cell1
   have q12 := BB.out.now.2.1.cell2
   go_wp2_with fail
   go_at_call 57
   (with_reducible refine (JN.out _ BB.out.now.2.2.2.2.1 BB.out.now.2.2.2.1).mono ?_)
   rintro e w2 ⟨x2, xn2, xc2, xm2, y2, yn2, yc2, rfl, hr2, hb2⟩
   have BB := Lib.hid (BB.out.go hb2)
   clear hb2
   clear q00 q01 q02 q10 q11 q12
   have q00 := BB.out.now.2.2.1.cell
   have q01 := BB.out.now.2.2.1.cell1
   have q02 := BB.out.now.2.2.1.cell2
   have q10 := BB.out.now.2.1.cell
   have q11 := BB.out.now.2.1.cell1
   have q12 := BB.out.now.2.1.cell2
   have hs := BB.out.now.1
   have u0 := hs.cell
   have u1 := hs.cell1
   have u2 := hs.cell2
   have g0 := hs.free
   have g1 := hs.free1
   have g2 := hs.free2
   have HS := hs.set (.slice x2 xn2 xc2) (.bool xm2) (.slice y2 yn2 yc2)
   have HE := Lib.hid (RatTold4.done Z3 BB.out.below (by omega) hs hr2)
   clear hs
   go_wp2
   exact bodyPost_ret (v := .tuple #[.agg #[.slice x2 xn2 xc2, .bool xm2, .slice y2 yn2 yc2], .int .i64 Z3]) (by simp [results, Tryz.results17, go_sem, HS]) rfl HE.out
  | false =>
   cases h3c : numK c0 with
   | true =>
    have ek : kindZ c0 = 3 := by unfold kindZ; rw [h1c, h2c, h3c]; rfl
    have et : (twoT c0 P Q P' Q' lm) = (lim3 lm (numT c0 P Q P' Q' lm)) := by unfold twoT; rw [h1c, h2c, h3c]; rfl
    rw [ek] at KI
    have JN := Lib.hid (fun wz h g => dlimited_any c0 a n c m a2 n2 c2 P Q b k l v b2 k2 l2 P' Q' lm wz h g hQ hQ' K (by omega) h1 h2 h3 h4 hm hd h3c)
    rw [← et] at JN
    obtain ⟨TT, hTT⟩ : ∃ z, (twoT c0 P Q P' Q' lm) = z := ⟨_, rfl⟩
    rw [hTT] at JN ⊢
    unfold RatTold4 at JN
    obtain ⟨Z1, Z2, Z3⟩ := TT
    clear hQ hQ' hK h1 h2 h3 h4 hm hd h1c h2c h3c ek et hTT
    show Calls _ _ _ _ (fun e w' => RatTold4 w w' e Z1 Z2 Z3)
    have BB := Lib.hid ((((((Bag.start w).rat h).rat g).box3 (.slice a n c) (.bool m) (.slice a2 n2 c2) 53).box3 (.slice b k l) (.bool v) (.slice b2 k2 l2) 53).box3 (.slice none 0 0) (.bool false) (.slice none 0 0) 53)
    simp only [World.size_alloc] at BB
    have q00 := BB.out.now.2.2.1.cell
    have q01 := BB.out.now.2.2.1.cell1
    have q02 := BB.out.now.2.2.1.cell2
    have q10 := BB.out.now.2.1.cell
    have q11 := BB.out.now.2.1.cell1
    have q12 := BB.out.now.2.1.cell2
    go_enter Tryz.func17, Tryz.ntmps17
    go_wp2_with fail
    go_at_call 55
    (with_reducible refine (KI.out _).mono ?_)
    rintro e w1 ⟨rfl, hb1⟩
    have BB := Lib.hid (BB.out.go hb1)
    clear hb1
    clear q00 q01 q02 q10 q11 q12
    have q00 := BB.out.now.2.2.1.cell
    have q01 := BB.out.now.2.2.1.cell1
    have q02 := BB.out.now.2.2.1.cell2
    have q10 := BB.out.now.2.1.cell
    have q11 := BB.out.now.2.1.cell1
    have q12 := BB.out.now.2.1.cell2
    go_wp2_with fail
    go_at_call 58
    (with_reducible refine (JN.out _ BB.out.now.2.2.2.2.1 BB.out.now.2.2.2.1).mono ?_)
    rintro e w2 ⟨x2, xn2, xc2, xm2, y2, yn2, yc2, rfl, hr2, hb2⟩
    have BB := Lib.hid (BB.out.go hb2)
    clear hb2
    clear q00 q01 q02 q10 q11 q12
    have q00 := BB.out.now.2.2.1.cell
    have q01 := BB.out.now.2.2.1.cell1
    have q02 := BB.out.now.2.2.1.cell2
    have q10 := BB.out.now.2.1.cell
    have q11 := BB.out.now.2.1.cell1
    have q12 := BB.out.now.2.1.cell2
    have hs := BB.out.now.1
    have u0 := hs.cell
    have u1 := hs.cell1
    have u2 := hs.cell2
    have g0 := hs.free
    have g1 := hs.free1
    have g2 := hs.free2
    have HS := hs.set (.slice x2 xn2 xc2) (.bool xm2) (.slice y2 yn2 yc2)
    have HE := Lib.hid (RatTold4.done Z3 BB.out.below (by omega) hs hr2)
    clear hs
    go_wp2
    exact bodyPost_ret (v := .tuple #[.agg #[.slice x2 xn2 xc2, .bool xm2, .slice y2 yn2 yc2], .int .i64 Z3]) (by simp [results, Tryz.results17, go_sem, HS]) rfl HE.out
   | false =>
    have ek : kindZ c0 = 0 := by unfold kindZ; rw [h1c, h2c, h3c]; rfl
    have et : (twoT c0 P Q P' Q' lm) = (0, 1, 20) := by unfold twoT; rw [h1c, h2c, h3c]; rfl
    rw [ek] at KI
    rw [et]
    clear hQ hQ' hK h1 h2 h3 h4 hm hd h1c h2c h3c ek et
    have BB := Lib.hid ((((((Bag.start w).rat h).rat g).box3 (.slice a n c) (.bool m) (.slice a2 n2 c2) 53).box3 (.slice b k l) (.bool v) (.slice b2 k2 l2) 53).box3 (.slice none 0 0) (.bool false) (.slice none 0 0) 53)
    simp only [World.size_alloc] at BB
    have q00 := BB.out.now.2.2.1.cell
    have q01 := BB.out.now.2.2.1.cell1
    have q02 := BB.out.now.2.2.1.cell2
    have q10 := BB.out.now.2.1.cell
    have q11 := BB.out.now.2.1.cell1
    have q12 := BB.out.now.2.1.cell2
    go_enter Tryz.func17, Tryz.ntmps17
    go_wp2_with fail
    go_at_call 55
    (with_reducible refine (KI.out _).mono ?_)
    rintro e w1 ⟨rfl, hb1⟩
    have BB := Lib.hid (BB.out.go hb1)
    clear hb1
    clear q00 q01 q02 q10 q11 q12
    have q00 := BB.out.now.2.2.1.cell
    have q01 := BB.out.now.2.2.1.cell1
    have q02 := BB.out.now.2.2.1.cell2
    have q10 := BB.out.now.2.1.cell
    have q11 := BB.out.now.2.1.cell1
    have q12 := BB.out.now.2.1.cell2
    have hs := BB.out.now.1
    have u0 := hs.cell
    have u1 := hs.cell1
    have u2 := hs.cell2
    have g0 := hs.free
    have g1 := hs.free1
    have g2 := hs.free2
    have HS := hs.set (.slice none 0 0) (.bool false) (.slice none 0 0)
    have HE := Lib.hid (RatTold4.done 20 BB.out.below (by omega) hs (RatAt.zero _))
    clear hs
    go_wp2
    exact bodyPost_ret (v := .tuple #[.agg #[.slice none 0 0, .bool false, .slice none 0 0], .int .i64 20]) (by simp [results, Tryz.results17, go_sem, HS]) rfl HE.out
end Go.Proofs.YtpdcdebnkbnogaaGreatDoor
namespace Go.Proofs.YtpdcdebnkbnogaaGreatDoor
open Go.RowKit
end Go.Proofs.YtpdcdebnkbnogaaGreatDoor
namespace Go.Proofs.YtpdcdebnkbnogaaGreatDoor
open Go.RowKit
attribute [local go_sem ↓] Go.wp_at_zero Go.wp_at_succ
theorem dec1 : str (dec 1) = ⟨#[49]⟩ := by rw [dec_small (by omega)]; rfl
theorem r3From_any (X : Int) (w : World) (h : -9223372036854775808 <= X /\ X <= 9223372036854775807) : Calls Tryz.prog 54 #[.int .i64 X] w fun e w' => NumTold w w' e X 1 := by
 have FR := Lib.hid (fun wz => rFrom_any X wz h)
 unfold RTold at FR
 have BB := Lib.hid ((Bag.start w).box3 (.bool false) (.string ⟨#[]⟩) (.string ⟨#[]⟩) 46)
 have HF := Lib.hid (fun w2 b x y (hb : Below w.heap.size w w2) (h1 : rB X = b) (h2 : rS X = x) (h3 : str (dec 1) = y) => NumTold.done (k := w.heap.size) X 1 hb (Nat.le_refl _) h1 h2 h3)
 obtain ⟨b, hb⟩ : ∃ b, rB X = b := ⟨_, rfl⟩
 obtain ⟨s, hs⟩ : ∃ s, rS X = s := ⟨_, rfl⟩
 have HB := Lib.hid hb
 have HS2 := Lib.hid hs
 rw [hb, hs] at FR
 clear hb hs h
 go_enter Tryz.func54, Tryz.ntmps54
 go_wp2_with fail
 go_at_call 104
 (with_reducible refine (FR.out _).mono ?_)
 rintro e w2 ⟨rfl, hb2⟩
 have BB := Lib.hid ((BB.out.go hb2).box2 (.bool b) (.string s) 145)
 have q0 := BB.out.now.1.cell
 have q1 := BB.out.now.1.cell1
 have hs := BB.out.now.2.1
 have u0 := hs.cell
 have u1 := hs.cell1
 have u2 := hs.cell2
 have g0 := hs.free
 have g1 := hs.free1
 have g2 := hs.free2
 have HS := hs.set (.bool b) (.string s) (.string ⟨#[49]⟩)
 have HE := Lib.hid (HF.out _ b s ⟨#[49]⟩ BB.out.below HB.out HS2.out dec1)
 clear hs hb2
 go_wp2
 exact bodyPost_ret (v := .agg #[.bool b, .string s, .string ⟨#[49]⟩]) (by simp [results, Tryz.results54, go_sem, HS]) rfl HE.out
theorem RX.lt {w : World} {k : Nat} (h : RX w k) : k < w.heap.size := by
 obtain ⟨x, z, h1⟩ := h; exact h1.lt
def RF (k : Nat) (b : Bool) (s : ByteArray) (b2 : Bool) (s2 : ByteArray) (y : World) : Prop := RX y (k + 1 + 1) /\ RX y (k + 1 + 1 + 1) /\ Slot2 y (k + 1) (.bool b2) (.string s2) /\ Slot2 y k (.bool b) (.string s)
theorem RF.stay {k : Nat} {b : Bool} {s : ByteArray} {b2 : Bool} {s2 : ByteArray} : ∀ x y, Below x.heap.size x y -> RF k b s b2 s2 x -> RF k b s b2 s2 y := fun _ _ hb h => ⟨h.1.below hb, h.2.1.below hb, h.2.2.1.below hb, h.2.2.2.below hb⟩
theorem RF.start (w : World) (b : Bool) (s : ByteArray) (b2 : Bool) (s2 : ByteArray) : Bag w (RF w.heap.size b s b2 s2) ((((w.alloc (.cells #[.bool b, .string s] 145)).alloc (.cells #[.bool b2, .string s2] 145)).alloc (.cells #[.bool false, .string ⟨#[]⟩] 145)).alloc (.cells #[.bool false, .string ⟨#[]⟩] 145)) := by
 have B0 := ((((Bag.start w).box2 (.bool b) (.string s) 145).box2 (.bool b2) (.string s2) 145).box2 (.bool false) (.string ⟨#[]⟩) 145).box2 (.bool false) (.string ⟨#[]⟩) 145
 simp only [World.size_alloc] at B0
 exact ⟨B0.below, RF.stay, ⟨_, _, B0.now.2.1⟩, ⟨_, _, B0.now.1⟩, B0.now.2.2.1, B0.now.2.2.2.1⟩
theorem RF.put2 {k j : Nat} {b : Bool} {s : ByteArray} {b2 : Bool} {s2 : ByteArray} {y : World} (h : RF k b s b2 s2 y) (h1 : k ≠ j) (h2 : k + 1 ≠ j) (u v : Value) : RF k b s b2 s2 (put2 y j u v) := ⟨h.1.put2 u v, h.2.1.put2 u v, h.2.2.1.put2o h2 u v, h.2.2.2.put2o h1 u v⟩
set_option linter.unusedVariables false
set_option linter.unusedSimpArgs false
def NumTold4 (w w' : World) (e : Ending) (P : Int) (Q : Nat) (E : Int) : Prop := e = .returned (.tuple #[.agg #[.bool (rB P), .string (rS P), .string (str (dec Q))], .int .i64 E]) /\ Below w.heap.size w w'
theorem NumTold4.done {w w2 : World} {k : Nat} (P : Int) (Q : Nat) (E : Int) (hb : Below w.heap.size w w2) (hk : w.heap.size <= k) {b : Bool} {s t : ByteArray} (h1 : rB P = b) (h2 : rS P = s) (h3 : str (dec Q) = t) :
    NumTold4 w (((w2.setCell ⟨k, 0, none⟩ (.bool b)).setCell ⟨k, 1, none⟩ (.string s)).setCell ⟨k, 2, none⟩ (.string t)) (.returned (.tuple #[.agg #[.bool b, .string s, .string t], .int .i64 E])) P Q E :=
 ⟨by rw [h1, h2, h3], ((hb.setCell hk _).setCell hk _).setCell hk _⟩
set_option linter.unusedVariables false
set_option linter.unusedSimpArgs false
theorem aw13 : twoT 33 2 1 5 1 4 = (10, 1, 0) /\ twoT 42 2 1 (-3) 1 4 = (1, 8, 0) /\ twoT 124 3 1 7 1 4 = (1, 1, 0) := by
 refine ⟨?_, ?_, ?_⟩ <;> decide +kernel
theorem num1 : rB 1 = false /\ rS 1 = ⟨#[49]⟩ /\ str (dec 8) = ⟨#[56]⟩ := ⟨rfl, dec1, by rw [dec_small (by omega)]; rfl⟩
theorem dl_small : dl (2 : Int).natAbs <= 60 := Nat.le_trans (dl_le 2 1 (by omega) (by decide)) (by omega)
theorem dl_small3 : dl (3 : Int).natAbs <= 60 := Nat.le_trans (dl_le 3 1 (by omega) (by decide)) (by omega)
theorem dl_small1 : dl 1 <= 60 := Nat.le_trans (dl_le 1 1 (by omega) (by decide)) (by omega)
theorem awake13_any  (w : World)  :
    Calls Tryz.prog 16 #[] w fun e w' => e = .returned (.bool true) /\ Below w.heap.size w w' := by
 have F1 := Lib.hid (fun wz => ratFrom_any (2) wz (by omega))
 have F2 := Lib.hid (fun wz => ratFrom_any (5) wz (by omega))
 have F3 := Lib.hid (fun wz => ratFrom_any (-3) wz (by omega))
 have F4 := Lib.hid (fun wz => ratFrom_any (3) wz (by omega))
 have F5 := Lib.hid (fun wz => ratFrom_any (7) wz (by omega))
 have T1 := Lib.hid (fun a n c m a2 n2 c2 b k l v b2 k2 l2 wz h g => dtwo_any 33 a n c m a2 n2 c2 2 1 b k l v b2 k2 l2 (5) 1 4 wz h g (by decide) (by decide) 1 (by omega) (by decide) (by decide) (by decide) (by decide) (by omega) (fun _ => ⟨dl_small, dl_small1⟩))
 have T2 := Lib.hid (fun a n c m a2 n2 c2 b k l v b2 k2 l2 wz h g => dtwo_any 42 a n c m a2 n2 c2 2 1 b k l v b2 k2 l2 (-3) 1 4 wz h g (by decide) (by decide) 1 (by omega) (by decide) (by decide) (by decide) (by decide) (by omega) (fun _ => ⟨dl_small, dl_small1⟩))
 have T3 := Lib.hid (fun a n c m a2 n2 c2 b k l v b2 k2 l2 wz h g => dtwo_any 124 a n c m a2 n2 c2 3 1 b k l v b2 k2 l2 (7) 1 4 wz h g (by decide) (by decide) 1 (by omega) (by decide) (by decide) (by decide) (by decide) (by omega) (fun _ => ⟨dl_small3, dl_small1⟩))
 rw [aw13.1] at T1
 rw [aw13.2.1] at T2
 rw [aw13.2.2] at T3
 have N1 := Lib.hid (fun a n c m a2 n2 c2 wz h => num_any a n c m a2 n2 c2 10 1 wz h (by decide) 1 (by omega) (by decide) (by decide))
 have N2 := Lib.hid (fun a n c m a2 n2 c2 wz h => num_any a n c m a2 n2 c2 1 8 wz h (by decide) 1 (by omega) (by decide) (by decide))
 have N3 := Lib.hid (fun a n c m a2 n2 c2 wz h => num_any a n c m a2 n2 c2 1 1 wz h (by decide) 1 (by omega) (by decide) (by decide))
 have R1 := Lib.hid (fun wz => r3From_any 10 wz (by omega))
 have R3 := Lib.hid (fun wz => r3From_any 1 wz (by omega))
 unfold RatTold4 at T1 T2 T3
 unfold NumTold at N1 N2 N3 R1 R3
 rw [num1.1, num1.2.1, num1.2.2] at N2
 rw [num1.1, num1.2.1, dec1] at N3 R3
 rw [dec1] at N1 R1
 generalize rB 10 = b1 at *
 generalize rS 10 = s1 at *
 have BB := Lib.hid (Bag.start w)
 go_enter Tryz.func16, Tryz.ntmps16
 go_wp2_with fail
 go_at_call 26
 (with_reducible refine (F1.out _).mono ?_)
 rintro e w1 ⟨x1, xn1, xc1, xm1, y1, yn1, yc1, rfl, hr1, hb1⟩
 have BB := Lib.hid ((BB.out.go hb1).rat hr1)
 clear hb1
 clear hr1
 go_wp2_with fail
 go_at_call 26
 (with_reducible refine (F2.out _).mono ?_)
 rintro e w2 ⟨x2, xn2, xc2, xm2, y2, yn2, yc2, rfl, hr2, hb2⟩
 have BB := Lib.hid ((BB.out.go hb2).rat hr2)
 clear hb2
 clear hr2
 go_wp2_with fail
 go_at_call 17
 (with_reducible refine (T1.out _ _ _ _ _ _ _ _ _ _ _ _ _ _ _ BB.out.now.2.1 BB.out.now.1).mono ?_)
 rintro e w3 ⟨x3, xn3, xc3, xm3, y3, yn3, yc3, rfl, hr3, hb3⟩
 have BB := Lib.hid (((BB.out.go hb3).rat hr3).box3 (.slice x3 xn3 xc3) (.bool xm3) (.slice y3 yn3 yc3) 53)
 clear hb3
 clear hr3
 go_wp2_with fail
 go_at_call 26
 (with_reducible refine (F1.out _).mono ?_)
 rintro e w4 ⟨x4, xn4, xc4, xm4, y4, yn4, yc4, rfl, hr4, hb4⟩
 have BB := Lib.hid ((BB.out.go hb4).rat hr4)
 clear hb4
 clear hr4
 go_wp2_with fail
 go_at_call 26
 (with_reducible refine (F3.out _).mono ?_)
 rintro e w5 ⟨x5, xn5, xc5, xm5, y5, yn5, yc5, rfl, hr5, hb5⟩
 have BB := Lib.hid ((BB.out.go hb5).rat hr5)
 clear hb5
 clear hr5
 go_wp2_with fail
 go_at_call 17
 (with_reducible refine (T2.out _ _ _ _ _ _ _ _ _ _ _ _ _ _ _ BB.out.now.2.1 BB.out.now.1).mono ?_)
 rintro e w6 ⟨x6, xn6, xc6, xm6, y6, yn6, yc6, rfl, hr6, hb6⟩
 have BB := Lib.hid (((BB.out.go hb6).rat hr6).box3 (.slice x6 xn6 xc6) (.bool xm6) (.slice y6 yn6 yc6) 53)
 clear hb6
 clear hr6
 go_wp2_with fail
 go_at_call 26
 (with_reducible refine (F4.out _).mono ?_)
 rintro e w7 ⟨x7, xn7, xc7, xm7, y7, yn7, yc7, rfl, hr7, hb7⟩
 have BB := Lib.hid ((BB.out.go hb7).rat hr7)
 clear hb7
 clear hr7
 go_wp2_with fail
 go_at_call 26
 (with_reducible refine (F5.out _).mono ?_)
 rintro e w8 ⟨x8, xn8, xc8, xm8, y8, yn8, yc8, rfl, hr8, hb8⟩
 have BB := Lib.hid ((BB.out.go hb8).rat hr8)
 clear hb8
 clear hr8
 go_wp2_with fail
 go_at_call 17
 (with_reducible refine (T3.out _ _ _ _ _ _ _ _ _ _ _ _ _ _ _ BB.out.now.2.1 BB.out.now.1).mono ?_)
 rintro e w9 ⟨x9, xn9, xc9, xm9, y9, yn9, yc9, rfl, hr9, hb9⟩
 have BB := Lib.hid (((BB.out.go hb9).rat hr9).box3 (.slice x9 xn9 xc9) (.bool xm9) (.slice y9 yn9 yc9) 53)
 clear hb9
 clear hr9
 have q00 := BB.out.now.2.2.2.2.2.2.2.2.1.cell
 have q01 := BB.out.now.2.2.2.2.2.2.2.2.1.cell1
 have q02 := BB.out.now.2.2.2.2.2.2.2.2.1.cell2
 go_wp2_with fail
 go_at_call 21
 (with_reducible refine (N1.out _ _ _ _ _ _ _ _ BB.out.now.2.2.2.2.2.2.2.2.2.1).mono ?_)
 rintro e w10 ⟨rfl, hb10⟩
 have BB := Lib.hid (BB.out.go hb10)
 clear hb10
 clear q00 q01 q02
 have q00 := BB.out.now.2.2.2.2.2.2.2.2.1.cell
 have q01 := BB.out.now.2.2.2.2.2.2.2.2.1.cell1
 have q02 := BB.out.now.2.2.2.2.2.2.2.2.1.cell2
 go_wp2_with fail
 go_at_call 54
 (with_reducible refine (R1.out _).mono ?_)
 rintro e w11 ⟨rfl, hb11⟩
 have BB := Lib.hid (BB.out.go hb11)
 clear hb11
 clear q00 q01 q02
 have q00 := BB.out.now.2.2.2.2.2.2.2.2.1.cell
 have q01 := BB.out.now.2.2.2.2.2.2.2.2.1.cell1
 have q02 := BB.out.now.2.2.2.2.2.2.2.2.1.cell2
 clear q00 q01 q02
 have q00 := BB.out.now.2.2.2.2.1.cell
 have q01 := BB.out.now.2.2.2.2.1.cell1
 have q02 := BB.out.now.2.2.2.2.1.cell2
 go_wp2_with fail
 go_at_call 21
 (with_reducible refine (N2.out _ _ _ _ _ _ _ _ BB.out.now.2.2.2.2.2.1).mono ?_)
 rintro e w12 ⟨rfl, hb12⟩
 have BB := Lib.hid (BB.out.go hb12)
 clear hb12
 clear q00 q01 q02
 have q00 := BB.out.now.2.2.2.2.1.cell
 have q01 := BB.out.now.2.2.2.2.1.cell1
 have q02 := BB.out.now.2.2.2.2.1.cell2
 clear q00 q01 q02
 have q00 := BB.out.now.1.cell
 have q01 := BB.out.now.1.cell1
 have q02 := BB.out.now.1.cell2
 go_wp2_with fail
 go_at_call 21
 (with_reducible refine (N3.out _ _ _ _ _ _ _ _ BB.out.now.2.1).mono ?_)
 rintro e w13 ⟨rfl, hb13⟩
 have BB := Lib.hid (BB.out.go hb13)
 clear hb13
 clear q00 q01 q02
 have q00 := BB.out.now.1.cell
 have q01 := BB.out.now.1.cell1
 have q02 := BB.out.now.1.cell2
 go_wp2_with fail
 go_at_call 54
 (with_reducible refine (R3.out _).mono ?_)
 rintro e w14 ⟨rfl, hb14⟩
 have BB := Lib.hid (BB.out.go hb14)
 clear hb14
 clear q00 q01 q02
 have q00 := BB.out.now.1.cell
 have q01 := BB.out.now.1.cell1
 have q02 := BB.out.now.1.cell2
 go_wp2
 go_ret
 exact ⟨rfl, BB.out.below⟩
theorem rcompare13_any (c n : Int) (w : World)  :
    Calls Tryz.prog 23 #[.int .i32 c, .int .i64 n] w fun e w' => e = .returned (.bool (cmpB c n)) /\ Below w.heap.size w w' := by
 have HE := Lib.hid (Below.refl w.heap.size w)
 have tri : n < 0 ∨ n = 0 ∨ 0 < n := by omega
 by_cases h : c = 60 ∨ c = 8804 ∨ c = 61 ∨ c = 8805 ∨ c = 62
 · rcases h with rfl | rfl | rfl | rfl | rfl
   · rcases tri with hn | hn | hn
     · have e : cmpB 60 n = true := by
         unfold cmpB
         simp
         try omega
       rw [e]
       clear e
       have dn : decide (n < 0) = true := decide_eq_true hn
       have dz : (n == 0) = false := beq_eq_false_iff_ne.2 (by omega)
       have dp : decide (0 < n) = false := decide_eq_false (by omega)
       clear hn
       go_enter Tryz.func23, Tryz.ntmps23
       go_wp2
       go_ret
       exact ⟨rfl, HE.out⟩
     · have e : cmpB 60 n = false := by
         unfold cmpB
         simp
         try omega
       rw [e]
       clear e
       subst hn
       go_enter Tryz.func23, Tryz.ntmps23
       go_wp2
       go_ret
       exact ⟨rfl, HE.out⟩
     · have e : cmpB 60 n = false := by
         unfold cmpB
         simp
         try omega
       rw [e]
       clear e
       have dn : decide (n < 0) = false := decide_eq_false (by omega)
       have dz : (n == 0) = false := beq_eq_false_iff_ne.2 (by omega)
       have dp : decide (0 < n) = true := decide_eq_true hn
       clear hn
       go_enter Tryz.func23, Tryz.ntmps23
       go_wp2
       go_ret
       exact ⟨rfl, HE.out⟩
   · rcases tri with hn | hn | hn
     · have e : cmpB 8804 n = true := by
         unfold cmpB
         simp
         try omega
       rw [e]
       clear e
       have dn : decide (n < 0) = true := decide_eq_true hn
       have dz : (n == 0) = false := beq_eq_false_iff_ne.2 (by omega)
       have dp : decide (0 < n) = false := decide_eq_false (by omega)
       clear hn
       go_enter Tryz.func23, Tryz.ntmps23
       go_wp2
       go_ret
       exact ⟨rfl, HE.out⟩
     · have e : cmpB 8804 n = true := by
         unfold cmpB
         simp
         try omega
       rw [e]
       clear e
       subst hn
       go_enter Tryz.func23, Tryz.ntmps23
       go_wp2
       go_ret
       exact ⟨rfl, HE.out⟩
     · have e : cmpB 8804 n = false := by
         unfold cmpB
         simp
         try omega
       rw [e]
       clear e
       have dn : decide (n < 0) = false := decide_eq_false (by omega)
       have dz : (n == 0) = false := beq_eq_false_iff_ne.2 (by omega)
       have dp : decide (0 < n) = true := decide_eq_true hn
       clear hn
       go_enter Tryz.func23, Tryz.ntmps23
       go_wp2
       go_ret
       exact ⟨rfl, HE.out⟩
   · rcases tri with hn | hn | hn
     · have e : cmpB 61 n = false := by
         unfold cmpB
         simp
         try omega
       rw [e]
       clear e
       have dn : decide (n < 0) = true := decide_eq_true hn
       have dz : (n == 0) = false := beq_eq_false_iff_ne.2 (by omega)
       have dp : decide (0 < n) = false := decide_eq_false (by omega)
       clear hn
       go_enter Tryz.func23, Tryz.ntmps23
       go_wp2
       go_ret
       exact ⟨rfl, HE.out⟩
     · have e : cmpB 61 n = true := by
         unfold cmpB
         simp
         try omega
       rw [e]
       clear e
       subst hn
       go_enter Tryz.func23, Tryz.ntmps23
       go_wp2
       go_ret
       exact ⟨rfl, HE.out⟩
     · have e : cmpB 61 n = false := by
         unfold cmpB
         simp
         try omega
       rw [e]
       clear e
       have dn : decide (n < 0) = false := decide_eq_false (by omega)
       have dz : (n == 0) = false := beq_eq_false_iff_ne.2 (by omega)
       have dp : decide (0 < n) = true := decide_eq_true hn
       clear hn
       go_enter Tryz.func23, Tryz.ntmps23
       go_wp2
       go_ret
       exact ⟨rfl, HE.out⟩
   · rcases tri with hn | hn | hn
     · have e : cmpB 8805 n = false := by
         unfold cmpB
         simp
         try omega
       rw [e]
       clear e
       have dn : decide (n < 0) = true := decide_eq_true hn
       have dz : (n == 0) = false := beq_eq_false_iff_ne.2 (by omega)
       have dp : decide (0 < n) = false := decide_eq_false (by omega)
       clear hn
       go_enter Tryz.func23, Tryz.ntmps23
       go_wp2
       go_ret
       exact ⟨rfl, HE.out⟩
     · have e : cmpB 8805 n = true := by
         unfold cmpB
         simp
         try omega
       rw [e]
       clear e
       subst hn
       go_enter Tryz.func23, Tryz.ntmps23
       go_wp2
       go_ret
       exact ⟨rfl, HE.out⟩
     · have e : cmpB 8805 n = true := by
         unfold cmpB
         simp
         try omega
       rw [e]
       clear e
       have dn : decide (n < 0) = false := decide_eq_false (by omega)
       have dz : (n == 0) = false := beq_eq_false_iff_ne.2 (by omega)
       have dp : decide (0 < n) = true := decide_eq_true hn
       clear hn
       go_enter Tryz.func23, Tryz.ntmps23
       go_wp2
       go_ret
       exact ⟨rfl, HE.out⟩
   · rcases tri with hn | hn | hn
     · have e : cmpB 62 n = false := by
         unfold cmpB
         simp
         try omega
       rw [e]
       clear e
       have dn : decide (n < 0) = true := decide_eq_true hn
       have dz : (n == 0) = false := beq_eq_false_iff_ne.2 (by omega)
       have dp : decide (0 < n) = false := decide_eq_false (by omega)
       clear hn
       go_enter Tryz.func23, Tryz.ntmps23
       go_wp2
       go_ret
       exact ⟨rfl, HE.out⟩
     · have e : cmpB 62 n = false := by
         unfold cmpB
         simp
         try omega
       rw [e]
       clear e
       subst hn
       go_enter Tryz.func23, Tryz.ntmps23
       go_wp2
       go_ret
       exact ⟨rfl, HE.out⟩
     · have e : cmpB 62 n = true := by
         unfold cmpB
         simp
         try omega
       rw [e]
       clear e
       have dn : decide (n < 0) = false := decide_eq_false (by omega)
       have dz : (n == 0) = false := beq_eq_false_iff_ne.2 (by omega)
       have dp : decide (0 < n) = true := decide_eq_true hn
       clear hn
       go_enter Tryz.func23, Tryz.ntmps23
       go_wp2
       go_ret
       exact ⟨rfl, HE.out⟩
 · have hh : (c == 60) = false /\ (c == 8804) = false /\ (c == 61) = false /\ (c == 8805) = false /\ (c == 62) = false := by
     refine ⟨?_, ?_, ?_, ?_, ?_⟩ <;> (rw [beq_eq_false_iff_ne]; omega)
   have e : cmpB c n = !decide (n = 0) := by
    unfold cmpB
    rw [if_neg (by omega), if_neg (by omega), if_neg (by omega), if_neg (by omega), if_neg (by omega)]
   obtain ⟨h60, h8804, h61, h8805, h62⟩ := hh
   rw [e]
   clear h e
   rcases tri with hn | hn | hn
   · rw [show (!decide (n = 0)) = true by simp; try omega]
     have dn : decide (n < 0) = true := decide_eq_true hn
     have dz : (n == 0) = false := beq_eq_false_iff_ne.2 (by omega)
     have dp : decide (0 < n) = false := decide_eq_false (by omega)
     clear hn
     go_enter Tryz.func23, Tryz.ntmps23
     go_wp2
     go_ret
     exact ⟨rfl, HE.out⟩
   · rw [show (!decide (n = 0)) = false by simp; try omega]
     subst hn
     go_enter Tryz.func23, Tryz.ntmps23
     go_wp2
     go_ret
     exact ⟨rfl, HE.out⟩
   · rw [show (!decide (n = 0)) = true by simp; try omega]
     have dn : decide (n < 0) = false := decide_eq_false (by omega)
     have dz : (n == 0) = false := beq_eq_false_iff_ne.2 (by omega)
     have dp : decide (0 < n) = true := decide_eq_true hn
     clear hn
     go_enter Tryz.func23, Tryz.ntmps23
     go_wp2
     go_ret
     exact ⟨rfl, HE.out⟩
end Go.Proofs.YtpdcdebnkbnogaaGreatDoor
