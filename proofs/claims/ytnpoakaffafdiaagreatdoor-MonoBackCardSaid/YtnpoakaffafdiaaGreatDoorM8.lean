/-
  Texts of this seat, laid together.
-/
import Derived.Laws.StructEq
import Derived.Deep.Strs
import Derived.ProofKit
import Derived.OpenShut
import Derived.Test.YtnpoakaffafdiaaGreatDoorRows
import Derived.Test.YtnpoakaffafdiaaGreatDoorM1
import Derived.Test.YtnpoakaffafdiaaGreatDoorM2
import Derived.Test.YtnpoakaffafdiaaGreatDoorM3
import Derived.Test.YtnpoakaffafdiaaGreatDoorM4
import Derived.Test.YtnpoakaffafdiaaGreatDoorM5
import Derived.Test.YtnpoakaffafdiaaGreatDoorM6
import Derived.Test.YtnpoakaffafdiaaGreatDoorM7

namespace Go.Proofs.YtnpoakaffafdiaaGreatDoor
open Go.RowKit
attribute [local go_sem ↓] Go.wp_at_zero Go.wp_at_succ
set_option linter.unusedVariables false
set_option linter.unusedSimpArgs false
set_option maxHeartbeats 3200000 in
set_option maxRecDepth 100000 in
theorem map_43 (a : Option Addr) (n c : Nat) (m : Bool) (a2 : Option Addr) (n2 c2 : Nat) (P : Int) (Q : Nat) (l : Int) (w : World) (h : RatAt w a n c m a2 n2 c2 P Q) (hQ : 0 < Q) (hg : Nat.gcd P.natAbs Q = 1) (K : Nat) (hK : K ≤ 1000) (h1 : P.natAbs < 4294967296 ^ K) (h2 : Q < 4294967296 ^ K) :
    Calls Tryz.prog 66 #[.int .i32 43, .agg #[.slice a n c, .bool m, .slice a2 n2 c2], .int .i64 l] w fun e w' => RatTold4 w w' e P Q 0 := by
  have BB := Lib.hid ((((Bag.start w).rat h).box3 (.slice a n c) (.bool m) (.slice a2 n2 c2) 60).box3 (.slice a n c) (.bool m) (.slice a2 n2 c2) 60)
  simp only [World.size_alloc] at BB
  have q0 := BB.out.now.2.1.cell
  have q1 := BB.out.now.2.1.cell1
  have q2 := BB.out.now.2.1.cell2
  clear h hQ hg hK h1 h2
  go_enter Tryz.func66, Tryz.ntmps66
  have hz0 := BB.out.below
  have HE : Hid (RatTold4 w _ (.returned (.tuple #[.agg #[.slice a n c, .bool m, .slice a2 n2 c2], .int .i64 0])) _ _ 0) := Lib.hid ⟨_, _, _, _, _, _, _, rfl, BB.out.now.2.2.1, hz0⟩
  clear hz0
  have hs := BB.out.now.1
  have u0 := hs.cell
  have u1 := hs.cell1
  have u2 := hs.cell2
  have g0 := hs.free
  have g1 := hs.free1
  have g2 := hs.free2
  clear hs
  go_wp2
  exact bodyPost_ret (v := .tuple #[.agg #[.slice a n c, .bool m, .slice a2 n2 c2], .int .i64 0]) (by simp [results, Tryz.results66, go_sem]) rfl HE.out
set_option maxHeartbeats 3200000 in
set_option maxRecDepth 100000 in
theorem map_45 (a : Option Addr) (n c : Nat) (m : Bool) (a2 : Option Addr) (n2 c2 : Nat) (P : Int) (Q : Nat) (l : Int) (w : World) (h : RatAt w a n c m a2 n2 c2 P Q) (hQ : 0 < Q) (hg : Nat.gcd P.natAbs Q = 1) (K : Nat) (hK : K ≤ 1000) (h1 : P.natAbs < 4294967296 ^ K) (h2 : Q < 4294967296 ^ K) :
    Calls Tryz.prog 66 #[.int .i32 45, .agg #[.slice a n c, .bool m, .slice a2 n2 c2], .int .i64 l] w fun e w' => RatTold4 w w' e (-P) Q 0 := by
  have MN := Lib.hid (fun wz h => ratMinus_any a n c m a2 n2 c2 P Q wz h)
  have BB := Lib.hid ((((Bag.start w).rat h).box3 (.slice a n c) (.bool m) (.slice a2 n2 c2) 60).box3 (.slice none 0 0) (.bool false) (.slice none 0 0) 60)
  simp only [World.size_alloc] at BB
  have q0 := BB.out.now.2.1.cell
  have q1 := BB.out.now.2.1.cell1
  have q2 := BB.out.now.2.1.cell2
  clear h hQ hg hK h1 h2
  go_enter Tryz.func66, Tryz.ntmps66
  go_wp2_with fail
  go_at_call 31
  (with_reducible refine (MN.out _ BB.out.now.2.2.1).mono ?_)
  rintro e w2 ⟨a3, n3, c3, m3, a4, n4, c4, rfl, hr, hb2⟩
  have BB := Lib.hid (BB.out.go hb2)
  clear hb2
  have hs := BB.out.now.1
  have u0 := hs.cell
  have u1 := hs.cell1
  have u2 := hs.cell2
  have g0 := hs.free
  have g1 := hs.free1
  have g2 := hs.free2
  have HS := hs.set (.slice a3 n3 c3) (.bool m3) (.slice a4 n4 c4)
  have HE := Lib.hid (RatTold4.done 0 BB.out.below (by omega) hs hr)
  clear hs
  go_wp2
  exact bodyPost_ret (v := .tuple #[.agg #[.slice a3 n3 c3, .bool m3, .slice a4 n4 c4], .int .i64 0]) (by simp [results, Tryz.results66, go_sem, HS]) rfl HE.out
set_option maxHeartbeats 3200000 in
set_option maxRecDepth 100000 in
theorem map_215 (a : Option Addr) (n c : Nat) (m : Bool) (a2 : Option Addr) (n2 c2 : Nat) (P : Int) (Q : Nat) (l : Int) (w : World) (h : RatAt w a n c m a2 n2 c2 P Q) (hQ : 0 < Q) (hg : Nat.gcd P.natAbs Q = 1) (K : Nat) (hK : K ≤ 1000) (h1 : P.natAbs < 4294967296 ^ K) (h2 : Q < 4294967296 ^ K) :
    Calls Tryz.prog 66 #[.int .i32 215, .agg #[.slice a n c, .bool m, .slice a2 n2 c2], .int .i64 l] w fun e w' => RatTold4 w w' e (sgnI P) 1 0 := by
  have SG := Lib.hid (fun wz h => ratSign_any a n c m a2 n2 c2 P Q wz h)
  have hsg : -1 ≤ sgnI P ∧ sgnI P ≤ 1 := by unfold sgnI; split <;> (try split) <;> omega
  have FR := Lib.hid (fun wz => ratFrom_any (sgnI P) wz (by omega))
  generalize sgnI P = sg at *
  clear hsg
  have BB := Lib.hid ((((Bag.start w).rat h).box3 (.slice a n c) (.bool m) (.slice a2 n2 c2) 60).box3 (.slice none 0 0) (.bool false) (.slice none 0 0) 60)
  simp only [World.size_alloc] at BB
  have q0 := BB.out.now.2.1.cell
  have q1 := BB.out.now.2.1.cell1
  have q2 := BB.out.now.2.1.cell2
  clear h hQ hg hK h1 h2
  go_enter Tryz.func66, Tryz.ntmps66
  go_wp2_with fail
  go_at_call 29
  (with_reducible refine (SG.out _ BB.out.now.2.2.1).mono ?_)
  rintro e w2 ⟨rfl, hb2⟩
  have BB := Lib.hid (BB.out.go hb2)
  clear hb2
  go_wp2_with fail
  go_at_call 33
  (with_reducible refine (FR.out _).mono ?_)
  rintro e w3 ⟨a3, n3, c3, m3, a4, n4, c4, rfl, hr, hb3⟩
  have BB := Lib.hid (BB.out.go hb3)
  clear hb3
  have hs := BB.out.now.1
  have u0 := hs.cell
  have u1 := hs.cell1
  have u2 := hs.cell2
  have g0 := hs.free
  have g1 := hs.free1
  have g2 := hs.free2
  have HS := hs.set (.slice a3 n3 c3) (.bool m3) (.slice a4 n4 c4)
  have HE := Lib.hid (RatTold4.done 0 BB.out.below (by omega) hs hr)
  clear hs
  go_wp2
  exact bodyPost_ret (v := .tuple #[.agg #[.slice a3 n3 c3, .bool m3, .slice a4 n4 c4], .int .i64 0]) (by simp [results, Tryz.results66, go_sem, HS]) rfl HE.out
set_option maxHeartbeats 3200000 in
set_option maxRecDepth 100000 in
theorem map_247 (a : Option Addr) (n c : Nat) (m : Bool) (a2 : Option Addr) (n2 c2 : Nat) (P : Int) (Q : Nat) (l : Int) (w : World) (h : RatAt w a n c m a2 n2 c2 P Q) (hQ : 0 < Q) (hg : Nat.gcd P.natAbs Q = 1) (K : Nat) (hK : K ≤ 1000) (h1 : P.natAbs < 4294967296 ^ K) (h2 : Q < 4294967296 ^ K) :
    Calls Tryz.prog 66 #[.int .i32 247, .agg #[.slice a n c, .bool m, .slice a2 n2 c2], .int .i64 l] w fun e w' => RatTold4 w w' e (if P = 0 then 0 else upZ Q P) (if P = 0 then 1 else P.natAbs) (if P = 0 then 22 else 0) := by
  have RC := Lib.hid (fun wz h => mrec_any a n c m a2 n2 c2 P Q wz h hQ hg K hK h1 h2)
  generalize (if P = 0 then 0 else upZ Q P) = UP at *
  generalize (if P = 0 then 1 else P.natAbs) = UQ at *
  generalize (if P = 0 then (22 : Int) else 0) = UE at *
  have BB := Lib.hid ((((Bag.start w).rat h).box3 (.slice a n c) (.bool m) (.slice a2 n2 c2) 60).box3 (.slice none 0 0) (.bool false) (.slice none 0 0) 60)
  simp only [World.size_alloc] at BB
  have q0 := BB.out.now.2.1.cell
  have q1 := BB.out.now.2.1.cell1
  have q2 := BB.out.now.2.1.cell2
  clear h hQ hg hK h1 h2
  go_enter Tryz.func66, Tryz.ntmps66
  go_wp2_with fail
  go_at_call 122
  (with_reducible refine (RC.out _ BB.out.now.2.2.1).mono ?_)
  rintro e w2 ⟨a3, n3, c3, m3, a4, n4, c4, rfl, hr, hb2⟩
  have BB := Lib.hid (BB.out.go hb2)
  clear hb2
  have hs := BB.out.now.1
  have u0 := hs.cell
  have u1 := hs.cell1
  have u2 := hs.cell2
  have g0 := hs.free
  have g1 := hs.free1
  have g2 := hs.free2
  have HS := hs.set (.slice a3 n3 c3) (.bool m3) (.slice a4 n4 c4)
  have HE := Lib.hid (RatTold4.done UE BB.out.below (by omega) hs hr)
  clear hs
  go_wp2
  exact bodyPost_ret (v := .tuple #[.agg #[.slice a3 n3 c3, .bool m3, .slice a4 n4 c4], .int .i64 UE]) (by simp [results, Tryz.results66, go_sem, HS]) rfl HE.out
set_option maxHeartbeats 3200000 in
set_option maxRecDepth 100000 in
theorem map_8968 (a : Option Addr) (n c : Nat) (m : Bool) (a2 : Option Addr) (n2 c2 : Nat) (P : Int) (Q : Nat) (l : Int) (w : World) (h : RatAt w a n c m a2 n2 c2 P Q) (hQ : 0 < Q) (hg : Nat.gcd P.natAbs Q = 1) (K : Nat) (hK : K ≤ 1000) (h1 : P.natAbs < 4294967296 ^ K) (h2 : Q < 4294967296 ^ K) :
    Calls Tryz.prog 66 #[.int .i32 8968, .agg #[.slice a n c, .bool m, .slice a2 n2 c2], .int .i64 l] w fun e w' => RatTold4 w w' e (-(flQ (-P) Q)) 1 0 := by
  have CE := Lib.hid (fun wz h => ratCeil_any a n c m a2 n2 c2 P Q wz h hQ K (by omega) h1)
  have WH := Lib.hid (fun a n c m wz (h : IntAt wz a n c m (-(flQ (-P) Q))) => whole_any a n c m (-(flQ (-P) Q)) wz h)
  generalize (-(flQ (-P) Q)) = Z at *
  have BB := Lib.hid ((((Bag.start w).rat h).box3 (.slice a n c) (.bool m) (.slice a2 n2 c2) 60).box3 (.slice none 0 0) (.bool false) (.slice none 0 0) 60)
  simp only [World.size_alloc] at BB
  have q0 := BB.out.now.2.1.cell
  have q1 := BB.out.now.2.1.cell1
  have q2 := BB.out.now.2.1.cell2
  clear h hQ hg hK h1 h2
  go_enter Tryz.func66, Tryz.ntmps66
  go_wp2_with fail
  go_at_call 123
  (with_reducible refine (CE.out _ BB.out.now.2.2.1).mono ?_)
  rintro e w2 ⟨a5, n5, c5, m5, rfl, hi, hb2⟩
  have BB := Lib.hid (BB.out.go hb2)
  clear hb2
  go_wp2_with fail
  go_at_call 84
  (with_reducible refine (WH.out _ _ _ _ _ hi).mono ?_)
  rintro e w3 ⟨a3, n3, c3, m3, a4, n4, c4, rfl, hr, hb3⟩
  have BB := Lib.hid (BB.out.go hb3)
  clear hb3 hi
  have hs := BB.out.now.1
  have u0 := hs.cell
  have u1 := hs.cell1
  have u2 := hs.cell2
  have g0 := hs.free
  have g1 := hs.free1
  have g2 := hs.free2
  have HS := hs.set (.slice a3 n3 c3) (.bool m3) (.slice a4 n4 c4)
  have HE := Lib.hid (RatTold4.done 0 BB.out.below (by omega) hs hr)
  clear hs
  go_wp2
  exact bodyPost_ret (v := .tuple #[.agg #[.slice a3 n3 c3, .bool m3, .slice a4 n4 c4], .int .i64 0]) (by simp [results, Tryz.results66, go_sem, HS]) rfl HE.out
set_option maxHeartbeats 3200000 in
set_option maxRecDepth 100000 in
theorem map_8970 (a : Option Addr) (n c : Nat) (m : Bool) (a2 : Option Addr) (n2 c2 : Nat) (P : Int) (Q : Nat) (l : Int) (w : World) (h : RatAt w a n c m a2 n2 c2 P Q) (hQ : 0 < Q) (hg : Nat.gcd P.natAbs Q = 1) (K : Nat) (hK : K ≤ 1000) (h1 : P.natAbs < 4294967296 ^ K) (h2 : Q < 4294967296 ^ K) :
    Calls Tryz.prog 66 #[.int .i32 8970, .agg #[.slice a n c, .bool m, .slice a2 n2 c2], .int .i64 l] w fun e w' => RatTold4 w w' e (flQ P Q) 1 0 := by
  have CE := Lib.hid (fun wz h => ratFloor_any a n c m a2 n2 c2 P Q wz h hQ K (by omega) h1)
  have WH := Lib.hid (fun a n c m wz (h : IntAt wz a n c m (flQ P Q)) => whole_any a n c m (flQ P Q) wz h)
  generalize (flQ P Q) = Z at *
  have BB := Lib.hid ((((Bag.start w).rat h).box3 (.slice a n c) (.bool m) (.slice a2 n2 c2) 60).box3 (.slice none 0 0) (.bool false) (.slice none 0 0) 60)
  simp only [World.size_alloc] at BB
  have q0 := BB.out.now.2.1.cell
  have q1 := BB.out.now.2.1.cell1
  have q2 := BB.out.now.2.1.cell2
  clear h hQ hg hK h1 h2
  go_enter Tryz.func66, Tryz.ntmps66
  go_wp2_with fail
  go_at_call 124
  (with_reducible refine (CE.out _ BB.out.now.2.2.1).mono ?_)
  rintro e w2 ⟨a5, n5, c5, m5, rfl, hi, hb2⟩
  have BB := Lib.hid (BB.out.go hb2)
  clear hb2
  go_wp2_with fail
  go_at_call 84
  (with_reducible refine (WH.out _ _ _ _ _ hi).mono ?_)
  rintro e w3 ⟨a3, n3, c3, m3, a4, n4, c4, rfl, hr, hb3⟩
  have BB := Lib.hid (BB.out.go hb3)
  clear hb3 hi
  have hs := BB.out.now.1
  have u0 := hs.cell
  have u1 := hs.cell1
  have u2 := hs.cell2
  have g0 := hs.free
  have g1 := hs.free1
  have g2 := hs.free2
  have HS := hs.set (.slice a3 n3 c3) (.bool m3) (.slice a4 n4 c4)
  have HE := Lib.hid (RatTold4.done 0 BB.out.below (by omega) hs hr)
  clear hs
  go_wp2
  exact bodyPost_ret (v := .tuple #[.agg #[.slice a3 n3 c3, .bool m3, .slice a4 n4 c4], .int .i64 0]) (by simp [results, Tryz.results66, go_sem, HS]) rfl HE.out
set_option maxHeartbeats 3200000 in
set_option maxRecDepth 100000 in
theorem map_124 (a : Option Addr) (n c : Nat) (m : Bool) (a2 : Option Addr) (n2 c2 : Nat) (P : Int) (Q : Nat) (l : Int) (w : World) (h : RatAt w a n c m a2 n2 c2 P Q) (hQ : 0 < Q) (hg : Nat.gcd P.natAbs Q = 1) (K : Nat) (hK : K ≤ 1000) (h1 : P.natAbs < 4294967296 ^ K) (h2 : Q < 4294967296 ^ K) :
    Calls Tryz.prog 66 #[.int .i32 124, .agg #[.slice a n c, .bool m, .slice a2 n2 c2], .int .i64 l] w fun e w' => RatTold4 w w' e (P.natAbs : Nat) Q 0 := by
  have SZ := Lib.hid (fun wz h => msize_any a n c m a2 n2 c2 P Q wz h)
  generalize ((P.natAbs : Nat) : Int) = Z at *
  have BB := Lib.hid ((((Bag.start w).rat h).box3 (.slice a n c) (.bool m) (.slice a2 n2 c2) 60).box3 (.slice none 0 0) (.bool false) (.slice none 0 0) 60)
  simp only [World.size_alloc] at BB
  have q0 := BB.out.now.2.1.cell
  have q1 := BB.out.now.2.1.cell1
  have q2 := BB.out.now.2.1.cell2
  clear h hQ hg hK h1 h2
  go_enter Tryz.func66, Tryz.ntmps66
  go_wp2_with fail
  go_at_call 125
  (with_reducible refine (SZ.out _ BB.out.now.2.2.1).mono ?_)
  rintro e w2 ⟨a3, n3, c3, m3, a4, n4, c4, rfl, hr, hb2⟩
  have BB := Lib.hid (BB.out.go hb2)
  clear hb2
  have hs := BB.out.now.1
  have u0 := hs.cell
  have u1 := hs.cell1
  have u2 := hs.cell2
  have g0 := hs.free
  have g1 := hs.free1
  have g2 := hs.free2
  have HS := hs.set (.slice a3 n3 c3) (.bool m3) (.slice a4 n4 c4)
  have HE := Lib.hid (RatTold4.done 0 BB.out.below (by omega) hs hr)
  clear hs
  go_wp2
  exact bodyPost_ret (v := .tuple #[.agg #[.slice a3 n3 c3, .bool m3, .slice a4 n4 c4], .int .i64 0]) (by simp [results, Tryz.results66, go_sem, HS]) rfl HE.out
set_option maxHeartbeats 3200000 in
set_option maxRecDepth 100000 in
theorem map_33 (a : Option Addr) (n c : Nat) (m : Bool) (a2 : Option Addr) (n2 c2 : Nat) (P : Int) (Q : Nat) (l : Int) (w : World) (h : RatAt w a n c m a2 n2 c2 P Q) (hQ : 0 < Q) (hg : Nat.gcd P.natAbs Q = 1) (K : Nat) (hK : K ≤ 1000) (h1 : P.natAbs < 4294967296 ^ K) (h2 : Q < 4294967296 ^ K) (hl : l ≤ 64) :
    Calls Tryz.prog 66 #[.int .i32 33, .agg #[.slice a n c, .bool m, .slice a2 n2 c2], .int .i64 l] w fun e w' => ∃ P' Q' E', RatTold4 w w' e P' Q' E' ∧ Fits 33 P Q l P' Q' E' := by
  have FA := Lib.hid (fun wz h => mfac_any a n c m a2 n2 c2 P Q l wz h hQ hl)
  clear hl
  have BB := Lib.hid ((((Bag.start w).rat h).box3 (.slice a n c) (.bool m) (.slice a2 n2 c2) 60).box3 (.slice none 0 0) (.bool false) (.slice none 0 0) 60)
  simp only [World.size_alloc] at BB
  have q0 := BB.out.now.2.1.cell
  have q1 := BB.out.now.2.1.cell1
  have q2 := BB.out.now.2.1.cell2
  clear h hQ hg hK h1 h2
  go_enter Tryz.func66, Tryz.ntmps66
  go_wp2_with fail
  go_at_call 126
  (with_reducible refine (FA.out _ BB.out.now.2.2.1).mono ?_)
  rintro e w2 ⟨P9, Q9, E9, ⟨a3, n3, c3, m3, a4, n4, c4, rfl, hr, hb2⟩, hf⟩
  have BB := Lib.hid (BB.out.go hb2)
  clear hb2
  have HF := Lib.hid hf
  clear hf
  have hs := BB.out.now.1
  have u0 := hs.cell
  have u1 := hs.cell1
  have u2 := hs.cell2
  have g0 := hs.free
  have g1 := hs.free1
  have g2 := hs.free2
  have HS := hs.set (.slice a3 n3 c3) (.bool m3) (.slice a4 n4 c4)
  have HE := Lib.hid (RatTold4.done E9 BB.out.below (by omega) hs hr)
  clear hs
  go_wp2
  exact bodyPost_ret (v := .tuple #[.agg #[.slice a3 n3 c3, .bool m3, .slice a4 n4 c4], .int .i64 E9]) (by simp [results, Tryz.results66, go_sem, HS]) rfl ⟨_, _, _, HE.out, HF.out⟩
set_option maxHeartbeats 3200000 in
set_option maxRecDepth 100000 in
theorem map_42 (a : Option Addr) (n c : Nat) (m : Bool) (a2 : Option Addr) (n2 c2 : Nat) (P : Int) (Q : Nat) (l : Int) (w : World) (h : RatAt w a n c m a2 n2 c2 P Q) (hQ : 0 < Q) (hg : Nat.gcd P.natAbs Q = 1) (K : Nat) (hK : K ≤ 1000) (h1 : P.natAbs < 4294967296 ^ K) (h2 : Q < 4294967296 ^ K) :
    Calls Tryz.prog 66 #[.int .i32 42, .agg #[.slice a n c, .bool m, .slice a2 n2 c2], .int .i64 l] w fun e w' => RatTold4 w w' e 0 1 22 := by
  have BB := Lib.hid ((((Bag.start w).rat h).box3 (.slice a n c) (.bool m) (.slice a2 n2 c2) 60).box3 (.slice none 0 0) (.bool false) (.slice none 0 0) 60)
  simp only [World.size_alloc] at BB
  have q0 := BB.out.now.2.1.cell
  have q1 := BB.out.now.2.1.cell1
  have q2 := BB.out.now.2.1.cell2
  clear h hQ hg hK h1 h2
  go_enter Tryz.func66, Tryz.ntmps66
  have hz0 := BB.out.below
  have HE : Hid (RatTold4 w _ (.returned (.tuple #[.agg #[.slice none 0 0, .bool false, .slice none 0 0], .int .i64 22])) _ _ 22) := Lib.hid ⟨_, _, _, _, _, _, _, rfl, (RatAt.zero _), hz0⟩
  clear hz0
  have hs := BB.out.now.1
  have u0 := hs.cell
  have u1 := hs.cell1
  have u2 := hs.cell2
  have g0 := hs.free
  have g1 := hs.free1
  have g2 := hs.free2
  clear hs
  go_wp2
  exact bodyPost_ret (v := .tuple #[.agg #[.slice none 0 0, .bool false, .slice none 0 0], .int .i64 22]) (by simp [results, Tryz.results66, go_sem]) rfl HE.out
set_option maxHeartbeats 3200000 in
set_option maxRecDepth 100000 in
theorem map_9055 (a : Option Addr) (n c : Nat) (m : Bool) (a2 : Option Addr) (n2 c2 : Nat) (P : Int) (Q : Nat) (l : Int) (w : World) (h : RatAt w a n c m a2 n2 c2 P Q) (hQ : 0 < Q) (hg : Nat.gcd P.natAbs Q = 1) (K : Nat) (hK : K ≤ 1000) (h1 : P.natAbs < 4294967296 ^ K) (h2 : Q < 4294967296 ^ K) :
    Calls Tryz.prog 66 #[.int .i32 9055, .agg #[.slice a n c, .bool m, .slice a2 n2 c2], .int .i64 l] w fun e w' => RatTold4 w w' e 0 1 22 := by
  have BB := Lib.hid ((((Bag.start w).rat h).box3 (.slice a n c) (.bool m) (.slice a2 n2 c2) 60).box3 (.slice none 0 0) (.bool false) (.slice none 0 0) 60)
  simp only [World.size_alloc] at BB
  have q0 := BB.out.now.2.1.cell
  have q1 := BB.out.now.2.1.cell1
  have q2 := BB.out.now.2.1.cell2
  clear h hQ hg hK h1 h2
  go_enter Tryz.func66, Tryz.ntmps66
  have hz0 := BB.out.below
  have HE : Hid (RatTold4 w _ (.returned (.tuple #[.agg #[.slice none 0 0, .bool false, .slice none 0 0], .int .i64 22])) _ _ 22) := Lib.hid ⟨_, _, _, _, _, _, _, rfl, (RatAt.zero _), hz0⟩
  clear hz0
  have hs := BB.out.now.1
  have u0 := hs.cell
  have u1 := hs.cell1
  have u2 := hs.cell2
  have g0 := hs.free
  have g1 := hs.free1
  have g2 := hs.free2
  clear hs
  go_wp2
  exact bodyPost_ret (v := .tuple #[.agg #[.slice none 0 0, .bool false, .slice none 0 0], .int .i64 22]) (by simp [results, Tryz.results66, go_sem]) rfl HE.out
set_option maxHeartbeats 3200000 in
set_option maxRecDepth 100000 in
theorem map_9675 (a : Option Addr) (n c : Nat) (m : Bool) (a2 : Option Addr) (n2 c2 : Nat) (P : Int) (Q : Nat) (l : Int) (w : World) (h : RatAt w a n c m a2 n2 c2 P Q) (hQ : 0 < Q) (hg : Nat.gcd P.natAbs Q = 1) (K : Nat) (hK : K ≤ 1000) (h1 : P.natAbs < 4294967296 ^ K) (h2 : Q < 4294967296 ^ K) :
    Calls Tryz.prog 66 #[.int .i32 9675, .agg #[.slice a n c, .bool m, .slice a2 n2 c2], .int .i64 l] w fun e w' => RatTold4 w w' e 0 1 22 := by
  have BB := Lib.hid ((((Bag.start w).rat h).box3 (.slice a n c) (.bool m) (.slice a2 n2 c2) 60).box3 (.slice none 0 0) (.bool false) (.slice none 0 0) 60)
  simp only [World.size_alloc] at BB
  have q0 := BB.out.now.2.1.cell
  have q1 := BB.out.now.2.1.cell1
  have q2 := BB.out.now.2.1.cell2
  clear h hQ hg hK h1 h2
  go_enter Tryz.func66, Tryz.ntmps66
  have hz0 := BB.out.below
  have HE : Hid (RatTold4 w _ (.returned (.tuple #[.agg #[.slice none 0 0, .bool false, .slice none 0 0], .int .i64 22])) _ _ 22) := Lib.hid ⟨_, _, _, _, _, _, _, rfl, (RatAt.zero _), hz0⟩
  clear hz0
  have hs := BB.out.now.1
  have u0 := hs.cell
  have u1 := hs.cell1
  have u2 := hs.cell2
  have g0 := hs.free
  have g1 := hs.free1
  have g2 := hs.free2
  clear hs
  go_wp2
  exact bodyPost_ret (v := .tuple #[.agg #[.slice none 0 0, .bool false, .slice none 0 0], .int .i64 22]) (by simp [results, Tryz.results66, go_sem]) rfl HE.out
theorem mapplied_any (c0 : Int) (a : Option Addr) (n c : Nat) (m : Bool) (a2 : Option Addr) (n2 c2 : Nat) (P : Int) (Q : Nat) (l : Int) (w : World) (h : RatAt w a n c m a2 n2 c2 P Q) (hQ : 0 < Q) (hg : Nat.gcd P.natAbs Q = 1) (K : Nat) (hK : K ≤ 1000) (h1 : P.natAbs < 4294967296 ^ K) (h2 : Q < 4294967296 ^ K) (hl : l ≤ 64) (hc : hasB c0 = true) (hn : c0 ≠ 126) :
    Calls Tryz.prog 66 #[.int .i32 c0, .agg #[.slice a n c, .bool m, .slice a2 n2 c2], .int .i64 l] w fun e w' => ∃ P' Q' E', RatTold4 w w' e P' Q' E' ∧ Fits c0 P Q l P' Q' E' := by
  have hc2 := of_decide_eq_true hc
  rcases hc2 with rfl | rfl | rfl | rfl | rfl | rfl | rfl | rfl | rfl | rfl | rfl | rfl
  · exact (map_43 a n c m a2 n2 c2 P Q l w h hQ hg K hK h1 h2).mono (fun e w' q => ⟨_, _, _, q, fits_ok (c := 43) (by decide) (by decide) (by unfold aN; simp) (hQ)⟩)
  · exact (map_45 a n c m a2 n2 c2 P Q l w h hQ hg K hK h1 h2).mono (fun e w' q => ⟨_, _, _, q, fits_ok (c := 45) (by decide) (by decide) (by unfold aN; simp) (hQ)⟩)
  · exact (map_124 a n c m a2 n2 c2 P Q l w h hQ hg K hK h1 h2).mono (fun e w' q => ⟨_, _, _, q, fits_ok (c := 124) (by decide) (by decide) (by unfold aN; simp) (hQ)⟩)
  · exact (map_42 a n c m a2 n2 c2 P Q l w h hQ hg K hK h1 h2).mono (fun e w' q => ⟨_, _, _, q, fits_no (c := 42) (by decide) (by decide) (by unfold aN; simp)⟩)
  · exact map_33 a n c m a2 n2 c2 P Q l w h hQ hg K hK h1 h2 hl
  · exact absurd rfl hn
  · exact (map_215 a n c m a2 n2 c2 P Q l w h hQ hg K hK h1 h2).mono (fun e w' q => ⟨_, _, _, q, fits_ok (c := 215) (by decide) (by decide) (by unfold aN; simp) (Nat.one_pos)⟩)
  · by_cases hP : P = 0
    · have := map_247 a n c m a2 n2 c2 P Q l w h hQ hg K hK h1 h2
      rw [if_pos hP, if_pos hP, if_pos hP] at this
      exact this.mono (fun e w' q => ⟨_, _, _, q, fits_no (c := 247) (by decide) (by decide) (by unfold aN; simp [hP])⟩)
    · have := map_247 a n c m a2 n2 c2 P Q l w h hQ hg K hK h1 h2
      rw [if_neg hP, if_neg hP, if_neg hP] at this
      exact this.mono (fun e w' q => ⟨_, _, _, q, fits_ok (c := 247) (P := P) (Q := Q) (by decide) (by decide) (by unfold aN; simp [hP]) (show 0 < P.natAbs by omega)⟩)
  · exact (map_8968 a n c m a2 n2 c2 P Q l w h hQ hg K hK h1 h2).mono (fun e w' q => ⟨_, _, _, q, fits_ok (c := 8968) (by decide) (by decide) (by unfold aN; simp) (Nat.one_pos)⟩)
  · exact (map_8970 a n c m a2 n2 c2 P Q l w h hQ hg K hK h1 h2).mono (fun e w' q => ⟨_, _, _, q, fits_ok (c := 8970) (by decide) (by decide) (by unfold aN; simp) (Nat.one_pos)⟩)
  · exact (map_9055 a n c m a2 n2 c2 P Q l w h hQ hg K hK h1 h2).mono (fun e w' q => ⟨_, _, _, q, fits_no (c := 9055) (by decide) (by decide) (by unfold aN; simp)⟩)
  · exact (map_9675 a n c m a2 n2 c2 P Q l w h hQ hg K hK h1 h2).mono (fun e w' q => ⟨_, _, _, q, fits_no (c := 9675) (by decide) (by decide) (by unfold aN; simp)⟩)
theorem oPQ_no {c P : Int} {Q : Nat} {l : Int} (h : oE c P Q l ≠ 0) : oP c P Q l = 0 ∧ oQ c P Q l = 1 := by
  unfold oP oQ
  rw [if_neg h, if_neg h]
  exact ⟨rfl, rfl⟩
set_option maxHeartbeats 3200000 in
set_option maxRecDepth 100000 in
theorem mone_any (c0 : Int) (a : Option Addr) (n c : Nat) (m : Bool) (a2 : Option Addr) (n2 c2 : Nat) (P : Int) (Q : Nat) (l : Int) (w : World) (h : RatAt w a n c m a2 n2 c2 P Q) (hQ : 0 < Q) (hg : Nat.gcd P.natAbs Q = 1) (K : Nat) (hK : K ≤ 1000) (h1 : P.natAbs < 4294967296 ^ K) (h2 : Q < 4294967296 ^ K) (hl : l ≤ 64) :
    Calls Tryz.prog 25 #[.int .i32 c0, .agg #[.slice a n c, .bool m, .slice a2 n2 c2], .int .i64 l] w fun e w' => RatTold4 w w' e (oP c0 P Q l) (oQ c0 P Q l) (oE c0 P Q l) := by
  have HA := Lib.hid (fun wz => mhas_any c0 wz)
  cases hc : hasB c0 with
  | false =>
    have hE : oE c0 P Q l = 20 := by
      unfold oE
      rw [if_pos hc]
    obtain ⟨e1, e2⟩ := oPQ_no (c := c0) (P := P) (Q := Q) (l := l) (by rw [hE]; decide)
    rw [hE, e1, e2]
    rw [hc] at HA
    have BB := Lib.hid ((((Bag.start w).rat h).box3 (.slice a n c) (.bool m) (.slice a2 n2 c2) 60).box3 (.slice none 0 0) (.bool false) (.slice none 0 0) 60)
    simp only [World.size_alloc] at BB
    clear h hQ hg hK h1 h2 hc hE e1 e2 hl
    go_enter Tryz.func25, Tryz.ntmps25
    go_wp2_with fail
    go_at_call 27
    (with_reducible refine (HA.out _).mono ?_)
    rintro e w2 ⟨rfl, hb2⟩
    have BB := Lib.hid (BB.out.go hb2)
    clear hb2
    have hs := BB.out.now.1
    have u0 := hs.cell
    have u1 := hs.cell1
    have u2 := hs.cell2
    have g0 := hs.free
    have g1 := hs.free1
    have g2 := hs.free2
    have HS := hs.set (.slice none 0 0) (.bool false) (.slice none 0 0)
    have HE := Lib.hid (RatTold4.done 20 BB.out.below (by omega) hs (RatAt.zero _))
    clear hs
    go_wp2
    exact bodyPost_ret (v := .tuple #[.agg #[.slice none 0 0, .bool false, .slice none 0 0], .int .i64 20]) (by simp [results, Tryz.results25, go_sem, HS]) rfl HE.out
  | true =>
    rw [hc] at HA
    by_cases h126 : c0 = 126
    · subst h126
      have hd : ((126 : Int) == 126) = true := rfl
      by_cases hq : Q = 1 ∧ (P = 0 ∨ P = 1)
      · have hE : oE 126 P Q l = 0 := by
          unfold oE
          rw [if_neg (by decide), if_pos rfl, if_pos hq]
        have e1 : oP 126 P Q l = 1 - P := by
          unfold oP
          rw [if_pos hE, if_pos rfl]
        have e2 : oQ 126 P Q l = 1 := by
          unfold oQ
          rw [if_pos hE, if_pos rfl]
        rw [hE, e1, e2]
        have NO := Lib.hid (fun wz h => mnot_yes a n c m a2 n2 c2 P Q wz h hq.1 hq.2)
        generalize 1 - P = Z at *
        have BB := Lib.hid ((((Bag.start w).rat h).box3 (.slice a n c) (.bool m) (.slice a2 n2 c2) 60).box3 (.slice none 0 0) (.bool false) (.slice none 0 0) 60)
        simp only [World.size_alloc] at BB
        clear h hQ hg hK h1 h2 hc hE e1 e2 hl hd hq
        go_enter Tryz.func25, Tryz.ntmps25
        go_wp2_with fail
        go_at_call 27
        (with_reducible refine (HA.out _).mono ?_)
        rintro e w2 ⟨rfl, hb2⟩
        have BB := Lib.hid (BB.out.go hb2)
        clear hb2
        have q0 := BB.out.now.2.1.cell
        have q1 := BB.out.now.2.1.cell1
        have q2 := BB.out.now.2.1.cell2
        go_wp2_with fail
        go_at_call 65
        (with_reducible refine (NO.out _ BB.out.now.2.2.1).mono ?_)
        rintro e w3 ⟨a3, n3, c3, m3, a4, n4, c4, rfl, hr, hb3⟩
        have BB := Lib.hid (BB.out.go hb3)
        clear hb3
        have hs := BB.out.now.1
        have u0 := hs.cell
        have u1 := hs.cell1
        have u2 := hs.cell2
        have g0 := hs.free
        have g1 := hs.free1
        have g2 := hs.free2
        have HS := hs.set (.slice a3 n3 c3) (.bool m3) (.slice a4 n4 c4)
        have HE := Lib.hid (RatTold4.done 0 BB.out.below (by omega) hs hr)
        clear hs
        go_wp2
        exact bodyPost_ret (v := .tuple #[.agg #[.slice a3 n3 c3, .bool m3, .slice a4 n4 c4], .int .i64 0]) (by simp [results, Tryz.results25, go_sem, HS]) rfl HE.out
      · have hE : oE 126 P Q l = 22 := by
          unfold oE
          rw [if_neg (by decide), if_pos rfl, if_neg hq]
        obtain ⟨e1, e2⟩ := oPQ_no (c := 126) (P := P) (Q := Q) (l := l) (by rw [hE]; decide)
        rw [hE, e1, e2]
        have NO := Lib.hid (fun wz h => mnot_no a n c m a2 n2 c2 P Q wz h hQ hq)
        have BB := Lib.hid ((((Bag.start w).rat h).box3 (.slice a n c) (.bool m) (.slice a2 n2 c2) 60).box3 (.slice none 0 0) (.bool false) (.slice none 0 0) 60)
        simp only [World.size_alloc] at BB
        clear h hQ hg hK h1 h2 hc hE e1 e2 hl hd hq
        go_enter Tryz.func25, Tryz.ntmps25
        go_wp2_with fail
        go_at_call 27
        (with_reducible refine (HA.out _).mono ?_)
        rintro e w2 ⟨rfl, hb2⟩
        have BB := Lib.hid (BB.out.go hb2)
        clear hb2
        have q0 := BB.out.now.2.1.cell
        have q1 := BB.out.now.2.1.cell1
        have q2 := BB.out.now.2.1.cell2
        go_wp2_with fail
        go_at_call 65
        (with_reducible refine (NO.out _ BB.out.now.2.2.1).mono ?_)
        rintro e w3 ⟨a3, n3, c3, m3, a4, n4, c4, rfl, hr, hb3⟩
        have BB := Lib.hid (BB.out.go hb3)
        clear hb3
        have hs := BB.out.now.1
        have u0 := hs.cell
        have u1 := hs.cell1
        have u2 := hs.cell2
        have g0 := hs.free
        have g1 := hs.free1
        have g2 := hs.free2
        have HS := hs.set (.slice a3 n3 c3) (.bool m3) (.slice a4 n4 c4)
        have HE := Lib.hid (RatTold4.done 22 BB.out.below (by omega) hs hr)
        clear hs
        go_wp2
        exact bodyPost_ret (v := .tuple #[.agg #[.slice a3 n3 c3, .bool m3, .slice a4 n4 c4], .int .i64 22]) (by simp [results, Tryz.results25, go_sem, HS]) rfl HE.out
    · have AP := Lib.hid (fun wz h => mapplied_any c0 a n c m a2 n2 c2 P Q l wz h hQ hg K hK h1 h2 hl hc h126)
      have hmin : min l 64 = l := by omega
      have dc : (c0 == 126) = false := beq_eq_false_iff_ne.2 h126
      obtain ⟨PP, hPP⟩ : ∃ z, oP c0 P Q l = z := ⟨_, rfl⟩
      obtain ⟨QQ, hQQ⟩ : ∃ z, oQ c0 P Q l = z := ⟨_, rfl⟩
      obtain ⟨EE, hEE⟩ : ∃ z, oE c0 P Q l = z := ⟨_, rfl⟩
      have HNO := Lib.hid (fun h : EE ≠ 0 => (oPQ_no (c := c0) (P := P) (Q := Q) (l := l) (by rw [hEE]; exact h)))
      unfold Fits at AP
      rw [hPP, hQQ] at HNO
      rw [hPP, hQQ, hEE]
      simp only [hPP, hQQ, hEE] at AP
      clear hPP hQQ hEE
      have BB := Lib.hid ((((Bag.start w).rat h).box3 (.slice a n c) (.bool m) (.slice a2 n2 c2) 60).box3 (.slice none 0 0) (.bool false) (.slice none 0 0) 60)
      simp only [World.size_alloc] at BB
      have q0 := BB.out.now.2.1.cell
      have q1 := BB.out.now.2.1.cell1
      have q2 := BB.out.now.2.1.cell2
      clear h hQ hg hK h1 h2 hc hl h126
      go_enter Tryz.func25, Tryz.ntmps25
      go_wp2_with fail
      go_at_call 27
      (with_reducible refine (HA.out _).mono ?_)
      rintro e w2 ⟨rfl, hb2⟩
      have BB := Lib.hid (BB.out.go hb2)
      clear hb2
      have q0 := BB.out.now.2.1.cell
      have q1 := BB.out.now.2.1.cell1
      have q2 := BB.out.now.2.1.cell2
      go_wp2_with fail
      go_at_call 66
      (with_reducible refine (AP.out _ BB.out.now.2.2.1).mono ?_)
      rintro e w3 ⟨P9, Q9, E9, ⟨a3, n3, c3, m3, a4, n4, c4, rfl, hr, hb3⟩, hQ9, h3, hne, heq⟩
      have BB := Lib.hid (((BB.out.go hb3).rat hr).box3 (.slice a3 n3 c3) (.bool m3) (.slice a4 n4 c4) 60)
      clear hb3 hr
      by_cases hE9 : E9 = 0
      · subst hE9
        have heq := heq rfl
        have LM := Lib.hid (fun wz h => ratLimbs_any a3 n3 c3 m3 a4 n4 c4 P9 Q9 wz h hQ9)
        have LM : Hid (∀ wz, RatAt wz a3 n3 c3 m3 a4 n4 c4 P9 Q9 → Calls Tryz.prog 67 #[.agg #[.slice a3 n3 c3, .bool m3, .slice a4 n4 c4]] wz fun e w' => e = .returned (.int .i64 (limZ P9 Q9)) ∧ Below wz.heap.size wz w') := LM
        obtain ⟨LZ, hLZ⟩ : ∃ z, limZ P9 Q9 = z := ⟨_, rfl⟩
        rw [hLZ] at LM heq
        clear hLZ h3 hne hQ9
        have r0 := BB.out.now.1.cell
        have r1 := BB.out.now.1.cell1
        have r2 := BB.out.now.1.cell2
        by_cases hlt : l < LZ
        · rw [if_pos hlt] at heq
          obtain ⟨e1, e2⟩ := HNO.out (by rw [heq]; decide)
          subst heq e1 e2
          go_wp2_with fail
          go_at_call 67
          (with_reducible refine (LM.out _ BB.out.now.2.1).mono ?_)
          rintro e w4 ⟨rfl, hb4⟩
          have BB := Lib.hid (BB.out.go hb4)
          clear hb4
          have hs := BB.out.now.2.2.1
          have u0 := hs.cell
          have u1 := hs.cell1
          have u2 := hs.cell2
          have g0 := hs.free
          have g1 := hs.free1
          have g2 := hs.free2
          have HS := hs.set (.slice none 0 0) (.bool false) (.slice none 0 0)
          have HE := Lib.hid (RatTold4.done 26 BB.out.below (by omega) hs (RatAt.zero _))
          clear hs
          go_wp2
          exact bodyPost_ret (v := .tuple #[.agg #[.slice none 0 0, .bool false, .slice none 0 0], .int .i64 26]) (by simp [results, Tryz.results25, go_sem, HS]) rfl HE.out
        · rw [if_neg hlt] at heq
          obtain ⟨rfl, rfl, rfl⟩ := heq
          go_wp2_with fail
          go_at_call 67
          (with_reducible refine (LM.out _ BB.out.now.2.1).mono ?_)
          rintro e w4 ⟨rfl, hb4⟩
          have BB := Lib.hid (BB.out.go hb4)
          clear hb4
          have r0 := BB.out.now.1.cell
          have r1 := BB.out.now.1.cell1
          have r2 := BB.out.now.1.cell2
          have hs := BB.out.now.2.2.1
          have u0 := hs.cell
          have u1 := hs.cell1
          have u2 := hs.cell2
          have g0 := hs.free
          have g1 := hs.free1
          have g2 := hs.free2
          have HS := hs.set (.slice a3 n3 c3) (.bool m3) (.slice a4 n4 c4)
          have HE := Lib.hid (RatTold4.done 0 BB.out.below (by omega) hs BB.out.now.2.1)
          clear hs
          go_wp2
          exact bodyPost_ret (v := .tuple #[.agg #[.slice a3 n3 c3, .bool m3, .slice a4 n4 c4], .int .i64 0]) (by simp [results, Tryz.results25, go_sem, HS]) rfl HE.out
      · have e0 := hne hE9
        subst e0
        obtain ⟨e1, e2⟩ := HNO.out hE9
        subst e1 e2
        have dE : (EE != 0) = true := bne_iff_ne.2 hE9
        clear h3 hne heq hE9 hQ9 HNO
        have hs := BB.out.now.2.2.1
        have u0 := hs.cell
        have u1 := hs.cell1
        have u2 := hs.cell2
        have g0 := hs.free
        have g1 := hs.free1
        have g2 := hs.free2
        have HS := hs.set (.slice none 0 0) (.bool false) (.slice none 0 0)
        have HE := Lib.hid (RatTold4.done EE BB.out.below (by omega) hs (RatAt.zero _))
        clear hs
        go_wp2
        exact bodyPost_ret (v := .tuple #[.agg #[.slice none 0 0, .bool false, .slice none 0 0], .int .i64 EE]) (by simp [results, Tryz.results25, go_sem, HS]) rfl HE.out
end Go.Proofs.YtnpoakaffafdiaaGreatDoor

namespace Go.Proofs.YtnpoakaffafdiaaGreatDoor
open Go.RowKit
attribute [local go_sem ↓] Go.wp_at_zero Go.wp_at_succ
/-- Is it a number, and which: by its digits. -/
def ofK (s t : ByteArray) : Bool := okB s.data.toList && okB t.data.toList && !decide (numOf t.data.toList = 0)
def ofP (b : Bool) (s t : ByteArray) : Int := loP (sgn b (numOf s.data.toList)) (numOf t.data.toList)
def ofQ (b : Bool) (s t : ByteArray) : Nat := loQ (sgn b (numOf s.data.toList)) (numOf t.data.toList)
set_option linter.unusedSimpArgs false in
set_option maxHeartbeats 6400000 in
set_option maxRecDepth 100000 in
theorem of_some (b : Bool) (s t : ByteArray) (w : World) (hs : s.size ≤ 60) (ht : t.size ≤ 60) (hk : ofK s t = true) (x : Bool) (hx : x = decide (rB (ofP b s t) = b ∧ rS (ofP b s t) = s ∧ str (dec (ofQ b s t)) = t)) :
    Calls Tryz.prog 63 #[.agg #[.bool b, .string s, .string t]] w fun e w' => RatTold3 w w' e (if x then ofP b s t else 0) (if x then ofQ b s t else 1) x := by
  have B0 := (Bag.start w).box3 (.bool b) (.string s) (.string t) 53 |>.box3 (.slice none 0 0) (.bool false) (.slice none 0 0) 60
  simp only [World.size_alloc] at B0
  unfold ofK at hk
  rw [Bool.and_eq_true, Bool.and_eq_true] at hk
  obtain ⟨⟨hk1, hk2⟩, hk3⟩ := hk
  have hM : 0 < numOf t.data.toList := by
    rw [Bool.not_eq_true', decide_eq_false_iff_not] at hk3; omega
  have RS1 := Lib.hid (fun wz => ratRead_yes s wz (by omega) hk1)
  have RS2 := Lib.hid (fun wz => ratRead_yes t wz (by omega) hk2)
  unfold SubOf3 at RS1 RS2
  have hsz : ∀ u : ByteArray, u.size ≤ 60 → okB u.data.toList = true → numOf u.data.toList < 10 ^ 60 := fun u hu hok => by
    obtain ⟨g1, g2, g3⟩ := okB_digs hok
    have h2 : u.data.toList.length = u.size := rfl
    exact Nat.lt_of_lt_of_le (numOf_lt _ g3) (Nat.pow_le_pow_right (by omega) (by omega))
  have hN1 := hsz s hs hk1
  have hM1 := hsz t ht hk2
  have h10 : (10 : Nat) ^ 60 < 4294967296 ^ 7 := by decide
  have ZE := Lib.hid (fun a n c wz (h : NatIs wz (.agg #[.slice a n c]) (numOf t.data.toList)) => zero_any _ _ wz h)
  rw [decide_eq_false (show ¬ numOf t.data.toList = 0 by omega)] at ZE
  have OF := Lib.hid (fun a n c wz (h : NatIs wz (.agg #[.slice a n c]) (numOf s.data.toList)) => wof_any b a n c _ wz h)
  have LW := Lib.hid (fun a n c m a2 n2 c2 wz (h : IntAt wz a n c m (sgn b (numOf s.data.toList))) (g : NatIs wz (.agg #[.slice a2 n2 c2]) (numOf t.data.toList)) => lowest_any a n c m _ a2 n2 c2 _ wz h g hM 7 (by omega) (by rw [sgn_abs]; omega) (by omega))
  rw [show loP (sgn b (numOf s.data.toList)) (numOf t.data.toList) = ofP b s t from rfl, show loQ (sgn b (numOf s.data.toList)) (numOf t.data.toList) = ofQ b s t from rfl] at LW
  have hQ0 : 0 < ofQ b s t := loQ_pos _ hM
  have hP7 : (ofP b s t).natAbs < 4294967296 ^ 7 := Nat.lt_of_le_of_lt (loP_absle _ _) (by rw [sgn_abs]; omega)
  have hQ7 : ofQ b s t < 4294967296 ^ 7 := Nat.lt_of_le_of_lt (loQ_le _ _) (by omega)
  have NM := Lib.hid (fun a n c m a2 n2 c2 wz hz => num_any a n c m a2 n2 c2 (ofP b s t) (ofQ b s t) wz hz hQ0 7 (by omega) hP7 hQ7)
  unfold NumTold at NM
  generalize ofP b s t = P at *
  generalize ofQ b s t = Q at *
  obtain ⟨pb, hpb⟩ : ∃ pb, rB P = pb := ⟨_, rfl⟩
  obtain ⟨ps, hps⟩ : ∃ ps, rS P = ps := ⟨_, rfl⟩
  obtain ⟨pt, hpt⟩ : ∃ pt, str (dec Q) = pt := ⟨_, rfl⟩
  rw [hpb, hps, hpt] at NM hx
  obtain ⟨v1, hv1⟩ : ∃ v, (pb == b) = v := ⟨_, rfl⟩
  obtain ⟨v2, hv2⟩ : ∃ v, (ps.toList == s.toList) = v := ⟨_, rfl⟩
  obtain ⟨v3, hv3⟩ : ∃ v, (pt.toList == t.toList) = v := ⟨_, rfl⟩
  have hbl : ∀ u v : ByteArray, u.toList = v.toList ↔ u = v := fun u v => ⟨fun h => by rw [ByteArray.toList_eq, ByteArray.toList_eq] at h; exact ByteArray.ext (Array.toList_inj.1 h), fun h => by rw [h]⟩
  have hx2 : x = (v1 && (v2 && v3)) := by
    rw [hx, Bool.eq_iff_iff, decide_eq_true_eq, Bool.and_eq_true, Bool.and_eq_true, ← hv1, ← hv2, ← hv3, beq_iff_eq, beq_iff_eq, beq_iff_eq, hbl, hbl]
  subst hx2
  clear hx hpb hps hpt hbl
  have BB := Lib.hid B0
  have q0 := B0.now.2.1.cell
  have q1 := B0.now.2.1.cell1
  have q2 := B0.now.2.1.cell2
  clear B0 hs ht hk1 hk2 hk3 hM hsz hN1 hM1 h10 hQ0 hP7 hQ7
  go_enter Tryz.func63, Tryz.ntmps63
  go_wp2_with (first
    | (go_at_call 117; (with_reducible refine (RS1.out _).mono ?_); rintro e w2 ⟨a3, n3, c3, rfl, hn3, hb2⟩; have hk2 := (BB.out.go hb2).now.1.lt; have BB := Lib.hid (((BB.out.go hb2).nat hn3).box (.slice a3 n3 c3) 56); clear hb2 hn3; have q0 := BB.out.now.2.2.2.1.cell; have q1 := BB.out.now.2.2.2.1.cell1; have q2 := BB.out.now.2.2.2.1.cell2)
    | (go_at_call 117; (with_reducible refine (RS2.out _).mono ?_); rintro e w3 ⟨a4, n4, c4, rfl, hn4, hb3⟩; have hk3 := (BB.out.go hb3).now.1.lt; have BB := Lib.hid (((BB.out.go hb3).nat hn4).box (.slice a4 n4 c4) 56); clear hb3 hn4; have q3 := BB.out.now.1.cell)
    | (go_at_call 107; (with_reducible refine (ZE.out _ _ _ _ BB.out.now.2.1).mono ?_); rintro e w4 ⟨rfl, hb4⟩; have BB := Lib.hid (BB.out.go hb4); clear hb4; have q0 := BB.out.now.2.2.2.2.2.1.cell; have q1 := BB.out.now.2.2.2.2.2.1.cell1; have q2 := BB.out.now.2.2.2.2.2.1.cell2; have q3 := BB.out.now.1.cell; have q4 := BB.out.now.2.2.1.cell))
  have HP : Hid (∀ (y : World) (k : Nat), Slot3 y k (.slice none 0 0) (.bool false) (.slice none 0 0) → w3.heap.size < k → Bag w (fun y => Slot y w3.heap.size (.slice a4 n4 c4) ∧ NatIs y (.agg #[.slice a4 n4 c4]) (numOf t.data.toList) ∧ Slot y w2.heap.size (.slice a3 n3 c3) ∧ NatIs y (.agg #[.slice a3 n3 c3]) (numOf s.data.toList) ∧ Slot3 y (w.heap.size + 1) (.slice none 0 0) (.bool false) (.slice none 0 0) ∧ Slot3 y w.heap.size (.bool b) (.string s) (.string t) ∧ True) y → ∀ (a9 : Option Addr) (n9 c9 : Nat) (m9 : Bool) (a10 : Option Addr) (n10 c10 : Nat), Bag w (fun y => Slot y w3.heap.size (.slice a4 n4 c4) ∧ NatIs y (.agg #[.slice a4 n4 c4]) (numOf t.data.toList) ∧ Slot y w2.heap.size (.slice a3 n3 c3) ∧ NatIs y (.agg #[.slice a3 n3 c3]) (numOf s.data.toList) ∧ Slot3 y (w.heap.size + 1) (.slice none 0 0) (.bool false) (.slice none 0 0) ∧ Slot3 y w.heap.size (.bool b) (.string s) (.string t) ∧ True) (((y.setCell ⟨k, 0, none⟩ (.slice a9 n9 c9)).setCell ⟨k, 1, none⟩ (.bool m9)).setCell ⟨k, 2, none⟩ (.slice a10 n10 c10))) := by
    intro y k s hk B a9 n9 c9 m9 a10 n10 c10
    have hx : ∀ (x : Option Addr) (y z : Nat) (ki : IntKind) (i : Int), (Value.slice x y z) ≠ .int ki i := fun _ _ _ _ _ h => by cases h
    have hb : ∀ (x : Bool) (ki : IntKind) (i : Int), (Value.bool x) ≠ .int ki i := fun _ _ _ h => by cases h
    have q := B.now
    exact ⟨((B.below.setCell (p := ⟨k, 0, none⟩) (show w.heap.size ≤ k by omega) _).setCell (p := ⟨k, 1, none⟩) (show w.heap.size ≤ k by omega) _).setCell (p := ⟨k, 2, none⟩) (show w.heap.size ≤ k by omega) _, B.stay, q.1.set3o (by omega) _ _ _, q.2.1.set3 s (hx _ _ _) (hb _) (hx _ _ _) _ _ _, q.2.2.1.set3o (by omega) _ _ _, q.2.2.2.1.set3 s (hx _ _ _) (hb _) (hx _ _ _) _ _ _, q.2.2.2.2.1.set3o (by omega) _ _ _, q.2.2.2.2.2.1.set3o (by omega) _ _ _, trivial⟩
  have HC : Hid (∀ y, (fun y => Slot y w3.heap.size (.slice a4 n4 c4) ∧ NatIs y (.agg #[.slice a4 n4 c4]) (numOf t.data.toList) ∧ Slot y w2.heap.size (.slice a3 n3 c3) ∧ NatIs y (.agg #[.slice a3 n3 c3]) (numOf s.data.toList) ∧ Slot3 y (w.heap.size + 1) (.slice none 0 0) (.bool false) (.slice none 0 0) ∧ Slot3 y w.heap.size (.bool b) (.string s) (.string t) ∧ True) y → ((y.cell? ⟨w.heap.size, 0, none⟩ = some (.bool b) ∧ y.cell? ⟨w.heap.size, 1, none⟩ = some (.string s) ∧ y.cell? ⟨w.heap.size, 2, none⟩ = some (.string t)) ∧ y.cell? ⟨w2.heap.size, 0, none⟩ = some (.slice a3 n3 c3) ∧ y.cell? ⟨w3.heap.size, 0, none⟩ = some (.slice a4 n4 c4))) := fun y h => ⟨⟨h.2.2.2.2.2.1.cell, h.2.2.2.2.2.1.cell1, h.2.2.2.2.2.1.cell2⟩, h.2.2.1.cell, h.1.cell⟩
  refine wp_capture (fun R hR => ?_)
  have TL : ∀ (k8 : Nat) (a5 : Option Addr) (n5 c5 : Nat) (m5 : Bool) (a6 : Option Addr) (n6 c6 : Nat) (m6 : Bool) (a7 : Option Addr) (n7 c7 : Nat) (wy : World), Bag w (fun y => Slot y w3.heap.size (.slice a4 n4 c4) ∧ NatIs y (.agg #[.slice a4 n4 c4]) (numOf t.data.toList) ∧ Slot y w2.heap.size (.slice a3 n3 c3) ∧ NatIs y (.agg #[.slice a3 n3 c3]) (numOf s.data.toList) ∧ Slot3 y (w.heap.size + 1) (.slice none 0 0) (.bool false) (.slice none 0 0) ∧ Slot3 y w.heap.size (.bool b) (.string s) (.string t) ∧ True) wy → Slot3 wy k8 (.slice a6 n6 c6) (.bool m6) (.slice a7 n7 c7) → RatAt wy a6 n6 c6 m6 a7 n7 c7 P Q → R .normal { tmps := #[Value.agg #[Value.bool b, Value.string s, Value.string t], Value.pointer (some { block := w.heap.size, off := 0 }), Value.pointer (some { block := w.heap.size + 1, off := 0 }), Value.bool false, Value.pointer (some { block := w2.heap.size, off := 0 }), Value.bool true, Value.pointer (some { block := w3.heap.size, off := 0 }), Value.bool true, Value.pointer (some { block := k8, off := 0 }), Value.tuple #[Value.agg #[Value.slice a3 n3 c3], Value.bool true], Value.pointer (some { block := w.heap.size, off := 1 }), Value.string s, Value.tuple #[Value.agg #[Value.slice a3 n3 c3], Value.bool true], Value.agg #[Value.slice a3 n3 c3], Value.bool true, Value.tuple #[Value.agg #[Value.slice a4 n4 c4], Value.bool true], Value.pointer (some { block := w.heap.size, off := 2 }), Value.string t, Value.tuple #[Value.agg #[Value.slice a4 n4 c4], Value.bool true], Value.agg #[Value.slice a4 n4 c4], Value.bool true, Value.bool true, Value.bool false, Value.bool false, Value.bool true, Value.bool false, Value.bool false, Value.bool false, Value.agg #[Value.slice a4 n4 c4], Value.bool false, Value.bool false, undef, Value.pointer (some { block := w.heap.size, off := 0 }), Value.bool b, Value.agg #[Value.slice a3 n3 c3], Value.agg #[Value.slice a5 n5 c5, Value.bool m5], Value.agg #[Value.slice a4 n4 c4], Value.agg #[Value.slice a6 n6 c6, Value.bool m6, Value.slice a7 n7 c7], undef, undef, undef, undef, undef, undef], defers := [] } wy := by
    intro k8 a5 n5 c5 m5 a6 n6 c6 m6 a7 n7 c7 wy B1 sA hr5
    rw [hR]
    have BB := Lib.hid ((B1.slot3 sA).rat hr5)
    have q0 := BB.out.now.2.1.cell
    have q1 := BB.out.now.2.1.cell1
    have q2 := BB.out.now.2.1.cell2
    clear B1 sA hr5
    have BB := Lib.hid BB.out.drew
    cases v1 <;> cases v2 <;> cases v3
    all_goals
      go_wp2_with fail
      go_region_held3 (fun y => (y.cell? ⟨k8, 0, none⟩ = some (.slice a6 n6 c6) ∧ y.cell? ⟨k8, 1, none⟩ = some (.bool m6) ∧ y.cell? ⟨k8, 2, none⟩ = some (.slice a7 n7 c7)) ∧ y.cell? ⟨w.heap.size, 0, none⟩ = some (.bool b) ∧ y.cell? ⟨w.heap.size, 1, none⟩ = some (.string s) ∧ y.cell? ⟨w.heap.size, 2, none⟩ = some (.string t))
        (exact ⟨⟨BB.out.now.2.1.cell, BB.out.now.2.1.cell1, BB.out.now.2.1.cell2⟩, BB.out.now.2.2.2.2.2.2.2.1.cell, BB.out.now.2.2.2.2.2.2.2.1.cell1, BB.out.now.2.2.2.2.2.2.2.1.cell2⟩)
        (first
          | (go_at_call 22; (with_reducible refine (NM.out _ _ _ _ _ _ _ _ BB.out.now.1).mono ?_); rintro e w9 ⟨rfl, hb9⟩; have BB := Lib.hid (BB.out.go hb9)))
    all_goals
      have q0 := BB.out.now.2.1.cell
      have q1 := BB.out.now.2.1.cell1
      have q2 := BB.out.now.2.1.cell2
      have hs9 := BB.out.now.2.2.2.2.2.2.1
      have u0 := hs9.cell
      have u1 := hs9.cell1
      have u2 := hs9.cell2
      have g0 := hs9.free
      have g1 := hs9.free1
      have g2 := hs9.free2
      first
        | (have HS := hs9.set (.slice a6 n6 c6) (.bool m6) (.slice a7 n7 c7)
           have HE := Lib.hid (RatTold3.done true BB.out.below (show w.heap.size ≤ w.heap.size + 1 by omega) hs9 BB.out.now.1)
           go_wp2
           exact bodyPost_ret (v := .tuple #[.agg #[.slice a6 n6 c6, .bool m6, .slice a7 n7 c7], .bool true]) (by simp [results, Tryz.results63, go_sem, HS]) rfl HE.out)
        | (have HS := hs9.set (.slice none 0 0) (.bool false) (.slice none 0 0)
           have HE := Lib.hid (RatTold3.done false BB.out.below (show w.heap.size ≤ w.heap.size + 1 by omega) hs9 (RatAt.zero _))
           go_wp2
           exact bodyPost_ret (v := .tuple #[.agg #[.slice none 0 0, .bool false, .slice none 0 0], .bool false]) (by simp [results, Tryz.results63, go_sem, HS]) rfl HE.out)
  refine wp_region_noPanic ?_
  refine wp_region_held_drew (S := (fun y => ((y.cell? ⟨w.heap.size, 0, none⟩ = some (.bool b) ∧ y.cell? ⟨w.heap.size, 1, none⟩ = some (.string s) ∧ y.cell? ⟨w.heap.size, 2, none⟩ = some (.string t)) ∧ y.cell? ⟨w2.heap.size, 0, none⟩ = some (.slice a3 n3 c3) ∧ y.cell? ⟨w3.heap.size, 0, none⟩ = some (.slice a4 n4 c4)) ∧ Bag w (fun y => Slot y w3.heap.size (.slice a4 n4 c4) ∧ NatIs y (.agg #[.slice a4 n4 c4]) (numOf t.data.toList) ∧ Slot y w2.heap.size (.slice a3 n3 c3) ∧ NatIs y (.agg #[.slice a3 n3 c3]) (numOf s.data.toList) ∧ Slot3 y (w.heap.size + 1) (.slice none 0 0) (.bool false) (.slice none 0 0) ∧ Slot3 y w.heap.size (.bool b) (.string s) (.string t) ∧ True) y)) (by kernel_rfl) ?_ (fun _ => ?_)
  · exact (have B9 := BB.out.drew; ⟨HC.out _ B9.now, B9⟩)
  have hH : ((w4.drew.cell? ⟨w.heap.size, 0, none⟩ = some (.bool b) ∧ w4.drew.cell? ⟨w.heap.size, 1, none⟩ = some (.string s) ∧ w4.drew.cell? ⟨w.heap.size, 2, none⟩ = some (.string t)) ∧ w4.drew.cell? ⟨w2.heap.size, 0, none⟩ = some (.slice a3 n3 c3) ∧ w4.drew.cell? ⟨w3.heap.size, 0, none⟩ = some (.slice a4 n4 c4)) ∧ Bag w (fun y => Slot y w3.heap.size (.slice a4 n4 c4) ∧ NatIs y (.agg #[.slice a4 n4 c4]) (numOf t.data.toList) ∧ Slot y w2.heap.size (.slice a3 n3 c3) ∧ NatIs y (.agg #[.slice a3 n3 c3]) (numOf s.data.toList) ∧ Slot3 y (w.heap.size + 1) (.slice none 0 0) (.bool false) (.slice none 0 0) ∧ Slot3 y w.heap.size (.bool b) (.string s) (.string t) ∧ True) w4.drew := (have B9 := BB.out.drew; ⟨HC.out _ B9.now, B9⟩)
  generalize hw1 : w4.drew = w1 at *
  refine wpAnyH_take (i := 0) (oi := ⟨some 32, Op.fieldAddr 53 (Operand.tmp 1) 0, 0, _, _, none⟩) (v := ?v1) rfl (by kernel_rfl) (by kernel_rfl) (by kernel_rfl) (fun _ _ _ h => h) (Or.inl ⟨by rfl, ?hy1⟩) hH ?_
  case hy1 =>
    intro y hy
    (try dsimp only at hy)
    go_simp
    try with_reducible rfl
  try simp only [Act.put, List.setIfInBounds_toArray, List.set_cons_zero, List.set_cons_succ]
  refine wpAnyH_take (i := 1) (oi := ⟨some 33, Op.load 4 (Operand.tmp 32), 4, _, _, none⟩) (v := ?v2) rfl (by kernel_rfl) (by kernel_rfl) (by kernel_rfl) (fun _ _ _ h => h) (Or.inl ⟨by rfl, ?hy2⟩) hH ?_
  case hy2 =>
    intro y hy
    (try dsimp only at hy)
    go_simp
    try with_reducible rfl
  try simp only [Act.put, List.setIfInBounds_toArray, List.set_cons_zero, List.set_cons_succ]
  refine wpAnyH_take (i := 2) (oi := ⟨some 34, Op.load 56 (Operand.tmp 4), 56, _, _, none⟩) (v := ?v3) rfl (by kernel_rfl) (by kernel_rfl) (by kernel_rfl) (fun _ _ _ h => h) (Or.inl ⟨by rfl, ?hy3⟩) hH ?_
  case hy3 =>
    intro y hy
    (try dsimp only at hy)
    go_simp
    try with_reducible rfl
  try simp only [Act.put, List.setIfInBounds_toArray, List.set_cons_zero, List.set_cons_succ]
  refine wpAnyH_take (i := 4) (oi := ⟨some 36, Op.load 56 (Operand.tmp 6), 56, _, _, none⟩) (v := ?v4) rfl (by kernel_rfl) (by kernel_rfl) (by kernel_rfl) (fun _ _ _ h => h) (Or.inl ⟨by rfl, ?hy4⟩) hH ?_
  case hy4 =>
    intro y hy
    (try dsimp only at hy)
    go_simp
    try with_reducible rfl
  try simp only [Act.put, List.setIfInBounds_toArray, List.set_cons_zero, List.set_cons_succ]
  refine wpAnyH_ready (rs := [3, 6]) (by kernel_rfl) (by simp) ?_
  refine AllReadyH.cons (o := ⟨some 35, Op.call { callee := Callee.value (Operand.func 119), args := #[Operand.tmp 33, Operand.tmp 34], argTypes := #[4, 56] }, 58, _, _, none⟩) rfl (fun K hK => ?_) ?_
  · go_simp
    (go_at_call 119; (with_reducible refine (OF.out _ _ _ _ hH.2.now.2.2.2.1).mono ?_); rintro e wy3 ⟨a5, n5, c5, m5, rfl, hi5, hbz⟩)
    refine hK.out _ _ ?_ (fun hH => ?_)
    · exact (have B9 := Bag.go hH.2 hbz; ⟨HC.out _ B9.now, B9⟩)
    clear hK K
    try simp only [Act.put, List.setIfInBounds_toArray, List.set_cons_zero, List.set_cons_succ]
    refine wpAnyH_ready (rs := [5, 6]) (by kernel_rfl) (by simp) ?_
    refine AllReadyH.cons (o := ⟨some 37, Op.call { callee := Callee.value (Operand.func 118), args := #[Operand.tmp 35, Operand.tmp 36], argTypes := #[58, 56] }, 60, _, _, none⟩) rfl (fun K hK => ?_) ?_
    · go_simp
      (go_at_call 118; (with_reducible refine (LW.out _ _ _ _ _ _ _ _ (IntAt.below hi5 (by exact Below.refl _ _)) hH.2.now.2.1).mono ?_); rintro e wy5 ⟨a6, n6, c6, m6, a7, n7, c7, rfl, hr5, hbz⟩)
      refine hK.out _ _ ?_ (fun hH => ?_)
      · exact (have B9 := Bag.go hH.2 hbz; ⟨HC.out _ B9.now, B9⟩)
      clear hK K
      try simp only [Act.put, List.setIfInBounds_toArray, List.set_cons_zero, List.set_cons_succ]
      refine wpAnyH_ready (rs := [6]) (by kernel_rfl) (by simp) ?_
      refine AllReadyH.cons (o := ⟨some 8, Op.alloc 60, 0, _, _, none⟩) rfl (fun K hK => ?_) AllReadyH.nil
      have hkA := hH.2.now.1.lt
      have sA := Slot3.new wy5 (.slice none 0 0) (.bool false) (.slice none 0 0) 60
      go_simp
      refine hK.out _ _ ?_ (fun hH => ?_)
      · exact (have B9 := Bag.alloc hH.2 _; ⟨HC.out _ B9.now, B9⟩)
      clear hK K
      try simp only [Act.put, List.setIfInBounds_toArray, List.set_cons_zero, List.set_cons_succ]
      refine wpAnyH_ready (rs := [7]) (by kernel_rfl) (by simp) ?_
      refine AllReadyH.cons (o := ⟨none, Op.store 60 (Operand.tmp 8) (Operand.tmp 37), 0, _, _, none⟩) rfl (fun K hK => ?_) AllReadyH.nil
      have hr5 := hr5.below (show Below wy5.heap.size wy5 (World.alloc wy5 (.cells #[.slice none 0 0, .bool false, .slice none 0 0] 60)) from by refine Below.more ?_ _; exact Below.refl _ _)
      generalize hww : (World.alloc wy5 (.cells #[.slice none 0 0, .bool false, .slice none 0 0] 60)) = ww at *
      have l0 := sA.cell
      have l1 := sA.cell1
      have l2 := sA.cell2
      have f0 := sA.free
      have f1 := sA.free1
      have f2 := sA.free2
      have B9s := HP.out _ _ sA (by omega) hH.2 a6 n6 c6 m6 a7 n7 c7
      have hr5 := RatAt.set3 hr5 sA (.slice a6 n6 c6) (.bool m6) (.slice a7 n7 c7)
      have sA := (sA.set2 (.slice a6 n6 c6) (.bool m6)).set1 (.slice a7 n7 c7)
      go_simp
      refine hK.out _ _ ?_ (fun hH => ?_)
      · exact ⟨HC.out _ B9s.now, B9s⟩
      clear hK K
      try simp only [Act.put, List.setIfInBounds_toArray, List.set_cons_zero, List.set_cons_succ]
      refine wpAnyH_done (by kernel_rfl) ?_ _
      refine NoPanic.normal ?_
      exact TL _ _ _ _ _ _ _ _ _ _ _ _ _ hH.2 sA hr5
    refine AllReadyH.cons (o := ⟨some 8, Op.alloc 60, 0, _, _, none⟩) rfl (fun K hK => ?_) ?_
    · have hkA := hH.2.now.1.lt
      have sA := Slot3.new wy3 (.slice none 0 0) (.bool false) (.slice none 0 0) 60
      go_simp
      refine hK.out _ _ ?_ (fun hH => ?_)
      · exact (have B9 := Bag.alloc hH.2 _; ⟨HC.out _ B9.now, B9⟩)
      clear hK K
      try simp only [Act.put, List.setIfInBounds_toArray, List.set_cons_zero, List.set_cons_succ]
      refine wpAnyH_ready (rs := [5]) (by kernel_rfl) (by simp) ?_
      refine AllReadyH.cons (o := ⟨some 37, Op.call { callee := Callee.value (Operand.func 118), args := #[Operand.tmp 35, Operand.tmp 36], argTypes := #[58, 56] }, 60, _, _, none⟩) rfl (fun K hK => ?_) AllReadyH.nil
      go_simp
      (go_at_call 118; (with_reducible refine (LW.out _ _ _ _ _ _ _ _ (IntAt.below hi5 (by refine Below.more ?_ _; exact Below.refl _ _)) hH.2.now.2.1).mono ?_); rintro e wy5 ⟨a6, n6, c6, m6, a7, n7, c7, rfl, hr5, hbz⟩); have sA := sA.below hbz
      refine hK.out _ _ ?_ (fun hH => ?_)
      · exact (have B9 := Bag.go hH.2 hbz; ⟨HC.out _ B9.now, B9⟩)
      clear hK K
      try simp only [Act.put, List.setIfInBounds_toArray, List.set_cons_zero, List.set_cons_succ]
      refine wpAnyH_ready (rs := [7]) (by kernel_rfl) (by simp) ?_
      refine AllReadyH.cons (o := ⟨none, Op.store 60 (Operand.tmp 8) (Operand.tmp 37), 0, _, _, none⟩) rfl (fun K hK => ?_) AllReadyH.nil
      have l0 := sA.cell
      have l1 := sA.cell1
      have l2 := sA.cell2
      have f0 := sA.free
      have f1 := sA.free1
      have f2 := sA.free2
      have B9s := HP.out _ _ sA (by omega) hH.2 a6 n6 c6 m6 a7 n7 c7
      have hr5 := RatAt.set3 hr5 sA (.slice a6 n6 c6) (.bool m6) (.slice a7 n7 c7)
      have sA := (sA.set2 (.slice a6 n6 c6) (.bool m6)).set1 (.slice a7 n7 c7)
      go_simp
      refine hK.out _ _ ?_ (fun hH => ?_)
      · exact ⟨HC.out _ B9s.now, B9s⟩
      clear hK K
      try simp only [Act.put, List.setIfInBounds_toArray, List.set_cons_zero, List.set_cons_succ]
      refine wpAnyH_done (by kernel_rfl) ?_ _
      refine NoPanic.normal ?_
      exact TL _ _ _ _ _ _ _ _ _ _ _ _ _ hH.2 sA hr5
    exact AllReadyH.nil
  refine AllReadyH.cons (o := ⟨some 8, Op.alloc 60, 0, _, _, none⟩) rfl (fun K hK => ?_) ?_
  · have hkA := hH.2.now.1.lt
    have sA := Slot3.new w1 (.slice none 0 0) (.bool false) (.slice none 0 0) 60
    go_simp
    refine hK.out _ _ ?_ (fun hH => ?_)
    · exact (have B9 := Bag.alloc hH.2 _; ⟨HC.out _ B9.now, B9⟩)
    clear hK K
    try simp only [Act.put, List.setIfInBounds_toArray, List.set_cons_zero, List.set_cons_succ]
    refine wpAnyH_ready (rs := [3]) (by kernel_rfl) (by simp) ?_
    refine AllReadyH.cons (o := ⟨some 35, Op.call { callee := Callee.value (Operand.func 119), args := #[Operand.tmp 33, Operand.tmp 34], argTypes := #[4, 56] }, 58, _, _, none⟩) rfl (fun K hK => ?_) AllReadyH.nil
    go_simp
    (go_at_call 119; (with_reducible refine (OF.out _ _ _ _ hH.2.now.2.2.2.1).mono ?_); rintro e wy3 ⟨a5, n5, c5, m5, rfl, hi5, hbz⟩); have sA := sA.below hbz
    refine hK.out _ _ ?_ (fun hH => ?_)
    · exact (have B9 := Bag.go hH.2 hbz; ⟨HC.out _ B9.now, B9⟩)
    clear hK K
    try simp only [Act.put, List.setIfInBounds_toArray, List.set_cons_zero, List.set_cons_succ]
    refine wpAnyH_ready (rs := [5]) (by kernel_rfl) (by simp) ?_
    refine AllReadyH.cons (o := ⟨some 37, Op.call { callee := Callee.value (Operand.func 118), args := #[Operand.tmp 35, Operand.tmp 36], argTypes := #[58, 56] }, 60, _, _, none⟩) rfl (fun K hK => ?_) AllReadyH.nil
    go_simp
    (go_at_call 118; (with_reducible refine (LW.out _ _ _ _ _ _ _ _ (IntAt.below hi5 (by exact Below.refl _ _)) hH.2.now.2.1).mono ?_); rintro e wy5 ⟨a6, n6, c6, m6, a7, n7, c7, rfl, hr5, hbz⟩); have sA := sA.below hbz
    refine hK.out _ _ ?_ (fun hH => ?_)
    · exact (have B9 := Bag.go hH.2 hbz; ⟨HC.out _ B9.now, B9⟩)
    clear hK K
    try simp only [Act.put, List.setIfInBounds_toArray, List.set_cons_zero, List.set_cons_succ]
    refine wpAnyH_ready (rs := [7]) (by kernel_rfl) (by simp) ?_
    refine AllReadyH.cons (o := ⟨none, Op.store 60 (Operand.tmp 8) (Operand.tmp 37), 0, _, _, none⟩) rfl (fun K hK => ?_) AllReadyH.nil
    have l0 := sA.cell
    have l1 := sA.cell1
    have l2 := sA.cell2
    have f0 := sA.free
    have f1 := sA.free1
    have f2 := sA.free2
    have B9s := HP.out _ _ sA (by omega) hH.2 a6 n6 c6 m6 a7 n7 c7
    have hr5 := RatAt.set3 hr5 sA (.slice a6 n6 c6) (.bool m6) (.slice a7 n7 c7)
    have sA := (sA.set2 (.slice a6 n6 c6) (.bool m6)).set1 (.slice a7 n7 c7)
    go_simp
    refine hK.out _ _ ?_ (fun hH => ?_)
    · exact ⟨HC.out _ B9s.now, B9s⟩
    clear hK K
    try simp only [Act.put, List.setIfInBounds_toArray, List.set_cons_zero, List.set_cons_succ]
    refine wpAnyH_done (by kernel_rfl) ?_ _
    refine NoPanic.normal ?_
    exact TL _ _ _ _ _ _ _ _ _ _ _ _ _ hH.2 sA hr5
  exact AllReadyH.nil
set_option maxHeartbeats 6400000 in
set_option maxRecDepth 100000 in
theorem of_none (b : Bool) (s t : ByteArray) (w : World) (hs : s.size ≤ 60) (ht : t.size ≤ 60) (hk : ofK s t = false) :
    Calls Tryz.prog 63 #[.agg #[.bool b, .string s, .string t]] w fun e w' => RatTold3 w w' e 0 1 false := by
  have B0 := (Bag.start w).box3 (.bool b) (.string s) (.string t) 53 |>.box3 (.slice none 0 0) (.bool false) (.slice none 0 0) 60
  simp only [World.size_alloc] at B0
  have RD : ∀ u : ByteArray, u.size ≤ 60 → Hid (∀ wz, Calls Tryz.prog 117 #[.string u] wz fun e w' => SubOf3 wz w' e (if okB u.data.toList then numOf u.data.toList else 0) (okB u.data.toList)) := fun u hu wz => by
    cases h : okB u.data.toList with
    | true => exact ratRead_yes u wz (by omega) h
    | false => exact ratRead_no u wz (by omega) h
  have RS1 := RD s hs
  have RS2 := RD t ht
  unfold SubOf3 at RS1 RS2
  unfold ofK at hk
  have ZE := Lib.hid (fun a n c wz (h : NatIs wz (.agg #[.slice a n c]) (if okB t.data.toList then numOf t.data.toList else 0)) => zero_any _ _ wz h)
  have hz : ∀ g, okB t.data.toList = g → g = true → decide ((if okB t.data.toList then numOf t.data.toList else 0) = 0) = decide (numOf t.data.toList = 0) := fun g h1 h2 => by rw [h1, h2, if_pos rfl]
  obtain ⟨g1, hg1⟩ : ∃ g, okB s.data.toList = g := ⟨_, rfl⟩
  obtain ⟨g2, hg2⟩ : ∃ g, okB t.data.toList = g := ⟨_, rfl⟩
  have hz2 := hz g2 hg2
  clear hz RD
  obtain ⟨z, hz3⟩ : ∃ z, decide ((if okB t.data.toList then numOf t.data.toList else 0) = 0) = z := ⟨_, rfl⟩
  rw [hz3] at ZE hz2
  generalize (if okB t.data.toList then numOf t.data.toList else 0) = M at *
  generalize (if okB s.data.toList then numOf s.data.toList else 0) = N at *
  rw [hg1] at RS1 hk
  rw [hg2] at RS2 hk
  have hk2 : (g1 && (g2 && !z)) = false := by
    cases g2 with
    | false => simp
    | true => rw [← hz2 rfl] at hk; simpa using hk
  have BB := Lib.hid B0
  have q0 := B0.now.2.1.cell
  have q1 := B0.now.2.1.cell1
  have q2 := B0.now.2.1.cell2
  clear B0 hs ht hk hg1 hg2 hz2 hz3
  cases g1 <;> cases g2 <;> cases z
  all_goals
    first
      | (exact absurd hk2 (by decide))
      | skip
  all_goals
    clear hk2
    go_enter Tryz.func63, Tryz.ntmps63
    go_wp2_with fail
    go_at_call 117
    (with_reducible refine (RS1.out _).mono ?_)
    rintro e w2 ⟨a3, n3, c3, rfl, hn3, hb2⟩
    have BB := Lib.hid ((BB.out.go hb2).alloc (.cells #[.slice a3 n3 c3] 56))
    clear hb2 hn3
    have q0 := BB.out.now.2.1.cell
    have q1 := BB.out.now.2.1.cell1
    have q2 := BB.out.now.2.1.cell2
    go_wp2_with fail
    go_at_call 117
    (with_reducible refine (RS2.out _).mono ?_)
    rintro e w3 ⟨a4, n4, c4, rfl, hn4, hb3⟩
    have BB := Lib.hid (((BB.out.go hb3).nat hn4).box (.slice a4 n4 c4) 56)
    clear hb3 hn4
    have q3 := BB.out.now.1.cell
    have hs9 := BB.out.now.2.2.1
    have u0 := hs9.cell
    have u1 := hs9.cell1
    have u2 := hs9.cell2
    have g0 := hs9.free
    have g1 := hs9.free1
    have g2 := hs9.free2
    have HS := hs9.set (.slice none 0 0) (.bool false) (.slice none 0 0)
    have HE := Lib.hid (RatTold3.done false BB.out.below (show w.heap.size ≤ w.heap.size + 1 by omega) hs9 (RatAt.zero _))
    clear hs9
    go_wp2_with (first
      | (go_at_call 107; (with_reducible refine (ZE.out _ _ _ _ BB.out.now.2.1).mono ?_); rintro e w4 ⟨rfl, hb4⟩; have BB := Lib.hid (BB.out.go hb4); clear hb4; have hs9 := BB.out.now.2.2.1; have u0 := hs9.cell; have u1 := hs9.cell1; have u2 := hs9.cell2; have g0 := hs9.free; have g1 := hs9.free1; have g2 := hs9.free2; have HS := hs9.set (.slice none 0 0) (.bool false) (.slice none 0 0); have HE := Lib.hid (RatTold3.done false BB.out.below (show w.heap.size ≤ w.heap.size + 1 by omega) hs9 (RatAt.zero _)); clear hs9))
    exact bodyPost_ret (v := .tuple #[.agg #[.slice none 0 0, .bool false, .slice none 0 0], .bool false]) (by simp [results, Tryz.results63, go_sem, HS]) rfl HE.out
/-- Which number it is. -/
def ofO (b : Bool) (s t : ByteArray) : Bool := ofK s t && decide (rB (ofP b s t) = b ∧ rS (ofP b s t) = s ∧ str (dec (ofQ b s t)) = t)
theorem of_any' (b : Bool) (s t : ByteArray) (w : World) (hs : s.size ≤ 60) (ht : t.size ≤ 60) :
    Calls Tryz.prog 63 #[.agg #[.bool b, .string s, .string t]] w fun e w' => RatTold3 w w' e (if ofO b s t then ofP b s t else 0) (if ofO b s t then ofQ b s t else 1) (ofO b s t) := by
  cases hk : ofK s t with
  | false =>
    have e : ofO b s t = false := by unfold ofO; rw [hk]; rfl
    rw [e]; exact of_none b s t w hs ht hk
  | true =>
    have e : ofO b s t = decide (rB (ofP b s t) = b ∧ rS (ofP b s t) = s ∧ str (dec (ofQ b s t)) = t) := by unfold ofO; rw [hk, Bool.true_and]
    rw [e]; exact of_some b s t w hs ht hk _ rfl
end Go.Proofs.YtnpoakaffafdiaaGreatDoor

namespace Go.Proofs.YtnpoakaffafdiaaGreatDoor
open Go.RowKit
attribute [local go_sem ↓] Go.wp_at_zero Go.wp_at_succ
theorem ofO_all (b : Bool) (s t : ByteArray) : ofO b s t = (okB s.data.toList && (okB t.data.toList && (decide (str (dec (numOf s.data.toList)) = s) && (decide (str (dec (numOf t.data.toList)) = t) && (!decide (numOf t.data.toList = 0) && (decide (Nat.gcd (numOf s.data.toList) (numOf t.data.toList) = 1) && !(b && decide (numOf s.data.toList = 0)))))))) := by
  unfold ofO ofK ofP ofQ
  by_cases h0 : numOf t.data.toList = 0
  · rw [decide_eq_true h0]; simp
  · rw [of_right b s t (by omega), decide_eq_false h0]
    cases okB s.data.toList <;> cases okB t.data.toList <;> simp
theorem str_beq (s t : ByteArray) : (s.toList == t.toList) = decide (s = t) := by
  rw [Bool.eq_iff_iff, beq_iff_eq, decide_eq_true_eq]
  constructor
  · intro h
    rw [ByteArray.toList_eq, ByteArray.toList_eq] at h
    exact ByteArray.ext (Array.toList_inj.1 h)
  · intro h; rw [h]
set_option linter.unusedSimpArgs false in
set_option maxHeartbeats 6400000 in
set_option maxRecDepth 100000 in
theorem r3Right_any (b : Bool) (s t : ByteArray) (w : World) (hs : s.size ≤ 60) (ht : t.size ≤ 60) :
    Calls Tryz.prog 62 #[.agg #[.bool b, .string s, .string t]] w fun e w' => e = .returned (.bool (ofO b s t)) ∧ Below w.heap.size w w' := by
  rw [ofO_all]
  have BB := Lib.hid ((Bag.start w).box3 (.bool b) (.string s) (.string t) 53)
  have R1 := Lib.hid (fun wz => right_any s wz (by unfold maxLen; omega))
  have R2 := Lib.hid (fun wz => right_any t wz (by unfold maxLen; omega))
  have TR : ∀ (u : ByteArray) (hu : u.size ≤ 60) (h : okB u.data.toList = true) wz, Calls Tryz.prog 115 #[.string u] wz fun e w' => e = .returned (.string (str (dec (numOf u.data.toList)))) ∧ wz = w' := by
    intro u hu h wz
    obtain ⟨g1, g2, g3⟩ := okB_digs h
    have hl : u.data.toList.length = u.size := rfl
    have := trim_any (numOf u.data.toList) u.data.toList.length wz g1 (numOf_lt _ g3) (by omega)
    rw [sdig_numOf _ g3] at this
    exact this
  have T1 := Lib.hid (fun wz h => TR s hs h wz)
  have T2 := Lib.hid (fun wz h => TR t ht h wz)
  have hl1 : dl (numOf s.data.toList) ≤ 900 ∨ okB s.data.toList = false := by
    cases h : okB s.data.toList with
    | false => exact .inr rfl
    | true =>
      obtain ⟨g1, g2, g3⟩ := okB_digs h
      exact .inl (Nat.le_trans (dl_le _ _ g1 (numOf_lt _ g3)) (by have : s.data.toList.length = s.size := rfl; omega))
  obtain ⟨E, hE⟩ : ∃ E, E = 1000 := ⟨_, rfl⟩
  have hl2 : (dl (numOf t.data.toList) ≤ 900 ∧ numOf t.data.toList < 2 ^ E) ∨ okB t.data.toList = false := by
    cases h : okB t.data.toList with
    | false => exact .inr rfl
    | true =>
      obtain ⟨g1, g2, g3⟩ := okB_digs h
      have hl : t.data.toList.length = t.size := rfl
      refine .inl ⟨Nat.le_trans (dl_le _ _ g1 (numOf_lt _ g3)) (by omega), Nat.lt_of_lt_of_le (numOf_lt _ g3) (Nat.le_trans (Nat.pow_le_pow_right (by omega) (show t.data.toList.length ≤ 60 by omega)) ?_)⟩
      exact Nat.le_trans (Nat.pow_le_pow_left (show 10 ≤ 2 ^ 4 by decide) 60) (by rw [← Nat.pow_mul]; exact Nat.pow_le_pow_right (by omega) (by omega))
  generalize hN : numOf s.data.toList = N at *
  generalize hM : numOf t.data.toList = M at *
  have GC : ∀ wz, okB s.data.toList = true → okB t.data.toList = true → str (dec N) = s → str (dec M) = t → Calls Tryz.prog 116 #[.string s, .string t] wz fun e w' => e = .returned (.string (str (dec (Nat.gcd N M)))) ∧ Below wz.heap.size wz w' := by
    intro wz h1 h2 h3 h4
    have := rgcd_any N M wz (by rcases hl1 with h | h; exact h; rw [h1] at h; cases h) (by rcases hl2 with h | h; exact h.1; rw [h2] at h; cases h) E (by omega) (by rcases hl2 with h | h; exact h.2; rw [h2] at h; cases h)
    rw [h3, h4] at this
    exact this
  have hz1 : decide (M = 0) = ((str (dec M)).toList == [48]) := (dec_isnt0 M).symm
  have hz0 : decide (N = 0) = ((str (dec N)).toList == [48]) := (dec_isnt0 N).symm
  have hg1 : decide (Nat.gcd N M = 1) = ((str (dec (Nat.gcd N M))).toList == [49]) := (dec_is1 _).symm
  generalize okB s.data.toList = r1 at *
  generalize okB t.data.toList = r2 at *
  have d1 := str_beq (str (dec N)) s
  have d2 := str_beq (str (dec M)) t
  rw [← d1, ← d2, hz1, hz0, hg1]
  have GC := Lib.hid GC
  generalize str (dec (Nat.gcd N M)) = gg at *
  generalize str (dec N) = s1 at *
  generalize str (dec M) = t1 at *
  have D1 : Hid ((s1.toList == s.toList) = true → s1 = s) := fun h => of_decide_eq_true (d1.symm.trans h)
  have D2 : Hid ((t1.toList == t.toList) = true → t1 = t) := fun h => of_decide_eq_true (d2.symm.trans h)
  clear TR hl1 hl2 hN hM hs ht hz1 hz0 hg1 d1 d2
  obtain ⟨e1, he1⟩ : ∃ e, (s1.toList == s.toList) = e := ⟨_, rfl⟩
  obtain ⟨e2, he2⟩ : ∃ e, (t1.toList == t.toList) = e := ⟨_, rfl⟩
  obtain ⟨z, hz⟩ : ∃ e, (t.toList == [48]) = e := ⟨_, rfl⟩
  obtain ⟨x13, h13⟩ : ∃ x, x = (!r1 || !r2) := ⟨_, rfl⟩
  obtain ⟨x21, h21⟩ : ∃ x, x = (x13 || !e1) := ⟨_, rfl⟩
  obtain ⟨x29, h29⟩ : ∃ x, x = (x21 || !e2) := ⟨_, rfl⟩
  obtain ⟨x33, h33⟩ : ∃ x, x = (x29 || z) := ⟨_, rfl⟩
  have OR : ∀ x y z : Bool, z = (x || y) → ((x = true → z = true) ∧ (x = false → z = y)) := by intro x y z h; subst h; cases x <;> simp
  have P1 : Hid ((!r1) = true → x13 = true) := (OR _ _ _ h13).1
  have Q1 : Hid ((!r1) = false → x13 = !r2) := (OR _ _ _ h13).2
  have P2 : Hid (x13 = true → x21 = true) := (OR _ _ _ h21).1
  have Q2 : Hid (x13 = false → x21 = !e1) := (OR _ _ _ h21).2
  have P3 : Hid (x21 = true → x29 = true) := (OR _ _ _ h29).1
  have Q3 : Hid (x21 = false → x29 = !e2) := (OR _ _ _ h29).2
  have P4 : Hid (x29 = true → x33 = true) := (OR _ _ _ h33).1
  have Q4 : Hid (x29 = false → x33 = z) := (OR _ _ _ h33).2
  have N1 : Hid (x13 = false → r1 = true) := by intro h; rw [h] at h13; cases r1; cases h13; rfl
  have N2 : Hid (x21 = false → r2 = true) := by intro h; rw [h] at h21; cases hx : x13; rw [hx] at h13; cases r2; cases r1 <;> cases h13; rfl; rw [hx] at h21; cases h21
  have LAST0 : (x33 = true → ∀ G, (r1 && (r2 && (e1 && (e2 && (!(t1.toList == [48]) && G))))) = false) ∧ (x33 = false → r1 = true ∧ r2 = true ∧ e1 = true ∧ e2 = true ∧ z = false) := by
    rw [h33, h29, h21, h13]
    refine ⟨fun h G => ?_, fun h => ?_⟩
    · cases hh : e2 with
      | false => simp
      | true =>
        have h4 := D2.out (he2.trans hh)
        rw [h4, hz]
        rw [hh] at h
        cases r1 <;> cases r2 <;> cases e1 <;> cases z <;> first | rfl | cases h
    · cases r1 <;> cases r2 <;> cases e1 <;> cases e2 <;> cases z <;> first | exact ⟨rfl, rfl, rfl, rfl, rfl⟩ | cases h
  have LAST := Lib.hid LAST0
  rw [he1, he2]
  clear LAST0 hE OR h13 h21 h29 h33
  go_enter Tryz.func62, Tryz.ntmps62
  go_wp2_with fail
  refine wp_region_inv ⟨(fun j => ([[3], [4], [5], [6], [7], [8], [9], [10], [11], [12], [13], [14], [15], [16], [17], [18], [19], [20], [21], [22], [23], [24], [25], [26], [27], [28], [29], [30], [31], [32], [33]] : List (List Nat)).getD j []), (fun j => ([[], [0], [0, 1], [0, 1, 2], [0, 1, 2, 3], [0, 1, 2, 3, 4], [0, 1, 2, 3, 4, 5], [0, 1, 2, 3, 4, 5, 6], [0, 1, 2, 3, 4, 5, 6, 7], [0, 1, 2, 3, 4, 5, 6, 7, 8], [0, 1, 2, 3, 4, 5, 6, 7, 8, 9], [0, 1, 2, 3, 4, 5, 6, 7, 8, 9, 10], [0, 1, 2, 3, 4, 5, 6, 7, 8, 9, 10, 11], [0, 1, 2, 3, 4, 5, 6, 7, 8, 9, 10, 11, 12], [0, 1, 2, 3, 4, 5, 6, 7, 8, 9, 10], [0, 1, 2, 3, 4, 5, 6, 7, 8, 9, 10, 14], [0, 1, 2, 3, 4, 5, 6, 7, 8, 9, 10, 11, 12, 13, 14, 15], [0, 1, 2, 3, 4, 5, 6, 7, 8, 9, 10, 11, 12, 13, 14, 15, 16], [0, 1, 2, 3, 4, 5, 6, 7, 8, 9, 10, 11, 12, 13, 14, 15, 16, 17], [0, 1, 2, 3, 4, 5, 6, 7, 8, 9, 10, 11, 12, 13, 14, 15, 16, 17, 18], [0, 1, 2, 3, 4, 5, 6, 7, 8, 9, 10, 11, 12, 13, 14, 15, 16, 17, 18, 19], [0, 1, 2, 3, 4, 5, 6, 7, 8, 9, 10, 11, 12, 13, 14, 15, 16, 17, 18, 19, 20], [0, 1, 2, 3, 4, 5, 6, 7, 8, 9, 10, 11, 12, 13, 14, 15, 16, 17, 18], [0, 1, 2, 3, 4, 5, 6, 7, 8, 9, 10, 11, 12, 13, 14, 15, 16, 17, 18, 22], [0, 1, 2, 3, 4, 5, 6, 7, 8, 9, 10, 11, 12, 13, 14, 15, 16, 17, 18, 19, 20, 21, 22, 23], [0, 1, 2, 3, 4, 5, 6, 7, 8, 9, 10, 11, 12, 13, 14, 15, 16, 17, 18, 19, 20, 21, 22, 23, 24], [0, 1, 2, 3, 4, 5, 6, 7, 8, 9, 10, 11, 12, 13, 14, 15, 16, 17, 18, 19, 20, 21, 22, 23, 24, 25], [0, 1, 2, 3, 4, 5, 6, 7, 8, 9, 10, 11, 12, 13, 14, 15, 16, 17, 18, 19, 20, 21, 22, 23, 24, 25, 26], [0, 1, 2, 3, 4, 5, 6, 7, 8, 9, 10, 11, 12, 13, 14, 15, 16, 17, 18, 19, 20, 21, 22, 23, 24, 25, 26, 27], [0, 1, 2, 3, 4, 5, 6, 7, 8, 9, 10, 11, 12, 13, 14, 15, 16, 17, 18, 19, 20, 21, 22, 23, 24, 25, 26, 27, 28], [0, 1, 2, 3, 4, 5, 6, 7, 8, 9, 10, 11, 12, 13, 14, 15, 16, 17, 18, 19, 20, 21, 22, 23, 24, 25, 26, 27, 28, 29]] : List (List Nat)).getD j []), []⟩ (fun jj vv yy => match jj with | 0 => vv = [some (.pointer (some ⟨w.heap.size, 1, none⟩))] | 1 => vv = [some (.string s)] | 2 => vv = [some (.bool r1)] | 3 => vv = [some (.bool (!r1))] | 4 => vv = [some (.bool (!r1))] | 5 => ((!r1) = false) → (vv = [some (.pointer (some ⟨w.heap.size, 2, none⟩))]) | 6 => ((!r1) = false) → (vv = [some (.string t)]) | 7 => ((!r1) = false) → (vv = [some (.bool r2)]) | 8 => ((!r1) = false) → (vv = [some (.bool (!r2))]) | 9 => vv = [some (.bool x13)] | 10 => vv = [some (.bool x13)] | 11 => (x13 = false) → (vv = [some (.pointer (some ⟨w.heap.size, 1, none⟩))]) | 12 => (x13 = false) → (vv = [some (.string s)]) | 13 => (x13 = false) → (vv = [some (.string s1)]) | 14 => (x13 = false) → (vv = [some (.pointer (some ⟨w.heap.size, 1, none⟩))]) | 15 => (x13 = false) → (vv = [some (.string s)]) | 16 => (x13 = false) → (vv = [some (.bool (!e1))]) | 17 => vv = [some (.bool x21)] | 18 => vv = [some (.bool x21)] | 19 => (x21 = false) → (vv = [some (.pointer (some ⟨w.heap.size, 2, none⟩))]) | 20 => (x21 = false) → (vv = [some (.string t)]) | 21 => (x21 = false) → (vv = [some (.string t1)]) | 22 => (x21 = false) → (vv = [some (.pointer (some ⟨w.heap.size, 2, none⟩))]) | 23 => (x21 = false) → (vv = [some (.string t)]) | 24 => (x21 = false) → (vv = [some (.bool (!e2))]) | 25 => vv = [some (.bool x29)] | 26 => vv = [some (.bool x29)] | 27 => (x29 = false) → (vv = [some (.pointer (some ⟨w.heap.size, 2, none⟩))]) | 28 => (x29 = false) → (vv = [some (.string t)]) | 29 => (x29 = false) → (vv = [some (.bool z)]) | 30 => vv = [some (.bool x33)] | _ => True) (Bag w (fun y => Slot3 y w.heap.size (.bool b) (.string s) (.string t) ∧ True)) (by kernel_rfl) (by kernel_rfl) (by kernel_rfl) BB.out.drew ?_ ?_ ?_
  · intro jj vv yw yw2 hb h
    match jj, h with
    | 0, h => exact h
    | 1, h => exact h
    | 2, h => exact h
    | 3, h => exact h
    | 4, h => exact h
    | 5, h => exact h
    | 6, h => exact h
    | 7, h => exact h
    | 8, h => exact h
    | 9, h => exact h
    | 10, h => exact h
    | 11, h => exact h
    | 12, h => exact h
    | 13, h => exact h
    | 14, h => exact h
    | 15, h => exact h
    | 16, h => exact h
    | 17, h => exact h
    | 18, h => exact h
    | 19, h => exact h
    | 20, h => exact h
    | 21, h => exact h
    | 22, h => exact h
    | 23, h => exact h
    | 24, h => exact h
    | 25, h => exact h
    | 26, h => exact h
    | 27, h => exact h
    | 28, h => exact h
    | 29, h => exact h
    | 30, h => exact h
    | _ + 31, h => exact h
  · intro ac yw hsz hdf hold hB hp
    have t33 : ac.tmps[33]? = some (.bool x33) := (List.cons.inj (hp 30 (by decide))).1
    have t1' : ac.tmps[1]? = some (.pointer (some ⟨w.heap.size, 0, none⟩)) := hold 1 (by kernel_rfl)
    clear hold hp
    have q0 := hB.now.1.cell
    have q1 := hB.now.1.cell1
    have q2 := hB.now.1.cell2
    obtain ⟨F, hF⟩ : ∃ F : Nat → Value, ∀ i, (ac.tmps[i]?).getD undef = F i := ⟨_, fun _ => rfl⟩
    have f33 := (hF 33).symm.trans (congrArg (fun x => Option.getD x undef) t33)
    have f1 := (hF 1).symm.trans (congrArg (fun x => Option.getD x undef) t1')
    have hac := act_eq (n := 50) hsz F hF
    rw [show ((List.range 50).map F).toArray = #[F 0, F 1, F 2, F 3, F 4, F 5, F 6, F 7, F 8, F 9, F 10, F 11, F 12, F 13, F 14, F 15, F 16, F 17, F 18, F 19, F 20, F 21, F 22, F 23, F 24, F 25, F 26, F 27, F 28, F 29, F 30, F 31, F 32, F 33, F 34, F 35, F 36, F 37, F 38, F 39, F 40, F 41, F 42, F 43, F 44, F 45, F 46, F 47, F 48, F 49] from rfl, f33, f1, hdf] at hac
    simp only [Option.getD_some] at hac
    subst hac
    clear hF f33 f1
    obtain ⟨L1, L2⟩ := LAST.out
    have BB := Lib.hid hB
    clear LAST P1 Q1 P2 Q2 P3 Q3 P4 Q4 N1 N2 R1 R2 T1 T2 hB
    cases x33 with
    | true =>
      have L3 := Lib.hid (L1 rfl)
      clear L1 L2 GC he1 he2 hz D1 D2
      go_wp2
      go_ret
      exact ⟨congrArg (fun b => Ending.returned (.bool b)) (L3.out _).symm, BB.out.below⟩
    | false =>
      obtain ⟨rfl, rfl, rfl, rfl, rfl⟩ := L2 rfl
      obtain rfl := D1.out he1
      obtain rfl := D2.out he2
      have GC2 := Lib.hid (fun wz => GC.out wz rfl rfl rfl rfl)
      clear GC
      obtain ⟨g, hg⟩ : ∃ g, (gg.toList == [49]) = g := ⟨_, rfl⟩
      obtain ⟨z0, hz0⟩ : ∃ g, (s1.toList == [48]) = g := ⟨_, rfl⟩
      have HZ := Lib.hid (And.intro hz (And.intro hg hz0))
      clear L1 L2 he1 he2 D1 D2
      cases g <;> cases b <;> cases z0
      all_goals
        go_wp2_with fail
        go_at_call 116
        (with_reducible refine (GC2.out _).mono ?_)
        rintro e w2 ⟨rfl, hb2⟩
        have BB := Lib.hid (BB.out.go hb2)
        have q0 := BB.out.now.1.cell
        have q1 := BB.out.now.1.cell1
        have q2 := BB.out.now.1.cell2
        go_wp2
        go_ret
        exact ⟨congrArg (fun b => Ending.returned (.bool b)) (by rw [HZ.out.1, HZ.out.2.1, HZ.out.2.2]; rfl), BB.out.below⟩
  refine Stps.cons (o := _) ?_ ?_
  · intro ac yw hsz hold hB hp K hK
    have t1 : ac.tmps[1]? = some (.pointer (some ⟨w.heap.size, 0, none⟩)) := hold 1 (by kernel_rfl)
    clear hold hp hsz
    go_simp
    exact hK.out _ _ ⟨hB, rfl, Nat.le_refl _, .inl (Below.refl _ _), fun h => absurd h (by decide)⟩
  refine Stps.cons (o := _) ?_ ?_
  · intro ac yw hsz hold hB hp K hK
    have e0 := hp 0 (by decide)
    have t3 : ac.tmps[3]? = some (.pointer (some ⟨w.heap.size, 1, none⟩)) := (List.cons.inj e0).1
    clear hold hp hsz e0
    have q0 := hB.now.1.cell
    have q1 := hB.now.1.cell1
    have q2 := hB.now.1.cell2
    go_simp
    exact hK.out _ _ ⟨hB, rfl, Nat.le_refl _, .inl (Below.refl _ _), fun h => absurd h (by decide)⟩
  refine Stps.cons (o := _) ?_ ?_
  · intro ac yw hsz hold hB hp K hK
    have e1 := hp 1 (by decide)
    have t4 : ac.tmps[4]? = some (.string s) := (List.cons.inj e1).1
    clear hold hp hsz e1
    go_simp
    (go_at_call 114; (with_reducible refine (R1.out _).mono ?_); rintro e wz ⟨rfl, rfl⟩; have hbz := Below.refl yw.heap.size yw)
    exact hK.out _ _ ⟨hB.go hbz, rfl, hbz.size, .inl hbz, fun h => absurd h (by decide)⟩
  refine Stps.cons (o := _) ?_ ?_
  · intro ac yw hsz hold hB hp K hK
    have e2 := hp 2 (by decide)
    have t5 : ac.tmps[5]? = some (.bool r1) := (List.cons.inj e2).1
    clear hold hp hsz e2
    go_simp
    exact hK.out _ _ ⟨hB, rfl, Nat.le_refl _, .inl (Below.refl _ _), fun h => absurd h (by decide)⟩
  refine Stps.cons (o := _) ?_ ?_
  · intro ac yw hsz hold hB hp K hK
    have e3 := hp 3 (by decide)
    have t6 : ac.tmps[6]? = some (.bool (!r1)) := (List.cons.inj e3).1
    clear hold hp hsz e3
    go_simp
    exact hK.out _ _ ⟨hB, rfl, Nat.le_refl _, .inl (Below.refl _ _), fun h => absurd h (by decide)⟩
  refine Stps.cons (o := _) ?_ ?_
  · intro ac yw hsz hold hB hp K hK
    have t7 : ac.tmps[7]? = some (.bool (!r1)) := (List.cons.inj (hp 4 (by decide))).1
    by_cases hc : ((!r1)) = false
    · rw [hc] at t7
      rw [if_pos (wanted_pos rfl rfl t7)]
      have t1 : ac.tmps[1]? = some (.pointer (some ⟨w.heap.size, 0, none⟩)) := hold 1 (by kernel_rfl)
      clear hold hp hsz
      go_simp
      exact hK.out _ _ ⟨hB, fun _ => rfl, Nat.le_refl _, .inl (Below.refl _ _), fun h => absurd h (by decide)⟩
    · rw [if_neg (by rw [wanted_neg rfl rfl t7 (fun e => hc (by injection e))]; decide)]
      exact hK.out _ _ ⟨hB, fun h => absurd h hc, Nat.le_refl _, .inl (Below.refl _ _), fun h => absurd h (by decide)⟩
  refine Stps.cons (o := _) ?_ ?_
  · intro ac yw hsz hold hB hp K hK
    have t7 : ac.tmps[7]? = some (.bool (!r1)) := (List.cons.inj (hp 4 (by decide))).1
    by_cases hc : ((!r1)) = false
    · rw [hc] at t7
      rw [if_pos (wanted_pos rfl rfl t7)]
      have e5 := hp 5 (by decide) hc
      have t8 : ac.tmps[8]? = some (.pointer (some ⟨w.heap.size, 2, none⟩)) := (List.cons.inj e5).1
      clear hold hp hsz e5
      have q0 := hB.now.1.cell
      have q1 := hB.now.1.cell1
      have q2 := hB.now.1.cell2
      go_simp
      exact hK.out _ _ ⟨hB, fun _ => rfl, Nat.le_refl _, .inl (Below.refl _ _), fun h => absurd h (by decide)⟩
    · rw [if_neg (by rw [wanted_neg rfl rfl t7 (fun e => hc (by injection e))]; decide)]
      exact hK.out _ _ ⟨hB, fun h => absurd h hc, Nat.le_refl _, .inl (Below.refl _ _), fun h => absurd h (by decide)⟩
  refine Stps.cons (o := _) ?_ ?_
  · intro ac yw hsz hold hB hp K hK
    have t7 : ac.tmps[7]? = some (.bool (!r1)) := (List.cons.inj (hp 4 (by decide))).1
    by_cases hc : ((!r1)) = false
    · rw [hc] at t7
      rw [if_pos (wanted_pos rfl rfl t7)]
      have e6 := hp 6 (by decide) hc
      have t9 : ac.tmps[9]? = some (.string t) := (List.cons.inj e6).1
      clear hold hp hsz e6
      go_simp
      (go_at_call 114; (with_reducible refine (R2.out _).mono ?_); rintro e wz ⟨rfl, rfl⟩; have hbz := Below.refl yw.heap.size yw)
      exact hK.out _ _ ⟨hB.go hbz, fun _ => rfl, hbz.size, .inl hbz, fun h => absurd h (by decide)⟩
    · rw [if_neg (by rw [wanted_neg rfl rfl t7 (fun e => hc (by injection e))]; decide)]
      exact hK.out _ _ ⟨hB, fun h => absurd h hc, Nat.le_refl _, .inl (Below.refl _ _), fun h => absurd h (by decide)⟩
  refine Stps.cons (o := _) ?_ ?_
  · intro ac yw hsz hold hB hp K hK
    have t7 : ac.tmps[7]? = some (.bool (!r1)) := (List.cons.inj (hp 4 (by decide))).1
    by_cases hc : ((!r1)) = false
    · rw [hc] at t7
      rw [if_pos (wanted_pos rfl rfl t7)]
      have e7 := hp 7 (by decide) hc
      have t10 : ac.tmps[10]? = some (.bool r2) := (List.cons.inj e7).1
      clear hold hp hsz e7
      go_simp
      exact hK.out _ _ ⟨hB, fun _ => rfl, Nat.le_refl _, .inl (Below.refl _ _), fun h => absurd h (by decide)⟩
    · rw [if_neg (by rw [wanted_neg rfl rfl t7 (fun e => hc (by injection e))]; decide)]
      exact hK.out _ _ ⟨hB, fun h => absurd h hc, Nat.le_refl _, .inl (Below.refl _ _), fun h => absurd h (by decide)⟩
  refine Stps.cons (o := _) ?_ ?_
  · intro ac yw hsz hold hB hp K hK
    have t7 : ac.tmps[7]? = some (.bool (!r1)) := (List.cons.inj (hp 4 (by decide))).1
    by_cases hc : ((!r1)) = true
    · rw [hc] at t7
      clear hold hp hsz
      go_simp
      exact hK.out _ _ ⟨hB, congrArg (fun b => [some (Value.bool b)]) (P1.out hc).symm, Nat.le_refl _, .inl (Below.refl _ _), fun h => absurd h (by decide)⟩
    · have hc : ((!r1)) = false := by simpa using hc
      rw [hc] at t7
      have t11 : ac.tmps[11]? = some (.bool (!r2)) := (List.cons.inj (hp 8 (by decide) hc)).1
      clear hold hp hsz
      go_simp
      exact hK.out _ _ ⟨hB, congrArg (fun b => [some (Value.bool b)]) (Q1.out hc).symm, Nat.le_refl _, .inl (Below.refl _ _), fun h => absurd h (by decide)⟩
  refine Stps.cons (o := _) ?_ ?_
  · intro ac yw hsz hold hB hp K hK
    have e9 := hp 9 (by decide)
    have t12 : ac.tmps[12]? = some (.bool x13) := (List.cons.inj e9).1
    clear hold hp hsz e9
    go_simp
    exact hK.out _ _ ⟨hB, rfl, Nat.le_refl _, .inl (Below.refl _ _), fun h => absurd h (by decide)⟩
  refine Stps.cons (o := _) ?_ ?_
  · intro ac yw hsz hold hB hp K hK
    have t13 : ac.tmps[13]? = some (.bool x13) := (List.cons.inj (hp 10 (by decide))).1
    by_cases hc : (x13) = false
    · rw [hc] at t13
      rw [if_pos (wanted_pos rfl rfl t13)]
      have t1 : ac.tmps[1]? = some (.pointer (some ⟨w.heap.size, 0, none⟩)) := hold 1 (by kernel_rfl)
      clear hold hp hsz
      go_simp
      exact hK.out _ _ ⟨hB, fun _ => rfl, Nat.le_refl _, .inl (Below.refl _ _), fun h => absurd h (by decide)⟩
    · rw [if_neg (by rw [wanted_neg rfl rfl t13 (fun e => hc (by injection e))]; decide)]
      exact hK.out _ _ ⟨hB, fun h => absurd h hc, Nat.le_refl _, .inl (Below.refl _ _), fun h => absurd h (by decide)⟩
  refine Stps.cons (o := _) ?_ ?_
  · intro ac yw hsz hold hB hp K hK
    have t13 : ac.tmps[13]? = some (.bool x13) := (List.cons.inj (hp 10 (by decide))).1
    by_cases hc : (x13) = false
    · rw [hc] at t13
      rw [if_pos (wanted_pos rfl rfl t13)]
      have e11 := hp 11 (by decide) hc
      have t14 : ac.tmps[14]? = some (.pointer (some ⟨w.heap.size, 1, none⟩)) := (List.cons.inj e11).1
      clear hold hp hsz e11
      have q0 := hB.now.1.cell
      have q1 := hB.now.1.cell1
      have q2 := hB.now.1.cell2
      go_simp
      exact hK.out _ _ ⟨hB, fun _ => rfl, Nat.le_refl _, .inl (Below.refl _ _), fun h => absurd h (by decide)⟩
    · rw [if_neg (by rw [wanted_neg rfl rfl t13 (fun e => hc (by injection e))]; decide)]
      exact hK.out _ _ ⟨hB, fun h => absurd h hc, Nat.le_refl _, .inl (Below.refl _ _), fun h => absurd h (by decide)⟩
  refine Stps.cons (o := _) ?_ ?_
  · intro ac yw hsz hold hB hp K hK
    have t13 : ac.tmps[13]? = some (.bool x13) := (List.cons.inj (hp 10 (by decide))).1
    by_cases hc : (x13) = false
    · rw [hc] at t13
      rw [if_pos (wanted_pos rfl rfl t13)]
      have e12 := hp 12 (by decide) hc
      have t15 : ac.tmps[15]? = some (.string s) := (List.cons.inj e12).1
      clear hold hp hsz e12
      go_simp
      (go_at_call 115; (with_reducible refine (T1.out _ (N1.out hc)).mono ?_); rintro e wz ⟨rfl, rfl⟩; have hbz := Below.refl yw.heap.size yw)
      exact hK.out _ _ ⟨hB.go hbz, fun _ => rfl, hbz.size, .inl hbz, fun h => absurd h (by decide)⟩
    · rw [if_neg (by rw [wanted_neg rfl rfl t13 (fun e => hc (by injection e))]; decide)]
      exact hK.out _ _ ⟨hB, fun h => absurd h hc, Nat.le_refl _, .inl (Below.refl _ _), fun h => absurd h (by decide)⟩
  refine Stps.cons (o := _) ?_ ?_
  · intro ac yw hsz hold hB hp K hK
    have t13 : ac.tmps[13]? = some (.bool x13) := (List.cons.inj (hp 10 (by decide))).1
    by_cases hc : (x13) = false
    · rw [hc] at t13
      rw [if_pos (wanted_pos rfl rfl t13)]
      have t1 : ac.tmps[1]? = some (.pointer (some ⟨w.heap.size, 0, none⟩)) := hold 1 (by kernel_rfl)
      clear hold hp hsz
      go_simp
      exact hK.out _ _ ⟨hB, fun _ => rfl, Nat.le_refl _, .inl (Below.refl _ _), fun h => absurd h (by decide)⟩
    · rw [if_neg (by rw [wanted_neg rfl rfl t13 (fun e => hc (by injection e))]; decide)]
      exact hK.out _ _ ⟨hB, fun h => absurd h hc, Nat.le_refl _, .inl (Below.refl _ _), fun h => absurd h (by decide)⟩
  refine Stps.cons (o := _) ?_ ?_
  · intro ac yw hsz hold hB hp K hK
    have t13 : ac.tmps[13]? = some (.bool x13) := (List.cons.inj (hp 10 (by decide))).1
    by_cases hc : (x13) = false
    · rw [hc] at t13
      rw [if_pos (wanted_pos rfl rfl t13)]
      have e14 := hp 14 (by decide) hc
      have t17 : ac.tmps[17]? = some (.pointer (some ⟨w.heap.size, 1, none⟩)) := (List.cons.inj e14).1
      clear hold hp hsz e14
      have q0 := hB.now.1.cell
      have q1 := hB.now.1.cell1
      have q2 := hB.now.1.cell2
      go_simp
      exact hK.out _ _ ⟨hB, fun _ => rfl, Nat.le_refl _, .inl (Below.refl _ _), fun h => absurd h (by decide)⟩
    · rw [if_neg (by rw [wanted_neg rfl rfl t13 (fun e => hc (by injection e))]; decide)]
      exact hK.out _ _ ⟨hB, fun h => absurd h hc, Nat.le_refl _, .inl (Below.refl _ _), fun h => absurd h (by decide)⟩
  refine Stps.cons (o := _) ?_ ?_
  · intro ac yw hsz hold hB hp K hK
    have t13 : ac.tmps[13]? = some (.bool x13) := (List.cons.inj (hp 10 (by decide))).1
    by_cases hc : (x13) = false
    · rw [hc] at t13
      rw [if_pos (wanted_pos rfl rfl t13)]
      have e13 := hp 13 (by decide) hc
      have t16 : ac.tmps[16]? = some (.string s1) := (List.cons.inj e13).1
      have e15 := hp 15 (by decide) hc
      have t18 : ac.tmps[18]? = some (.string s) := (List.cons.inj e15).1
      clear hold hp hsz e13 e15
      go_simp
      exact hK.out _ _ ⟨hB, fun _ => rfl, Nat.le_refl _, .inl (Below.refl _ _), fun h => absurd h (by decide)⟩
    · rw [if_neg (by rw [wanted_neg rfl rfl t13 (fun e => hc (by injection e))]; decide)]
      exact hK.out _ _ ⟨hB, fun h => absurd h hc, Nat.le_refl _, .inl (Below.refl _ _), fun h => absurd h (by decide)⟩
  refine Stps.cons (o := _) ?_ ?_
  · intro ac yw hsz hold hB hp K hK
    have t13 : ac.tmps[13]? = some (.bool x13) := (List.cons.inj (hp 10 (by decide))).1
    by_cases hc : (x13) = true
    · rw [hc] at t13
      clear hold hp hsz
      go_simp
      exact hK.out _ _ ⟨hB, congrArg (fun b => [some (Value.bool b)]) (P2.out hc).symm, Nat.le_refl _, .inl (Below.refl _ _), fun h => absurd h (by decide)⟩
    · have hc : (x13) = false := by simpa using hc
      rw [hc] at t13
      have t19 : ac.tmps[19]? = some (.bool (!e1)) := (List.cons.inj (hp 16 (by decide) hc)).1
      clear hold hp hsz
      go_simp
      exact hK.out _ _ ⟨hB, congrArg (fun b => [some (Value.bool b)]) (Q2.out hc).symm, Nat.le_refl _, .inl (Below.refl _ _), fun h => absurd h (by decide)⟩
  refine Stps.cons (o := _) ?_ ?_
  · intro ac yw hsz hold hB hp K hK
    have e17 := hp 17 (by decide)
    have t20 : ac.tmps[20]? = some (.bool x21) := (List.cons.inj e17).1
    clear hold hp hsz e17
    go_simp
    exact hK.out _ _ ⟨hB, rfl, Nat.le_refl _, .inl (Below.refl _ _), fun h => absurd h (by decide)⟩
  refine Stps.cons (o := _) ?_ ?_
  · intro ac yw hsz hold hB hp K hK
    have t21 : ac.tmps[21]? = some (.bool x21) := (List.cons.inj (hp 18 (by decide))).1
    by_cases hc : (x21) = false
    · rw [hc] at t21
      rw [if_pos (wanted_pos rfl rfl t21)]
      have t1 : ac.tmps[1]? = some (.pointer (some ⟨w.heap.size, 0, none⟩)) := hold 1 (by kernel_rfl)
      clear hold hp hsz
      go_simp
      exact hK.out _ _ ⟨hB, fun _ => rfl, Nat.le_refl _, .inl (Below.refl _ _), fun h => absurd h (by decide)⟩
    · rw [if_neg (by rw [wanted_neg rfl rfl t21 (fun e => hc (by injection e))]; decide)]
      exact hK.out _ _ ⟨hB, fun h => absurd h hc, Nat.le_refl _, .inl (Below.refl _ _), fun h => absurd h (by decide)⟩
  refine Stps.cons (o := _) ?_ ?_
  · intro ac yw hsz hold hB hp K hK
    have t21 : ac.tmps[21]? = some (.bool x21) := (List.cons.inj (hp 18 (by decide))).1
    by_cases hc : (x21) = false
    · rw [hc] at t21
      rw [if_pos (wanted_pos rfl rfl t21)]
      have e19 := hp 19 (by decide) hc
      have t22 : ac.tmps[22]? = some (.pointer (some ⟨w.heap.size, 2, none⟩)) := (List.cons.inj e19).1
      clear hold hp hsz e19
      have q0 := hB.now.1.cell
      have q1 := hB.now.1.cell1
      have q2 := hB.now.1.cell2
      go_simp
      exact hK.out _ _ ⟨hB, fun _ => rfl, Nat.le_refl _, .inl (Below.refl _ _), fun h => absurd h (by decide)⟩
    · rw [if_neg (by rw [wanted_neg rfl rfl t21 (fun e => hc (by injection e))]; decide)]
      exact hK.out _ _ ⟨hB, fun h => absurd h hc, Nat.le_refl _, .inl (Below.refl _ _), fun h => absurd h (by decide)⟩
  refine Stps.cons (o := _) ?_ ?_
  · intro ac yw hsz hold hB hp K hK
    have t21 : ac.tmps[21]? = some (.bool x21) := (List.cons.inj (hp 18 (by decide))).1
    by_cases hc : (x21) = false
    · rw [hc] at t21
      rw [if_pos (wanted_pos rfl rfl t21)]
      have e20 := hp 20 (by decide) hc
      have t23 : ac.tmps[23]? = some (.string t) := (List.cons.inj e20).1
      clear hold hp hsz e20
      go_simp
      (go_at_call 115; (with_reducible refine (T2.out _ (N2.out hc)).mono ?_); rintro e wz ⟨rfl, rfl⟩; have hbz := Below.refl yw.heap.size yw)
      exact hK.out _ _ ⟨hB.go hbz, fun _ => rfl, hbz.size, .inl hbz, fun h => absurd h (by decide)⟩
    · rw [if_neg (by rw [wanted_neg rfl rfl t21 (fun e => hc (by injection e))]; decide)]
      exact hK.out _ _ ⟨hB, fun h => absurd h hc, Nat.le_refl _, .inl (Below.refl _ _), fun h => absurd h (by decide)⟩
  refine Stps.cons (o := _) ?_ ?_
  · intro ac yw hsz hold hB hp K hK
    have t21 : ac.tmps[21]? = some (.bool x21) := (List.cons.inj (hp 18 (by decide))).1
    by_cases hc : (x21) = false
    · rw [hc] at t21
      rw [if_pos (wanted_pos rfl rfl t21)]
      have t1 : ac.tmps[1]? = some (.pointer (some ⟨w.heap.size, 0, none⟩)) := hold 1 (by kernel_rfl)
      clear hold hp hsz
      go_simp
      exact hK.out _ _ ⟨hB, fun _ => rfl, Nat.le_refl _, .inl (Below.refl _ _), fun h => absurd h (by decide)⟩
    · rw [if_neg (by rw [wanted_neg rfl rfl t21 (fun e => hc (by injection e))]; decide)]
      exact hK.out _ _ ⟨hB, fun h => absurd h hc, Nat.le_refl _, .inl (Below.refl _ _), fun h => absurd h (by decide)⟩
  refine Stps.cons (o := _) ?_ ?_
  · intro ac yw hsz hold hB hp K hK
    have t21 : ac.tmps[21]? = some (.bool x21) := (List.cons.inj (hp 18 (by decide))).1
    by_cases hc : (x21) = false
    · rw [hc] at t21
      rw [if_pos (wanted_pos rfl rfl t21)]
      have e22 := hp 22 (by decide) hc
      have t25 : ac.tmps[25]? = some (.pointer (some ⟨w.heap.size, 2, none⟩)) := (List.cons.inj e22).1
      clear hold hp hsz e22
      have q0 := hB.now.1.cell
      have q1 := hB.now.1.cell1
      have q2 := hB.now.1.cell2
      go_simp
      exact hK.out _ _ ⟨hB, fun _ => rfl, Nat.le_refl _, .inl (Below.refl _ _), fun h => absurd h (by decide)⟩
    · rw [if_neg (by rw [wanted_neg rfl rfl t21 (fun e => hc (by injection e))]; decide)]
      exact hK.out _ _ ⟨hB, fun h => absurd h hc, Nat.le_refl _, .inl (Below.refl _ _), fun h => absurd h (by decide)⟩
  refine Stps.cons (o := _) ?_ ?_
  · intro ac yw hsz hold hB hp K hK
    have t21 : ac.tmps[21]? = some (.bool x21) := (List.cons.inj (hp 18 (by decide))).1
    by_cases hc : (x21) = false
    · rw [hc] at t21
      rw [if_pos (wanted_pos rfl rfl t21)]
      have e21 := hp 21 (by decide) hc
      have t24 : ac.tmps[24]? = some (.string t1) := (List.cons.inj e21).1
      have e23 := hp 23 (by decide) hc
      have t26 : ac.tmps[26]? = some (.string t) := (List.cons.inj e23).1
      clear hold hp hsz e21 e23
      go_simp
      exact hK.out _ _ ⟨hB, fun _ => rfl, Nat.le_refl _, .inl (Below.refl _ _), fun h => absurd h (by decide)⟩
    · rw [if_neg (by rw [wanted_neg rfl rfl t21 (fun e => hc (by injection e))]; decide)]
      exact hK.out _ _ ⟨hB, fun h => absurd h hc, Nat.le_refl _, .inl (Below.refl _ _), fun h => absurd h (by decide)⟩
  refine Stps.cons (o := _) ?_ ?_
  · intro ac yw hsz hold hB hp K hK
    have t21 : ac.tmps[21]? = some (.bool x21) := (List.cons.inj (hp 18 (by decide))).1
    by_cases hc : (x21) = true
    · rw [hc] at t21
      clear hold hp hsz
      go_simp
      exact hK.out _ _ ⟨hB, congrArg (fun b => [some (Value.bool b)]) (P3.out hc).symm, Nat.le_refl _, .inl (Below.refl _ _), fun h => absurd h (by decide)⟩
    · have hc : (x21) = false := by simpa using hc
      rw [hc] at t21
      have t27 : ac.tmps[27]? = some (.bool (!e2)) := (List.cons.inj (hp 24 (by decide) hc)).1
      clear hold hp hsz
      go_simp
      exact hK.out _ _ ⟨hB, congrArg (fun b => [some (Value.bool b)]) (Q3.out hc).symm, Nat.le_refl _, .inl (Below.refl _ _), fun h => absurd h (by decide)⟩
  refine Stps.cons (o := _) ?_ ?_
  · intro ac yw hsz hold hB hp K hK
    have e25 := hp 25 (by decide)
    have t28 : ac.tmps[28]? = some (.bool x29) := (List.cons.inj e25).1
    clear hold hp hsz e25
    go_simp
    exact hK.out _ _ ⟨hB, rfl, Nat.le_refl _, .inl (Below.refl _ _), fun h => absurd h (by decide)⟩
  refine Stps.cons (o := _) ?_ ?_
  · intro ac yw hsz hold hB hp K hK
    have t29 : ac.tmps[29]? = some (.bool x29) := (List.cons.inj (hp 26 (by decide))).1
    by_cases hc : (x29) = false
    · rw [hc] at t29
      rw [if_pos (wanted_pos rfl rfl t29)]
      have t1 : ac.tmps[1]? = some (.pointer (some ⟨w.heap.size, 0, none⟩)) := hold 1 (by kernel_rfl)
      clear hold hp hsz
      go_simp
      exact hK.out _ _ ⟨hB, fun _ => rfl, Nat.le_refl _, .inl (Below.refl _ _), fun h => absurd h (by decide)⟩
    · rw [if_neg (by rw [wanted_neg rfl rfl t29 (fun e => hc (by injection e))]; decide)]
      exact hK.out _ _ ⟨hB, fun h => absurd h hc, Nat.le_refl _, .inl (Below.refl _ _), fun h => absurd h (by decide)⟩
  refine Stps.cons (o := _) ?_ ?_
  · intro ac yw hsz hold hB hp K hK
    have t29 : ac.tmps[29]? = some (.bool x29) := (List.cons.inj (hp 26 (by decide))).1
    by_cases hc : (x29) = false
    · rw [hc] at t29
      rw [if_pos (wanted_pos rfl rfl t29)]
      have e27 := hp 27 (by decide) hc
      have t30 : ac.tmps[30]? = some (.pointer (some ⟨w.heap.size, 2, none⟩)) := (List.cons.inj e27).1
      clear hold hp hsz e27
      have q0 := hB.now.1.cell
      have q1 := hB.now.1.cell1
      have q2 := hB.now.1.cell2
      go_simp
      exact hK.out _ _ ⟨hB, fun _ => rfl, Nat.le_refl _, .inl (Below.refl _ _), fun h => absurd h (by decide)⟩
    · rw [if_neg (by rw [wanted_neg rfl rfl t29 (fun e => hc (by injection e))]; decide)]
      exact hK.out _ _ ⟨hB, fun h => absurd h hc, Nat.le_refl _, .inl (Below.refl _ _), fun h => absurd h (by decide)⟩
  refine Stps.cons (o := _) ?_ ?_
  · intro ac yw hsz hold hB hp K hK
    have t29 : ac.tmps[29]? = some (.bool x29) := (List.cons.inj (hp 26 (by decide))).1
    by_cases hc : (x29) = false
    · rw [hc] at t29
      rw [if_pos (wanted_pos rfl rfl t29)]
      have e28 := hp 28 (by decide) hc
      have t31 : ac.tmps[31]? = some (.string t) := (List.cons.inj e28).1
      clear hold hp hsz e28
      go_simp
      exact hK.out _ _ ⟨hB, fun _ => rfl, Nat.le_refl _, .inl (Below.refl _ _), fun h => absurd h (by decide)⟩
    · rw [if_neg (by rw [wanted_neg rfl rfl t29 (fun e => hc (by injection e))]; decide)]
      exact hK.out _ _ ⟨hB, fun h => absurd h hc, Nat.le_refl _, .inl (Below.refl _ _), fun h => absurd h (by decide)⟩
  refine Stps.cons (o := _) ?_ ?_
  · intro ac yw hsz hold hB hp K hK
    have t29 : ac.tmps[29]? = some (.bool x29) := (List.cons.inj (hp 26 (by decide))).1
    by_cases hc : (x29) = true
    · rw [hc] at t29
      clear hold hp hsz
      go_simp
      exact hK.out _ _ ⟨hB, congrArg (fun b => [some (Value.bool b)]) (P4.out hc).symm, Nat.le_refl _, .inl (Below.refl _ _), fun h => absurd h (by decide)⟩
    · have hc : (x29) = false := by simpa using hc
      rw [hc] at t29
      have t32 : ac.tmps[32]? = some (.bool z) := (List.cons.inj (hp 29 (by decide) hc)).1
      clear hold hp hsz
      go_simp
      exact hK.out _ _ ⟨hB, congrArg (fun b => [some (Value.bool b)]) (Q4.out hc).symm, Nat.le_refl _, .inl (Below.refl _ _), fun h => absurd h (by decide)⟩
  exact Stps.nil _
end Go.Proofs.YtnpoakaffafdiaaGreatDoor

namespace Go.Proofs.YtnpoakaffafdiaaGreatDoor
open Go.RowKit
attribute [local go_sem ↓] Go.wp_at_zero Go.wp_at_succ
set_option linter.unusedVariables false
set_option linter.unusedSimpArgs false
/-- What the laws of layer 12 read. -/
def rd12 (b : Bool) (s t : ByteArray) : Bool := decide (s.size ≤ 60) && (decide (t.size ≤ 60) && ofO b s t)
theorem size_dl12 (N : Nat) : (str (dec N)).size = dl N := by rw [str_size]; exact sdig_length _ _
theorem ten60 : (10 : Nat) ^ 60 < 4294967296 ^ 7 := by decide
theorem rd12_spec {b : Bool} {s t : ByteArray} (h : rd12 b s t = true) : rB (ofP b s t) = b ∧ rS (ofP b s t) = s ∧ str (dec (ofQ b s t)) = t ∧ 0 < ofQ b s t ∧ Nat.gcd (ofP b s t).natAbs (ofQ b s t) = 1 ∧ dl (ofP b s t).natAbs ≤ 60 ∧ dl (ofQ b s t) ≤ 60 ∧ (ofP b s t).natAbs < 4294967296 ^ 7 ∧ ofQ b s t < 4294967296 ^ 7 := by
  unfold rd12 ofO at h
  rw [Bool.and_eq_true, Bool.and_eq_true, Bool.and_eq_true, decide_eq_true_eq, decide_eq_true_eq, decide_eq_true_eq] at h
  obtain ⟨hs, ht, hk, h1, h2, h3⟩ := h
  unfold ofK at hk
  rw [Bool.and_eq_true, Bool.and_eq_true, Bool.not_eq_true', decide_eq_false_iff_not] at hk
  have hM : 0 < numOf t.data.toList := by omega
  have d1 : dl (ofP b s t).natAbs ≤ 60 := by have := congrArg ByteArray.size h2; unfold rS at this; rw [size_dl12] at this; omega
  have d2 : dl (ofQ b s t) ≤ 60 := by have := congrArg ByteArray.size h3; rw [size_dl12] at this; omega
  have lim : ∀ N, dl N ≤ 60 → N < 4294967296 ^ 7 := fun N h => Nat.lt_trans (Nat.lt_of_lt_of_le (dl_lt N) (Nat.pow_le_pow_right (by omega) h)) ten60
  exact ⟨h1, h2, h3, loQ_pos _ hM, lo_cop _ hM, d1, d2, lim _ d1, lim _ d2⟩
set_option maxHeartbeats 3200000 in
set_option maxRecDepth 100000 in
theorem read12_yes (b : Bool) (s t : ByteArray) (w : World) (h : rd12 b s t = true) :
    Calls Tryz.prog 23 #[.agg #[.bool b, .string s, .string t]] w fun e w' => RatTold3 w w' e (ofP b s t) (ofQ b s t) true := by
  unfold rd12 at h
  rw [Bool.and_eq_true, Bool.and_eq_true, decide_eq_true_eq, decide_eq_true_eq] at h
  have BB := Lib.hid ((Bag.start w).box3 (.bool b) (.string s) (.string t) 53 |>.box3 (.slice none 0 0) (.bool false) (.slice none 0 0) 60)
  simp only [World.size_alloc] at BB
  have RT := Lib.hid (fun wz => r3Right_any b s t wz (by omega) (by omega))
  have OF := Lib.hid (fun wz => of_any' b s t wz (by omega) (by omega))
  rw [h.2.2, if_pos rfl, if_pos rfl] at OF
  rw [h.2.2] at RT
  unfold RatTold3 at OF
  generalize ofP b s t = P at *
  generalize ofQ b s t = Q at *
  have q0 := BB.out.now.2.1.cell
  have q1 := BB.out.now.2.1.cell1
  have q2 := BB.out.now.2.1.cell2
  have l1 : decide ((60 : Int) < s.size) = false := decide_eq_false (by omega)
  have l2 : decide ((60 : Int) < t.size) = false := decide_eq_false (by omega)
  clear h
  go_enter Tryz.func23, Tryz.ntmps23
  go_wp2_with fail
  go_at_call 62
  (with_reducible refine (RT.out _).mono ?_)
  rintro e w2 ⟨rfl, hb2⟩
  have BB := Lib.hid (BB.out.go hb2)
  have q0 := BB.out.now.2.1.cell
  have q1 := BB.out.now.2.1.cell1
  have q2 := BB.out.now.2.1.cell2
  clear hb2
  go_wp2_with fail
  go_at_call 63
  (with_reducible refine (OF.out _).mono ?_)
  rintro e w3 ⟨a3, n3, c3, m3, a4, n4, c4, rfl, hr, hb3⟩
  have BB := Lib.hid (BB.out.go hb3)
  have hs := BB.out.now.1
  have u0 := hs.cell
  have u1 := hs.cell1
  have u2 := hs.cell2
  have g0 := hs.free
  have g1 := hs.free1
  have g2 := hs.free2
  have HS := hs.set (.slice a3 n3 c3) (.bool m3) (.slice a4 n4 c4)
  have HE := Lib.hid (RatTold3.done true BB.out.below (by omega) hs hr)
  clear hs hr hb3
  go_wp2
  exact bodyPost_ret (v := .tuple #[.agg #[.slice a3 n3 c3, .bool m3, .slice a4 n4 c4], .bool true]) (by simp [results, Tryz.results23, go_sem, HS]) rfl HE.out
set_option maxHeartbeats 3200000 in
set_option maxRecDepth 100000 in
theorem read12_no (b : Bool) (s t : ByteArray) (w : World) (h : rd12 b s t = false) :
    Calls Tryz.prog 23 #[.agg #[.bool b, .string s, .string t]] w fun e w' => RatTold3 w w' e 0 1 false := by
  have BB := Lib.hid ((Bag.start w).box3 (.bool b) (.string s) (.string t) 53 |>.box3 (.slice none 0 0) (.bool false) (.slice none 0 0) 60)
  simp only [World.size_alloc] at BB
  have q0 := BB.out.now.2.1.cell
  have q1 := BB.out.now.2.1.cell1
  have q2 := BB.out.now.2.1.cell2
  by_cases h1 : s.size ≤ 60
  · by_cases h2 : t.size ≤ 60
    · unfold rd12 at h
      rw [decide_eq_true h1, decide_eq_true h2, Bool.true_and, Bool.true_and] at h
      have RT := Lib.hid (fun wz => r3Right_any b s t wz (by omega) (by omega))
      rw [h] at RT
      have l1 : decide ((60 : Int) < s.size) = false := decide_eq_false (by omega)
      have l2 : decide ((60 : Int) < t.size) = false := decide_eq_false (by omega)
      clear h h1 h2
      go_enter Tryz.func23, Tryz.ntmps23
      go_wp2_with fail
      go_at_call 62
      (with_reducible refine (RT.out _).mono ?_)
      rintro e w2 ⟨rfl, hb2⟩
      have BB := Lib.hid (BB.out.go hb2)
      have hs := BB.out.now.1
      have u0 := hs.cell
      have u1 := hs.cell1
      have u2 := hs.cell2
      have g0 := hs.free
      have g1 := hs.free1
      have g2 := hs.free2
      have HS := hs.set (.slice none 0 0) (.bool false) (.slice none 0 0)
      have HE := Lib.hid (RatTold3.done false BB.out.below (by omega) hs (RatAt.zero _))
      clear hs hb2
      go_wp2
      exact bodyPost_ret (v := .tuple #[.agg #[.slice none 0 0, .bool false, .slice none 0 0], .bool false]) (by simp [results, Tryz.results23, go_sem, HS]) rfl HE.out
    · have l1 : decide ((60 : Int) < s.size) = false := decide_eq_false (by omega)
      have l2 : decide ((60 : Int) < t.size) = true := decide_eq_true (by omega)
      have hs := BB.out.now.1
      have u0 := hs.cell
      have u1 := hs.cell1
      have u2 := hs.cell2
      have g0 := hs.free
      have g1 := hs.free1
      have g2 := hs.free2
      clear hs h h1 h2
      go_enter Tryz.func23, Tryz.ntmps23
      go_wp2
      exact bodyPost_ret (v := .tuple #[.agg #[.slice none 0 0, .bool false, .slice none 0 0], .bool false]) (by simp [results, Tryz.results23, go_sem]) rfl ⟨none, 0, 0, false, none, 0, 0, rfl, RatAt.zero _, BB.out.below⟩
  · have l1 : decide ((60 : Int) < s.size) = true := decide_eq_true (by omega)
    have hs := BB.out.now.1
    have u0 := hs.cell
    have u1 := hs.cell1
    have u2 := hs.cell2
    have g0 := hs.free
    have g1 := hs.free1
    have g2 := hs.free2
    clear hs h h1
    go_enter Tryz.func23, Tryz.ntmps23
    go_wp2
    exact bodyPost_ret (v := .tuple #[.agg #[.slice none 0 0, .bool false, .slice none 0 0], .bool false]) (by simp [results, Tryz.results23, go_sem]) rfl ⟨none, 0, 0, false, none, 0, 0, rfl, RatAt.zero _, BB.out.below⟩
theorem aw12 : oP 33 5 1 4 = 120 ∧ oQ 33 5 1 4 = 1 ∧ oE 33 5 1 4 = 0 ∧ oP 8968 7 2 4 = 4 ∧ oQ 8968 7 2 4 = 1 ∧ oE 8968 7 2 4 = 0 := by
  refine ⟨?_, ?_, ?_, ?_, ?_, ?_⟩ <;> decide +kernel
theorem aw12o : ofO false ⟨#[55]⟩ ⟨#[50]⟩ = true ∧ ofP false ⟨#[55]⟩ ⟨#[50]⟩ = 7 ∧ ofQ false ⟨#[55]⟩ ⟨#[50]⟩ = 2 := by
  refine ⟨?_, ?_, ?_⟩ <;> decide +kernel
set_option maxHeartbeats 3200000 in
set_option maxRecDepth 100000 in
theorem awake12_any (w : World) : Calls Tryz.prog 24 #[] w fun e w' => e = .returned (.bool true) ∧ Below w.heap.size w w' := by
  have FR := Lib.hid (fun wz => ratFrom_any 5 wz (by omega))
  have O1 := Lib.hid (fun a n c m a2 n2 c2 wz h => mone_any 33 a n c m a2 n2 c2 5 1 4 wz h (by decide) (by decide) 1 (by omega) (by decide) (by decide) (by omega))
  have O2 := Lib.hid (fun a n c m a2 n2 c2 wz h => mone_any 8968 a n c m a2 n2 c2 7 2 4 wz h (by decide) (by decide) 1 (by omega) (by decide) (by decide) (by omega))
  rw [aw12.1, aw12.2.1, aw12.2.2.1] at O1
  rw [aw12.2.2.2.1, aw12.2.2.2.2.1, aw12.2.2.2.2.2] at O2
  have OF := Lib.hid (fun wz => of_any' false ⟨#[55]⟩ ⟨#[50]⟩ wz (by decide) (by decide))
  rw [aw12o.1, aw12o.2.1, aw12o.2.2, if_pos rfl, if_pos rfl] at OF
  have N1 := Lib.hid (fun a n c m a2 n2 c2 wz h => num_any a n c m a2 n2 c2 120 1 wz h (by decide) 1 (by omega) (by decide) (by decide))
  have N2 := Lib.hid (fun a n c m a2 n2 c2 wz h => num_any a n c m a2 n2 c2 4 1 wz h (by decide) 1 (by omega) (by decide) (by decide))
  have R1 := Lib.hid (fun wz => r3From_any 120 wz (by omega))
  have R2 := Lib.hid (fun wz => r3From_any 4 wz (by omega))
  unfold RatTold4 at O1 O2
  unfold RatTold3 at OF
  unfold NumTold at N1 N2 R1 R2
  generalize rB 120 = b1 at *
  generalize rS 120 = s1 at *
  generalize rB 4 = b2 at *
  generalize rS 4 = s2 at *
  generalize str (dec 1) = q1 at *
  have BB := Lib.hid (Bag.start w)
  go_enter Tryz.func24, Tryz.ntmps24
  go_wp2_with fail
  go_at_call 33
  (with_reducible refine (FR.out _).mono ?_)
  rintro e w1 ⟨a1, n1, c1, m1, d1, i1, j1, rfl, hr1, hb1⟩
  have BB := Lib.hid ((BB.out.go hb1).rat hr1)
  clear hb1 hr1
  go_wp2_with fail
  go_at_call 25
  (with_reducible refine (O1.out _ _ _ _ _ _ _ _ BB.out.now.1).mono ?_)
  rintro e w2 ⟨a2, n2, c2, m2, d2, i2, j2, rfl, hr2, hb2⟩
  have BB := Lib.hid (((Bag.start w).go (BB.out.go hb2).below |>.rat hr2).box3 (.slice a2 n2 c2) (.bool m2) (.slice d2 i2 j2) 60)
  clear hb2 hr2
  go_wp2_with fail
  go_at_call 63
  (with_reducible refine (OF.out _).mono ?_)
  rintro e w3 ⟨a3, n3, c3, m3, d3, i3, j3, rfl, hr3, hb3⟩
  have BB := Lib.hid (((BB.out.go hb3).rat hr3).box3 (.slice a3 n3 c3) (.bool m3) (.slice d3 i3 j3) 60)
  clear hb3 hr3
  have q0 := BB.out.now.1.cell
  have q1 := BB.out.now.1.cell1
  have q2 := BB.out.now.1.cell2
  go_wp2_with fail
  go_at_call 25
  (with_reducible refine (O2.out _ _ _ _ _ _ _ _ BB.out.now.2.1).mono ?_)
  rintro e w4 ⟨a4, n4, c4, m4, d4, i4, j4, rfl, hr4, hb4⟩
  have BB := Lib.hid (((BB.out.go hb4).rat hr4).box3 (.slice a4 n4 c4) (.bool m4) (.slice d4 i4 j4) 60)
  clear hb4 hr4 q0 q1 q2
  have q0 := BB.out.now.2.2.2.2.1.cell
  have q1 := BB.out.now.2.2.2.2.1.cell1
  have q2 := BB.out.now.2.2.2.2.1.cell2
  go_wp2_with fail
  go_at_call 22
  (with_reducible refine (N1.out _ _ _ _ _ _ _ _ BB.out.now.2.2.2.2.2.1).mono ?_)
  rintro e w5 ⟨rfl, hb5⟩
  have BB := Lib.hid (BB.out.go hb5)
  clear hb5 q0 q1 q2
  go_wp2_with fail
  go_at_call 64
  (with_reducible refine (R1.out _).mono ?_)
  rintro e w6 ⟨rfl, hb6⟩
  have BB := Lib.hid (BB.out.go hb6)
  clear hb6
  have q0 := BB.out.now.1.cell
  have q1 := BB.out.now.1.cell1
  have q2 := BB.out.now.1.cell2
  go_wp2_with fail
  go_at_call 22
  (with_reducible refine (N2.out _ _ _ _ _ _ _ _ BB.out.now.2.1).mono ?_)
  rintro e w7 ⟨rfl, hb7⟩
  have BB := Lib.hid (BB.out.go hb7)
  clear hb7 q0 q1 q2
  go_wp2_with fail
  go_at_call 64
  (with_reducible refine (R2.out _).mono ?_)
  rintro e w8 ⟨rfl, hb8⟩
  have BB := Lib.hid (BB.out.go hb8)
  clear hb8
  go_wp2
  go_ret
  exact ⟨rfl, BB.out.below⟩
end Go.Proofs.YtnpoakaffafdiaaGreatDoor

namespace Go.Proofs.YtnpoakaffafdiaaGreatDoor
open Go.ChangeShapes Go.WideShapes Go.ChangeAt Go.RowKit Go.WideMaps Go.WideElems Go.Deep
theorem cellsNum : Tryz.prog.cellsOf 53 = 3 := by kernel_rfl
theorem cellsBool : Tryz.prog.cellsOf 4 = 1 := by kernel_rfl
theorem cellsStr : Tryz.prog.cellsOf 9 = 1 := by kernel_rfl
set_option maxRecDepth 100000 in
theorem open_num {H : Type} {enc : TypeId × Value → H} {W : World} {r : Reach} {b0 : Nat} {sp : Nat → Bool} {v0 : Value} {d0 : DataW H} {p0 : List MemPlace}
    (hv : Value.okWide Tryz.prog W r b0 53 v0) (h0 : DataW.Trod enc Tryz.prog W 0 sp true 53 v0 d0 p0) :
    ∃ (b : Bool) (s t : ByteArray), v0 = .agg #[.bool b, .string s, .string t] ∧ d0 = .agg [.lit (.bool b), .lit (.string s.data.toList), .lit (.string t.data.toList)] ∧ p0 = [] ∧ s.size ≤ maxLen ∧ t.size ≤ maxLen := by
  obtain ⟨cs, rfl, hsz⟩ := okWide_struct Tryz.underlying53 hv
  rw [cellsNum] at hsz
  obtain ⟨l⟩ := cs
  match l, hsz with
  | [c0, c1, c2], _ =>
  obtain ⟨fuel, hf⟩ := h0
  obtain ⟨y0, y1, y2, m, hx, _, hy0, hy1, hy2⟩ := trod_struct3 Tryz.underlying53 hf
  obtain ⟨b, e0, rfl⟩ := DataW.trod_bool Tryz.underlying4 hy0
  obtain ⟨s, e1, rfl, hs⟩ := DataW.trod_string Tryz.underlying9 hy1
  obtain ⟨t, e2, rfl, ht⟩ := DataW.trod_string Tryz.underlying9 hy2
  simp [Value.cells, cellsBool] at e0
  simp [Value.cells, cellsStr] at e1 e2
  subst e0 e1 e2
  simp only [Prod.mk.injEq] at hx
  obtain ⟨rfl, rfl⟩ := hx
  exact ⟨b, s, t, rfl, rfl, rfl, hs, ht⟩
set_option maxRecDepth 100000 in
theorem shut_num {H : Type} {enc : TypeId × Value → H} {W : World} {sp : Nat → Bool} {b : Bool} {s t : ByteArray} (hs : s.size ≤ maxLen) (ht : t.size ≤ maxLen) :
    DataW.Trod enc Tryz.prog W 0 sp true 53 (.agg #[.bool b, .string s, .string t]) (.agg [.lit (.bool b), .lit (.string s.data.toList), .lit (.string t.data.toList)]) [] :=
  ⟨2, by
    have f0 : DataW.trod enc Tryz.prog W 0 sp true 1 4 [.bool b] = some (.lit (.bool b), []) := by simp [DataW.trod, Tryz.underlying4]
    have f1 : DataW.trod enc Tryz.prog W 0 sp true 1 9 [.string s] = some (.lit (.string s.data.toList), []) := by simp [DataW.trod, Tryz.underlying9, hs]
    have f2 : DataW.trod enc Tryz.prog W 0 sp true 1 9 [.string t] = some (.lit (.string t.data.toList), []) := by simp [DataW.trod, Tryz.underlying9, ht]
    have := trod_struct3_mk (enc := enc) (w := W) (base := 0) (spare := sp) (held := true) (n := 1) (cs := [.bool b, .string s, .string t]) Tryz.underlying53 (by simp [cellsNum]) (by simpa [cellsBool] using f0) (by simpa [cellsStr] using f1) (by simpa [cellsStr] using f2)
    simpa [Value.cells] using this⟩
end Go.Proofs.YtnpoakaffafdiaaGreatDoor
