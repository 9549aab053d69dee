/-
  The document's answers (package typeballref03): Rest, by contract.
  Package typeballlaw03: what read answers, of which only its truth is kept; By in one contract.
  What is left of a number by another one, by plain arithmetic: it differs from the number by a whole multiple, and has the other one's sign.
  A drawn region by one invariant, second edition: a new block may be known by a slice.
-/
import Derived.Test.YtipfhbfjbbiglaaGreatDoorRr7
import Derived.Test.YtipfhbfjbbiglaaGreatDoorRc1
import Derived.Test.YtipfhbfjbbiglaaGreatDoorLa1
import Derived.Test.YtipfhbfjbbiglaaGreatDoorRr4
import Derived.Test.YtipfhbfjbbiglaaGreatDoorRa11
import Derived.Test.YtipfhbfjbbiglaaGreatDoorWr4
import Derived.Test.YtipfhbfjbbiglaaGreatDoorRr2
import Derived.Test.YtipfhbfjbbiglaaGreatDoorInw
import Derived.Test.YtipfhbfjbbiglaaGreatDoorRa13
namespace Go.Proofs.YtipfhbfjbbiglaaGreatDoor
open Go.RowKit
attribute [local go_sem ↓] Go.wp_at_zero Go.wp_at_succ

set_option maxHeartbeats 1600000 in
set_option maxRecDepth 100000 in
theorem r3Rest_zero (Q : Nat) (P' : Int) (Q' : Nat) (w : World) (h2 : dl Q ≤ 60) (h3 : dl P'.natAbs ≤ 60) (h4 : dl Q' ≤ 60) :
    Calls Tryz.prog 56 #[.agg #[.bool (rB 0), .string (rS 0), .string (str (dec Q))], .agg #[.bool (rB P'), .string (rS P'), .string (str (dec Q'))]] w fun e w' => NumTold w w' e P' Q' := by
  have BB := Lib.hid (((Bag.start w).box3 (.bool (rB 0)) (.string (rS 0)) (.string (str (dec Q))) 23).box3 (.bool (rB P')) (.string (rS P')) (.string (str (dec Q'))) 23 |>.box3 (.bool false) (.string ⟨#[]⟩) (.string ⟨#[]⟩) 23)
  simp only [World.size_alloc] at BB
  have DV := Lib.hid (fun wz => r3Div_zero P' Q' Q wz (by omega) (by omega) (by omega))
  unfold NumTold3 at DV
  have HF := Lib.hid (fun w2 b x y (hb : Below w.heap.size w w2) (h1 : rB P' = b) (h2 : rS P' = x) (h3 : str (dec Q') = y) => NumTold.done (k := w.heap.size + 1 + 1) P' Q' hb (by omega) h1 h2 h3)
  obtain ⟨x1, hx1⟩ : ∃ x, rB P' = x := ⟨_, rfl⟩
  obtain ⟨x2, hx2⟩ : ∃ x, rS P' = x := ⟨_, rfl⟩
  obtain ⟨x3, hx3⟩ : ∃ x, str (dec Q') = x := ⟨_, rfl⟩
  have HX := Lib.hid (And.intro hx1 (And.intro hx2 hx3))
  rw [hx1, hx2, hx3] at DV BB
  rw [hx1, hx2, hx3]
  generalize rB 0 = z1 at *
  generalize rS 0 = z2 at *
  generalize str (dec Q) = q at *
  generalize str (dec 1) = o at *
  have q0 := BB.out.now.2.1.cell
  have q1 := BB.out.now.2.1.cell1
  have q2 := BB.out.now.2.1.cell2
  have r0 := BB.out.now.2.2.1.cell
  have r1 := BB.out.now.2.2.1.cell1
  have r2 := BB.out.now.2.2.1.cell2
  clear hx1 hx2 hx3 h2 h3 h4
  go_enter Tryz.func56, Tryz.ntmps56
  go_wp2_with fail
  go_at_call 48
  (with_reducible refine (DV.out _).mono ?_)
  rintro e w2 ⟨rfl, hb2⟩
  have BB := Lib.hid ((BB.out.go hb2).box3 (.bool z1) (.string z2) (.string o) 23)
  have q0 := BB.out.now.2.2.1.cell
  have q1 := BB.out.now.2.2.1.cell1
  have q2 := BB.out.now.2.2.1.cell2
  have hs := BB.out.now.2.1
  have u0 := hs.cell
  have u1 := hs.cell1
  have u2 := hs.cell2
  have g0 := hs.free
  have g1 := hs.free1
  have g2 := hs.free2
  have HS := hs.set (.bool x1) (.string x2) (.string x3)
  have HE := Lib.hid (HF.out _ x1 x2 x3 BB.out.below HX.out.1 HX.out.2.1 HX.out.2.2)
  clear hb2 hs
  go_wp2
  exact bodyPost_ret (v := .agg #[.bool x1, .string x2, .string x3]) (by simp [results, Tryz.results56, go_sem, HS]) rfl HE.out

set_option maxHeartbeats 6400000 in
set_option maxRecDepth 100000 in
theorem r3Rest_some (P : Int) (Q : Nat) (P' : Int) (Q' : Nat) (w : World) (hQ : 0 < Q) (hQ' : 0 < Q') (hP : P ≠ 0) (h1 : dl P.natAbs ≤ 60) (h2 : dl Q ≤ 60) (h3 : dl P'.natAbs ≤ 60) (h4 : dl Q' ≤ 60) :
    Calls Tryz.prog 56 #[.agg #[.bool (rB P), .string (rS P), .string (str (dec Q))], .agg #[.bool (rB P'), .string (rS P'), .string (str (dec Q'))]] w fun e w' => NumTold w w' e (plP P' Q' (-(tmP P Q (reF P Q P' Q') 1)) (tmQ P Q (reF P Q P' Q') 1)) (plQ P' Q' (-(tmP P Q (reF P Q P' Q') 1)) (tmQ P Q (reF P Q P' Q') 1)) := by
  have BB := Lib.hid (((Bag.start w).box3 (.bool (rB P)) (.string (rS P)) (.string (str (dec Q))) 23).box3 (.bool (rB P')) (.string (rS P')) (.string (str (dec Q'))) 23 |>.box3 (.bool false) (.string ⟨#[]⟩) (.string ⟨#[]⟩) 23)
  simp only [World.size_alloc] at BB
  have DV := Lib.hid (fun wz => r3Div_some P' Q' P Q wz hQ' hP (by omega) (by omega) (by omega) (by omega))
  have e1 := dl_mulZ (Z := P') (y := Q) (by omega) (by omega)
  have e1 : dl (P' * (Q : Int)).natAbs ≤ 120 := by rw [Int.natAbs_mul, Int.natAbs_natCast]; exact dl_mul_le h3 h2
  have e2 : dl (P * (Q' : Int)).natAbs ≤ 120 := by rw [Int.natAbs_mul, Int.natAbs_natCast]; exact dl_mul_le h1 h4
  have e3 := nw_dl (P' * (Q : Int)) (P * (Q' : Int))
  have hVp : 0 < nwQ (P' * Q) (P * Q') := nwQ_pos _ (Int.mul_ne_zero hP (by omega))
  have FL := Lib.hid (fun wz => r3Floor_any (nwP (P' * Q) (P * Q')) (nwQ (P' * Q) (P * Q')) wz hVp (by omega) (by omega))
  rw [show flQ (nwP (P' * Q) (P * Q')) (nwQ (P' * Q) (P * Q')) = reF P Q P' Q' from rfl] at FL
  have e4 : dl (reF P Q P' Q').natAbs ≤ 121 := by
    have := flQ_abs (nwP (P' * Q) (P * Q')) (nwQ (P' * Q) (P * Q'))
    rw [show reF P Q P' Q' = flQ (nwP (P' * Q) (P * Q')) (nwQ (P' * Q) (P * Q')) from rfl]
    exact Nat.le_trans (dl_mono this) (dl_add_le (k := 120) (by omega) (by rw [dl_one]; omega))
  have WH := Lib.hid (fun wz => r3Whole_any (reF P Q P' Q') wz)
  have ML := Lib.hid (fun wz => r3Mul_any P Q (reF P Q P' Q') 1 wz hQ (by omega) (by omega) (by omega) (by omega) (by rw [dl_one]; omega))
  have e5 : dl (tmP P Q (reF P Q P' Q') 1).natAbs ≤ 181 := Nat.le_trans (lo_dl _ _).1 (by rw [Int.natAbs_mul]; exact dl_mul_le h1 e4)
  have e6 : dl (tmQ P Q (reF P Q P' Q') 1) ≤ 60 := Nat.le_trans (lo_dl _ _).2 (by rw [Nat.mul_one]; exact h2)
  have hTp : 0 < tmQ P Q (reF P Q P' Q') 1 := tmQ_pos _ _ hQ (by omega)
  have MN := Lib.hid (fun wz => r3Minus_any (tmP P Q (reF P Q P' Q') 1) (tmQ P Q (reF P Q P' Q') 1) wz)
  have AD := Lib.hid (fun wz => r3Add_any P' Q' (-(tmP P Q (reF P Q P' Q') 1)) (tmQ P Q (reF P Q P' Q') 1) wz hQ' hTp (by omega) (by omega) (by rw [Int.natAbs_neg]; omega) (by omega))
  generalize plP P' Q' (-(tmP P Q (reF P Q P' Q') 1)) (tmQ P Q (reF P Q P' Q') 1) = X1 at *
  generalize plQ P' Q' (-(tmP P Q (reF P Q P' Q') 1)) (tmQ P Q (reF P Q P' Q') 1) = X2 at *
  generalize tmP P Q (reF P Q P' Q') 1 = Y1 at *
  generalize tmQ P Q (reF P Q P' Q') 1 = Y2 at *
  generalize reF P Q P' Q' = F at *
  generalize nwP (P' * Q) (P * Q') = U1 at *
  generalize nwQ (P' * Q) (P * Q') = U2 at *
  have HF := Lib.hid (fun w2 b x y (hb : Below w.heap.size w w2) (h1 : rB X1 = b) (h2 : rS X1 = x) (h3 : str (dec X2) = y) => NumTold.done (k := w.heap.size + 1 + 1) X1 X2 hb (by omega) h1 h2 h3)
  unfold NumTold3 at DV
  unfold NumTold at WH ML MN AD
  unfold RTold at FL
  obtain ⟨x1, hx1⟩ : ∃ x, rB X1 = x := ⟨_, rfl⟩
  obtain ⟨x2, hx2⟩ : ∃ x, rS X1 = x := ⟨_, rfl⟩
  obtain ⟨x3, hx3⟩ : ∃ x, str (dec X2) = x := ⟨_, rfl⟩
  have HX := Lib.hid (And.intro hx1 (And.intro hx2 hx3))
  rw [hx1, hx2, hx3] at AD
  generalize rB (-Y1) = m1 at *
  generalize rS (-Y1) = m2 at *
  generalize rB Y1 = y1 at *
  generalize rS Y1 = y2 at *
  generalize str (dec Y2) = y3 at *
  generalize rB F = f1 at *
  generalize rS F = f2 at *
  generalize rB U1 = u1 at *
  generalize rS U1 = u2 at *
  generalize str (dec U2) = u3 at *
  generalize str (dec 1) = o at *
  generalize rB P = pb at *
  generalize rS P = ps at *
  generalize rB P' = pb' at *
  generalize rS P' = ps' at *
  generalize str (dec Q) = q at *
  generalize str (dec Q') = q' at *
  have q0 := BB.out.now.2.1.cell
  have q1 := BB.out.now.2.1.cell1
  have q2 := BB.out.now.2.1.cell2
  have r0 := BB.out.now.2.2.1.cell
  have r1 := BB.out.now.2.2.1.cell1
  have r2 := BB.out.now.2.2.1.cell2
  clear hx1 hx2 hx3 h1 h2 h3 h4 hQ hQ' hP e1 e2 e3 e4 e5 e6 hTp hVp
  go_enter Tryz.func56, Tryz.ntmps56
  go_wp2_with fail
  go_at_call 48
  (with_reducible refine (DV.out _).mono ?_)
  rintro e w2 ⟨rfl, hb2⟩
  have hk2 := (BB.out.go hb2).now.1.lt
  have BB := Lib.hid ((BB.out.go hb2).box3 (.bool u1) (.string u2) (.string u3) 23)
  have he : w.heap.size ≠ w.heap.size + 1 + 1 ∧ w.heap.size + 1 ≠ w.heap.size + 1 + 1 ∧ w2.heap.size ≠ w.heap.size + 1 + 1 := by omega
  clear hb2
  go_wp2_with fail
  have BB := Lib.hid BB.out.drew
  go_region_held3 (fun y => (y.cell? ⟨w.heap.size, 0, none⟩ = some (.bool pb) ∧ y.cell? ⟨w.heap.size, 1, none⟩ = some (.string ps) ∧ y.cell? ⟨w.heap.size, 2, none⟩ = some (.string q)) ∧ (y.cell? ⟨w.heap.size + 1, 0, none⟩ = some (.bool pb') ∧ y.cell? ⟨w.heap.size + 1, 1, none⟩ = some (.string ps') ∧ y.cell? ⟨w.heap.size + 1, 2, none⟩ = some (.string q')) ∧ y.cell? ⟨w2.heap.size, 0, none⟩ = some (.bool u1) ∧ y.cell? ⟨w2.heap.size, 1, none⟩ = some (.string u2) ∧ y.cell? ⟨w2.heap.size, 2, none⟩ = some (.string u3))
    (first
      | (exact ⟨⟨z0.cell, z0.cell1, z0.cell2⟩, ⟨z1.cell, z1.cell1, z1.cell2⟩, z2.cell, z2.cell1, z2.cell2⟩)
      | (exact ⟨⟨BB.out.now.2.2.2.1.cell, BB.out.now.2.2.2.1.cell1, BB.out.now.2.2.2.1.cell2⟩, ⟨BB.out.now.2.2.1.cell, BB.out.now.2.2.1.cell1, BB.out.now.2.2.1.cell2⟩, BB.out.now.1.cell, BB.out.now.1.cell1, BB.out.now.1.cell2⟩))
    (first
      | (go_at_call 44; (with_reducible refine (FL.out _).mono ?_); rintro e w5 ⟨rfl, hb5⟩; have BB := Lib.hid (BB.out.go hb5))
      | (go_at_call 22; (with_reducible refine (WH.out _).mono ?_); rintro e w6 ⟨rfl, hb6⟩; have BB := Lib.hid (BB.out.go hb6))
      | (go_at_call 52; (with_reducible refine (ML.out _).mono ?_); rintro e w7 ⟨rfl, hb7⟩; have BB := Lib.hid (BB.out.go hb7))
      | (go_at_call 42; (with_reducible refine (MN.out _).mono ?_); rintro e w8 ⟨rfl, hb8⟩; have BB := Lib.hid (BB.out.go hb8))
      | (go_at_call 50; (with_reducible refine (AD.out _).mono ?_); rintro e w9 ⟨rfl, hb9⟩; have BB := Lib.hid (BB.out.go hb9); have hs := BB.out.now.2.1; have v0 := hs.cell; have v1 := hs.cell1; have v2 := hs.cell2; have g0 := hs.free; have g1 := hs.free1; have g2 := hs.free2; have HS := hs.set (.bool x1) (.string x2) (.string x3); have z0 := BB.out.now.2.2.2.1.set3o he.1 (.bool x1) (.string x2) (.string x3); have z1 := BB.out.now.2.2.1.set3o he.2.1 (.bool x1) (.string x2) (.string x3); have z2 := BB.out.now.1.set3o he.2.2 (.bool x1) (.string x2) (.string x3); have HE := Lib.hid (HF.out _ x1 x2 x3 BB.out.below HX.out.1 HX.out.2.1 HX.out.2.2)))
  go_wp2
  exact bodyPost_ret (v := .agg #[.bool x1, .string x2, .string x3]) (by simp [results, Tryz.results56, go_sem, HS]) rfl HE.out

theorem r3Rest_any (P : Int) (Q : Nat) (P' : Int) (Q' : Nat) (w : World) (hQ : 0 < Q) (hQ' : 0 < Q') (h1 : dl P.natAbs ≤ 60) (h2 : dl Q ≤ 60) (h3 : dl P'.natAbs ≤ 60) (h4 : dl Q' ≤ 60) :
    Calls Tryz.prog 56 #[.agg #[.bool (rB P), .string (rS P), .string (str (dec Q))], .agg #[.bool (rB P'), .string (rS P'), .string (str (dec Q'))]] w fun e w' => NumTold w w' e (reP P Q P' Q') (reQ P Q P' Q') := by
  unfold reP reQ
  by_cases hP : P = 0
  · rw [if_pos hP, if_pos hP]
    subst hP
    exact r3Rest_zero Q P' Q' w h2 h3 h4
  · rw [if_neg hP, if_neg hP]
    exact r3Rest_some P Q P' Q' w hQ hQ' hP h1 h2 h3 h4

end Go.Proofs.YtipfhbfjbbiglaaGreatDoor
namespace Go.Proofs.YtipfhbfjbbiglaaGreatDoor
open Go.RowKit

def Read3w (w w' : World) (e : Ending) (k : Bool) : Prop := ∃ a n c m a2 n2 c2, e = .returned (.tuple #[.agg #[.slice a n c, .bool m, .slice a2 n2 c2], .bool k]) ∧ Below w.heap.size w w'
theorem read3_weak (b : Bool) (s t : ByteArray) (w : World) : Calls Tryz.prog 23 #[.agg #[.bool b, .string s, .string t]] w fun e w' => Read3w w w' e (rd3 b s t) := by
  cases h : rd3 b s t with
  | false => exact (read3_no b s t w h).mono fun e w' ⟨a, n, c, m, a2, n2, c2, he, _, hb⟩ => ⟨a, n, c, m, a2, n2, c2, he, hb⟩
  | true => exact (read3_yes b s t w h).mono fun e w' ⟨a, n, c, m, a2, n2, c2, he, _, hb⟩ => ⟨a, n, c, m, a2, n2, c2, he, hb⟩

/-- The quotient. -/
def dvP (P : Int) (Q : Nat) (P' : Int) (Q' : Nat) : Int := if P' = 0 then 0 else nwP (P * Q') (P' * Q)
def dvQ (P : Int) (Q : Nat) (P' : Int) (Q' : Nat) : Nat := if P' = 0 then 1 else nwQ (P * Q') (P' * Q)
theorem by_any (a : Option Addr) (n c : Nat) (m : Bool) (a2 : Option Addr) (n2 c2 : Nat) (P : Int) (Q : Nat) (b : Option Addr) (k l : Nat) (v : Bool) (b2 : Option Addr) (k2 l2 : Nat) (P' : Int) (Q' : Nat) (w : World)
    (h : RatAt w a n c m a2 n2 c2 P Q) (g : RatAt w b k l v b2 k2 l2 P' Q') (hQ : 0 < Q) (hQ' : 0 < Q') (K : Nat) (hK : K ≤ 400000) (h1 : P.natAbs < 4294967296 ^ K) (h2 : Q < 4294967296 ^ K) (h3 : P'.natAbs < 4294967296 ^ K) (h4 : Q' < 4294967296 ^ K) :
    Calls Tryz.prog 47 #[.agg #[.slice a n c, .bool m, .slice a2 n2 c2], .agg #[.slice b k l, .bool v, .slice b2 k2 l2]] w fun e w' => RatTold3 w w' e (dvP P Q P' Q') (dvQ P Q P' Q') (!decide (P' = 0)) := by
  unfold dvP dvQ
  by_cases hP : P' = 0
  · subst hP
    rw [if_pos rfl, if_pos rfl, decide_eq_true rfl]
    exact by_zero a n c m a2 n2 c2 P Q b k l v b2 k2 l2 Q' w h g hQ hQ' K hK h1 h2 h4
  · rw [if_neg hP, if_neg hP, decide_eq_false hP]
    exact by_some a n c m a2 n2 c2 P Q b k l v b2 k2 l2 P' Q' w h g hQ hQ' hP K hK h1 h2 h3 h4
theorem r3Div_any (P : Int) (Q : Nat) (P' : Int) (Q' : Nat) (w : World) (hQ : 0 < Q) (h1 : dl P.natAbs ≤ 400) (h2 : dl Q ≤ 400) (h3 : dl P'.natAbs ≤ 400) (h4 : dl Q' ≤ 400) :
    Calls Tryz.prog 48 #[.agg #[.bool (rB P), .string (rS P), .string (str (dec Q))], .agg #[.bool (rB P'), .string (rS P'), .string (str (dec Q'))]] w fun e w' => NumTold3 w w' e (dvP P Q P' Q') (dvQ P Q P' Q') (!decide (P' = 0)) := by
  unfold dvP dvQ
  by_cases hP : P' = 0
  · subst hP
    rw [if_pos rfl, if_pos rfl, decide_eq_true rfl]
    exact r3Div_zero P Q Q' w h1 h2 h4
  · rw [if_neg hP, if_neg hP, decide_eq_false hP]
    exact r3Div_some P Q P' Q' w hQ hP h1 h2 h3 h4
theorem dv_lim {P : Int} {Q : Nat} {P' : Int} {Q' K : Nat} (hQ : 0 < Q) (h1 : P.natAbs < 4294967296 ^ K) (h2 : Q < 4294967296 ^ K) (h3 : P'.natAbs < 4294967296 ^ K) (h4 : Q' < 4294967296 ^ K) :
    0 < dvQ P Q P' Q' ∧ (dvP P Q P' Q').natAbs < 4294967296 ^ (K + K) ∧ dvQ P Q P' Q' < 4294967296 ^ (K + K) := by
  have hK : 1 < 4294967296 ^ (K + K) := by
    have : 1 ≤ K := by
      rcases Nat.eq_zero_or_pos K with e | e
      · subst e; rw [Nat.pow_zero] at h2; omega
      · exact e
    exact Nat.one_lt_pow (by omega) (by omega)
  unfold dvP dvQ
  by_cases hP : P' = 0
  · rw [if_pos hP, if_pos hP]; exact ⟨by omega, by rw [show (0 : Int).natAbs = 0 from rfl]; omega, hK⟩
  · rw [if_neg hP, if_neg hP]
    refine ⟨nwQ_pos _ (Int.mul_ne_zero hP (by omega)), ?_, ?_⟩
    · rw [(nw_abs _ _).1]; exact Nat.lt_of_le_of_lt (Nat.div_le_self _ _) (mulZ_lt32 h1 h4)
    · rw [(nw_abs _ _).2]; exact Nat.lt_of_le_of_lt (Nat.div_le_self _ _) (mulZ_lt32 h3 h2)

end Go.Proofs.YtipfhbfjbbiglaaGreatDoor
namespace Go.Proofs.YtipfhbfjbbiglaaGreatDoor
open Go.RowKit

theorem re_cross {P P' : Int} {Q Q' : Nat} (hQ : 0 < Q) (hP : P ≠ 0) : reP P Q P' Q' * ((Q : Int) * (Q' : Int)) = (P' * Q - P * reF P Q P' Q' * Q') * (reQ P Q P' Q' : Int) := by
  unfold reP reQ
  rw [if_neg hP, if_neg hP]
  generalize reF P Q P' Q' = f
  have hT := lo_cross (P * f) (Q * 1)
  have hTQ : (tmQ P Q f 1 : Int) ≠ 0 := by have := tmQ_pos P f hQ (show 0 < 1 by omega); omega
  rw [show loP (P * f) (Q * 1) = tmP P Q f 1 from rfl, show loQ (P * f) (Q * 1) = tmQ P Q f 1 from rfl] at hT
  generalize tmP P Q f 1 = T at *
  generalize tmQ P Q f 1 = TQ at *
  have hF := lo_cross (P' * (TQ : Int) + -T * (Q' : Int)) (Q' * TQ)
  rw [show loP (P' * (TQ : Int) + -T * (Q' : Int)) (Q' * TQ) = plP P' Q' (-T) TQ from rfl, show loQ (P' * (TQ : Int) + -T * (Q' : Int)) (Q' * TQ) = plQ P' Q' (-T) TQ from rfl] at hF
  generalize plP P' Q' (-T) TQ = F at *
  generalize plQ P' Q' (-T) TQ = G at *
  rw [Nat.mul_one] at hT
  rw [Int.natCast_mul] at hF
  apply Int.eq_of_mul_eq_mul_right hTQ
  grind

theorem s_cross {P P' F : Int} {Q Q' G : Nat} {f : Int} (hQ' : 0 < Q') (hG : 0 < G) (h : F * ((Q : Int) * (Q' : Int)) = (P' * Q - P * f * Q') * (G : Int)) :
    plP P' Q' (-F) G * (Q : Int) = P * f * (plQ P' Q' (-F) G : Int) := by
  have hS := lo_cross (P' * (G : Int) + -F * (Q' : Int)) (Q' * G)
  rw [show loP (P' * (G : Int) + -F * (Q' : Int)) (Q' * G) = plP P' Q' (-F) G from rfl, show loQ (P' * (G : Int) + -F * (Q' : Int)) (Q' * G) = plQ P' Q' (-F) G from rfl] at hS
  generalize plP P' Q' (-F) G = S1 at *
  generalize plQ P' Q' (-F) G = S2 at *
  rw [Int.natCast_mul] at hS
  have h1 : ((Q' : Int) * (G : Int)) ≠ 0 := Int.mul_ne_zero (by omega) (by omega)
  apply Int.eq_of_mul_eq_mul_right h1
  grind

/-- A whole quotient. -/
theorem nw_whole {X Y f : Int} (hY : Y ≠ 0) (h : X = Y * f) : nwQ X Y = 1 := by
  rw [(nw_abs X Y).2, h, Int.natAbs_mul, Nat.gcd_comm, Nat.gcd_mul_right_right]
  exact Nat.div_self (by omega)
theorem dv_whole {P P' F : Int} {Q Q' G : Nat} {f : Int} (hP : P ≠ 0) (hS : 0 < plQ P' Q' (-F) G) (h : plP P' Q' (-F) G * (Q : Int) = P * f * (plQ P' Q' (-F) G : Int)) :
    nwQ (plP P' Q' (-F) G * (Q : Int)) (P * (plQ P' Q' (-F) G : Int)) = 1 :=
  nw_whole (f := f) (Int.mul_ne_zero hP (by omega)) (by rw [h]; grind)

theorem flR_nonneg (U : Int) {V : Int} (hV : 0 < V) : 0 ≤ flR U V := by
  unfold flR
  rw [decide_eq_false (by omega)]
  unfold sgn
  rw [if_neg (by decide)]
  omega

/-- The sign of what is left. -/
theorem re_sign {P P' : Int} {Q Q' : Nat} (hQ : 0 < Q) (hQ' : 0 < Q') (hP : P ≠ 0) (hG : 0 < reQ P Q P' Q') : reP P Q P' Q' = 0 ∨ sgnI (reP P Q P' Q') = sgnI P := by
  have hc := re_cross (P' := P') (Q' := Q') hQ hP
  have hYz : P * (Q' : Int) ≠ 0 := Int.mul_ne_zero hP (by omega)
  have hV : 0 < nwQ (P' * Q) (P * Q') := nwQ_pos _ hYz
  have hfl := fl_times (Z := nwP (P' * Q) (P * Q')) (Y := (nwQ (P' * Q) (P * Q') : Int)) (by omega)
  have hr := flR_nonneg (nwP (P' * Q) (P * Q')) (V := (nwQ (P' * Q) (P * Q') : Int)) (by omega)
  rw [show flQ (nwP (P' * Q) (P * Q')) (nwQ (P' * Q) (P * Q') : Int) = reF P Q P' Q' from rfl] at hfl
  have hx : nwP (P' * Q) (P * Q') * (P * Q') = (P' * Q) * (nwQ (P' * Q) (P * Q') : Int) := by
    have h1 := lo_cross (upZ (P' * Q) (P * Q')) (P * (Q' : Int)).natAbs
    unfold nwP nwQ
    by_cases hn : P * (Q' : Int) < 0
    · have e1 : (((P * (Q' : Int)).natAbs : Nat) : Int) = -(P * (Q' : Int)) := by omega
      have e2 : upZ (P' * (Q : Int)) (P * (Q' : Int)) = -(P' * (Q : Int)) := by unfold upZ; rw [if_pos hn]
      rw [e1, e2] at h1
      rw [e2]
      grind
    · have e1 : (((P * (Q' : Int)).natAbs : Nat) : Int) = P * (Q' : Int) := by omega
      have e2 : upZ (P' * (Q : Int)) (P * (Q' : Int)) = P' * (Q : Int) := by unfold upZ; rw [if_neg hn]
      rw [e1, e2] at h1
      rw [e2]
      exact h1
  generalize nwP (P' * Q) (P * Q') = U at *
  generalize hVe : nwQ (P' * Q) (P * Q') = V at *
  generalize flR U (V : Int) = R at *
  generalize reF P Q P' Q' = f at *
  generalize reP P Q P' Q' = F at *
  generalize reQ P Q P' Q' = G at *
  -- F V Q Q' = P Q' R G
  have key : F * ((V : Int) * (Q : Int)) = P * (R * (G : Int)) := by
    have h1 : (Q' : Int) ≠ 0 := by omega
    apply Int.eq_of_mul_eq_mul_right h1
    grind
  have hVQ : 0 < (V : Int) * (Q : Int) := Int.mul_pos (by omega) (by omega)
  have hRG : 0 ≤ R * (G : Int) := Int.mul_nonneg hr (by omega)
  generalize (V : Int) * (Q : Int) = A at *
  generalize R * (G : Int) = B at *
  rcases Int.lt_or_eq_of_le hRG with hB | hB
  · right
    unfold sgnI
    rcases Int.lt_trichotomy P 0 with h | h | h
    · have h2 : P * B < 0 := Int.mul_neg_of_neg_of_pos h hB
      have h3 : F < 0 := by
        rcases Int.lt_or_le F 0 with h4 | h4
        · exact h4
        · have := Int.mul_nonneg h4 (Int.le_of_lt hVQ); omega
      rw [if_pos h3, if_pos h]
    · exact absurd h hP
    · have h2 : 0 < P * B := Int.mul_pos h hB
      have h3 : 0 < F := by
        rcases Int.lt_or_le 0 F with h4 | h4
        · exact h4
        · have := Int.mul_nonpos_of_nonpos_of_nonneg h4 (Int.le_of_lt hVQ); omega
      rw [if_neg (by omega), if_neg (by omega), if_neg (by omega), if_neg (by omega)]
  · left
    rw [← hB, Int.mul_zero] at key
    rcases Int.mul_eq_zero.1 key with h | h
    · exact h
    · omega

theorem pow32_two (a b : Nat) : 4294967296 ^ a * 4294967296 ^ b = 4294967296 ^ (a + b) := (Nat.pow_add _ _ _).symm
theorem mulN_lt {X Y a b : Nat} (h : X < 4294967296 ^ a) (g : Y < 4294967296 ^ b) : X * Y < 4294967296 ^ (a + b) := by rw [Nat.pow_add]; exact Nat.mul_lt_mul'' h g
/-- How long what is left may be. -/
theorem re_lim {P P' : Int} {Q Q' : Nat} (hQ : 0 < Q) (hQ' : 0 < Q') (h1 : P.natAbs < 4294967296 ^ 6) (h2 : Q < 4294967296 ^ 6) (h3 : P'.natAbs < 4294967296 ^ 6) (h4 : Q' < 4294967296 ^ 6) :
    0 < reQ P Q P' Q' ∧ (reP P Q P' Q').natAbs < 4294967296 ^ 40 ∧ reQ P Q P' Q' < 4294967296 ^ 40 := by
  have up : ∀ a b : Nat, a ≤ b → (4294967296 : Nat) ^ a ≤ 4294967296 ^ b := fun a b h => Nat.pow_le_pow_right (by omega) h
  unfold reP reQ
  by_cases hP : P = 0
  · rw [if_pos hP, if_pos hP]
    exact ⟨hQ', Nat.lt_of_lt_of_le h3 (up 6 40 (by omega)), Nat.lt_of_lt_of_le h4 (up 6 40 (by omega))⟩
  · rw [if_neg hP, if_neg hP]
    have hU : (nwP (P' * Q) (P * Q')).natAbs < 4294967296 ^ 12 := Nat.lt_of_le_of_lt (Nat.le_trans (loP_absle _ _) (by rw [upZ_abs]; exact Nat.le_refl _)) (mulZ_lt32 h3 h2)
    have hF : (reF P Q P' Q').natAbs < 4294967296 ^ 13 := by
      have := flQ_abs (nwP (P' * Q) (P * Q')) (nwQ (P' * Q) (P * Q'))
      have e : reF P Q P' Q' = flQ (nwP (P' * Q) (P * Q')) (nwQ (P' * Q) (P * Q')) := rfl
      have p : (4294967296 : Nat) ^ 13 = 4294967296 ^ 12 * 4294967296 := Nat.pow_succ _ _
      rw [e]; omega
    generalize reF P Q P' Q' = f at *
    have hT : (tmP P Q f 1).natAbs < 4294967296 ^ 19 := Nat.lt_of_le_of_lt (loP_absle _ _) (by rw [Int.natAbs_mul]; exact mulN_lt h1 hF)
    have hTQ : tmQ P Q f 1 < 4294967296 ^ 6 := Nat.lt_of_le_of_lt (loQ_le _ _) (by rw [Nat.mul_one]; exact h2)
    have hTp : 0 < tmQ P Q f 1 := tmQ_pos _ _ hQ (by omega)
    generalize tmP P Q f 1 = T at *
    generalize tmQ P Q f 1 = TQ at *
    have m1 : (P' * (TQ : Int)).natAbs < 4294967296 ^ 12 := by rw [Int.natAbs_mul, Int.natAbs_natCast]; exact mulN_lt h3 hTQ
    have m2 : (-T * (Q' : Int)).natAbs < 4294967296 ^ 25 := by rw [Int.natAbs_mul, Int.natAbs_natCast, Int.natAbs_neg]; exact mulN_lt hT h4
    have m3 := up 12 25 (by omega)
    have p : (4294967296 : Nat) ^ 26 = 4294967296 ^ 25 * 4294967296 := Nat.pow_succ _ _
    have m4 := up 26 40 (by omega)
    have m5 := up 12 40 (by omega)
    refine ⟨loQ_pos _ (Nat.mul_pos hQ' hTp), ?_, ?_⟩
    · refine Nat.lt_of_le_of_lt (loP_absle _ _) ?_
      have := Int.natAbs_add_le (P' * (TQ : Int)) (-T * (Q' : Int))
      omega
    · exact Nat.lt_of_le_of_lt (loQ_le _ _) (Nat.lt_of_lt_of_le (mulN_lt h4 hTQ) m5)

end Go.Proofs.YtipfhbfjbbiglaaGreatDoor
namespace Go.Proofs.YtipfhbfjbbiglaaGreatDoor
open Go Go.RowKit

def blk : Value → Option Nat
  | .pointer (some a) => some a.block
  | .slice (some a) _ _ => some a.block
  | _ => none
/-- The block that a temporary points to. -/
def Ptr2 (a : Act) (ops : Array Oper) (i k : Nat) : Prop := ∃ d v, dstI ops i = some d ∧ a.tmps[d]? = some v ∧ blk v = some k

structure Inv2 (md : Region.Mode) (ops : Array Oper) (L : Plan) (p : Nat → List (Option Value) → World → Prop) (B : World → Prop) (a0 : Act) (listed : Array Bool) (a : Act) (w : World) : Prop where
  lsz : listed.size = ops.size
  asz : a.tmps.size = a0.tmps.size
  dfs : a.defers = a0.defers
  old : ∀ t, stays ops t = true → a.tmps[t]? = a0.tmps[t]?
  bag : B w
  fct : ∀ j, listed.getD j false = true → p j (vw a (L.D j)) w
  clo : ∀ j, listed.getD j false = true → ∀ i ∈ L.pre j, listed.getD i false = true
  alo : ∀ i ∈ L.al, listed.getD i false = true → ∃ k, Ptr2 a ops i k ∧ k < w.heap.size
  apt : ∀ i ∈ L.al, ∀ j ∈ L.al, i ≠ j → listed.getD i false = true → listed.getD j false = true → ∀ k, Ptr2 a ops i k → ¬ Ptr2 a ops j k

/-- What is to be shown behind operation i. -/
structure Laid2 (ops : Array Oper) (L : Plan) (p : Nat → List (Option Value) → World → Prop) (B : World → Prop) (i : Nat) (o : Oper) (a : Act) (w : World) (v : Value) (w' : World) : Prop where
  bag : B w'
  fct : p i ((L.D i).map (fun t => if o.dst = some t then some v else a.tmps[t]?)) w'
  size : w.heap.size ≤ w'.heap.size
  stay : Below w.heap.size w w' ∨ ∀ j, j ≠ i → (∀ x ∈ L.al, ∀ y ∈ L.al, x ≠ y → x ∈ L.pre i → (y ∈ L.pre j ∨ y = j) → ∀ k, Ptr2 a ops x k → ¬ Ptr2 a ops y k) → p j (vw a (L.D j)) w → p j (vw a (L.D j)) w'
  ptr : i ∈ L.al → ∃ k, blk v = some k ∧ w.heap.size ≤ k ∧ k < w'.heap.size

def Stp2 (P : Program) (ops : Array Oper) (Q : Exit → Act → World → Prop) (L : Plan) (p : Nat → List (Option Value) → World → Prop) (B : World → Prop) (a0 : Act) (i : Nat) (o : Oper) : Prop :=
  ∀ a w, a.tmps.size = a0.tmps.size → (∀ t, stays ops t = true → a.tmps[t]? = a0.tmps[t]?) → B w → (∀ j ∈ L.pre i, p j (vw a (L.D j)) w) →
    ∀ K : Act → World → Prop, Shut (∀ v w', Laid2 ops L p B i o a w v w' → K (a.put o.dst v) w') → if Region.wanted o (yielded ops a.tmps) = true then Oper.wp P o a w K Q else K (a.put o.dst undef) w

inductive Stps2 (P : Program) (ops : Array Oper) (Q : Exit → Act → World → Prop) (L : Plan) (p : Nat → List (Option Value) → World → Prop) (B : World → Prop) (a0 : Act) : Nat → List Oper → Prop
  | nil (i : Nat) : Stps2 P ops Q L p B a0 i []
  | cons {i : Nat} {o : Oper} {l : List Oper} : Stp2 P ops Q L p B a0 i o → Stps2 P ops Q L p B a0 (i + 1) l → Stps2 P ops Q L p B a0 i (o :: l)

section
variable {P : Program} {md : Region.Mode} {ops : Array Oper} {Q : Exit → Act → World → Prop} {L : Plan} {p : Nat → List (Option Value) → World → Prop} {B : World → Prop} {a0 : Act}

theorem Stps2.get : ∀ {l : List Oper} {i : Nat}, Stps2 P ops Q L p B a0 i l → ∀ k o, l[k]? = some o → Stp2 P ops Q L p B a0 (i + k) o := by
  intro l
  induction l with
  | nil => intro i _ k o h; simp at h
  | cons x l ih =>
    intro i h k o hk
    cases h with
    | cons h1 h2 =>
      cases k with
      | zero => simp at hk; subst hk; exact h1
      | succ k => have := ih h2 k o (by simpa using hk); rwa [Nat.add_assoc, Nat.add_comm 1 k] at this

theorem Inv2.step (ok : L.ok md ops a0.tmps.size = true) (hal : L.al.all (fun i => (dstI ops i).isSome) = true) (stay : ∀ j v w w', Below w.heap.size w w' → p j v w → p j v w') {listed : Array Bool} {a : Act} {w : World} (I : Inv2 md ops L p B a0 listed a w) {i : Nat} {o : Oper} (ho : ops[i]? = some o)
    (hu : listed.getD i true = false) (hr : ∀ e ∈ o.after, Region.binds md e = true → listed.getD e.on false = true) {v : Value} {w' : World} (G : Laid2 ops L p B i o a w v w') :
    Inv2 md ops L p B a0 (listed.setIfInBounds i true) (a.put o.dst v) w' := by
  have hi : i < ops.size := (Array.getElem?_eq_some_iff.1 ho).1
  have hil : i < listed.size := by rw [I.lsz]; exact hi
  have hun := (lgt hu).2
  obtain ⟨c1, c2, c3⟩ := Plan.ok_spec ok hi
  have hd : dstI ops i = o.dst := by unfold dstI; rw [ho]; rfl
  have hpre : ∀ e ∈ L.pre i, listed.getD e false = true := by
    intro e he
    rcases c2 e he with h | ⟨k, hk, hek⟩
    · obtain ⟨x, h1, h2, rfl⟩ := (aft_mem ho).1 h; exact hr x h1 h2
    · obtain ⟨x, h1, h2, rfl⟩ := (aft_mem ho).1 hk; exact I.clo _ (hr x h1 h2) e hek
  have hput : ∀ t, (a.put o.dst v).tmps[t]? = if o.dst = some t then some v else a.tmps[t]? := by
    intro t
    cases hx : o.dst with
    | none => simp [Act.put]
    | some d =>
      have h4 := (c3 d (hd.trans hx)).1
      have h5 : d < a.tmps.size := by rw [I.asz]; exact h4
      simp only [Act.put, Array.getElem?_setIfInBounds, Option.some.injEq, if_pos h5]
  have hlj : ∀ j, listed.getD j false = true → j < ops.size ∧ j ≠ i := by
    intro j hj
    refine ⟨?_, fun e => by rw [e, hun] at hj; cases hj⟩
    rw [← I.lsz]
    by_cases h : j < listed.size
    · exact h
    · simp [Nat.le_of_not_lt h] at hj
  have hvw : ∀ j, listed.getD j false = true → vw (a.put o.dst v) (L.D j) = vw a (L.D j) := by
    intro j hj
    unfold vw
    refine List.map_congr_left (fun t ht => ?_)
    rw [hput]
    refine if_neg (fun e => ?_)
    have h6 := ((c3 t (hd.trans e)).2 j (hlj j hj).1 (hlj j hj).2.symm).1 ht
    have h7 := I.clo j hj i h6
    rw [hun] at h7; cases h7
  have hptr : ∀ j, listed.getD j false = true → ∀ k, Ptr2 (a.put o.dst v) ops j k ↔ Ptr2 a ops j k := by
    intro j hj k
    unfold Ptr2
    constructor
    · rintro ⟨d, u, h1, h2, h3⟩
      refine ⟨d, u, h1, ?_, h3⟩
      rw [hput, if_neg (fun e => ((c3 d (hd.trans e)).2 j (hlj j hj).1 (hlj j hj).2.symm).2 h1)] at h2
      exact h2
    · rintro ⟨d, u, h1, h2, h3⟩
      refine ⟨d, u, h1, ?_, h3⟩
      rw [hput, if_neg (fun e => ((c3 d (hd.trans e)).2 j (hlj j hj).1 (hlj j hj).2.symm).2 h1)]
      exact h2
  have hnew : i ∈ L.al → ∀ k, Ptr2 (a.put o.dst v) ops i k → w.heap.size ≤ k ∧ k < w'.heap.size := by
    intro hal k ⟨d, u, h1, h2, h5⟩
    obtain ⟨k', hv, h3, h4⟩ := G.ptr hal
    rw [hput, if_pos (hd.symm.trans h1)] at h2
    cases h2
    rw [hv] at h5
    cases h5
    exact ⟨h3, h4⟩
  have hcase : ∀ j, (listed.setIfInBounds i true).getD j false = true → j = i ∨ listed.getD j false = true := by
    intro j hj
    rw [lgd hil, Bool.or_eq_true, decide_eq_true_eq] at hj
    exact hj.imp Eq.symm id
  refine ⟨by simp [I.lsz], ?_, ?_, ?_, G.bag, ?_, ?_, ?_, ?_⟩
  · cases o.dst <;> simp [Act.put, I.asz]
  · cases o.dst <;> simp [Act.put, I.dfs]
  · intro t ht
    rw [hput, if_neg, I.old t ht]
    intro e
    unfold stays at ht
    rw [List.all_eq_true] at ht
    have := ht i (List.mem_range.2 hi)
    rw [hd, e] at this
    simp at this
  · intro j hj
    rcases hcase j hj with rfl | hj
    · have := G.fct
      unfold vw
      rw [show (L.D j).map (fun t => (a.put o.dst v).tmps[t]?) = (L.D j).map (fun t => if o.dst = some t then some v else a.tmps[t]?) from List.map_congr_left (fun t _ => hput t)]
      exact this
    · rw [hvw j hj]
      rcases G.stay with hb | hs
      · exact stay j _ _ _ hb (I.fct j hj)
      · refine hs j (hlj j hj).2 ?_ (I.fct j hj)
        intro x hx y hy hxy hxi hyj
        exact I.apt x hx y hy hxy (hpre x hxi) (hyj.elim (I.clo j hj y) (fun e => e ▸ hj))
  · intro j hj e he
    rw [lgd hil, Bool.or_eq_true]
    rcases hcase j hj with rfl | hj
    · exact .inr (hpre e he)
    · exact .inr (I.clo j hj e he)
  · intro j hjal hj
    rcases hcase j hj with rfl | hj
    · obtain ⟨k, hv, h3, h4⟩ := G.ptr hjal
      cases hx : o.dst with
      | none =>
        have := List.all_eq_true.1 hal j hjal
        rw [hd, hx] at this; cases this
      | some d => exact ⟨k, ⟨d, v, hd.trans hx, by rw [← hx, hput, if_pos hx], hv⟩, h4⟩
    · obtain ⟨k, h1, h2⟩ := I.alo j hjal hj
      exact ⟨k, (hptr j hj k).2 h1, Nat.lt_of_lt_of_le h2 G.size⟩
  · intro x hx y hy hxy hlx0 hly0 k
    rcases hcase x hlx0 with rfl | hlx
    · rcases hcase y hly0 with e | hly
      · exact absurd e.symm hxy
      · intro h1 h2
        obtain ⟨k', h3, h4⟩ := I.alo y hy hly
        obtain ⟨d, x1, e1, e2, e5⟩ := (hptr y hly k).1 h2
        obtain ⟨d', x2, e3, e4, e6⟩ := h3
        rw [e1] at e3; cases e3
        rw [e2] at e4; cases e4
        rw [e5] at e6; cases e6
        have := (hnew hx k h1).1
        omega
    · rcases hcase y hly0 with rfl | hly
      · intro h1 h2
        obtain ⟨k', h3, h4⟩ := I.alo x hx hlx
        obtain ⟨d, x1, e1, e2, e5⟩ := (hptr x hlx k).1 h1
        obtain ⟨d', x2, e3, e4, e6⟩ := h3
        rw [e1] at e3; cases e3
        rw [e2] at e4; cases e4
        rw [e5] at e6; cases e6
        have := (hnew hy k h2).1
        omega
      · intro h1 h2
        exact I.apt x hx y hy hxy hlx hly k ((hptr x hlx k).1 h1) ((hptr y hly k).1 h2)

theorem wpAny_inv2 (ok : L.ok md ops a0.tmps.size = true) (hal : L.al.all (fun i => (dstI ops i).isSome) = true) (stay : ∀ j v w w', Below w.heap.size w w' → p j v w → p j v w') (steps : Stps2 P ops Q L p B a0 0 ops.toList)
    (done : ∀ a w, a.tmps.size = a0.tmps.size → a.defers = a0.defers → (∀ t, stays ops t = true → a.tmps[t]? = a0.tmps[t]?) → B w → (∀ j, j < ops.size → p j (vw a (L.D j)) w) → Q .normal a w) :
    ∀ (fuel : Nat) (listed : Array Bool) (a : Act) (w : World), Inv2 md ops L p B a0 listed a w → (List.range ops.size).countP (fun i => !listed.getD i true) ≤ fuel → wpAny P md ops Q fuel listed a w := by
  intro fuel
  induction fuel with
  | zero =>
    intro listed a w I hc
    have hall : ∀ j, j < ops.size → listed.getD j true = true := by
      intro j hj
      have := List.countP_eq_zero.1 (Nat.le_zero.1 hc) j (List.mem_range.2 hj)
      simpa using this
    have hr : Region.ready md ops listed = [] := by
      rw [List.eq_nil_iff_forall_not_mem]
      intro j hj
      obtain ⟨h1, o, h2, _⟩ := mem_ready.1 hj
      rw [hall j (Array.getElem?_eq_some_iff.1 h2).1] at h1; cases h1
    exact ⟨hr, done a w I.asz I.dfs I.old I.bag (fun j hj => I.fct j (ready_all ok I.lsz hr j hj))⟩
  | succ fuel ih =>
    intro listed a w I hc
    refine ⟨fun hr => done a w I.asz I.dfs I.old I.bag (fun j hj => I.fct j (ready_all ok I.lsz hr j hj)), fun i hi => ?_⟩
    obtain ⟨hu, o, ho, hr⟩ := mem_ready.1 hi
    have hio : i < ops.size := (Array.getElem?_eq_some_iff.1 ho).1
    have hst := steps.get i o (by rw [Array.getElem?_toList]; exact ho)
    rw [Nat.zero_add] at hst
    have hpre : ∀ e ∈ L.pre i, listed.getD e false = true := by
      intro e he
      rcases (Plan.ok_spec ok hio).2.1 e he with h | ⟨k, hk, hek⟩
      · obtain ⟨x, h1, h2, rfl⟩ := (aft_mem ho).1 h; exact hr x h1 h2
      · obtain ⟨x, h1, h2, rfl⟩ := (aft_mem ho).1 hk; exact I.clo _ (hr x h1 h2) e hek
    refine wpOp_step ho (fun K hK => hst a w I.asz I.old I.bag (fun j hj => I.fct j (hpre j hj)) K (fun v w' G => hK _ _ (ih _ _ _ (I.step ok hal stay ho hu hr G) ?_)))
    have hil : i < listed.size := by rw [I.lsz]; exact hio
    have hun : listed[i] = false := by simpa [hil] using hu
    have := cnt_set (fun j => !listed.getD j true) (fun j => !(listed.setIfInBounds i true).getD j true) i (by simp [hil, hun]) (by simp [hil]) (fun j hj => by simp [Ne.symm hj]) ops.size
    rw [if_pos hio] at this
    omega

/-- THE BEGINNING. -/
theorem wp_region_inv2 {id : Nat} {l : List Oper} {w : World} (L : Plan) (p : Nat → List (Option Value) → World → Prop) (B : World → Prop) (hm : P.follows .mixedOrders = true) (ok : L.ok .any l.toArray a0.tmps.size = true) (hal : L.al.all (fun i => (dstI l.toArray i).isSome) = true)
    (hB : B w.drew) (stay : ∀ j v w w', Below w.heap.size w w' → p j v w → p j v w')
    (done : ∀ a w, a.tmps.size = a0.tmps.size → a.defers = a0.defers → (∀ t, stays l.toArray t = true → a.tmps[t]? = a0.tmps[t]?) → B w → (∀ j, j < l.length → p j (vw a (L.D j)) w) → Q .normal a w)
    (steps : Stps2 P l.toArray Q L p B a0 0 l) :
    (Code.region id l.toArray true).wp P Q a0 w := by
  refine wp_region_any hm (wpAny_inv2 ok hal stay steps (fun a w h1 h2 h3 h4 h5 => done a w h1 h2 h3 h4 (fun j hj => h5 j (by simpa using hj))) _ _ _ _ ⟨by simp, rfl, rfl, fun _ _ => rfl, hB, ?_, ?_, ?_, ?_⟩ ?_)
  · intro j hj; rw [lg0] at hj; cases hj
  · intro j hj; rw [lg0] at hj; cases hj
  · intro j _ hj; rw [lg0] at hj; cases hj
  · intro j _ i _ _ hj; rw [lg0] at hj; cases hj
  · exact Nat.le_trans List.countP_le_length (by simp)

end
end Go.Proofs.YtipfhbfjbbiglaaGreatDoor
