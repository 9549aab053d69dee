/-
  Proved: the law RatioMakes of package typeballlaw03 returns true for every two texts and every number (statement RatioMakesCardSaid), under the row's own conditions.
-/
import Derived.Test.YtipfhbfjbbiglaaGreatDoorLa1
import Derived.Test.YtipfhbfjbbiglaaGreatDoorRr2
import Derived.Test.YtipfhbfjbbiglaaGreatDoorCards
import Derived.Test.YtipfhbfjbbiglaaGreatDoorTie
import Derived.Test.YtipfhbfjbbiglaaGreatDoorNum3
import Derived.LaidMore
import Derived.Lay
import Derived.SevenTiedAt
import Derived.Stop.Joined
import Derived.Laws.StructEq
namespace Go.Proofs.YtipfhbfjbbiglaaGreatDoor
open Go.ChangeShapes Go.WideShapes Go.ChangeAt Go.RowKit Go.WideMaps Go.WideElems
open Go.ChangeMaps (open_string shut_string)
attribute [local go_sem ↓] Go.wp_at_zero Go.wp_at_succ

theorem IntAt.set3 {w : World} {k : Nat} {a0 : Option Addr} {n0 c0 : Nat} {m0 : Bool} {a1 : Option Addr} {n1 c1 : Nat} {a : Option Addr} {n c : Nat} {m : Bool} {Z : Int} (q : IntAt w a n c m Z)
    (h : Slot3 w k (.slice a0 n0 c0) (.bool m0) (.slice a1 n1 c1)) (u v t : Value) : IntAt (((w.setCell ⟨k, 0, none⟩ u).setCell ⟨k, 1, none⟩ v).setCell ⟨k, 2, none⟩ t) a n c m Z :=
  ⟨q.1, q.2.set3 h (fun _ _ h => by cases h) (fun _ _ h => by cases h) (fun _ _ h => by cases h) _ _ _⟩

/-- What New answers. -/
def mkP (X Y : Int) : Int := if Y = 0 then 0 else nwP X Y
def mkQ (X Y : Int) : Nat := if Y = 0 then 1 else nwQ X Y
theorem new_any (a : Option Addr) (n c : Nat) (m : Bool) (X : Int) (a2 : Option Addr) (n2 c2 : Nat) (m2 : Bool) (Y : Int) (w : World) (h : IntAt w a n c m X) (g : IntAt w a2 n2 c2 m2 Y) (K : Nat) (hK : K ≤ 900000) (h1 : X.natAbs < 4294967296 ^ K) (h2 : Y.natAbs < 4294967296 ^ K) :
    Calls Tryz.prog 15 #[.agg #[.slice a n c, .bool m], .agg #[.slice a2 n2 c2, .bool m2]] w fun e w' => RatTold3 w w' e (mkP X Y) (mkQ X Y) (!decide (Y = 0)) := by
  unfold mkP mkQ
  by_cases hY : Y = 0
  · subst hY
    rw [if_pos rfl, if_pos rfl, decide_eq_true rfl]
    exact new_zero a n c m X a2 n2 c2 m2 w h g
  · rw [if_neg hY, if_neg hY, decide_eq_false hY]
    exact new_some a n c m X a2 n2 c2 m2 Y w h g hY K hK h1 h2
theorem r3New_any (X Y : Int) (w : World) (h1 : dl X.natAbs ≤ 900) (h2 : dl Y.natAbs ≤ 900) :
    Calls Tryz.prog 17 #[.agg #[.bool (rB X), .string (rS X)], .agg #[.bool (rB Y), .string (rS Y)]] w fun e w' => NumTold3 w w' e (mkP X Y) (mkQ X Y) (!decide (Y = 0)) := by
  unfold mkP mkQ
  by_cases hY : Y = 0
  · subst hY
    rw [if_pos rfl, if_pos rfl, decide_eq_true rfl]
    exact r3New_zero X w
  · rw [if_neg hY, if_neg hY, decide_eq_false hY]
    exact r3New_some X Y w hY h1 h2
theorem mk_lim {X Y : Int} {K : Nat} (hK : 1 < 4294967296 ^ K) (h1 : X.natAbs < 4294967296 ^ K) (h2 : Y.natAbs < 4294967296 ^ K) : 0 < mkQ X Y ∧ (mkP X Y).natAbs < 4294967296 ^ K ∧ mkQ X Y < 4294967296 ^ K := by
  unfold mkP mkQ
  by_cases hY : Y = 0
  · rw [if_pos hY, if_pos hY]; exact ⟨by omega, by rw [show (0 : Int).natAbs = 0 from rfl]; omega, hK⟩
  · rw [if_neg hY, if_neg hY]
    exact ⟨nwQ_pos _ hY, by rw [(nw_abs _ _).1]; exact Nat.lt_of_le_of_lt (Nat.div_le_self _ _) h1, by rw [(nw_abs _ _).2]; exact Nat.lt_of_le_of_lt (Nat.div_le_self _ _) h2⟩
theorem ofO_spec {b : Bool} {s t : ByteArray} (hs : s.size ≤ 60) (ht : t.size ≤ 60) (h : ofO b s t = true) : rB (ofP b s t) = b ∧ rS (ofP b s t) = s ∧ str (dec (ofQ b s t)) = t ∧ 0 < ofQ b s t ∧ (ofP b s t).natAbs < 4294967296 ^ 7 ∧ ofQ b s t < 4294967296 ^ 7 := by
  unfold ofO at h
  rw [Bool.and_eq_true, decide_eq_true_eq] at h
  obtain ⟨hk, h1, h2, h3⟩ := h
  unfold ofK at hk
  rw [Bool.and_eq_true, Bool.and_eq_true, Bool.not_eq_true', decide_eq_false_iff_not] at hk
  have hM : 0 < numOf t.data.toList := by omega
  have d1 : dl (ofP b s t).natAbs ≤ 60 := by have := congrArg ByteArray.size h2; unfold rS at this; rw [size_dl] at this; omega
  have d2 : dl (ofQ b s t) ≤ 60 := by have := congrArg ByteArray.size h3; rw [size_dl] at this; omega
  have t60 : (10 : Nat) ^ 60 < 4294967296 ^ 7 := by decide
  have lim : ∀ N, dl N ≤ 60 → N < 4294967296 ^ 7 := fun N h => Nat.lt_trans (Nat.lt_of_lt_of_le (dl_lt N) (Nat.pow_le_pow_right (by omega) h)) t60
  exact ⟨h1, h2, h3, loQ_pos _ hM, lim _ d1, lim _ d2⟩

set_option maxHeartbeats 6400000 in
set_option maxRecDepth 100000 in
theorem ratioMakes_big (s t : ByteArray) (b : Bool) (u v : ByteArray) (w : World) (h : ¬ (s.size ≤ 60 ∧ t.size ≤ 60 ∧ u.size ≤ 60 ∧ v.size ≤ 60)) :
    Calls Tryz.prog 3 #[.string s, .string t, .agg #[.bool b, .string u, .string v]] w fun e w' => e = .returned (.bool true) ∧ Below w.heap.size w w' := by
  have BB := Lib.hid ((Bag.start w).box3 (.bool b) (.string u) (.string v) 23)
  obtain ⟨g1, l1⟩ : ∃ g, decide ((60 : Int) < s.size) = g := ⟨_, rfl⟩
  obtain ⟨g2, l2⟩ : ∃ g, decide ((60 : Int) < t.size) = g := ⟨_, rfl⟩
  obtain ⟨g3, l3⟩ : ∃ g, decide ((60 : Int) < u.size) = g := ⟨_, rfl⟩
  obtain ⟨g4, l4⟩ : ∃ g, decide ((60 : Int) < v.size) = g := ⟨_, rfl⟩
  have hg : (g1 || g2 || g3 || g4) = true := by
    rw [← l1, ← l2, ← l3, ← l4, Bool.or_eq_true, Bool.or_eq_true, Bool.or_eq_true, decide_eq_true_eq, decide_eq_true_eq, decide_eq_true_eq, decide_eq_true_eq]
    omega
  have q0 := BB.out.now.1.cell
  have q1 := BB.out.now.1.cell1
  have q2 := BB.out.now.1.cell2
  clear h
  cases g1 <;> cases g2 <;> cases g3 <;> cases g4
  all_goals
    first
      | (cases hg; done)
      | skip
  all_goals
    clear hg
    go_enter Tryz.func3, Tryz.ntmps3
    go_wp2_with fail
    go_at_call 12
    refine (awake3_any _).mono ?_
    rintro e w3 ⟨rfl, hb3⟩
    have BB := Lib.hid (BB.out.go hb3)
    go_wp2
    go_ret
    exact ⟨rfl, BB.out.below⟩

set_option maxHeartbeats 6400000 in
set_option maxRecDepth 100000 in
theorem ratioMakes_no (s t : ByteArray) (b : Bool) (u v : ByteArray) (w : World) (hz : s.size ≤ 60 ∧ t.size ≤ 60 ∧ u.size ≤ 60 ∧ v.size ≤ 60) (h : (rdO s.data.toList && rdO t.data.toList) = false) :
    Calls Tryz.prog 3 #[.string s, .string t, .agg #[.bool b, .string u, .string v]] w fun e w' => e = .returned (.bool true) ∧ Below w.heap.size w w' := by
  have BB := Lib.hid ((Bag.start w).box3 (.bool b) (.string u) (.string v) 23)
  have l1 : decide ((60 : Int) < s.size) = false := decide_eq_false (by omega)
  have l2 : decide ((60 : Int) < t.size) = false := decide_eq_false (by omega)
  have l3 : decide ((60 : Int) < u.size) = false := decide_eq_false (by omega)
  have l4 : decide ((60 : Int) < v.size) = false := decide_eq_false (by omega)
  have R1 := Lib.hid (fun wz => rRead_any s wz (by unfold maxLen; omega))
  have R2 := Lib.hid (fun wz => rRead_any t wz (by unfold maxLen; omega))
  unfold ReadR at R1 R2
  generalize rdO s.data.toList = k1 at *
  generalize rdO t.data.toList = k2 at *
  generalize rB (rdZ s.data.toList) = xb at *
  generalize rS (rdZ s.data.toList) = xs at *
  generalize rB (rdZ t.data.toList) = yb at *
  generalize rS (rdZ t.data.toList) = ys at *
  have q0 := BB.out.now.1.cell
  have q1 := BB.out.now.1.cell1
  have q2 := BB.out.now.1.cell2
  clear hz
  cases k1 <;> cases k2
  all_goals
    first
      | (cases h; done)
      | skip
  all_goals
    clear h
    go_enter Tryz.func3, Tryz.ntmps3
    go_wp2_with fail
    go_at_call 13
    (with_reducible refine (R1.out _).mono ?_)
    rintro e w1 ⟨rfl, hb1⟩
    have BB := Lib.hid ((BB.out.go hb1).alloc (.cells #[.bool xb, .string xs] 26))
    clear hb1
    go_wp2_with fail
    go_at_call 13
    (with_reducible refine (R2.out _).mono ?_)
    rintro e w2 ⟨rfl, hb2⟩
    have BB := Lib.hid ((BB.out.go hb2).alloc (.cells #[.bool yb, .string ys] 26))
    clear hb2
    go_wp2_with fail
    go_at_call 12
    refine (awake3_any _).mono ?_
    rintro e w3 ⟨rfl, hb3⟩
    have BB := Lib.hid (BB.out.go hb3)
    go_wp2
    go_ret
    exact ⟨rfl, BB.out.below⟩

set_option linter.unusedSimpArgs false in
set_option maxHeartbeats 12800000 in
set_option maxRecDepth 100000 in
theorem ratioMakes_yes (s t : ByteArray) (b : Bool) (u v : ByteArray) (w : World) (hz : s.size ≤ 60 ∧ t.size ≤ 60 ∧ u.size ≤ 60 ∧ v.size ≤ 60) (hk1 : rdO s.data.toList = true) (hk2 : rdO t.data.toList = true) :
    Calls Tryz.prog 3 #[.string s, .string t, .agg #[.bool b, .string u, .string v]] w fun e w' => e = .returned (.bool true) ∧ Below w.heap.size w w' := by
  have BB := Lib.hid ((Bag.start w).box3 (.bool b) (.string u) (.string v) 23)
  have l1 : decide ((60 : Int) < s.size) = false := decide_eq_false (by omega)
  have l2 : decide ((60 : Int) < t.size) = false := decide_eq_false (by omega)
  have l3 : decide ((60 : Int) < u.size) = false := decide_eq_false (by omega)
  have l4 : decide ((60 : Int) < v.size) = false := decide_eq_false (by omega)
  have R1 := Lib.hid (fun wz => rRead_any s wz (by unfold maxLen; omega))
  have R2 := Lib.hid (fun wz => rRead_any t wz (by unfold maxLen; omega))
  unfold ReadR at R1 R2
  rw [hk1] at R1
  rw [hk2] at R2
  have hX := rdZ_small (s := s) (by unfold rdK; rw [hk1, decide_eq_true (by omega)]; rfl)
  have hY := rdZ_small (s := t) (by unfold rdK; rw [hk2, decide_eq_true (by omega)]; rfl)
  clear hk1 hk2
  generalize rdZ s.data.toList = X at *
  generalize rdZ t.data.toList = Y at *
  have dX : dl X.natAbs ≤ 100 := dl_le _ 100 (by omega) hX
  have dY : dl Y.natAbs ≤ 100 := dl_le _ 100 (by omega) hY
  have lX := lim100' hX
  have lY := lim100' hY
  have P1 : Hid (∀ wz, Calls Tryz.prog 14 #[.string (rS X)] wz fun e w' => SubOf3 wz w' e X.natAbs true) := fun wz => parse_dec X.natAbs wz (by omega)
  have P2 : Hid (∀ wz, Calls Tryz.prog 14 #[.string (rS Y)] wz fun e w' => SubOf3 wz w' e Y.natAbs true) := fun wz => parse_dec Y.natAbs wz (by omega)
  have OF1 : Hid (∀ a n c wz, NatIs wz (.agg #[.slice a n c]) X.natAbs → Calls Tryz.prog 16 #[.bool (rB X), .agg #[.slice a n c]] wz fun e w' => IntTold wz w' e X) := by
    intro a n c wz hi
    have := wof_any (rB X) a n c _ wz hi
    rw [show sgn (rB X) X.natAbs = X from sgn_self X] at this
    exact this
  have OF2 : Hid (∀ a n c wz, NatIs wz (.agg #[.slice a n c]) Y.natAbs → Calls Tryz.prog 16 #[.bool (rB Y), .agg #[.slice a n c]] wz fun e w' => IntTold wz w' e Y) := by
    intro a n c wz hi
    have := wof_any (rB Y) a n c _ wz hi
    rw [show sgn (rB Y) Y.natAbs = Y from sgn_self Y] at this
    exact this
  have NW := Lib.hid (fun a n c m a2 n2 c2 m2 wz h g => new_any a n c m X a2 n2 c2 m2 Y wz h g 11 (by omega) lX lY)
  have RN := Lib.hid (fun wz => r3New_any X Y wz (by omega) (by omega))
  obtain ⟨g1, g2, g3⟩ := mk_lim (K := 11) (by decide) lX lY
  have NM := Lib.hid (fun a n c m a2 n2 c2 wz hz => num_any a n c m a2 n2 c2 (mkP X Y) (mkQ X Y) wz hz g1 11 (by omega) g2 g3)
  have OFn := Lib.hid (fun wz => of_any' b u v wz (by omega) (by omega))
  have RT := Lib.hid (fun wz => r3Right_any b u v wz (by omega) (by omega))
  have NO : Hid (∀ a n c m a2 n2 c2 wz, ofO b u v = true → RatAt wz a n c m a2 n2 c2 (if ofO b u v then ofP b u v else 0) (if ofO b u v then ofQ b u v else 1) → Calls Tryz.prog 20 #[.agg #[.slice a n c, .bool m, .slice a2 n2 c2]] wz fun e w' => e = .returned (.agg #[.bool b, .string u, .string v]) ∧ Below wz.heap.size wz w') := by
    intro a n c m a2 n2 c2 wz ho hr
    rw [ho, if_pos rfl, if_pos rfl] at hr
    obtain ⟨i1, i2, i3, i4, i5, i6⟩ := ofO_spec (by omega) (by omega) ho
    have := num_any a n c m a2 n2 c2 _ _ wz hr i4 7 (by omega) i5 i6
    unfold NumTold at this
    rw [i1, i2, i3] at this
    exact this
  have WH := Lib.hid (fun a n c m wz (h : IntAt wz a n c m X) => whole_any a n c m X wz h)
  have NX := Lib.hid (fun a n c m a2 n2 c2 wz hz => num_any a n c m a2 n2 c2 X 1 wz hz (by omega) 11 (by omega) lX (by decide))
  have RW := Lib.hid (fun wz => r3Whole_any X wz)
  generalize (if ofO b u v then ofP b u v else 0) = U1 at *
  generalize (if ofO b u v then ofQ b u v else 1) = U2 at *
  generalize ofO b u v = o at *
  generalize mkP X Y = M1 at *
  generalize mkQ X Y = M2 at *
  generalize (!decide (Y = 0)) = ok at *
  unfold SubOf3 at P1 P2
  unfold RatTold3 at OFn
  unfold NumTold3 at RN
  unfold NumTold at NM NX RW
  clear hX hY dX dY lX lY g1 g2 g3 hz
  generalize X.natAbs = XN at *
  generalize Y.natAbs = YN at *
  generalize rB M1 = mb at *
  generalize rS M1 = ms at *
  generalize str (dec M2) = mq at *
  generalize rB X = xb at *
  generalize rS X = xs at *
  generalize rB Y = yb at *
  generalize rS Y = ys at *
  generalize str (dec 1) = o1 at *
  have q0 := BB.out.now.1.cell
  have q1 := BB.out.now.1.cell1
  have q2 := BB.out.now.1.cell2
  go_enter Tryz.func3, Tryz.ntmps3
  go_wp2_with fail
  go_at_call 13
  (with_reducible refine (R1.out _).mono ?_)
  rintro e w1 ⟨rfl, hb1⟩
  have BB := Lib.hid ((BB.out.go hb1).box2 (.bool xb) (.string xs) 26)
  have j1 : w.heap.size < w1.heap.size := by have := hb1.size; simp only [World.size_alloc] at this; omega
  clear hb1 q0 q1 q2
  go_wp2_with fail
  go_at_call 13
  (with_reducible refine (R2.out _).mono ?_)
  rintro e w2 ⟨rfl, hb2⟩
  have BB := Lib.hid ((BB.out.go hb2).box2 (.bool yb) (.string ys) 26)
  have j2 : w1.heap.size < w2.heap.size := by have := hb2.size; simp only [World.size_alloc] at this; omega
  clear hb2
  have q0 := BB.out.now.2.1.cell
  have q1 := BB.out.now.2.1.cell1
  go_wp2_with fail
  go_at_call 14
  (with_reducible refine (P1.out _).mono ?_)
  rintro e w3 ⟨au, nu, cu, rfl, hn3, hb3⟩
  have BB := Lib.hid (((BB.out.go hb3).nat hn3).box (.slice au nu cu) 31)
  have j3 : w2.heap.size < w3.heap.size := by have := hb3.size; simp only [World.size_alloc] at this; omega
  clear hb3 hn3 q0 q1
  have q0 := BB.out.now.2.2.1.cell
  have q1 := BB.out.now.2.2.1.cell1
  go_wp2_with fail
  go_at_call 14
  (with_reducible refine (P2.out _).mono ?_)
  rintro e w4 ⟨av, nv, cv, rfl, hn4, hb4⟩
  have BB := Lib.hid (((BB.out.go hb4).nat hn4).box (.slice av nv cv) 31)
  have j4 : w3.heap.size < w4.heap.size := by have := hb4.size; simp only [World.size_alloc] at this; omega
  clear hb4 hn4 q0 q1 R1 R2 P1 P2
  go_wp2_with fail
  have HP : Hid (∀ (y : World) (k : Nat) {x0 : Option Addr} {y0 z0 : Nat} {b0 : Bool} {x1 : Option Addr} {y1 z1 : Nat}, Slot3 y k (.slice x0 y0 z0) (.bool b0) (.slice x1 y1 z1) → w4.heap.size < k → Bag w (fun y => Slot y w4.heap.size (.slice av nv cv) ∧ NatIs y (.agg #[.slice av nv cv]) YN ∧ Slot y w3.heap.size (.slice au nu cu) ∧ NatIs y (.agg #[.slice au nu cu]) XN ∧ Slot2 y w2.heap.size (.bool yb) (.string ys) ∧ Slot2 y w1.heap.size (.bool xb) (.string xs) ∧ Slot3 y w.heap.size (.bool b) (.string u) (.string v) ∧ True) y → ∀ (a9 : Option Addr) (n9 c9 : Nat) (m9 : Bool) (a10 : Option Addr) (n10 c10 : Nat), Bag w (fun y => Slot y w4.heap.size (.slice av nv cv) ∧ NatIs y (.agg #[.slice av nv cv]) YN ∧ Slot y w3.heap.size (.slice au nu cu) ∧ NatIs y (.agg #[.slice au nu cu]) XN ∧ Slot2 y w2.heap.size (.bool yb) (.string ys) ∧ Slot2 y w1.heap.size (.bool xb) (.string xs) ∧ Slot3 y w.heap.size (.bool b) (.string u) (.string v) ∧ True) (((y.setCell ⟨k, 0, none⟩ (.slice a9 n9 c9)).setCell ⟨k, 1, none⟩ (.bool m9)).setCell ⟨k, 2, none⟩ (.slice a10 n10 c10))) := by
    intro y k x0 y0 z0 b0 x1 y1 z1 s hk B a9 n9 c9 m9 a10 n10 c10
    have q := B.now
    exact ⟨((B.below.setCell (p := ⟨k, 0, none⟩) (show w.heap.size ≤ k by omega) _).setCell (p := ⟨k, 1, none⟩) (show w.heap.size ≤ k by omega) _).setCell (p := ⟨k, 2, none⟩) (show w.heap.size ≤ k by omega) _, B.stay, q.1.set3o (by omega) _ _ _, q.2.1.set3 s (fun _ _ h => by cases h) (fun _ _ h => by cases h) (fun _ _ h => by cases h) _ _ _, q.2.2.1.set3o (by omega) _ _ _, q.2.2.2.1.set3 s (fun _ _ h => by cases h) (fun _ _ h => by cases h) (fun _ _ h => by cases h) _ _ _, q.2.2.2.2.1.set3o (by omega) _ _ _, q.2.2.2.2.2.1.set3o (by omega) _ _ _, q.2.2.2.2.2.2.1.set3o (by omega) _ _ _, trivial⟩
  refine wp_region_inv ⟨(fun j => ([[72], [73], [74], [75], [76], [77], [78], [79], [80], [71], [81], [82], [15], [15], [16]] : List (List Nat)).getD j []), (fun j => ([[], [0], [], [0, 1, 2], [], [4], [], [0, 1, 2, 3, 4, 5, 6], [0, 1, 2, 3, 4, 5, 6, 7], [0, 1, 2, 3, 4, 5, 6, 7, 8], [0, 1, 2, 3, 4, 5, 6, 7, 8, 9], [0, 1, 2, 3, 4, 5, 6, 7, 8, 9], [], [0, 1, 2, 3, 4, 5, 6, 7, 8, 9, 10, 12], [0, 1, 2, 3, 4, 5, 6, 7, 8, 9, 10, 11, 12, 13]] : List (List Nat)).getD j []), [12]⟩ (fun jj vv yy => match jj with | 0 => vv = [some (.pointer (some ⟨w1.heap.size, 0, none⟩))] | 1 => vv = [some (.bool xb)] | 2 => vv = [some (.agg #[.slice au nu cu])] | 3 => ∃ (a3 : Option Addr), ∃ (n3 : Nat), ∃ (c3 : Nat), ∃ (m3 : Bool), vv = [some (.agg #[.slice a3 n3 c3, .bool m3])] ∧ IntAt yy a3 n3 c3 m3 X | 4 => vv = [some (.pointer (some ⟨w2.heap.size, 0, none⟩))] | 5 => vv = [some (.bool yb)] | 6 => vv = [some (.agg #[.slice av nv cv])] | 7 => ∃ (a7 : Option Addr), ∃ (n7 : Nat), ∃ (c7 : Nat), ∃ (m7 : Bool), vv = [some (.agg #[.slice a7 n7 c7, .bool m7])] ∧ IntAt yy a7 n7 c7 m7 Y | 8 => ∃ (a8 : Option Addr), ∃ (n8 : Nat), ∃ (c8 : Nat), ∃ (m8 : Bool), ∃ (a9 : Option Addr), ∃ (n9 : Nat), ∃ (c9 : Nat), vv = [some (.tuple #[.agg #[.slice a8 n8 c8, .bool m8, .slice a9 n9 c9], .bool ok])] ∧ RatAt yy a8 n8 c8 m8 a9 n9 c9 M1 M2 | 9 => ∃ (a8 : Option Addr), ∃ (n8 : Nat), ∃ (c8 : Nat), ∃ (m8 : Bool), ∃ (a9 : Option Addr), ∃ (n9 : Nat), ∃ (c9 : Nat), vv = [some (.tuple #[.agg #[.slice a8 n8 c8, .bool m8, .slice a9 n9 c9], .bool ok])] ∧ RatAt yy a8 n8 c8 m8 a9 n9 c9 M1 M2 | 10 => ∃ (a8 : Option Addr), ∃ (n8 : Nat), ∃ (c8 : Nat), ∃ (m8 : Bool), ∃ (a9 : Option Addr), ∃ (n9 : Nat), ∃ (c9 : Nat), vv = [some (.agg #[.slice a8 n8 c8, .bool m8, .slice a9 n9 c9])] ∧ RatAt yy a8 n8 c8 m8 a9 n9 c9 M1 M2 | 11 => vv = [some (.bool ok)] | 12 => ∃ (k12 : Nat), ∃ (x0 : Option Addr), ∃ (y0 : Nat), ∃ (z0 : Nat), ∃ (b0 : Bool), ∃ (x1 : Option Addr), ∃ (y1 : Nat), ∃ (z1 : Nat), vv = [some (.pointer (some ⟨k12, 0, none⟩))] ∧ Slot3 yy k12 (.slice x0 y0 z0) (.bool b0) (.slice x1 y1 z1) ∧ w4.heap.size < k12 | 13 => ∃ (k12 : Nat), ∃ (a8 : Option Addr), ∃ (n8 : Nat), ∃ (c8 : Nat), ∃ (m8 : Bool), ∃ (a9 : Option Addr), ∃ (n9 : Nat), ∃ (c9 : Nat), vv = [some (.pointer (some ⟨k12, 0, none⟩))] ∧ Slot3 yy k12 (.slice a8 n8 c8) (.bool m8) (.slice a9 n9 c9) ∧ RatAt yy a8 n8 c8 m8 a9 n9 c9 M1 M2 | 14 => vv = [some (.bool ok)] | _ => True) (Bag w (fun y => Slot y w4.heap.size (.slice av nv cv) ∧ NatIs y (.agg #[.slice av nv cv]) YN ∧ Slot y w3.heap.size (.slice au nu cu) ∧ NatIs y (.agg #[.slice au nu cu]) XN ∧ Slot2 y w2.heap.size (.bool yb) (.string ys) ∧ Slot2 y w1.heap.size (.bool xb) (.string xs) ∧ Slot3 y w.heap.size (.bool b) (.string u) (.string v) ∧ True)) (by kernel_rfl) (by kernel_rfl) (by kernel_rfl) BB.out.drew ?_ ?_ ?_
  · intro jj vv yw yw2 hb h
    match jj, h with
    | 0, h => exact h
    | 1, h => exact h
    | 2, h => exact h
    | 3, ⟨a3, n3, c3, m3, e3, g3_0⟩ => exact Exists.intro a3 (Exists.intro n3 (Exists.intro c3 (Exists.intro m3 (And.intro e3 (g3_0.below hb)))))
    | 4, h => exact h
    | 5, h => exact h
    | 6, h => exact h
    | 7, ⟨a7, n7, c7, m7, e7, g7_0⟩ => exact Exists.intro a7 (Exists.intro n7 (Exists.intro c7 (Exists.intro m7 (And.intro e7 (g7_0.below hb)))))
    | 8, ⟨a8, n8, c8, m8, a9, n9, c9, e8, g8_0⟩ => exact Exists.intro a8 (Exists.intro n8 (Exists.intro c8 (Exists.intro m8 (Exists.intro a9 (Exists.intro n9 (Exists.intro c9 (And.intro e8 (g8_0.below hb))))))))
    | 9, ⟨a8, n8, c8, m8, a9, n9, c9, e9, g9_0⟩ => exact Exists.intro a8 (Exists.intro n8 (Exists.intro c8 (Exists.intro m8 (Exists.intro a9 (Exists.intro n9 (Exists.intro c9 (And.intro e9 (g9_0.below hb))))))))
    | 10, ⟨a8, n8, c8, m8, a9, n9, c9, e10, g10_0⟩ => exact Exists.intro a8 (Exists.intro n8 (Exists.intro c8 (Exists.intro m8 (Exists.intro a9 (Exists.intro n9 (Exists.intro c9 (And.intro e10 (g10_0.below hb))))))))
    | 11, h => exact h
    | 12, ⟨k12, x0, y0, z0, b0, x1, y1, z1, e12, g12_0, g12_1⟩ => exact Exists.intro k12 (Exists.intro x0 (Exists.intro y0 (Exists.intro z0 (Exists.intro b0 (Exists.intro x1 (Exists.intro y1 (Exists.intro z1 (And.intro e12 (And.intro (g12_0.below hb) g12_1)))))))))
    | 13, ⟨k12, a8, n8, c8, m8, a9, n9, c9, e13, g13_0, g13_1⟩ => exact Exists.intro k12 (Exists.intro a8 (Exists.intro n8 (Exists.intro c8 (Exists.intro m8 (Exists.intro a9 (Exists.intro n9 (Exists.intro c9 (And.intro e13 (And.intro (g13_0.below hb) (g13_1.below hb))))))))))
    | 14, h => exact h
    | _ + 15, h => exact h
  · intro ac yw hsz hdf hold hB hp
    obtain ⟨k12, a8, n8, c8, m8, a9, n9, c9, e13, sA, hr8⟩ := hp 13 (by decide)
    have t15 : ac.tmps[15]? = some (.pointer (some ⟨k12, 0, none⟩)) := (List.cons.inj e13).1
    have t16 : ac.tmps[16]? = some (.bool ok) := (List.cons.inj (hp 14 (by decide))).1
    have t5 : ac.tmps[5]? = some (.pointer (some ⟨w.heap.size, 0, none⟩)) := hold 5 (by kernel_rfl)
    have t7 : ac.tmps[7]? = some (.pointer (some ⟨w1.heap.size, 0, none⟩)) := hold 7 (by kernel_rfl)
    have t9 : ac.tmps[9]? = some (.pointer (some ⟨w2.heap.size, 0, none⟩)) := hold 9 (by kernel_rfl)
    have t11 : ac.tmps[11]? = some (.pointer (some ⟨w3.heap.size, 0, none⟩)) := hold 11 (by kernel_rfl)
    have t13 : ac.tmps[13]? = some (.pointer (some ⟨w4.heap.size, 0, none⟩)) := hold 13 (by kernel_rfl)
    clear hold hp e13
    obtain ⟨F, hF⟩ : ∃ F : Nat → Value, ∀ i, (ac.tmps[i]?).getD undef = F i := ⟨_, fun _ => rfl⟩
    have f5 := (hF 5).symm.trans (congrArg (fun x => Option.getD x undef) t5)
    have f7 := (hF 7).symm.trans (congrArg (fun x => Option.getD x undef) t7)
    have f9 := (hF 9).symm.trans (congrArg (fun x => Option.getD x undef) t9)
    have f11 := (hF 11).symm.trans (congrArg (fun x => Option.getD x undef) t11)
    have f13 := (hF 13).symm.trans (congrArg (fun x => Option.getD x undef) t13)
    have f15 := (hF 15).symm.trans (congrArg (fun x => Option.getD x undef) t15)
    have f16 := (hF 16).symm.trans (congrArg (fun x => Option.getD x undef) t16)
    have hac := act_eq (n := 130) hsz F hF
    rw [show ((List.range 130).map F).toArray = #[F 0, F 1, F 2, F 3, F 4, F 5, F 6, F 7, F 8, F 9, F 10, F 11, F 12, F 13, F 14, F 15, F 16, F 17, F 18, F 19, F 20, F 21, F 22, F 23, F 24, F 25, F 26, F 27, F 28, F 29, F 30, F 31, F 32, F 33, F 34, F 35, F 36, F 37, F 38, F 39, F 40, F 41, F 42, F 43, F 44, F 45, F 46, F 47, F 48, F 49, F 50, F 51, F 52, F 53, F 54, F 55, F 56, F 57, F 58, F 59, F 60, F 61, F 62, F 63, F 64, F 65, F 66, F 67, F 68, F 69, F 70, F 71, F 72, F 73, F 74, F 75, F 76, F 77, F 78, F 79, F 80, F 81, F 82, F 83, F 84, F 85, F 86, F 87, F 88, F 89, F 90, F 91, F 92, F 93, F 94, F 95, F 96, F 97, F 98, F 99, F 100, F 101, F 102, F 103, F 104, F 105, F 106, F 107, F 108, F 109, F 110, F 111, F 112, F 113, F 114, F 115, F 116, F 117, F 118, F 119, F 120, F 121, F 122, F 123, F 124, F 125, F 126, F 127, F 128, F 129] from rfl, f5, f7, f9, f11, f13, f15, f16, hdf] at hac
    simp only [Option.getD_some] at hac
    subst hac
    clear hF f5 f7 f9 f11 f13 f15 f16
    have BB := Lib.hid ((hB.slot3 sA).rat hr8)
    clear hB sA hr8 HP t5 t7 t9 t11 t13 t15 t16 OF2 NW
    have q0 := BB.out.now.2.2.2.2.2.2.1.cell
    have q1 := BB.out.now.2.2.2.2.2.2.1.cell1
    have r0 := BB.out.now.2.2.2.2.2.2.2.1.cell
    have r1 := BB.out.now.2.2.2.2.2.2.2.1.cell1
    go_wp2_with fail
    go_at_call 17
    (with_reducible refine (RN.out _).mono ?_)
    rintro e w5 ⟨rfl, hb5⟩
    have BB := Lib.hid ((BB.out.go hb5).box3 (.bool mb) (.string ms) (.string mq) 23)
    clear hb5 q0 q1 r0 r1
    have q0 := BB.out.now.2.2.2.2.2.2.2.2.2.1.cell
    have q1 := BB.out.now.2.2.2.2.2.2.2.2.2.1.cell1
    have q2 := BB.out.now.2.2.2.2.2.2.2.2.2.1.cell2
    go_wp2_with fail
    go_at_call 18
    (with_reducible refine (OFn.out _).mono ?_)
    rintro e w6 ⟨d, k, l, v0, d2, k2, l2, rfl, hr6, hb6⟩
    have BB := Lib.hid (((BB.out.go hb6).rat hr6).box3 (.slice d k l) (.bool v0) (.slice d2 k2 l2) 37)
    clear hb6 hr6 q0 q1 q2 RN OFn
    go_wp2_with fail
    refine wp_region_inv ⟨(fun j => ([[94], [95], [96], [97], [98], [99], [100], [101], [102], [103], [104], [105], [106]] : List (List Nat)).getD j []), (fun j => ([[], [], [1], [0, 1, 2], [0, 1, 2, 3], [0, 1, 2, 3, 4], [0, 1, 2, 3, 4, 5], [0, 1, 2, 3, 4, 5, 6], [0, 1, 2, 3, 4, 5, 6, 7], [0, 1, 2, 3, 4, 5, 6], [0, 1, 2, 3, 4, 5, 6, 7, 8, 9], [0, 1, 2, 3, 4, 5, 6, 7, 8, 9, 10], [0, 1, 2, 3, 4, 5, 6, 7, 8, 9, 10, 11]] : List (List Nat)).getD j []), []⟩ (fun jj vv yy => match jj with | 0 => vv = [some (.bool o)] | 1 => vv = [some (.agg #[.bool b, .string u, .string v])] | 2 => vv = [some (.bool o)] | 3 => vv = [some (.bool false)] | 4 => vv = [some (.bool false)] | 5 => vv = [some (.bool o)] | 6 => vv = [some (.bool o)] | 7 => (o = true) → (vv = [some (.agg #[.slice d k l, .bool v0, .slice d2 k2 l2])]) | 8 => (o = true) → (vv = [some (.agg #[.bool b, .string u, .string v])]) | 9 => (o = true) → (vv = [some (.agg #[.bool b, .string u, .string v])]) | 10 => (o = true) → (vv = [some (.bool false)]) | 11 => vv = [some (.bool false)] | 12 => vv = [some (.bool false)] | _ => True) (Bag w (fun y => Slot3 y w6.heap.size (.slice d k l) (.bool v0) (.slice d2 k2 l2) ∧ RatAt y d k l v0 d2 k2 l2 U1 U2 ∧ Slot3 y w5.heap.size (.bool mb) (.string ms) (.string mq) ∧ RatAt y a8 n8 c8 m8 a9 n9 c9 M1 M2 ∧ Slot3 y k12 (.slice a8 n8 c8) (.bool m8) (.slice a9 n9 c9) ∧ Slot y w4.heap.size (.slice av nv cv) ∧ NatIs y (.agg #[.slice av nv cv]) YN ∧ Slot y w3.heap.size (.slice au nu cu) ∧ NatIs y (.agg #[.slice au nu cu]) XN ∧ Slot2 y w2.heap.size (.bool yb) (.string ys) ∧ Slot2 y w1.heap.size (.bool xb) (.string xs) ∧ Slot3 y w.heap.size (.bool b) (.string u) (.string v) ∧ True)) (by kernel_rfl) (by kernel_rfl) (by kernel_rfl) BB.out.drew ?_ ?_ ?_
    · intro jj vv yw yw2 hb h
      match jj, h with
      | 0, h => exact h
      | 1, h => exact h
      | 2, h => exact h
      | 3, h => exact h
      | 4, h => exact h
      | 5, h => exact h
      | 6, h => exact h
      | 7, h => exact h
      | 8, h => exact h
      | 9, h => exact h
      | 10, h => exact h
      | 11, h => exact h
      | 12, h => exact h
      | _ + 13, h => exact h
    · intro ac yw hsz hdf hold hB hp
      have t106 : ac.tmps[106]? = some (.bool false) := (List.cons.inj (hp 12 (by decide))).1
      have t7 : ac.tmps[7]? = some (.pointer (some ⟨w1.heap.size, 0, none⟩)) := hold 7 (by kernel_rfl)
      have t11 : ac.tmps[11]? = some (.pointer (some ⟨w3.heap.size, 0, none⟩)) := hold 11 (by kernel_rfl)
      have t15 : ac.tmps[15]? = some (.pointer (some ⟨k12, 0, none⟩)) := hold 15 (by kernel_rfl)
      have t16 : ac.tmps[16]? = some (.bool ok) := hold 16 (by kernel_rfl)
      have t17 : ac.tmps[17]? = some (.pointer (some ⟨w5.heap.size, 0, none⟩)) := hold 17 (by kernel_rfl)
      have t18 : ac.tmps[18]? = some (.bool ok) := hold 18 (by kernel_rfl)
      clear hold hp
      obtain ⟨G, hG⟩ : ∃ G : Nat → Value, ∀ i, (ac.tmps[i]?).getD undef = G i := ⟨_, fun _ => rfl⟩
      have f7 := (hG 7).symm.trans (congrArg (fun x => Option.getD x undef) t7)
      have f11 := (hG 11).symm.trans (congrArg (fun x => Option.getD x undef) t11)
      have f15 := (hG 15).symm.trans (congrArg (fun x => Option.getD x undef) t15)
      have f16 := (hG 16).symm.trans (congrArg (fun x => Option.getD x undef) t16)
      have f17 := (hG 17).symm.trans (congrArg (fun x => Option.getD x undef) t17)
      have f18 := (hG 18).symm.trans (congrArg (fun x => Option.getD x undef) t18)
      have f106 := (hG 106).symm.trans (congrArg (fun x => Option.getD x undef) t106)
      have hac := act_eq (n := 130) hsz G hG
      rw [show ((List.range 130).map G).toArray = #[G 0, G 1, G 2, G 3, G 4, G 5, G 6, G 7, G 8, G 9, G 10, G 11, G 12, G 13, G 14, G 15, G 16, G 17, G 18, G 19, G 20, G 21, G 22, G 23, G 24, G 25, G 26, G 27, G 28, G 29, G 30, G 31, G 32, G 33, G 34, G 35, G 36, G 37, G 38, G 39, G 40, G 41, G 42, G 43, G 44, G 45, G 46, G 47, G 48, G 49, G 50, G 51, G 52, G 53, G 54, G 55, G 56, G 57, G 58, G 59, G 60, G 61, G 62, G 63, G 64, G 65, G 66, G 67, G 68, G 69, G 70, G 71, G 72, G 73, G 74, G 75, G 76, G 77, G 78, G 79, G 80, G 81, G 82, G 83, G 84, G 85, G 86, G 87, G 88, G 89, G 90, G 91, G 92, G 93, G 94, G 95, G 96, G 97, G 98, G 99, G 100, G 101, G 102, G 103, G 104, G 105, G 106, G 107, G 108, G 109, G 110, G 111, G 112, G 113, G 114, G 115, G 116, G 117, G 118, G 119, G 120, G 121, G 122, G 123, G 124, G 125, G 126, G 127, G 128, G 129] from rfl, f7, f11, f15, f16, f17, f18, f106, hdf] at hac
      simp only [Option.getD_some] at hac
      subst hac
      clear hG f7 f11 f15 f16 f17 f18 f106
      have BB := Lib.hid hB
      clear hB t7 t11 t15 t16 t17 t18 t106 RT NO
      go_wp2_with fail
      have BB := Lib.hid BB.out.drew
      go_region_held3 (fun y => (y.cell? ⟨w1.heap.size, 0, none⟩ = some (.bool xb) ∧ y.cell? ⟨w1.heap.size, 1, none⟩ = some (.string xs)) ∧ y.cell? ⟨w3.heap.size, 0, none⟩ = some (.slice au nu cu) ∧ (y.cell? ⟨k12, 0, none⟩ = some (.slice a8 n8 c8) ∧ y.cell? ⟨k12, 1, none⟩ = some (.bool m8) ∧ y.cell? ⟨k12, 2, none⟩ = some (.slice a9 n9 c9)) ∧ y.cell? ⟨w5.heap.size, 0, none⟩ = some (.bool mb) ∧ y.cell? ⟨w5.heap.size, 1, none⟩ = some (.string ms) ∧ y.cell? ⟨w5.heap.size, 2, none⟩ = some (.string mq))
        (exact ⟨⟨BB.out.now.2.2.2.2.2.2.2.2.2.2.1.cell, BB.out.now.2.2.2.2.2.2.2.2.2.2.1.cell1⟩, BB.out.now.2.2.2.2.2.2.2.1.cell, ⟨BB.out.now.2.2.2.2.1.cell, BB.out.now.2.2.2.2.1.cell1, BB.out.now.2.2.2.2.1.cell2⟩, BB.out.now.2.2.1.cell, BB.out.now.2.2.1.cell1, BB.out.now.2.2.1.cell2⟩)
        (first
          | (go_at_call 20; (with_reducible refine (NM.out _ _ _ _ _ _ _ _ BB.out.now.2.2.2.1).mono ?_); rintro e w7 ⟨rfl, hb7⟩; have BB := Lib.hid (BB.out.go hb7))
          | (go_at_call 16; (with_reducible refine (OF1.out _ _ _ _ BB.out.now.2.2.2.2.2.2.2.2.1).mono ?_); rintro e w8 ⟨a10, n10, c10, m10, rfl, hi8, hb8⟩; have BB := Lib.hid (BB.out.go hb8))
          | (go_at_call 21; (with_reducible refine (WH.out _ _ _ _ _ hi8).mono ?_); rintro e w9 ⟨a11, n11, c11, m11, a12, n12, c12, rfl, hr9, hb9⟩; have BB := Lib.hid (BB.out.go hb9))
          | (go_at_call 20; (with_reducible refine (NX.out _ _ _ _ _ _ _ _ hr9).mono ?_); rintro e w10 ⟨rfl, hb10⟩; have BB := Lib.hid (BB.out.go hb10))
          | (go_at_call 22; (with_reducible refine (RW.out _).mono ?_); rintro e w11 ⟨rfl, hb11⟩; have BB := Lib.hid (BB.out.go hb11))
          | (go_at_call 12; refine (awake3_any _).mono ?_; rintro e w34 ⟨rfl, hb34⟩; have BB := Lib.hid (BB.out.go hb34)))
      go_wp2
      go_ret
      exact ⟨rfl, BB.out.below⟩
    refine Stps.cons (o := _) ?_ ?_
    · intro ac yw hsz hold hB hp K hK
      have t20 : ac.tmps[20]? = some (.bool o) := hold 20 (by kernel_rfl)
      clear hold hp hsz
      go_simp
      exact hK.out _ _ ⟨hB, rfl, Nat.le_refl _, .inl (Below.refl _ _), fun h => absurd h (by decide)⟩
    refine Stps.cons (o := _) ?_ ?_
    · intro ac yw hsz hold hB hp K hK
      have t5 : ac.tmps[5]? = some (.pointer (some ⟨w.heap.size, 0, none⟩)) := hold 5 (by kernel_rfl)
      clear hold hp hsz
      have v9 := hB.now.1.cell
      have v1 := hB.now.1.cell1
      have v2 := hB.now.1.cell2
      have v3 := hB.now.2.2.2.2.2.2.2.2.2.2.2.1.cell
      have v4 := hB.now.2.2.2.2.2.2.2.2.2.2.2.1.cell1
      have v5 := hB.now.2.2.2.2.2.2.2.2.2.2.2.1.cell2
      go_simp
      exact hK.out _ _ ⟨hB, rfl, Nat.le_refl _, .inl (Below.refl _ _), fun h => absurd h (by decide)⟩
    refine Stps.cons (o := _) ?_ ?_
    · intro ac yw hsz hold hB hp K hK
      have e1 := hp 1 (by decide)
      have t95 : ac.tmps[95]? = some (.agg #[.bool b, .string u, .string v]) := (List.cons.inj e1).1
      clear hold hp hsz e1
      go_simp
      (go_at_call 19; (with_reducible refine (RT.out _).mono ?_); rintro e wz ⟨rfl, hbz⟩)
      exact hK.out _ _ ⟨hB.go hbz, rfl, hbz.size, .inl hbz, fun h => absurd h (by decide)⟩
    refine Stps.cons (o := _) ?_ ?_
    · intro ac yw hsz hold hB hp K hK
      have e0 := hp 0 (by decide)
      have t94 : ac.tmps[94]? = some (.bool o) := (List.cons.inj e0).1
      have e2 := hp 2 (by decide)
      have t96 : ac.tmps[96]? = some (.bool o) := (List.cons.inj e2).1
      clear hold hp hsz e0 e2
      go_simp
      exact hK.out _ _ ⟨hB, rfl, Nat.le_refl _, .inl (Below.refl _ _), fun h => absurd h (by decide)⟩
    refine Stps.cons (o := _) ?_ ?_
    · intro ac yw hsz hold hB hp K hK
      have e3 := hp 3 (by decide)
      have t97 : ac.tmps[97]? = some (.bool false) := (List.cons.inj e3).1
      clear hold hp hsz e3
      go_simp
      exact hK.out _ _ ⟨hB, rfl, Nat.le_refl _, .inl (Below.refl _ _), fun h => absurd h (by decide)⟩
    refine Stps.cons (o := _) ?_ ?_
    · intro ac yw hsz hold hB hp K hK
      have t98 : ac.tmps[98]? = some (.bool false) := (List.cons.inj (hp 4 (by decide))).1
      rw [if_pos (wanted_pos rfl rfl t98)]
      have t20 : ac.tmps[20]? = some (.bool o) := hold 20 (by kernel_rfl)
      clear hold hp hsz
      go_simp
      exact hK.out _ _ ⟨hB, rfl, Nat.le_refl _, .inl (Below.refl _ _), fun h => absurd h (by decide)⟩
    refine Stps.cons (o := _) ?_ ?_
    · intro ac yw hsz hold hB hp K hK
      have t98 : ac.tmps[98]? = some (.bool false) := (List.cons.inj (hp 4 (by decide))).1
      rw [if_pos (wanted_pos rfl rfl t98)]
      have e5 := hp 5 (by decide)
      have t99 : ac.tmps[99]? = some (.bool o) := (List.cons.inj e5).1
      clear hold hp hsz e5
      go_simp
      exact hK.out _ _ ⟨hB, rfl, Nat.le_refl _, .inl (Below.refl _ _), fun h => absurd h (by decide)⟩
    refine Stps.cons (o := _) ?_ ?_
    · intro ac yw hsz hold hB hp K hK
      have t100 : ac.tmps[100]? = some (.bool o) := (List.cons.inj (hp 6 (by decide))).1
      by_cases hc : (o) = true
      · rw [hc] at t100
        rw [if_pos (wanted_pos rfl rfl t100)]
        have t19 : ac.tmps[19]? = some (.pointer (some ⟨w6.heap.size, 0, none⟩)) := hold 19 (by kernel_rfl)
        clear hold hp hsz
        have v9 := hB.now.1.cell
        have v1 := hB.now.1.cell1
        have v2 := hB.now.1.cell2
        have v3 := hB.now.2.2.2.2.2.2.2.2.2.2.2.1.cell
        have v4 := hB.now.2.2.2.2.2.2.2.2.2.2.2.1.cell1
        have v5 := hB.now.2.2.2.2.2.2.2.2.2.2.2.1.cell2
        go_simp
        exact hK.out _ _ ⟨hB, fun _ => rfl, Nat.le_refl _, .inl (Below.refl _ _), fun h => absurd h (by decide)⟩
      · rw [if_neg (by rw [wanted_neg rfl rfl t100 (fun e => hc (by injection e))]; decide)]
        exact hK.out _ _ ⟨hB, fun h => absurd h hc, Nat.le_refl _, .inl (Below.refl _ _), fun h => absurd h (by decide)⟩
    refine Stps.cons (o := _) ?_ ?_
    · intro ac yw hsz hold hB hp K hK
      have t100 : ac.tmps[100]? = some (.bool o) := (List.cons.inj (hp 6 (by decide))).1
      by_cases hc : (o) = true
      · rw [hc] at t100
        rw [if_pos (wanted_pos rfl rfl t100)]
        have e7 := hp 7 (by decide) hc
        have t101 : ac.tmps[101]? = some (.agg #[.slice d k l, .bool v0, .slice d2 k2 l2]) := (List.cons.inj e7).1
        clear hold hp hsz e7
        go_simp
        (go_at_call 20; (with_reducible refine (NO.out _ _ _ _ _ _ _ _ hc hB.now.2.1).mono ?_); rintro e wz ⟨rfl, hbz⟩)
        exact hK.out _ _ ⟨hB.go hbz, fun _ => rfl, hbz.size, .inl hbz, fun h => absurd h (by decide)⟩
      · rw [if_neg (by rw [wanted_neg rfl rfl t100 (fun e => hc (by injection e))]; decide)]
        exact hK.out _ _ ⟨hB, fun h => absurd h hc, Nat.le_refl _, .inl (Below.refl _ _), fun h => absurd h (by decide)⟩
    refine Stps.cons (o := _) ?_ ?_
    · intro ac yw hsz hold hB hp K hK
      have t100 : ac.tmps[100]? = some (.bool o) := (List.cons.inj (hp 6 (by decide))).1
      by_cases hc : (o) = true
      · rw [hc] at t100
        rw [if_pos (wanted_pos rfl rfl t100)]
        have t5 : ac.tmps[5]? = some (.pointer (some ⟨w.heap.size, 0, none⟩)) := hold 5 (by kernel_rfl)
        clear hold hp hsz
        have v9 := hB.now.1.cell
        have v1 := hB.now.1.cell1
        have v2 := hB.now.1.cell2
        have v3 := hB.now.2.2.2.2.2.2.2.2.2.2.2.1.cell
        have v4 := hB.now.2.2.2.2.2.2.2.2.2.2.2.1.cell1
        have v5 := hB.now.2.2.2.2.2.2.2.2.2.2.2.1.cell2
        go_simp
        exact hK.out _ _ ⟨hB, fun _ => rfl, Nat.le_refl _, .inl (Below.refl _ _), fun h => absurd h (by decide)⟩
      · rw [if_neg (by rw [wanted_neg rfl rfl t100 (fun e => hc (by injection e))]; decide)]
        exact hK.out _ _ ⟨hB, fun h => absurd h hc, Nat.le_refl _, .inl (Below.refl _ _), fun h => absurd h (by decide)⟩
    refine Stps.cons (o := _) ?_ ?_
    · intro ac yw hsz hold hB hp K hK
      have t100 : ac.tmps[100]? = some (.bool o) := (List.cons.inj (hp 6 (by decide))).1
      by_cases hc : (o) = true
      · rw [hc] at t100
        rw [if_pos (wanted_pos rfl rfl t100)]
        have e8 := hp 8 (by decide) hc
        have t102 : ac.tmps[102]? = some (.agg #[.bool b, .string u, .string v]) := (List.cons.inj e8).1
        have e9 := hp 9 (by decide) hc
        have t103 : ac.tmps[103]? = some (.agg #[.bool b, .string u, .string v]) := (List.cons.inj e9).1
        clear hold hp hsz e8 e9
        go_simp
        exact hK.out _ _ ⟨hB, fun _ => rfl, Nat.le_refl _, .inl (Below.refl _ _), fun h => absurd h (by decide)⟩
      · rw [if_neg (by rw [wanted_neg rfl rfl t100 (fun e => hc (by injection e))]; decide)]
        exact hK.out _ _ ⟨hB, fun h => absurd h hc, Nat.le_refl _, .inl (Below.refl _ _), fun h => absurd h (by decide)⟩
    refine Stps.cons (o := _) ?_ ?_
    · intro ac yw hsz hold hB hp K hK
      have t98 : ac.tmps[98]? = some (.bool false) := (List.cons.inj (hp 4 (by decide))).1
      rw [if_pos (wanted_pos rfl rfl t98)]
      have t100 : ac.tmps[100]? = some (.bool o) := (List.cons.inj (hp 6 (by decide))).1
      by_cases hc : (o) = true
      · rw [hc] at t100
        have t104 : ac.tmps[104]? = some (.bool false) := (List.cons.inj (hp 10 (by decide) hc)).1
        clear hold hp hsz
        go_simp
        exact hK.out _ _ ⟨hB, congrArg (fun b => [some (Value.bool b)]) ((fun _ => rfl) hc).symm, Nat.le_refl _, .inl (Below.refl _ _), fun h => absurd h (by decide)⟩
      · have hc : (o) = false := by simpa using hc
        rw [hc] at t100
        clear hold hp hsz
        go_simp
        exact hK.out _ _ ⟨hB, congrArg (fun b => [some (Value.bool b)]) ((fun _ => rfl) hc).symm, Nat.le_refl _, .inl (Below.refl _ _), fun h => absurd h (by decide)⟩
    refine Stps.cons (o := _) ?_ ?_
    · intro ac yw hsz hold hB hp K hK
      have e4 := hp 4 (by decide)
      have t98 : ac.tmps[98]? = some (.bool false) := (List.cons.inj e4).1
      have e11 := hp 11 (by decide)
      have t105 : ac.tmps[105]? = some (.bool false) := (List.cons.inj e11).1
      clear hold hp hsz e4 e11
      go_simp
      exact hK.out _ _ ⟨hB, rfl, Nat.le_refl _, .inl (Below.refl _ _), fun h => absurd h (by decide)⟩
    exact Stps.nil _
  refine Stps.cons (o := _) ?_ ?_
  · intro ac yw hsz hold hB hp K hK
    have t7 : ac.tmps[7]? = some (.pointer (some ⟨w1.heap.size, 0, none⟩)) := hold 7 (by kernel_rfl)
    clear hold hp hsz
    go_simp
    exact hK.out _ _ ⟨hB, rfl, Nat.le_refl _, .inl (Below.refl _ _), fun h => absurd h (by decide)⟩
  refine Stps.cons (o := _) ?_ ?_
  · intro ac yw hsz hold hB hp K hK
    have e0 := hp 0 (by decide)
    have t72 : ac.tmps[72]? = some (.pointer (some ⟨w1.heap.size, 0, none⟩)) := (List.cons.inj e0).1
    clear hold hp hsz e0
    have v0 := hB.now.1.cell
    have v1 := hB.now.2.2.1.cell
    have v2 := hB.now.2.2.2.2.1.cell
    have v3 := hB.now.2.2.2.2.2.1.cell
    go_simp
    exact hK.out _ _ ⟨hB, rfl, Nat.le_refl _, .inl (Below.refl _ _), fun h => absurd h (by decide)⟩
  refine Stps.cons (o := _) ?_ ?_
  · intro ac yw hsz hold hB hp K hK
    have t11 : ac.tmps[11]? = some (.pointer (some ⟨w3.heap.size, 0, none⟩)) := hold 11 (by kernel_rfl)
    clear hold hp hsz
    have v0 := hB.now.1.cell
    have v1 := hB.now.2.2.1.cell
    have v2 := hB.now.2.2.2.2.1.cell
    have v3 := hB.now.2.2.2.2.2.1.cell
    go_simp
    exact hK.out _ _ ⟨hB, rfl, Nat.le_refl _, .inl (Below.refl _ _), fun h => absurd h (by decide)⟩
  refine Stps.cons (o := _) ?_ ?_
  · intro ac yw hsz hold hB hp K hK
    have e1 := hp 1 (by decide)
    have t73 : ac.tmps[73]? = some (.bool xb) := (List.cons.inj e1).1
    have e2 := hp 2 (by decide)
    have t74 : ac.tmps[74]? = some (.agg #[.slice au nu cu]) := (List.cons.inj e2).1
    clear hold hp hsz e1 e2
    go_simp
    (go_at_call 16; (with_reducible refine (OF1.out _ _ _ _ hB.now.2.2.2.1).mono ?_); rintro e wz ⟨a3, n3, c3, m3, rfl, h3_0, hbz⟩)
    exact hK.out _ _ ⟨hB.go hbz, Exists.intro a3 (Exists.intro n3 (Exists.intro c3 (Exists.intro m3 (And.intro rfl h3_0)))), hbz.size, .inl hbz, fun h => absurd h (by decide)⟩
  refine Stps.cons (o := _) ?_ ?_
  · intro ac yw hsz hold hB hp K hK
    have t9 : ac.tmps[9]? = some (.pointer (some ⟨w2.heap.size, 0, none⟩)) := hold 9 (by kernel_rfl)
    clear hold hp hsz
    go_simp
    exact hK.out _ _ ⟨hB, rfl, Nat.le_refl _, .inl (Below.refl _ _), fun h => absurd h (by decide)⟩
  refine Stps.cons (o := _) ?_ ?_
  · intro ac yw hsz hold hB hp K hK
    have e4 := hp 4 (by decide)
    have t76 : ac.tmps[76]? = some (.pointer (some ⟨w2.heap.size, 0, none⟩)) := (List.cons.inj e4).1
    clear hold hp hsz e4
    have v0 := hB.now.1.cell
    have v1 := hB.now.2.2.1.cell
    have v2 := hB.now.2.2.2.2.1.cell
    have v3 := hB.now.2.2.2.2.2.1.cell
    go_simp
    exact hK.out _ _ ⟨hB, rfl, Nat.le_refl _, .inl (Below.refl _ _), fun h => absurd h (by decide)⟩
  refine Stps.cons (o := _) ?_ ?_
  · intro ac yw hsz hold hB hp K hK
    have t13 : ac.tmps[13]? = some (.pointer (some ⟨w4.heap.size, 0, none⟩)) := hold 13 (by kernel_rfl)
    clear hold hp hsz
    have v0 := hB.now.1.cell
    have v1 := hB.now.2.2.1.cell
    have v2 := hB.now.2.2.2.2.1.cell
    have v3 := hB.now.2.2.2.2.2.1.cell
    go_simp
    exact hK.out _ _ ⟨hB, rfl, Nat.le_refl _, .inl (Below.refl _ _), fun h => absurd h (by decide)⟩
  refine Stps.cons (o := _) ?_ ?_
  · intro ac yw hsz hold hB hp K hK
    have e5 := hp 5 (by decide)
    have t77 : ac.tmps[77]? = some (.bool yb) := (List.cons.inj e5).1
    have e6 := hp 6 (by decide)
    have t78 : ac.tmps[78]? = some (.agg #[.slice av nv cv]) := (List.cons.inj e6).1
    clear hold hp hsz e5 e6
    go_simp
    (go_at_call 16; (with_reducible refine (OF2.out _ _ _ _ hB.now.2.1).mono ?_); rintro e wz ⟨a7, n7, c7, m7, rfl, h7_0, hbz⟩)
    exact hK.out _ _ ⟨hB.go hbz, Exists.intro a7 (Exists.intro n7 (Exists.intro c7 (Exists.intro m7 (And.intro rfl h7_0)))), hbz.size, .inl hbz, fun h => absurd h (by decide)⟩
  refine Stps.cons (o := _) ?_ ?_
  · intro ac yw hsz hold hB hp K hK
    obtain ⟨a3_3, n3_3, c3_3, m3_3, e3, g3_0⟩ := hp 3 (by decide)
    have t75 : ac.tmps[75]? = some (.agg #[.slice a3_3 n3_3 c3_3, .bool m3_3]) := (List.cons.inj e3).1
    obtain ⟨a7_7, n7_7, c7_7, m7_7, e7, g7_0⟩ := hp 7 (by decide)
    have t79 : ac.tmps[79]? = some (.agg #[.slice a7_7 n7_7 c7_7, .bool m7_7]) := (List.cons.inj e7).1
    clear hold hp hsz e3 e7
    go_simp
    (go_at_call 15; (with_reducible refine (NW.out _ _ _ _ _ _ _ _ _ g3_0 g7_0).mono ?_); rintro e wz ⟨a8, n8, c8, m8, a9, n9, c9, rfl, h8_0, hbz⟩)
    exact hK.out _ _ ⟨hB.go hbz, Exists.intro a8 (Exists.intro n8 (Exists.intro c8 (Exists.intro m8 (Exists.intro a9 (Exists.intro n9 (Exists.intro c9 (And.intro rfl h8_0))))))), hbz.size, .inl hbz, fun h => absurd h (by decide)⟩
  refine Stps.cons (o := _) ?_ ?_
  · intro ac yw hsz hold hB hp K hK
    obtain ⟨a8_8, n8_8, c8_8, m8_8, a9_8, n9_8, c9_8, e8, g8_0⟩ := hp 8 (by decide)
    have t80 : ac.tmps[80]? = some (.tuple #[.agg #[.slice a8_8 n8_8 c8_8, .bool m8_8, .slice a9_8 n9_8 c9_8], .bool ok]) := (List.cons.inj e8).1
    clear hold hp hsz e8
    go_simp
    exact hK.out _ _ ⟨hB, Exists.intro a8_8 (Exists.intro n8_8 (Exists.intro c8_8 (Exists.intro m8_8 (Exists.intro a9_8 (Exists.intro n9_8 (Exists.intro c9_8 (And.intro rfl g8_0))))))), Nat.le_refl _, .inl (Below.refl _ _), fun h => absurd h (by decide)⟩
  refine Stps.cons (o := _) ?_ ?_
  · intro ac yw hsz hold hB hp K hK
    obtain ⟨a8_9, n8_9, c8_9, m8_9, a9_9, n9_9, c9_9, e9, g9_0⟩ := hp 9 (by decide)
    have t71 : ac.tmps[71]? = some (.tuple #[.agg #[.slice a8_9 n8_9 c8_9, .bool m8_9, .slice a9_9 n9_9 c9_9], .bool ok]) := (List.cons.inj e9).1
    clear hold hp hsz e9
    go_simp
    exact hK.out _ _ ⟨hB, Exists.intro a8_9 (Exists.intro n8_9 (Exists.intro c8_9 (Exists.intro m8_9 (Exists.intro a9_9 (Exists.intro n9_9 (Exists.intro c9_9 (And.intro rfl g9_0))))))), Nat.le_refl _, .inl (Below.refl _ _), fun h => absurd h (by decide)⟩
  refine Stps.cons (o := _) ?_ ?_
  · intro ac yw hsz hold hB hp K hK
    obtain ⟨a8_9, n8_9, c8_9, m8_9, a9_9, n9_9, c9_9, e9, g9_0⟩ := hp 9 (by decide)
    have t71 : ac.tmps[71]? = some (.tuple #[.agg #[.slice a8_9 n8_9 c8_9, .bool m8_9, .slice a9_9 n9_9 c9_9], .bool ok]) := (List.cons.inj e9).1
    clear hold hp hsz e9
    go_simp
    exact hK.out _ _ ⟨hB, rfl, Nat.le_refl _, .inl (Below.refl _ _), fun h => absurd h (by decide)⟩
  refine Stps.cons (o := _) ?_ ?_
  · intro ac yw hsz hold hB hp K hK
    clear hold hp hsz
    have hk0 := hB.now.1.lt
    have hsl := Slot3.new yw (.slice none 0 0) (.bool false) (.slice none 0 0) 37
    have hbz : Below yw.heap.size yw (yw.alloc (.cells #[.slice none 0 0, .bool false, .slice none 0 0] 37)) ∧ yw.heap.size < (yw.alloc (.cells #[.slice none 0 0, .bool false, .slice none 0 0] 37)).heap.size := ⟨(Below.refl _ _).alloc (Nat.le_refl _) _, by simp⟩
    go_simp
    exact hK.out _ _ ⟨hB.alloc _, Exists.intro yw.heap.size (Exists.intro none (Exists.intro 0 (Exists.intro 0 (Exists.intro false (Exists.intro none (Exists.intro 0 (Exists.intro 0 (And.intro rfl (And.intro hsl hk0))))))))), Nat.le_of_lt hbz.2, .inl hbz.1, fun _ => ⟨_, rfl, Nat.le_refl _, hbz.2⟩⟩
  refine Stps.cons (o := _) ?_ ?_
  · intro ac yw hsz hold hB hp K hK
    obtain ⟨k12_12, x0_12, y0_12, z0_12, b0_12, x1_12, y1_12, z1_12, e12, g12_0, g12_1⟩ := hp 12 (by decide)
    have t15 : ac.tmps[15]? = some (.pointer (some ⟨k12_12, 0, none⟩)) := (List.cons.inj e12).1
    obtain ⟨a8_10, n8_10, c8_10, m8_10, a9_10, n9_10, c9_10, e10, g10_0⟩ := hp 10 (by decide)
    have t81 : ac.tmps[81]? = some (.agg #[.slice a8_10 n8_10 c8_10, .bool m8_10, .slice a9_10 n9_10 c9_10]) := (List.cons.inj e10).1
    clear hold hp hsz e12 e10
    have hs := g12_0
    have l0 := hs.cell
    have l1 := hs.cell1
    have l2 := hs.cell2
    have f0 := hs.free
    have f1 := hs.free1
    have f2 := hs.free2
    have HB := HP.out _ _ hs g12_1 hB a8_10 n8_10 c8_10 m8_10 a9_10 n9_10 c9_10
    go_simp
    refine hK.out undef _ ⟨HB, Exists.intro k12_12 (Exists.intro a8_10 (Exists.intro n8_10 (Exists.intro c8_10 (Exists.intro m8_10 (Exists.intro a9_10 (Exists.intro n9_10 (Exists.intro c9_10 (And.intro (congrArg (fun x => [x]) t15) (And.intro (hs.set3 (.slice a8_10 n8_10 c8_10) (.bool m8_10) (.slice a9_10 n9_10 c9_10)) (RatAt.set3 g10_0 hs _ _ _)))))))))), by simp, .inr ?_, fun h => absurd h (by decide)⟩
    intro jj hj hap h
    match jj, h with
    | 0, h => exact h
    | 1, h => exact h
    | 2, h => exact h
    | 3, ⟨a3, n3, c3, m3, e3, g3_0⟩ =>
      exact Exists.intro a3 (Exists.intro n3 (Exists.intro c3 (Exists.intro m3 (And.intro e3 (IntAt.set3 g3_0 hs _ _ _)))))
    | 4, h => exact h
    | 5, h => exact h
    | 6, h => exact h
    | 7, ⟨a7, n7, c7, m7, e7, g7_0⟩ =>
      exact Exists.intro a7 (Exists.intro n7 (Exists.intro c7 (Exists.intro m7 (And.intro e7 (IntAt.set3 g7_0 hs _ _ _)))))
    | 8, ⟨a8, n8, c8, m8, a9, n9, c9, e8, g8_0⟩ =>
      exact Exists.intro a8 (Exists.intro n8 (Exists.intro c8 (Exists.intro m8 (Exists.intro a9 (Exists.intro n9 (Exists.intro c9 (And.intro e8 (RatAt.set3 g8_0 hs _ _ _))))))))
    | 9, ⟨a8, n8, c8, m8, a9, n9, c9, e9, g9_0⟩ =>
      exact Exists.intro a8 (Exists.intro n8 (Exists.intro c8 (Exists.intro m8 (Exists.intro a9 (Exists.intro n9 (Exists.intro c9 (And.intro e9 (RatAt.set3 g9_0 hs _ _ _))))))))
    | 10, ⟨a8, n8, c8, m8, a9, n9, c9, e10, g10_0⟩ =>
      exact Exists.intro a8 (Exists.intro n8 (Exists.intro c8 (Exists.intro m8 (Exists.intro a9 (Exists.intro n9 (Exists.intro c9 (And.intro e10 (RatAt.set3 g10_0 hs _ _ _))))))))
    | 11, h => exact h
    | 12, ⟨k12, x0, y0, z0, b0, x1, y1, z1, e12, g12_0, g12_1⟩ =>
      have e9 : k12 = k12_12 := by have := (List.cons.inj e12).1.symm.trans t15; cases this; rfl
      subst e9
      exact Exists.intro _ (Exists.intro _ (Exists.intro _ (Exists.intro _ (Exists.intro _ (Exists.intro _ (Exists.intro _ (Exists.intro _ (And.intro e12 (And.intro (g12_0.set3 _ _ _) g12_1)))))))))
    | 13, _ => exact absurd rfl hj
    | 14, h => exact h
    | _ + 15, h => exact h
  refine Stps.cons (o := _) ?_ ?_
  · intro ac yw hsz hold hB hp K hK
    have e11 := hp 11 (by decide)
    have t82 : ac.tmps[82]? = some (.bool ok) := (List.cons.inj e11).1
    clear hold hp hsz e11
    go_simp
    exact hK.out _ _ ⟨hB, rfl, Nat.le_refl _, .inl (Below.refl _ _), fun h => absurd h (by decide)⟩
  exact Stps.nil _

theorem ratioMakes_walk (s t : ByteArray) (b : Bool) (u v : ByteArray) (w : World) (_ : s.size ≤ maxLen) (_ : t.size ≤ maxLen) (_ : u.size ≤ maxLen) (_ : v.size ≤ maxLen) :
    Calls Tryz.prog 3 #[.string s, .string t, .agg #[.bool b, .string u, .string v]] w fun e w' => e = .returned (.bool true) ∧ Below w.heap.size w w' := by
  by_cases hz : s.size ≤ 60 ∧ t.size ≤ 60 ∧ u.size ≤ 60 ∧ v.size ≤ 60
  · cases h : (rdO s.data.toList && rdO t.data.toList) with
    | false => exact ratioMakes_no s t b u v w hz h
    | true => rw [Bool.and_eq_true] at h; exact ratioMakes_yes s t b u v w hz h.1 h.2
  · exact ratioMakes_big s t b u v w hz

theorem own : ownKnob Tryz.prog.godebug = none := by kernel_rfl

set_option maxRecDepth 100000 in
theorem ratioMakes_lifted (os : Os) (started : os.Started) (H : Type) (enc : TypeId × Value → H) :
    ReturnsInHanded {} Tryz.checked os 3 .any (fun w args => (Rows.ratioMakesSpec.pre enc Tryz.prog Tryz.f3 [] false w args ∧ laidMetH Tryz.prog Rows.ratioMakesRow.laid w) ∧ sizedMet enc Tryz.prog Tryz.f3 (OpenSpec.ofChange Rows.ratioMakesSpec) false w args)
      (Rows.ratioMakesSpec.post enc Tryz.prog Tryz.f3 false true false false) := by
  refine returnsInHanded_of_change_and (C := Tryz.checked) (X := fun w _ => laidMetH Tryz.prog Rows.ratioMakesRow.laid w) (fun _ _ _ hh h => h.of_heap hh) own started (by kernel_rfl) Tryz.func3
    (ChangeSpec.witness_shaped (enc := enc) (C := Tryz.checked) (os := os) (X := fun w _ => laidMetH Tryz.prog Rows.ratioMakesRow.laid w) false (World.laidAll Tryz.prog os Rows.ratioMakesRow.laid) #[.string ⟨#[]⟩, .string ⟨#[]⟩, .agg #[.bool false, .string ⟨#[]⟩, .string ⟨#[]⟩]] 8 (World.laidAll_os _ _ _)
      (World.shaped_of_ZipB (by kernel_rfl) (by kernel_rfl)) (by kernel_rfl) (by kernel_rfl) (by kernel_rfl)
      (by rw [MakeChecks.laidMetH_plain _ _ _ (by kernel_rfl)]; exact laidMet_laidAll _ (by kernel_rfl) (by kernel_rfl))) ?_
  intro W base args ds gs before hval0 hW _ _ _ _
  have hval : ∀ (j : Nat) t v, Tryz.f3.params[j]? = some t → args[j]? = some v → Value.okWide Tryz.prog W .any base t v := hval0
  have hW' := hW
  obtain ⟨p, q, hA0, hV, rfl, _, _⟩ := hW
  have hA : DataW.TrodAll enc Tryz.prog W 0 (fun _ => true) true Tryz.f3.params.toList args.toList ds p := hA0
  rw [Tryz.params3] at hA hval
  obtain ⟨v0, v1, v2, d0, d1, d2, p0, p1, p2, rfl, rfl, rfl, h0, h1, h2⟩ := trodAll_three hA
  obtain ⟨rfl, rfl⟩ := trodVars_none hV
  obtain ⟨x0, rfl, rfl, rfl, b0⟩ := open_string Tryz.underlying9 (hval 0 9 v0 rfl rfl) h0
  obtain ⟨x1, rfl, rfl, rfl, b1⟩ := open_string Tryz.underlying9 (hval 1 9 v1 rfl rfl) h1
  obtain ⟨x2, y2, z2, rfl, rfl, rfl, b2, c2⟩ := open_num (hval 2 23 v2 rfl rfl) h2
  simp only [List.append_nil] at hW'
  refine (ratioMakes_walk x0 x1 x2 y2 z2 W b0 b1 b2 c2).mono fun e W' ⟨he, hb⟩ => ?_
  subst he
  exact ⟨_, rfl, _, _, _, [], [], [], hW', trodAll_mk1 (shut_bool Tryz.underlying4 _), trodAll_mk3 (shut_string Tryz.underlying9 b0) (shut_string Tryz.underlying9 b1) (shut_num b2 c2), rfl, hb.frame _, fun h => by cases h⟩

theorem ratioMakes_row : Rows.RatioMakesSaid :=
  OpenClaim.holds_of_wide 3 Tryz.f3 rfl rfl rfl rfl rfl rfl rfl ⟨rfl, rfl, rfl, rfl, rfl⟩ rfl rfl rfl rfl rfl (by kernel_rfl) Tryz.func3 (by kernel_rfl)
    (of_decide_eq_true (by kernel_rfl)) (by unfold Func.isWrapper; first | (rw [if_pos (by decide +kernel)]; kernel_rfl) | (rw [if_neg (by decide +kernel)]; exact ⟨rfl, rfl⟩))
    (fun os started H enc _ => ratioMakes_lifted os started H enc)

theorem ratioMakes_holds : Rows.RatioMakesCardSaid :=
  Claim7.holds_tied_plain_at .later [] [.data, .pinned] true Rows.ratioMakesCard.stood.harness Rows.ratioMakesCard.stood.looks ratioMakes_row (fun _ h => by cases h) (by kernel_rfl) (fun _ h => by cases h) ratioMakes_row_tie rfl ⟨rfl, rfl⟩ (by kernel_rfl) rfl
    (fun f fn hf hfn => by
      obtain rfl : f = 3 := Option.some.inj ((show Tryz.prog.funcNamed "typeball/typeballlaw03.RatioMakes" = some 3 by kernel_rfl).symm.trans hf) |>.symm
      obtain rfl : fn = Tryz.f3 := (Option.some.inj (Tryz.func3.symm.trans hfn)).symm
      exact ⟨by kernel_rfl, fun j t ht => by
        rw [Tryz.params3] at ht
        have hm : t ∈ [9, 23] := by simpa using Array.mem_of_getElem? ht
        have hall : ([9, 23].all fun u => !Tryz.prog.wantsStandIn u) = true := by kernel_rfl
        exact (show Tryz.prog.wantsStandIn t = false by simpa using List.all_eq_true.1 hall t hm)⟩)
    (by kernel_rfl)
#print axioms ratioMakes_holds
end Go.Proofs.YtipfhbfjbbiglaaGreatDoor
