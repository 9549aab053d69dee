/-
  Proved: the law MonoBack of package typeballlaw12 returns true for every number, under the row's own conditions.
-/
import Derived.Test.YtnpoakaffafdiaaGreatDoorM1
import Derived.Test.YtnpoakaffafdiaaGreatDoorM2
import Derived.Test.YtnpoakaffafdiaaGreatDoorM3
import Derived.Test.YtnpoakaffafdiaaGreatDoorM4
import Derived.Test.YtnpoakaffafdiaaGreatDoorM5
import Derived.Test.YtnpoakaffafdiaaGreatDoorM6
import Derived.Test.YtnpoakaffafdiaaGreatDoorM7
import Derived.Test.YtnpoakaffafdiaaGreatDoorM8
import Derived.Test.YtnpoakaffafdiaaGreatDoorB1
import Derived.Test.YtnpoakaffafdiaaGreatDoorCards
import Derived.Test.YtnpoakaffafdiaaGreatDoorTie
import Derived.LaidMore
import Derived.Lay
import Derived.SevenTiedAt
import Derived.Stop.Joined
import Derived.Laws.StructEq
namespace Go.Proofs.YtnpoakaffafdiaaGreatDoor
open Go.ChangeShapes Go.WideShapes Go.ChangeAt Go.RowKit Go.WideMaps Go.WideElems
open Go.ChangeMaps (open_string shut_string)
attribute [local go_sem ↓] Go.wp_at_zero Go.wp_at_succ
set_option linter.unusedVariables false
set_option linter.unusedSimpArgs false

theorem flR_in (Z : Int) {Y : Int} (hY : 0 < Y) : 0 ≤ flR Z Y ∧ flR Z Y < Y := by
  have hm := Nat.mod_lt Z.natAbs (show 0 < Y.natAbs by omega)
  unfold flR
  rw [decide_eq_false (show ¬ Y < 0 by omega)]
  unfold sgn
  split
  · rename_i h
    simp at h
  · split
    · rename_i h
      unfold flU at h
      simp at h
      omega
    · omega
theorem floor_near (P : Int) {Q : Nat} (hQ : 0 < Q) : 0 ≤ P - flQ P Q * Q ∧ P - flQ P Q * Q < Q := by
  have h1 := fl_times (Z := P) (Y := (Q : Int)) (by omega)
  have h2 := flR_in P (Y := (Q : Int)) (by omega)
  omega
theorem ceil_near (P : Int) {Q : Nat} (hQ : 0 < Q) : 0 ≤ -(flQ (-P) Q) * Q - P ∧ -(flQ (-P) Q) * Q - P < Q := by
  have h1 := floor_near (-P) hQ
  rw [Int.neg_mul]
  omega
theorem lo_less {Z : Int} {Y : Nat} (hY : 0 < Y) (h : Z < Y) : loP Z Y < loQ Z Y := by
  have h1 := loP_mul Z Y
  have h2 := loQ_mul Z Y
  have h3 := rg_pos Z hY
  refine Int.lt_of_mul_lt_mul_left (a := (rg Z Y : Int)) ?_ (by omega)
  rw [h1, show ((rg Z Y : Nat) : Int) * ((loQ Z Y : Nat) : Int) = ((rg Z Y * loQ Z Y : Nat) : Int) by rw [Int.natCast_mul], h2]
  exact h
theorem cmp_lt {X Y : Int} (h : X < Y) : decide (cmpZ X Y < 0) = true := by unfold cmpZ; rw [if_pos h]; rfl
theorem cmp_ge {X Y : Int} (h : Y ≤ X) : decide (0 ≤ cmpZ X Y) = true := by
  unfold cmpZ
  rw [if_neg (by omega)]
  split <;> rfl
theorem cmp_le {X Y : Int} (h : X ≤ Y) : decide (cmpZ X Y ≤ 0) = true := by
  unfold cmpZ
  by_cases e : X < Y
  · rw [if_pos e]; rfl
  · rw [if_neg e, if_pos (by omega)]; rfl
theorem mone64 {c P A : Int} {Q B : Nat} (hc : hasB c = true) (h126 : c ≠ 126) (hn : aN c P Q = true) (ha : aP c P Q = A) (hb : aQ c P Q = B) (hA : A.natAbs < 4294967296 ^ 64) (hB : B < 4294967296 ^ 64) : oP c P Q 64 = A ∧ oQ c P Q 64 = B ∧ oE c P Q 64 = 0 := by
  obtain ⟨e1, e2, e3⟩ := o_w (l := 64) hc h126 hn
  rw [e1, e2, e3, ha, hb]
  have h1 := lbs_le32.2 hA
  have h2 := lbs_le32.2 hB
  have h3 : ¬ 64 < limZ A B := by
    unfold limZ
    omega
  unfold wP wQ wE
  rw [if_neg h3, if_neg h3, if_neg h3]
  exact ⟨rfl, rfl, rfl⟩

set_option maxHeartbeats 6400000 in
set_option maxRecDepth 100000 in
theorem monoBack_no (b : Bool) (s t : ByteArray) (w : World) (h : rd12 b s t = false) :
    Calls Tryz.prog 7 #[.agg #[.bool b, .string s, .string t]] w fun e w' => e = .returned (.bool true) ∧ Below w.heap.size w w' := by
  have BB := Lib.hid ((Bag.start w).box3 (.bool b) (.string s) (.string t) 53)
  have AW := Lib.hid (fun wz => awake12_any wz)
  have RD := Lib.hid (fun wz => read12_no b s t wz h)
  unfold RatTold3 at RD
  have q0 := BB.out.now.1.cell
  have q1 := BB.out.now.1.cell1
  have q2 := BB.out.now.1.cell2
  clear h
  go_enter Tryz.func7, Tryz.ntmps7
  go_wp2_with fail
  go_at_call 23
  (with_reducible refine (RD.out _).mono ?_)
  rintro e w1 ⟨a1, n1, c1, m1, d1, i1, j1, rfl, hr1, hb1⟩
  have BB := Lib.hid (((BB.out.go hb1).rat hr1).box3 (.slice a1 n1 c1) (.bool m1) (.slice d1 i1 j1) 60)
  clear hb1 hr1 q0 q1 q2
  go_wp2_with fail
  go_at_call 24
  (with_reducible refine (AW.out _).mono ?_)
  rintro e w9 ⟨rfl, hb9⟩
  have BB := Lib.hid (BB.out.go hb9)
  clear hb9
  go_wp2
  go_ret
  exact ⟨rfl, BB.out.below⟩

set_option maxHeartbeats 6400000 in
set_option maxRecDepth 100000 in
theorem monoBack_zero (b : Bool) (s t : ByteArray) (w : World) (h : rd12 b s t = true) (hP : ofP b s t = 0) :
    Calls Tryz.prog 7 #[.agg #[.bool b, .string s, .string t]] w fun e w' => e = .returned (.bool true) ∧ Below w.heap.size w w' := by
  obtain ⟨h1, h2, h3, hQ, hg, d1, d2, g1, g2⟩ := rd12_spec h
  have RD := Lib.hid (fun wz => read12_yes b s t wz h)
  unfold RatTold3 at RD
  generalize ofP b s t = P at *
  generalize ofQ b s t = Q at *
  have up64 : ∀ {N : Nat}, N < 4294967296 ^ 8 → N < 4294967296 ^ 64 := fun h => Nat.lt_of_lt_of_le h (Nat.pow_le_pow_right (by omega) (by omega))
  have p78 : (4294967296 : Nat) ^ 7 + 1 ≤ 4294967296 ^ 8 := by decide
  have hP8 : P.natAbs < 4294967296 ^ 8 := by omega
  have hQ8 : Q < 4294967296 ^ 8 := by omega
  have one8 : (1 : Nat) < 4294967296 ^ 8 := by decide
  obtain ⟨U, hU⟩ : ∃ z, -(flQ (-P) Q) = z := ⟨_, rfl⟩
  obtain ⟨D, hD⟩ : ∃ z, flQ P Q = z := ⟨_, rfl⟩
  have hUn := ceil_near P hQ
  have hDn := floor_near P hQ
  rw [hU] at hUn
  rw [hD] at hDn
  have hU8 : U.natAbs < 4294967296 ^ 8 := by
    have := flQ_abs (-P) Q
    rw [Int.natAbs_neg] at this
    rw [← hU, Int.natAbs_neg]
    omega
  have hD8 : D.natAbs < 4294967296 ^ 8 := by
    have := flQ_abs P Q
    rw [← hD]
    omega
  have M1 := mone64 (c := 45) (P := P) (Q := Q) (A := -P) (B := Q) (by decide) (by decide) (by unfold aN; simp) rfl rfl (by rw [Int.natAbs_neg]; exact up64 hP8) (up64 hQ8)
  have M2 := mone64 (c := 45) (P := -P) (Q := Q) (A := P) (B := Q) (by decide) (by decide) (by unfold aN; simp) (show -(-P) = P by omega) rfl (up64 hP8) (up64 hQ8)
  have M5 := mone64 (c := 8968) (P := P) (Q := Q) (A := U) (B := 1) (by decide) (by decide) (by unfold aN; simp) hU rfl (up64 hU8) (up64 one8)
  have M6 := mone64 (c := 8970) (P := P) (Q := Q) (A := D) (B := 1) (by decide) (by decide) (by unfold aN; simp) hD rfl (up64 hD8) (up64 one8)
  have O1 := Lib.hid (fun a n c m a2 n2 c2 wz q => mone_any 45 a n c m a2 n2 c2 P Q 64 wz q hQ hg 8 (by omega) hP8 hQ8 (by omega))
  have O2 := Lib.hid (fun a n c m a2 n2 c2 wz q => mone_any 45 a n c m a2 n2 c2 (-P) Q 64 wz q hQ (by rw [Int.natAbs_neg]; exact hg) 8 (by omega) (by rw [Int.natAbs_neg]; exact hP8) hQ8 (by omega))
  have O5 := Lib.hid (fun a n c m a2 n2 c2 wz q => mone_any 8968 a n c m a2 n2 c2 P Q 64 wz q hQ hg 8 (by omega) hP8 hQ8 (by omega))
  have O6 := Lib.hid (fun a n c m a2 n2 c2 wz q => mone_any 8970 a n c m a2 n2 c2 P Q 64 wz q hQ hg 8 (by omega) hP8 hQ8 (by omega))
  rw [M1.1, M1.2.1, M1.2.2] at O1
  rw [M2.1, M2.2.1, M2.2.2] at O2
  rw [M5.1, M5.2.1, M5.2.2] at O5
  rw [M6.1, M6.2.1, M6.2.2] at O6
  have O3 := Lib.hid (fun a n c m a2 n2 c2 wz q => mone_any 247 a n c m a2 n2 c2 P Q 64 wz q hQ hg 8 (by omega) hP8 hQ8 (by omega))
  have M3 := o_no (c := 247) (P := P) (Q := Q) (l := 64) (by decide) (by decide) (by unfold aN; simp [hP])
  have M4 := o_no (c := 247) (P := 0) (Q := 1) (l := 64) (by decide) (by decide) (by unfold aN; simp)
  have O4 := Lib.hid (fun a n c m a2 n2 c2 wz q => mone_any 247 a n c m a2 n2 c2 0 1 64 wz q (by omega) (by decide) 8 (by omega) (by decide) (by decide) (by omega))
  have dS : (sgnI P != 0) = false := by rw [hP]; rfl
  rw [M3.1, M3.2.1, M3.2.2] at O3
  rw [M4.1, M4.2.1, M4.2.2] at O4
  unfold RatTold4 at O1 O2 O3 O4 O5 O6
  clear M1 M2 M3 M4 M5 M6
  have NM := Lib.hid (fun a n c m a2 n2 c2 wz q => num_any a n c m a2 n2 c2 P Q wz q hQ 8 (by omega) hP8 hQ8)
  unfold NumTold at NM
  rw [h1, h2, h3] at NM
  have SG := Lib.hid (fun a n c m a2 n2 c2 wz q => ratSign_any a n c m a2 n2 c2 P Q wz q)
  have MN1 := Lib.hid (fun a n c m a2 n2 c2 wz q => ratMinus_any a n c m a2 n2 c2 P Q wz q)
  have MN2 := Lib.hid (fun a n c m a2 n2 c2 wz q => ratMinus_any a n c m a2 n2 c2 D 1 wz q)
  have PL1 := Lib.hid (fun a n c m a2 n2 c2 sa wz h g => ratPlus1_any a n c m a2 n2 c2 U 1 sa (-P) Q wz h g (by omega) hQ 8 (by omega) hU8 one8 (by rw [Int.natAbs_neg]; exact hP8) hQ8)
  have PL2 := Lib.hid (fun a n c m a2 n2 c2 sa wz h g => ratPlus1_any a n c m a2 n2 c2 P Q sa (-D) 1 wz h g hQ (by omega) 8 (by omega) hP8 hQ8 (by rw [Int.natAbs_neg]; exact hD8) one8)
  obtain ⟨A1, hA1⟩ : ∃ z, plP U 1 (-P) Q = z := ⟨_, rfl⟩
  obtain ⟨B1, hB1⟩ : ∃ z, plQ U 1 (-P) Q = z := ⟨_, rfl⟩
  obtain ⟨A2, hA2⟩ : ∃ z, plP P Q (-D) 1 = z := ⟨_, rfl⟩
  obtain ⟨B2, hB2⟩ : ∃ z, plQ P Q (-D) 1 = z := ⟨_, rfl⟩
  rw [hA1, hB1] at PL1
  rw [hA2, hB2] at PL2
  have key : ∀ {Z : Int} {Y : Nat}, 0 ≤ Z → Z < Q → Y = Q → loP Z Y < loQ Z Y ∧ (loP Z Y).natAbs < 4294967296 ^ 8 ∧ 0 < loQ Z Y ∧ loQ Z Y < 4294967296 ^ 8 := fun {Z Y} z0 z1 hY => by
    subst hY
    have e1 := loP_absle Z Y
    have e2 := loQ_le Z Y
    exact ⟨lo_less hQ z1, by omega, loQ_pos Z hQ, by omega⟩
  have k1 : A1 < B1 ∧ A1.natAbs < 4294967296 ^ 8 ∧ 0 < B1 ∧ B1 < 4294967296 ^ 8 := by
    rw [← hA1, ← hB1]
    exact key (Z := U * (Q : Int) + -P * ((1 : Nat) : Int)) (by omega) (by omega) (Nat.one_mul Q)
  have k2 : A2 < B2 ∧ A2.natAbs < 4294967296 ^ 8 ∧ 0 < B2 ∧ B2 < 4294967296 ^ 8 := by
    rw [← hA2, ← hB2]
    exact key (Z := P * ((1 : Nat) : Int) + -D * (Q : Int)) (by rw [Int.neg_mul]; omega) (by rw [Int.neg_mul]; omega) (Nat.mul_one Q)
  have FR := Lib.hid (fun wz => ratFrom_any 1 wz (by omega))
  have C1 := Lib.hid (fun a n c m a2 n2 c2 b k l v b2 k2' l2 wz h g => ratCmp_any a n c m a2 n2 c2 A1 B1 b k l v b2 k2' l2 1 1 wz h g k1.2.2.1 (by omega) 8 (by omega) k1.2.1 k1.2.2.2 one8 one8)
  have C2 := Lib.hid (fun a n c m a2 n2 c2 b k l v b2 k2' l2 wz h g => ratCmp_any a n c m a2 n2 c2 A2 B2 b k l v b2 k2' l2 1 1 wz h g k2.2.2.1 (by omega) 8 (by omega) k2.2.1 k2.2.2.2 one8 one8)
  have C3 := Lib.hid (fun a n c m a2 n2 c2 b k l v b2 k2' l2 wz h g => ratCmp_any a n c m a2 n2 c2 U 1 b k l v b2 k2' l2 P Q wz h g (by omega) hQ 8 (by omega) hU8 one8 hP8 hQ8)
  have C4 := Lib.hid (fun a n c m a2 n2 c2 b k l v b2 k2' l2 wz h g => ratCmp_any a n c m a2 n2 c2 D 1 b k l v b2 k2' l2 P Q wz h g (by omega) hQ 8 (by omega) hD8 one8 hP8 hQ8)
  have z1 : decide (cmpZ (A1 * ((1 : Nat) : Int)) (1 * (B1 : Int)) < 0) = true := cmp_lt (by omega)
  have z2 : decide (cmpZ (A2 * ((1 : Nat) : Int)) (1 * (B2 : Int)) < 0) = true := cmp_lt (by omega)
  have z3 : decide (0 ≤ cmpZ (U * (Q : Int)) (P * ((1 : Nat) : Int))) = true := cmp_ge (by omega)
  have z4 : decide (cmpZ (D * (Q : Int)) (P * ((1 : Nat) : Int)) ≤ 0) = true := cmp_le (by omega)
  generalize cmpZ (A1 * ((1 : Nat) : Int)) (1 * (B1 : Int)) = c1 at *
  generalize cmpZ (A2 * ((1 : Nat) : Int)) (1 * (B2 : Int)) = c2 at *
  generalize cmpZ (U * (Q : Int)) (P * ((1 : Nat) : Int)) = c3 at *
  generalize cmpZ (D * (Q : Int)) (P * ((1 : Nat) : Int)) = c4 at *
  clear key k1 k2 hA1 hB1 hA2 hB2 hU hD hUn hDn hU8 hD8 up64 p78 hP8 hQ8 one8
  obtain ⟨SI, hSI⟩ : ∃ z, sgnI P = z := ⟨_, rfl⟩
  rw [hSI] at SG dS
  generalize -P = NP at *
  generalize -D = ND at *
  unfold RatTold at MN1 MN2 PL1 PL2 FR
  have BB := Lib.hid ((Bag.start w).box3 (.bool b) (.string s) (.string t) 53)
  have AW := Lib.hid (fun wz => awake12_any wz)
  have q0 := BB.out.now.1.cell
  have q1 := BB.out.now.1.cell1
  have q2 := BB.out.now.1.cell2
  clear h h1 h2 h3 hQ hg d1 d2 g1 g2 hP hSI
  go_enter Tryz.func7, Tryz.ntmps7
  go_wp2_with fail
  go_at_call 23
  (with_reducible refine (RD.out _).mono ?_)
  rintro e w1 ⟨a3, n3, c3, m3, d3, i3, j3, rfl, hr1, hb1⟩
  have BB := Lib.hid (((BB.out.go hb1).rat hr1).box3 (.slice a3 n3 c3) (.bool m3) (.slice d3 i3 j3) 60)
  clear hb1 hr1 q0 q1 q2
  have q0 := BB.out.now.1.cell
  have q1 := BB.out.now.1.cell1
  have q2 := BB.out.now.1.cell2
  go_wp2_with fail
  go_at_call 25
  (with_reducible refine (O1.out _ _ _ _ _ _ _ _ BB.out.now.2.1).mono ?_)
  rintro e w5 ⟨a5, n5, c5, m5, d5, i5, j5, rfl, hr, hb⟩
  have BB := Lib.hid (((BB.out.go hb).rat hr).box3 (.slice a5 n5 c5) (.bool m5) (.slice d5 i5 j5) 60)
  clear hb hr q0 q1 q2
  have q0 := BB.out.now.1.cell
  have q1 := BB.out.now.1.cell1
  have q2 := BB.out.now.1.cell2
  go_wp2_with fail
  go_at_call 25
  (with_reducible refine (O2.out _ _ _ _ _ _ _ _ BB.out.now.2.1).mono ?_)
  rintro e w7 ⟨a7, n7, c7, m7, d7, i7, j7, rfl, hr, hb⟩
  have BB := Lib.hid (((BB.out.go hb).rat hr).box3 (.slice a7 n7 c7) (.bool m7) (.slice d7 i7 j7) 60)
  clear hb hr q0 q1 q2
  have q0 := BB.out.now.2.2.2.2.1.cell
  have q1 := BB.out.now.2.2.2.2.1.cell1
  have q2 := BB.out.now.2.2.2.2.1.cell2
  go_wp2_with fail
  go_at_call 25
  (with_reducible refine (O3.out _ _ _ _ _ _ _ _ BB.out.now.2.2.2.2.2.1).mono ?_)
  rintro e w9 ⟨a9, n9, c9, m9, d9, i9, j9, rfl, hr, hb⟩
  have BB := Lib.hid (((BB.out.go hb).rat hr).box3 (.slice a9 n9 c9) (.bool m9) (.slice d9 i9 j9) 60)
  clear hb hr q0 q1 q2
  have q0 := BB.out.now.1.cell
  have q1 := BB.out.now.1.cell1
  have q2 := BB.out.now.1.cell2
  go_wp2_with fail
  go_at_call 25
  (with_reducible refine (O4.out _ _ _ _ _ _ _ _ BB.out.now.2.1).mono ?_)
  rintro e w11 ⟨a11, n11, c11, m11, d11, i11, j11, rfl, hr, hb⟩
  have BB := Lib.hid (((BB.out.go hb).rat hr).box3 (.slice a11 n11 c11) (.bool m11) (.slice d11 i11 j11) 60)
  clear hb hr q0 q1 q2
  have q0 := BB.out.now.2.2.2.2.2.2.2.2.1.cell
  have q1 := BB.out.now.2.2.2.2.2.2.2.2.1.cell1
  have q2 := BB.out.now.2.2.2.2.2.2.2.2.1.cell2
  go_wp2_with fail
  go_at_call 25
  (with_reducible refine (O5.out _ _ _ _ _ _ _ _ BB.out.now.2.2.2.2.2.2.2.2.2.1).mono ?_)
  rintro e w13 ⟨a13, n13, c13, m13, d13, i13, j13, rfl, hr, hb⟩
  have BB := Lib.hid (((BB.out.go hb).rat hr).box3 (.slice a13 n13 c13) (.bool m13) (.slice d13 i13 j13) 60)
  clear hb hr q0 q1 q2
  have q0 := BB.out.now.2.2.2.2.2.2.2.2.2.2.1.cell
  have q1 := BB.out.now.2.2.2.2.2.2.2.2.2.2.1.cell1
  have q2 := BB.out.now.2.2.2.2.2.2.2.2.2.2.1.cell2
  go_wp2_with fail
  go_at_call 25
  (with_reducible refine (O6.out _ _ _ _ _ _ _ _ BB.out.now.2.2.2.2.2.2.2.2.2.2.2.1).mono ?_)
  rintro e w15 ⟨a15, n15, c15, m15, d15, i15, j15, rfl, hr, hb⟩
  have BB := Lib.hid (((BB.out.go hb).rat hr).box3 (.slice a15 n15 c15) (.bool m15) (.slice d15 i15 j15) 60)
  clear hb hr q0 q1 q2
  clear O1 O2 O3 O4 O5 O6
  go_wp2_with fail
  refine wp_region_inv ⟨(fun j => ([[55], [56], [57], [58], [59], [60], [61], [62], [63], [64], [65], [66], [67], [68], [69], [70], [71], [72], [73], [74], [75], [76], [77], [78], [79], [80], [81], [82], [83], [84], [85], [86], [87], [88], [89], [90], [91], [92], [93], [94], [95], [96]] : List (List Nat)).getD j []), (fun j => ([[], [0], [0, 1], [0, 1, 2], [0, 1, 2, 3], [0, 1, 2, 3, 4], [0, 1, 2, 3, 4, 5], [0, 1, 2, 3, 4, 5, 6], [0, 1, 2, 3, 4, 5, 6, 7], [0, 1, 2, 3, 4, 5, 6, 7, 8], [0, 1, 2, 3, 4, 5, 6, 7, 8, 9], [0, 1, 2, 3, 4, 5, 6, 7, 8, 9, 10], [0, 1, 2, 3, 4, 5, 6, 7, 8, 9, 10, 11], [0, 1, 2, 3, 4, 5, 6, 7, 8, 9, 10, 11, 12], [0, 1, 2, 3, 4, 5, 6, 7, 8, 9, 10, 11, 12, 13], [0, 1, 2, 3, 4, 5, 6, 7, 8, 9, 10, 11, 12, 13, 14], [0, 1, 2, 3, 4, 5, 6, 7, 8, 9, 10, 11, 12, 13, 14, 15], [0, 1, 2, 3, 4, 5, 6, 7, 8, 9, 10, 11, 12, 13, 14], [0, 1, 2, 3, 4, 5, 6, 7, 8, 9, 10, 11, 12, 13, 14, 15, 16, 17], [0, 1, 2, 3, 4, 5, 6, 7, 8, 9, 10, 11, 12, 13, 14, 15, 16, 17, 18], [0, 1, 2, 3, 4, 5, 6, 7, 8, 9, 10, 11, 12, 13, 14, 15, 16, 17, 18, 19], [0, 1, 2, 3, 4, 5, 6, 7, 8, 9, 10, 11, 12, 13, 14, 15, 16, 17, 18, 19, 20], [0, 1, 2, 3, 4, 5, 6, 7, 8, 9, 10, 11, 12, 13, 14, 15, 16, 17, 18, 19, 20, 21], [0, 1, 2, 3, 4, 5, 6, 7, 8, 9, 10, 11, 12, 13, 14, 15, 16, 17, 18, 19, 20], [0, 1, 2, 3, 4, 5, 6, 7, 8, 9, 10, 11, 12, 13, 14, 15, 16, 17, 18, 19, 20, 23], [0, 1, 2, 3, 4, 5, 6, 7, 8, 9, 10, 11, 12, 13, 14, 15, 16, 17, 18, 19, 20, 23, 24], [0, 1, 2, 3, 4, 5, 6, 7, 8, 9, 10, 11, 12, 13, 14, 15, 16, 17, 18, 19, 20, 21, 22, 23, 24, 25], [0, 1, 2, 3, 4, 5, 6, 7, 8, 9, 10, 11, 12, 13, 14, 15, 16, 17, 18, 19, 20, 21, 22, 23, 24, 25, 26], [0, 1, 2, 3, 4, 5, 6, 7, 8, 9, 10, 11, 12, 13, 14, 15, 16, 17, 18, 19, 20, 21, 22, 23, 24, 25, 26, 27], [0, 1, 2, 3, 4, 5, 6, 7, 8, 9, 10, 11, 12, 13, 14, 15, 16, 17, 18, 19, 20, 21, 22, 23, 24, 25, 26, 27, 28], [0, 1, 2, 3, 4, 5, 6, 7, 8, 9, 10, 11, 12, 13, 14, 15, 16, 17, 18, 19, 20, 21, 22, 23, 24, 25, 26, 27, 28, 29], [0, 1, 2, 3, 4, 5, 6, 7, 8, 9, 10, 11, 12, 13, 14, 15, 16, 17, 18, 19, 20, 21, 22, 23, 24, 25, 26, 27, 28, 29, 30], [0, 1, 2, 3, 4, 5, 6, 7, 8, 9, 10, 11, 12, 13, 14, 15, 16, 17, 18, 19, 20, 21, 22, 23, 24, 25, 26, 27, 28, 29, 30, 31], [0, 1, 2, 3, 4, 5, 6, 7, 8, 9, 10, 11, 12, 13, 14, 15, 16, 17, 18, 19, 20, 21, 22, 23, 24, 25, 26, 27, 28, 29, 30, 31, 32], [0, 1, 2, 3, 4, 5, 6, 7, 8, 9, 10, 11, 12, 13, 14, 15, 16, 17, 18, 19, 20, 21, 22, 23, 24, 25, 26, 27, 28, 29, 30, 31, 32, 33], [0, 1, 2, 3, 4, 5, 6, 7, 8, 9, 10, 11, 12, 13, 14, 15, 16, 17, 18, 19, 20, 21, 22, 23, 24, 25, 26, 27, 28, 29, 30, 31, 32, 33, 34], [0, 1, 2, 3, 4, 5, 6, 7, 8, 9, 10, 11, 12, 13, 14, 15, 16, 17, 18, 19, 20, 21, 22, 23, 24, 25, 26, 27, 28, 29, 30, 31, 32, 33, 34, 35], [0, 1, 2, 3, 4, 5, 6, 7, 8, 9, 10, 11, 12, 13, 14, 15, 16, 17, 18, 19, 20, 21, 22, 23, 24, 25, 26, 27, 28, 29, 30, 31, 32, 33, 34], [0, 1, 2, 3, 4, 5, 6, 7, 8, 9, 10, 11, 12, 13, 14, 15, 16, 17, 18, 19, 20, 21, 22, 23, 24, 25, 26, 27, 28, 29, 30, 31, 32, 33, 34, 35, 36, 37], [0, 1, 2, 3, 4, 5, 6, 7, 8, 9, 10, 11, 12, 13, 14, 15, 16, 17, 18, 19, 20, 21, 22, 23, 24, 25, 26, 27, 28, 29, 30, 31, 32, 33, 34, 35, 36, 37, 38], [0, 1, 2, 3, 4, 5, 6, 7, 8, 9, 10, 11, 12, 13, 14, 15, 16, 17, 18, 19, 20, 21, 22, 23, 24, 25, 26, 27, 28, 29, 30, 31, 32, 33, 34, 35, 36, 37, 38, 39], [0, 1, 2, 3, 4, 5, 6, 7, 8, 9, 10, 11, 12, 13, 14, 15, 16, 17, 18, 19, 20, 21, 22, 23, 24, 25, 26, 27, 28, 29, 30, 31, 32, 33, 34, 35, 36, 37, 38, 39, 40]] : List (List Nat)).getD j []), []⟩ (fun jj vv yy => match jj with | 0 => vv = [some (.int .i64 0)] | 1 => vv = [some (.bool false)] | 2 => vv = [some (.bool false)] | 3 => vv = [some (.int .i64 0)] | 4 => vv = [some (.bool false)] | 5 => vv = [some (.bool false)] | 6 => vv = [some (.bool false)] | 7 => vv = [some (.int .i64 0)] | 8 => vv = [some (.bool false)] | 9 => vv = [some (.bool false)] | 10 => vv = [some (.bool false)] | 11 => vv = [some (.int .i64 0)] | 12 => vv = [some (.bool false)] | 13 => vv = [some (.bool false)] | 14 => vv = [some (.bool false)] | 15 => vv = [some (.agg #[.slice a7 n7 c7, .bool m7, .slice d7 i7 j7])] | 16 => vv = [some (.agg #[.bool b, .string s, .string t])] | 17 => vv = [some (.agg #[.bool b, .string s, .string t])] | 18 => vv = [some (.bool false)] | 19 => vv = [some (.bool false)] | 20 => vv = [some (.bool false)] | 21 => vv = [some (.int .i64 22)] | 22 => vv = [some (.bool false)] | 23 => vv = [some (.agg #[.slice a3 n3 c3, .bool m3, .slice d3 i3 j3])] | 24 => vv = [some (.int .i64 SI)] | 25 => vv = [some (.bool false)] | 26 => vv = [some (.bool false)] | 27 => vv = [some (.bool false)] | 28 => vv = [some (.bool false)] | 29 => vv = [some (.int .i64 22)] | 30 => vv = [some (.bool false)] | 31 => vv = [some (.bool false)] | 32 => vv = [some undef] | 33 => vv = [some undef] | 34 => vv = [some undef] | 35 => vv = [some undef] | 36 => vv = [some undef] | 37 => vv = [some undef] | 38 => vv = [some undef] | 39 => vv = [some undef] | 40 => vv = [some (.bool false)] | 41 => vv = [some (.bool false)] | _ => True) (Bag w _) (by kernel_rfl) (by kernel_rfl) (by kernel_rfl) BB.out.drew ?_ ?_ ?_
  · intro jj vv yw yw2 hb h
    match jj, h with
    | 0, h => exact h
    | 1, h => exact h
    | 2, h => exact h
    | 3, h => exact h
    | 4, h => exact h
    | 5, h => exact h
    | 6, h => exact h
    | 7, h => exact h
    | 8, h => exact h
    | 9, h => exact h
    | 10, h => exact h
    | 11, h => exact h
    | 12, h => exact h
    | 13, h => exact h
    | 14, h => exact h
    | 15, h => exact h
    | 16, h => exact h
    | 17, h => exact h
    | 18, h => exact h
    | 19, h => exact h
    | 20, h => exact h
    | 21, h => exact h
    | 22, h => exact h
    | 23, h => exact h
    | 24, h => exact h
    | 25, h => exact h
    | 26, h => exact h
    | 27, h => exact h
    | 28, h => exact h
    | 29, h => exact h
    | 30, h => exact h
    | 31, h => exact h
    | 32, h => exact h
    | 33, h => exact h
    | 34, h => exact h
    | 35, h => exact h
    | 36, h => exact h
    | 37, h => exact h
    | 38, h => exact h
    | 39, h => exact h
    | 40, h => exact h
    | 41, h => exact h
    | _ + 42, h => exact h
  · intro ac yw hsz hdf hold hB hp
    have t96 : ac.tmps[96]? = some (.bool false) := (List.cons.inj (hp 41 (by decide))).1
    have t1 : ac.tmps[1]? = some (.pointer (some ⟨w.heap.size, 0, none⟩)) := hold 1 (by kernel_rfl)
    have t3 : ac.tmps[3]? = some (.pointer (some ⟨w1.heap.size, 0, none⟩)) := hold 3 (by kernel_rfl)
    have t13 : ac.tmps[13]? = some (.pointer (some ⟨w13.heap.size, 0, none⟩)) := hold 13 (by kernel_rfl)
    have t15 : ac.tmps[15]? = some (.pointer (some ⟨w15.heap.size, 0, none⟩)) := hold 15 (by kernel_rfl)
    clear hold hp
    obtain ⟨F, hF⟩ : ∃ F : Nat → Value, ∀ i, (ac.tmps[i]?).getD undef = F i := ⟨_, fun _ => rfl⟩
    have f1 := (hF 1).symm.trans (congrArg (fun x => Option.getD x undef) t1)
    have f3 := (hF 3).symm.trans (congrArg (fun x => Option.getD x undef) t3)
    have f13 := (hF 13).symm.trans (congrArg (fun x => Option.getD x undef) t13)
    have f15 := (hF 15).symm.trans (congrArg (fun x => Option.getD x undef) t15)
    have f96 := (hF 96).symm.trans (congrArg (fun x => Option.getD x undef) t96)
    have hac := act_eq (n := 130) hsz F hF
    rw [show ((List.range 130).map F).toArray = #[F 0, F 1, F 2, F 3, F 4, F 5, F 6, F 7, F 8, F 9, F 10, F 11, F 12, F 13, F 14, F 15, F 16, F 17, F 18, F 19, F 20, F 21, F 22, F 23, F 24, F 25, F 26, F 27, F 28, F 29, F 30, F 31, F 32, F 33, F 34, F 35, F 36, F 37, F 38, F 39, F 40, F 41, F 42, F 43, F 44, F 45, F 46, F 47, F 48, F 49, F 50, F 51, F 52, F 53, F 54, F 55, F 56, F 57, F 58, F 59, F 60, F 61, F 62, F 63, F 64, F 65, F 66, F 67, F 68, F 69, F 70, F 71, F 72, F 73, F 74, F 75, F 76, F 77, F 78, F 79, F 80, F 81, F 82, F 83, F 84, F 85, F 86, F 87, F 88, F 89, F 90, F 91, F 92, F 93, F 94, F 95, F 96, F 97, F 98, F 99, F 100, F 101, F 102, F 103, F 104, F 105, F 106, F 107, F 108, F 109, F 110, F 111, F 112, F 113, F 114, F 115, F 116, F 117, F 118, F 119, F 120, F 121, F 122, F 123, F 124, F 125, F 126, F 127, F 128, F 129] from rfl, f1, f3, f13, f15, f96, hdf] at hac
    simp only [Option.getD_some] at hac
    subst hac
    clear hF f1 f3 f13 f15 f96
    have BB := Lib.hid hB
    clear hB t1 t3 t13 t15 t96
    generalize hyw : yw = y9 at *
    clear hyw
    go_wp2_with fail
    have BB := Lib.hid BB.out.drew
    go_region_held3 (fun y => y.cell? ⟨w13.heap.size, 0, none⟩ = some (.slice a13 n13 c13) ∧ y.cell? ⟨w13.heap.size, 1, none⟩ = some (.bool m13) ∧ y.cell? ⟨w13.heap.size, 2, none⟩ = some (.slice d13 i13 j13) ∧ y.cell? ⟨w1.heap.size, 0, none⟩ = some (.slice a3 n3 c3) ∧ y.cell? ⟨w1.heap.size, 1, none⟩ = some (.bool m3) ∧ y.cell? ⟨w1.heap.size, 2, none⟩ = some (.slice d3 i3 j3) ∧ y.cell? ⟨w15.heap.size, 0, none⟩ = some (.slice a15 n15 c15) ∧ y.cell? ⟨w15.heap.size, 1, none⟩ = some (.bool m15) ∧ y.cell? ⟨w15.heap.size, 2, none⟩ = some (.slice d15 i15 j15))
      (first
        | (exact ⟨BB.out.now.2.2.1.cell, BB.out.now.2.2.1.cell1, BB.out.now.2.2.1.cell2, BB.out.now.2.2.2.2.2.2.2.2.2.2.2.2.1.cell, BB.out.now.2.2.2.2.2.2.2.2.2.2.2.2.1.cell1, BB.out.now.2.2.2.2.2.2.2.2.2.2.2.2.1.cell2, BB.out.now.1.cell, BB.out.now.1.cell1, BB.out.now.1.cell2⟩)
        | (exact (fun B9 : Bag w _ _ => ⟨B9.now.2.2.1.cell, B9.now.2.2.1.cell1, B9.now.2.2.1.cell2, B9.now.2.2.2.2.2.2.2.2.2.2.2.2.1.cell, B9.now.2.2.2.2.2.2.2.2.2.2.2.2.1.cell1, B9.now.2.2.2.2.2.2.2.2.2.2.2.2.1.cell2, B9.now.1.cell, B9.now.1.cell1, B9.now.1.cell2⟩) (BB.out.alloc _)))
      (first
        | (go_at_call 31; (with_reducible refine (MN1.out _ _ _ _ _ _ _ _ BB.out.now.2.2.2.2.2.2.2.2.2.2.2.2.2.1).mono ?_); rintro e w30 ⟨a30, n30, c30, m30, d30, i30, j30, rfl, hr30, hb30⟩; have BB := Lib.hid (BB.out.go hb30))
        | (go_at_call 30; (with_reducible refine (PL1.out _ _ _ _ _ _ _ _ _ ?_ ?_).mono ?_); exact (BB.out.alloc _).now.2.2.2.1; exact RatsAt.old1 (Below.refl _ _) rfl (hr30.below ((Below.refl _ _).alloc (Nat.le_refl _) _)); rintro e w31 ⟨a31, n31, c31, m31, d31, i31, j31, rfl, hr31, hb31⟩; have BB := Lib.hid ((BB.out.alloc _).go hb31))
        | (go_at_call 31; (with_reducible refine (MN2.out _ _ _ _ _ _ _ _ BB.out.now.2.1).mono ?_); rintro e w40 ⟨a40, n40, c40, m40, d40, i40, j40, rfl, hr40, hb40⟩; have BB := Lib.hid (BB.out.go hb40))
        | (go_at_call 30; (with_reducible refine (PL2.out _ _ _ _ _ _ _ _ _ ?_ ?_).mono ?_); exact (BB.out.alloc _).now.2.2.2.2.2.2.2.2.2.2.2.2.2.1; exact RatsAt.old1 (Below.refl _ _) rfl (hr40.below ((Below.refl _ _).alloc (Nat.le_refl _) _)); rintro e w41 ⟨a41, n41, c41, m41, d41, i41, j41, rfl, hr41, hb41⟩; have BB := Lib.hid ((BB.out.alloc _).go hb41))
        | (go_at_call 32; (with_reducible refine (C1.out _ _ _ _ _ _ _ _ _ _ _ _ _ _ _ hr31 hr32).mono ?_); rintro e w33 ⟨rfl, hb33⟩; have BB := Lib.hid (BB.out.go hb33))
        | (go_at_call 32; (with_reducible refine (C2.out _ _ _ _ _ _ _ _ _ _ _ _ _ _ _ hr41 hr42).mono ?_); rintro e w43 ⟨rfl, hb43⟩; have BB := Lib.hid (BB.out.go hb43))
        | (go_at_call 33; (with_reducible refine (FR.out _).mono ?_); rintro e w42 ⟨a42, n42, c42, m42, d42, i42, j42, rfl, hr42, hb42⟩; have BB := Lib.hid (BB.out.go hb42); have hr41 := hr41.below hb42)
        | (go_at_call 33; (with_reducible refine (FR.out _).mono ?_); rintro e w32 ⟨a32, n32, c32, m32, d32, i32, j32, rfl, hr32, hb32⟩; have BB := Lib.hid (BB.out.go hb32); have hr31 := hr31.below hb32)
        | (go_at_call 32; (with_reducible refine (C3.out _ _ _ _ _ _ _ _ _ _ _ _ _ _ _ BB.out.now.2.2.2.1 BB.out.now.2.2.2.2.2.2.2.2.2.2.2.2.2.1).mono ?_); rintro e w44 ⟨rfl, hb44⟩; have BB := Lib.hid (BB.out.go hb44))
        | (go_at_call 32; (with_reducible refine (C4.out _ _ _ _ _ _ _ _ _ _ _ _ _ _ _ BB.out.now.2.1 BB.out.now.2.2.2.2.2.2.2.2.2.2.2.2.2.1).mono ?_); rintro e w45 ⟨rfl, hb45⟩; have BB := Lib.hid (BB.out.go hb45))
        | (go_at_call 24; (with_reducible refine (AW.out _).mono ?_); rintro e w46 ⟨rfl, hb46⟩; have BB := Lib.hid (BB.out.go hb46)))
    go_wp2
    go_ret
    exact ⟨rfl, BB.out.below⟩
  refine Stps.cons (o := _) ?_ ?_
  · intro ac yw hsz hold hB hp K hK
    have t6 : ac.tmps[6]? = some (.int .i64 0) := hold 6 (by kernel_rfl)
    clear hold hp hsz
    go_simp
    exact hK.out _ _ ⟨hB, rfl, Nat.le_refl _, .inl (Below.refl _ _), fun h => absurd h (by decide)⟩
  refine Stps.cons (o := _) ?_ ?_
  · intro ac yw hsz hold hB hp K hK
    have e0 := hp 0 (by decide)
    have t55 : ac.tmps[55]? = some (.int .i64 0) := (List.cons.inj e0).1
    clear hold hp hsz e0
    go_simp
    exact hK.out _ _ ⟨hB, rfl, Nat.le_refl _, .inl (Below.refl _ _), fun h => absurd h (by decide)⟩
  refine Stps.cons (o := _) ?_ ?_
  · intro ac yw hsz hold hB hp K hK
    have e1 := hp 1 (by decide)
    have t56 : ac.tmps[56]? = some (.bool false) := (List.cons.inj e1).1
    clear hold hp hsz e1
    go_simp
    exact hK.out _ _ ⟨hB, rfl, Nat.le_refl _, .inl (Below.refl _ _), fun h => absurd h (by decide)⟩
  refine Stps.cons (o := _) ?_ ?_
  · intro ac yw hsz hold hB hp K hK
    have t57 : ac.tmps[57]? = some (.bool false) := (List.cons.inj (hp 2 (by decide))).1
    rw [if_pos (wanted_pos rfl rfl t57)]
    have t8 : ac.tmps[8]? = some (.int .i64 0) := hold 8 (by kernel_rfl)
    clear hold hp hsz
    go_simp
    exact hK.out _ _ ⟨hB, rfl, Nat.le_refl _, .inl (Below.refl _ _), fun h => absurd h (by decide)⟩
  refine Stps.cons (o := _) ?_ ?_
  · intro ac yw hsz hold hB hp K hK
    have t57 : ac.tmps[57]? = some (.bool false) := (List.cons.inj (hp 2 (by decide))).1
    rw [if_pos (wanted_pos rfl rfl t57)]
    have e3 := hp 3 (by decide)
    have t58 : ac.tmps[58]? = some (.int .i64 0) := (List.cons.inj e3).1
    clear hold hp hsz e3
    go_simp
    exact hK.out _ _ ⟨hB, rfl, Nat.le_refl _, .inl (Below.refl _ _), fun h => absurd h (by decide)⟩
  refine Stps.cons (o := _) ?_ ?_
  · intro ac yw hsz hold hB hp K hK
    have e2 := hp 2 (by decide)
    have t57 : ac.tmps[57]? = some (.bool false) := (List.cons.inj e2).1
    have e4 := hp 4 (by decide)
    have t59 : ac.tmps[59]? = some (.bool false) := (List.cons.inj e4).1
    clear hold hp hsz e2 e4
    go_simp
    exact hK.out _ _ ⟨hB, rfl, Nat.le_refl _, .inl (Below.refl _ _), fun h => absurd h (by decide)⟩
  refine Stps.cons (o := _) ?_ ?_
  · intro ac yw hsz hold hB hp K hK
    have e5 := hp 5 (by decide)
    have t60 : ac.tmps[60]? = some (.bool false) := (List.cons.inj e5).1
    clear hold hp hsz e5
    go_simp
    exact hK.out _ _ ⟨hB, rfl, Nat.le_refl _, .inl (Below.refl _ _), fun h => absurd h (by decide)⟩
  refine Stps.cons (o := _) ?_ ?_
  · intro ac yw hsz hold hB hp K hK
    have t61 : ac.tmps[61]? = some (.bool false) := (List.cons.inj (hp 6 (by decide))).1
    rw [if_pos (wanted_pos rfl rfl t61)]
    have t14 : ac.tmps[14]? = some (.int .i64 0) := hold 14 (by kernel_rfl)
    clear hold hp hsz
    go_simp
    exact hK.out _ _ ⟨hB, rfl, Nat.le_refl _, .inl (Below.refl _ _), fun h => absurd h (by decide)⟩
  refine Stps.cons (o := _) ?_ ?_
  · intro ac yw hsz hold hB hp K hK
    have t61 : ac.tmps[61]? = some (.bool false) := (List.cons.inj (hp 6 (by decide))).1
    rw [if_pos (wanted_pos rfl rfl t61)]
    have e7 := hp 7 (by decide)
    have t62 : ac.tmps[62]? = some (.int .i64 0) := (List.cons.inj e7).1
    clear hold hp hsz e7
    go_simp
    exact hK.out _ _ ⟨hB, rfl, Nat.le_refl _, .inl (Below.refl _ _), fun h => absurd h (by decide)⟩
  refine Stps.cons (o := _) ?_ ?_
  · intro ac yw hsz hold hB hp K hK
    have e6 := hp 6 (by decide)
    have t61 : ac.tmps[61]? = some (.bool false) := (List.cons.inj e6).1
    have e8 := hp 8 (by decide)
    have t63 : ac.tmps[63]? = some (.bool false) := (List.cons.inj e8).1
    clear hold hp hsz e6 e8
    go_simp
    exact hK.out _ _ ⟨hB, rfl, Nat.le_refl _, .inl (Below.refl _ _), fun h => absurd h (by decide)⟩
  refine Stps.cons (o := _) ?_ ?_
  · intro ac yw hsz hold hB hp K hK
    have e9 := hp 9 (by decide)
    have t64 : ac.tmps[64]? = some (.bool false) := (List.cons.inj e9).1
    clear hold hp hsz e9
    go_simp
    exact hK.out _ _ ⟨hB, rfl, Nat.le_refl _, .inl (Below.refl _ _), fun h => absurd h (by decide)⟩
  refine Stps.cons (o := _) ?_ ?_
  · intro ac yw hsz hold hB hp K hK
    have t65 : ac.tmps[65]? = some (.bool false) := (List.cons.inj (hp 10 (by decide))).1
    rw [if_pos (wanted_pos rfl rfl t65)]
    have t16 : ac.tmps[16]? = some (.int .i64 0) := hold 16 (by kernel_rfl)
    clear hold hp hsz
    go_simp
    exact hK.out _ _ ⟨hB, rfl, Nat.le_refl _, .inl (Below.refl _ _), fun h => absurd h (by decide)⟩
  refine Stps.cons (o := _) ?_ ?_
  · intro ac yw hsz hold hB hp K hK
    have t65 : ac.tmps[65]? = some (.bool false) := (List.cons.inj (hp 10 (by decide))).1
    rw [if_pos (wanted_pos rfl rfl t65)]
    have e11 := hp 11 (by decide)
    have t66 : ac.tmps[66]? = some (.int .i64 0) := (List.cons.inj e11).1
    clear hold hp hsz e11
    go_simp
    exact hK.out _ _ ⟨hB, rfl, Nat.le_refl _, .inl (Below.refl _ _), fun h => absurd h (by decide)⟩
  refine Stps.cons (o := _) ?_ ?_
  · intro ac yw hsz hold hB hp K hK
    have e10 := hp 10 (by decide)
    have t65 : ac.tmps[65]? = some (.bool false) := (List.cons.inj e10).1
    have e12 := hp 12 (by decide)
    have t67 : ac.tmps[67]? = some (.bool false) := (List.cons.inj e12).1
    clear hold hp hsz e10 e12
    go_simp
    exact hK.out _ _ ⟨hB, rfl, Nat.le_refl _, .inl (Below.refl _ _), fun h => absurd h (by decide)⟩
  refine Stps.cons (o := _) ?_ ?_
  · intro ac yw hsz hold hB hp K hK
    have e13 := hp 13 (by decide)
    have t68 : ac.tmps[68]? = some (.bool false) := (List.cons.inj e13).1
    clear hold hp hsz e13
    go_simp
    exact hK.out _ _ ⟨hB, rfl, Nat.le_refl _, .inl (Below.refl _ _), fun h => absurd h (by decide)⟩
  refine Stps.cons (o := _) ?_ ?_
  · intro ac yw hsz hold hB hp K hK
    have t69 : ac.tmps[69]? = some (.bool false) := (List.cons.inj (hp 14 (by decide))).1
    rw [if_pos (wanted_pos rfl rfl t69)]
    have t7 : ac.tmps[7]? = some (.pointer (some ⟨w7.heap.size, 0, none⟩)) := hold 7 (by kernel_rfl)
    clear hold hp hsz
    have v0 := hB.now.2.2.2.2.2.2.2.2.1.cell
    have v1 := hB.now.2.2.2.2.2.2.2.2.1.cell1
    have v2 := hB.now.2.2.2.2.2.2.2.2.1.cell2
    have v3 := hB.now.2.2.2.2.2.2.2.2.2.2.2.2.2.2.1.cell
    have v4 := hB.now.2.2.2.2.2.2.2.2.2.2.2.2.2.2.1.cell1
    have v5 := hB.now.2.2.2.2.2.2.2.2.2.2.2.2.2.2.1.cell2
    have v6 := hB.now.2.2.2.2.2.2.2.2.2.2.2.2.1.cell
    have v7 := hB.now.2.2.2.2.2.2.2.2.2.2.2.2.1.cell1
    have v8 := hB.now.2.2.2.2.2.2.2.2.2.2.2.2.1.cell2
    go_simp
    exact hK.out _ _ ⟨hB, rfl, Nat.le_refl _, .inl (Below.refl _ _), fun h => absurd h (by decide)⟩
  refine Stps.cons (o := _) ?_ ?_
  · intro ac yw hsz hold hB hp K hK
    have t69 : ac.tmps[69]? = some (.bool false) := (List.cons.inj (hp 14 (by decide))).1
    rw [if_pos (wanted_pos rfl rfl t69)]
    have e15 := hp 15 (by decide)
    have t70 : ac.tmps[70]? = some (.agg #[.slice a7 n7 c7, .bool m7, .slice d7 i7 j7]) := (List.cons.inj e15).1
    clear hold hp hsz e15
    go_simp
    (go_at_call 22; (with_reducible refine (NM.out _ _ _ _ _ _ _ _ hB.now.2.2.2.2.2.2.2.2.2.1).mono ?_); rintro e wz ⟨rfl, hbz⟩)
    exact hK.out _ _ ⟨hB.go hbz, rfl, hbz.size, .inl hbz, fun h => absurd h (by decide)⟩
  refine Stps.cons (o := _) ?_ ?_
  · intro ac yw hsz hold hB hp K hK
    have t69 : ac.tmps[69]? = some (.bool false) := (List.cons.inj (hp 14 (by decide))).1
    rw [if_pos (wanted_pos rfl rfl t69)]
    have t1 : ac.tmps[1]? = some (.pointer (some ⟨w.heap.size, 0, none⟩)) := hold 1 (by kernel_rfl)
    clear hold hp hsz
    have v0 := hB.now.2.2.2.2.2.2.2.2.1.cell
    have v1 := hB.now.2.2.2.2.2.2.2.2.1.cell1
    have v2 := hB.now.2.2.2.2.2.2.2.2.1.cell2
    have v3 := hB.now.2.2.2.2.2.2.2.2.2.2.2.2.2.2.1.cell
    have v4 := hB.now.2.2.2.2.2.2.2.2.2.2.2.2.2.2.1.cell1
    have v5 := hB.now.2.2.2.2.2.2.2.2.2.2.2.2.2.2.1.cell2
    have v6 := hB.now.2.2.2.2.2.2.2.2.2.2.2.2.1.cell
    have v7 := hB.now.2.2.2.2.2.2.2.2.2.2.2.2.1.cell1
    have v8 := hB.now.2.2.2.2.2.2.2.2.2.2.2.2.1.cell2
    go_simp
    exact hK.out _ _ ⟨hB, rfl, Nat.le_refl _, .inl (Below.refl _ _), fun h => absurd h (by decide)⟩
  refine Stps.cons (o := _) ?_ ?_
  · intro ac yw hsz hold hB hp K hK
    have t69 : ac.tmps[69]? = some (.bool false) := (List.cons.inj (hp 14 (by decide))).1
    rw [if_pos (wanted_pos rfl rfl t69)]
    have e16 := hp 16 (by decide)
    have t71 : ac.tmps[71]? = some (.agg #[.bool b, .string s, .string t]) := (List.cons.inj e16).1
    have e17 := hp 17 (by decide)
    have t72 : ac.tmps[72]? = some (.agg #[.bool b, .string s, .string t]) := (List.cons.inj e17).1
    clear hold hp hsz e16 e17
    go_simp
    exact hK.out _ _ ⟨hB, rfl, Nat.le_refl _, .inl (Below.refl _ _), fun h => absurd h (by decide)⟩
  refine Stps.cons (o := _) ?_ ?_
  · intro ac yw hsz hold hB hp K hK
    have e14 := hp 14 (by decide)
    have t69 : ac.tmps[69]? = some (.bool false) := (List.cons.inj e14).1
    have e18 := hp 18 (by decide)
    have t73 : ac.tmps[73]? = some (.bool false) := (List.cons.inj e18).1
    clear hold hp hsz e14 e18
    go_simp
    exact hK.out _ _ ⟨hB, rfl, Nat.le_refl _, .inl (Below.refl _ _), fun h => absurd h (by decide)⟩
  refine Stps.cons (o := _) ?_ ?_
  · intro ac yw hsz hold hB hp K hK
    have e19 := hp 19 (by decide)
    have t74 : ac.tmps[74]? = some (.bool false) := (List.cons.inj e19).1
    clear hold hp hsz e19
    go_simp
    exact hK.out _ _ ⟨hB, rfl, Nat.le_refl _, .inl (Below.refl _ _), fun h => absurd h (by decide)⟩
  refine Stps.cons (o := _) ?_ ?_
  · intro ac yw hsz hold hB hp K hK
    have t75 : ac.tmps[75]? = some (.bool false) := (List.cons.inj (hp 20 (by decide))).1
    rw [if_pos (wanted_pos rfl rfl t75)]
    have t10 : ac.tmps[10]? = some (.int .i64 22) := hold 10 (by kernel_rfl)
    clear hold hp hsz
    go_simp
    exact hK.out _ _ ⟨hB, rfl, Nat.le_refl _, .inl (Below.refl _ _), fun h => absurd h (by decide)⟩
  refine Stps.cons (o := _) ?_ ?_
  · intro ac yw hsz hold hB hp K hK
    have t75 : ac.tmps[75]? = some (.bool false) := (List.cons.inj (hp 20 (by decide))).1
    rw [if_pos (wanted_pos rfl rfl t75)]
    have e21 := hp 21 (by decide)
    have t76 : ac.tmps[76]? = some (.int .i64 22) := (List.cons.inj e21).1
    clear hold hp hsz e21
    go_simp
    exact hK.out _ _ ⟨hB, rfl, Nat.le_refl _, .inl (Below.refl _ _), fun h => absurd h (by decide)⟩
  refine Stps.cons (o := _) ?_ ?_
  · intro ac yw hsz hold hB hp K hK
    have t75 : ac.tmps[75]? = some (.bool false) := (List.cons.inj (hp 20 (by decide))).1
    rw [if_pos (wanted_pos rfl rfl t75)]
    have t3 : ac.tmps[3]? = some (.pointer (some ⟨w1.heap.size, 0, none⟩)) := hold 3 (by kernel_rfl)
    clear hold hp hsz
    have v0 := hB.now.2.2.2.2.2.2.2.2.1.cell
    have v1 := hB.now.2.2.2.2.2.2.2.2.1.cell1
    have v2 := hB.now.2.2.2.2.2.2.2.2.1.cell2
    have v3 := hB.now.2.2.2.2.2.2.2.2.2.2.2.2.2.2.1.cell
    have v4 := hB.now.2.2.2.2.2.2.2.2.2.2.2.2.2.2.1.cell1
    have v5 := hB.now.2.2.2.2.2.2.2.2.2.2.2.2.2.2.1.cell2
    have v6 := hB.now.2.2.2.2.2.2.2.2.2.2.2.2.1.cell
    have v7 := hB.now.2.2.2.2.2.2.2.2.2.2.2.2.1.cell1
    have v8 := hB.now.2.2.2.2.2.2.2.2.2.2.2.2.1.cell2
    go_simp
    exact hK.out _ _ ⟨hB, rfl, Nat.le_refl _, .inl (Below.refl _ _), fun h => absurd h (by decide)⟩
  refine Stps.cons (o := _) ?_ ?_
  · intro ac yw hsz hold hB hp K hK
    have t75 : ac.tmps[75]? = some (.bool false) := (List.cons.inj (hp 20 (by decide))).1
    rw [if_pos (wanted_pos rfl rfl t75)]
    have e23 := hp 23 (by decide)
    have t78 : ac.tmps[78]? = some (.agg #[.slice a3 n3 c3, .bool m3, .slice d3 i3 j3]) := (List.cons.inj e23).1
    clear hold hp hsz e23
    go_simp
    (go_at_call 29; (with_reducible refine (SG.out _ _ _ _ _ _ _ _ hB.now.2.2.2.2.2.2.2.2.2.2.2.2.2.1).mono ?_); rintro e wz ⟨rfl, hbz⟩)
    exact hK.out _ _ ⟨hB.go hbz, rfl, hbz.size, .inl hbz, fun h => absurd h (by decide)⟩
  refine Stps.cons (o := _) ?_ ?_
  · intro ac yw hsz hold hB hp K hK
    have t75 : ac.tmps[75]? = some (.bool false) := (List.cons.inj (hp 20 (by decide))).1
    rw [if_pos (wanted_pos rfl rfl t75)]
    have e24 := hp 24 (by decide)
    have t79 : ac.tmps[79]? = some (.int .i64 SI) := (List.cons.inj e24).1
    clear hold hp hsz e24
    go_simp
    exact hK.out _ _ ⟨hB, rfl, Nat.le_refl _, .inl (Below.refl _ _), fun h => absurd h (by decide)⟩
  refine Stps.cons (o := _) ?_ ?_
  · intro ac yw hsz hold hB hp K hK
    have t75 : ac.tmps[75]? = some (.bool false) := (List.cons.inj (hp 20 (by decide))).1
    rw [if_pos (wanted_pos rfl rfl t75)]
    have e22 := hp 22 (by decide)
    have t77 : ac.tmps[77]? = some (.bool false) := (List.cons.inj e22).1
    have e25 := hp 25 (by decide)
    have t80 : ac.tmps[80]? = some (.bool false) := (List.cons.inj e25).1
    clear hold hp hsz e22 e25
    go_simp
    exact hK.out _ _ ⟨hB, rfl, Nat.le_refl _, .inl (Below.refl _ _), fun h => absurd h (by decide)⟩
  refine Stps.cons (o := _) ?_ ?_
  · intro ac yw hsz hold hB hp K hK
    have e20 := hp 20 (by decide)
    have t75 : ac.tmps[75]? = some (.bool false) := (List.cons.inj e20).1
    have e26 := hp 26 (by decide)
    have t81 : ac.tmps[81]? = some (.bool false) := (List.cons.inj e26).1
    clear hold hp hsz e20 e26
    go_simp
    exact hK.out _ _ ⟨hB, rfl, Nat.le_refl _, .inl (Below.refl _ _), fun h => absurd h (by decide)⟩
  refine Stps.cons (o := _) ?_ ?_
  · intro ac yw hsz hold hB hp K hK
    have e27 := hp 27 (by decide)
    have t82 : ac.tmps[82]? = some (.bool false) := (List.cons.inj e27).1
    clear hold hp hsz e27
    go_simp
    exact hK.out _ _ ⟨hB, rfl, Nat.le_refl _, .inl (Below.refl _ _), fun h => absurd h (by decide)⟩
  refine Stps.cons (o := _) ?_ ?_
  · intro ac yw hsz hold hB hp K hK
    have t83 : ac.tmps[83]? = some (.bool false) := (List.cons.inj (hp 28 (by decide))).1
    rw [if_pos (wanted_pos rfl rfl t83)]
    have t10 : ac.tmps[10]? = some (.int .i64 22) := hold 10 (by kernel_rfl)
    clear hold hp hsz
    go_simp
    exact hK.out _ _ ⟨hB, rfl, Nat.le_refl _, .inl (Below.refl _ _), fun h => absurd h (by decide)⟩
  refine Stps.cons (o := _) ?_ ?_
  · intro ac yw hsz hold hB hp K hK
    have t83 : ac.tmps[83]? = some (.bool false) := (List.cons.inj (hp 28 (by decide))).1
    rw [if_pos (wanted_pos rfl rfl t83)]
    have e29 := hp 29 (by decide)
    have t84 : ac.tmps[84]? = some (.int .i64 22) := (List.cons.inj e29).1
    clear hold hp hsz e29
    go_simp
    exact hK.out _ _ ⟨hB, rfl, Nat.le_refl _, .inl (Below.refl _ _), fun h => absurd h (by decide)⟩
  refine Stps.cons (o := _) ?_ ?_
  · intro ac yw hsz hold hB hp K hK
    have t83 : ac.tmps[83]? = some (.bool false) := (List.cons.inj (hp 28 (by decide))).1
    rw [if_pos (wanted_pos rfl rfl t83)]
    have e30 := hp 30 (by decide)
    have t85 : ac.tmps[85]? = some (.bool false) := (List.cons.inj e30).1
    clear hold hp hsz e30
    go_simp
    exact hK.out _ _ ⟨hB, rfl, Nat.le_refl _, .inl (Below.refl _ _), fun h => absurd h (by decide)⟩
  refine Stps.cons (o := _) ?_ ?_
  · intro ac yw hsz hold hB hp K hK
    have t86 : ac.tmps[86]? = some (.bool false) := (List.cons.inj (hp 31 (by decide))).1
    rw [if_neg (by rw [wanted_neg rfl rfl t86 (fun e => by cases e)]; decide)]
    exact hK.out _ _ ⟨hB, rfl, Nat.le_refl _, .inl (Below.refl _ _), fun h => absurd h (by decide)⟩
  refine Stps.cons (o := _) ?_ ?_
  · intro ac yw hsz hold hB hp K hK
    have t86 : ac.tmps[86]? = some (.bool false) := (List.cons.inj (hp 31 (by decide))).1
    rw [if_neg (by rw [wanted_neg rfl rfl t86 (fun e => by cases e)]; decide)]
    exact hK.out _ _ ⟨hB, rfl, Nat.le_refl _, .inl (Below.refl _ _), fun h => absurd h (by decide)⟩
  refine Stps.cons (o := _) ?_ ?_
  · intro ac yw hsz hold hB hp K hK
    have t86 : ac.tmps[86]? = some (.bool false) := (List.cons.inj (hp 31 (by decide))).1
    rw [if_neg (by rw [wanted_neg rfl rfl t86 (fun e => by cases e)]; decide)]
    exact hK.out _ _ ⟨hB, rfl, Nat.le_refl _, .inl (Below.refl _ _), fun h => absurd h (by decide)⟩
  refine Stps.cons (o := _) ?_ ?_
  · intro ac yw hsz hold hB hp K hK
    have t89 : ac.tmps[89]? = some (undef) := (List.cons.inj (hp 34 (by decide))).1
    rw [if_neg (by rw [wanted_neg rfl rfl t89 (fun e => by cases e)]; decide)]
    exact hK.out _ _ ⟨hB, rfl, Nat.le_refl _, .inl (Below.refl _ _), fun h => absurd h (by decide)⟩
  refine Stps.cons (o := _) ?_ ?_
  · intro ac yw hsz hold hB hp K hK
    have t89 : ac.tmps[89]? = some (undef) := (List.cons.inj (hp 34 (by decide))).1
    rw [if_neg (by rw [wanted_neg rfl rfl t89 (fun e => by cases e)]; decide)]
    exact hK.out _ _ ⟨hB, rfl, Nat.le_refl _, .inl (Below.refl _ _), fun h => absurd h (by decide)⟩
  refine Stps.cons (o := _) ?_ ?_
  · intro ac yw hsz hold hB hp K hK
    have t89 : ac.tmps[89]? = some (undef) := (List.cons.inj (hp 34 (by decide))).1
    rw [if_neg (by rw [wanted_neg rfl rfl t89 (fun e => by cases e)]; decide)]
    exact hK.out _ _ ⟨hB, rfl, Nat.le_refl _, .inl (Below.refl _ _), fun h => absurd h (by decide)⟩
  refine Stps.cons (o := _) ?_ ?_
  · intro ac yw hsz hold hB hp K hK
    have t89 : ac.tmps[89]? = some (undef) := (List.cons.inj (hp 34 (by decide))).1
    rw [if_neg (by rw [wanted_neg rfl rfl t89 (fun e => by cases e)]; decide)]
    exact hK.out _ _ ⟨hB, rfl, Nat.le_refl _, .inl (Below.refl _ _), fun h => absurd h (by decide)⟩
  refine Stps.cons (o := _) ?_ ?_
  · intro ac yw hsz hold hB hp K hK
    have t86 : ac.tmps[86]? = some (.bool false) := (List.cons.inj (hp 31 (by decide))).1
    rw [if_neg (by rw [wanted_neg rfl rfl t86 (fun e => by cases e)]; decide)]
    exact hK.out _ _ ⟨hB, rfl, Nat.le_refl _, .inl (Below.refl _ _), fun h => absurd h (by decide)⟩
  refine Stps.cons (o := _) ?_ ?_
  · intro ac yw hsz hold hB hp K hK
    have t83 : ac.tmps[83]? = some (.bool false) := (List.cons.inj (hp 28 (by decide))).1
    rw [if_pos (wanted_pos rfl rfl t83)]
    have e31 := hp 31 (by decide)
    have t86 : ac.tmps[86]? = some (.bool false) := (List.cons.inj e31).1
    clear hold hp hsz e31
    go_simp
    exact hK.out _ _ ⟨hB, rfl, Nat.le_refl _, .inl (Below.refl _ _), fun h => absurd h (by decide)⟩
  refine Stps.cons (o := _) ?_ ?_
  · intro ac yw hsz hold hB hp K hK
    have e28 := hp 28 (by decide)
    have t83 : ac.tmps[83]? = some (.bool false) := (List.cons.inj e28).1
    have e40 := hp 40 (by decide)
    have t95 : ac.tmps[95]? = some (.bool false) := (List.cons.inj e40).1
    clear hold hp hsz e28 e40
    go_simp
    exact hK.out _ _ ⟨hB, rfl, Nat.le_refl _, .inl (Below.refl _ _), fun h => absurd h (by decide)⟩
  exact Stps.nil _

set_option maxHeartbeats 6400000 in
set_option maxRecDepth 100000 in
theorem monoBack_yes (b : Bool) (s t : ByteArray) (w : World) (h : rd12 b s t = true) (hP : ¬ ofP b s t = 0) :
    Calls Tryz.prog 7 #[.agg #[.bool b, .string s, .string t]] w fun e w' => e = .returned (.bool true) ∧ Below w.heap.size w w' := by
  obtain ⟨h1, h2, h3, hQ, hg, d1, d2, g1, g2⟩ := rd12_spec h
  have RD := Lib.hid (fun wz => read12_yes b s t wz h)
  unfold RatTold3 at RD
  generalize ofP b s t = P at *
  generalize ofQ b s t = Q at *
  have up64 : ∀ {N : Nat}, N < 4294967296 ^ 8 → N < 4294967296 ^ 64 := fun h => Nat.lt_of_lt_of_le h (Nat.pow_le_pow_right (by omega) (by omega))
  have p78 : (4294967296 : Nat) ^ 7 + 1 ≤ 4294967296 ^ 8 := by decide
  have hP8 : P.natAbs < 4294967296 ^ 8 := by omega
  have hQ8 : Q < 4294967296 ^ 8 := by omega
  have one8 : (1 : Nat) < 4294967296 ^ 8 := by decide
  obtain ⟨U, hU⟩ : ∃ z, -(flQ (-P) Q) = z := ⟨_, rfl⟩
  obtain ⟨D, hD⟩ : ∃ z, flQ P Q = z := ⟨_, rfl⟩
  have hUn := ceil_near P hQ
  have hDn := floor_near P hQ
  rw [hU] at hUn
  rw [hD] at hDn
  have hU8 : U.natAbs < 4294967296 ^ 8 := by
    have := flQ_abs (-P) Q
    rw [Int.natAbs_neg] at this
    rw [← hU, Int.natAbs_neg]
    omega
  have hD8 : D.natAbs < 4294967296 ^ 8 := by
    have := flQ_abs P Q
    rw [← hD]
    omega
  have M1 := mone64 (c := 45) (P := P) (Q := Q) (A := -P) (B := Q) (by decide) (by decide) (by unfold aN; simp) rfl rfl (by rw [Int.natAbs_neg]; exact up64 hP8) (up64 hQ8)
  have M2 := mone64 (c := 45) (P := -P) (Q := Q) (A := P) (B := Q) (by decide) (by decide) (by unfold aN; simp) (show -(-P) = P by omega) rfl (up64 hP8) (up64 hQ8)
  have M5 := mone64 (c := 8968) (P := P) (Q := Q) (A := U) (B := 1) (by decide) (by decide) (by unfold aN; simp) hU rfl (up64 hU8) (up64 one8)
  have M6 := mone64 (c := 8970) (P := P) (Q := Q) (A := D) (B := 1) (by decide) (by decide) (by unfold aN; simp) hD rfl (up64 hD8) (up64 one8)
  have O1 := Lib.hid (fun a n c m a2 n2 c2 wz q => mone_any 45 a n c m a2 n2 c2 P Q 64 wz q hQ hg 8 (by omega) hP8 hQ8 (by omega))
  have O2 := Lib.hid (fun a n c m a2 n2 c2 wz q => mone_any 45 a n c m a2 n2 c2 (-P) Q 64 wz q hQ (by rw [Int.natAbs_neg]; exact hg) 8 (by omega) (by rw [Int.natAbs_neg]; exact hP8) hQ8 (by omega))
  have O5 := Lib.hid (fun a n c m a2 n2 c2 wz q => mone_any 8968 a n c m a2 n2 c2 P Q 64 wz q hQ hg 8 (by omega) hP8 hQ8 (by omega))
  have O6 := Lib.hid (fun a n c m a2 n2 c2 wz q => mone_any 8970 a n c m a2 n2 c2 P Q 64 wz q hQ hg 8 (by omega) hP8 hQ8 (by omega))
  rw [M1.1, M1.2.1, M1.2.2] at O1
  rw [M2.1, M2.2.1, M2.2.2] at O2
  rw [M5.1, M5.2.1, M5.2.2] at O5
  rw [M6.1, M6.2.1, M6.2.2] at O6
  have O3 := Lib.hid (fun a n c m a2 n2 c2 wz q => mone_any 247 a n c m a2 n2 c2 P Q 64 wz q hQ hg 8 (by omega) hP8 hQ8 (by omega))
  have hUa : (upZ Q P).natAbs = Q := by rw [upZ_abs, Int.natAbs_natCast]
  have M3 := mone64 (c := 247) (P := P) (Q := Q) (A := upZ Q P) (B := P.natAbs) (by decide) (by decide) (by unfold aN; simp [hP]) rfl rfl (by rw [hUa]; exact up64 hQ8) (up64 hP8)
  have M4 := mone64 (c := 247) (P := upZ Q P) (Q := P.natAbs) (A := P) (B := Q) (by decide) (by decide) (by unfold aN; simp; omega) (show (if upZ Q P < 0 then -((P.natAbs : Nat) : Int) else ((P.natAbs : Nat) : Int)) = P by
    unfold upZ
    by_cases hn : P < 0
    · rw [if_pos hn, if_pos (by omega)]; omega
    · rw [if_neg hn, if_neg (by omega)]; omega) hUa (up64 hP8) (up64 hQ8)
  have O4 := Lib.hid (fun a n c m a2 n2 c2 wz q => mone_any 247 a n c m a2 n2 c2 (upZ Q P) P.natAbs 64 wz q (by omega) (by rw [hUa, Nat.gcd_comm]; exact hg) 8 (by omega) (by rw [hUa]; exact hQ8) hP8 (by omega))
  have dS : (sgnI P != 0) = true := by
    rw [bne_iff_ne]
    unfold sgnI
    by_cases hn : P < 0
    · rw [if_pos hn]; decide
    · rw [if_neg hn, if_neg hP]; decide
  clear hUa
  rw [M3.1, M3.2.1, M3.2.2] at O3
  rw [M4.1, M4.2.1, M4.2.2] at O4
  unfold RatTold4 at O1 O2 O3 O4 O5 O6
  clear M1 M2 M3 M4 M5 M6
  have NM := Lib.hid (fun a n c m a2 n2 c2 wz q => num_any a n c m a2 n2 c2 P Q wz q hQ 8 (by omega) hP8 hQ8)
  unfold NumTold at NM
  rw [h1, h2, h3] at NM
  have SG := Lib.hid (fun a n c m a2 n2 c2 wz q => ratSign_any a n c m a2 n2 c2 P Q wz q)
  have MN1 := Lib.hid (fun a n c m a2 n2 c2 wz q => ratMinus_any a n c m a2 n2 c2 P Q wz q)
  have MN2 := Lib.hid (fun a n c m a2 n2 c2 wz q => ratMinus_any a n c m a2 n2 c2 D 1 wz q)
  have PL1 := Lib.hid (fun a n c m a2 n2 c2 sa wz h g => ratPlus1_any a n c m a2 n2 c2 U 1 sa (-P) Q wz h g (by omega) hQ 8 (by omega) hU8 one8 (by rw [Int.natAbs_neg]; exact hP8) hQ8)
  have PL2 := Lib.hid (fun a n c m a2 n2 c2 sa wz h g => ratPlus1_any a n c m a2 n2 c2 P Q sa (-D) 1 wz h g hQ (by omega) 8 (by omega) hP8 hQ8 (by rw [Int.natAbs_neg]; exact hD8) one8)
  obtain ⟨A1, hA1⟩ : ∃ z, plP U 1 (-P) Q = z := ⟨_, rfl⟩
  obtain ⟨B1, hB1⟩ : ∃ z, plQ U 1 (-P) Q = z := ⟨_, rfl⟩
  obtain ⟨A2, hA2⟩ : ∃ z, plP P Q (-D) 1 = z := ⟨_, rfl⟩
  obtain ⟨B2, hB2⟩ : ∃ z, plQ P Q (-D) 1 = z := ⟨_, rfl⟩
  rw [hA1, hB1] at PL1
  rw [hA2, hB2] at PL2
  have key : ∀ {Z : Int} {Y : Nat}, 0 ≤ Z → Z < Q → Y = Q → loP Z Y < loQ Z Y ∧ (loP Z Y).natAbs < 4294967296 ^ 8 ∧ 0 < loQ Z Y ∧ loQ Z Y < 4294967296 ^ 8 := fun {Z Y} z0 z1 hY => by
    subst hY
    have e1 := loP_absle Z Y
    have e2 := loQ_le Z Y
    exact ⟨lo_less hQ z1, by omega, loQ_pos Z hQ, by omega⟩
  have k1 : A1 < B1 ∧ A1.natAbs < 4294967296 ^ 8 ∧ 0 < B1 ∧ B1 < 4294967296 ^ 8 := by
    rw [← hA1, ← hB1]
    exact key (Z := U * (Q : Int) + -P * ((1 : Nat) : Int)) (by omega) (by omega) (Nat.one_mul Q)
  have k2 : A2 < B2 ∧ A2.natAbs < 4294967296 ^ 8 ∧ 0 < B2 ∧ B2 < 4294967296 ^ 8 := by
    rw [← hA2, ← hB2]
    exact key (Z := P * ((1 : Nat) : Int) + -D * (Q : Int)) (by rw [Int.neg_mul]; omega) (by rw [Int.neg_mul]; omega) (Nat.mul_one Q)
  have FR := Lib.hid (fun wz => ratFrom_any 1 wz (by omega))
  have C1 := Lib.hid (fun a n c m a2 n2 c2 b k l v b2 k2' l2 wz h g => ratCmp_any a n c m a2 n2 c2 A1 B1 b k l v b2 k2' l2 1 1 wz h g k1.2.2.1 (by omega) 8 (by omega) k1.2.1 k1.2.2.2 one8 one8)
  have C2 := Lib.hid (fun a n c m a2 n2 c2 b k l v b2 k2' l2 wz h g => ratCmp_any a n c m a2 n2 c2 A2 B2 b k l v b2 k2' l2 1 1 wz h g k2.2.2.1 (by omega) 8 (by omega) k2.2.1 k2.2.2.2 one8 one8)
  have C3 := Lib.hid (fun a n c m a2 n2 c2 b k l v b2 k2' l2 wz h g => ratCmp_any a n c m a2 n2 c2 U 1 b k l v b2 k2' l2 P Q wz h g (by omega) hQ 8 (by omega) hU8 one8 hP8 hQ8)
  have C4 := Lib.hid (fun a n c m a2 n2 c2 b k l v b2 k2' l2 wz h g => ratCmp_any a n c m a2 n2 c2 D 1 b k l v b2 k2' l2 P Q wz h g (by omega) hQ 8 (by omega) hD8 one8 hP8 hQ8)
  have z1 : decide (cmpZ (A1 * ((1 : Nat) : Int)) (1 * (B1 : Int)) < 0) = true := cmp_lt (by omega)
  have z2 : decide (cmpZ (A2 * ((1 : Nat) : Int)) (1 * (B2 : Int)) < 0) = true := cmp_lt (by omega)
  have z3 : decide (0 ≤ cmpZ (U * (Q : Int)) (P * ((1 : Nat) : Int))) = true := cmp_ge (by omega)
  have z4 : decide (cmpZ (D * (Q : Int)) (P * ((1 : Nat) : Int)) ≤ 0) = true := cmp_le (by omega)
  generalize cmpZ (A1 * ((1 : Nat) : Int)) (1 * (B1 : Int)) = c1 at *
  generalize cmpZ (A2 * ((1 : Nat) : Int)) (1 * (B2 : Int)) = c2 at *
  generalize cmpZ (U * (Q : Int)) (P * ((1 : Nat) : Int)) = c3 at *
  generalize cmpZ (D * (Q : Int)) (P * ((1 : Nat) : Int)) = c4 at *
  clear key k1 k2 hA1 hB1 hA2 hB2 hU hD hUn hDn hU8 hD8 up64 p78 hP8 hQ8 one8
  obtain ⟨SI, hSI⟩ : ∃ z, sgnI P = z := ⟨_, rfl⟩
  rw [hSI] at SG dS
  generalize -P = NP at *
  generalize -D = ND at *
  unfold RatTold at MN1 MN2 PL1 PL2 FR
  generalize upZ Q P = UZ at *
  generalize hPN : P.natAbs = PN at O3 O4
  clear hPN
  have BB := Lib.hid ((Bag.start w).box3 (.bool b) (.string s) (.string t) 53)
  have AW := Lib.hid (fun wz => awake12_any wz)
  have q0 := BB.out.now.1.cell
  have q1 := BB.out.now.1.cell1
  have q2 := BB.out.now.1.cell2
  clear h h1 h2 h3 hQ hg d1 d2 g1 g2 hP hSI
  go_enter Tryz.func7, Tryz.ntmps7
  go_wp2_with fail
  go_at_call 23
  (with_reducible refine (RD.out _).mono ?_)
  rintro e w1 ⟨a3, n3, c3, m3, d3, i3, j3, rfl, hr1, hb1⟩
  have BB := Lib.hid (((BB.out.go hb1).rat hr1).box3 (.slice a3 n3 c3) (.bool m3) (.slice d3 i3 j3) 60)
  clear hb1 hr1 q0 q1 q2
  have q0 := BB.out.now.1.cell
  have q1 := BB.out.now.1.cell1
  have q2 := BB.out.now.1.cell2
  go_wp2_with fail
  go_at_call 25
  (with_reducible refine (O1.out _ _ _ _ _ _ _ _ BB.out.now.2.1).mono ?_)
  rintro e w5 ⟨a5, n5, c5, m5, d5, i5, j5, rfl, hr, hb⟩
  have BB := Lib.hid (((BB.out.go hb).rat hr).box3 (.slice a5 n5 c5) (.bool m5) (.slice d5 i5 j5) 60)
  clear hb hr q0 q1 q2
  have q0 := BB.out.now.1.cell
  have q1 := BB.out.now.1.cell1
  have q2 := BB.out.now.1.cell2
  go_wp2_with fail
  go_at_call 25
  (with_reducible refine (O2.out _ _ _ _ _ _ _ _ BB.out.now.2.1).mono ?_)
  rintro e w7 ⟨a7, n7, c7, m7, d7, i7, j7, rfl, hr, hb⟩
  have BB := Lib.hid (((BB.out.go hb).rat hr).box3 (.slice a7 n7 c7) (.bool m7) (.slice d7 i7 j7) 60)
  clear hb hr q0 q1 q2
  have q0 := BB.out.now.2.2.2.2.1.cell
  have q1 := BB.out.now.2.2.2.2.1.cell1
  have q2 := BB.out.now.2.2.2.2.1.cell2
  go_wp2_with fail
  go_at_call 25
  (with_reducible refine (O3.out _ _ _ _ _ _ _ _ BB.out.now.2.2.2.2.2.1).mono ?_)
  rintro e w9 ⟨a9, n9, c9, m9, d9, i9, j9, rfl, hr, hb⟩
  have BB := Lib.hid (((BB.out.go hb).rat hr).box3 (.slice a9 n9 c9) (.bool m9) (.slice d9 i9 j9) 60)
  clear hb hr q0 q1 q2
  have q0 := BB.out.now.1.cell
  have q1 := BB.out.now.1.cell1
  have q2 := BB.out.now.1.cell2
  go_wp2_with fail
  go_at_call 25
  (with_reducible refine (O4.out _ _ _ _ _ _ _ _ BB.out.now.2.1).mono ?_)
  rintro e w11 ⟨a11, n11, c11, m11, d11, i11, j11, rfl, hr, hb⟩
  have BB := Lib.hid (((BB.out.go hb).rat hr).box3 (.slice a11 n11 c11) (.bool m11) (.slice d11 i11 j11) 60)
  clear hb hr q0 q1 q2
  have q0 := BB.out.now.2.2.2.2.2.2.2.2.1.cell
  have q1 := BB.out.now.2.2.2.2.2.2.2.2.1.cell1
  have q2 := BB.out.now.2.2.2.2.2.2.2.2.1.cell2
  go_wp2_with fail
  go_at_call 25
  (with_reducible refine (O5.out _ _ _ _ _ _ _ _ BB.out.now.2.2.2.2.2.2.2.2.2.1).mono ?_)
  rintro e w13 ⟨a13, n13, c13, m13, d13, i13, j13, rfl, hr, hb⟩
  have BB := Lib.hid (((BB.out.go hb).rat hr).box3 (.slice a13 n13 c13) (.bool m13) (.slice d13 i13 j13) 60)
  clear hb hr q0 q1 q2
  have q0 := BB.out.now.2.2.2.2.2.2.2.2.2.2.1.cell
  have q1 := BB.out.now.2.2.2.2.2.2.2.2.2.2.1.cell1
  have q2 := BB.out.now.2.2.2.2.2.2.2.2.2.2.1.cell2
  go_wp2_with fail
  go_at_call 25
  (with_reducible refine (O6.out _ _ _ _ _ _ _ _ BB.out.now.2.2.2.2.2.2.2.2.2.2.2.1).mono ?_)
  rintro e w15 ⟨a15, n15, c15, m15, d15, i15, j15, rfl, hr, hb⟩
  have BB := Lib.hid (((BB.out.go hb).rat hr).box3 (.slice a15 n15 c15) (.bool m15) (.slice d15 i15 j15) 60)
  clear hb hr q0 q1 q2
  clear O1 O2 O3 O4 O5 O6
  go_wp2_with fail
  have BB := Lib.hid BB.out.drew
  go_region_held3 (fun y => y.cell? ⟨w7.heap.size, 0, none⟩ = some (.slice a7 n7 c7) ∧ y.cell? ⟨w7.heap.size, 1, none⟩ = some (.bool m7) ∧ y.cell? ⟨w7.heap.size, 2, none⟩ = some (.slice d7 i7 j7) ∧ y.cell? ⟨w.heap.size, 0, none⟩ = some (.bool b) ∧ y.cell? ⟨w.heap.size, 1, none⟩ = some (.string s) ∧ y.cell? ⟨w.heap.size, 2, none⟩ = some (.string t) ∧ y.cell? ⟨w1.heap.size, 0, none⟩ = some (.slice a3 n3 c3) ∧ y.cell? ⟨w1.heap.size, 1, none⟩ = some (.bool m3) ∧ y.cell? ⟨w1.heap.size, 2, none⟩ = some (.slice d3 i3 j3) ∧ y.cell? ⟨w11.heap.size, 0, none⟩ = some (.slice a11 n11 c11) ∧ y.cell? ⟨w11.heap.size, 1, none⟩ = some (.bool m11) ∧ y.cell? ⟨w11.heap.size, 2, none⟩ = some (.slice d11 i11 j11))
    (exact ⟨BB.out.now.2.2.2.2.2.2.2.2.1.cell, BB.out.now.2.2.2.2.2.2.2.2.1.cell1, BB.out.now.2.2.2.2.2.2.2.2.1.cell2, BB.out.now.2.2.2.2.2.2.2.2.2.2.2.2.2.2.1.cell, BB.out.now.2.2.2.2.2.2.2.2.2.2.2.2.2.2.1.cell1, BB.out.now.2.2.2.2.2.2.2.2.2.2.2.2.2.2.1.cell2, BB.out.now.2.2.2.2.2.2.2.2.2.2.2.2.1.cell, BB.out.now.2.2.2.2.2.2.2.2.2.2.2.2.1.cell1, BB.out.now.2.2.2.2.2.2.2.2.2.2.2.2.1.cell2, BB.out.now.2.2.2.2.1.cell, BB.out.now.2.2.2.2.1.cell1, BB.out.now.2.2.2.2.1.cell2⟩)
    (first
      | (go_at_call 22; (with_reducible refine (NM.out _ _ _ _ _ _ _ _ BB.out.now.2.2.2.2.2.2.2.2.2.1).mono ?_); rintro e w20 ⟨rfl, hb20⟩; have BB := Lib.hid (BB.out.go hb20))
      | (go_at_call 29; (with_reducible refine (SG.out _ _ _ _ _ _ _ _ BB.out.now.2.2.2.2.2.2.2.2.2.2.2.2.2.1).mono ?_); rintro e w21 ⟨rfl, hb21⟩; have BB := Lib.hid (BB.out.go hb21))
      | (go_at_call 22; (with_reducible refine (NM.out _ _ _ _ _ _ _ _ BB.out.now.2.2.2.2.2.1).mono ?_); rintro e w22 ⟨rfl, hb22⟩; have BB := Lib.hid (BB.out.go hb22)))
  go_wp2_with fail
  have BB := Lib.hid BB.out.drew
  go_region_held3 (fun y => y.cell? ⟨w13.heap.size, 0, none⟩ = some (.slice a13 n13 c13) ∧ y.cell? ⟨w13.heap.size, 1, none⟩ = some (.bool m13) ∧ y.cell? ⟨w13.heap.size, 2, none⟩ = some (.slice d13 i13 j13) ∧ y.cell? ⟨w1.heap.size, 0, none⟩ = some (.slice a3 n3 c3) ∧ y.cell? ⟨w1.heap.size, 1, none⟩ = some (.bool m3) ∧ y.cell? ⟨w1.heap.size, 2, none⟩ = some (.slice d3 i3 j3) ∧ y.cell? ⟨w15.heap.size, 0, none⟩ = some (.slice a15 n15 c15) ∧ y.cell? ⟨w15.heap.size, 1, none⟩ = some (.bool m15) ∧ y.cell? ⟨w15.heap.size, 2, none⟩ = some (.slice d15 i15 j15))
    (first
      | (exact ⟨BB.out.now.2.2.1.cell, BB.out.now.2.2.1.cell1, BB.out.now.2.2.1.cell2, BB.out.now.2.2.2.2.2.2.2.2.2.2.2.2.1.cell, BB.out.now.2.2.2.2.2.2.2.2.2.2.2.2.1.cell1, BB.out.now.2.2.2.2.2.2.2.2.2.2.2.2.1.cell2, BB.out.now.1.cell, BB.out.now.1.cell1, BB.out.now.1.cell2⟩)
      | (exact (fun B9 : Bag w _ _ => ⟨B9.now.2.2.1.cell, B9.now.2.2.1.cell1, B9.now.2.2.1.cell2, B9.now.2.2.2.2.2.2.2.2.2.2.2.2.1.cell, B9.now.2.2.2.2.2.2.2.2.2.2.2.2.1.cell1, B9.now.2.2.2.2.2.2.2.2.2.2.2.2.1.cell2, B9.now.1.cell, B9.now.1.cell1, B9.now.1.cell2⟩) (BB.out.alloc _)))
    (first
      | (go_at_call 31; (with_reducible refine (MN1.out _ _ _ _ _ _ _ _ BB.out.now.2.2.2.2.2.2.2.2.2.2.2.2.2.1).mono ?_); rintro e w30 ⟨a30, n30, c30, m30, d30, i30, j30, rfl, hr30, hb30⟩; have BB := Lib.hid (BB.out.go hb30))
      | (go_at_call 30; (with_reducible refine (PL1.out _ _ _ _ _ _ _ _ _ ?_ ?_).mono ?_); exact (BB.out.alloc _).now.2.2.2.1; exact RatsAt.old1 (Below.refl _ _) rfl (hr30.below ((Below.refl _ _).alloc (Nat.le_refl _) _)); rintro e w31 ⟨a31, n31, c31, m31, d31, i31, j31, rfl, hr31, hb31⟩; have BB := Lib.hid ((BB.out.alloc _).go hb31))
      | (go_at_call 31; (with_reducible refine (MN2.out _ _ _ _ _ _ _ _ BB.out.now.2.1).mono ?_); rintro e w40 ⟨a40, n40, c40, m40, d40, i40, j40, rfl, hr40, hb40⟩; have BB := Lib.hid (BB.out.go hb40))
      | (go_at_call 30; (with_reducible refine (PL2.out _ _ _ _ _ _ _ _ _ ?_ ?_).mono ?_); exact (BB.out.alloc _).now.2.2.2.2.2.2.2.2.2.2.2.2.2.1; exact RatsAt.old1 (Below.refl _ _) rfl (hr40.below ((Below.refl _ _).alloc (Nat.le_refl _) _)); rintro e w41 ⟨a41, n41, c41, m41, d41, i41, j41, rfl, hr41, hb41⟩; have BB := Lib.hid ((BB.out.alloc _).go hb41))
      | (go_at_call 32; (with_reducible refine (C1.out _ _ _ _ _ _ _ _ _ _ _ _ _ _ _ hr31 hr32).mono ?_); rintro e w33 ⟨rfl, hb33⟩; have BB := Lib.hid (BB.out.go hb33))
      | (go_at_call 32; (with_reducible refine (C2.out _ _ _ _ _ _ _ _ _ _ _ _ _ _ _ hr41 hr42).mono ?_); rintro e w43 ⟨rfl, hb43⟩; have BB := Lib.hid (BB.out.go hb43))
      | (go_at_call 33; (with_reducible refine (FR.out _).mono ?_); rintro e w42 ⟨a42, n42, c42, m42, d42, i42, j42, rfl, hr42, hb42⟩; have BB := Lib.hid (BB.out.go hb42); have hr41 := hr41.below hb42)
      | (go_at_call 33; (with_reducible refine (FR.out _).mono ?_); rintro e w32 ⟨a32, n32, c32, m32, d32, i32, j32, rfl, hr32, hb32⟩; have BB := Lib.hid (BB.out.go hb32); have hr31 := hr31.below hb32)
      | (go_at_call 32; (with_reducible refine (C3.out _ _ _ _ _ _ _ _ _ _ _ _ _ _ _ BB.out.now.2.2.2.1 BB.out.now.2.2.2.2.2.2.2.2.2.2.2.2.2.1).mono ?_); rintro e w44 ⟨rfl, hb44⟩; have BB := Lib.hid (BB.out.go hb44))
      | (go_at_call 32; (with_reducible refine (C4.out _ _ _ _ _ _ _ _ _ _ _ _ _ _ _ BB.out.now.2.1 BB.out.now.2.2.2.2.2.2.2.2.2.2.2.2.2.1).mono ?_); rintro e w45 ⟨rfl, hb45⟩; have BB := Lib.hid (BB.out.go hb45))
      | (go_at_call 24; (with_reducible refine (AW.out _).mono ?_); rintro e w46 ⟨rfl, hb46⟩; have BB := Lib.hid (BB.out.go hb46)))
  go_wp2
  go_ret
  exact ⟨rfl, BB.out.below⟩

theorem monoBack_walk (b : Bool) (s t : ByteArray) (w : World) (_ : s.size ≤ maxLen) (_ : t.size ≤ maxLen) :
    Calls Tryz.prog 7 #[.agg #[.bool b, .string s, .string t]] w fun e w' => e = .returned (.bool true) ∧ Below w.heap.size w w' := by
  cases h : rd12 b s t with
  | false => exact monoBack_no b s t w h
  | true =>
    by_cases hP : ofP b s t = 0
    · exact monoBack_zero b s t w h hP
    · exact monoBack_yes b s t w h hP

theorem own : ownKnob Tryz.prog.godebug = none := by kernel_rfl

set_option maxRecDepth 100000 in
theorem monoBack_lifted (os : Os) (started : os.Started) (H : Type) (enc : TypeId × Value → H) :
    ReturnsInHanded {} Tryz.checked os 7 .any (fun w args => (Rows.monoBackSpec.pre enc Tryz.prog Tryz.f7 [] false w args ∧ laidMetH Tryz.prog Rows.monoBackRow.laid w) ∧ sizedMet enc Tryz.prog Tryz.f7 (OpenSpec.ofChange Rows.monoBackSpec) false w args)
      (Rows.monoBackSpec.post enc Tryz.prog Tryz.f7 false true false false) := by
  refine returnsInHanded_of_change_and (C := Tryz.checked) (X := fun w _ => laidMetH Tryz.prog Rows.monoBackRow.laid w) (fun _ _ _ hh h => h.of_heap hh) own started (by kernel_rfl) Tryz.func7
    (ChangeSpec.witness_shaped (enc := enc) (C := Tryz.checked) (os := os) (X := fun w _ => laidMetH Tryz.prog Rows.monoBackRow.laid w) false (World.laidAll Tryz.prog os Rows.monoBackRow.laid) #[.agg #[.bool false, .string ⟨#[]⟩, .string ⟨#[]⟩]] 8 (World.laidAll_os _ _ _)
      (World.shaped_of_ZipB (by kernel_rfl) (by kernel_rfl)) (by kernel_rfl) (by kernel_rfl) (by kernel_rfl)
      (by rw [MakeChecks.laidMetH_plain _ _ _ (by kernel_rfl)]; exact laidMet_laidAll _ (by kernel_rfl) (by kernel_rfl))) ?_
  intro W base args ds gs before hval0 hW _ _ _ _
  have hval : ∀ (j : Nat) t v, Tryz.f7.params[j]? = some t → args[j]? = some v → Value.okWide Tryz.prog W .any base t v := hval0
  have hW' := hW
  obtain ⟨p, q, hA0, hV, rfl, _, _⟩ := hW
  have hA : DataW.TrodAll enc Tryz.prog W 0 (fun _ => true) true Tryz.f7.params.toList args.toList ds p := hA0
  rw [Tryz.params7] at hA hval
  obtain ⟨v0, d0, rfl, rfl, h0⟩ := trodAll_one hA
  obtain ⟨rfl, rfl⟩ := trodVars_none hV
  obtain ⟨x0, y0, z0, rfl, rfl, rfl, b0, c0⟩ := open_num (hval 0 53 v0 rfl rfl) h0
  simp only [List.append_nil] at hW'
  refine (monoBack_walk x0 y0 z0 W b0 c0).mono fun e W' ⟨he, hb⟩ => ?_
  subst he
  exact ⟨_, rfl, _, _, _, [], [], [], hW', trodAll_mk1 (shut_bool Tryz.underlying4 _), trodAll_mk1 (shut_num b0 c0), rfl, hb.frame _, fun h => by cases h⟩

theorem monoBack_row : Rows.MonoBackSaid :=
  OpenClaim.holds_of_wide 7 Tryz.f7 rfl rfl rfl rfl rfl rfl rfl ⟨rfl, rfl, rfl, rfl, rfl⟩ rfl rfl rfl rfl rfl (by kernel_rfl) Tryz.func7 (by kernel_rfl)
    (of_decide_eq_true (by kernel_rfl)) (by unfold Func.isWrapper; first | (rw [if_pos (by decide +kernel)]; kernel_rfl) | (rw [if_neg (by decide +kernel)]; exact ⟨rfl, rfl⟩))
    (fun os started H enc _ => monoBack_lifted os started H enc)

theorem monoBack_holds : Rows.MonoBackCardSaid :=
  Claim7.holds_tied_plain_at .later [] [.data, .pinned] true Rows.monoBackCard.stood.harness Rows.monoBackCard.stood.looks monoBack_row (fun _ h => by cases h) (by kernel_rfl) (fun _ h => by cases h) monoBack_row_tie rfl ⟨rfl, rfl⟩ (by kernel_rfl) rfl
    (fun f fn hf hfn => by
      obtain rfl : f = 7 := Option.some.inj ((show Tryz.prog.funcNamed "typeball/typeballlaw12.MonoBack" = some 7 by kernel_rfl).symm.trans hf) |>.symm
      obtain rfl : fn = Tryz.f7 := (Option.some.inj (Tryz.func7.symm.trans hfn)).symm
      exact ⟨by kernel_rfl, fun j t ht => by
        rw [Tryz.params7] at ht
        have hm : t ∈ [53] := by simpa using Array.mem_of_getElem? ht
        have hall : ([53].all fun u => !Tryz.prog.wantsStandIn u) = true := by kernel_rfl
        exact (show Tryz.prog.wantsStandIn t = false by simpa using List.all_eq_true.1 hall t hm)⟩)
    (by kernel_rfl)
#print axioms monoBack_holds
end Go.Proofs.YtnpoakaffafdiaaGreatDoor
