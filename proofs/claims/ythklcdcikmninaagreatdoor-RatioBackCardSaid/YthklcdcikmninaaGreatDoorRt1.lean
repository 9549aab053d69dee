/-
  The document's answers (package typeballref03): Right, by contract.
-/
import Derived.Test.YthklcdcikmninaaGreatDoorRr1
import Derived.Test.YthklcdcikmninaaGreatDoorRa15
import Derived.Test.YthklcdcikmninaaGreatDoorRa1
import Derived.Test.YthklcdcikmninaaGreatDoorInv
namespace Go.Proofs.YthklcdcikmninaaGreatDoor
open Go.RowKit
attribute [local go_sem ↓] Go.wp_at_zero Go.wp_at_succ

theorem ofO_all (b : Bool) (s t : ByteArray) : ofO b s t = (okB s.data.toList && (okB t.data.toList && (decide (str (dec (numOf s.data.toList)) = s) && (decide (str (dec (numOf t.data.toList)) = t) && (!decide (numOf t.data.toList = 0) && (decide (Nat.gcd (numOf s.data.toList) (numOf t.data.toList) = 1) && !(b && decide (numOf s.data.toList = 0)))))))) := by
  unfold ofO ofK ofP ofQ
  by_cases h0 : numOf t.data.toList = 0
  · rw [decide_eq_true h0]; simp
  · rw [of_right b s t (by omega), decide_eq_false h0]
    cases okB s.data.toList <;> cases okB t.data.toList <;> simp
theorem str_beq (s t : ByteArray) : (s.toList == t.toList) = decide (s = t) := by
  rw [Bool.eq_iff_iff, beq_iff_eq, decide_eq_true_eq]
  constructor
  · intro h
    rw [ByteArray.toList_eq, ByteArray.toList_eq] at h
    exact ByteArray.ext (Array.toList_inj.1 h)
  · intro h; rw [h]

set_option linter.unusedSimpArgs false in
set_option maxHeartbeats 6400000 in
set_option maxRecDepth 100000 in
theorem r3Right_any (b : Bool) (s t : ByteArray) (w : World) (hs : s.size ≤ 60) (ht : t.size ≤ 60) :
    Calls Tryz.prog 13 #[.agg #[.bool b, .string s, .string t]] w fun e w' => e = .returned (.bool (ofO b s t)) ∧ Below w.heap.size w w' := by
  rw [ofO_all]
  have BB := Lib.hid ((Bag.start w).box3 (.bool b) (.string s) (.string t) 23)
  have R1 := Lib.hid (fun wz => right_any s wz (by unfold maxLen; omega))
  have R2 := Lib.hid (fun wz => right_any t wz (by unfold maxLen; omega))
  have TR : ∀ (u : ByteArray) (hu : u.size ≤ 60) (h : okB u.data.toList = true) wz, Calls Tryz.prog 32 #[.string u] wz fun e w' => e = .returned (.string (str (dec (numOf u.data.toList)))) ∧ wz = w' := by
    intro u hu h wz
    obtain ⟨g1, g2, g3⟩ := okB_digs h
    have hl : u.data.toList.length = u.size := rfl
    have := trim_any (numOf u.data.toList) u.data.toList.length wz g1 (numOf_lt _ g3) (by omega)
    rw [sdig_numOf _ g3] at this
    exact this
  have T1 := Lib.hid (fun wz h => TR s hs h wz)
  have T2 := Lib.hid (fun wz h => TR t ht h wz)
  have hl1 : dl (numOf s.data.toList) ≤ 900 ∨ okB s.data.toList = false := by
    cases h : okB s.data.toList with
    | false => exact .inr rfl
    | true =>
      obtain ⟨g1, g2, g3⟩ := okB_digs h
      exact .inl (Nat.le_trans (dl_le _ _ g1 (numOf_lt _ g3)) (by have : s.data.toList.length = s.size := rfl; omega))
  obtain ⟨E, hE⟩ : ∃ E, E = 1000 := ⟨_, rfl⟩
  have hl2 : (dl (numOf t.data.toList) ≤ 900 ∧ numOf t.data.toList < 2 ^ E) ∨ okB t.data.toList = false := by
    cases h : okB t.data.toList with
    | false => exact .inr rfl
    | true =>
      obtain ⟨g1, g2, g3⟩ := okB_digs h
      have hl : t.data.toList.length = t.size := rfl
      refine .inl ⟨Nat.le_trans (dl_le _ _ g1 (numOf_lt _ g3)) (by omega), Nat.lt_of_lt_of_le (numOf_lt _ g3) (Nat.le_trans (Nat.pow_le_pow_right (by omega) (show t.data.toList.length ≤ 60 by omega)) ?_)⟩
      exact Nat.le_trans (Nat.pow_le_pow_left (show 10 ≤ 2 ^ 4 by decide) 60) (by rw [← Nat.pow_mul]; exact Nat.pow_le_pow_right (by omega) (by omega))
  generalize hN : numOf s.data.toList = N at *
  generalize hM : numOf t.data.toList = M at *
  have GC : ∀ wz, okB s.data.toList = true → okB t.data.toList = true → str (dec N) = s → str (dec M) = t → Calls Tryz.prog 33 #[.string s, .string t] wz fun e w' => e = .returned (.string (str (dec (Nat.gcd N M)))) ∧ Below wz.heap.size wz w' := by
    intro wz h1 h2 h3 h4
    have := rgcd_any N M wz (by rcases hl1 with h | h; exact h; rw [h1] at h; cases h) (by rcases hl2 with h | h; exact h.1; rw [h2] at h; cases h) E (by omega) (by rcases hl2 with h | h; exact h.2; rw [h2] at h; cases h)
    rw [h3, h4] at this
    exact this
  have hz1 : decide (M = 0) = ((str (dec M)).toList == [48]) := (dec_isnt0 M).symm
  have hz0 : decide (N = 0) = ((str (dec N)).toList == [48]) := (dec_isnt0 N).symm
  have hg1 : decide (Nat.gcd N M = 1) = ((str (dec (Nat.gcd N M))).toList == [49]) := (dec_is1 _).symm
  generalize okB s.data.toList = r1 at *
  generalize okB t.data.toList = r2 at *
  have d1 := str_beq (str (dec N)) s
  have d2 := str_beq (str (dec M)) t
  rw [← d1, ← d2, hz1, hz0, hg1]
  have GC := Lib.hid GC
  generalize str (dec (Nat.gcd N M)) = gg at *
  generalize str (dec N) = s1 at *
  generalize str (dec M) = t1 at *
  have D1 : Hid ((s1.toList == s.toList) = true → s1 = s) := fun h => of_decide_eq_true (d1.symm.trans h)
  have D2 : Hid ((t1.toList == t.toList) = true → t1 = t) := fun h => of_decide_eq_true (d2.symm.trans h)
  clear TR hl1 hl2 hN hM hs ht hz1 hz0 hg1 d1 d2
  obtain ⟨e1, he1⟩ : ∃ e, (s1.toList == s.toList) = e := ⟨_, rfl⟩
  obtain ⟨e2, he2⟩ : ∃ e, (t1.toList == t.toList) = e := ⟨_, rfl⟩
  obtain ⟨z, hz⟩ : ∃ e, (t.toList == [48]) = e := ⟨_, rfl⟩
  obtain ⟨x13, h13⟩ : ∃ x, x = (!r1 || !r2) := ⟨_, rfl⟩
  obtain ⟨x21, h21⟩ : ∃ x, x = (x13 || !e1) := ⟨_, rfl⟩
  obtain ⟨x29, h29⟩ : ∃ x, x = (x21 || !e2) := ⟨_, rfl⟩
  obtain ⟨x33, h33⟩ : ∃ x, x = (x29 || z) := ⟨_, rfl⟩
  have OR : ∀ x y z : Bool, z = (x || y) → ((x = true → z = true) ∧ (x = false → z = y)) := by intro x y z h; subst h; cases x <;> simp
  have P1 : Hid ((!r1) = true → x13 = true) := (OR _ _ _ h13).1
  have Q1 : Hid ((!r1) = false → x13 = !r2) := (OR _ _ _ h13).2
  have P2 : Hid (x13 = true → x21 = true) := (OR _ _ _ h21).1
  have Q2 : Hid (x13 = false → x21 = !e1) := (OR _ _ _ h21).2
  have P3 : Hid (x21 = true → x29 = true) := (OR _ _ _ h29).1
  have Q3 : Hid (x21 = false → x29 = !e2) := (OR _ _ _ h29).2
  have P4 : Hid (x29 = true → x33 = true) := (OR _ _ _ h33).1
  have Q4 : Hid (x29 = false → x33 = z) := (OR _ _ _ h33).2
  have N1 : Hid (x13 = false → r1 = true) := by intro h; rw [h] at h13; cases r1; cases h13; rfl
  have N2 : Hid (x21 = false → r2 = true) := by intro h; rw [h] at h21; cases hx : x13; rw [hx] at h13; cases r2; cases r1 <;> cases h13; rfl; rw [hx] at h21; cases h21
  have LAST0 : (x33 = true → ∀ G, (r1 && (r2 && (e1 && (e2 && (!(t1.toList == [48]) && G))))) = false) ∧ (x33 = false → r1 = true ∧ r2 = true ∧ e1 = true ∧ e2 = true ∧ z = false) := by
    rw [h33, h29, h21, h13]
    refine ⟨fun h G => ?_, fun h => ?_⟩
    · cases hh : e2 with
      | false => simp
      | true =>
        have h4 := D2.out (he2.trans hh)
        rw [h4, hz]
        rw [hh] at h
        cases r1 <;> cases r2 <;> cases e1 <;> cases z <;> first | rfl | cases h
    · cases r1 <;> cases r2 <;> cases e1 <;> cases e2 <;> cases z <;> first | exact ⟨rfl, rfl, rfl, rfl, rfl⟩ | cases h
  have LAST := Lib.hid LAST0
  rw [he1, he2]
  clear LAST0 hE OR h13 h21 h29 h33
  go_enter Tryz.func13, Tryz.ntmps13
  go_wp2_with fail
  refine wp_region_inv ⟨(fun j => ([[3], [4], [5], [6], [7], [8], [9], [10], [11], [12], [13], [14], [15], [16], [17], [18], [19], [20], [21], [22], [23], [24], [25], [26], [27], [28], [29], [30], [31], [32], [33]] : List (List Nat)).getD j []), (fun j => ([[], [0], [0, 1], [0, 1, 2], [0, 1, 2, 3], [0, 1, 2, 3, 4], [0, 1, 2, 3, 4, 5], [0, 1, 2, 3, 4, 5, 6], [0, 1, 2, 3, 4, 5, 6, 7], [0, 1, 2, 3, 4, 5, 6, 7, 8], [0, 1, 2, 3, 4, 5, 6, 7, 8, 9], [0, 1, 2, 3, 4, 5, 6, 7, 8, 9, 10], [0, 1, 2, 3, 4, 5, 6, 7, 8, 9, 10, 11], [0, 1, 2, 3, 4, 5, 6, 7, 8, 9, 10, 11, 12], [0, 1, 2, 3, 4, 5, 6, 7, 8, 9, 10], [0, 1, 2, 3, 4, 5, 6, 7, 8, 9, 10, 14], [0, 1, 2, 3, 4, 5, 6, 7, 8, 9, 10, 11, 12, 13, 14, 15], [0, 1, 2, 3, 4, 5, 6, 7, 8, 9, 10, 11, 12, 13, 14, 15, 16], [0, 1, 2, 3, 4, 5, 6, 7, 8, 9, 10, 11, 12, 13, 14, 15, 16, 17], [0, 1, 2, 3, 4, 5, 6, 7, 8, 9, 10, 11, 12, 13, 14, 15, 16, 17, 18], [0, 1, 2, 3, 4, 5, 6, 7, 8, 9, 10, 11, 12, 13, 14, 15, 16, 17, 18, 19], [0, 1, 2, 3, 4, 5, 6, 7, 8, 9, 10, 11, 12, 13, 14, 15, 16, 17, 18, 19, 20], [0, 1, 2, 3, 4, 5, 6, 7, 8, 9, 10, 11, 12, 13, 14, 15, 16, 17, 18], [0, 1, 2, 3, 4, 5, 6, 7, 8, 9, 10, 11, 12, 13, 14, 15, 16, 17, 18, 22], [0, 1, 2, 3, 4, 5, 6, 7, 8, 9, 10, 11, 12, 13, 14, 15, 16, 17, 18, 19, 20, 21, 22, 23], [0, 1, 2, 3, 4, 5, 6, 7, 8, 9, 10, 11, 12, 13, 14, 15, 16, 17, 18, 19, 20, 21, 22, 23, 24], [0, 1, 2, 3, 4, 5, 6, 7, 8, 9, 10, 11, 12, 13, 14, 15, 16, 17, 18, 19, 20, 21, 22, 23, 24, 25], [0, 1, 2, 3, 4, 5, 6, 7, 8, 9, 10, 11, 12, 13, 14, 15, 16, 17, 18, 19, 20, 21, 22, 23, 24, 25, 26], [0, 1, 2, 3, 4, 5, 6, 7, 8, 9, 10, 11, 12, 13, 14, 15, 16, 17, 18, 19, 20, 21, 22, 23, 24, 25, 26, 27], [0, 1, 2, 3, 4, 5, 6, 7, 8, 9, 10, 11, 12, 13, 14, 15, 16, 17, 18, 19, 20, 21, 22, 23, 24, 25, 26, 27, 28], [0, 1, 2, 3, 4, 5, 6, 7, 8, 9, 10, 11, 12, 13, 14, 15, 16, 17, 18, 19, 20, 21, 22, 23, 24, 25, 26, 27, 28, 29]] : List (List Nat)).getD j []), []⟩ (fun jj vv yy => match jj with | 0 => vv = [some (.pointer (some ⟨w.heap.size, 1, none⟩))] | 1 => vv = [some (.string s)] | 2 => vv = [some (.bool r1)] | 3 => vv = [some (.bool (!r1))] | 4 => vv = [some (.bool (!r1))] | 5 => ((!r1) = false) → (vv = [some (.pointer (some ⟨w.heap.size, 2, none⟩))]) | 6 => ((!r1) = false) → (vv = [some (.string t)]) | 7 => ((!r1) = false) → (vv = [some (.bool r2)]) | 8 => ((!r1) = false) → (vv = [some (.bool (!r2))]) | 9 => vv = [some (.bool x13)] | 10 => vv = [some (.bool x13)] | 11 => (x13 = false) → (vv = [some (.pointer (some ⟨w.heap.size, 1, none⟩))]) | 12 => (x13 = false) → (vv = [some (.string s)]) | 13 => (x13 = false) → (vv = [some (.string s1)]) | 14 => (x13 = false) → (vv = [some (.pointer (some ⟨w.heap.size, 1, none⟩))]) | 15 => (x13 = false) → (vv = [some (.string s)]) | 16 => (x13 = false) → (vv = [some (.bool (!e1))]) | 17 => vv = [some (.bool x21)] | 18 => vv = [some (.bool x21)] | 19 => (x21 = false) → (vv = [some (.pointer (some ⟨w.heap.size, 2, none⟩))]) | 20 => (x21 = false) → (vv = [some (.string t)]) | 21 => (x21 = false) → (vv = [some (.string t1)]) | 22 => (x21 = false) → (vv = [some (.pointer (some ⟨w.heap.size, 2, none⟩))]) | 23 => (x21 = false) → (vv = [some (.string t)]) | 24 => (x21 = false) → (vv = [some (.bool (!e2))]) | 25 => vv = [some (.bool x29)] | 26 => vv = [some (.bool x29)] | 27 => (x29 = false) → (vv = [some (.pointer (some ⟨w.heap.size, 2, none⟩))]) | 28 => (x29 = false) → (vv = [some (.string t)]) | 29 => (x29 = false) → (vv = [some (.bool z)]) | 30 => vv = [some (.bool x33)] | _ => True) (Bag w (fun y => Slot3 y w.heap.size (.bool b) (.string s) (.string t) ∧ True)) (by kernel_rfl) (by kernel_rfl) (by kernel_rfl) BB.out.drew ?_ ?_ ?_
  · intro jj vv yw yw2 hb h
    match jj, h with
    | 0, h => exact h
    | 1, h => exact h
    | 2, h => exact h
    | 3, h => exact h
    | 4, h => exact h
    | 5, h => exact h
    | 6, h => exact h
    | 7, h => exact h
    | 8, h => exact h
    | 9, h => exact h
    | 10, h => exact h
    | 11, h => exact h
    | 12, h => exact h
    | 13, h => exact h
    | 14, h => exact h
    | 15, h => exact h
    | 16, h => exact h
    | 17, h => exact h
    | 18, h => exact h
    | 19, h => exact h
    | 20, h => exact h
    | 21, h => exact h
    | 22, h => exact h
    | 23, h => exact h
    | 24, h => exact h
    | 25, h => exact h
    | 26, h => exact h
    | 27, h => exact h
    | 28, h => exact h
    | 29, h => exact h
    | 30, h => exact h
    | _ + 31, h => exact h
  · intro ac yw hsz hdf hold hB hp
    have t33 : ac.tmps[33]? = some (.bool x33) := (List.cons.inj (hp 30 (by decide))).1
    have t1' : ac.tmps[1]? = some (.pointer (some ⟨w.heap.size, 0, none⟩)) := hold 1 (by kernel_rfl)
    clear hold hp
    have q0 := hB.now.1.cell
    have q1 := hB.now.1.cell1
    have q2 := hB.now.1.cell2
    obtain ⟨F, hF⟩ : ∃ F : Nat → Value, ∀ i, (ac.tmps[i]?).getD undef = F i := ⟨_, fun _ => rfl⟩
    have f33 := (hF 33).symm.trans (congrArg (fun x => Option.getD x undef) t33)
    have f1 := (hF 1).symm.trans (congrArg (fun x => Option.getD x undef) t1')
    have hac := act_eq (n := 50) hsz F hF
    rw [show ((List.range 50).map F).toArray = #[F 0, F 1, F 2, F 3, F 4, F 5, F 6, F 7, F 8, F 9, F 10, F 11, F 12, F 13, F 14, F 15, F 16, F 17, F 18, F 19, F 20, F 21, F 22, F 23, F 24, F 25, F 26, F 27, F 28, F 29, F 30, F 31, F 32, F 33, F 34, F 35, F 36, F 37, F 38, F 39, F 40, F 41, F 42, F 43, F 44, F 45, F 46, F 47, F 48, F 49] from rfl, f33, f1, hdf] at hac
    simp only [Option.getD_some] at hac
    subst hac
    clear hF f33 f1
    obtain ⟨L1, L2⟩ := LAST.out
    have BB := Lib.hid hB
    clear LAST P1 Q1 P2 Q2 P3 Q3 P4 Q4 N1 N2 R1 R2 T1 T2 hB
    cases x33 with
    | true =>
      have L3 := Lib.hid (L1 rfl)
      clear L1 L2 GC he1 he2 hz D1 D2
      go_wp2
      go_ret
      exact ⟨congrArg (fun b => Ending.returned (.bool b)) (L3.out _).symm, BB.out.below⟩
    | false =>
      obtain ⟨rfl, rfl, rfl, rfl, rfl⟩ := L2 rfl
      obtain rfl := D1.out he1
      obtain rfl := D2.out he2
      have GC2 := Lib.hid (fun wz => GC.out wz rfl rfl rfl rfl)
      clear GC
      obtain ⟨g, hg⟩ : ∃ g, (gg.toList == [49]) = g := ⟨_, rfl⟩
      obtain ⟨z0, hz0⟩ : ∃ g, (s1.toList == [48]) = g := ⟨_, rfl⟩
      have HZ := Lib.hid (And.intro hz (And.intro hg hz0))
      clear L1 L2 he1 he2 D1 D2
      cases g <;> cases b <;> cases z0
      all_goals
        go_wp2_with fail
        go_at_call 33
        (with_reducible refine (GC2.out _).mono ?_)
        rintro e w2 ⟨rfl, hb2⟩
        have BB := Lib.hid (BB.out.go hb2)
        have q0 := BB.out.now.1.cell
        have q1 := BB.out.now.1.cell1
        have q2 := BB.out.now.1.cell2
        go_wp2
        go_ret
        exact ⟨congrArg (fun b => Ending.returned (.bool b)) (by rw [HZ.out.1, HZ.out.2.1, HZ.out.2.2]; rfl), BB.out.below⟩
  refine Stps.cons (o := _) ?_ ?_
  · intro ac yw hsz hold hB hp K hK
    have t1 : ac.tmps[1]? = some (.pointer (some ⟨w.heap.size, 0, none⟩)) := hold 1 (by kernel_rfl)
    clear hold hp hsz
    go_simp
    exact hK.out _ _ ⟨hB, rfl, Nat.le_refl _, .inl (Below.refl _ _), fun h => absurd h (by decide)⟩
  refine Stps.cons (o := _) ?_ ?_
  · intro ac yw hsz hold hB hp K hK
    have e0 := hp 0 (by decide)
    have t3 : ac.tmps[3]? = some (.pointer (some ⟨w.heap.size, 1, none⟩)) := (List.cons.inj e0).1
    clear hold hp hsz e0
    have q0 := hB.now.1.cell
    have q1 := hB.now.1.cell1
    have q2 := hB.now.1.cell2
    go_simp
    exact hK.out _ _ ⟨hB, rfl, Nat.le_refl _, .inl (Below.refl _ _), fun h => absurd h (by decide)⟩
  refine Stps.cons (o := _) ?_ ?_
  · intro ac yw hsz hold hB hp K hK
    have e1 := hp 1 (by decide)
    have t4 : ac.tmps[4]? = some (.string s) := (List.cons.inj e1).1
    clear hold hp hsz e1
    go_simp
    (go_at_call 31; (with_reducible refine (R1.out _).mono ?_); rintro e wz ⟨rfl, rfl⟩; have hbz := Below.refl yw.heap.size yw)
    exact hK.out _ _ ⟨hB.go hbz, rfl, hbz.size, .inl hbz, fun h => absurd h (by decide)⟩
  refine Stps.cons (o := _) ?_ ?_
  · intro ac yw hsz hold hB hp K hK
    have e2 := hp 2 (by decide)
    have t5 : ac.tmps[5]? = some (.bool r1) := (List.cons.inj e2).1
    clear hold hp hsz e2
    go_simp
    exact hK.out _ _ ⟨hB, rfl, Nat.le_refl _, .inl (Below.refl _ _), fun h => absurd h (by decide)⟩
  refine Stps.cons (o := _) ?_ ?_
  · intro ac yw hsz hold hB hp K hK
    have e3 := hp 3 (by decide)
    have t6 : ac.tmps[6]? = some (.bool (!r1)) := (List.cons.inj e3).1
    clear hold hp hsz e3
    go_simp
    exact hK.out _ _ ⟨hB, rfl, Nat.le_refl _, .inl (Below.refl _ _), fun h => absurd h (by decide)⟩
  refine Stps.cons (o := _) ?_ ?_
  · intro ac yw hsz hold hB hp K hK
    have t7 : ac.tmps[7]? = some (.bool (!r1)) := (List.cons.inj (hp 4 (by decide))).1
    by_cases hc : ((!r1)) = false
    · rw [hc] at t7
      rw [if_pos (wanted_pos rfl rfl t7)]
      have t1 : ac.tmps[1]? = some (.pointer (some ⟨w.heap.size, 0, none⟩)) := hold 1 (by kernel_rfl)
      clear hold hp hsz
      go_simp
      exact hK.out _ _ ⟨hB, fun _ => rfl, Nat.le_refl _, .inl (Below.refl _ _), fun h => absurd h (by decide)⟩
    · rw [if_neg (by rw [wanted_neg rfl rfl t7 (fun e => hc (by injection e))]; decide)]
      exact hK.out _ _ ⟨hB, fun h => absurd h hc, Nat.le_refl _, .inl (Below.refl _ _), fun h => absurd h (by decide)⟩
  refine Stps.cons (o := _) ?_ ?_
  · intro ac yw hsz hold hB hp K hK
    have t7 : ac.tmps[7]? = some (.bool (!r1)) := (List.cons.inj (hp 4 (by decide))).1
    by_cases hc : ((!r1)) = false
    · rw [hc] at t7
      rw [if_pos (wanted_pos rfl rfl t7)]
      have e5 := hp 5 (by decide) hc
      have t8 : ac.tmps[8]? = some (.pointer (some ⟨w.heap.size, 2, none⟩)) := (List.cons.inj e5).1
      clear hold hp hsz e5
      have q0 := hB.now.1.cell
      have q1 := hB.now.1.cell1
      have q2 := hB.now.1.cell2
      go_simp
      exact hK.out _ _ ⟨hB, fun _ => rfl, Nat.le_refl _, .inl (Below.refl _ _), fun h => absurd h (by decide)⟩
    · rw [if_neg (by rw [wanted_neg rfl rfl t7 (fun e => hc (by injection e))]; decide)]
      exact hK.out _ _ ⟨hB, fun h => absurd h hc, Nat.le_refl _, .inl (Below.refl _ _), fun h => absurd h (by decide)⟩
  refine Stps.cons (o := _) ?_ ?_
  · intro ac yw hsz hold hB hp K hK
    have t7 : ac.tmps[7]? = some (.bool (!r1)) := (List.cons.inj (hp 4 (by decide))).1
    by_cases hc : ((!r1)) = false
    · rw [hc] at t7
      rw [if_pos (wanted_pos rfl rfl t7)]
      have e6 := hp 6 (by decide) hc
      have t9 : ac.tmps[9]? = some (.string t) := (List.cons.inj e6).1
      clear hold hp hsz e6
      go_simp
      (go_at_call 31; (with_reducible refine (R2.out _).mono ?_); rintro e wz ⟨rfl, rfl⟩; have hbz := Below.refl yw.heap.size yw)
      exact hK.out _ _ ⟨hB.go hbz, fun _ => rfl, hbz.size, .inl hbz, fun h => absurd h (by decide)⟩
    · rw [if_neg (by rw [wanted_neg rfl rfl t7 (fun e => hc (by injection e))]; decide)]
      exact hK.out _ _ ⟨hB, fun h => absurd h hc, Nat.le_refl _, .inl (Below.refl _ _), fun h => absurd h (by decide)⟩
  refine Stps.cons (o := _) ?_ ?_
  · intro ac yw hsz hold hB hp K hK
    have t7 : ac.tmps[7]? = some (.bool (!r1)) := (List.cons.inj (hp 4 (by decide))).1
    by_cases hc : ((!r1)) = false
    · rw [hc] at t7
      rw [if_pos (wanted_pos rfl rfl t7)]
      have e7 := hp 7 (by decide) hc
      have t10 : ac.tmps[10]? = some (.bool r2) := (List.cons.inj e7).1
      clear hold hp hsz e7
      go_simp
      exact hK.out _ _ ⟨hB, fun _ => rfl, Nat.le_refl _, .inl (Below.refl _ _), fun h => absurd h (by decide)⟩
    · rw [if_neg (by rw [wanted_neg rfl rfl t7 (fun e => hc (by injection e))]; decide)]
      exact hK.out _ _ ⟨hB, fun h => absurd h hc, Nat.le_refl _, .inl (Below.refl _ _), fun h => absurd h (by decide)⟩
  refine Stps.cons (o := _) ?_ ?_
  · intro ac yw hsz hold hB hp K hK
    have t7 : ac.tmps[7]? = some (.bool (!r1)) := (List.cons.inj (hp 4 (by decide))).1
    by_cases hc : ((!r1)) = true
    · rw [hc] at t7
      clear hold hp hsz
      go_simp
      exact hK.out _ _ ⟨hB, congrArg (fun b => [some (Value.bool b)]) (P1.out hc).symm, Nat.le_refl _, .inl (Below.refl _ _), fun h => absurd h (by decide)⟩
    · have hc : ((!r1)) = false := by simpa using hc
      rw [hc] at t7
      have t11 : ac.tmps[11]? = some (.bool (!r2)) := (List.cons.inj (hp 8 (by decide) hc)).1
      clear hold hp hsz
      go_simp
      exact hK.out _ _ ⟨hB, congrArg (fun b => [some (Value.bool b)]) (Q1.out hc).symm, Nat.le_refl _, .inl (Below.refl _ _), fun h => absurd h (by decide)⟩
  refine Stps.cons (o := _) ?_ ?_
  · intro ac yw hsz hold hB hp K hK
    have e9 := hp 9 (by decide)
    have t12 : ac.tmps[12]? = some (.bool x13) := (List.cons.inj e9).1
    clear hold hp hsz e9
    go_simp
    exact hK.out _ _ ⟨hB, rfl, Nat.le_refl _, .inl (Below.refl _ _), fun h => absurd h (by decide)⟩
  refine Stps.cons (o := _) ?_ ?_
  · intro ac yw hsz hold hB hp K hK
    have t13 : ac.tmps[13]? = some (.bool x13) := (List.cons.inj (hp 10 (by decide))).1
    by_cases hc : (x13) = false
    · rw [hc] at t13
      rw [if_pos (wanted_pos rfl rfl t13)]
      have t1 : ac.tmps[1]? = some (.pointer (some ⟨w.heap.size, 0, none⟩)) := hold 1 (by kernel_rfl)
      clear hold hp hsz
      go_simp
      exact hK.out _ _ ⟨hB, fun _ => rfl, Nat.le_refl _, .inl (Below.refl _ _), fun h => absurd h (by decide)⟩
    · rw [if_neg (by rw [wanted_neg rfl rfl t13 (fun e => hc (by injection e))]; decide)]
      exact hK.out _ _ ⟨hB, fun h => absurd h hc, Nat.le_refl _, .inl (Below.refl _ _), fun h => absurd h (by decide)⟩
  refine Stps.cons (o := _) ?_ ?_
  · intro ac yw hsz hold hB hp K hK
    have t13 : ac.tmps[13]? = some (.bool x13) := (List.cons.inj (hp 10 (by decide))).1
    by_cases hc : (x13) = false
    · rw [hc] at t13
      rw [if_pos (wanted_pos rfl rfl t13)]
      have e11 := hp 11 (by decide) hc
      have t14 : ac.tmps[14]? = some (.pointer (some ⟨w.heap.size, 1, none⟩)) := (List.cons.inj e11).1
      clear hold hp hsz e11
      have q0 := hB.now.1.cell
      have q1 := hB.now.1.cell1
      have q2 := hB.now.1.cell2
      go_simp
      exact hK.out _ _ ⟨hB, fun _ => rfl, Nat.le_refl _, .inl (Below.refl _ _), fun h => absurd h (by decide)⟩
    · rw [if_neg (by rw [wanted_neg rfl rfl t13 (fun e => hc (by injection e))]; decide)]
      exact hK.out _ _ ⟨hB, fun h => absurd h hc, Nat.le_refl _, .inl (Below.refl _ _), fun h => absurd h (by decide)⟩
  refine Stps.cons (o := _) ?_ ?_
  · intro ac yw hsz hold hB hp K hK
    have t13 : ac.tmps[13]? = some (.bool x13) := (List.cons.inj (hp 10 (by decide))).1
    by_cases hc : (x13) = false
    · rw [hc] at t13
      rw [if_pos (wanted_pos rfl rfl t13)]
      have e12 := hp 12 (by decide) hc
      have t15 : ac.tmps[15]? = some (.string s) := (List.cons.inj e12).1
      clear hold hp hsz e12
      go_simp
      (go_at_call 32; (with_reducible refine (T1.out _ (N1.out hc)).mono ?_); rintro e wz ⟨rfl, rfl⟩; have hbz := Below.refl yw.heap.size yw)
      exact hK.out _ _ ⟨hB.go hbz, fun _ => rfl, hbz.size, .inl hbz, fun h => absurd h (by decide)⟩
    · rw [if_neg (by rw [wanted_neg rfl rfl t13 (fun e => hc (by injection e))]; decide)]
      exact hK.out _ _ ⟨hB, fun h => absurd h hc, Nat.le_refl _, .inl (Below.refl _ _), fun h => absurd h (by decide)⟩
  refine Stps.cons (o := _) ?_ ?_
  · intro ac yw hsz hold hB hp K hK
    have t13 : ac.tmps[13]? = some (.bool x13) := (List.cons.inj (hp 10 (by decide))).1
    by_cases hc : (x13) = false
    · rw [hc] at t13
      rw [if_pos (wanted_pos rfl rfl t13)]
      have t1 : ac.tmps[1]? = some (.pointer (some ⟨w.heap.size, 0, none⟩)) := hold 1 (by kernel_rfl)
      clear hold hp hsz
      go_simp
      exact hK.out _ _ ⟨hB, fun _ => rfl, Nat.le_refl _, .inl (Below.refl _ _), fun h => absurd h (by decide)⟩
    · rw [if_neg (by rw [wanted_neg rfl rfl t13 (fun e => hc (by injection e))]; decide)]
      exact hK.out _ _ ⟨hB, fun h => absurd h hc, Nat.le_refl _, .inl (Below.refl _ _), fun h => absurd h (by decide)⟩
  refine Stps.cons (o := _) ?_ ?_
  · intro ac yw hsz hold hB hp K hK
    have t13 : ac.tmps[13]? = some (.bool x13) := (List.cons.inj (hp 10 (by decide))).1
    by_cases hc : (x13) = false
    · rw [hc] at t13
      rw [if_pos (wanted_pos rfl rfl t13)]
      have e14 := hp 14 (by decide) hc
      have t17 : ac.tmps[17]? = some (.pointer (some ⟨w.heap.size, 1, none⟩)) := (List.cons.inj e14).1
      clear hold hp hsz e14
      have q0 := hB.now.1.cell
      have q1 := hB.now.1.cell1
      have q2 := hB.now.1.cell2
      go_simp
      exact hK.out _ _ ⟨hB, fun _ => rfl, Nat.le_refl _, .inl (Below.refl _ _), fun h => absurd h (by decide)⟩
    · rw [if_neg (by rw [wanted_neg rfl rfl t13 (fun e => hc (by injection e))]; decide)]
      exact hK.out _ _ ⟨hB, fun h => absurd h hc, Nat.le_refl _, .inl (Below.refl _ _), fun h => absurd h (by decide)⟩
  refine Stps.cons (o := _) ?_ ?_
  · intro ac yw hsz hold hB hp K hK
    have t13 : ac.tmps[13]? = some (.bool x13) := (List.cons.inj (hp 10 (by decide))).1
    by_cases hc : (x13) = false
    · rw [hc] at t13
      rw [if_pos (wanted_pos rfl rfl t13)]
      have e13 := hp 13 (by decide) hc
      have t16 : ac.tmps[16]? = some (.string s1) := (List.cons.inj e13).1
      have e15 := hp 15 (by decide) hc
      have t18 : ac.tmps[18]? = some (.string s) := (List.cons.inj e15).1
      clear hold hp hsz e13 e15
      go_simp
      exact hK.out _ _ ⟨hB, fun _ => rfl, Nat.le_refl _, .inl (Below.refl _ _), fun h => absurd h (by decide)⟩
    · rw [if_neg (by rw [wanted_neg rfl rfl t13 (fun e => hc (by injection e))]; decide)]
      exact hK.out _ _ ⟨hB, fun h => absurd h hc, Nat.le_refl _, .inl (Below.refl _ _), fun h => absurd h (by decide)⟩
  refine Stps.cons (o := _) ?_ ?_
  · intro ac yw hsz hold hB hp K hK
    have t13 : ac.tmps[13]? = some (.bool x13) := (List.cons.inj (hp 10 (by decide))).1
    by_cases hc : (x13) = true
    · rw [hc] at t13
      clear hold hp hsz
      go_simp
      exact hK.out _ _ ⟨hB, congrArg (fun b => [some (Value.bool b)]) (P2.out hc).symm, Nat.le_refl _, .inl (Below.refl _ _), fun h => absurd h (by decide)⟩
    · have hc : (x13) = false := by simpa using hc
      rw [hc] at t13
      have t19 : ac.tmps[19]? = some (.bool (!e1)) := (List.cons.inj (hp 16 (by decide) hc)).1
      clear hold hp hsz
      go_simp
      exact hK.out _ _ ⟨hB, congrArg (fun b => [some (Value.bool b)]) (Q2.out hc).symm, Nat.le_refl _, .inl (Below.refl _ _), fun h => absurd h (by decide)⟩
  refine Stps.cons (o := _) ?_ ?_
  · intro ac yw hsz hold hB hp K hK
    have e17 := hp 17 (by decide)
    have t20 : ac.tmps[20]? = some (.bool x21) := (List.cons.inj e17).1
    clear hold hp hsz e17
    go_simp
    exact hK.out _ _ ⟨hB, rfl, Nat.le_refl _, .inl (Below.refl _ _), fun h => absurd h (by decide)⟩
  refine Stps.cons (o := _) ?_ ?_
  · intro ac yw hsz hold hB hp K hK
    have t21 : ac.tmps[21]? = some (.bool x21) := (List.cons.inj (hp 18 (by decide))).1
    by_cases hc : (x21) = false
    · rw [hc] at t21
      rw [if_pos (wanted_pos rfl rfl t21)]
      have t1 : ac.tmps[1]? = some (.pointer (some ⟨w.heap.size, 0, none⟩)) := hold 1 (by kernel_rfl)
      clear hold hp hsz
      go_simp
      exact hK.out _ _ ⟨hB, fun _ => rfl, Nat.le_refl _, .inl (Below.refl _ _), fun h => absurd h (by decide)⟩
    · rw [if_neg (by rw [wanted_neg rfl rfl t21 (fun e => hc (by injection e))]; decide)]
      exact hK.out _ _ ⟨hB, fun h => absurd h hc, Nat.le_refl _, .inl (Below.refl _ _), fun h => absurd h (by decide)⟩
  refine Stps.cons (o := _) ?_ ?_
  · intro ac yw hsz hold hB hp K hK
    have t21 : ac.tmps[21]? = some (.bool x21) := (List.cons.inj (hp 18 (by decide))).1
    by_cases hc : (x21) = false
    · rw [hc] at t21
      rw [if_pos (wanted_pos rfl rfl t21)]
      have e19 := hp 19 (by decide) hc
      have t22 : ac.tmps[22]? = some (.pointer (some ⟨w.heap.size, 2, none⟩)) := (List.cons.inj e19).1
      clear hold hp hsz e19
      have q0 := hB.now.1.cell
      have q1 := hB.now.1.cell1
      have q2 := hB.now.1.cell2
      go_simp
      exact hK.out _ _ ⟨hB, fun _ => rfl, Nat.le_refl _, .inl (Below.refl _ _), fun h => absurd h (by decide)⟩
    · rw [if_neg (by rw [wanted_neg rfl rfl t21 (fun e => hc (by injection e))]; decide)]
      exact hK.out _ _ ⟨hB, fun h => absurd h hc, Nat.le_refl _, .inl (Below.refl _ _), fun h => absurd h (by decide)⟩
  refine Stps.cons (o := _) ?_ ?_
  · intro ac yw hsz hold hB hp K hK
    have t21 : ac.tmps[21]? = some (.bool x21) := (List.cons.inj (hp 18 (by decide))).1
    by_cases hc : (x21) = false
    · rw [hc] at t21
      rw [if_pos (wanted_pos rfl rfl t21)]
      have e20 := hp 20 (by decide) hc
      have t23 : ac.tmps[23]? = some (.string t) := (List.cons.inj e20).1
      clear hold hp hsz e20
      go_simp
      (go_at_call 32; (with_reducible refine (T2.out _ (N2.out hc)).mono ?_); rintro e wz ⟨rfl, rfl⟩; have hbz := Below.refl yw.heap.size yw)
      exact hK.out _ _ ⟨hB.go hbz, fun _ => rfl, hbz.size, .inl hbz, fun h => absurd h (by decide)⟩
    · rw [if_neg (by rw [wanted_neg rfl rfl t21 (fun e => hc (by injection e))]; decide)]
      exact hK.out _ _ ⟨hB, fun h => absurd h hc, Nat.le_refl _, .inl (Below.refl _ _), fun h => absurd h (by decide)⟩
  refine Stps.cons (o := _) ?_ ?_
  · intro ac yw hsz hold hB hp K hK
    have t21 : ac.tmps[21]? = some (.bool x21) := (List.cons.inj (hp 18 (by decide))).1
    by_cases hc : (x21) = false
    · rw [hc] at t21
      rw [if_pos (wanted_pos rfl rfl t21)]
      have t1 : ac.tmps[1]? = some (.pointer (some ⟨w.heap.size, 0, none⟩)) := hold 1 (by kernel_rfl)
      clear hold hp hsz
      go_simp
      exact hK.out _ _ ⟨hB, fun _ => rfl, Nat.le_refl _, .inl (Below.refl _ _), fun h => absurd h (by decide)⟩
    · rw [if_neg (by rw [wanted_neg rfl rfl t21 (fun e => hc (by injection e))]; decide)]
      exact hK.out _ _ ⟨hB, fun h => absurd h hc, Nat.le_refl _, .inl (Below.refl _ _), fun h => absurd h (by decide)⟩
  refine Stps.cons (o := _) ?_ ?_
  · intro ac yw hsz hold hB hp K hK
    have t21 : ac.tmps[21]? = some (.bool x21) := (List.cons.inj (hp 18 (by decide))).1
    by_cases hc : (x21) = false
    · rw [hc] at t21
      rw [if_pos (wanted_pos rfl rfl t21)]
      have e22 := hp 22 (by decide) hc
      have t25 : ac.tmps[25]? = some (.pointer (some ⟨w.heap.size, 2, none⟩)) := (List.cons.inj e22).1
      clear hold hp hsz e22
      have q0 := hB.now.1.cell
      have q1 := hB.now.1.cell1
      have q2 := hB.now.1.cell2
      go_simp
      exact hK.out _ _ ⟨hB, fun _ => rfl, Nat.le_refl _, .inl (Below.refl _ _), fun h => absurd h (by decide)⟩
    · rw [if_neg (by rw [wanted_neg rfl rfl t21 (fun e => hc (by injection e))]; decide)]
      exact hK.out _ _ ⟨hB, fun h => absurd h hc, Nat.le_refl _, .inl (Below.refl _ _), fun h => absurd h (by decide)⟩
  refine Stps.cons (o := _) ?_ ?_
  · intro ac yw hsz hold hB hp K hK
    have t21 : ac.tmps[21]? = some (.bool x21) := (List.cons.inj (hp 18 (by decide))).1
    by_cases hc : (x21) = false
    · rw [hc] at t21
      rw [if_pos (wanted_pos rfl rfl t21)]
      have e21 := hp 21 (by decide) hc
      have t24 : ac.tmps[24]? = some (.string t1) := (List.cons.inj e21).1
      have e23 := hp 23 (by decide) hc
      have t26 : ac.tmps[26]? = some (.string t) := (List.cons.inj e23).1
      clear hold hp hsz e21 e23
      go_simp
      exact hK.out _ _ ⟨hB, fun _ => rfl, Nat.le_refl _, .inl (Below.refl _ _), fun h => absurd h (by decide)⟩
    · rw [if_neg (by rw [wanted_neg rfl rfl t21 (fun e => hc (by injection e))]; decide)]
      exact hK.out _ _ ⟨hB, fun h => absurd h hc, Nat.le_refl _, .inl (Below.refl _ _), fun h => absurd h (by decide)⟩
  refine Stps.cons (o := _) ?_ ?_
  · intro ac yw hsz hold hB hp K hK
    have t21 : ac.tmps[21]? = some (.bool x21) := (List.cons.inj (hp 18 (by decide))).1
    by_cases hc : (x21) = true
    · rw [hc] at t21
      clear hold hp hsz
      go_simp
      exact hK.out _ _ ⟨hB, congrArg (fun b => [some (Value.bool b)]) (P3.out hc).symm, Nat.le_refl _, .inl (Below.refl _ _), fun h => absurd h (by decide)⟩
    · have hc : (x21) = false := by simpa using hc
      rw [hc] at t21
      have t27 : ac.tmps[27]? = some (.bool (!e2)) := (List.cons.inj (hp 24 (by decide) hc)).1
      clear hold hp hsz
      go_simp
      exact hK.out _ _ ⟨hB, congrArg (fun b => [some (Value.bool b)]) (Q3.out hc).symm, Nat.le_refl _, .inl (Below.refl _ _), fun h => absurd h (by decide)⟩
  refine Stps.cons (o := _) ?_ ?_
  · intro ac yw hsz hold hB hp K hK
    have e25 := hp 25 (by decide)
    have t28 : ac.tmps[28]? = some (.bool x29) := (List.cons.inj e25).1
    clear hold hp hsz e25
    go_simp
    exact hK.out _ _ ⟨hB, rfl, Nat.le_refl _, .inl (Below.refl _ _), fun h => absurd h (by decide)⟩
  refine Stps.cons (o := _) ?_ ?_
  · intro ac yw hsz hold hB hp K hK
    have t29 : ac.tmps[29]? = some (.bool x29) := (List.cons.inj (hp 26 (by decide))).1
    by_cases hc : (x29) = false
    · rw [hc] at t29
      rw [if_pos (wanted_pos rfl rfl t29)]
      have t1 : ac.tmps[1]? = some (.pointer (some ⟨w.heap.size, 0, none⟩)) := hold 1 (by kernel_rfl)
      clear hold hp hsz
      go_simp
      exact hK.out _ _ ⟨hB, fun _ => rfl, Nat.le_refl _, .inl (Below.refl _ _), fun h => absurd h (by decide)⟩
    · rw [if_neg (by rw [wanted_neg rfl rfl t29 (fun e => hc (by injection e))]; decide)]
      exact hK.out _ _ ⟨hB, fun h => absurd h hc, Nat.le_refl _, .inl (Below.refl _ _), fun h => absurd h (by decide)⟩
  refine Stps.cons (o := _) ?_ ?_
  · intro ac yw hsz hold hB hp K hK
    have t29 : ac.tmps[29]? = some (.bool x29) := (List.cons.inj (hp 26 (by decide))).1
    by_cases hc : (x29) = false
    · rw [hc] at t29
      rw [if_pos (wanted_pos rfl rfl t29)]
      have e27 := hp 27 (by decide) hc
      have t30 : ac.tmps[30]? = some (.pointer (some ⟨w.heap.size, 2, none⟩)) := (List.cons.inj e27).1
      clear hold hp hsz e27
      have q0 := hB.now.1.cell
      have q1 := hB.now.1.cell1
      have q2 := hB.now.1.cell2
      go_simp
      exact hK.out _ _ ⟨hB, fun _ => rfl, Nat.le_refl _, .inl (Below.refl _ _), fun h => absurd h (by decide)⟩
    · rw [if_neg (by rw [wanted_neg rfl rfl t29 (fun e => hc (by injection e))]; decide)]
      exact hK.out _ _ ⟨hB, fun h => absurd h hc, Nat.le_refl _, .inl (Below.refl _ _), fun h => absurd h (by decide)⟩
  refine Stps.cons (o := _) ?_ ?_
  · intro ac yw hsz hold hB hp K hK
    have t29 : ac.tmps[29]? = some (.bool x29) := (List.cons.inj (hp 26 (by decide))).1
    by_cases hc : (x29) = false
    · rw [hc] at t29
      rw [if_pos (wanted_pos rfl rfl t29)]
      have e28 := hp 28 (by decide) hc
      have t31 : ac.tmps[31]? = some (.string t) := (List.cons.inj e28).1
      clear hold hp hsz e28
      go_simp
      exact hK.out _ _ ⟨hB, fun _ => rfl, Nat.le_refl _, .inl (Below.refl _ _), fun h => absurd h (by decide)⟩
    · rw [if_neg (by rw [wanted_neg rfl rfl t29 (fun e => hc (by injection e))]; decide)]
      exact hK.out _ _ ⟨hB, fun h => absurd h hc, Nat.le_refl _, .inl (Below.refl _ _), fun h => absurd h (by decide)⟩
  refine Stps.cons (o := _) ?_ ?_
  · intro ac yw hsz hold hB hp K hK
    have t29 : ac.tmps[29]? = some (.bool x29) := (List.cons.inj (hp 26 (by decide))).1
    by_cases hc : (x29) = true
    · rw [hc] at t29
      clear hold hp hsz
      go_simp
      exact hK.out _ _ ⟨hB, congrArg (fun b => [some (Value.bool b)]) (P4.out hc).symm, Nat.le_refl _, .inl (Below.refl _ _), fun h => absurd h (by decide)⟩
    · have hc : (x29) = false := by simpa using hc
      rw [hc] at t29
      have t32 : ac.tmps[32]? = some (.bool z) := (List.cons.inj (hp 29 (by decide) hc)).1
      clear hold hp hsz
      go_simp
      exact hK.out _ _ ⟨hB, congrArg (fun b => [some (Value.bool b)]) (Q4.out hc).symm, Nat.le_refl _, .inl (Below.refl _ _), fun h => absurd h (by decide)⟩
  exact Stps.nil _

end Go.Proofs.YthklcdcikmninaaGreatDoor
