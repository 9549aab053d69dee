/-
  Texts of this seat, laid together.
-/
import Derived.Test.YtifnamlgkooacaaGreatDoorQ1
import Derived.Test.YtifnamlgkooacaaGreatDoorQ2
import Derived.Test.YtifnamlgkooacaaGreatDoorQ3
import Derived.Test.YtifnamlgkooacaaGreatDoorQ4
import Derived.Test.YtifnamlgkooacaaGreatDoorQ5
import Derived.Test.YtifnamlgkooacaaGreatDoorQ6

namespace Go.Proofs.YtifnamlgkooacaaGreatDoor
open Go.RowKit
attribute [local go_sem ↓] Go.wp_at_zero Go.wp_at_succ
/-- The shape of the array with more axes. -/
def grR (r1 r2 : Nat) : Nat := if r1 < r2 then r2 else if 0 < r1 then r1 else 1
def grS (r1 : Nat) (S1 : Nat → Int) (r2 : Nat) (S2 : Nat → Int) : Nat → Int := if r1 < r2 then S2 else if 0 < r1 then S1 else fun _ => 1
set_option linter.unusedSimpArgs false in
set_option linter.unusedVariables false in
set_option maxHeartbeats 3200000 in
set_option maxRecDepth 100000 in
theorem greater_any (x1 : Array Value) (S1 : Nat → Int) (r1 : Nat) (ch1 : Bool) (L1 : Nat) (g1 P1 : Nat → Int) (Q1 : Nat → Nat) (x2 : Array Value) (S2 : Nat → Int) (r2 : Nat) (ch2 : Bool) (L2 : Nat) (g2 P2 : Nat → Int) (Q2 : Nat → Nat) (w : World) (h1 : Arr w x1 S1 r1 ch1 L1 g1 P1 Q1) (h2 : Arr w x2 S2 r2 ch2 L2 g2 P2 Q2) (hr1 : r1 ≤ 8) (hr2 : r2 ≤ 8) :
    Calls Tryz.prog 26 #[.agg x1, .agg x2] w fun e w' => ∃ a c, e = .returned (.slice a (grR r1 r2) c) ∧ KRow w' .i64 a (grR r1 r2) c (grS r1 S1 r2 S2) ∧ (∀ x, a = some x → w.heap.size ≤ x.block) ∧ Below w.heap.size w w' := by
  obtain ⟨na1, nn1, nc1, ta1, tn1, tc1, hx1, _⟩ := h1.form
  subst hx1
  obtain ⟨na2, nn2, nc2, ta2, tn2, tc2, hx2, _⟩ := h2.form
  subst hx2
  have H1 := Lib.hid h1
  have H2 := Lib.hid h2
  have RK1 := Lib.hid (fun wz h => rank8_any (arrC ch1 ((r1 : Int) - 1) (dm S1 r1) na1 nn1 nc1 ta1 tn1 tc1) S1 r1 ch1 L1 g1 P1 Q1 wz h (by omega))
  have RK2 := Lib.hid (fun wz h => rank8_any (arrC ch2 ((r2 : Int) - 1) (dm S2 r2) na2 nn2 nc2 ta2 tn2 tc2) S2 r2 ch2 L2 g2 P2 Q2 wz h (by omega))
  have SH1 := Lib.hid (fun wz h => shape_new (arrC ch1 ((r1 : Int) - 1) (dm S1 r1) na1 nn1 nc1 ta1 tn1 tc1) S1 r1 ch1 L1 g1 P1 Q1 wz h hr1)
  have SH2 := Lib.hid (fun wz h => shape_new (arrC ch2 ((r2 : Int) - 1) (dm S2 r2) na2 nn2 nc2 ta2 tn2 tc2) S2 r2 ch2 L2 g2 P2 Q2 wz h hr2)
  have BB := Lib.hid (((Bag.start w).newRow (arrC ch1 ((r1 : Int) - 1) (dm S1 r1) na1 nn1 nc1 ta1 tn1 tc1) 32).newRow (arrC ch2 ((r2 : Int) - 1) (dm S2 r2) na2 nn2 nc2 ta2 tn2 tc2) 32)
  simp only [World.size_alloc] at BB
  unfold arrC at BB
  clear h1 h2 hr1 hr2
  unfold grR grS
  by_cases hlt : r1 < r2
  · rw [if_pos hlt, if_pos hlt]
    have dl : (r1 : Int) < (r2 : Int) := by omega
    clear hlt
    unfold arrC
    go_enter Tryz.func26, Tryz.ntmps26
    go_wp2_with fail
    have hWW := BB.out.below
    generalize hW : ((w.alloc (.cells _ 32)).alloc (.cells _ 32)) = YY at *
    clear hW hWW
    refine wp_region_inv2 ⟨(fun j => ([[6], [7], [8], [9], [10], [5]] : List (List Nat)).getD j []), (fun j => ([[], [0], [], [0, 1, 2], [0, 1, 2, 3], [0, 1, 2, 3, 4]] : List (List Nat)).getD j []), []⟩ (fun jj vv yy => match jj with | 0 => vv = [some (.agg (arrC ch2 ((r2 : Int) - 1) (dm S2 r2) na2 nn2 nc2 ta2 tn2 tc2))] | 1 => vv = [some (.int .i64 (r2 : Nat))] | 2 => vv = [some (.agg (arrC ch1 ((r1 : Int) - 1) (dm S1 r1) na1 nn1 nc1 ta1 tn1 tc1))] | 3 => vv = [some (.int .i64 (r1 : Nat))] | 4 => vv = [some (.bool true)] | 5 => vv = [some (.bool true)] | _ => True) (Bag YY (fun _ => True)) (by kernel_rfl) (by kernel_rfl) (by kernel_rfl) (Bag.start YY).drew ?_ ?_ ?_
    · intro jj vv yw yw2 hb h
      match jj, h with
      | 0, h => exact h
      | 1, h => exact h
      | 2, h => exact h
      | 3, h => exact h
      | 4, h => exact h
      | 5, h => exact h
      | _ + 6, h => exact h
    · intro ac yw hsz hdf hold hB hp
      have t5 : ac.tmps[5]? = some (.bool true) := (List.cons.inj (hp 5 (by decide))).1
      have t2 : ac.tmps[2]? = some (.pointer (some ⟨w.heap.size, 0, none⟩)) := hold 2 (by kernel_rfl)
      have t3 : ac.tmps[3]? = some (.pointer (some ⟨w.heap.size + 1, 0, none⟩)) := hold 3 (by kernel_rfl)
      have t4 : ac.tmps[4]? = some (.slice none 0 0) := hold 4 (by kernel_rfl)
      have BB := Lib.hid (BB.out.go hB.below)
      have HR1 := Lib.hid BB.out.now.2.1
      have HR2 := Lib.hid BB.out.now.1
      clear hold hp hB
      obtain ⟨TV, hTV⟩ : ∃ TV : Nat → Value, ∀ i, (ac.tmps[i]?).getD undef = TV i := ⟨_, fun _ => rfl⟩
      have f2 := (hTV 2).symm.trans (congrArg (fun x => Option.getD x undef) t2)
      have f3 := (hTV 3).symm.trans (congrArg (fun x => Option.getD x undef) t3)
      have f4 := (hTV 4).symm.trans (congrArg (fun x => Option.getD x undef) t4)
      have f5 := (hTV 5).symm.trans (congrArg (fun x => Option.getD x undef) t5)
      have hac := act_eq (n := 20) hsz TV hTV
      rw [show ((List.range 20).map TV).toArray = #[TV 0, TV 1, TV 2, TV 3, TV 4, TV 5, TV 6, TV 7, TV 8, TV 9, TV 10, TV 11, TV 12, TV 13, TV 14, TV 15, TV 16, TV 17, TV 18, TV 19] from rfl, f2, f3, f4, f5, hdf] at hac
      simp only [Option.getD_some] at hac
      subst hac
      clear hTV f2 f3 f4 f5
      generalize yw = Y2 at *
      go_wp2_with (refine ld_arr rfl (.tmp 3) rfl (w.heap.size + 1) rfl HR2.out ?_)
      go_at_call 35
      (with_reducible refine (SH2.out _ ?_).mono ?_)
      · exact H2.out.below BB.out.below
      rintro e w3 ⟨k3, c3, rfl, hge3, _, hk3, hb3⟩
      have hnb : ∀ x, some (⟨k3, 0, none⟩ : Addr) = some x → w.heap.size ≤ x.block := fun x hx => by cases hx; exact Nat.le_trans BB.out.below.size hge3
      have HE := Lib.hid (And.intro hk3 (And.intro hnb (BB.out.go hb3).below))
      clear hk3 hb3 hnb hge3
      go_wp2_with fail
      go_ret
      exact ⟨_, _, rfl, HE.out⟩
    refine Stps2.cons (o := _) ?_ ?_
    · intro ac yw hsz hold hB hp K hK
      have t3 : ac.tmps[3]? = some (.pointer (some ⟨w.heap.size + 1, 0, none⟩)) := hold 3 (by kernel_rfl)
      clear hold hp hsz
      rw [if_pos (by rfl)]
      refine ld8 3 rfl (w.heap.size + 1) ((arrC ch2 ((r2 : Int) - 1) (dm S2 r2) na2 nn2 nc2 ta2 tn2 tc2)) t3 ((BB.out.go hB.below).now.1) (rfl) ?_
      exact hK.out _ _ ⟨hB, rfl, Nat.le_refl _, .inl (Below.refl _ _), fun h => absurd h (by decide)⟩
    refine Stps2.cons (o := _) ?_ ?_
    · intro ac yw hsz hold hB hp K hK
      have e0 := hp 0 (by decide)
      have t6 : ac.tmps[6]? = some (.agg (arrC ch2 ((r2 : Int) - 1) (dm S2 r2) na2 nn2 nc2 ta2 tn2 tc2)) := (List.cons.inj e0).1
      clear hold hp hsz e0
      go_simp
      (go_at_call 23; (with_reducible refine (RK2.out _ (H2.out.below (BB.out.go hB.below).below)).mono ?_); rintro e wz ⟨rfl, hbz⟩)
      exact hK.out _ _ ⟨hB.go hbz, rfl, hbz.size, .inl hbz, fun h => absurd h (by decide)⟩
    refine Stps2.cons (o := _) ?_ ?_
    · intro ac yw hsz hold hB hp K hK
      have t2 : ac.tmps[2]? = some (.pointer (some ⟨w.heap.size, 0, none⟩)) := hold 2 (by kernel_rfl)
      clear hold hp hsz
      rw [if_pos (by rfl)]
      refine ld8 2 rfl (w.heap.size) ((arrC ch1 ((r1 : Int) - 1) (dm S1 r1) na1 nn1 nc1 ta1 tn1 tc1)) t2 ((BB.out.go hB.below).now.2.1) (rfl) ?_
      exact hK.out _ _ ⟨hB, rfl, Nat.le_refl _, .inl (Below.refl _ _), fun h => absurd h (by decide)⟩
    refine Stps2.cons (o := _) ?_ ?_
    · intro ac yw hsz hold hB hp K hK
      have e2 := hp 2 (by decide)
      have t8 : ac.tmps[8]? = some (.agg (arrC ch1 ((r1 : Int) - 1) (dm S1 r1) na1 nn1 nc1 ta1 tn1 tc1)) := (List.cons.inj e2).1
      clear hold hp hsz e2
      go_simp
      (go_at_call 23; (with_reducible refine (RK1.out _ (H1.out.below (BB.out.go hB.below).below)).mono ?_); rintro e wz ⟨rfl, hbz⟩)
      exact hK.out _ _ ⟨hB.go hbz, rfl, hbz.size, .inl hbz, fun h => absurd h (by decide)⟩
    refine Stps2.cons (o := _) ?_ ?_
    · intro ac yw hsz hold hB hp K hK
      have e1 := hp 1 (by decide)
      have t7 : ac.tmps[7]? = some (.int .i64 (r2 : Nat)) := (List.cons.inj e1).1
      have e3 := hp 3 (by decide)
      have t9 : ac.tmps[9]? = some (.int .i64 (r1 : Nat)) := (List.cons.inj e3).1
      clear hold hp hsz e1 e3
      go_simp
      exact hK.out _ _ ⟨hB, rfl, Nat.le_refl _, .inl (Below.refl _ _), fun h => absurd h (by decide)⟩
    refine Stps2.cons (o := _) ?_ ?_
    · intro ac yw hsz hold hB hp K hK
      have e4 := hp 4 (by decide)
      have t10 : ac.tmps[10]? = some (.bool true) := (List.cons.inj e4).1
      clear hold hp hsz e4
      go_simp
      exact hK.out _ _ ⟨hB, rfl, Nat.le_refl _, .inl (Below.refl _ _), fun h => absurd h (by decide)⟩
    exact Stps2.nil _
  · rw [if_neg hlt, if_neg hlt]
    have dl : (r2 : Int) ≤ (r1 : Int) := by omega
    have dd : decide (r1 < r2) = false := decide_eq_false hlt
    by_cases h0 : 0 < r1
    · rw [if_pos h0, if_pos h0]
      have d0 : (0 : Int) < (r1 : Int) := by omega
      clear hlt h0
      unfold arrC
      go_enter Tryz.func26, Tryz.ntmps26
      go_wp2_with fail
      have hWW := BB.out.below
      generalize hW : ((w.alloc (.cells _ 32)).alloc (.cells _ 32)) = YY at *
      clear hW hWW
      refine wp_region_inv2 ⟨(fun j => ([[6], [7], [8], [9], [10], [5]] : List (List Nat)).getD j []), (fun j => ([[], [0], [], [0, 1, 2], [0, 1, 2, 3], [0, 1, 2, 3, 4]] : List (List Nat)).getD j []), []⟩ (fun jj vv yy => match jj with | 0 => vv = [some (.agg (arrC ch2 ((r2 : Int) - 1) (dm S2 r2) na2 nn2 nc2 ta2 tn2 tc2))] | 1 => vv = [some (.int .i64 (r2 : Nat))] | 2 => vv = [some (.agg (arrC ch1 ((r1 : Int) - 1) (dm S1 r1) na1 nn1 nc1 ta1 tn1 tc1))] | 3 => vv = [some (.int .i64 (r1 : Nat))] | 4 => vv = [some (.bool false)] | 5 => vv = [some (.bool false)] | _ => True) (Bag YY (fun _ => True)) (by kernel_rfl) (by kernel_rfl) (by kernel_rfl) (Bag.start YY).drew ?_ ?_ ?_
      · intro jj vv yw yw2 hb h
        match jj, h with
        | 0, h => exact h
        | 1, h => exact h
        | 2, h => exact h
        | 3, h => exact h
        | 4, h => exact h
        | 5, h => exact h
        | _ + 6, h => exact h
      · intro ac yw hsz hdf hold hB hp
        have t5 : ac.tmps[5]? = some (.bool false) := (List.cons.inj (hp 5 (by decide))).1
        have t2 : ac.tmps[2]? = some (.pointer (some ⟨w.heap.size, 0, none⟩)) := hold 2 (by kernel_rfl)
        have t3 : ac.tmps[3]? = some (.pointer (some ⟨w.heap.size + 1, 0, none⟩)) := hold 3 (by kernel_rfl)
        have t4 : ac.tmps[4]? = some (.slice none 0 0) := hold 4 (by kernel_rfl)
        have BB := Lib.hid (BB.out.go hB.below)
        have HR1 := Lib.hid BB.out.now.2.1
        have HR2 := Lib.hid BB.out.now.1
        clear hold hp hB
        obtain ⟨TV, hTV⟩ : ∃ TV : Nat → Value, ∀ i, (ac.tmps[i]?).getD undef = TV i := ⟨_, fun _ => rfl⟩
        have f2 := (hTV 2).symm.trans (congrArg (fun x => Option.getD x undef) t2)
        have f3 := (hTV 3).symm.trans (congrArg (fun x => Option.getD x undef) t3)
        have f4 := (hTV 4).symm.trans (congrArg (fun x => Option.getD x undef) t4)
        have f5 := (hTV 5).symm.trans (congrArg (fun x => Option.getD x undef) t5)
        have hac := act_eq (n := 20) hsz TV hTV
        rw [show ((List.range 20).map TV).toArray = #[TV 0, TV 1, TV 2, TV 3, TV 4, TV 5, TV 6, TV 7, TV 8, TV 9, TV 10, TV 11, TV 12, TV 13, TV 14, TV 15, TV 16, TV 17, TV 18, TV 19] from rfl, f2, f3, f4, f5, hdf] at hac
        simp only [Option.getD_some] at hac
        subst hac
        clear hTV f2 f3 f4 f5
        generalize yw = Y2 at *
        go_wp2_with (refine ld_arr rfl (.tmp 2) rfl (w.heap.size) rfl HR1.out ?_)
        go_at_call 23
        (with_reducible refine (RK1.out _ ?_).mono ?_)
        · exact H1.out.below BB.out.below
        rintro e w4 ⟨rfl, hb4⟩
        have BB := Lib.hid (BB.out.go hb4)
        have HR1 := Lib.hid BB.out.now.2.1
        clear hb4
        go_wp2_with (refine ld_arr rfl (.tmp 2) rfl (w.heap.size) rfl HR1.out ?_)
        go_at_call 35
        (with_reducible refine (SH1.out _ ?_).mono ?_)
        · exact H1.out.below BB.out.below
        rintro e w3 ⟨k3, c3, rfl, hge3, _, hk3, hb3⟩
        have hnb : ∀ x, some (⟨k3, 0, none⟩ : Addr) = some x → w.heap.size ≤ x.block := fun x hx => by cases hx; exact Nat.le_trans BB.out.below.size hge3
        have HE := Lib.hid (And.intro hk3 (And.intro hnb (BB.out.go hb3).below))
        clear hk3 hb3 hnb hge3
        go_wp2_with fail
        go_ret
        exact ⟨_, _, rfl, HE.out⟩
      refine Stps2.cons (o := _) ?_ ?_
      · intro ac yw hsz hold hB hp K hK
        have t3 : ac.tmps[3]? = some (.pointer (some ⟨w.heap.size + 1, 0, none⟩)) := hold 3 (by kernel_rfl)
        clear hold hp hsz
        rw [if_pos (by rfl)]
        refine ld8 3 rfl (w.heap.size + 1) ((arrC ch2 ((r2 : Int) - 1) (dm S2 r2) na2 nn2 nc2 ta2 tn2 tc2)) t3 ((BB.out.go hB.below).now.1) (rfl) ?_
        exact hK.out _ _ ⟨hB, rfl, Nat.le_refl _, .inl (Below.refl _ _), fun h => absurd h (by decide)⟩
      refine Stps2.cons (o := _) ?_ ?_
      · intro ac yw hsz hold hB hp K hK
        have e0 := hp 0 (by decide)
        have t6 : ac.tmps[6]? = some (.agg (arrC ch2 ((r2 : Int) - 1) (dm S2 r2) na2 nn2 nc2 ta2 tn2 tc2)) := (List.cons.inj e0).1
        clear hold hp hsz e0
        go_simp
        (go_at_call 23; (with_reducible refine (RK2.out _ (H2.out.below (BB.out.go hB.below).below)).mono ?_); rintro e wz ⟨rfl, hbz⟩)
        exact hK.out _ _ ⟨hB.go hbz, rfl, hbz.size, .inl hbz, fun h => absurd h (by decide)⟩
      refine Stps2.cons (o := _) ?_ ?_
      · intro ac yw hsz hold hB hp K hK
        have t2 : ac.tmps[2]? = some (.pointer (some ⟨w.heap.size, 0, none⟩)) := hold 2 (by kernel_rfl)
        clear hold hp hsz
        rw [if_pos (by rfl)]
        refine ld8 2 rfl (w.heap.size) ((arrC ch1 ((r1 : Int) - 1) (dm S1 r1) na1 nn1 nc1 ta1 tn1 tc1)) t2 ((BB.out.go hB.below).now.2.1) (rfl) ?_
        exact hK.out _ _ ⟨hB, rfl, Nat.le_refl _, .inl (Below.refl _ _), fun h => absurd h (by decide)⟩
      refine Stps2.cons (o := _) ?_ ?_
      · intro ac yw hsz hold hB hp K hK
        have e2 := hp 2 (by decide)
        have t8 : ac.tmps[8]? = some (.agg (arrC ch1 ((r1 : Int) - 1) (dm S1 r1) na1 nn1 nc1 ta1 tn1 tc1)) := (List.cons.inj e2).1
        clear hold hp hsz e2
        go_simp
        (go_at_call 23; (with_reducible refine (RK1.out _ (H1.out.below (BB.out.go hB.below).below)).mono ?_); rintro e wz ⟨rfl, hbz⟩)
        exact hK.out _ _ ⟨hB.go hbz, rfl, hbz.size, .inl hbz, fun h => absurd h (by decide)⟩
      refine Stps2.cons (o := _) ?_ ?_
      · intro ac yw hsz hold hB hp K hK
        have e1 := hp 1 (by decide)
        have t7 : ac.tmps[7]? = some (.int .i64 (r2 : Nat)) := (List.cons.inj e1).1
        have e3 := hp 3 (by decide)
        have t9 : ac.tmps[9]? = some (.int .i64 (r1 : Nat)) := (List.cons.inj e3).1
        clear hold hp hsz e1 e3
        go_simp
        exact hK.out _ _ ⟨hB, rfl, Nat.le_refl _, .inl (Below.refl _ _), fun h => absurd h (by decide)⟩
      refine Stps2.cons (o := _) ?_ ?_
      · intro ac yw hsz hold hB hp K hK
        have e4 := hp 4 (by decide)
        have t10 : ac.tmps[10]? = some (.bool false) := (List.cons.inj e4).1
        clear hold hp hsz e4
        go_simp
        exact hK.out _ _ ⟨hB, rfl, Nat.le_refl _, .inl (Below.refl _ _), fun h => absurd h (by decide)⟩
      exact Stps2.nil _
    · rw [if_neg h0, if_neg h0]
      have d0 : ¬ (0 : Int) < (r1 : Int) := by omega
      have d1 : (r1 : Int) ≤ 0 := by omega
      clear hlt h0
      unfold arrC
      go_enter Tryz.func26, Tryz.ntmps26
      go_wp2_with fail
      have hWW := BB.out.below
      generalize hW : ((w.alloc (.cells _ 32)).alloc (.cells _ 32)) = YY at *
      clear hW hWW
      refine wp_region_inv2 ⟨(fun j => ([[6], [7], [8], [9], [10], [5]] : List (List Nat)).getD j []), (fun j => ([[], [0], [], [0, 1, 2], [0, 1, 2, 3], [0, 1, 2, 3, 4]] : List (List Nat)).getD j []), []⟩ (fun jj vv yy => match jj with | 0 => vv = [some (.agg (arrC ch2 ((r2 : Int) - 1) (dm S2 r2) na2 nn2 nc2 ta2 tn2 tc2))] | 1 => vv = [some (.int .i64 (r2 : Nat))] | 2 => vv = [some (.agg (arrC ch1 ((r1 : Int) - 1) (dm S1 r1) na1 nn1 nc1 ta1 tn1 tc1))] | 3 => vv = [some (.int .i64 (r1 : Nat))] | 4 => vv = [some (.bool false)] | 5 => vv = [some (.bool false)] | _ => True) (Bag YY (fun _ => True)) (by kernel_rfl) (by kernel_rfl) (by kernel_rfl) (Bag.start YY).drew ?_ ?_ ?_
      · intro jj vv yw yw2 hb h
        match jj, h with
        | 0, h => exact h
        | 1, h => exact h
        | 2, h => exact h
        | 3, h => exact h
        | 4, h => exact h
        | 5, h => exact h
        | _ + 6, h => exact h
      · intro ac yw hsz hdf hold hB hp
        have t5 : ac.tmps[5]? = some (.bool false) := (List.cons.inj (hp 5 (by decide))).1
        have t2 : ac.tmps[2]? = some (.pointer (some ⟨w.heap.size, 0, none⟩)) := hold 2 (by kernel_rfl)
        have t3 : ac.tmps[3]? = some (.pointer (some ⟨w.heap.size + 1, 0, none⟩)) := hold 3 (by kernel_rfl)
        have t4 : ac.tmps[4]? = some (.slice none 0 0) := hold 4 (by kernel_rfl)
        have BB := Lib.hid (BB.out.go hB.below)
        have HR1 := Lib.hid BB.out.now.2.1
        have HR2 := Lib.hid BB.out.now.1
        clear hold hp hB
        obtain ⟨TV, hTV⟩ : ∃ TV : Nat → Value, ∀ i, (ac.tmps[i]?).getD undef = TV i := ⟨_, fun _ => rfl⟩
        have f2 := (hTV 2).symm.trans (congrArg (fun x => Option.getD x undef) t2)
        have f3 := (hTV 3).symm.trans (congrArg (fun x => Option.getD x undef) t3)
        have f4 := (hTV 4).symm.trans (congrArg (fun x => Option.getD x undef) t4)
        have f5 := (hTV 5).symm.trans (congrArg (fun x => Option.getD x undef) t5)
        have hac := act_eq (n := 20) hsz TV hTV
        rw [show ((List.range 20).map TV).toArray = #[TV 0, TV 1, TV 2, TV 3, TV 4, TV 5, TV 6, TV 7, TV 8, TV 9, TV 10, TV 11, TV 12, TV 13, TV 14, TV 15, TV 16, TV 17, TV 18, TV 19] from rfl, f2, f3, f4, f5, hdf] at hac
        simp only [Option.getD_some] at hac
        subst hac
        clear hTV f2 f3 f4 f5
        generalize yw = Y2 at *
        go_wp2_with (refine ld_arr rfl (.tmp 2) rfl (w.heap.size) rfl HR1.out ?_)
        go_at_call 23
        (with_reducible refine (RK1.out _ ?_).mono ?_)
        · exact H1.out.below BB.out.below
        rintro e w4 ⟨rfl, hb4⟩
        have BB := Lib.hid (BB.out.go hb4)
        have HR1 := Lib.hid BB.out.now.2.1
        clear hb4
        have HE : Hid (KRow (w4.alloc (.cells #[.int .i64 1] 3)) .i64 (some ⟨w4.heap.size, 0, none⟩) 1 1 (fun _ => 1) ∧ (∀ x, some (⟨w4.heap.size, 0, none⟩ : Addr) = some x → w.heap.size ≤ x.block) ∧ Below w.heap.size w (w4.alloc (.cells #[.int .i64 1] 3))) := Lib.hid ⟨KRow.one' w4 .i64 1 3, (fun x hx => by cases hx; exact BB.out.below.size), BB.out.below.trans (((Below.refl _ _).alloc (Nat.le_refl _) _).mono BB.out.below.size)⟩
        go_wp2_with fail
        go_ret
        exact ⟨_, _, rfl, HE.out⟩
      refine Stps2.cons (o := _) ?_ ?_
      · intro ac yw hsz hold hB hp K hK
        have t3 : ac.tmps[3]? = some (.pointer (some ⟨w.heap.size + 1, 0, none⟩)) := hold 3 (by kernel_rfl)
        clear hold hp hsz
        rw [if_pos (by rfl)]
        refine ld8 3 rfl (w.heap.size + 1) ((arrC ch2 ((r2 : Int) - 1) (dm S2 r2) na2 nn2 nc2 ta2 tn2 tc2)) t3 ((BB.out.go hB.below).now.1) (rfl) ?_
        exact hK.out _ _ ⟨hB, rfl, Nat.le_refl _, .inl (Below.refl _ _), fun h => absurd h (by decide)⟩
      refine Stps2.cons (o := _) ?_ ?_
      · intro ac yw hsz hold hB hp K hK
        have e0 := hp 0 (by decide)
        have t6 : ac.tmps[6]? = some (.agg (arrC ch2 ((r2 : Int) - 1) (dm S2 r2) na2 nn2 nc2 ta2 tn2 tc2)) := (List.cons.inj e0).1
        clear hold hp hsz e0
        go_simp
        (go_at_call 23; (with_reducible refine (RK2.out _ (H2.out.below (BB.out.go hB.below).below)).mono ?_); rintro e wz ⟨rfl, hbz⟩)
        exact hK.out _ _ ⟨hB.go hbz, rfl, hbz.size, .inl hbz, fun h => absurd h (by decide)⟩
      refine Stps2.cons (o := _) ?_ ?_
      · intro ac yw hsz hold hB hp K hK
        have t2 : ac.tmps[2]? = some (.pointer (some ⟨w.heap.size, 0, none⟩)) := hold 2 (by kernel_rfl)
        clear hold hp hsz
        rw [if_pos (by rfl)]
        refine ld8 2 rfl (w.heap.size) ((arrC ch1 ((r1 : Int) - 1) (dm S1 r1) na1 nn1 nc1 ta1 tn1 tc1)) t2 ((BB.out.go hB.below).now.2.1) (rfl) ?_
        exact hK.out _ _ ⟨hB, rfl, Nat.le_refl _, .inl (Below.refl _ _), fun h => absurd h (by decide)⟩
      refine Stps2.cons (o := _) ?_ ?_
      · intro ac yw hsz hold hB hp K hK
        have e2 := hp 2 (by decide)
        have t8 : ac.tmps[8]? = some (.agg (arrC ch1 ((r1 : Int) - 1) (dm S1 r1) na1 nn1 nc1 ta1 tn1 tc1)) := (List.cons.inj e2).1
        clear hold hp hsz e2
        go_simp
        (go_at_call 23; (with_reducible refine (RK1.out _ (H1.out.below (BB.out.go hB.below).below)).mono ?_); rintro e wz ⟨rfl, hbz⟩)
        exact hK.out _ _ ⟨hB.go hbz, rfl, hbz.size, .inl hbz, fun h => absurd h (by decide)⟩
      refine Stps2.cons (o := _) ?_ ?_
      · intro ac yw hsz hold hB hp K hK
        have e1 := hp 1 (by decide)
        have t7 : ac.tmps[7]? = some (.int .i64 (r2 : Nat)) := (List.cons.inj e1).1
        have e3 := hp 3 (by decide)
        have t9 : ac.tmps[9]? = some (.int .i64 (r1 : Nat)) := (List.cons.inj e3).1
        clear hold hp hsz e1 e3
        go_simp
        exact hK.out _ _ ⟨hB, rfl, Nat.le_refl _, .inl (Below.refl _ _), fun h => absurd h (by decide)⟩
      refine Stps2.cons (o := _) ?_ ?_
      · intro ac yw hsz hold hB hp K hK
        have e4 := hp 4 (by decide)
        have t10 : ac.tmps[10]? = some (.bool false) := (List.cons.inj e4).1
        clear hold hp hsz e4
        go_simp
        exact hK.out _ _ ⟨hB, rfl, Nat.le_refl _, .inl (Below.refl _ _), fun h => absurd h (by decide)⟩
      exact Stps2.nil _
/-- The error of an array of another shape. -/
def cvE (r : Nat) (S : Nat → Int) (q : Nat) (s : Nat → Int) : Int := if r = 0 then 0 else if (decide (r = q) && sameB S s r) = true then 0 else if r = q then 24 else 23
set_option linter.unusedSimpArgs false in
set_option linter.unusedVariables false in
set_option maxHeartbeats 3200000 in
set_option maxRecDepth 100000 in
theorem covers_any (x : Array Value) (S : Nat → Int) (r : Nat) (ch : Bool) (L : Nat) (g P : Nat → Int) (Q : Nat → Nat) (sa : Option Addr) (q sc : Nat) (s : Nat → Int) (w : World) (h : Arr w x S r ch L g P Q) (hr : r ≤ 8) (hs : KRow w .i64 sa q sc s) :
    Calls Tryz.prog 36 #[.agg x, .slice sa q sc] w fun e w' => e = .returned (.int .i64 (cvE r S q s)) ∧ Below w.heap.size w w' := by
  obtain ⟨na, nn, nc, ta, tn, tc, hx, _⟩ := h.form
  subst hx
  have H := Lib.hid h
  have hl := hs.len
  have RK := Lib.hid (fun wz h => rank8_any (arrC ch ((r : Int) - 1) (dm S r) na nn nc ta tn tc) S r ch L g P Q wz h (by omega))
  have SH := Lib.hid (fun wz h => shape8_any (arrC ch ((r : Int) - 1) (dm S r) na nn nc ta tn tc) S r ch L g P Q wz h hr)
  have SM := Lib.hid (fun a c wz (k1 : KRow wz .i64 a r c S) (k2 : KRow wz .i64 sa q sc s) => same_any a r c S sa q sc s wz k1 k2)
  unfold SameTold at SM
  have BB := Lib.hid (((Bag.start w).krow hs).newRow (arrC ch ((r : Int) - 1) (dm S r) na nn nc ta tn tc) 32)
  have HR := Lib.hid BB.out.now.1
  clear h hs hr
  unfold cvE
  by_cases h0 : r = 0
  · rw [if_pos h0]
    have d0 : ((r : Int) == 0) = true := beq_iff_eq.2 (by omega)
    clear h0
    unfold arrC
    go_enter Tryz.func36, Tryz.ntmps36
    go_wp2_with (refine ld_arr rfl (.tmp 2) rfl w.heap.size rfl HR.out ?_)
    go_at_call 23
    (with_reducible refine (RK.out _ ?_).mono ?_)
    · exact H.out.below BB.out.below
    rintro e w2 ⟨rfl, hb2⟩
    have BB := Lib.hid (BB.out.go hb2)
    have HR := Lib.hid BB.out.now.1
    clear hb2
    go_wp2_with fail
    go_ret
    exact ⟨rfl, BB.out.below⟩
  · rw [if_neg h0]
    have d0 : ((r : Int) == 0) = false := beq_eq_false_iff_ne.2 (by omega)
    cases hb : (decide (r = q) && sameB S s r) with
    | true =>
      rw [if_pos rfl]
      rw [hb] at SM
      clear h0 hb
      unfold arrC
      go_enter Tryz.func36, Tryz.ntmps36
      go_wp2_with (refine ld_arr rfl (.tmp 2) rfl w.heap.size rfl HR.out ?_)
      go_at_call 23
      (with_reducible refine (RK.out _ ?_).mono ?_)
      · exact H.out.below BB.out.below
      rintro e w2 ⟨rfl, hb2⟩
      have BB := Lib.hid (BB.out.go hb2)
      have HR := Lib.hid BB.out.now.1
      clear hb2
      go_wp2_with (refine ld8G (by rfl) 2 rfl w.heap.size (arrC ch ((r : Int) - 1) (dm S r) na nn nc ta tn tc) (by rfl) HR.out rfl ?_)
      go_at_call 35
      (with_reducible refine (SH.out _ ?_).mono ?_)
      · exact H.out.below BB.out.below
      rintro e w3 ⟨a3, c3, rfl, hk3, hb3⟩
      have BB := Lib.hid (BB.out.go hb3)
      have HK3 := Lib.hid hk3
      clear hk3 hb3
      go_wp2_with fail
      go_at_call 54
      (with_reducible refine (SM.out _ _ _ ?_ ?_).mono ?_)
      · exact HK3.out
      · exact BB.out.now.2.1
      rintro e w4 ⟨rfl, hb4⟩
      have BB := Lib.hid (BB.out.go hb4)
      have HR := Lib.hid BB.out.now.1
      clear hb4
      go_wp2_with fail
      go_ret
      exact ⟨rfl, BB.out.below⟩
    | false =>
      rw [if_neg (by decide)]
      rw [hb] at SM
      by_cases h1 : r = q
      · rw [if_pos h1]
        have d1 : ((r : Int) != (q : Int)) = false := by rw [h1]; exact bne_self_eq_false _
        clear h0 h1 hb
        unfold arrC
        go_enter Tryz.func36, Tryz.ntmps36
        go_wp2_with (refine ld_arr rfl (.tmp 2) rfl w.heap.size rfl HR.out ?_)
        go_at_call 23
        (with_reducible refine (RK.out _ ?_).mono ?_)
        · exact H.out.below BB.out.below
        rintro e w2 ⟨rfl, hb2⟩
        have BB := Lib.hid (BB.out.go hb2)
        have HR := Lib.hid BB.out.now.1
        clear hb2
        go_wp2_with (refine ld8G (by rfl) 2 rfl w.heap.size (arrC ch ((r : Int) - 1) (dm S r) na nn nc ta tn tc) (by rfl) HR.out rfl ?_)
        go_at_call 35
        (with_reducible refine (SH.out _ ?_).mono ?_)
        · exact H.out.below BB.out.below
        rintro e w3 ⟨a3, c3, rfl, hk3, hb3⟩
        have BB := Lib.hid (BB.out.go hb3)
        have HK3 := Lib.hid hk3
        clear hk3 hb3
        go_wp2_with fail
        go_at_call 54
        (with_reducible refine (SM.out _ _ _ ?_ ?_).mono ?_)
        · exact HK3.out
        · exact BB.out.now.2.1
        rintro e w4 ⟨rfl, hb4⟩
        have BB := Lib.hid (BB.out.go hb4)
        have HR := Lib.hid BB.out.now.1
        clear hb4
        go_wp2_with (refine ld_arr rfl (.tmp 2) rfl w.heap.size rfl HR.out ?_)
        go_at_call 23
        (with_reducible refine (RK.out _ ?_).mono ?_)
        · exact H.out.below BB.out.below
        rintro e w5 ⟨rfl, hb5⟩
        have BB := Lib.hid (BB.out.go hb5)
        have HR := Lib.hid BB.out.now.1
        clear hb5
        go_wp2_with fail
        go_ret
        exact ⟨rfl, BB.out.below⟩
      · rw [if_neg h1]
        have d1 : ((r : Int) != (q : Int)) = true := bne_iff_ne.2 (by omega)
        clear h0 h1 hb
        unfold arrC
        go_enter Tryz.func36, Tryz.ntmps36
        go_wp2_with (refine ld_arr rfl (.tmp 2) rfl w.heap.size rfl HR.out ?_)
        go_at_call 23
        (with_reducible refine (RK.out _ ?_).mono ?_)
        · exact H.out.below BB.out.below
        rintro e w2 ⟨rfl, hb2⟩
        have BB := Lib.hid (BB.out.go hb2)
        have HR := Lib.hid BB.out.now.1
        clear hb2
        go_wp2_with (refine ld8G (by rfl) 2 rfl w.heap.size (arrC ch ((r : Int) - 1) (dm S r) na nn nc ta tn tc) (by rfl) HR.out rfl ?_)
        go_at_call 35
        (with_reducible refine (SH.out _ ?_).mono ?_)
        · exact H.out.below BB.out.below
        rintro e w3 ⟨a3, c3, rfl, hk3, hb3⟩
        have BB := Lib.hid (BB.out.go hb3)
        have HK3 := Lib.hid hk3
        clear hk3 hb3
        go_wp2_with fail
        go_at_call 54
        (with_reducible refine (SM.out _ _ _ ?_ ?_).mono ?_)
        · exact HK3.out
        · exact BB.out.now.2.1
        rintro e w4 ⟨rfl, hb4⟩
        have BB := Lib.hid (BB.out.go hb4)
        have HR := Lib.hid BB.out.now.1
        clear hb4
        go_wp2_with (refine ld_arr rfl (.tmp 2) rfl w.heap.size rfl HR.out ?_)
        go_at_call 23
        (with_reducible refine (RK.out _ ?_).mono ?_)
        · exact H.out.below BB.out.below
        rintro e w5 ⟨rfl, hb5⟩
        have BB := Lib.hid (BB.out.go hb5)
        have HR := Lib.hid BB.out.now.1
        clear hb5
        go_wp2_with fail
        go_ret
        exact ⟨rfl, BB.out.below⟩
theorem out_sh {s : Nat → Int} {k q : Nat} (hk : k < q) (h : shB s q = true) : shB (outF s k) (q - 1) = true ∧ itm (outF s k) (q - 1) = itm (wiF s (k : Nat) 1) q := by
  have h1 := wi_sh (v := 1) hk h (by decide) (by omega)
  obtain ⟨h8, hax⟩ := sh_ax h1
  obtain ⟨a1, a2⟩ := ax_iff.1 hax
  obtain ⟨e1, e2⟩ := ins_rm (S := outF s k) (k := k) (q := q - 1) (by omega)
  rw [ins_out, show q - 1 + 1 = q by omega] at e1 e2
  refine ⟨?_, e2.symm⟩
  unfold shB
  rw [decide_eq_true (show q - 1 ≤ 8 by omega), Bool.true_and]
  refine ax_iff.2 ⟨fun j hj => ?_, by rw [← e1]; exact a2⟩
  unfold outF
  split
  · exact (ax_le4 h (by omega)).1
  · exact (ax_le4 h (by omega)).1
set_option linter.unusedSimpArgs false in
set_option linter.unusedVariables false in
set_option maxHeartbeats 3200000 in
set_option maxRecDepth 100000 in
theorem extended_any (x : Array Value) (S : Nat → Int) (r : Nat) (ch : Bool) (L : Nat) (g P : Nat → Int) (Q : Nat → Nat) (sa : Option Addr) (q sc : Nat) (s : Nat → Int) (k : Nat) (w : World) (h : Arr w x S r ch L g P Q) (hsh : shB S r = true) (hc : itm S r = (L : Nat)) (hs : KRow w .i64 sa q sc s) (hss : shB s q = true) (hk : k < q) :
    Calls Tryz.prog 27 #[.agg x, .slice sa q sc, .int .i64 (k : Nat)] w fun e w' => MoTold (exE r S q s k) (exS r S q s k) q ch (itm (exS r S q s k) q).toNat (fun j => elC L g 32 (exG r j)) (fun j => elP L P (exG r j)) (fun j => elQ L Q (exG r j)) w w' e := by
  obtain ⟨na, nn, nc, ta, tn, tc, hx, _⟩ := h.form
  subst hx
  have hr := (sh_ax hsh).1
  have hq8 := (sh_ax hss).1
  have hl := hs.len
  obtain ⟨hos, hoi⟩ := out_sh hk hss
  have hS := Lib.hid (fun hE => ex_sh hk hss hsh hE)
  have H := Lib.hid h
  have RK := Lib.hid (fun wz h => rank8_any (arrC ch ((r : Int) - 1) (dm S r) na nn nc ta tn tc) S r ch L g P Q wz h (by omega))
  have SH := Lib.hid (fun wz h => shape8_any (arrC ch ((r : Int) - 1) (dm S r) na nn nc ta tn tc) S r ch L g P Q wz h hr)
  have WO := Lib.hid (fun wz (h : KRow wz .i64 sa q sc s) => without_new sa q sc s k wz h (by omega) hk)
  have WS : Hid (∀ a c wz, KRow wz .i64 a q c S → Calls Tryz.prog 53 #[.slice a q c, .int .i64 (k : Nat)] wz fun e w' => ∃ a' c', e = .returned (.slice a' (q - 1) c') ∧ KRow w' .i64 a' (q - 1) c' (outF S k) ∧ (a' = none → c' = 0) ∧ Below wz.heap.size wz w') := Lib.hid (fun a c wz h => without_new a q c S k wz h (by omega) hk)
  have SM : Hid (∀ a c a2 c2 (f : Nat → Int) wz, KRow wz .i64 a (q - 1) c f → KRow wz .i64 a2 (q - 1) c2 (outF s k) → Calls Tryz.prog 54 #[.slice a (q - 1) c, .slice a2 (q - 1) c2] wz fun e w' => e = .returned (.bool (sameB f (outF s k) (q - 1))) ∧ Below wz.heap.size wz w') := Lib.hid (fun a c a2 c2 f wz k1 k2 => by
    have := same_any a (q - 1) c f a2 (q - 1) c2 (outF s k) wz k1 k2
    rw [decide_eq_true rfl, Bool.true_and] at this
    exact this)
  have LY : Hid (∀ a2 c2 wz, Arr wz (arrC ch ((r : Int) - 1) (dm S r) na nn nc ta tn tc) S r ch L g P Q → KRow wz .i64 a2 (q - 1) c2 (outF s k) → (a2 = none → c2 = 0) → Calls Tryz.prog 37 #[.agg (arrC ch ((r : Int) - 1) (dm S r) na nn nc ta tn tc), .slice a2 (q - 1) c2, .int .i64 (k : Nat)] wz fun e w' => ∃ y, e = .returned (.agg y) ∧ Arr w' y (wiF s (k : Nat) 1) q ch (itm (wiF s (k : Nat) 1) q).toNat (fun j => elC L g 32 (exG r j)) (fun j => elP L P (exG r j)) (fun j => elQ L Q (exG r j)) ∧ Below wz.heap.size wz w') := Lib.hid (fun a2 c2 wz q0 k2 n2 => by
    have := layer_any (arrC ch ((r : Int) - 1) (dm S r) na nn nc ta tn tc) S r ch L g P Q a2 (q - 1) c2 (outF s k) k wz q0 hr k2 n2 (by omega) (by omega) hos
    rw [ins_out, hoi, show q - 1 + 1 = q by omega] at this
    exact this)
  have BB := Lib.hid ((((Bag.start w).krow hs).newRow (arrC ch ((r : Int) - 1) (dm S r) na nn nc ta tn tc) 32).newRow zerC 32)
  simp only [World.size_alloc] at BB
  have HNO : Hid (∀ E wz, E ≠ 0 → Below w.heap.size w wz → MoTold E (exS r S q s k) q ch (itm (exS r S q s k) q).toNat (fun j => elC L g 32 (exG r j)) (fun j => elP L P (exG r j)) (fun j => elQ L Q (exG r j)) w (wz.setRow (w.heap.size + 1) zerC) (.returned (.tuple #[.agg zerC, .int .i64 E]))) := Lib.hid (fun E wz hE hb => MoTold.no hE (below_put hb (show w.heap.size ≤ w.heap.size + 1 by omega) zerC))
  clear h hs hos hoi
  by_cases h0 : r = 0
  · have eE : exE r S q s k = 0 := by unfold exE; rw [if_pos h0]
    have eS : exS r S q s k = wiF s (k : Nat) 1 := by unfold exS exN; rw [if_neg (by omega)]
    rw [eE, eS]
    have d0 : ((r : Int) == 0) = true := beq_iff_eq.2 (by omega)
    clear h0 eE eS hS HNO hsh hss hc
    unfold arrC
    go_enter Tryz.func27, Tryz.ntmps27
    go_wp2_with fail
    go_at_call 53
    (with_reducible refine (WO.out _ ?_).mono ?_)
    · exact BB.out.now.2.2.1
    rintro e w2 ⟨a2, c2, rfl, hk2, hn2, hb2⟩
    have BB := Lib.hid (BB.out.go hb2)
    have HK2 := Lib.hid hk2
    have HN2 := Lib.hid hn2
    have hl2 := hk2.len
    have HR := Lib.hid BB.out.now.2.1
    clear hk2 hn2 hb2
    go_wp2_with (refine ld_arr rfl (.tmp 3) rfl w.heap.size rfl HR.out ?_)
    go_at_call 23
    (with_reducible refine (RK.out _ ?_).mono ?_)
    · exact H.out.below BB.out.below
    rintro e w3 ⟨rfl, hb3⟩
    have BB := Lib.hid (BB.out.go hb3)
    have HK2 := Lib.hid (HK2.out.below hb3)
    have HR := Lib.hid BB.out.now.2.1
    clear hb3
    go_wp2_with (refine ld_arr rfl (.tmp 3) rfl w.heap.size rfl HR.out ?_)
    go_at_call 37
    (refine (LY.out _ _ _ (H.out.below BB.out.below) HK2.out HN2.out).mono ?_)
    rintro e w8 ⟨y8, rfl, h8, hb8⟩
    have BB := Lib.hid (BB.out.go hb8)
    have HZ := Lib.hid BB.out.now.1
    have HE := Lib.hid (MoTold.yes (h8.put HZ.out y8) (below_put BB.out.below (show w.heap.size ≤ w.heap.size + 1 by omega) y8))
    obtain ⟨n8, m8, d8, u8, v8, z8, hx8, _⟩ := h8.form
    subst hx8
    clear h8 hb8
    unfold arrC
    unfold arrC at HE
    go_wp2_with (refine st_arr rfl (.tmp 6) (.tmp 19) rfl (w.heap.size + 1) rfl _ _ _ _ _ _ _ _ _ rfl HZ.out rfl ?_)
    exact bodyPost_ret (res_arr2 Tryz.results27 rfl rfl (HZ.out.put _) rfl) rfl HE.out
  · have d0 : ((r : Int) == 0) = false := beq_eq_false_iff_ne.2 (by omega)
    by_cases h1 : r + 1 = q
    · have eS : exS r S q s k = wiF s (k : Nat) 1 := by unfold exS exN; rw [if_neg (by omega)]
      have w1 := IntWalk.i64_in ((q : Int) - 1) (by omega)
      have d1 : ((r : Int) == (q : Int) - 1) = true := beq_iff_eq.2 (by omega)
      obtain rfl : r = q - 1 := by omega
      have d2 : (((q - 1 : Nat) : Int) == (q : Int) - 1) = true := beq_iff_eq.2 (by omega)
      have SM := Lib.hid (fun a c a2 c2 wz k1 k2 => SM.out a c a2 c2 S wz k1 k2)
      cases hne : neB (insF S k 1) s k q with
      | true =>
        have eE : exE (q - 1) S q s k = 0 := by unfold exE; rw [if_neg h0, if_pos h1, hne]; rfl
        rw [ne_ins 1 hk, hne] at SM
        rw [eE, eS]
        clear h0 h1 eE eS hS HNO hsh hss hc hne
        unfold arrC
        go_enter Tryz.func27, Tryz.ntmps27
        go_wp2_with fail
        go_at_call 53
        (with_reducible refine (WO.out _ ?_).mono ?_)
        · exact BB.out.now.2.2.1
        rintro e w2 ⟨a2, c2, rfl, hk2, hn2, hb2⟩
        have BB := Lib.hid (BB.out.go hb2)
        have HK2 := Lib.hid hk2
        have HN2 := Lib.hid hn2
        have hl2 := hk2.len
        have HR := Lib.hid BB.out.now.2.1
        clear hk2 hn2 hb2
        go_wp2_with (refine ld_arr rfl (.tmp 3) rfl w.heap.size rfl HR.out ?_)
        go_at_call 23
        (with_reducible refine (RK.out _ ?_).mono ?_)
        · exact H.out.below BB.out.below
        rintro e w3 ⟨rfl, hb3⟩
        have BB := Lib.hid (BB.out.go hb3)
        have HK2 := Lib.hid (HK2.out.below hb3)
        have HR := Lib.hid BB.out.now.2.1
        clear hb3
        go_wp2_with (refine ld_arr rfl (.tmp 3) rfl w.heap.size rfl HR.out ?_)
        go_at_call 35
        (with_reducible refine (SH.out _ ?_).mono ?_)
        · exact H.out.below BB.out.below
        rintro e w4 ⟨a4, c4, rfl, hk4, hb4⟩
        have BB := Lib.hid (BB.out.go hb4)
        have HK4 := Lib.hid hk4
        have hl4 := hk4.len
        have HK2 := Lib.hid (HK2.out.below hb4)
        clear hk4 hb4
        go_wp2_with fail
        go_at_call 54
        (with_reducible refine (SM.out _ _ _ _ _ HK4.out HK2.out).mono ?_)
        rintro e w5 ⟨rfl, hb5⟩
        have BB := Lib.hid (BB.out.go hb5)
        have HK2 := Lib.hid (HK2.out.below hb5)
        have HR := Lib.hid BB.out.now.2.1
        clear hb5 HK4
        go_wp2_with (refine ld_arr rfl (.tmp 3) rfl w.heap.size rfl HR.out ?_)
        go_at_call 37
        (refine (LY.out _ _ _ (H.out.below BB.out.below) HK2.out HN2.out).mono ?_)
        rintro e w8 ⟨y8, rfl, h8, hb8⟩
        have BB := Lib.hid (BB.out.go hb8)
        have HZ := Lib.hid BB.out.now.1
        have HE := Lib.hid (MoTold.yes (h8.put HZ.out y8) (below_put BB.out.below (show w.heap.size ≤ w.heap.size + 1 by omega) y8))
        obtain ⟨n8, m8, d8, u8, v8, z8, hx8, _⟩ := h8.form
        subst hx8
        clear h8 hb8
        unfold arrC
        unfold arrC at HE
        go_wp2_with (refine st_arr rfl (.tmp 6) (.tmp 34) rfl (w.heap.size + 1) rfl _ _ _ _ _ _ _ _ _ rfl HZ.out rfl ?_)
        exact bodyPost_ret (res_arr2 Tryz.results27 rfl rfl (HZ.out.put _) rfl) rfl HE.out
      | false =>
        have eE : exE (q - 1) S q s k = 24 := by unfold exE; rw [if_neg h0, if_pos h1, hne]; rfl
        rw [ne_ins 1 hk, hne] at SM
        rw [eE]
        clear h0 h1 eE eS hS hsh hss hc hne
        unfold arrC
        go_enter Tryz.func27, Tryz.ntmps27
        go_wp2_with fail
        go_at_call 53
        (with_reducible refine (WO.out _ ?_).mono ?_)
        · exact BB.out.now.2.2.1
        rintro e w2 ⟨a2, c2, rfl, hk2, hn2, hb2⟩
        have BB := Lib.hid (BB.out.go hb2)
        have HK2 := Lib.hid hk2
        have HN2 := Lib.hid hn2
        have hl2 := hk2.len
        have HR := Lib.hid BB.out.now.2.1
        clear hk2 hn2 hb2
        go_wp2_with (refine ld_arr rfl (.tmp 3) rfl w.heap.size rfl HR.out ?_)
        go_at_call 23
        (with_reducible refine (RK.out _ ?_).mono ?_)
        · exact H.out.below BB.out.below
        rintro e w3 ⟨rfl, hb3⟩
        have BB := Lib.hid (BB.out.go hb3)
        have HK2 := Lib.hid (HK2.out.below hb3)
        have HR := Lib.hid BB.out.now.2.1
        clear hb3
        go_wp2_with (refine ld_arr rfl (.tmp 3) rfl w.heap.size rfl HR.out ?_)
        go_at_call 35
        (with_reducible refine (SH.out _ ?_).mono ?_)
        · exact H.out.below BB.out.below
        rintro e w4 ⟨a4, c4, rfl, hk4, hb4⟩
        have BB := Lib.hid (BB.out.go hb4)
        have HK4 := Lib.hid hk4
        have hl4 := hk4.len
        have HK2 := Lib.hid (HK2.out.below hb4)
        clear hk4 hb4
        go_wp2_with fail
        go_at_call 54
        (with_reducible refine (SM.out _ _ _ _ _ HK4.out HK2.out).mono ?_)
        rintro e w5 ⟨rfl, hb5⟩
        have BB := Lib.hid (BB.out.go hb5)
        have HK2 := Lib.hid (HK2.out.below hb5)
        have HR := Lib.hid BB.out.now.2.1
        clear hb5 HK4
        have HZ := Lib.hid BB.out.now.1
        have HE := Lib.hid (HNO.out 24 _ (by decide) BB.out.below)
        go_wp2_with (refine st_arr rfl (.tmp 6) (.tmp 30) rfl (w.heap.size + 1) rfl false 0 (fun _ => 0) none 0 0 none 0 0 rfl HZ.out rfl ?_)
        exact bodyPost_ret (res_arr2 Tryz.results27 rfl rfl (HZ.out.put _) rfl) rfl HE.out
    · have w1 := IntWalk.i64_in ((q : Int) - 1) (by omega)
      have d1 : ((r : Int) == (q : Int) - 1) = false := beq_eq_false_iff_ne.2 (by omega)
      by_cases h2 : r = q
      · subst h2
        have d2 : ((r : Int) == (r : Int)) = true := beq_self_eq_true _
        have SM := Lib.hid (fun a c a2 c2 wz k1 k2 => SM.out a c a2 c2 (outF S k) wz k1 k2)
        cases hne : neB S s k r with
        | true =>
          have eE : exE r S r s k = 0 := by unfold exE; rw [if_neg h0, if_neg h1, if_pos rfl, hne]; rfl
          rw [ne_out hk, hne] at SM
          have hi := neB_iff.1 hne
          have HX : Hid (∀ wz, Below w.heap.size w wz → Arr wz (arrC ch ((r : Int) - 1) (dm S r) na nn nc ta tn tc) (exS r S r s k) r ch (itm (exS r S r s k) r).toNat (fun j => elC L g 32 (exG r j)) (fun j => elP L P (exG r j)) (fun j => elQ L Q (exG r j))) := Lib.hid (fun wz hb => by
            have eM : (itm (exS r S r s k) r).toNat = L := by rw [(hS.out eE).2.2.2 h0, hc]; rfl
            rw [eM]
            refine ((H.out.below hb).on (fun j hj => ?_) (fun j hj => ?_) (fun j hj => ?_)).shape (fun j hj => ?_)
            · show g j = elC L g 32 (exG r j)
              unfold elC exG; rw [if_neg h0, if_pos (by omega)]; rfl
            · show P j = elP L P (exG r j)
              unfold elP exG; rw [if_neg h0, if_pos (by omega)]; rfl
            · show Q j = elQ L Q (exG r j)
              unfold elQ exG; rw [if_neg h0, if_pos (by omega)]; rfl
            · unfold exS exN
              rw [if_pos rfl]
              by_cases e : j = k
              · subst e; rw [wi_at]
              · rw [wi_off _ e]; exact hi j hj e)
          rw [eE]
          clear h0 h1 eE hS HNO hsh hss hc hne hi
          unfold arrC
          go_enter Tryz.func27, Tryz.ntmps27
          go_wp2_with fail
          go_at_call 53
          (with_reducible refine (WO.out _ ?_).mono ?_)
          · exact BB.out.now.2.2.1
          rintro e w2 ⟨a2, c2, rfl, hk2, hn2, hb2⟩
          have BB := Lib.hid (BB.out.go hb2)
          have HK2 := Lib.hid hk2
          have HN2 := Lib.hid hn2
          have hl2 := hk2.len
          have HR := Lib.hid BB.out.now.2.1
          clear hk2 hn2 hb2
          go_wp2_with (refine ld_arr rfl (.tmp 3) rfl w.heap.size rfl HR.out ?_)
          go_at_call 23
          (with_reducible refine (RK.out _ ?_).mono ?_)
          · exact H.out.below BB.out.below
          rintro e w3 ⟨rfl, hb3⟩
          have BB := Lib.hid (BB.out.go hb3)
          have HK2 := Lib.hid (HK2.out.below hb3)
          have HR := Lib.hid BB.out.now.2.1
          clear hb3
          go_wp2_with (refine ld_arr rfl (.tmp 3) rfl w.heap.size rfl HR.out ?_)
          go_at_call 35
          (with_reducible refine (SH.out _ ?_).mono ?_)
          · exact H.out.below BB.out.below
          rintro e w4 ⟨a4, c4, rfl, hk4, hb4⟩
          have BB := Lib.hid (BB.out.go hb4)
          have HK4 := Lib.hid hk4
          have hl4 := hk4.len
          have HK2 := Lib.hid (HK2.out.below hb4)
          clear hk4 hb4
          go_wp2_with fail
          go_at_call 53
          (with_reducible refine (WS.out _ _ _ HK4.out).mono ?_)
          rintro e w6 ⟨a6, c6, rfl, hk6, _, hb6⟩
          have BB := Lib.hid (BB.out.go hb6)
          have HK4 := Lib.hid hk6
          have hl6 := hk6.len
          have HK2 := Lib.hid (HK2.out.below hb6)
          clear hk6 hb6
          go_wp2_with fail
          go_at_call 54
          (with_reducible refine (SM.out _ _ _ _ _ HK4.out HK2.out).mono ?_)
          rintro e w5 ⟨rfl, hb5⟩
          have BB := Lib.hid (BB.out.go hb5)
          have HK2 := Lib.hid (HK2.out.below hb5)
          have HR := Lib.hid BB.out.now.2.1
          clear hb5 HK4
          have HZ := Lib.hid BB.out.now.1
          have HE := Lib.hid (MoTold.yes ((HX.out _ BB.out.below).put HZ.out (arrC ch ((r : Int) - 1) (dm S r) na nn nc ta tn tc)) (below_put BB.out.below (show w.heap.size ≤ w.heap.size + 1 by omega) (arrC ch ((r : Int) - 1) (dm S r) na nn nc ta tn tc)))
          unfold arrC at HE
          go_wp2_with (first
            | (refine ld_arr rfl (.tmp 3) rfl w.heap.size rfl HR.out ?_)
            | (refine st_arr rfl (.tmp 6) (.tmp 47) rfl (w.heap.size + 1) rfl _ _ _ _ _ _ _ _ _ rfl HZ.out rfl ?_))
          exact bodyPost_ret (res_arr2 Tryz.results27 rfl rfl (HZ.out.put _) rfl) rfl HE.out
        | false =>
          have eE : exE r S r s k = 24 := by unfold exE; rw [if_neg h0, if_neg h1, if_pos rfl, hne]; rfl
          rw [ne_out hk, hne] at SM
          rw [eE]
          clear h0 h1 eE hS hsh hss hc hne
          unfold arrC
          go_enter Tryz.func27, Tryz.ntmps27
          go_wp2_with fail
          go_at_call 53
          (with_reducible refine (WO.out _ ?_).mono ?_)
          · exact BB.out.now.2.2.1
          rintro e w2 ⟨a2, c2, rfl, hk2, hn2, hb2⟩
          have BB := Lib.hid (BB.out.go hb2)
          have HK2 := Lib.hid hk2
          have HN2 := Lib.hid hn2
          have hl2 := hk2.len
          have HR := Lib.hid BB.out.now.2.1
          clear hk2 hn2 hb2
          go_wp2_with (refine ld_arr rfl (.tmp 3) rfl w.heap.size rfl HR.out ?_)
          go_at_call 23
          (with_reducible refine (RK.out _ ?_).mono ?_)
          · exact H.out.below BB.out.below
          rintro e w3 ⟨rfl, hb3⟩
          have BB := Lib.hid (BB.out.go hb3)
          have HK2 := Lib.hid (HK2.out.below hb3)
          have HR := Lib.hid BB.out.now.2.1
          clear hb3
          go_wp2_with (refine ld_arr rfl (.tmp 3) rfl w.heap.size rfl HR.out ?_)
          go_at_call 35
          (with_reducible refine (SH.out _ ?_).mono ?_)
          · exact H.out.below BB.out.below
          rintro e w4 ⟨a4, c4, rfl, hk4, hb4⟩
          have BB := Lib.hid (BB.out.go hb4)
          have HK4 := Lib.hid hk4
          have hl4 := hk4.len
          have HK2 := Lib.hid (HK2.out.below hb4)
          clear hk4 hb4
          go_wp2_with fail
          go_at_call 53
          (with_reducible refine (WS.out _ _ _ HK4.out).mono ?_)
          rintro e w6 ⟨a6, c6, rfl, hk6, _, hb6⟩
          have BB := Lib.hid (BB.out.go hb6)
          have HK4 := Lib.hid hk6
          have hl6 := hk6.len
          have HK2 := Lib.hid (HK2.out.below hb6)
          clear hk6 hb6
          go_wp2_with fail
          go_at_call 54
          (with_reducible refine (SM.out _ _ _ _ _ HK4.out HK2.out).mono ?_)
          rintro e w5 ⟨rfl, hb5⟩
          have BB := Lib.hid (BB.out.go hb5)
          have HK2 := Lib.hid (HK2.out.below hb5)
          have HR := Lib.hid BB.out.now.2.1
          clear hb5 HK4
          have HZ := Lib.hid BB.out.now.1
          have HE := Lib.hid (HNO.out 24 _ (by decide) BB.out.below)
          go_wp2_with (refine st_arr rfl (.tmp 6) (.tmp 46) rfl (w.heap.size + 1) rfl false 0 (fun _ => 0) none 0 0 none 0 0 rfl HZ.out rfl ?_)
          exact bodyPost_ret (res_arr2 Tryz.results27 rfl rfl (HZ.out.put _) rfl) rfl HE.out
      · have d2 : ((r : Int) == (q : Int)) = false := beq_eq_false_iff_ne.2 (by omega)
        have eE : exE r S q s k = 23 := by unfold exE; rw [if_neg h0, if_neg h1, if_neg h2]
        rw [eE]
        clear h0 h1 h2 eE hS hsh hss hc
        unfold arrC
        go_enter Tryz.func27, Tryz.ntmps27
        go_wp2_with fail
        go_at_call 53
        (with_reducible refine (WO.out _ ?_).mono ?_)
        · exact BB.out.now.2.2.1
        rintro e w2 ⟨a2, c2, rfl, hk2, hn2, hb2⟩
        have BB := Lib.hid (BB.out.go hb2)
        have HK2 := Lib.hid hk2
        have HN2 := Lib.hid hn2
        have hl2 := hk2.len
        have HR := Lib.hid BB.out.now.2.1
        clear hk2 hn2 hb2
        go_wp2_with (refine ld_arr rfl (.tmp 3) rfl w.heap.size rfl HR.out ?_)
        go_at_call 23
        (with_reducible refine (RK.out _ ?_).mono ?_)
        · exact H.out.below BB.out.below
        rintro e w3 ⟨rfl, hb3⟩
        have BB := Lib.hid (BB.out.go hb3)
        have HK2 := Lib.hid (HK2.out.below hb3)
        have HR := Lib.hid BB.out.now.2.1
        clear hb3
        have HZ := Lib.hid BB.out.now.1
        have HE := Lib.hid (HNO.out 23 _ (by decide) BB.out.below)
        go_wp2_with (refine st_arr rfl (.tmp 6) (.tmp 48) rfl (w.heap.size + 1) rfl false 0 (fun _ => 0) none 0 0 none 0 0 rfl HZ.out rfl ?_)
        exact bodyPost_ret (res_arr2 Tryz.results27 rfl rfl (HZ.out.put _) rfl) rfl HE.out
end Go.Proofs.YtifnamlgkooacaaGreatDoor

namespace Go.Proofs.YtifnamlgkooacaaGreatDoor
open Go.RowKit
/-- A row of integers that the call makes and that grows. -/
def OwnI (y0 w : World) (a : Option Addr) (k c : Nat) (f : Nat → Int) : Prop := Below y0.heap.size y0 w ∧ w.ownsRow y0.heap.size 3 1 (.slice a k c) k (kcs .i64 f k)
theorem OwnI.nil (y0 : World) (f : Nat → Int) : OwnI y0 y0 none 0 0 f := ⟨Below.refl _ _, World.ownsRow_nil _ _ _ _⟩
theorem OwnI.go {y0 w w' : World} {a : Option Addr} {k c : Nat} {f : Nat → Int} (h : OwnI y0 w a k c f) (hb : Below w.heap.size w w') : OwnI y0 w' a k c f := ⟨h.1.trans (hb.mono h.1.size), own_below h.2 hb⟩
theorem OwnI.krow {y0 w : World} {a : Option Addr} {k c : Nat} {f : Nat → Int} (h : OwnI y0 w a k c f) : KRow w .i64 a k c f := by
  obtain ⟨a', c', e, q⟩ := KRow.of_own h.2
  cases e
  exact q
/-- One number more. -/
theorem app1_step {y0 wr : World} {a : Option Addr} {k c : Nat} {f : Nat → Int} (h : OwnI y0 wr a k c f) {x : Int} (hx : x = f k) (hk : k + 1 ≤ 1000000) :
    ∃ a' c' y1, (Builtin.append_ #[22, 22] 22 #[.slice a k c, .slice (some ⟨wr.heap.size, 0, none⟩) 1 1]).run Tryz.prog (wr.alloc (.cells #[.int .i64 x] 3)) = .ok (.slice a' (k + 1) c') y1 ∧ OwnI y0 y1 a' (k + 1) c' f := by
  have hb : Below wr.heap.size wr (wr.alloc (.cells #[.int .i64 x] 3)) := (Below.refl _ _).alloc (Nat.le_refl _) _
  have h2 := own_below h.2 hb
  obtain ⟨v', w', e1, e2, e3⟩ := run_append_krow 22 y0.heap.size (.slice a k c) k _ h2 (some ⟨wr.heap.size, 0, none⟩) 1 1 (fun _ => x) (KRow.one' wr .i64 x 3) (fun e => by cases e) hk (by have := h.1.size; rw [World.size_alloc]; omega)
  have e4 : kcs .i64 f k ++ kcs .i64 (fun _ => x) 1 = kcs .i64 f (k + 1) := by rw [hx]; rfl
  rw [e4] at e2
  obtain ⟨a', c', rfl, _⟩ := KRow.of_own e2
  refine ⟨a', c', w', e1, ?_, e2⟩
  refine (h.1.trans (hb.mono h.1.size)).trans ⟨e3.os, e3.tape, e3.output, e3.size, fun j hj => e3.block j (Nat.lt_of_lt_of_le hj (by have := h.1.size; rw [World.size_alloc]; omega)) (fun e => ?_)⟩
  have := (h2.lt j e.symm).1
  omega
theorem nnO_le (ch : Bool) (L : Nat) : nnO ch L ≤ L ∧ tnO ch L ≤ L := by unfold nnO tnO; cases ch <;> simp
theorem Pln.put {w : World} {cs : Array Value} {S : Nat → Int} {r : Nat} {ch : Bool} {L : Nat} {g : Nat → Int} {fB : Nat → Bool} {fS fT : Nat → ByteArray} (h : Pln w cs S r ch L g fB fS fT) {k : Nat} {t : TypeId} (hr : Row w k t plZer) (cs' : Array Value) : Pln (w.setRow k cs') cs S r ch L g fB fS fT := PlnAt.away h hr (noInt_pl _ _ _ _ _ _ _ _ _ _) (noStr_pl _ _ _ _ _ _ _ _ _ _) (Far.setRow _ _ _)
/-- What the document's functions answer: a plain array and an error. -/
def PoTold (E : Int) (S : Nat → Int) (r : Nat) (ch : Bool) (L : Nat) (g : Nat → Int) (fB : Nat → Bool) (fS fT : Nat → ByteArray) (w w' : World) (e : Ending) : Prop :=
  ∃ cs, e = .returned (.tuple #[.agg cs, .int .i64 E]) ∧ (E = 0 → Pln w' cs S r ch L g fB fS fT) ∧ (E ≠ 0 → cs = plZer) ∧ Below w.heap.size w w'
theorem PoTold.no {E : Int} (hE : E ≠ 0) {S : Nat → Int} {r : Nat} {ch : Bool} {L : Nat} {g : Nat → Int} {fB : Nat → Bool} {fS fT : Nat → ByteArray} {w w' : World} (hb : Below w.heap.size w w') : PoTold E S r ch L g fB fS fT w w' (.returned (.tuple #[.agg plZer, .int .i64 E])) :=
  ⟨plZer, rfl, fun e => absurd e hE, fun _ => rfl, hb⟩
theorem PoTold.yes {S : Nat → Int} {r : Nat} {ch : Bool} {L : Nat} {g : Nat → Int} {fB : Nat → Bool} {fS fT : Nat → ByteArray} {w w' : World} {cs : Array Value} (h : Pln w' cs S r ch L g fB fS fT) (hb : Below w.heap.size w w') : PoTold 0 S r ch L g fB fS fT w w' (.returned (.tuple #[.agg cs, .int .i64 0])) :=
  ⟨cs, rfl, fun _ => h, fun e => absurd rfl e, hb⟩
theorem Pln.form {w : World} {cs : Array Value} {S : Nat → Int} {r : Nat} {ch : Bool} {L : Nat} {g : Nat → Int} {fB : Nat → Bool} {fS fT : Nat → ByteArray} (h : Pln w cs S r ch L g fB fS fT) : ∃ sa sc ta tc na nc, cs = plC sa r sc ch ta (tnO ch L) tc na (nnO ch L) nc ∧ KRow w .i64 sa r sc S := by
  obtain ⟨sa, sc, ta, tc, na, nc, e, h1, _⟩ := h
  exact ⟨sa, sc, ta, tc, na, nc, e, h1⟩
end Go.Proofs.YtifnamlgkooacaaGreatDoor

namespace Go.Proofs.YtifnamlgkooacaaGreatDoor
open Go.RowKit
attribute [local go_sem ↓] Go.wp_at_zero Go.wp_at_succ
/-- A function value that goes again and again, for shapes of whatever size. -/
def GiveA (w : World) (fv : FuncId) (cap : Array Value) (L : Nat) : Prop := ∀ M, M ≤ 1000000 → Gives fv cap (arG L) M w
theorem GiveA.below {w w' : World} {fv : FuncId} {cap : Array Value} {L : Nat} (h : GiveA w fv cap L) (hb : Below w.heap.size w w') : GiveA w' fv cap L := fun M hM => (h M hM).below hb
end Go.Proofs.YtifnamlgkooacaaGreatDoor

namespace Go.Proofs.YtifnamlgkooacaaGreatDoor
open Go.RowKit
attribute [local go_sem ↓] Go.wp_at_zero Go.wp_at_succ
theorem MoTold.ok {E : Int} {S : Nat → Int} {r : Nat} {ch : Bool} {L : Nat} {g fP : Nat → Int} {fQ : Nat → Nat} {w w' : World} {e : Ending} (h : MoTold E S r ch L g fP fQ w w' e) (hE : E = 0) : ∃ cs, e = .returned (.tuple #[.agg cs, .int .i64 0]) ∧ Arr w' cs S r ch L g fP fQ ∧ Below w.heap.size w w' := by
  obtain ⟨cs, he, h1, _, hb⟩ := h
  rw [hE] at he
  exact ⟨cs, he, h1 hE, hb⟩
theorem Bag.fresh {w y : World} (hb : Below w.heap.size w y) : Bag w (fun _ => True) y := ⟨hb, fun _ _ _ _ => trivial, trivial⟩
/-- A plain list of integers. -/
def PlJ (w : World) (p : Array Value) (l : List Int) (n : Nat) : Prop := ∀ T, Pln w p (fun _ => (n : Int)) 1 false n T (fun j => rB (lt l j)) (fun j => rS (lt l j)) (fun _ => str (dec 1))
theorem PlJ.below {w w' : World} {p : Array Value} {l : List Int} {n : Nat} (h : PlJ w p l n) (hb : Below w.heap.size w w') : PlJ w' p l n := fun T => (h T).below hb
theorem shownJ {w : World} {cs p : Array Value} {S : Nat → Int} {L : Nat} {g fP : Nat → Int} {fQ : Nat → Nat} {l : List Int} (h : Arr w cs S 1 false L g fP fQ) (hp : PlJ w p l L) (hL : L ≤ 10) (hS : S 0 = (L : Int)) (hP : ∀ j, j < L → fP j = lt l j ∧ fQ j = 1 ∧ (fP j).natAbs ≤ 100) : Shown w cs p := by
  refine ⟨S, 1, false, L, g, fP, fQ, fun _ => (L : Int), g, _, _, _, h, hp g, by omega, by omega, fun _ j hj => ?_, fun j hj => ?_, fun _ _ => rfl, fun j hj => ?_⟩
  · obtain ⟨e1, e2, e3⟩ := hP j hj
    rw [e2]
    refine ⟨by omega, ?_, by decide⟩
    have : (100 : Nat) < 4294967296 ^ 7 := by decide
    omega
  · obtain rfl : j = 0 := by omega
    exact hS
  · obtain ⟨e1, e2, e3⟩ := hP j hj
    rw [e1, e2]
    exact ⟨rfl, rfl, rfl⟩
/-- An array of numbers, whatever is said of characters. -/
def ArrA (w : World) (cs : Array Value) (S : Nat → Int) (r : Nat) (ch : Bool) (L : Nat) (fP : Nat → Int) (fQ : Nat → Nat) : Prop := ∀ g, Arr w cs S r ch L g fP fQ
theorem ArrA.below {w w' : World} {cs : Array Value} {S : Nat → Int} {r : Nat} {ch : Bool} {L : Nat} {fP : Nat → Int} {fQ : Nat → Nat} (h : ArrA w cs S r ch L fP fQ) (hb : Below w.heap.size w w') : ArrA w' cs S r ch L fP fQ := fun g => (h g).below hb
theorem ArrA.store {w : World} {cs : Array Value} {S : Nat → Int} {r : Nat} {ch : Bool} {L : Nat} {fP : Nat → Int} {fQ : Nat → Nat} (h : ArrA w cs S r ch L fP fQ) {k : Nat} {t : TypeId} {z : Array Value} (hr : Row w k t z) (hz : IsA z) (cs' : Array Value) : ArrA (w.setRow k cs') cs S r ch L fP fQ := fun g => (h g).store hr hz cs'
theorem less3 {p : Nat → Prop} (h0 : p 0) (h1 : p 1) (h2 : p 2) : ∀ j, j < 3 → p j
  | 0, _ => h0
  | 1, _ => h1
  | 2, _ => h2
  | n + 3, h => absurd h (by omega)
end Go.Proofs.YtifnamlgkooacaaGreatDoor

namespace Go.Proofs.YtifnamlgkooacaaGreatDoor
open Go.RowKit
/-- An array and an error, as the program answers them. -/
def MoR (w : World) (x : Array Value) (E : Int) (S : Nat → Int) (r : Nat) (ch : Bool) (L : Nat) (g fP : Nat → Int) (fQ : Nat → Nat) : Prop := IsA x ∧ (E = 0 → Arr w x S r ch L g fP fQ) ∧ (E ≠ 0 → x = zerC)
theorem MoR.below {w w' : World} {x : Array Value} {E : Int} {S : Nat → Int} {r : Nat} {ch : Bool} {L : Nat} {g fP : Nat → Int} {fQ : Nat → Nat} (h : MoR w x E S r ch L g fP fQ) (hb : Below w.heap.size w w') : MoR w' x E S r ch L g fP fQ := ⟨h.1, fun e => (h.2.1 e).below hb, h.2.2⟩
theorem MoR.store {w : World} {x : Array Value} {E : Int} {S : Nat → Int} {r : Nat} {ch : Bool} {L : Nat} {g fP : Nat → Int} {fQ : Nat → Nat} (h : MoR w x E S r ch L g fP fQ) {k : Nat} {t : TypeId} {z : Array Value} (hr : Row w k t z) (hz : IsA z) (cs' : Array Value) : MoR (w.setRow k cs') x E S r ch L g fP fQ := ⟨h.1, fun e => (h.2.1 e).store hr hz cs', h.2.2⟩
theorem MoTold.res {E : Int} {S : Nat → Int} {r : Nat} {ch : Bool} {L : Nat} {g fP : Nat → Int} {fQ : Nat → Nat} {w w' : World} {e : Ending} (h : MoTold E S r ch L g fP fQ w w' e) :
    ∃ x, e = .returned (.tuple #[.agg x, .int .i64 E]) ∧ MoR w' x E S r ch L g fP fQ ∧ Below w.heap.size w w' := by
  obtain ⟨x, he, h1, h2, hb⟩ := h
  refine ⟨x, he, ⟨?_, h1, h2⟩, hb⟩
  by_cases hE : E = 0
  · exact (h1 hE).isA
  · rw [h2 hE]
    exact IsA.zer
/-- A plain array and an error, as the document answers them. -/
def IsP (p : Array Value) : Prop := ∃ sa sn sc ch ta tn tc na nn nc, p = plC sa sn sc ch ta tn tc na nn nc
theorem IsP.size {p : Array Value} (h : IsP p) : p.size = 4 := by
  obtain ⟨_, _, _, _, _, _, _, _, _, _, rfl⟩ := h
  rfl
def PoR (w : World) (p : Array Value) (E : Int) (S : Nat → Int) (r : Nat) (ch : Bool) (L : Nat) (g : Nat → Int) (fB : Nat → Bool) (fS fT : Nat → ByteArray) : Prop := IsP p ∧ (E = 0 → Pln w p S r ch L g fB fS fT)
theorem PoR.below {w w' : World} {p : Array Value} {E : Int} {S : Nat → Int} {r : Nat} {ch : Bool} {L : Nat} {g : Nat → Int} {fB : Nat → Bool} {fS fT : Nat → ByteArray} (h : PoR w p E S r ch L g fB fS fT) (hb : Below w.heap.size w w') : PoR w' p E S r ch L g fB fS fT := ⟨h.1, fun e => (h.2 e).below hb⟩
theorem PoR.put {w : World} {p : Array Value} {E : Int} {S : Nat → Int} {r : Nat} {ch : Bool} {L : Nat} {g : Nat → Int} {fB : Nat → Bool} {fS fT : Nat → ByteArray} (h : PoR w p E S r ch L g fB fS fT) {k : Nat} {t : TypeId} (hr : Row w k t plZer) (cs' : Array Value) : PoR (w.setRow k cs') p E S r ch L g fB fS fT := ⟨h.1, fun e => (h.2 e).put hr cs'⟩
theorem PoTold.res {E : Int} {S : Nat → Int} {r : Nat} {ch : Bool} {L : Nat} {g : Nat → Int} {fB : Nat → Bool} {fS fT : Nat → ByteArray} {w w' : World} {e : Ending} (h : PoTold E S r ch L g fB fS fT w w' e) :
    ∃ x, e = .returned (.tuple #[.agg x, .int .i64 E]) ∧ PoR w' x E S r ch L g fB fS fT ∧ Below w.heap.size w w' := by
  obtain ⟨x, he, h1, h2, hb⟩ := h
  refine ⟨x, he, ⟨?_, h1⟩, hb⟩
  by_cases hE : E = 0
  · obtain ⟨_, _, _, _, _, _, e, _⟩ := (h1 hE).form
    exact ⟨_, _, _, _, _, _, _, _, _, _, e⟩
  · rw [h2 hE]
    exact ⟨_, _, _, _, _, _, _, _, _, _, rfl⟩
theorem pints_any (a : Option Addr) (n c : Nat) (g : Nat → Int) (w : World) (h : KRow w .i64 a n c g) (hg : In64 g n) (hn : n ≤ 1000000) :
    Calls Tryz.prog 20 #[.slice a n c] w fun e w' => ∃ p, e = .returned (.agg p) ∧ (∀ T, Pln w' p (fun _ => (n : Int)) 1 false n T (fun j => rB (g j)) (fun j => rS (g j)) (fun _ => str (dec 1))) ∧ Below w.heap.size w w' :=
  (r6Ints_any a n c g w h hg hn).mono (by
    intro e w' q
    obtain ⟨p, he, hp, hb⟩ := q (fun _ => 0)
    refine ⟨p, he, fun T => ?_, hb⟩
    obtain ⟨p', he', hp', _⟩ := q T
    rw [he] at he'
    cases he'
    exact hp')
end Go.Proofs.YtifnamlgkooacaaGreatDoor

namespace Go.Proofs.YtifnamlgkooacaaGreatDoor
open Go Go.RowKit
section
variable {P : Program} {md : Region.Mode} {ops : Array Oper} {Q : Exit → Act → World → Prop} {L : Plan} {p : Nat → List (Option Value) → World → Prop} {B : World → Prop} {a0 : Act}
theorem wpAny_inv5 (ok : L.ok md ops a0.tmps.size = true) (hal : L.al.all (fun i => (dstI ops i).isSome) = true) (stay : ∀ j v w w', Below w.heap.size w w' → p j v w → p j v w') (steps : Stps2 P ops Q L p B a0 0 ops.toList)
    (done : ∀ a w, a.tmps.size = a0.tmps.size → a.defers = a0.defers → (∀ t, stays ops t = true → a.tmps[t]? = a0.tmps[t]?) → B w → (∀ j, j < ops.size → p j (vw a (L.D j)) w) → (∀ i ∈ L.al, ∀ j ∈ L.al, i ≠ j → i < ops.size → j < ops.size → ∀ k, Ptr2 a ops i k → ¬ Ptr2 a ops j k) → Q .normal a w) :
    ∀ (fuel : Nat) (listed : Array Bool) (a : Act) (w : World), Inv2 md ops L p B a0 listed a w → (List.range ops.size).countP (fun i => !listed.getD i true) ≤ fuel → wpAny P md ops Q fuel listed a w := by
  intro fuel
  induction fuel with
  | zero =>
    intro listed a w I hc
    have hall : ∀ j, j < ops.size → listed.getD j true = true := by
      intro j hj
      have := List.countP_eq_zero.1 (Nat.le_zero.1 hc) j (List.mem_range.2 hj)
      simpa using this
    have hr : Region.ready md ops listed = [] := by
      rw [List.eq_nil_iff_forall_not_mem]
      intro j hj
      obtain ⟨h1, o, h2, _⟩ := mem_ready.1 hj
      rw [hall j (Array.getElem?_eq_some_iff.1 h2).1] at h1; cases h1
    exact ⟨hr, done a w I.asz I.dfs I.old I.bag (fun j hj => I.fct j (ready_all ok I.lsz hr j hj)) (fun i hi j hj hne h1 h2 => I.apt i hi j hj hne (ready_all ok I.lsz hr i h1) (ready_all ok I.lsz hr j h2))⟩
  | succ fuel ih =>
    intro listed a w I hc
    refine ⟨fun hr => done a w I.asz I.dfs I.old I.bag (fun j hj => I.fct j (ready_all ok I.lsz hr j hj)) (fun i hi j hj hne h1 h2 => I.apt i hi j hj hne (ready_all ok I.lsz hr i h1) (ready_all ok I.lsz hr j h2)), fun i hi => ?_⟩
    obtain ⟨hu, o, ho, hr⟩ := mem_ready.1 hi
    have hio : i < ops.size := (Array.getElem?_eq_some_iff.1 ho).1
    have hst := steps.get i o (by rw [Array.getElem?_toList]; exact ho)
    rw [Nat.zero_add] at hst
    have hpre : ∀ e ∈ L.pre i, listed.getD e false = true := by
      intro e he
      rcases (Plan.ok_spec ok hio).2.1 e he with h | ⟨k, hk, hek⟩
      · obtain ⟨x, h1, h2, rfl⟩ := (aft_mem ho).1 h; exact hr x h1 h2
      · obtain ⟨x, h1, h2, rfl⟩ := (aft_mem ho).1 hk; exact I.clo _ (hr x h1 h2) e hek
    refine wpOp_step ho (fun K hK => hst a w I.asz I.old I.bag (fun j hj => I.fct j (hpre j hj)) K (fun v w' G => hK _ _ (ih _ _ _ (I.step ok hal stay ho hu hr G) ?_)))
    have hil : i < listed.size := by rw [I.lsz]; exact hio
    have hun : listed[i] = false := by simpa [hil] using hu
    have := cnt_set (fun j => !listed.getD j true) (fun j => !(listed.setIfInBounds i true).getD j true) i (by simp [hil, hun]) (by simp [hil]) (fun j hj => by simp [Ne.symm hj]) ops.size
    rw [if_pos hio] at this
    omega
/-- THE BEGINNING. -/
theorem wp_region_inv5 {id : Nat} {l : List Oper} {w : World} (L : Plan) (p : Nat → List (Option Value) → World → Prop) (B : World → Prop) (hm : P.follows .mixedOrders = true) (ok : L.ok .any l.toArray a0.tmps.size = true) (hal : L.al.all (fun i => (dstI l.toArray i).isSome) = true)
    (hB : B w.drew) (stay : ∀ j v w w', Below w.heap.size w w' → p j v w → p j v w')
    (done : ∀ a w, a.tmps.size = a0.tmps.size → a.defers = a0.defers → (∀ t, stays l.toArray t = true → a.tmps[t]? = a0.tmps[t]?) → B w → (∀ j, j < l.length → p j (vw a (L.D j)) w) → (∀ i ∈ L.al, ∀ j ∈ L.al, i ≠ j → i < l.length → j < l.length → ∀ k, Ptr2 a l.toArray i k → ¬ Ptr2 a l.toArray j k) → Q .normal a w)
    (steps : Stps2 P l.toArray Q L p B a0 0 l) :
    (Code.region id l.toArray true).wp P Q a0 w := by
  refine wp_region_any hm (wpAny_inv5 ok hal stay steps (fun a w h1 h2 h3 h4 h5 h6 => done a w h1 h2 h3 h4 (fun j hj => h5 j (by simpa using hj)) (fun i hi j hj hne q1 q2 => h6 i hi j hj hne (by simpa using q1) (by simpa using q2))) _ _ _ _ ⟨by simp, rfl, rfl, fun _ _ => rfl, hB, ?_, ?_, ?_, ?_⟩ ?_)
  · intro j hj; rw [lg0] at hj; cases hj
  · intro j hj; rw [lg0] at hj; cases hj
  · intro j _ hj; rw [lg0] at hj; cases hj
  · intro j _ i _ _ hj; rw [lg0] at hj; cases hj
  · exact Nat.le_trans List.countP_le_length (by simp)
end
end Go.Proofs.YtifnamlgkooacaaGreatDoor

namespace Go.Proofs.YtifnamlgkooacaaGreatDoor
open Go.RowKit
set_option maxHeartbeats 1600000 in
set_option maxRecDepth 100000 in
theorem places_no (a : Option Addr) (n c : Nat) (f : Nat → Int) (v : Value) (w : World) (h : KRow w .i64 a n c f) (hf : In64 f n) (hs : shB f n = false) :
    Calls Tryz.prog 107 #[.slice a n c, v] w fun e w' => e = .returned (.slice none 0 0) ∧ w = w' := by
  have hl := h.len
  have CN := Lib.hid (count_any a n c f w h hf)
  unfold CntTold at CN
  rw [hs] at CN
  generalize cntI f n = x at *
  clear h hf hs
  go_enter Tryz.func107, Tryz.ntmps107
  go_wp2_with fail
  go_at_call 74
  (with_reducible refine (CN.out).mono ?_)
  rintro e w1 ⟨rfl, rfl⟩
  go_wp2
  go_ret
  exact ⟨rfl, rfl⟩
end Go.Proofs.YtifnamlgkooacaaGreatDoor

namespace Go.Proofs.YtifnamlgkooacaaGreatDoor
open Go.RowKit
attribute [local go_sem ↓] Go.wp_at_zero Go.wp_at_succ
theorem IBox.setAt {w : World} {g n : Nat} {f : Nat → Int} {p : Addr} {x : Value} (h : IBox w g n f) (hp : w.cell? p = some x) (hx : ∀ z, x ≠ .int .i64 z) (v : Value) : IBox (w.setCell p v) g n f := by
  refine ⟨by simpa using h.1, h.2.1.set _ _, fun j hj => ?_⟩
  rw [World.cell?_setCell_other _ _ _ _ (fun e => by subst e; rw [h.2.2 j hj] at hp; exact hx _ (Option.some.inj hp).symm)]
  exact h.2.2 j hj
/-- The error of parts that are picked. -/
def pkE (T : Nat → Int) (r : Nat) : Int := if shB T r then 0 else 26
/-- The lengths of rows. -/
def lnF (N : Nat → Nat) : Nat → Int := fun j => (N j : Int)
set_option linter.unusedSimpArgs false in
set_option linter.unusedVariables false in
set_option maxHeartbeats 6400000 in
set_option maxRecDepth 100000 in
theorem cpicked_any (cs : Array Value) (S : Nat → Int) (r : Nat) (ch : Bool) (L : Nat) (g fP : Nat → Int) (fQ : Nat → Nat) (aF : Option Addr) (cF : Nat) (A : Nat → Option Addr) (N C : Nat → Nat) (F : Nat → Nat → Int) (w : World) (h : Arr w cs S r ch L g fP fQ) (hr : r ≤ 8) (hS64 : In64 S r) (hsh : shB S r = true) (hL : LRow w aF r cF A N C F) (hN : ∀ j, j < r → N j ≤ 1000000)
    (hFb : ∀ j q, j < r → q < N j → -1000000000 ≤ F j q ∧ F j q ≤ 1000000000) :
    Calls Tryz.prog 82 #[.agg cs, .slice aF r cF] w fun e w' => MoTold (pkE (lnF N) r) (lnF N) r ch (itm (lnF N) r).toNat (fun j => elC L g 32 (pkG S (lnF N) r F j)) (fun j => elP L fP (pkG S (lnF N) r F j)) (fun j => elQ L fQ (pkG S (lnF N) r F j)) w w' e := by
  obtain ⟨na, nn, nc, ta, tn, tc, hcs, _⟩ := h.form
  subst hcs
  obtain ⟨i0, hi, hz0, hz1, hz2⟩ := info_parts infoI
  have hmk := fun wz => run_make (P := Tryz.prog) wz 22 3 i0 _ Tryz.underlying22 hi hz0 .i64 .i64 r r (by omega) (by omega) (by rw [hz2]; omega) (by omega)
  simp only [Int.toNat_natCast, hz1, Nat.mul_one] at hmk
  have H := Lib.hid h
  have HL := Lib.hid hL
  have HN := Lib.hid hN
  have HFB := Lib.hid hFb
  obtain ⟨T, hT⟩ : ∃ T, lnF N = T := ⟨_, rfl⟩
  have HT : Hid (∀ j, T j = (N j : Int)) := Lib.hid (fun j => by rw [← hT]; rfl)
  rw [hT]
  have HT64 : Hid (In64 T r) := Lib.hid (fun j hj => by have := HT.out j; have := hN j hj; omega)
  have SH := Lib.hid (fun wz h => shape_new (arrC ch ((r : Int) - 1) (dm S r) na nn nc ta tn tc) S r ch L g fP fQ wz h hr)
  have BB := Lib.hid ((((Bag.start w).newRow (arrC ch ((r : Int) - 1) (dm S r) na nn nc ta tn tc) 32).newRow #[.slice aF r cF] 104).newRow zerC 32)
  simp only [World.size_alloc] at BB
  have K0 := KTo.made (((w.alloc (.cells (arrC ch ((r : Int) - 1) (dm S r) na nn nc ta tn tc) 32)).alloc (.cells #[.slice aF r cF] 104)).alloc (.cells zerC 32)) r 3 T rfl
  have B0 := BB.out.alloc (.cells (madeCells (Value.cells (.int .i64 0)) r) 3)
  simp only [World.size_alloc] at K0
  have H0 := Lib.hid (And.intro B0 K0)
  obtain ⟨G, hG⟩ : ∃ G, pkG S T r F = G := ⟨_, rfl⟩
  rw [hG]
  obtain ⟨eC, heC⟩ : ∃ f : Nat → Int, (fun j => elC L g 32 (G j)) = f := ⟨_, rfl⟩
  obtain ⟨eP, heP⟩ : ∃ f : Nat → Int, (fun j => elP L fP (G j)) = f := ⟨_, rfl⟩
  obtain ⟨eQ, heQ⟩ : ∃ f : Nat → Nat, (fun j => elQ L fQ (G j)) = f := ⟨_, rfl⟩
  rw [heC, heP, heQ]
  obtain ⟨EE, hEE⟩ : ∃ E, pkE T r = E := ⟨_, rfl⟩
  obtain ⟨MM, hMM⟩ : ∃ E, (itm T r).toNat = E := ⟨_, rfl⟩
  rw [hEE, hMM]
  have HNO : Hid (∀ E wz, E ≠ 0 → EE = E → Below w.heap.size w wz → MoTold EE T r ch MM eC eP eQ w (wz.setRow (w.heap.size + 1 + 1) zerC) (.returned (.tuple #[.agg zerC, .int .i64 E]))) := Lib.hid (fun E wz hE e hb => by
    subst e
    exact MoTold.no hE (below_put hb (show w.heap.size ≤ w.heap.size + 1 + 1 by omega) zerC))
  have HFIN : Hid (EE = 0 → ∀ y v, MoTold 0 T r ch MM eC eP eQ w y v → MoTold EE T r ch MM eC eP eQ w y v) := Lib.hid (fun e y v q => by rw [e]; exact q)
  have HEE := Lib.hid hEE
  have HMM := Lib.hid hMM
  have HGG := Lib.hid hG
  have HeC := Lib.hid (And.intro heC (And.intro heP heQ))
  clear hEE hMM hG heC heP heQ
  have HS64 := Lib.hid hS64
  have HSH := Lib.hid hsh
  have hl0 := hL.1
  have hl1 := hL.2.1
  unfold maxLen at hl1
  have hrn : (0 : Int) ≤ r := by omega
  clear h hL hN hFb hz1 hz2 hz0 hi K0 B0 hS64 hsh hT
  unfold arrC zerC at H0
  unfold arrC
  go_enter Tryz.func82, Tryz.ntmps82
  go_wp2_with fail
  go_loopw [19] (fun i wr => ∃ k : Nat, k ≤ r ∧ i = .int .i64 k ∧ Hid (Bag w (fun y => Row y (w.heap.size + 1 + 1) 32 zerC ∧ Row y (w.heap.size + 1) 104 #[.slice aF r cF] ∧ Row y w.heap.size 32 (arrC ch ((r : Int) - 1) (dm S r) na nn nc ta tn tc) ∧ True) wr ∧ KTo wr (w.heap.size + 1 + 1 + 1) r k T)) (fun i _ => r - (intOf i).toNat)
  case atStart => exact ⟨0, by omega, rfl, H0.out⟩
  case round =>
    obtain ⟨k, hk, rfl, hrel⟩ := hrel
    obtain ⟨hbg, hto⟩ := hrel.out
    by_cases hlt : k < r
    · obtain ⟨bF, oF, haF, hbF, hcF, hrow, _⟩ := (HL.out.below hbg.below).get hlt
      cases haF
      have hNk := HN.out k hlt
      have hNC := hrow.len
      have hk0 : (0 : Int) ≤ k := by omega
      have hk1 : (k : Int) < r := by omega
      obtain ⟨⟨z0, x1⟩, y1⟩ := hto.place hlt
      have hst := hto.step hlt
      rw [HT.out k] at hst
      have hne : bF ≠ w.heap.size + 1 + 1 + 1 := fun e => by
        obtain ⟨b', o', e1, e2, _⟩ := HL.out.get hlt
        cases e1
        omega
      have hbg2 : Bag w (fun y => Row y (w.heap.size + 1 + 1) 32 zerC ∧ Row y (w.heap.size + 1) 104 #[.slice (some ⟨bF, oF, none⟩) r cF] ∧ Row y w.heap.size 32 (arrC ch ((r : Int) - 1) (dm S r) na nn nc ta tn tc) ∧ True) (wr.setCell ⟨w.heap.size + 1 + 1 + 1, k, none⟩ (.int .i64 (N k : Int))) :=
        ⟨hbg.below.setCell (p := ⟨w.heap.size + 1 + 1 + 1, k, none⟩) (by show w.heap.size ≤ w.heap.size + 1 + 1 + 1; omega) _, hbg.stay, hbg.now.1.far (a := ⟨w.heap.size + 1 + 1 + 1, k, none⟩) (by show w.heap.size + 1 + 1 ≠ w.heap.size + 1 + 1 + 1; omega) _, hbg.now.2.1.far (a := ⟨w.heap.size + 1 + 1 + 1, k, none⟩) (by show w.heap.size + 1 ≠ w.heap.size + 1 + 1 + 1; omega) _, hbg.now.2.2.1.far (a := ⟨w.heap.size + 1 + 1 + 1, k, none⟩) (by show w.heap.size ≠ w.heap.size + 1 + 1 + 1; omega) _, trivial⟩
      have HNX := Lib.hid (And.intro hbg2 hst)
      clear hrel hbg hto hst hrow hbg2
      generalize N k = nk at *
      generalize A k = ak at *
      generalize C k = ck at *
      go_wp2
      go_roundw
      case rel => exact ⟨k + 1, by omega, by go_num, HNX.out⟩
      case measure => simp [intOf]; omega
    · have hkr : k = r := by omega
      subst k
      have HKS := Lib.hid (hto.done (by unfold maxLen; omega))
      have BY := Lib.hid (hbg.krow HKS.out)
      have hsy : w.heap.size + 1 + 1 + 1 < wr.heap.size := hto.1
      clear hrel hbg hto hlt hk
      go_wp2_with fail
      generalize hYY : wr = YY at *
      clear hYY
      refine wp_region_inv5 ⟨(fun j => ([[30], [31], [32], [33], [34], [9], [10], [9, 31], [10, 34]] : List (List Nat)).getD j []), (fun j => ([[], [0], [], [2], [2, 3], [], [], [0, 1, 5], [0, 1, 2, 3, 4, 5, 6, 7]] : List (List Nat)).getD j []), [1, 4, 5, 6]⟩ (fun jj vv yy => match jj with
        | 0 => vv = [some (.agg (arrC ch ((r : Int) - 1) (dm S r) na nn nc ta tn tc))]
        | 1 => ∃ (g1 c1 : Nat), vv = [some (.slice (some ⟨g1, 0, none⟩) r c1)] ∧ KRow yy .i64 (some ⟨g1, 0, none⟩) r c1 S
        | 2 => vv = [some (.slice aF r cF)]
        | 3 => vv = [some (.int .i64 r)]
        | 4 => ∃ (g4 : Nat), vv = [some (.slice (some ⟨g4, 0, none⟩) r r)] ∧ IBox yy g4 r (fun _ => 0) ∧ YY.heap.size ≤ g4
        | 5 => ∃ (k5 : Nat) (z5 : Value), vv = [some (.pointer (some ⟨k5, 0, none⟩))] ∧ Row yy k5 22 #[z5] ∧ (∀ z, z5 ≠ .int .i64 z) ∧ YY.heap.size ≤ k5
        | 6 => ∃ (k6 : Nat) (z6 : Value), vv = [some (.pointer (some ⟨k6, 0, none⟩))] ∧ Row yy k6 22 #[z6] ∧ (∀ z, z6 ≠ .int .i64 z) ∧ YY.heap.size ≤ k6
        | 7 => ∃ (k5 g1 c1 : Nat), vv = [some (.pointer (some ⟨k5, 0, none⟩)), some (.slice (some ⟨g1, 0, none⟩) r c1)] ∧ Row yy k5 22 #[.slice (some ⟨g1, 0, none⟩) r c1] ∧ KRow yy .i64 (some ⟨g1, 0, none⟩) r c1 S
        | 8 => ∃ (k6 g4 : Nat), vv = [some (.pointer (some ⟨k6, 0, none⟩)), some (.slice (some ⟨g4, 0, none⟩) r r)] ∧ Row yy k6 22 #[.slice (some ⟨g4, 0, none⟩) r r] ∧ IBox yy g4 r (fun _ => 0) ∧ YY.heap.size ≤ g4
        | _ => True) (Bag YY (fun _ => True)) (by kernel_rfl) (by kernel_rfl) (by kernel_rfl) (Bag.start YY).drew ?_ ?_ ?_
      · intro jj vv yw yw2 hb h
        match jj, h with
        | 0, h => exact h
        | 1, ⟨g1, c1, e1, q1⟩ => exact ⟨g1, c1, e1, q1.below hb⟩
        | 2, h => exact h
        | 3, h => exact h
        | 4, ⟨g4, e4, q4, q5⟩ => exact ⟨g4, e4, q4.below hb, q5⟩
        | 5, ⟨k5, z5, e5, q5, q6⟩ => exact ⟨k5, z5, e5, q5.below hb, q6⟩
        | 6, ⟨k6, z6, e6, q5, q6⟩ => exact ⟨k6, z6, e6, q5.below hb, q6⟩
        | 7, ⟨k5, g1, c1, e7, q5, q6⟩ => exact ⟨k5, g1, c1, e7, q5.below hb, q6.below hb⟩
        | 8, ⟨k6, g4, e8, q5, q6, q7⟩ => exact ⟨k6, g4, e8, q5.below hb, q6.below hb, q7⟩
        | _ + 9, h => exact h
      · intro ac yw hsz hdf hold hB hp hap
        obtain ⟨k5, g1, c1, e7, rk5, kS⟩ := hp 7 (by decide)
        obtain ⟨k6, g4, e8, rk6, bx4, hg4⟩ := hp 8 (by decide)
        have t9 : ac.tmps[9]? = some (.pointer (some ⟨k5, 0, none⟩)) := (List.cons.inj e7).1
        have t31 : ac.tmps[31]? = some (.slice (some ⟨g1, 0, none⟩) r c1) := (List.cons.inj (List.cons.inj e7).2).1
        have t10 : ac.tmps[10]? = some (.pointer (some ⟨k6, 0, none⟩)) := (List.cons.inj e8).1
        have t34 : ac.tmps[34]? = some (.slice (some ⟨g4, 0, none⟩) r r) := (List.cons.inj (List.cons.inj e8).2).1
        have n14 : g1 ≠ g4 := fun e => hap 1 (by decide) 4 (by decide) (by decide) (by decide) (by decide) g1 ⟨31, _, by kernel_rfl, t31, rfl⟩ ⟨34, _, by kernel_rfl, t34, by rw [e]; rfl⟩
        have n54 : k5 ≠ g4 := fun e => hap 5 (by decide) 4 (by decide) (by decide) (by decide) (by decide) k5 ⟨9, _, by kernel_rfl, t9, rfl⟩ ⟨34, _, by kernel_rfl, t34, by rw [e]; rfl⟩
        have n64 : k6 ≠ g4 := fun e => hap 6 (by decide) 4 (by decide) (by decide) (by decide) (by decide) k6 ⟨10, _, by kernel_rfl, t10, rfl⟩ ⟨34, _, by kernel_rfl, t34, by rw [e]; rfl⟩
        have t2 : ac.tmps[2]? = some (.pointer (some ⟨w.heap.size, 0, none⟩)) := hold 2 (by kernel_rfl)
        have t3 : ac.tmps[3]? = some (.pointer (some ⟨w.heap.size + 1, 0, none⟩)) := hold 3 (by kernel_rfl)
        have t4 : ac.tmps[4]? = some (.pointer (some ⟨w.heap.size + 1 + 1, 0, none⟩)) := hold 4 (by kernel_rfl)
        have t6 : ac.tmps[6]? = some (.slice (some ⟨w.heap.size + 1 + 1 + 1, 0, none⟩) r r) := hold 6 (by kernel_rfl)
        have BZ := BY.out.go hB.below
        have hszy := hB.below.size
        have PN := Lib.hid (fun (hs : shB T r = false) v => places_no (some ⟨w.heap.size + 1 + 1 + 1, 0, none⟩) r r T v yw BZ.now.1 HT64.out hs)
        have PY := Lib.hid (fun (hs : shB T r = true) M (hM : itm T r = (M : Nat)) => placesW_any 108 #[.pointer (some ⟨w.heap.size + 1, 0, none⟩), .pointer (some ⟨k6, 0, none⟩), .pointer (some ⟨k5, 0, none⟩)] ent_cpick1 (some ⟨w.heap.size + 1 + 1 + 1, 0, none⟩) r r T M (pkG S T r F) yw BZ.now.1 HT64.out hs hM g4 r bx4.1 ⟨_, bx4⟩ (fun x hx => by cases hx; show w.heap.size + 1 + 1 + 1 ≠ g4; omega)
          (cpick1_any (w.heap.size + 1) k6 k5 g4 g1 c1 r M S T aF cF A N C F w yw BZ.below (by have := BY.out.below.size; omega) (BZ.now.2.2.1.cell 0) BZ.now.2.2.1.lt (by omega) (rk6.cell 0) rk6.lt n64 (rk5.cell 0) rk5.lt n54 HL.out (fun j _ => HT.out j) hs hM HFB.out kS n14 HSH.out HS64.out))
        have HBX := Lib.hid bx4.1
        have HGE : Hid (w.heap.size + 1 + 1 + 1 < g4) := Lib.hid (by omega)
        have BY := Lib.hid BZ
        clear hold hp hap e7 e8 rk5 rk6 kS bx4 hg4 n14 n54 n64 hB BZ hszy
        obtain ⟨TW, hTW⟩ : ∃ TW : Nat → Value, ∀ i, (ac.tmps[i]?).getD undef = TW i := ⟨_, fun _ => rfl⟩
        have f2 := (hTW 2).symm.trans (congrArg (fun x => Option.getD x undef) t2)
        have f3 := (hTW 3).symm.trans (congrArg (fun x => Option.getD x undef) t3)
        have f4 := (hTW 4).symm.trans (congrArg (fun x => Option.getD x undef) t4)
        have f6 := (hTW 6).symm.trans (congrArg (fun x => Option.getD x undef) t6)
        have f9 := (hTW 9).symm.trans (congrArg (fun x => Option.getD x undef) t9)
        have f10 := (hTW 10).symm.trans (congrArg (fun x => Option.getD x undef) t10)
        have hac := act_eq (n := 49) hsz TW hTW
        rw [show ((List.range 49).map TW).toArray = #[TW 0, TW 1, TW 2, TW 3, TW 4, TW 5, TW 6, TW 7, TW 8, TW 9, TW 10, TW 11, TW 12, TW 13, TW 14, TW 15, TW 16, TW 17, TW 18, TW 19, TW 20, TW 21, TW 22, TW 23, TW 24, TW 25, TW 26, TW 27, TW 28, TW 29, TW 30, TW 31, TW 32, TW 33, TW 34, TW 35, TW 36, TW 37, TW 38, TW 39, TW 40, TW 41, TW 42, TW 43, TW 44, TW 45, TW 46, TW 47, TW 48] from rfl, f2, f3, f4, f6, f9, f10, hdf] at hac
        simp only [Option.getD_some] at hac
        subst hac
        clear hTW f2 f3 f4 f6 f9 f10
        cases hs : shB T r with
        | false =>
          have hE : EE = 26 := by rw [← HEE.out]; unfold pkE; rw [hs]; rfl
          have PN := Lib.hid (PN.out hs)
          have PK := Lib.hid (fun wz (q : Arr wz (arrC ch ((r : Int) - 1) (dm S r) na nn nc ta tn tc) S r ch L g fP fQ) (q2 : KRow wz .i64 (some ⟨w.heap.size + 1 + 1 + 1, 0, none⟩) r r T) => pick8_any (arrC ch ((r : Int) - 1) (dm S r) na nn nc ta tn tc) S r ch L g fP fQ (some ⟨w.heap.size + 1 + 1 + 1, 0, none⟩) r r T none 0 0 (fun _ => 0) wz q q2 HT64.out (KRow.nought _ _ _ _ (by unfold maxLen; omega) _) (fun j hj => absurd hj (Nat.not_lt_zero _)) (by omega))
          unfold ArrTold at PK
          rw [hs, Bool.false_and] at PK
          clear PY hs
          go_wp2_with fail
          go_at_call 107
          (with_reducible refine (PN.out _).mono ?_)
          rintro e w5 ⟨rfl, rfl⟩
          have HR3 := Lib.hid BY.out.now.2.2.2.1
          go_wp2_with (refine ld_arr rfl (.tmp 2) rfl w.heap.size rfl HR3.out ?_)
          go_at_call 52
          (with_reducible refine (PK.out _ (H.out.below BY.out.below) BY.out.now.1).mono ?_)
          rintro e w6 ⟨cs6, rfl, hcs, hb6⟩
          rw [if_neg (by decide)] at hcs
          subst hcs
          have B6 := (BY.out.go hb6).alloc (.cells zerC 32)
          have HZ := Lib.hid B6.now.2.1
          have HE := Lib.hid (HNO.out 26 _ (by decide) hE B6.below)
          clear hb6 B6
          unfold zerC arrC
          unfold zerC arrC at HZ
          go_wp2_with (refine st_arr rfl (.tmp 4) (.tmp 47) rfl (w.heap.size + 1 + 1) rfl false 0 (fun _ => 0) none 0 0 none 0 0 rfl HZ.out rfl ?_)
          exact bodyPost_ret (res_arr2 Tryz.results82 rfl rfl (HZ.out.put _) rfl) rfl HE.out
        | true =>
          have hE : EE = 0 := by rw [← HEE.out]; unfold pkE; rw [hs]; rfl
          have hbd := ax_bd (sh_ax hs).2
          obtain ⟨M, hM⟩ : ∃ M : Nat, itm T r = (M : Nat) := ⟨(itm T r).toNat, by omega⟩
          have hMM : M = MM := by rw [← HMM.out, hM]; rfl
          subst hMM
          have PY := Lib.hid (PY.out hs M hM)
          have hG64 : In64 G M := fun j _ => by have := pkG_bd (S := S) (T := T) (r := r) (F := F) HSH.out j; rw [HGG.out] at this; omega
          have PK := Lib.hid (fun ap cp wz (q : Arr wz (arrC ch ((r : Int) - 1) (dm S r) na nn nc ta tn tc) S r ch L g fP fQ) (q2 : KRow wz .i64 (some ⟨w.heap.size + 1 + 1 + 1, 0, none⟩) r r T) (q3 : KRow wz .i64 ap M cp G) => pick8_any (arrC ch ((r : Int) - 1) (dm S r) na nn nc ta tn tc) S r ch L g fP fQ (some ⟨w.heap.size + 1 + 1 + 1, 0, none⟩) r r T ap M cp G wz q q2 HT64.out q3 hG64 (by omega))
          unfold ArrTold at PK
          rw [hs, hM, decide_eq_true rfl, Bool.true_and, HeC.out.1, HeC.out.2.1, HeC.out.2.2] at PK
          rw [HGG.out] at PY
          have HFIN := Lib.hid (HFIN.out hE)
          clear PN hs hbd hM HNO hE hG64
          go_wp2_with fail
          go_at_call 107
          (with_reducible refine PY.out.mono ?_)
          rintro e w5 ⟨c5, rfl, hk5, hsc5⟩
          have hg5 := HGE.out
          have HBL5 := Lib.hid (hsc5.1.below BY.out.below (by omega) BY.out.below.size)
          have hrw : ∀ k5 t5 cs5, k5 < w.heap.size + 1 + 1 + 1 → Row yw k5 t5 cs5 → Row w5 k5 t5 cs5 := fun k5 t5 cs5 hk q => (hsc5.1.block k5 q.lt (by omega)).trans q
          have HR5 := Lib.hid (hrw _ _ _ (by omega) BY.out.now.2.2.2.1)
          have HZ5 := Lib.hid (hrw _ _ _ (by omega) BY.out.now.2.1)
          have HK5 := Lib.hid hk5
          have HS5 := Lib.hid (hsc5.krow BY.out.now.1 (by omega))
          clear hk5 hsc5 hrw hg5
          go_wp2_with (refine ld_arr rfl (.tmp 2) rfl w.heap.size rfl HR5.out ?_)
          go_at_call 52
          (with_reducible refine (PK.out _ _ _ (H.out.below HBL5.out) HS5.out HK5.out).mono ?_)
          rintro e w6 ⟨cs6, rfl, hcs, hb6⟩
          first | rw [if_pos rfl] at hcs | rw [if_pos trivial] at hcs
          have HZ6 := Lib.hid (HZ5.out.below hb6)
          have HBB := Lib.hid (HBL5.out.trans (hb6.mono HBL5.out.size))
          have HCS := Lib.hid hcs
          obtain ⟨na3, nn3, nc3, ta3, tn3, tc3, hcs3, _⟩ := hcs.form
          subst hcs3
          have hb7 : Below w6.heap.size w6 (w6.alloc (.cells (arrC ch ((r : Int) - 1) (dm T r) na3 nn3 nc3 ta3 tn3 tc3) 32)) := (Below.refl _ _).alloc (Nat.le_refl _) _
          have HR6 := Lib.hid (Row.new w6 32 (arrC ch ((r : Int) - 1) (dm T r) na3 nn3 nc3 ta3 tn3 tc3))
          have HZ7 := Lib.hid (HZ6.out.below hb7)
          have HE := Lib.hid (HFIN.out _ _ (MoTold.yes ((HCS.out.below hb7).put HZ7.out (arrC ch ((r : Int) - 1) (dm T r) na3 nn3 nc3 ta3 tn3 tc3)) (below_put (HBB.out.trans (hb7.mono HBB.out.size)) (show w.heap.size ≤ w.heap.size + 1 + 1 by omega) (arrC ch ((r : Int) - 1) (dm T r) na3 nn3 nc3 ta3 tn3 tc3))))
          clear hcs hb6 hb7
          unfold arrC
          unfold arrC at HZ7
          go_wp2_with (first
            | (refine ld_arr rfl (.tmp 12) rfl w6.heap.size rfl HR6.out ?_)
            | (refine st_arr rfl (.tmp 4) (.tmp 48) rfl (w.heap.size + 1 + 1) rfl _ _ _ _ _ _ _ _ _ rfl HZ7.out rfl ?_))
          exact bodyPost_ret (res_arr2 Tryz.results82 rfl rfl (HZ7.out.put _) rfl) rfl HE.out
      refine Stps2.cons (o := _) ?_ ?_
      · intro ac yw hsz hold hB hp K hK
        have t2 : ac.tmps[2]? = some (.pointer (some ⟨w.heap.size, 0, none⟩)) := hold 2 (by kernel_rfl)
        clear hold hp hsz
        rw [if_pos (by rfl)]
        refine ld8 2 rfl (w.heap.size) ((arrC ch ((r : Int) - 1) (dm S r) na nn nc ta tn tc)) t2 ((BY.out.go hB.below).now.2.2.2.1) (rfl) ?_
        exact hK.out _ _ ⟨hB, rfl, Nat.le_refl _, .inl (Below.refl _ _), fun h => absurd h (by decide)⟩
      refine Stps2.cons (o := _) ?_ ?_
      · intro ac yw hsz hold hB hp K hK
        have e0 := hp 0 (by decide)
        have t30 : ac.tmps[30]? = some (.agg (arrC ch ((r : Int) - 1) (dm S r) na nn nc ta tn tc)) := (List.cons.inj e0).1
        clear hold hp hsz e0
        go_simp
        (go_at_call 35; (with_reducible refine (SH.out _ (H.out.below (BY.out.go hB.below).below)).mono ?_); rintro e wz ⟨g1, c1, rfl, hge, hlt2, h1_0, hbz⟩)
        exact hK.out _ _ ⟨hB.go hbz, ⟨g1, c1, rfl, h1_0⟩, hbz.size, .inl hbz, fun _ => ⟨_, rfl, hge, hlt2⟩⟩
      refine Stps2.cons (o := _) ?_ ?_
      · intro ac yw hsz hold hB hp K hK
        have t3 : ac.tmps[3]? = some (.pointer (some ⟨w.heap.size + 1, 0, none⟩)) := hold 3 (by kernel_rfl)
        clear hold hp hsz
        have v0 : yw.cell? ⟨w.heap.size + 1, 0, none⟩ = some (.slice aF r cF) := (BY.out.go hB.below).now.2.2.1.cell 0
        go_simp
        exact hK.out _ _ ⟨hB, rfl, Nat.le_refl _, .inl (Below.refl _ _), fun h => absurd h (by decide)⟩
      refine Stps2.cons (o := _) ?_ ?_
      · intro ac yw hsz hold hB hp K hK
        have e2 := hp 2 (by decide)
        have t32 : ac.tmps[32]? = some (.slice aF r cF) := (List.cons.inj e2).1
        clear hold hp hsz e2
        go_simp
        exact hK.out _ _ ⟨hB, rfl, Nat.le_refl _, .inl (Below.refl _ _), fun h => absurd h (by decide)⟩
      refine Stps2.cons (o := _) ?_ ?_
      · intro ac yw hsz hold hB hp K hK
        have e3 := hp 3 (by decide)
        have t33 : ac.tmps[33]? = some (.int .i64 r) := (List.cons.inj e3).1
        have hbz : Below yw.heap.size yw (yw.alloc (.cells (madeCells (Value.cells (.int .i64 0)) r) 3)) ∧ yw.heap.size < (yw.alloc (.cells (madeCells (Value.cells (.int .i64 0)) r) 3)).heap.size := ⟨(Below.refl _ _).alloc (Nat.le_refl _) _, by rw [World.size_alloc]; omega⟩
        have hbx := IBox.made yw r 3 rfl
        clear hold hp hsz e3
        go_simp
        exact hK.out _ _ ⟨hB.alloc _, ⟨yw.heap.size, rfl, hbx, hB.below.size⟩, Nat.le_of_lt hbz.2, .inl hbz.1, fun _ => ⟨_, rfl, Nat.le_refl _, hbz.2⟩⟩
      refine Stps2.cons (o := _) ?_ ?_
      · intro ac yw hsz hold hB hp K hK
        clear hold hp hsz
        have hbz : Below yw.heap.size yw (yw.alloc (.cells #[.slice none 0 0] 22)) ∧ yw.heap.size < (yw.alloc (.cells #[.slice none 0 0] 22)).heap.size := ⟨(Below.refl _ _).alloc (Nat.le_refl _) _, by rw [World.size_alloc]; omega⟩
        go_simp
        exact hK.out _ _ ⟨hB.alloc _, ⟨yw.heap.size, .slice none 0 0, rfl, Row.new yw _ _, (fun _ h => by cases h), hB.below.size⟩, Nat.le_of_lt hbz.2, .inl hbz.1, fun _ => ⟨_, rfl, Nat.le_refl _, hbz.2⟩⟩
      refine Stps2.cons (o := _) ?_ ?_
      · intro ac yw hsz hold hB hp K hK
        clear hold hp hsz
        have hbz : Below yw.heap.size yw (yw.alloc (.cells #[.slice none 0 0] 22)) ∧ yw.heap.size < (yw.alloc (.cells #[.slice none 0 0] 22)).heap.size := ⟨(Below.refl _ _).alloc (Nat.le_refl _) _, by rw [World.size_alloc]; omega⟩
        go_simp
        exact hK.out _ _ ⟨hB.alloc _, ⟨yw.heap.size, .slice none 0 0, rfl, Row.new yw _ _, (fun _ h => by cases h), hB.below.size⟩, Nat.le_of_lt hbz.2, .inl hbz.1, fun _ => ⟨_, rfl, Nat.le_refl _, hbz.2⟩⟩
      refine Stps2.cons (o := _) ?_ ?_
      · intro ac yw hsz hold hB hp K hK
        obtain ⟨k5, z5, e5, r5, nz5, hg5⟩ := hp 5 (by decide)
        have t9 : ac.tmps[9]? = some (.pointer (some ⟨k5, 0, none⟩)) := (List.cons.inj e5).1
        obtain ⟨g1, c1, e1, kS⟩ := hp 1 (by decide)
        have t31 : ac.tmps[31]? = some (.slice (some ⟨g1, 0, none⟩) r c1) := (List.cons.inj e1).1
        have v0 : yw.cell? ⟨k5, 0, none⟩ = some z5 := r5.cell 0
        have v1 := r5.free 0
        clear hold hp hsz e5 e1
        go_simp
        refine hK.out undef _ ⟨⟨hB.below.setCell (p := ⟨k5, 0, none⟩) hg5 _, fun _ _ _ _ => trivial, trivial⟩, ⟨k5, g1, c1, ?_, r5.set 0 _, kS.setAt v0 nz5 _⟩, by simp, .inr ?_, fun h => absurd h (by decide)⟩
        · exact (show [ac.tmps[9]?, ac.tmps[31]?] = _ by rw [t9, t31])
        intro jj hj hap h
        match jj, h with
        | 0, h => exact h
        | 1, ⟨g1', c1', e1', q1⟩ => exact ⟨g1', c1', e1', q1.setAt v0 nz5 _⟩
        | 2, h => exact h
        | 3, h => exact h
        | 4, ⟨g4', e4', q4, q5⟩ => exact ⟨g4', e4', q4.setAt v0 nz5 _, q5⟩
        | 5, ⟨k5', z5', e5', q5, q6, q7⟩ =>
          have e9 : k5' = k5 := by have := (List.cons.inj e5').1.symm.trans t9; cases this; rfl
          subst e9
          exact ⟨_, _, e5', q5.set 0 _, (fun _ h => by cases h), q7⟩
        | 6, ⟨k6', z6', e6', q5, q6, q7⟩ =>
          have n56 : k6' ≠ k5 := fun e => hap 5 (by decide) 6 (by decide) (by decide) (by decide) (.inr rfl) k5 ⟨9, _, by kernel_rfl, t9, rfl⟩ ⟨10, _, by kernel_rfl, (List.cons.inj e6').1, by rw [e]; rfl⟩
          exact ⟨k6', z6', e6', q5.far (a := ⟨k5, 0, none⟩) n56 _, q6, q7⟩
        | 7, _ => exact absurd rfl hj
        | 8, ⟨k6', g4', e8', q5, q6, q7⟩ =>
          have n56 : k6' ≠ k5 := fun e => hap 5 (by decide) 6 (by decide) (by decide) (by decide) (.inl (by decide)) k5 ⟨9, _, by kernel_rfl, t9, rfl⟩ ⟨10, _, by kernel_rfl, (List.cons.inj e8').1, by rw [e]; rfl⟩
          exact ⟨k6', g4', e8', q5.far (a := ⟨k5, 0, none⟩) n56 _, q6.setAt v0 nz5 _, q7⟩
        | _ + 9, h => exact h
      refine Stps2.cons (o := _) ?_ ?_
      · intro ac yw hsz hold hB hp K hK
        obtain ⟨k6, z6, e6, r6, nz6, hg6⟩ := hp 6 (by decide)
        have t10 : ac.tmps[10]? = some (.pointer (some ⟨k6, 0, none⟩)) := (List.cons.inj e6).1
        obtain ⟨g4, e4, bx4, hg4⟩ := hp 4 (by decide)
        have t34 : ac.tmps[34]? = some (.slice (some ⟨g4, 0, none⟩) r r) := (List.cons.inj e4).1
        have v0 : yw.cell? ⟨k6, 0, none⟩ = some z6 := r6.cell 0
        have v1 := r6.free 0
        clear hold hp hsz e6 e4
        go_simp
        refine hK.out undef _ ⟨⟨hB.below.setCell (p := ⟨k6, 0, none⟩) hg6 _, fun _ _ _ _ => trivial, trivial⟩, ⟨k6, g4, ?_, r6.set 0 _, bx4.setAt v0 nz6 _, hg4⟩, by simp, .inr ?_, fun h => absurd h (by decide)⟩
        · exact (show [ac.tmps[10]?, ac.tmps[34]?] = _ by rw [t10, t34])
        intro jj hj hap h
        match jj, h with
        | 0, h => exact h
        | 1, ⟨g1', c1', e1', q1⟩ => exact ⟨g1', c1', e1', q1.setAt v0 nz6 _⟩
        | 2, h => exact h
        | 3, h => exact h
        | 4, ⟨g4', e4', q4, q5⟩ => exact ⟨g4', e4', q4.setAt v0 nz6 _, q5⟩
        | 5, ⟨k5', z5', e5', q5, q6, q7⟩ =>
          have n56 : k5' ≠ k6 := fun e => hap 6 (by decide) 5 (by decide) (by decide) (by decide) (.inr rfl) k6 ⟨10, _, by kernel_rfl, t10, rfl⟩ ⟨9, _, by kernel_rfl, (List.cons.inj e5').1, by rw [e]; rfl⟩
          exact ⟨k5', z5', e5', q5.far (a := ⟨k6, 0, none⟩) n56 _, q6, q7⟩
        | 6, ⟨k6', z6', e6', q5, q6, q7⟩ =>
          have e9 : k6' = k6 := by have := (List.cons.inj e6').1.symm.trans t10; cases this; rfl
          subst e9
          exact ⟨_, _, e6', q5.set 0 _, (fun _ h => by cases h), q7⟩
        | 7, ⟨k5', g1', c1', e7', q5, q6⟩ =>
          have n56 : k5' ≠ k6 := fun e => hap 6 (by decide) 5 (by decide) (by decide) (by decide) (.inl (by decide)) k6 ⟨10, _, by kernel_rfl, t10, rfl⟩ ⟨9, _, by kernel_rfl, (List.cons.inj e7').1, by rw [e]; rfl⟩
          exact ⟨k5', g1', c1', e7', q5.far (a := ⟨k6, 0, none⟩) n56 _, q6.setAt v0 nz6 _⟩
        | 8, _ => exact absurd rfl hj
        | _ + 9, h => exact h
      exact Stps2.nil _
end Go.Proofs.YtifnamlgkooacaaGreatDoor

namespace Go.Proofs.YtifnamlgkooacaaGreatDoor
open Go.RowKit
attribute [local go_sem ↓] Go.wp_at_zero Go.wp_at_succ
theorem runes8_any {w : World} {x : Array Value} {S : Nat → Int} {r L : Nat} {g P : Nat → Int} {Q : Nat → Nat} (h : Arr w x S r true L g P Q) (hL : L ≤ 1000000) :
    Calls Tryz.prog 59 #[.agg x] w fun e w' => ∃ a c, e = .returned (.slice a L c) ∧ KRow w' .i32 a L c g ∧ Below w.heap.size w w' := by
  obtain ⟨ta, tc, rfl, hk⟩ := h.1 rfl
  exact runes_any true ((r : Int) - 1) (dm S r) none 0 0 ta L tc g w hk hL
theorem rats8_any {w : World} {x : Array Value} {S : Nat → Int} {r L : Nat} {g P : Nat → Int} {Q : Nat → Nat} (h : Arr w x S r false L g P Q) (hL : L ≤ 1000000) :
    Calls Tryz.prog 61 #[.agg x] w fun e w' => ∃ a c, e = .returned (.slice a L c) ∧ RRow w' a L c P Q ∧ Below w.heap.size w w' := by
  obtain ⟨na, nc, rfl, hk⟩ := h.2 rfl
  exact aRats_any false ((r : Int) - 1) (dm S r) na L nc none 0 0 P Q w hk hL
theorem makeC_any {w : World} {aT : Option Addr} {r cT : Nat} {T : Nat → Int} {a : Option Addr} {M c : Nat} {W1 W2 : Nat → Int} {W3 : Nat → Nat} {E : Int} {bE : Bool} (kT : KRow w .i64 aT r cT T) (hT : In64 T r) (kl : KRow w .i32 a M c W1) (hM : M ≤ 1000000) (hok : (shB T r && decide (itm T r = (M : Nat))) = bE) (hE : (bE = true → E = 0) ∧ (bE = false → E = 26)) :
    Calls Tryz.prog 57 #[.slice aT r cT, .slice a M c] w fun e w' => ∃ x, e = .returned (.tuple #[.agg x, .bool bE]) ∧ MoR w' x E T r true M W1 W2 W3 ∧ Below w.heap.size w w' := by
  have := chars_any aT r cT T a M c W1 w kT hT kl hM
  rw [hok] at this
  refine this.mono ?_
  rintro e w' ⟨x, he, h2, hb⟩
  refine ⟨x, he, ?_, hb⟩
  cases bE with
  | true =>
    obtain rfl := hE.1 rfl
    rw [if_pos rfl] at h2
    have ha : Arr w' x T r true M W1 W2 W3 := ⟨fun _ => h2, fun e => by cases e⟩
    exact ⟨ha.isA, fun _ => ha, fun e => absurd rfl e⟩
  | false =>
    obtain rfl := hE.2 rfl
    rw [if_neg (by decide)] at h2
    subst h2
    exact ⟨IsA.zer, (fun e => by cases e), fun _ => rfl⟩
theorem makeR_any {w : World} {aT : Option Addr} {r cT : Nat} {T : Nat → Int} {a : Option Addr} {M c : Nat} {W1 W2 : Nat → Int} {W3 : Nat → Nat} {E : Int} {bE : Bool} (kT : KRow w .i64 aT r cT T) (hT : In64 T r) (kl : RRow w a M c W2 W3) (hM : M ≤ 1000000) (hok : (shB T r && decide (itm T r = (M : Nat))) = bE) (hE : (bE = true → E = 0) ∧ (bE = false → E = 26)) :
    Calls Tryz.prog 40 #[.slice aT r cT, .slice a M c] w fun e w' => ∃ x, e = .returned (.tuple #[.agg x, .bool bE]) ∧ MoR w' x E T r false M W1 W2 W3 ∧ Below w.heap.size w w' := by
  have := nums_any aT r cT T a M c W2 W3 w kT hT kl hM
  rw [hok] at this
  refine this.mono ?_
  rintro e w' ⟨x, he, h2, hb⟩
  refine ⟨x, he, ?_, hb⟩
  cases bE with
  | true =>
    obtain rfl := hE.1 rfl
    rw [if_pos rfl] at h2
    have ha : Arr w' x T r false M W1 W2 W3 := ⟨fun e => (by cases e), fun _ => h2⟩
    exact ⟨ha.isA, fun _ => ha, fun e => absurd rfl e⟩
  | false =>
    obtain rfl := hE.2 rfl
    rw [if_neg (by decide)] at h2
    subst h2
    exact ⟨IsA.zer, (fun e => by cases e), fun _ => rfl⟩
theorem KRow.storeA {w : World} {ki : IntKind} {a : Option Addr} {n c : Nat} {f : Nat → Int} (h : KRow w ki a n c f) (hki : ki ≠ .i64) {k : Nat} {t : TypeId} {z : Array Value} (hr : Row w k t z) (hz : IsA z) (cs : Array Value) : KRow (w.setRow k cs) ki a n c f := by
  obtain ⟨_, _, _, _, _, _, _, _, _, rfl⟩ := hz
  exact h.away (KRow.ne h hki hr) (Far.setRow _ _ _)
theorem RRow.storeA {w : World} {a : Option Addr} {n c : Nat} {P : Nat → Int} {Q : Nat → Nat} (h : RRow w a n c P Q) {k : Nat} {t : TypeId} {z : Array Value} (hr : Row w k t z) (hz : IsA z) (cs : Array Value) : RRow (w.setRow k cs) a n c P Q := by
  obtain ⟨_, _, _, _, _, _, _, _, _, rfl⟩ := hz
  exact h.away (Row.noLimb hr) (RRow.ne h hr) (Far.setRow _ _ _)
/-- What lies in behind's variables. -/
def BhP (fl : Bool) (k1 k2 k3 k4 : Nat) (c1 c2 : Array Value) (aT : Option Addr) (r cT : Nat) (T : Nat → Int) (y : World) : Prop := Row y k1 32 c1 ∧ Row y k2 32 c2 ∧ Row y k3 32 zerC ∧ (∃ z, Row y k4 32 z ∧ IsA z) ∧ (fl = false → KRow y .i64 aT r cT T)
theorem BhP.stay {fl : Bool} {k1 k2 k3 k4 : Nat} {c1 c2 : Array Value} {aT : Option Addr} {r cT : Nat} {T : Nat → Int} : ∀ a b, Below a.heap.size a b → BhP fl k1 k2 k3 k4 c1 c2 aT r cT T a → BhP fl k1 k2 k3 k4 c1 c2 aT r cT T b := by
  rintro a b hb ⟨h1, h2, h3, ⟨z4, h4, i4⟩, h5⟩
  exact ⟨h1.below hb, h2.below hb, h3.below hb, ⟨z4, h4.below hb, i4⟩, fun e => (h5 e).below hb⟩
theorem BhP.put {w y : World} {fl : Bool} {k1 k2 k3 k4 : Nat} {c1 c2 : Array Value} {aT : Option Addr} {r cT : Nat} {T : Nat → Int} (h : Bag w (BhP fl k1 k2 k3 k4 c1 c2 aT r cT T) y) (n1 : k1 ≠ k4) (n2 : k2 ≠ k4) (n3 : k3 ≠ k4) (hw : w.heap.size ≤ k4) (cs : Array Value) (hc : IsA cs) : Bag w (BhP true k1 k2 k3 k4 c1 c2 aT r cT T) (y.setRow k4 cs) := by
  obtain ⟨h1, h2, h3, ⟨z4, h4, i4⟩, _⟩ := h.now
  exact ⟨below_put h.below hw _, BhP.stay, h1.puto n1 _, h2.puto n2 _, h3.puto n3 _, ⟨_, h4.put _, hc⟩, fun e => by cases e⟩
set_option linter.unusedSimpArgs false in
set_option linter.unusedVariables false in
set_option maxHeartbeats 6400000 in
set_option maxRecDepth 100000 in
theorem behind_any (x1 : Array Value) (X : Nat → Int) (r : Nat) (ch : Bool) (La : Nat) (g1 P1 : Nat → Int) (Q1 : Nat → Nat) (x2 : Array Value) (Y : Nat → Int) (Lb : Nat) (g2 P2 : Nat → Int) (Q2 : Nat → Nat) (k N1 N2 : Nat) (w : World) (h1 : Arr w x1 X r ch La g1 P1 Q1) (h2 : Arr w x2 Y r ch Lb g2 P2 Q2)
    (hX : shB X r = true) (hY : shB Y r = true) (hcX : itm X r = (La : Nat)) (hcY : itm Y r = (Lb : Nat)) (hk : k < r) (hne : ∀ a, a < r → a ≠ k → Y a = X a) (hN1 : (N1 : Int) = X k * stF X r k) (hN2 : (N2 : Int) = Y k * stF X r k) :
    Calls Tryz.prog 28 #[.agg x1, .agg x2, .int .i64 (k : Nat)] w fun e w' => MoTold (pkE (wiF X (k : Nat) (X k + Y k)) r) (wiF X (k : Nat) (X k + Y k)) r ch (La + Lb) (wvF N1 N2 g1 g2) (wvF N1 N2 P1 P2) (wvF N1 N2 Q1 Q2) w w' e := by
  obtain ⟨na1, nn1, nc1, ta1, tn1, tc1, hx1, _⟩ := h1.form
  subst hx1
  obtain ⟨na2, nn2, nc2, ta2, tn2, tc2, hx2, _⟩ := h2.form
  subst hx2
  have hr8 := (sh_ax hX).1
  have bX := ax_le4 hX hk
  have bY := ax_le4 hY hk
  obtain ⟨n, hn⟩ : ∃ n : Nat, X k = n := ⟨(X k).toNat, by omega⟩
  obtain ⟨m, hm⟩ : ∃ m : Nat, Y k = m := ⟨(Y k).toNat, by omega⟩
  obtain ⟨T, hT⟩ : ∃ f, wiF X (k : Nat) (X k + Y k) = f := ⟨_, rfl⟩
  have hTk : T k = ((n + m : Nat) : Int) := by rw [← hT, wi_at, hn, hm]; push_cast; rfl
  have hxT : ∀ a, a < r → a ≠ k → X a = T a := fun a _ ha => by rw [← hT, wi_off _ ha]
  have hyT : ∀ a, a < r → a ≠ k → Y a = T a := fun a ha hak => (hne a ha hak).trans (hxT a ha hak)
  obtain ⟨c1, c2⟩ := shf_congr hxT hk
  have est : stF X r k = stF T r k := itm_congr c2
  rw [hn, est] at hN1
  rw [hm, est] at hN2
  obtain ⟨B0, hB1, hB2, hL1, hL2, hLT⟩ := wv_len hk hTk hn hm hxT hyT (fun a ha => by have h9 := hxT a (by omega) (by omega); have := ax_le4 hX (show a < r by omega); omega) hN1 hN2
  have hB4 : B0 ≤ 4096 := by
    have := ax_bd (ax_le (show k ≤ r by omega) (sh_ax hX).2)
    omega
  have hX4 := ax_bd (sh_ax hX).2
  have hY4 := ax_bd (sh_ax hY).2
  have hLa : La = B0 * N1 := by rw [hcX] at hL1; exact_mod_cast hL1
  have hLb : Lb = B0 * N2 := by rw [hcY] at hL2; exact_mod_cast hL2
  have hLM : itm T r = ((La + Lb : Nat) : Int) := by rw [hLT, hLa, hLb, Nat.mul_add]
  have hT64 : In64 T r := fun a ha => by
    by_cases e : a = k
    · subst e; rw [hTk]; omega
    · have := ax_le4 hX ha; rw [← hxT a ha e]; omega
  obtain ⟨bE, hbE⟩ : ∃ b, shB T r = b := ⟨_, rfl⟩
  obtain ⟨E, hE⟩ : ∃ E, pkE T r = E := ⟨_, rfl⟩
  have HEB : Hid ((bE = true → E = 0) ∧ (bE = false → E = 26)) := Lib.hid ⟨fun e => by rw [← hE]; unfold pkE; rw [hbE, e]; rfl, fun e => by rw [← hE]; unfold pkE; rw [hbE, e]; rfl⟩
  have hok : (shB T r && decide (itm T r = ((La + Lb : Nat) : Int))) = bE := by rw [hLM, decide_eq_true rfl, Bool.and_true, hbE]
  rw [hT, hE]
  obtain ⟨st1, hst1⟩ : ∃ s, stF X r k = s := ⟨_, rfl⟩
  obtain ⟨st2, hst2⟩ : ∃ s, stF Y r k = s := ⟨_, rfl⟩
  have SP1 : Hid (∀ a c wz, KRow wz .i64 a r c X → Calls Tryz.prog 55 #[.slice a r c, .int .i64 (k : Nat)] wz fun e w' => e = .returned (.tuple #[.int .i64 (B0 : Nat), .int .i64 (n : Nat), .int .i64 st1, .bool true]) ∧ Below wz.heap.size wz w') := Lib.hid (fun a c wz h => by
    have := split_any a r c X (k : Nat) wz h (fun j hj => by have := ax_le4 hX hj; omega)
    unfold SpTold at this
    have hs : spB X r ((k : Nat) : Int) = true := by unfold spB; rw [hX, decide_eq_true (show (0 : Int) ≤ k by omega), decide_eq_true (show (k : Int) < r by omega)]; rfl
    rw [hs, if_pos rfl, if_pos rfl, if_pos rfl, Int.toNat_natCast, hB1, hn, show itm (shf X (k + 1)) (r - (k + 1)) = st1 from hst1] at this
    exact this)
  have SP2 : Hid (∀ a c wz, KRow wz .i64 a r c Y → Calls Tryz.prog 55 #[.slice a r c, .int .i64 (k : Nat)] wz fun e w' => e = .returned (.tuple #[.int .i64 (B0 : Nat), .int .i64 (m : Nat), .int .i64 st2, .bool true]) ∧ Below wz.heap.size wz w') := Lib.hid (fun a c wz h => by
    have := split_any a r c Y (k : Nat) wz h (fun j hj => by have := ax_le4 hY hj; omega)
    unfold SpTold at this
    have hs : spB Y r ((k : Nat) : Int) = true := by unfold spB; rw [hY, decide_eq_true (show (0 : Int) ≤ k by omega), decide_eq_true (show (k : Int) < r by omega)]; rfl
    rw [hs, if_pos rfl, if_pos rfl, if_pos rfl, Int.toNat_natCast, hB2, hm, show itm (shf Y (k + 1)) (r - (k + 1)) = st2 from hst2] at this
    exact this)
  have WI : Hid (∀ a c wz, KRow wz .i64 a r c X → Calls Tryz.prog 56 #[.slice a r c, .int .i64 (k : Nat), .int .i64 ((n : Int) + (m : Int))] wz fun e w' => ∃ a' c', e = .returned (.slice a' r c') ∧ KRow w' .i64 a' r c' T ∧ Below wz.heap.size wz w') := Lib.hid (fun a c wz h => by
    have := with_any a r c X (k : Nat) ((n : Int) + (m : Int)) wz h (by omega)
    rw [show wiF X ((k : Nat) : Int) ((n : Int) + (m : Int)) = T by rw [← hT, hn, hm]] at this
    exact this)
  have w1 := IntWalk.i64_in ((n : Int) + (m : Int)) (by omega)
  have H1 := Lib.hid h1
  have H2 := Lib.hid h2
  have SH1 := Lib.hid (fun wz h => shape8_any (arrC ch ((r : Int) - 1) (dm X r) na1 nn1 nc1 ta1 tn1 tc1) X r ch La g1 P1 Q1 wz h hr8)
  have SH2 := Lib.hid (fun wz h => shape8_any (arrC ch ((r : Int) - 1) (dm Y r) na2 nn2 nc2 ta2 tn2 tc2) Y r ch Lb g2 P2 Q2 wz h hr8)
  have IC := Lib.hid (fun wz => isChar_any ch ((r : Int) - 1) (dm X r) na1 nn1 nc1 ta1 tn1 tc1 wz)
  have BB0 := Lib.hid ((((Bag.start w).newRow (arrC ch ((r : Int) - 1) (dm X r) na1 nn1 nc1 ta1 tn1 tc1) 32).newRow (arrC ch ((r : Int) - 1) (dm Y r) na2 nn2 nc2 ta2 tn2 tc2) 32).newRow zerC 32)
  simp only [World.size_alloc] at BB0
  have BB := Lib.hid (show Bag w (fun y => Row y w.heap.size 32 (arrC ch ((r : Int) - 1) (dm X r) na1 nn1 nc1 ta1 tn1 tc1) ∧ Row y (w.heap.size + 1) 32 (arrC ch ((r : Int) - 1) (dm Y r) na2 nn2 nc2 ta2 tn2 tc2) ∧ Row y (w.heap.size + 1 + 1) 32 zerC ∧ True) _ from ⟨BB0.out.below, fun a b hb ⟨q1, q2, q3, _⟩ => ⟨q1.below hb, q2.below hb, q3.below hb, trivial⟩, BB0.out.now.2.2.1, BB0.out.now.2.1, BB0.out.now.1, trivial⟩)
  have HR1 := Lib.hid BB.out.now.1
  clear h1 h2 BB0 hX hY hne hN1 hN2 hn hm hTk hxT hyT c1 c2 est hB1 hB2 hL1 hL2 hLT hT hbE hE hst1 hst2 bX bY
  have hpos : True := trivial
  have hLa4 : La ≤ 4096 := by omega
  have hLb4 : Lb ≤ 4096 := by omega
  clear hcX hcY hX4 hY4 hLM
  cases ch with
  | true =>
    have EL1 := Lib.hid (fun wz (h : Arr wz (arrC true ((r : Int) - 1) (dm X r) na1 nn1 nc1 ta1 tn1 tc1) X r true La g1 P1 Q1) => runes8_any h (by omega))
    have EL2 := Lib.hid (fun wz (h : Arr wz (arrC true ((r : Int) - 1) (dm Y r) na2 nn2 nc2 ta2 tn2 tc2) Y r true Lb g2 P2 Q2) => runes8_any h (by omega))
    have WV := Lib.hid (fun a c b d wz h1 h2 => wovenC_any a La c g1 b Lb d g2 B0 N1 N2 wz h1 h2 hLa hLb (by omega) (by omega) (by omega))
    have MK := Lib.hid (fun aT a c cT wz (kT : KRow wz .i64 aT r cT T) (kl : KRow wz .i32 a (La + Lb) c (wvF N1 N2 g1 g2)) => makeC_any (E := E) (bE := bE) (W1 := wvF N1 N2 g1 g2) (W2 := wvF N1 N2 P1 P2) (W3 := wvF N1 N2 Q1 Q2) kT hT64 kl (by omega) hok HEB.out)
    clear hLa hLb hT64 hok hpos
    unfold arrC
    go_enter Tryz.func28, Tryz.ntmps28
    go_wp2_with (refine ld_arr rfl (.tmp 3) rfl (w.heap.size) rfl HR1.out ?_)
    go_at_call 35
    (with_reducible refine (SH1.out _ ?_).mono ?_)
    · exact H1.out.below BB.out.below
    rintro e w2a ⟨a2, c2, rfl, hk2, hb2⟩
    have BB := Lib.hid (BB.out.go hb2)
    have HK := Lib.hid hk2
    have hl2 := hk2.len
    clear hk2 hb2
    go_wp2_with fail
    go_at_call 55
    (with_reducible refine (SP1.out _ _ _ HK.out).mono ?_)
    rintro e w2b ⟨rfl, hb3⟩
    have BB := Lib.hid (BB.out.go hb3)
    have HR1 := Lib.hid BB.out.now.1
    have HR2 := Lib.hid BB.out.now.2.1
    clear hb3 HK
    go_wp2_with (refine ld_arr rfl (.tmp 4) rfl (w.heap.size + 1) rfl HR2.out ?_)
    go_at_call 35
    (with_reducible refine (SH2.out _ ?_).mono ?_)
    · exact H2.out.below BB.out.below
    rintro e w4a ⟨a4, c4, rfl, hk4, hb4⟩
    have BB := Lib.hid (BB.out.go hb4)
    have HK := Lib.hid hk4
    have hl4 := hk4.len
    clear hk4 hb4
    go_wp2_with fail
    go_at_call 55
    (with_reducible refine (SP2.out _ _ _ HK.out).mono ?_)
    rintro e w4b ⟨rfl, hb5⟩
    have BB := Lib.hid (BB.out.go hb5)
    have HR1 := Lib.hid BB.out.now.1
    have HR2 := Lib.hid BB.out.now.2.1
    clear hb5 HK
    go_wp2_with (refine ld_arr rfl (.tmp 3) rfl (w.heap.size) rfl HR1.out ?_)
    go_at_call 35
    (with_reducible refine (SH1.out _ ?_).mono ?_)
    · exact H1.out.below BB.out.below
    rintro e w6a ⟨a6, c6, rfl, hk6, hb6⟩
    have BB := Lib.hid (BB.out.go hb6)
    have HK := Lib.hid hk6
    have hl6 := hk6.len
    clear hk6 hb6
    go_wp2_with fail
    go_at_call 56
    (with_reducible refine (WI.out _ _ _ HK.out).mono ?_)
    rintro e w7 ⟨aT, cT, rfl, hkT, hb7⟩
    have BB := Lib.hid (BB.out.go hb7)
    have HKT := Lib.hid hkT
    have hlT := hkT.len
    have hb17 : Below w7.heap.size w7 (w7.alloc (.cells zerC 32)) := (Below.refl _ _).alloc (Nat.le_refl _) _
    have HR1 := Lib.hid (BB.out.go hb17).now.1
    have BP0 : Hid (Bag w (BhP false (w.heap.size) (w.heap.size + 1) (w.heap.size + 1 + 1) w7.heap.size (arrC true ((r : Int) - 1) (dm X r) na1 nn1 nc1 ta1 tn1 tc1) (arrC true ((r : Int) - 1) (dm Y r) na2 nn2 nc2 ta2 tn2 tc2) aT r cT T) (w7.alloc (.cells zerC 32))) := Lib.hid ⟨(BB.out.go hb17).below, BhP.stay, (BB.out.go hb17).now.1, (BB.out.go hb17).now.2.1, (BB.out.go hb17).now.2.2.1, ⟨_, Row.new _ _ _, IsA.zer⟩, fun _ => hkT.below hb17⟩
    have hsz : w.heap.size + 1 + 1 < w7.heap.size := BB.out.now.2.2.1.lt
    unfold zerC at HR1 BP0
    unfold arrC at HR1 BP0
    clear hkT hb7 hb17 HK
    go_wp2_with (refine ld_arr rfl (.tmp 3) rfl (w.heap.size) rfl HR1.out ?_)
    go_at_call 51
    (with_reducible refine (IC.out _).mono ?_)
    rintro e Y3 ⟨rfl, hb8⟩
    have BP := BP0.out.go hb8
    obtain ⟨g17, hg17⟩ : ∃ n, w7.heap.size = n := ⟨_, rfl⟩
    rw [hg17] at hsz BP
    clear hb8 BP0 HR1 BB HKT
    go_wp2_with fail
    clear hg17
    refine wp_region_inv4 ⟨(fun j => ([[47], [48], [49], [50], [51], [52], [53], [54], [46], [55], [56], [], [18]] : List (List Nat)).getD j []), (fun j => ([[], [], [1], [], [1, 2, 3], [], [1, 2, 3, 4, 5], [0, 1, 2, 3, 4, 5, 6], [0, 1, 2, 3, 4, 5, 6, 7], [0, 1, 2, 3, 4, 5, 6, 7, 8], [0, 1, 2, 3, 4, 5, 6, 7, 8], [0, 1, 2, 3, 4, 5, 6, 7, 8, 9], [0, 1, 2, 3, 4, 5, 6, 7, 8, 9, 10, 11]] : List (List Nat)).getD j []), []⟩ (fun jj vv yy => match jj with | 0 => vv = [some (.slice aT r cT)] | 1 => vv = [some (.agg (arrC true ((r : Int) - 1) (dm X r) na1 nn1 nc1 ta1 tn1 tc1))] | 2 => ∃ (a2 : Option Addr), ∃ (c2 : Nat), vv = [some (.slice a2 La c2)] ∧ KRow yy .i32 a2 La c2 g1 | 3 => vv = [some (.agg (arrC true ((r : Int) - 1) (dm Y r) na2 nn2 nc2 ta2 tn2 tc2))] | 4 => ∃ (a4 : Option Addr), ∃ (c4 : Nat), vv = [some (.slice a4 Lb c4)] ∧ KRow yy .i32 a4 Lb c4 g2 | 5 => vv = [some (.int .i64 (B0 : Nat))] | 6 => ∃ (a6 : Option Addr), ∃ (c6 : Nat), vv = [some (.slice a6 (La + Lb) c6)] ∧ KRow yy .i32 a6 (La + Lb) c6 (wvF N1 N2 g1 g2) | 7 => ∃ (x7 : Array Value), vv = [some (.tuple #[.agg x7, .bool bE])] ∧ MoR yy x7 E T r true (La + Lb) (wvF N1 N2 g1 g2) (wvF N1 N2 P1 P2) (wvF N1 N2 Q1 Q2) ∧ IsA x7 | 8 => ∃ (x7 : Array Value), vv = [some (.tuple #[.agg x7, .bool bE])] ∧ MoR yy x7 E T r true (La + Lb) (wvF N1 N2 g1 g2) (wvF N1 N2 P1 P2) (wvF N1 N2 Q1 Q2) ∧ IsA x7 | 9 => ∃ (x7 : Array Value), vv = [some (.agg x7)] ∧ MoR yy x7 E T r true (La + Lb) (wvF N1 N2 g1 g2) (wvF N1 N2 P1 P2) (wvF N1 N2 Q1 Q2) ∧ IsA x7 | 10 => vv = [some (.bool bE)] | 11 => ∃ (x7 : Array Value), Row yy (g17) 32 x7 ∧ MoR yy x7 E T r true (La + Lb) (wvF N1 N2 g1 g2) (wvF N1 N2 P1 P2) (wvF N1 N2 Q1 Q2) ∧ IsA x7 | 12 => vv = [some (.bool bE)] | _ => True) (fun f => Bag w (BhP (f 11) (w.heap.size) (w.heap.size + 1) (w.heap.size + 1 + 1) g17 (arrC true ((r : Int) - 1) (dm X r) na1 nn1 nc1 ta1 tn1 tc1) (arrC true ((r : Int) - 1) (dm Y r) na2 nn2 nc2 ta2 tn2 tc2) aT r cT T)) (by kernel_rfl) (by kernel_rfl) (by kernel_rfl) BP.drew ?_ ?_ ?_
    · intro jj vv yw yw2 hb h
      match jj, h with
      | 0, h => exact h
      | 1, h => exact h
      | 2, ⟨a2, c2, e2, g2_0⟩ => exact Exists.intro a2 (Exists.intro c2 (And.intro e2 (g2_0.below hb)))
      | 3, h => exact h
      | 4, ⟨a4, c4, e4, g4_0⟩ => exact Exists.intro a4 (Exists.intro c4 (And.intro e4 (g4_0.below hb)))
      | 5, h => exact h
      | 6, ⟨a6, c6, e6, g6_0⟩ => exact Exists.intro a6 (Exists.intro c6 (And.intro e6 (g6_0.below hb)))
      | 7, ⟨x7, e7, g7_0, g7_1⟩ => exact Exists.intro x7 (And.intro e7 (And.intro (g7_0.below hb) g7_1))
      | 8, ⟨x7, e8, g8_0, g8_1⟩ => exact Exists.intro x7 (And.intro e8 (And.intro (g8_0.below hb) g8_1))
      | 9, ⟨x7, e9, g9_0, g9_1⟩ => exact Exists.intro x7 (And.intro e9 (And.intro (g9_0.below hb) g9_1))
      | 10, h => exact h
      | 11, ⟨x7, g11_0, g11_1, g11_2⟩ => exact Exists.intro x7 (And.intro (g11_0.below hb) (And.intro (g11_1.below hb) g11_2))
      | 12, h => exact h
      | _ + 13, h => exact h
    · intro ac yw hsz hdf hold hB hp
      obtain ⟨x7, r17, m7, i7⟩ := hp 11 (by decide)
      have t18 : ac.tmps[18]? = some (.bool bE) := (List.cons.inj (hp 12 (by decide))).1
      have t6 : ac.tmps[6]? = some (.pointer (some ⟨w.heap.size + 1 + 1, 0, none⟩)) := hold 6 (by kernel_rfl)
      have t17 : ac.tmps[17]? = some (.pointer (some ⟨g17, 0, none⟩)) := hold 17 (by kernel_rfl)
      have HX := Lib.hid r17
      have HM := Lib.hid m7
      have HI := Lib.hid i7
      have HZ := Lib.hid hB.now.2.2.1
      have HBW := Lib.hid hB.below
      have HLT := Lib.hid hB.now.2.2.1.lt
      clear hold hp r17 m7 i7 hB
      obtain ⟨TZ, hTZ⟩ : ∃ TZ : Nat → Value, ∀ i, (ac.tmps[i]?).getD undef = TZ i := ⟨_, fun _ => rfl⟩
      have f6 := (hTZ 6).symm.trans (congrArg (fun x => Option.getD x undef) t6)
      have f17 := (hTZ 17).symm.trans (congrArg (fun x => Option.getD x undef) t17)
      have f18 := (hTZ 18).symm.trans (congrArg (fun x => Option.getD x undef) t18)
      have hac := act_eq (n := 72) hsz TZ hTZ
      rw [show ((List.range 72).map TZ).toArray = #[TZ 0, TZ 1, TZ 2, TZ 3, TZ 4, TZ 5, TZ 6, TZ 7, TZ 8, TZ 9, TZ 10, TZ 11, TZ 12, TZ 13, TZ 14, TZ 15, TZ 16, TZ 17, TZ 18, TZ 19, TZ 20, TZ 21, TZ 22, TZ 23, TZ 24, TZ 25, TZ 26, TZ 27, TZ 28, TZ 29, TZ 30, TZ 31, TZ 32, TZ 33, TZ 34, TZ 35, TZ 36, TZ 37, TZ 38, TZ 39, TZ 40, TZ 41, TZ 42, TZ 43, TZ 44, TZ 45, TZ 46, TZ 47, TZ 48, TZ 49, TZ 50, TZ 51, TZ 52, TZ 53, TZ 54, TZ 55, TZ 56, TZ 57, TZ 58, TZ 59, TZ 60, TZ 61, TZ 62, TZ 63, TZ 64, TZ 65, TZ 66, TZ 67, TZ 68, TZ 69, TZ 70, TZ 71] from rfl, f6, f17, f18, hdf] at hac
      simp only [Option.getD_some] at hac
      subst hac
      clear hTZ f6 f17 f18
      cases bE with
      | true =>
        obtain rfl := HEB.out.1 rfl
        have HA := Lib.hid (HM.out.2.1 rfl)
        obtain ⟨n8, m8, d8, u8, v8, z8, hx8, _⟩ := HA.out.form
        subst hx8
        have HE := Lib.hid (MoTold.yes (HA.out.put HZ.out (arrC true ((r : Int) - 1) (dm T r) n8 m8 d8 u8 v8 z8)) (below_put HBW.out (show w.heap.size ≤ w.heap.size + 1 + 1 by omega) (arrC true ((r : Int) - 1) (dm T r) n8 m8 d8 u8 v8 z8)))
        clear HM HI HEB
        unfold arrC at HX HE
        go_wp2_with (first
          | (refine ld_arr rfl (.tmp 17) rfl g17 rfl HX.out ?_)
          | (refine st_arr rfl (.tmp 6) (.tmp 71) rfl (w.heap.size + 1 + 1) rfl _ _ _ _ _ _ _ _ _ rfl HZ.out rfl ?_))
        exact bodyPost_ret (res_arr2 Tryz.results28 rfl rfl (HZ.out.put _) rfl) rfl HE.out
      | false =>
        obtain rfl := HEB.out.2 rfl
        have HE := Lib.hid (MoTold.no (S := T) (r := r) (ch := true) (L := La + Lb) (g := wvF N1 N2 g1 g2) (fP := wvF N1 N2 P1 P2) (fQ := wvF N1 N2 Q1 Q2) (E := 26) (by decide) (below_put HBW.out (show w.heap.size ≤ w.heap.size + 1 + 1 by omega) zerC))
        clear HM HI HEB HX
        go_wp2_with (refine st_arr rfl (.tmp 6) (.tmp 70) rfl (w.heap.size + 1 + 1) rfl false 0 (fun _ => 0) none 0 0 none 0 0 rfl HZ.out rfl ?_)
        exact bodyPost_ret (res_arr2 Tryz.results28 rfl rfl (HZ.out.put _) rfl) rfl HE.out
    refine Stps4.cons (o := _) ?_ ?_
    · intro f ac yw hsz hold hB hp hf K hK
      have t16 : ac.tmps[16]? = some (.slice aT r cT) := hold 16 (by kernel_rfl)
      clear hold hp hsz hf
      go_simp
      exact hK.out _ _ ⟨hB, rfl, Nat.le_refl _, .inl (Below.refl _ _), fun h => absurd h (by decide)⟩
    refine Stps4.cons (o := _) ?_ ?_
    · intro f ac yw hsz hold hB hp hf K hK
      have t3 : ac.tmps[3]? = some (.pointer (some ⟨w.heap.size, 0, none⟩)) := hold 3 (by kernel_rfl)
      clear hold hp hsz
      rw [if_pos (by rfl)]
      refine ld8 3 rfl (w.heap.size) ((arrC true ((r : Int) - 1) (dm X r) na1 nn1 nc1 ta1 tn1 tc1)) t3 (hB.now.1) (rfl) ?_
      exact hK.out _ _ ⟨hB, rfl, Nat.le_refl _, .inl (Below.refl _ _), fun h => absurd h (by decide)⟩
    refine Stps4.cons (o := _) ?_ ?_
    · intro f ac yw hsz hold hB hp hf K hK
      have e1 := hp 1 (by decide)
      have t48 : ac.tmps[48]? = some (.agg (arrC true ((r : Int) - 1) (dm X r) na1 nn1 nc1 ta1 tn1 tc1)) := (List.cons.inj e1).1
      clear hold hp hsz hf e1
      go_simp
      (go_at_call 59; (refine (EL1.out _ (H1.out.below hB.below)).mono ?_); rintro e wz ⟨a2, c2, rfl, h2_0, hbz⟩)
      exact hK.out _ _ ⟨hB.go hbz, Exists.intro a2 (Exists.intro c2 (And.intro rfl h2_0)), hbz.size, .inl hbz, fun h => absurd h (by decide)⟩
    refine Stps4.cons (o := _) ?_ ?_
    · intro f ac yw hsz hold hB hp hf K hK
      have t4 : ac.tmps[4]? = some (.pointer (some ⟨w.heap.size + 1, 0, none⟩)) := hold 4 (by kernel_rfl)
      clear hold hp hsz
      rw [if_pos (by rfl)]
      refine ld8 4 rfl (w.heap.size + 1) ((arrC true ((r : Int) - 1) (dm Y r) na2 nn2 nc2 ta2 tn2 tc2)) t4 (hB.now.2.1) (rfl) ?_
      exact hK.out _ _ ⟨hB, rfl, Nat.le_refl _, .inl (Below.refl _ _), fun h => absurd h (by decide)⟩
    refine Stps4.cons (o := _) ?_ ?_
    · intro f ac yw hsz hold hB hp hf K hK
      have e3 := hp 3 (by decide)
      have t50 : ac.tmps[50]? = some (.agg (arrC true ((r : Int) - 1) (dm Y r) na2 nn2 nc2 ta2 tn2 tc2)) := (List.cons.inj e3).1
      clear hold hp hsz hf e3
      go_simp
      (go_at_call 59; (refine (EL2.out _ (H2.out.below hB.below)).mono ?_); rintro e wz ⟨a4, c4, rfl, h4_0, hbz⟩)
      exact hK.out _ _ ⟨hB.go hbz, Exists.intro a4 (Exists.intro c4 (And.intro rfl h4_0)), hbz.size, .inl hbz, fun h => absurd h (by decide)⟩
    refine Stps4.cons (o := _) ?_ ?_
    · intro f ac yw hsz hold hB hp hf K hK
      have t8 : ac.tmps[8]? = some (.int .i64 (B0 : Nat)) := hold 8 (by kernel_rfl)
      clear hold hp hsz hf
      go_simp
      exact hK.out _ _ ⟨hB, rfl, Nat.le_refl _, .inl (Below.refl _ _), fun h => absurd h (by decide)⟩
    refine Stps4.cons (o := _) ?_ ?_
    · intro f ac yw hsz hold hB hp hf K hK
      obtain ⟨a2_2, c2_2, e2, g2_0⟩ := hp 2 (by decide)
      have t49 : ac.tmps[49]? = some (.slice a2_2 La c2_2) := (List.cons.inj e2).1
      obtain ⟨a4_4, c4_4, e4, g4_0⟩ := hp 4 (by decide)
      have t51 : ac.tmps[51]? = some (.slice a4_4 Lb c4_4) := (List.cons.inj e4).1
      have e5 := hp 5 (by decide)
      have t52 : ac.tmps[52]? = some (.int .i64 (B0 : Nat)) := (List.cons.inj e5).1
      clear hold hp hsz hf e2 e4 e5
      go_simp
      (go_at_call 58; (refine (WV.out _ _ _ _ _ g2_0 g4_0).mono ?_); rintro e wz ⟨a6, c6, rfl, h6_0, hbz⟩)
      exact hK.out _ _ ⟨hB.go hbz, Exists.intro a6 (Exists.intro c6 (And.intro rfl h6_0)), hbz.size, .inl hbz, fun h => absurd h (by decide)⟩
    refine Stps4.cons (o := _) ?_ ?_
    · intro f ac yw hsz hold hB hp hf K hK
      have e0 := hp 0 (by decide)
      have t47 : ac.tmps[47]? = some (.slice aT r cT) := (List.cons.inj e0).1
      obtain ⟨a6_6, c6_6, e6, g6_0⟩ := hp 6 (by decide)
      have t53 : ac.tmps[53]? = some (.slice a6_6 (La + Lb) c6_6) := (List.cons.inj e6).1
      clear hold hp hsz e0 e6
      go_simp
      (go_at_call 57; (refine (MK.out _ _ _ _ _ (hB.now.2.2.2.2 (hf 11 (by decide))) g6_0).mono ?_); rintro e wz ⟨x7, rfl, h7_0, hbz⟩)
      exact hK.out _ _ ⟨hB.go hbz, Exists.intro x7 (And.intro rfl (And.intro h7_0 h7_0.1)), hbz.size, .inl hbz, fun h => absurd h (by decide)⟩
    refine Stps4.cons (o := _) ?_ ?_
    · intro f ac yw hsz hold hB hp hf K hK
      obtain ⟨x7_7, e7, g7_0, g7_1⟩ := hp 7 (by decide)
      have t54 : ac.tmps[54]? = some (.tuple #[.agg x7_7, .bool bE]) := (List.cons.inj e7).1
      clear hold hp hsz hf e7
      go_simp
      exact hK.out _ _ ⟨hB, Exists.intro x7_7 (And.intro rfl (And.intro g7_0 g7_1)), Nat.le_refl _, .inl (Below.refl _ _), fun h => absurd h (by decide)⟩
    refine Stps4.cons (o := _) ?_ ?_
    · intro f ac yw hsz hold hB hp hf K hK
      obtain ⟨x7_8, e8, g8_0, g8_1⟩ := hp 8 (by decide)
      have t46 : ac.tmps[46]? = some (.tuple #[.agg x7_8, .bool bE]) := (List.cons.inj e8).1
      clear hold hp hsz hf e8
      go_simp
      exact hK.out _ _ ⟨hB, Exists.intro x7_8 (And.intro rfl (And.intro g8_0 g8_1)), Nat.le_refl _, .inl (Below.refl _ _), fun h => absurd h (by decide)⟩
    refine Stps4.cons (o := _) ?_ ?_
    · intro f ac yw hsz hold hB hp hf K hK
      obtain ⟨x7_8, e8, g8_0, g8_1⟩ := hp 8 (by decide)
      have t46 : ac.tmps[46]? = some (.tuple #[.agg x7_8, .bool bE]) := (List.cons.inj e8).1
      clear hold hp hsz hf e8
      go_simp
      exact hK.out _ _ ⟨hB, rfl, Nat.le_refl _, .inl (Below.refl _ _), fun h => absurd h (by decide)⟩
    refine Stps4.cons (o := _) ?_ ?_
    · intro f ac yw hsz hold hB hp hf K hK
      obtain ⟨x7_9, e9, g9_0, g9_1⟩ := hp 9 (by decide)
      have t55 : ac.tmps[55]? = some (.agg x7_9) := (List.cons.inj e9).1
      have t17 : ac.tmps[17]? = some (.pointer (some ⟨g17, 0, none⟩)) := hold 17 (by kernel_rfl)
      clear hold hp hsz hf e9
      rw [if_pos (by rfl)]
      obtain ⟨zz, hz, iz⟩ := hB.now.2.2.2.1
      have HB := BhP.put hB (by omega) (by omega) (by omega) (by omega) (x7_9) g9_1
      refine st8 17 55 rfl (g17) x7_9 t17 t55 _ zz hz iz g9_1 ?_
      refine hK.out undef _ ⟨HB, Exists.intro x7_9 (And.intro (hz.put _) (And.intro (g9_0.store hz iz _) g9_1)), by simp [World.setRow], .inr ?_, fun h => absurd h (by decide)⟩
      intro jj hj hap h
      match jj, h with
      | 0, h => exact h
      | 1, h => exact h
      | 2, ⟨a2, c2, e2, g2_0⟩ => exact Exists.intro a2 (Exists.intro c2 (And.intro e2 (KRow.storeA g2_0 (by decide) hz iz _)))
      | 3, h => exact h
      | 4, ⟨a4, c4, e4, g4_0⟩ => exact Exists.intro a4 (Exists.intro c4 (And.intro e4 (KRow.storeA g4_0 (by decide) hz iz _)))
      | 5, h => exact h
      | 6, ⟨a6, c6, e6, g6_0⟩ => exact Exists.intro a6 (Exists.intro c6 (And.intro e6 (KRow.storeA g6_0 (by decide) hz iz _)))
      | 7, ⟨x7, e7, g7_0, g7_1⟩ => exact Exists.intro x7 (And.intro e7 (And.intro (g7_0.store hz iz _) g7_1))
      | 8, ⟨x7, e8, g8_0, g8_1⟩ => exact Exists.intro x7 (And.intro e8 (And.intro (g8_0.store hz iz _) g8_1))
      | 9, ⟨x7, e9, g9_0, g9_1⟩ => exact Exists.intro x7 (And.intro e9 (And.intro (g9_0.store hz iz _) g9_1))
      | 10, h => exact h
      | 11, _ => exact absurd rfl hj
      | 12, h => exact h
      | _ + 13, h => exact h
    refine Stps4.cons (o := _) ?_ ?_
    · intro f ac yw hsz hold hB hp hf K hK
      have e10 := hp 10 (by decide)
      have t56 : ac.tmps[56]? = some (.bool bE) := (List.cons.inj e10).1
      clear hold hp hsz hf e10
      go_simp
      exact hK.out _ _ ⟨hB, rfl, Nat.le_refl _, .inl (Below.refl _ _), fun h => absurd h (by decide)⟩
    exact Stps4.nil _
  | false =>
    have EL1 := Lib.hid (fun wz (h : Arr wz (arrC false ((r : Int) - 1) (dm X r) na1 nn1 nc1 ta1 tn1 tc1) X r false La g1 P1 Q1) => rats8_any h (by omega))
    have EL2 := Lib.hid (fun wz (h : Arr wz (arrC false ((r : Int) - 1) (dm Y r) na2 nn2 nc2 ta2 tn2 tc2) Y r false Lb g2 P2 Q2) => rats8_any h (by omega))
    have WV := Lib.hid (fun a c b d wz h1 h2 => wovenR_any a La c P1 Q1 b Lb d P2 Q2 B0 N1 N2 wz h1 h2 hLa hLb (by omega) (by omega) (by omega))
    have MK := Lib.hid (fun aT a c cT wz (kT : KRow wz .i64 aT r cT T) (kl : RRow wz a (La + Lb) c (wvF N1 N2 P1 P2) (wvF N1 N2 Q1 Q2)) => makeR_any (E := E) (bE := bE) (W1 := wvF N1 N2 g1 g2) (W2 := wvF N1 N2 P1 P2) (W3 := wvF N1 N2 Q1 Q2) kT hT64 kl (by omega) hok HEB.out)
    clear hLa hLb hT64 hok hpos
    unfold arrC
    go_enter Tryz.func28, Tryz.ntmps28
    go_wp2_with (refine ld_arr rfl (.tmp 3) rfl (w.heap.size) rfl HR1.out ?_)
    go_at_call 35
    (with_reducible refine (SH1.out _ ?_).mono ?_)
    · exact H1.out.below BB.out.below
    rintro e w2a ⟨a2, c2, rfl, hk2, hb2⟩
    have BB := Lib.hid (BB.out.go hb2)
    have HK := Lib.hid hk2
    have hl2 := hk2.len
    clear hk2 hb2
    go_wp2_with fail
    go_at_call 55
    (with_reducible refine (SP1.out _ _ _ HK.out).mono ?_)
    rintro e w2b ⟨rfl, hb3⟩
    have BB := Lib.hid (BB.out.go hb3)
    have HR1 := Lib.hid BB.out.now.1
    have HR2 := Lib.hid BB.out.now.2.1
    clear hb3 HK
    go_wp2_with (refine ld_arr rfl (.tmp 4) rfl (w.heap.size + 1) rfl HR2.out ?_)
    go_at_call 35
    (with_reducible refine (SH2.out _ ?_).mono ?_)
    · exact H2.out.below BB.out.below
    rintro e w4a ⟨a4, c4, rfl, hk4, hb4⟩
    have BB := Lib.hid (BB.out.go hb4)
    have HK := Lib.hid hk4
    have hl4 := hk4.len
    clear hk4 hb4
    go_wp2_with fail
    go_at_call 55
    (with_reducible refine (SP2.out _ _ _ HK.out).mono ?_)
    rintro e w4b ⟨rfl, hb5⟩
    have BB := Lib.hid (BB.out.go hb5)
    have HR1 := Lib.hid BB.out.now.1
    have HR2 := Lib.hid BB.out.now.2.1
    clear hb5 HK
    go_wp2_with (refine ld_arr rfl (.tmp 3) rfl (w.heap.size) rfl HR1.out ?_)
    go_at_call 35
    (with_reducible refine (SH1.out _ ?_).mono ?_)
    · exact H1.out.below BB.out.below
    rintro e w6a ⟨a6, c6, rfl, hk6, hb6⟩
    have BB := Lib.hid (BB.out.go hb6)
    have HK := Lib.hid hk6
    have hl6 := hk6.len
    clear hk6 hb6
    go_wp2_with fail
    go_at_call 56
    (with_reducible refine (WI.out _ _ _ HK.out).mono ?_)
    rintro e w7 ⟨aT, cT, rfl, hkT, hb7⟩
    have BB := Lib.hid (BB.out.go hb7)
    have HKT := Lib.hid hkT
    have hlT := hkT.len
    have hb17 : Below w7.heap.size w7 (w7.alloc (.cells zerC 32)) := (Below.refl _ _).alloc (Nat.le_refl _) _
    have HR1 := Lib.hid (BB.out.go hb17).now.1
    have BP0 : Hid (Bag w (BhP false (w.heap.size) (w.heap.size + 1) (w.heap.size + 1 + 1) w7.heap.size (arrC false ((r : Int) - 1) (dm X r) na1 nn1 nc1 ta1 tn1 tc1) (arrC false ((r : Int) - 1) (dm Y r) na2 nn2 nc2 ta2 tn2 tc2) aT r cT T) (w7.alloc (.cells zerC 32))) := Lib.hid ⟨(BB.out.go hb17).below, BhP.stay, (BB.out.go hb17).now.1, (BB.out.go hb17).now.2.1, (BB.out.go hb17).now.2.2.1, ⟨_, Row.new _ _ _, IsA.zer⟩, fun _ => hkT.below hb17⟩
    have hsz : w.heap.size + 1 + 1 < w7.heap.size := BB.out.now.2.2.1.lt
    unfold zerC at HR1 BP0
    unfold arrC at HR1 BP0
    clear hkT hb7 hb17 HK
    go_wp2_with (refine ld_arr rfl (.tmp 3) rfl (w.heap.size) rfl HR1.out ?_)
    go_at_call 51
    (with_reducible refine (IC.out _).mono ?_)
    rintro e Y3 ⟨rfl, hb8⟩
    have BP := BP0.out.go hb8
    obtain ⟨g17, hg17⟩ : ∃ n, w7.heap.size = n := ⟨_, rfl⟩
    rw [hg17] at hsz BP
    clear hb8 BP0 HR1 BB HKT
    go_wp2_with fail
    clear hg17
    refine wp_region_inv4 ⟨(fun j => ([[58], [59], [60], [61], [62], [63], [64], [65], [57], [66], [67], [], [18]] : List (List Nat)).getD j []), (fun j => ([[], [], [1], [], [1, 2, 3], [], [1, 2, 3, 4, 5], [0, 1, 2, 3, 4, 5, 6], [0, 1, 2, 3, 4, 5, 6, 7], [0, 1, 2, 3, 4, 5, 6, 7, 8], [0, 1, 2, 3, 4, 5, 6, 7, 8], [0, 1, 2, 3, 4, 5, 6, 7, 8, 9], [0, 1, 2, 3, 4, 5, 6, 7, 8, 9, 10, 11]] : List (List Nat)).getD j []), []⟩ (fun jj vv yy => match jj with | 0 => vv = [some (.slice aT r cT)] | 1 => vv = [some (.agg (arrC false ((r : Int) - 1) (dm X r) na1 nn1 nc1 ta1 tn1 tc1))] | 2 => ∃ (a2 : Option Addr), ∃ (c2 : Nat), vv = [some (.slice a2 La c2)] ∧ RRow yy a2 La c2 P1 Q1 | 3 => vv = [some (.agg (arrC false ((r : Int) - 1) (dm Y r) na2 nn2 nc2 ta2 tn2 tc2))] | 4 => ∃ (a4 : Option Addr), ∃ (c4 : Nat), vv = [some (.slice a4 Lb c4)] ∧ RRow yy a4 Lb c4 P2 Q2 | 5 => vv = [some (.int .i64 (B0 : Nat))] | 6 => ∃ (a6 : Option Addr), ∃ (c6 : Nat), vv = [some (.slice a6 (La + Lb) c6)] ∧ RRow yy a6 (La + Lb) c6 (wvF N1 N2 P1 P2) (wvF N1 N2 Q1 Q2) | 7 => ∃ (x7 : Array Value), vv = [some (.tuple #[.agg x7, .bool bE])] ∧ MoR yy x7 E T r false (La + Lb) (wvF N1 N2 g1 g2) (wvF N1 N2 P1 P2) (wvF N1 N2 Q1 Q2) ∧ IsA x7 | 8 => ∃ (x7 : Array Value), vv = [some (.tuple #[.agg x7, .bool bE])] ∧ MoR yy x7 E T r false (La + Lb) (wvF N1 N2 g1 g2) (wvF N1 N2 P1 P2) (wvF N1 N2 Q1 Q2) ∧ IsA x7 | 9 => ∃ (x7 : Array Value), vv = [some (.agg x7)] ∧ MoR yy x7 E T r false (La + Lb) (wvF N1 N2 g1 g2) (wvF N1 N2 P1 P2) (wvF N1 N2 Q1 Q2) ∧ IsA x7 | 10 => vv = [some (.bool bE)] | 11 => ∃ (x7 : Array Value), Row yy (g17) 32 x7 ∧ MoR yy x7 E T r false (La + Lb) (wvF N1 N2 g1 g2) (wvF N1 N2 P1 P2) (wvF N1 N2 Q1 Q2) ∧ IsA x7 | 12 => vv = [some (.bool bE)] | _ => True) (fun f => Bag w (BhP (f 11) (w.heap.size) (w.heap.size + 1) (w.heap.size + 1 + 1) g17 (arrC false ((r : Int) - 1) (dm X r) na1 nn1 nc1 ta1 tn1 tc1) (arrC false ((r : Int) - 1) (dm Y r) na2 nn2 nc2 ta2 tn2 tc2) aT r cT T)) (by kernel_rfl) (by kernel_rfl) (by kernel_rfl) BP.drew ?_ ?_ ?_
    · intro jj vv yw yw2 hb h
      match jj, h with
      | 0, h => exact h
      | 1, h => exact h
      | 2, ⟨a2, c2, e2, g2_0⟩ => exact Exists.intro a2 (Exists.intro c2 (And.intro e2 (g2_0.below hb)))
      | 3, h => exact h
      | 4, ⟨a4, c4, e4, g4_0⟩ => exact Exists.intro a4 (Exists.intro c4 (And.intro e4 (g4_0.below hb)))
      | 5, h => exact h
      | 6, ⟨a6, c6, e6, g6_0⟩ => exact Exists.intro a6 (Exists.intro c6 (And.intro e6 (g6_0.below hb)))
      | 7, ⟨x7, e7, g7_0, g7_1⟩ => exact Exists.intro x7 (And.intro e7 (And.intro (g7_0.below hb) g7_1))
      | 8, ⟨x7, e8, g8_0, g8_1⟩ => exact Exists.intro x7 (And.intro e8 (And.intro (g8_0.below hb) g8_1))
      | 9, ⟨x7, e9, g9_0, g9_1⟩ => exact Exists.intro x7 (And.intro e9 (And.intro (g9_0.below hb) g9_1))
      | 10, h => exact h
      | 11, ⟨x7, g11_0, g11_1, g11_2⟩ => exact Exists.intro x7 (And.intro (g11_0.below hb) (And.intro (g11_1.below hb) g11_2))
      | 12, h => exact h
      | _ + 13, h => exact h
    · intro ac yw hsz hdf hold hB hp
      obtain ⟨x7, r17, m7, i7⟩ := hp 11 (by decide)
      have t18 : ac.tmps[18]? = some (.bool bE) := (List.cons.inj (hp 12 (by decide))).1
      have t6 : ac.tmps[6]? = some (.pointer (some ⟨w.heap.size + 1 + 1, 0, none⟩)) := hold 6 (by kernel_rfl)
      have t17 : ac.tmps[17]? = some (.pointer (some ⟨g17, 0, none⟩)) := hold 17 (by kernel_rfl)
      have HX := Lib.hid r17
      have HM := Lib.hid m7
      have HI := Lib.hid i7
      have HZ := Lib.hid hB.now.2.2.1
      have HBW := Lib.hid hB.below
      have HLT := Lib.hid hB.now.2.2.1.lt
      clear hold hp r17 m7 i7 hB
      obtain ⟨TZ, hTZ⟩ : ∃ TZ : Nat → Value, ∀ i, (ac.tmps[i]?).getD undef = TZ i := ⟨_, fun _ => rfl⟩
      have f6 := (hTZ 6).symm.trans (congrArg (fun x => Option.getD x undef) t6)
      have f17 := (hTZ 17).symm.trans (congrArg (fun x => Option.getD x undef) t17)
      have f18 := (hTZ 18).symm.trans (congrArg (fun x => Option.getD x undef) t18)
      have hac := act_eq (n := 72) hsz TZ hTZ
      rw [show ((List.range 72).map TZ).toArray = #[TZ 0, TZ 1, TZ 2, TZ 3, TZ 4, TZ 5, TZ 6, TZ 7, TZ 8, TZ 9, TZ 10, TZ 11, TZ 12, TZ 13, TZ 14, TZ 15, TZ 16, TZ 17, TZ 18, TZ 19, TZ 20, TZ 21, TZ 22, TZ 23, TZ 24, TZ 25, TZ 26, TZ 27, TZ 28, TZ 29, TZ 30, TZ 31, TZ 32, TZ 33, TZ 34, TZ 35, TZ 36, TZ 37, TZ 38, TZ 39, TZ 40, TZ 41, TZ 42, TZ 43, TZ 44, TZ 45, TZ 46, TZ 47, TZ 48, TZ 49, TZ 50, TZ 51, TZ 52, TZ 53, TZ 54, TZ 55, TZ 56, TZ 57, TZ 58, TZ 59, TZ 60, TZ 61, TZ 62, TZ 63, TZ 64, TZ 65, TZ 66, TZ 67, TZ 68, TZ 69, TZ 70, TZ 71] from rfl, f6, f17, f18, hdf] at hac
      simp only [Option.getD_some] at hac
      subst hac
      clear hTZ f6 f17 f18
      cases bE with
      | true =>
        obtain rfl := HEB.out.1 rfl
        have HA := Lib.hid (HM.out.2.1 rfl)
        obtain ⟨n8, m8, d8, u8, v8, z8, hx8, _⟩ := HA.out.form
        subst hx8
        have HE := Lib.hid (MoTold.yes (HA.out.put HZ.out (arrC false ((r : Int) - 1) (dm T r) n8 m8 d8 u8 v8 z8)) (below_put HBW.out (show w.heap.size ≤ w.heap.size + 1 + 1 by omega) (arrC false ((r : Int) - 1) (dm T r) n8 m8 d8 u8 v8 z8)))
        clear HM HI HEB
        unfold arrC at HX HE
        go_wp2_with (first
          | (refine ld_arr rfl (.tmp 17) rfl g17 rfl HX.out ?_)
          | (refine st_arr rfl (.tmp 6) (.tmp 71) rfl (w.heap.size + 1 + 1) rfl _ _ _ _ _ _ _ _ _ rfl HZ.out rfl ?_))
        exact bodyPost_ret (res_arr2 Tryz.results28 rfl rfl (HZ.out.put _) rfl) rfl HE.out
      | false =>
        obtain rfl := HEB.out.2 rfl
        have HE := Lib.hid (MoTold.no (S := T) (r := r) (ch := false) (L := La + Lb) (g := wvF N1 N2 g1 g2) (fP := wvF N1 N2 P1 P2) (fQ := wvF N1 N2 Q1 Q2) (E := 26) (by decide) (below_put HBW.out (show w.heap.size ≤ w.heap.size + 1 + 1 by omega) zerC))
        clear HM HI HEB HX
        go_wp2_with (refine st_arr rfl (.tmp 6) (.tmp 70) rfl (w.heap.size + 1 + 1) rfl false 0 (fun _ => 0) none 0 0 none 0 0 rfl HZ.out rfl ?_)
        exact bodyPost_ret (res_arr2 Tryz.results28 rfl rfl (HZ.out.put _) rfl) rfl HE.out
    refine Stps4.cons (o := _) ?_ ?_
    · intro f ac yw hsz hold hB hp hf K hK
      have t16 : ac.tmps[16]? = some (.slice aT r cT) := hold 16 (by kernel_rfl)
      clear hold hp hsz hf
      go_simp
      exact hK.out _ _ ⟨hB, rfl, Nat.le_refl _, .inl (Below.refl _ _), fun h => absurd h (by decide)⟩
    refine Stps4.cons (o := _) ?_ ?_
    · intro f ac yw hsz hold hB hp hf K hK
      have t3 : ac.tmps[3]? = some (.pointer (some ⟨w.heap.size, 0, none⟩)) := hold 3 (by kernel_rfl)
      clear hold hp hsz
      rw [if_pos (by rfl)]
      refine ld8 3 rfl (w.heap.size) ((arrC false ((r : Int) - 1) (dm X r) na1 nn1 nc1 ta1 tn1 tc1)) t3 (hB.now.1) (rfl) ?_
      exact hK.out _ _ ⟨hB, rfl, Nat.le_refl _, .inl (Below.refl _ _), fun h => absurd h (by decide)⟩
    refine Stps4.cons (o := _) ?_ ?_
    · intro f ac yw hsz hold hB hp hf K hK
      have e1 := hp 1 (by decide)
      have t59 : ac.tmps[59]? = some (.agg (arrC false ((r : Int) - 1) (dm X r) na1 nn1 nc1 ta1 tn1 tc1)) := (List.cons.inj e1).1
      clear hold hp hsz hf e1
      go_simp
      (go_at_call 61; (refine (EL1.out _ (H1.out.below hB.below)).mono ?_); rintro e wz ⟨a2, c2, rfl, h2_0, hbz⟩)
      exact hK.out _ _ ⟨hB.go hbz, Exists.intro a2 (Exists.intro c2 (And.intro rfl h2_0)), hbz.size, .inl hbz, fun h => absurd h (by decide)⟩
    refine Stps4.cons (o := _) ?_ ?_
    · intro f ac yw hsz hold hB hp hf K hK
      have t4 : ac.tmps[4]? = some (.pointer (some ⟨w.heap.size + 1, 0, none⟩)) := hold 4 (by kernel_rfl)
      clear hold hp hsz
      rw [if_pos (by rfl)]
      refine ld8 4 rfl (w.heap.size + 1) ((arrC false ((r : Int) - 1) (dm Y r) na2 nn2 nc2 ta2 tn2 tc2)) t4 (hB.now.2.1) (rfl) ?_
      exact hK.out _ _ ⟨hB, rfl, Nat.le_refl _, .inl (Below.refl _ _), fun h => absurd h (by decide)⟩
    refine Stps4.cons (o := _) ?_ ?_
    · intro f ac yw hsz hold hB hp hf K hK
      have e3 := hp 3 (by decide)
      have t61 : ac.tmps[61]? = some (.agg (arrC false ((r : Int) - 1) (dm Y r) na2 nn2 nc2 ta2 tn2 tc2)) := (List.cons.inj e3).1
      clear hold hp hsz hf e3
      go_simp
      (go_at_call 61; (refine (EL2.out _ (H2.out.below hB.below)).mono ?_); rintro e wz ⟨a4, c4, rfl, h4_0, hbz⟩)
      exact hK.out _ _ ⟨hB.go hbz, Exists.intro a4 (Exists.intro c4 (And.intro rfl h4_0)), hbz.size, .inl hbz, fun h => absurd h (by decide)⟩
    refine Stps4.cons (o := _) ?_ ?_
    · intro f ac yw hsz hold hB hp hf K hK
      have t8 : ac.tmps[8]? = some (.int .i64 (B0 : Nat)) := hold 8 (by kernel_rfl)
      clear hold hp hsz hf
      go_simp
      exact hK.out _ _ ⟨hB, rfl, Nat.le_refl _, .inl (Below.refl _ _), fun h => absurd h (by decide)⟩
    refine Stps4.cons (o := _) ?_ ?_
    · intro f ac yw hsz hold hB hp hf K hK
      obtain ⟨a2_2, c2_2, e2, g2_0⟩ := hp 2 (by decide)
      have t60 : ac.tmps[60]? = some (.slice a2_2 La c2_2) := (List.cons.inj e2).1
      obtain ⟨a4_4, c4_4, e4, g4_0⟩ := hp 4 (by decide)
      have t62 : ac.tmps[62]? = some (.slice a4_4 Lb c4_4) := (List.cons.inj e4).1
      have e5 := hp 5 (by decide)
      have t63 : ac.tmps[63]? = some (.int .i64 (B0 : Nat)) := (List.cons.inj e5).1
      clear hold hp hsz hf e2 e4 e5
      go_simp
      (go_at_call 60; (refine (WV.out _ _ _ _ _ g2_0 g4_0).mono ?_); rintro e wz ⟨a6, c6, rfl, h6_0, hbz⟩)
      exact hK.out _ _ ⟨hB.go hbz, Exists.intro a6 (Exists.intro c6 (And.intro rfl h6_0)), hbz.size, .inl hbz, fun h => absurd h (by decide)⟩
    refine Stps4.cons (o := _) ?_ ?_
    · intro f ac yw hsz hold hB hp hf K hK
      have e0 := hp 0 (by decide)
      have t58 : ac.tmps[58]? = some (.slice aT r cT) := (List.cons.inj e0).1
      obtain ⟨a6_6, c6_6, e6, g6_0⟩ := hp 6 (by decide)
      have t64 : ac.tmps[64]? = some (.slice a6_6 (La + Lb) c6_6) := (List.cons.inj e6).1
      clear hold hp hsz e0 e6
      go_simp
      (go_at_call 40; (refine (MK.out _ _ _ _ _ (hB.now.2.2.2.2 (hf 11 (by decide))) g6_0).mono ?_); rintro e wz ⟨x7, rfl, h7_0, hbz⟩)
      exact hK.out _ _ ⟨hB.go hbz, Exists.intro x7 (And.intro rfl (And.intro h7_0 h7_0.1)), hbz.size, .inl hbz, fun h => absurd h (by decide)⟩
    refine Stps4.cons (o := _) ?_ ?_
    · intro f ac yw hsz hold hB hp hf K hK
      obtain ⟨x7_7, e7, g7_0, g7_1⟩ := hp 7 (by decide)
      have t65 : ac.tmps[65]? = some (.tuple #[.agg x7_7, .bool bE]) := (List.cons.inj e7).1
      clear hold hp hsz hf e7
      go_simp
      exact hK.out _ _ ⟨hB, Exists.intro x7_7 (And.intro rfl (And.intro g7_0 g7_1)), Nat.le_refl _, .inl (Below.refl _ _), fun h => absurd h (by decide)⟩
    refine Stps4.cons (o := _) ?_ ?_
    · intro f ac yw hsz hold hB hp hf K hK
      obtain ⟨x7_8, e8, g8_0, g8_1⟩ := hp 8 (by decide)
      have t57 : ac.tmps[57]? = some (.tuple #[.agg x7_8, .bool bE]) := (List.cons.inj e8).1
      clear hold hp hsz hf e8
      go_simp
      exact hK.out _ _ ⟨hB, Exists.intro x7_8 (And.intro rfl (And.intro g8_0 g8_1)), Nat.le_refl _, .inl (Below.refl _ _), fun h => absurd h (by decide)⟩
    refine Stps4.cons (o := _) ?_ ?_
    · intro f ac yw hsz hold hB hp hf K hK
      obtain ⟨x7_8, e8, g8_0, g8_1⟩ := hp 8 (by decide)
      have t57 : ac.tmps[57]? = some (.tuple #[.agg x7_8, .bool bE]) := (List.cons.inj e8).1
      clear hold hp hsz hf e8
      go_simp
      exact hK.out _ _ ⟨hB, rfl, Nat.le_refl _, .inl (Below.refl _ _), fun h => absurd h (by decide)⟩
    refine Stps4.cons (o := _) ?_ ?_
    · intro f ac yw hsz hold hB hp hf K hK
      obtain ⟨x7_9, e9, g9_0, g9_1⟩ := hp 9 (by decide)
      have t66 : ac.tmps[66]? = some (.agg x7_9) := (List.cons.inj e9).1
      have t17 : ac.tmps[17]? = some (.pointer (some ⟨g17, 0, none⟩)) := hold 17 (by kernel_rfl)
      clear hold hp hsz hf e9
      rw [if_pos (by rfl)]
      obtain ⟨zz, hz, iz⟩ := hB.now.2.2.2.1
      have HB := BhP.put hB (by omega) (by omega) (by omega) (by omega) (x7_9) g9_1
      refine st8 17 66 rfl (g17) x7_9 t17 t66 _ zz hz iz g9_1 ?_
      refine hK.out undef _ ⟨HB, Exists.intro x7_9 (And.intro (hz.put _) (And.intro (g9_0.store hz iz _) g9_1)), by simp [World.setRow], .inr ?_, fun h => absurd h (by decide)⟩
      intro jj hj hap h
      match jj, h with
      | 0, h => exact h
      | 1, h => exact h
      | 2, ⟨a2, c2, e2, g2_0⟩ => exact Exists.intro a2 (Exists.intro c2 (And.intro e2 (RRow.storeA g2_0 hz iz _)))
      | 3, h => exact h
      | 4, ⟨a4, c4, e4, g4_0⟩ => exact Exists.intro a4 (Exists.intro c4 (And.intro e4 (RRow.storeA g4_0 hz iz _)))
      | 5, h => exact h
      | 6, ⟨a6, c6, e6, g6_0⟩ => exact Exists.intro a6 (Exists.intro c6 (And.intro e6 (RRow.storeA g6_0 hz iz _)))
      | 7, ⟨x7, e7, g7_0, g7_1⟩ => exact Exists.intro x7 (And.intro e7 (And.intro (g7_0.store hz iz _) g7_1))
      | 8, ⟨x7, e8, g8_0, g8_1⟩ => exact Exists.intro x7 (And.intro e8 (And.intro (g8_0.store hz iz _) g8_1))
      | 9, ⟨x7, e9, g9_0, g9_1⟩ => exact Exists.intro x7 (And.intro e9 (And.intro (g9_0.store hz iz _) g9_1))
      | 10, h => exact h
      | 11, _ => exact absurd rfl hj
      | 12, h => exact h
      | _ + 13, h => exact h
    refine Stps4.cons (o := _) ?_ ?_
    · intro f ac yw hsz hold hB hp hf K hK
      have e10 := hp 10 (by decide)
      have t67 : ac.tmps[67]? = some (.bool bE) := (List.cons.inj e10).1
      clear hold hp hsz hf e10
      go_simp
      exact hK.out _ _ ⟨hB, rfl, Nat.le_refl _, .inl (Below.refl _ _), fun h => absurd h (by decide)⟩
    exact Stps4.nil _
end Go.Proofs.YtifnamlgkooacaaGreatDoor
