/-
  Texts of this seat, laid together.
-/
import Derived.Laws.EntriesVeiled
import Derived.Shelf.Abstract
import Derived.Test.YtdlccnmhcggjiaaGreatDoorQ1
import Derived.Test.YtdlccnmhcggjiaaGreatDoorQ2
import Derived.Test.YtdlccnmhcggjiaaGreatDoorQ3
import Derived.Test.YtdlccnmhcggjiaaGreatDoorQ4
import Derived.Test.YtdlccnmhcggjiaaGreatDoorQ5
import Derived.Test.YtdlccnmhcggjiaaGreatDoorQ6
import Derived.Test.YtdlccnmhcggjiaaGreatDoorQ7
import Derived.Test.YtdlccnmhcggjiaaGreatDoorQ8
set_option maxHeartbeats 12800000
set_option maxRecDepth 100000
set_option linter.unusedSimpArgs false
set_option linter.unusedVariables false
namespace Go.Proofs.YtdlccnmhcggjiaaGreatDoor
open Go.RowKit
attribute [local go_sem ↓] Go.wp_at_zero Go.wp_at_succ
def grR (r1 r2 : Nat) : Nat := if r1 < r2 then r2 else if 0 < r1 then r1 else 1
def grS (r1 : Nat) (S1 : Nat -> Int) (r2 : Nat) (S2 : Nat -> Int) : Nat -> Int := if r1 < r2 then S2 else if 0 < r1 then S1 else fun _ => 1
theorem greater_any (x1 : Array Value) (S1 : Nat -> Int) (r1 : Nat) (ch1 : Bool) (L1 : Nat) (g1 P1 : Nat -> Int) (Q1 : Nat -> Nat) (x2 : Array Value) (S2 : Nat -> Int) (r2 : Nat) (ch2 : Bool) (L2 : Nat) (g2 P2 : Nat -> Int) (Q2 : Nat -> Nat) (w : World) (h1 : Arr w x1 S1 r1 ch1 L1 g1 P1 Q1) (h2 : Arr w x2 S2 r2 ch2 L2 g2 P2 Q2) (hr1 : r1 <= 8) (hr2 : r2 <= 8) :
    Calls Tryz.prog 37 #[.agg x1, .agg x2] w fun e w' => ∃ a c, e = .returned (.slice a (grR r1 r2) c) /\ KRow w' .i64 a (grR r1 r2) c (grS r1 S1 r2 S2) /\ (∀ x, a = some x -> w.heap.size <= x.block) /\ Below w.heap.size w w' := by
 obtain ⟨na1, nn1, nc1, ta1, tn1, tc1, hx1, _⟩ := h1.form
 subst hx1
 obtain ⟨na2, nn2, nc2, ta2, tn2, tc2, hx2, _⟩ := h2.form
 subst hx2
 have H1 := Lib.hid h1
 have H2 := Lib.hid h2
 have RK1 := Lib.hid (fun wz h => rank8_any (arrC ch1 ((r1 : Int) - 1) (dm S1 r1) na1 nn1 nc1 ta1 tn1 tc1) S1 r1 ch1 L1 g1 P1 Q1 wz h (by omega))
 have RK2 := Lib.hid (fun wz h => rank8_any (arrC ch2 ((r2 : Int) - 1) (dm S2 r2) na2 nn2 nc2 ta2 tn2 tc2) S2 r2 ch2 L2 g2 P2 Q2 wz h (by omega))
 have SH1 := Lib.hid (fun wz h => shape_new (arrC ch1 ((r1 : Int) - 1) (dm S1 r1) na1 nn1 nc1 ta1 tn1 tc1) S1 r1 ch1 L1 g1 P1 Q1 wz h hr1)
 have SH2 := Lib.hid (fun wz h => shape_new (arrC ch2 ((r2 : Int) - 1) (dm S2 r2) na2 nn2 nc2 ta2 tn2 tc2) S2 r2 ch2 L2 g2 P2 Q2 wz h hr2)
 have BB := Lib.hid (((Bag.start w).newRow (arrC ch1 ((r1 : Int) - 1) (dm S1 r1) na1 nn1 nc1 ta1 tn1 tc1) 32).newRow (arrC ch2 ((r2 : Int) - 1) (dm S2 r2) na2 nn2 nc2 ta2 tn2 tc2) 32)
 simp only [World.size_alloc] at BB
 unfold arrC at BB
 clear h1 h2 hr1 hr2
 unfold grR grS
 by_cases hlt : r1 < r2
 · rw [if_pos hlt, if_pos hlt]
   have dl : (r1 : Int) < (r2 : Int) := by omega
   clear hlt
   unfold arrC
   go_enter Tryz.func37, Tryz.ntmps37
   go_wp2_with fail
   have hWW := BB.out.below
   generalize hW : ((w.alloc (.cells _ 32)).alloc (.cells _ 32)) = YY at *
   clear hW hWW
   refine wp_region_inv2 ⟨(fun j => ([[6], [7], [8], [9], [10], [5]] : List (List Nat)).getD j []), (fun j => ([[], [0], [], [0, 1, 2], [0, 1, 2, 3], [0, 1, 2, 3, 4]] : List (List Nat)).getD j []), []⟩ (fun jj vv yy => match jj with | 0 => vv = [some (.agg (arrC ch2 ((r2 : Int) - 1) (dm S2 r2) na2 nn2 nc2 ta2 tn2 tc2))] | 1 => vv = [some (.int .i64 (r2 : Nat))] | 2 => vv = [some (.agg (arrC ch1 ((r1 : Int) - 1) (dm S1 r1) na1 nn1 nc1 ta1 tn1 tc1))] | 3 => vv = [some (.int .i64 (r1 : Nat))] | 4 => vv = [some (.bool true)] | 5 => vv = [some (.bool true)] | _ => True) (Bag YY (fun _ => True)) (by kernel_rfl) (by kernel_rfl) (by kernel_rfl) (Bag.start YY).drew ?_ ?_ ?_
   · intro jj vv yw yw2 hb h
     match jj, h with
     | 0, h => exact h
     | 1, h => exact h
     | 2, h => exact h
     | 3, h => exact h
     | 4, h => exact h
     | 5, h => exact h
     | _ + 6, h => exact h
   · intro ac yw hsz hdf hold hB hp
     have t5 : ac.tmps[5]? = some (.bool true) := (List.cons.inj (hp 5 (by decide))).1
     have t2 : ac.tmps[2]? = some (.pointer (some ⟨w.heap.size, 0, none⟩)) := hold 2 (by kernel_rfl)
     have t3 : ac.tmps[3]? = some (.pointer (some ⟨w.heap.size + 1, 0, none⟩)) := hold 3 (by kernel_rfl)
     have t4 : ac.tmps[4]? = some (.slice none 0 0) := hold 4 (by kernel_rfl)
     have BB := Lib.hid (BB.out.go hB.below)
     have HR1 := Lib.hid BB.out.now.2.1
     have HR2 := Lib.hid BB.out.now.1
     clear hold hp hB
     obtain ⟨TV, hTV⟩ : ∃ TV : Nat -> Value, ∀ i, (ac.tmps[i]?).getD undef = TV i := ⟨_, fun _ => rfl⟩
     have f2 := (hTV 2).symm.trans (congrArg (fun x => Option.getD x undef) t2)
     have f3 := (hTV 3).symm.trans (congrArg (fun x => Option.getD x undef) t3)
     have f4 := (hTV 4).symm.trans (congrArg (fun x => Option.getD x undef) t4)
     have f5 := (hTV 5).symm.trans (congrArg (fun x => Option.getD x undef) t5)
     have hac := act_eq (n := 20) hsz TV hTV
     rw [show ((List.range 20).map TV).toArray = #[TV 0, TV 1, TV 2, TV 3, TV 4, TV 5, TV 6, TV 7, TV 8, TV 9, TV 10, TV 11, TV 12, TV 13, TV 14, TV 15, TV 16, TV 17, TV 18, TV 19] from rfl, f2, f3, f4, f5, hdf] at hac
     simp only [Option.getD_some] at hac
     subst hac
     clear hTV f2 f3 f4 f5
     generalize yw = Y2 at *
     go_wp2_with (refine ld_arr rfl (.tmp 3) rfl (w.heap.size + 1) rfl HR2.out ?_)
     go_at_call 46
     (with_reducible refine (SH2.out _ ?_).mono ?_)
     · exact H2.out.below BB.out.below
     rintro e w3 ⟨k3, c3, rfl, hge3, _, hk3, hb3⟩
     have hnb : ∀ x, some (⟨k3, 0, none⟩ : Addr) = some x -> w.heap.size <= x.block := fun x hx => by cases hx; exact Nat.le_trans BB.out.below.size hge3
     have HE := Lib.hid (And.intro hk3 (And.intro hnb (BB.out.go hb3).below))
     clear hk3 hb3 hnb hge3
     go_wp2_with fail
     go_ret
     exact ⟨_, _, rfl, HE.out⟩
   refine Stps2.cons (o := _) ?_ ?_
   · intro ac yw hsz hold hB hp K hK
     have t3 : ac.tmps[3]? = some (.pointer (some ⟨w.heap.size + 1, 0, none⟩)) := hold 3 (by kernel_rfl)
     clear hold hp hsz
     rw [if_pos (by rfl)]
     refine ld8 3 rfl (w.heap.size + 1) ((arrC ch2 ((r2 : Int) - 1) (dm S2 r2) na2 nn2 nc2 ta2 tn2 tc2)) t3 ((BB.out.go hB.below).now.1) (rfl) ?_
     exact hK.out _ _ ⟨hB, rfl, Nat.le_refl _, .inl (Below.refl _ _), fun h => absurd h (by decide)⟩
   refine Stps2.cons (o := _) ?_ ?_
   · intro ac yw hsz hold hB hp K hK
     have e0 := hp 0 (by decide)
     have t6 : ac.tmps[6]? = some (.agg (arrC ch2 ((r2 : Int) - 1) (dm S2 r2) na2 nn2 nc2 ta2 tn2 tc2)) := (List.cons.inj e0).1
     clear hold hp hsz e0
     go_simp
     (go_at_call 34; (with_reducible refine (RK2.out _ (H2.out.below (BB.out.go hB.below).below)).mono ?_); rintro e wz ⟨rfl, hbz⟩)
     exact hK.out _ _ ⟨hB.go hbz, rfl, hbz.size, .inl hbz, fun h => absurd h (by decide)⟩
   refine Stps2.cons (o := _) ?_ ?_
   · intro ac yw hsz hold hB hp K hK
     have t2 : ac.tmps[2]? = some (.pointer (some ⟨w.heap.size, 0, none⟩)) := hold 2 (by kernel_rfl)
     clear hold hp hsz
     rw [if_pos (by rfl)]
     refine ld8 2 rfl (w.heap.size) ((arrC ch1 ((r1 : Int) - 1) (dm S1 r1) na1 nn1 nc1 ta1 tn1 tc1)) t2 ((BB.out.go hB.below).now.2.1) (rfl) ?_
     exact hK.out _ _ ⟨hB, rfl, Nat.le_refl _, .inl (Below.refl _ _), fun h => absurd h (by decide)⟩
   refine Stps2.cons (o := _) ?_ ?_
   · intro ac yw hsz hold hB hp K hK
     have e2 := hp 2 (by decide)
     have t8 : ac.tmps[8]? = some (.agg (arrC ch1 ((r1 : Int) - 1) (dm S1 r1) na1 nn1 nc1 ta1 tn1 tc1)) := (List.cons.inj e2).1
     clear hold hp hsz e2
     go_simp
     (go_at_call 34; (with_reducible refine (RK1.out _ (H1.out.below (BB.out.go hB.below).below)).mono ?_); rintro e wz ⟨rfl, hbz⟩)
     exact hK.out _ _ ⟨hB.go hbz, rfl, hbz.size, .inl hbz, fun h => absurd h (by decide)⟩
   refine Stps2.cons (o := _) ?_ ?_
   · intro ac yw hsz hold hB hp K hK
     have e1 := hp 1 (by decide)
     have t7 : ac.tmps[7]? = some (.int .i64 (r2 : Nat)) := (List.cons.inj e1).1
     have e3 := hp 3 (by decide)
     have t9 : ac.tmps[9]? = some (.int .i64 (r1 : Nat)) := (List.cons.inj e3).1
     clear hold hp hsz e1 e3
     go_simp
     exact hK.out _ _ ⟨hB, rfl, Nat.le_refl _, .inl (Below.refl _ _), fun h => absurd h (by decide)⟩
   refine Stps2.cons (o := _) ?_ ?_
   · intro ac yw hsz hold hB hp K hK
     have e4 := hp 4 (by decide)
     have t10 : ac.tmps[10]? = some (.bool true) := (List.cons.inj e4).1
     clear hold hp hsz e4
     go_simp
     exact hK.out _ _ ⟨hB, rfl, Nat.le_refl _, .inl (Below.refl _ _), fun h => absurd h (by decide)⟩
   exact Stps2.nil _
 · rw [if_neg hlt, if_neg hlt]
   have dl : (r2 : Int) <= (r1 : Int) := by omega
   have dd : decide (r1 < r2) = false := decide_eq_false hlt
   by_cases h0 : 0 < r1
   · rw [if_pos h0, if_pos h0]
     have d0 : (0 : Int) < (r1 : Int) := by omega
     clear hlt h0
     unfold arrC
     go_enter Tryz.func37, Tryz.ntmps37
     go_wp2_with fail
     have hWW := BB.out.below
     generalize hW : ((w.alloc (.cells _ 32)).alloc (.cells _ 32)) = YY at *
     clear hW hWW
     refine wp_region_inv2 ⟨(fun j => ([[6], [7], [8], [9], [10], [5]] : List (List Nat)).getD j []), (fun j => ([[], [0], [], [0, 1, 2], [0, 1, 2, 3], [0, 1, 2, 3, 4]] : List (List Nat)).getD j []), []⟩ (fun jj vv yy => match jj with | 0 => vv = [some (.agg (arrC ch2 ((r2 : Int) - 1) (dm S2 r2) na2 nn2 nc2 ta2 tn2 tc2))] | 1 => vv = [some (.int .i64 (r2 : Nat))] | 2 => vv = [some (.agg (arrC ch1 ((r1 : Int) - 1) (dm S1 r1) na1 nn1 nc1 ta1 tn1 tc1))] | 3 => vv = [some (.int .i64 (r1 : Nat))] | 4 => vv = [some (.bool false)] | 5 => vv = [some (.bool false)] | _ => True) (Bag YY (fun _ => True)) (by kernel_rfl) (by kernel_rfl) (by kernel_rfl) (Bag.start YY).drew ?_ ?_ ?_
     · intro jj vv yw yw2 hb h
       match jj, h with
       | 0, h => exact h
       | 1, h => exact h
       | 2, h => exact h
       | 3, h => exact h
       | 4, h => exact h
       | 5, h => exact h
       | _ + 6, h => exact h
     · intro ac yw hsz hdf hold hB hp
       have t5 : ac.tmps[5]? = some (.bool false) := (List.cons.inj (hp 5 (by decide))).1
       have t2 : ac.tmps[2]? = some (.pointer (some ⟨w.heap.size, 0, none⟩)) := hold 2 (by kernel_rfl)
       have t3 : ac.tmps[3]? = some (.pointer (some ⟨w.heap.size + 1, 0, none⟩)) := hold 3 (by kernel_rfl)
       have t4 : ac.tmps[4]? = some (.slice none 0 0) := hold 4 (by kernel_rfl)
       have BB := Lib.hid (BB.out.go hB.below)
       have HR1 := Lib.hid BB.out.now.2.1
       have HR2 := Lib.hid BB.out.now.1
       clear hold hp hB
       obtain ⟨TV, hTV⟩ : ∃ TV : Nat -> Value, ∀ i, (ac.tmps[i]?).getD undef = TV i := ⟨_, fun _ => rfl⟩
       have f2 := (hTV 2).symm.trans (congrArg (fun x => Option.getD x undef) t2)
       have f3 := (hTV 3).symm.trans (congrArg (fun x => Option.getD x undef) t3)
       have f4 := (hTV 4).symm.trans (congrArg (fun x => Option.getD x undef) t4)
       have f5 := (hTV 5).symm.trans (congrArg (fun x => Option.getD x undef) t5)
       have hac := act_eq (n := 20) hsz TV hTV
       rw [show ((List.range 20).map TV).toArray = #[TV 0, TV 1, TV 2, TV 3, TV 4, TV 5, TV 6, TV 7, TV 8, TV 9, TV 10, TV 11, TV 12, TV 13, TV 14, TV 15, TV 16, TV 17, TV 18, TV 19] from rfl, f2, f3, f4, f5, hdf] at hac
       simp only [Option.getD_some] at hac
       subst hac
       clear hTV f2 f3 f4 f5
       generalize yw = Y2 at *
       go_wp2_with (refine ld_arr rfl (.tmp 2) rfl (w.heap.size) rfl HR1.out ?_)
       go_at_call 34
       (with_reducible refine (RK1.out _ ?_).mono ?_)
       · exact H1.out.below BB.out.below
       rintro e w4 ⟨rfl, hb4⟩
       have BB := Lib.hid (BB.out.go hb4)
       have HR1 := Lib.hid BB.out.now.2.1
       clear hb4
       go_wp2_with (refine ld_arr rfl (.tmp 2) rfl (w.heap.size) rfl HR1.out ?_)
       go_at_call 46
       (with_reducible refine (SH1.out _ ?_).mono ?_)
       · exact H1.out.below BB.out.below
       rintro e w3 ⟨k3, c3, rfl, hge3, _, hk3, hb3⟩
       have hnb : ∀ x, some (⟨k3, 0, none⟩ : Addr) = some x -> w.heap.size <= x.block := fun x hx => by cases hx; exact Nat.le_trans BB.out.below.size hge3
       have HE := Lib.hid (And.intro hk3 (And.intro hnb (BB.out.go hb3).below))
       clear hk3 hb3 hnb hge3
       go_wp2_with fail
       go_ret
       exact ⟨_, _, rfl, HE.out⟩
     refine Stps2.cons (o := _) ?_ ?_
     · intro ac yw hsz hold hB hp K hK
       have t3 : ac.tmps[3]? = some (.pointer (some ⟨w.heap.size + 1, 0, none⟩)) := hold 3 (by kernel_rfl)
       clear hold hp hsz
       rw [if_pos (by rfl)]
       refine ld8 3 rfl (w.heap.size + 1) ((arrC ch2 ((r2 : Int) - 1) (dm S2 r2) na2 nn2 nc2 ta2 tn2 tc2)) t3 ((BB.out.go hB.below).now.1) (rfl) ?_
       exact hK.out _ _ ⟨hB, rfl, Nat.le_refl _, .inl (Below.refl _ _), fun h => absurd h (by decide)⟩
     refine Stps2.cons (o := _) ?_ ?_
     · intro ac yw hsz hold hB hp K hK
       have e0 := hp 0 (by decide)
       have t6 : ac.tmps[6]? = some (.agg (arrC ch2 ((r2 : Int) - 1) (dm S2 r2) na2 nn2 nc2 ta2 tn2 tc2)) := (List.cons.inj e0).1
       clear hold hp hsz e0
       go_simp
       (go_at_call 34; (with_reducible refine (RK2.out _ (H2.out.below (BB.out.go hB.below).below)).mono ?_); rintro e wz ⟨rfl, hbz⟩)
       exact hK.out _ _ ⟨hB.go hbz, rfl, hbz.size, .inl hbz, fun h => absurd h (by decide)⟩
     refine Stps2.cons (o := _) ?_ ?_
     · intro ac yw hsz hold hB hp K hK
       have t2 : ac.tmps[2]? = some (.pointer (some ⟨w.heap.size, 0, none⟩)) := hold 2 (by kernel_rfl)
       clear hold hp hsz
       rw [if_pos (by rfl)]
       refine ld8 2 rfl (w.heap.size) ((arrC ch1 ((r1 : Int) - 1) (dm S1 r1) na1 nn1 nc1 ta1 tn1 tc1)) t2 ((BB.out.go hB.below).now.2.1) (rfl) ?_
       exact hK.out _ _ ⟨hB, rfl, Nat.le_refl _, .inl (Below.refl _ _), fun h => absurd h (by decide)⟩
     refine Stps2.cons (o := _) ?_ ?_
     · intro ac yw hsz hold hB hp K hK
       have e2 := hp 2 (by decide)
       have t8 : ac.tmps[8]? = some (.agg (arrC ch1 ((r1 : Int) - 1) (dm S1 r1) na1 nn1 nc1 ta1 tn1 tc1)) := (List.cons.inj e2).1
       clear hold hp hsz e2
       go_simp
       (go_at_call 34; (with_reducible refine (RK1.out _ (H1.out.below (BB.out.go hB.below).below)).mono ?_); rintro e wz ⟨rfl, hbz⟩)
       exact hK.out _ _ ⟨hB.go hbz, rfl, hbz.size, .inl hbz, fun h => absurd h (by decide)⟩
     refine Stps2.cons (o := _) ?_ ?_
     · intro ac yw hsz hold hB hp K hK
       have e1 := hp 1 (by decide)
       have t7 : ac.tmps[7]? = some (.int .i64 (r2 : Nat)) := (List.cons.inj e1).1
       have e3 := hp 3 (by decide)
       have t9 : ac.tmps[9]? = some (.int .i64 (r1 : Nat)) := (List.cons.inj e3).1
       clear hold hp hsz e1 e3
       go_simp
       exact hK.out _ _ ⟨hB, rfl, Nat.le_refl _, .inl (Below.refl _ _), fun h => absurd h (by decide)⟩
     refine Stps2.cons (o := _) ?_ ?_
     · intro ac yw hsz hold hB hp K hK
       have e4 := hp 4 (by decide)
       have t10 : ac.tmps[10]? = some (.bool false) := (List.cons.inj e4).1
       clear hold hp hsz e4
       go_simp
       exact hK.out _ _ ⟨hB, rfl, Nat.le_refl _, .inl (Below.refl _ _), fun h => absurd h (by decide)⟩
     exact Stps2.nil _
   · rw [if_neg h0, if_neg h0]
     have d0 : ¬ (0 : Int) < (r1 : Int) := by omega
     have d1 : (r1 : Int) <= 0 := by omega
     clear hlt h0
     unfold arrC
     go_enter Tryz.func37, Tryz.ntmps37
     go_wp2_with fail
     have hWW := BB.out.below
     generalize hW : ((w.alloc (.cells _ 32)).alloc (.cells _ 32)) = YY at *
     clear hW hWW
     refine wp_region_inv2 ⟨(fun j => ([[6], [7], [8], [9], [10], [5]] : List (List Nat)).getD j []), (fun j => ([[], [0], [], [0, 1, 2], [0, 1, 2, 3], [0, 1, 2, 3, 4]] : List (List Nat)).getD j []), []⟩ (fun jj vv yy => match jj with | 0 => vv = [some (.agg (arrC ch2 ((r2 : Int) - 1) (dm S2 r2) na2 nn2 nc2 ta2 tn2 tc2))] | 1 => vv = [some (.int .i64 (r2 : Nat))] | 2 => vv = [some (.agg (arrC ch1 ((r1 : Int) - 1) (dm S1 r1) na1 nn1 nc1 ta1 tn1 tc1))] | 3 => vv = [some (.int .i64 (r1 : Nat))] | 4 => vv = [some (.bool false)] | 5 => vv = [some (.bool false)] | _ => True) (Bag YY (fun _ => True)) (by kernel_rfl) (by kernel_rfl) (by kernel_rfl) (Bag.start YY).drew ?_ ?_ ?_
     · intro jj vv yw yw2 hb h
       match jj, h with
       | 0, h => exact h
       | 1, h => exact h
       | 2, h => exact h
       | 3, h => exact h
       | 4, h => exact h
       | 5, h => exact h
       | _ + 6, h => exact h
     · intro ac yw hsz hdf hold hB hp
       have t5 : ac.tmps[5]? = some (.bool false) := (List.cons.inj (hp 5 (by decide))).1
       have t2 : ac.tmps[2]? = some (.pointer (some ⟨w.heap.size, 0, none⟩)) := hold 2 (by kernel_rfl)
       have t3 : ac.tmps[3]? = some (.pointer (some ⟨w.heap.size + 1, 0, none⟩)) := hold 3 (by kernel_rfl)
       have t4 : ac.tmps[4]? = some (.slice none 0 0) := hold 4 (by kernel_rfl)
       have BB := Lib.hid (BB.out.go hB.below)
       have HR1 := Lib.hid BB.out.now.2.1
       have HR2 := Lib.hid BB.out.now.1
       clear hold hp hB
       obtain ⟨TV, hTV⟩ : ∃ TV : Nat -> Value, ∀ i, (ac.tmps[i]?).getD undef = TV i := ⟨_, fun _ => rfl⟩
       have f2 := (hTV 2).symm.trans (congrArg (fun x => Option.getD x undef) t2)
       have f3 := (hTV 3).symm.trans (congrArg (fun x => Option.getD x undef) t3)
       have f4 := (hTV 4).symm.trans (congrArg (fun x => Option.getD x undef) t4)
       have f5 := (hTV 5).symm.trans (congrArg (fun x => Option.getD x undef) t5)
       have hac := act_eq (n := 20) hsz TV hTV
       rw [show ((List.range 20).map TV).toArray = #[TV 0, TV 1, TV 2, TV 3, TV 4, TV 5, TV 6, TV 7, TV 8, TV 9, TV 10, TV 11, TV 12, TV 13, TV 14, TV 15, TV 16, TV 17, TV 18, TV 19] from rfl, f2, f3, f4, f5, hdf] at hac
       simp only [Option.getD_some] at hac
       subst hac
       clear hTV f2 f3 f4 f5
       generalize yw = Y2 at *
       go_wp2_with (refine ld_arr rfl (.tmp 2) rfl (w.heap.size) rfl HR1.out ?_)
       go_at_call 34
       (with_reducible refine (RK1.out _ ?_).mono ?_)
       · exact H1.out.below BB.out.below
       rintro e w4 ⟨rfl, hb4⟩
       have BB := Lib.hid (BB.out.go hb4)
       have HR1 := Lib.hid BB.out.now.2.1
       clear hb4
       have HE : Hid (KRow (w4.alloc (.cells #[.int .i64 1] 3)) .i64 (some ⟨w4.heap.size, 0, none⟩) 1 1 (fun _ => 1) /\ (∀ x, some (⟨w4.heap.size, 0, none⟩ : Addr) = some x -> w.heap.size <= x.block) /\ Below w.heap.size w (w4.alloc (.cells #[.int .i64 1] 3))) := Lib.hid ⟨KRow.one' w4 .i64 1 3, (fun x hx => by cases hx; exact BB.out.below.size), BB.out.below.trans (((Below.refl _ _).alloc (Nat.le_refl _) _).mono BB.out.below.size)⟩
       go_wp2_with fail
       go_ret
       exact ⟨_, _, rfl, HE.out⟩
     refine Stps2.cons (o := _) ?_ ?_
     · intro ac yw hsz hold hB hp K hK
       have t3 : ac.tmps[3]? = some (.pointer (some ⟨w.heap.size + 1, 0, none⟩)) := hold 3 (by kernel_rfl)
       clear hold hp hsz
       rw [if_pos (by rfl)]
       refine ld8 3 rfl (w.heap.size + 1) ((arrC ch2 ((r2 : Int) - 1) (dm S2 r2) na2 nn2 nc2 ta2 tn2 tc2)) t3 ((BB.out.go hB.below).now.1) (rfl) ?_
       exact hK.out _ _ ⟨hB, rfl, Nat.le_refl _, .inl (Below.refl _ _), fun h => absurd h (by decide)⟩
     refine Stps2.cons (o := _) ?_ ?_
     · intro ac yw hsz hold hB hp K hK
       have e0 := hp 0 (by decide)
       have t6 : ac.tmps[6]? = some (.agg (arrC ch2 ((r2 : Int) - 1) (dm S2 r2) na2 nn2 nc2 ta2 tn2 tc2)) := (List.cons.inj e0).1
       clear hold hp hsz e0
       go_simp
       (go_at_call 34; (with_reducible refine (RK2.out _ (H2.out.below (BB.out.go hB.below).below)).mono ?_); rintro e wz ⟨rfl, hbz⟩)
       exact hK.out _ _ ⟨hB.go hbz, rfl, hbz.size, .inl hbz, fun h => absurd h (by decide)⟩
     refine Stps2.cons (o := _) ?_ ?_
     · intro ac yw hsz hold hB hp K hK
       have t2 : ac.tmps[2]? = some (.pointer (some ⟨w.heap.size, 0, none⟩)) := hold 2 (by kernel_rfl)
       clear hold hp hsz
       rw [if_pos (by rfl)]
       refine ld8 2 rfl (w.heap.size) ((arrC ch1 ((r1 : Int) - 1) (dm S1 r1) na1 nn1 nc1 ta1 tn1 tc1)) t2 ((BB.out.go hB.below).now.2.1) (rfl) ?_
       exact hK.out _ _ ⟨hB, rfl, Nat.le_refl _, .inl (Below.refl _ _), fun h => absurd h (by decide)⟩
     refine Stps2.cons (o := _) ?_ ?_
     · intro ac yw hsz hold hB hp K hK
       have e2 := hp 2 (by decide)
       have t8 : ac.tmps[8]? = some (.agg (arrC ch1 ((r1 : Int) - 1) (dm S1 r1) na1 nn1 nc1 ta1 tn1 tc1)) := (List.cons.inj e2).1
       clear hold hp hsz e2
       go_simp
       (go_at_call 34; (with_reducible refine (RK1.out _ (H1.out.below (BB.out.go hB.below).below)).mono ?_); rintro e wz ⟨rfl, hbz⟩)
       exact hK.out _ _ ⟨hB.go hbz, rfl, hbz.size, .inl hbz, fun h => absurd h (by decide)⟩
     refine Stps2.cons (o := _) ?_ ?_
     · intro ac yw hsz hold hB hp K hK
       have e1 := hp 1 (by decide)
       have t7 : ac.tmps[7]? = some (.int .i64 (r2 : Nat)) := (List.cons.inj e1).1
       have e3 := hp 3 (by decide)
       have t9 : ac.tmps[9]? = some (.int .i64 (r1 : Nat)) := (List.cons.inj e3).1
       clear hold hp hsz e1 e3
       go_simp
       exact hK.out _ _ ⟨hB, rfl, Nat.le_refl _, .inl (Below.refl _ _), fun h => absurd h (by decide)⟩
     refine Stps2.cons (o := _) ?_ ?_
     · intro ac yw hsz hold hB hp K hK
       have e4 := hp 4 (by decide)
       have t10 : ac.tmps[10]? = some (.bool false) := (List.cons.inj e4).1
       clear hold hp hsz e4
       go_simp
       exact hK.out _ _ ⟨hB, rfl, Nat.le_refl _, .inl (Below.refl _ _), fun h => absurd h (by decide)⟩
     exact Stps2.nil _
def cvE (r : Nat) (S : Nat -> Int) (q : Nat) (s : Nat -> Int) : Int := if r = 0 then 0 else if (decide (r = q) && sameB S s r) = true then 0 else if r = q then 24 else 23
theorem covers_any (x : Array Value) (S : Nat -> Int) (r : Nat) (ch : Bool) (L : Nat) (g P : Nat -> Int) (Q : Nat -> Nat) (sa : Option Addr) (q sc : Nat) (s : Nat -> Int) (w : World) (h : Arr w x S r ch L g P Q) (hr : r <= 8) (hs : KRow w .i64 sa q sc s) :
    Calls Tryz.prog 47 #[.agg x, .slice sa q sc] w fun e w' => e = .returned (.int .i64 (cvE r S q s)) /\ Below w.heap.size w w' := by
 obtain ⟨na, nn, nc, ta, tn, tc, hx, _⟩ := h.form
 subst hx
 have H := Lib.hid h
 have hl := hs.len
 have RK := Lib.hid (fun wz h => rank8_any (arrC ch ((r : Int) - 1) (dm S r) na nn nc ta tn tc) S r ch L g P Q wz h (by omega))
 have SH := Lib.hid (fun wz h => shape8_any (arrC ch ((r : Int) - 1) (dm S r) na nn nc ta tn tc) S r ch L g P Q wz h hr)
 have SM := Lib.hid (fun a c wz (k1 : KRow wz .i64 a r c S) (k2 : KRow wz .i64 sa q sc s) => same_any a r c S sa q sc s wz k1 k2)
 unfold SameTold at SM
 have BB := Lib.hid (((Bag.start w).krow hs).newRow (arrC ch ((r : Int) - 1) (dm S r) na nn nc ta tn tc) 32)
 have HR := Lib.hid BB.out.now.1
 clear h hs hr
 unfold cvE
 by_cases h0 : r = 0
 · rw [if_pos h0]
   have d0 : ((r : Int) == 0) = true := beq_iff_eq.2 (by omega)
   clear h0
   unfold arrC
   go_enter Tryz.func47, Tryz.ntmps47
   go_wp2_with (refine ld_arr rfl (.tmp 2) rfl w.heap.size rfl HR.out ?_)
   go_at_call 34
   (with_reducible refine (RK.out _ ?_).mono ?_)
   · exact H.out.below BB.out.below
   rintro e w2 ⟨rfl, hb2⟩
   have BB := Lib.hid (BB.out.go hb2)
   have HR := Lib.hid BB.out.now.1
   clear hb2
   go_wp2_with fail
   go_ret
   exact ⟨rfl, BB.out.below⟩
 · rw [if_neg h0]
   have d0 : ((r : Int) == 0) = false := beq_eq_false_iff_ne.2 (by omega)
   cases hb : (decide (r = q) && sameB S s r) with
   | true =>
    rw [if_pos rfl]
    rw [hb] at SM
    clear h0 hb
    unfold arrC
    go_enter Tryz.func47, Tryz.ntmps47
    go_wp2_with (refine ld_arr rfl (.tmp 2) rfl w.heap.size rfl HR.out ?_)
    go_at_call 34
    (with_reducible refine (RK.out _ ?_).mono ?_)
    · exact H.out.below BB.out.below
    rintro e w2 ⟨rfl, hb2⟩
    have BB := Lib.hid (BB.out.go hb2)
    have HR := Lib.hid BB.out.now.1
    clear hb2
    go_wp2_with (refine ld8G (by rfl) 2 rfl w.heap.size (arrC ch ((r : Int) - 1) (dm S r) na nn nc ta tn tc) (by rfl) HR.out rfl ?_)
    go_at_call 46
    (with_reducible refine (SH.out _ ?_).mono ?_)
    · exact H.out.below BB.out.below
    rintro e w3 ⟨a3, c3, rfl, hk3, hb3⟩
    have BB := Lib.hid (BB.out.go hb3)
    have HK3 := Lib.hid hk3
    clear hk3 hb3
    go_wp2_with fail
    go_at_call 76
    (with_reducible refine (SM.out _ _ _ ?_ ?_).mono ?_)
    · exact HK3.out
    · exact BB.out.now.2.1
    rintro e w4 ⟨rfl, hb4⟩
    have BB := Lib.hid (BB.out.go hb4)
    have HR := Lib.hid BB.out.now.1
    clear hb4
    go_wp2_with fail
    go_ret
    exact ⟨rfl, BB.out.below⟩
   | false =>
    rw [if_neg (by decide)]
    rw [hb] at SM
    by_cases h1 : r = q
    · rw [if_pos h1]
      have d1 : ((r : Int) != (q : Int)) = false := by rw [h1]; exact bne_self_eq_false _
      clear h0 h1 hb
      unfold arrC
      go_enter Tryz.func47, Tryz.ntmps47
      go_wp2_with (refine ld_arr rfl (.tmp 2) rfl w.heap.size rfl HR.out ?_)
      go_at_call 34
      (with_reducible refine (RK.out _ ?_).mono ?_)
      · exact H.out.below BB.out.below
      rintro e w2 ⟨rfl, hb2⟩
      have BB := Lib.hid (BB.out.go hb2)
      have HR := Lib.hid BB.out.now.1
      clear hb2
      go_wp2_with (refine ld8G (by rfl) 2 rfl w.heap.size (arrC ch ((r : Int) - 1) (dm S r) na nn nc ta tn tc) (by rfl) HR.out rfl ?_)
      go_at_call 46
      (with_reducible refine (SH.out _ ?_).mono ?_)
      · exact H.out.below BB.out.below
      rintro e w3 ⟨a3, c3, rfl, hk3, hb3⟩
      have BB := Lib.hid (BB.out.go hb3)
      have HK3 := Lib.hid hk3
      clear hk3 hb3
      go_wp2_with fail
      go_at_call 76
      (with_reducible refine (SM.out _ _ _ ?_ ?_).mono ?_)
      · exact HK3.out
      · exact BB.out.now.2.1
      rintro e w4 ⟨rfl, hb4⟩
      have BB := Lib.hid (BB.out.go hb4)
      have HR := Lib.hid BB.out.now.1
      clear hb4
      go_wp2_with (refine ld_arr rfl (.tmp 2) rfl w.heap.size rfl HR.out ?_)
      go_at_call 34
      (with_reducible refine (RK.out _ ?_).mono ?_)
      · exact H.out.below BB.out.below
      rintro e w5 ⟨rfl, hb5⟩
      have BB := Lib.hid (BB.out.go hb5)
      have HR := Lib.hid BB.out.now.1
      clear hb5
      go_wp2_with fail
      go_ret
      exact ⟨rfl, BB.out.below⟩
    · rw [if_neg h1]
      have d1 : ((r : Int) != (q : Int)) = true := bne_iff_ne.2 (by omega)
      clear h0 h1 hb
      unfold arrC
      go_enter Tryz.func47, Tryz.ntmps47
      go_wp2_with (refine ld_arr rfl (.tmp 2) rfl w.heap.size rfl HR.out ?_)
      go_at_call 34
      (with_reducible refine (RK.out _ ?_).mono ?_)
      · exact H.out.below BB.out.below
      rintro e w2 ⟨rfl, hb2⟩
      have BB := Lib.hid (BB.out.go hb2)
      have HR := Lib.hid BB.out.now.1
      clear hb2
      go_wp2_with (refine ld8G (by rfl) 2 rfl w.heap.size (arrC ch ((r : Int) - 1) (dm S r) na nn nc ta tn tc) (by rfl) HR.out rfl ?_)
      go_at_call 46
      (with_reducible refine (SH.out _ ?_).mono ?_)
      · exact H.out.below BB.out.below
      rintro e w3 ⟨a3, c3, rfl, hk3, hb3⟩
      have BB := Lib.hid (BB.out.go hb3)
      have HK3 := Lib.hid hk3
      clear hk3 hb3
      go_wp2_with fail
      go_at_call 76
      (with_reducible refine (SM.out _ _ _ ?_ ?_).mono ?_)
      · exact HK3.out
      · exact BB.out.now.2.1
      rintro e w4 ⟨rfl, hb4⟩
      have BB := Lib.hid (BB.out.go hb4)
      have HR := Lib.hid BB.out.now.1
      clear hb4
      go_wp2_with (refine ld_arr rfl (.tmp 2) rfl w.heap.size rfl HR.out ?_)
      go_at_call 34
      (with_reducible refine (RK.out _ ?_).mono ?_)
      · exact H.out.below BB.out.below
      rintro e w5 ⟨rfl, hb5⟩
      have BB := Lib.hid (BB.out.go hb5)
      have HR := Lib.hid BB.out.now.1
      clear hb5
      go_wp2_with fail
      go_ret
      exact ⟨rfl, BB.out.below⟩
theorem out_sh {s : Nat -> Int} {k q : Nat} (hk : k < q) (h : shB s q = true) : shB (outF s k) (q - 1) = true /\ itm (outF s k) (q - 1) = itm (wiF s (k : Nat) 1) q := by
 have h1 := wi_sh (v := 1) hk h (by decide) (by omega)
 obtain ⟨h8, hax⟩ := sh_ax h1
 obtain ⟨a1, a2⟩ := ax_iff.1 hax
 obtain ⟨e1, e2⟩ := ins_rm (S := outF s k) (k := k) (q := q - 1) (by omega)
 rw [ins_out, show q - 1 + 1 = q by omega] at e1 e2
 refine ⟨?_, e2.symm⟩
 unfold shB
 rw [decide_eq_true (show q - 1 <= 8 by omega), Bool.true_and]
 refine ax_iff.2 ⟨fun j hj => ?_, by rw [← e1]; exact a2⟩
 unfold outF
 split
 · exact (ax_le4 h (by omega)).1
 · exact (ax_le4 h (by omega)).1
theorem extended_any (x : Array Value) (S : Nat -> Int) (r : Nat) (ch : Bool) (L : Nat) (g P : Nat -> Int) (Q : Nat -> Nat) (sa : Option Addr) (q sc : Nat) (s : Nat -> Int) (k : Nat) (w : World) (h : Arr w x S r ch L g P Q) (hsh : shB S r = true) (hc : itm S r = (L : Nat)) (hs : KRow w .i64 sa q sc s) (hss : shB s q = true) (hk : k < q) :
    Calls Tryz.prog 38 #[.agg x, .slice sa q sc, .int .i64 (k : Nat)] w fun e w' => MoTold (exE r S q s k) (exS r S q s k) q ch (itm (exS r S q s k) q).toNat (fun j => elC L g 32 (exG r j)) (fun j => elP L P (exG r j)) (fun j => elQ L Q (exG r j)) w w' e := by
 obtain ⟨na, nn, nc, ta, tn, tc, hx, _⟩ := h.form
 subst hx
 have hr := (sh_ax hsh).1
 have hq8 := (sh_ax hss).1
 have hl := hs.len
 obtain ⟨hos, hoi⟩ := out_sh hk hss
 have hS := Lib.hid (fun hE => ex_sh hk hss hsh hE)
 have H := Lib.hid h
 have RK := Lib.hid (fun wz h => rank8_any (arrC ch ((r : Int) - 1) (dm S r) na nn nc ta tn tc) S r ch L g P Q wz h (by omega))
 have SH := Lib.hid (fun wz h => shape8_any (arrC ch ((r : Int) - 1) (dm S r) na nn nc ta tn tc) S r ch L g P Q wz h hr)
 have WO := Lib.hid (fun wz (h : KRow wz .i64 sa q sc s) => without_new sa q sc s k wz h (by omega) hk)
 have WS : Hid (∀ a c wz, KRow wz .i64 a q c S -> Calls Tryz.prog 75 #[.slice a q c, .int .i64 (k : Nat)] wz fun e w' => ∃ a' c', e = .returned (.slice a' (q - 1) c') /\ KRow w' .i64 a' (q - 1) c' (outF S k) /\ (a' = none -> c' = 0) /\ Below wz.heap.size wz w') := Lib.hid (fun a c wz h => without_new a q c S k wz h (by omega) hk)
 have SM : Hid (∀ a c a2 c2 (f : Nat -> Int) wz, KRow wz .i64 a (q - 1) c f -> KRow wz .i64 a2 (q - 1) c2 (outF s k) -> Calls Tryz.prog 76 #[.slice a (q - 1) c, .slice a2 (q - 1) c2] wz fun e w' => e = .returned (.bool (sameB f (outF s k) (q - 1))) /\ Below wz.heap.size wz w') := Lib.hid (fun a c a2 c2 f wz k1 k2 => by
  have := same_any a (q - 1) c f a2 (q - 1) c2 (outF s k) wz k1 k2
  rw [decide_eq_true rfl, Bool.true_and] at this
  exact this)
 have LY : Hid (∀ a2 c2 wz, Arr wz (arrC ch ((r : Int) - 1) (dm S r) na nn nc ta tn tc) S r ch L g P Q -> KRow wz .i64 a2 (q - 1) c2 (outF s k) -> (a2 = none -> c2 = 0) -> Calls Tryz.prog 48 #[.agg (arrC ch ((r : Int) - 1) (dm S r) na nn nc ta tn tc), .slice a2 (q - 1) c2, .int .i64 (k : Nat)] wz fun e w' => ∃ y, e = .returned (.agg y) /\ Arr w' y (wiF s (k : Nat) 1) q ch (itm (wiF s (k : Nat) 1) q).toNat (fun j => elC L g 32 (exG r j)) (fun j => elP L P (exG r j)) (fun j => elQ L Q (exG r j)) /\ Below wz.heap.size wz w') := Lib.hid (fun a2 c2 wz q0 k2 n2 => by
  have := layer_any (arrC ch ((r : Int) - 1) (dm S r) na nn nc ta tn tc) S r ch L g P Q a2 (q - 1) c2 (outF s k) k wz q0 hr k2 n2 (by omega) (by omega) hos
  rw [ins_out, hoi, show q - 1 + 1 = q by omega] at this
  exact this)
 have BB := Lib.hid ((((Bag.start w).krow hs).newRow (arrC ch ((r : Int) - 1) (dm S r) na nn nc ta tn tc) 32).newRow zerC 32)
 simp only [World.size_alloc] at BB
 have HNO : Hid (∀ E wz, E ≠ 0 -> Below w.heap.size w wz -> MoTold E (exS r S q s k) q ch (itm (exS r S q s k) q).toNat (fun j => elC L g 32 (exG r j)) (fun j => elP L P (exG r j)) (fun j => elQ L Q (exG r j)) w (wz.setRow (w.heap.size + 1) zerC) (.returned (.tuple #[.agg zerC, .int .i64 E]))) := Lib.hid (fun E wz hE hb => MoTold.no hE (below_put hb (show w.heap.size <= w.heap.size + 1 by omega) zerC))
 clear h hs hos hoi
 by_cases h0 : r = 0
 · have eE : exE r S q s k = 0 := by unfold exE; rw [if_pos h0]
   have eS : exS r S q s k = wiF s (k : Nat) 1 := by unfold exS exN; rw [if_neg (by omega)]
   rw [eE, eS]
   have d0 : ((r : Int) == 0) = true := beq_iff_eq.2 (by omega)
   clear h0 eE eS hS HNO hsh hss hc
   unfold arrC
   go_enter Tryz.func38, Tryz.ntmps38
   go_wp2_with fail
   go_at_call 75
   (with_reducible refine (WO.out _ ?_).mono ?_)
   · exact BB.out.now.2.2.1
   rintro e w2 ⟨a2, c2, rfl, hk2, hn2, hb2⟩
   have BB := Lib.hid (BB.out.go hb2)
   have HK2 := Lib.hid hk2
   have HN2 := Lib.hid hn2
   have hl2 := hk2.len
   have HR := Lib.hid BB.out.now.2.1
   clear hk2 hn2 hb2
   go_wp2_with (refine ld_arr rfl (.tmp 3) rfl w.heap.size rfl HR.out ?_)
   go_at_call 34
   (with_reducible refine (RK.out _ ?_).mono ?_)
   · exact H.out.below BB.out.below
   rintro e w3 ⟨rfl, hb3⟩
   have BB := Lib.hid (BB.out.go hb3)
   have HK2 := Lib.hid (HK2.out.below hb3)
   have HR := Lib.hid BB.out.now.2.1
   clear hb3
   go_wp2_with (refine ld_arr rfl (.tmp 3) rfl w.heap.size rfl HR.out ?_)
   go_at_call 48
   (refine (LY.out _ _ _ (H.out.below BB.out.below) HK2.out HN2.out).mono ?_)
   rintro e w8 ⟨y8, rfl, h8, hb8⟩
   have BB := Lib.hid (BB.out.go hb8)
   have HZ := Lib.hid BB.out.now.1
   have HE := Lib.hid (MoTold.yes (h8.put HZ.out y8) (below_put BB.out.below (show w.heap.size <= w.heap.size + 1 by omega) y8))
   obtain ⟨n8, m8, d8, u8, v8, z8, hx8, _⟩ := h8.form
   subst hx8
   clear h8 hb8
   unfold arrC
   unfold arrC at HE
   go_wp2_with (refine st_arr rfl (.tmp 6) (.tmp 19) rfl (w.heap.size + 1) rfl _ _ _ _ _ _ _ _ _ rfl HZ.out rfl ?_)
   exact bodyPost_ret (res_arr2 Tryz.results38 rfl rfl (HZ.out.put _) rfl) rfl HE.out
 · have d0 : ((r : Int) == 0) = false := beq_eq_false_iff_ne.2 (by omega)
   by_cases h1 : r + 1 = q
   · have eS : exS r S q s k = wiF s (k : Nat) 1 := by unfold exS exN; rw [if_neg (by omega)]
     have w1 := IntWalk.i64_in ((q : Int) - 1) (by omega)
     have d1 : ((r : Int) == (q : Int) - 1) = true := beq_iff_eq.2 (by omega)
     obtain rfl : r = q - 1 := by omega
     have d2 : (((q - 1 : Nat) : Int) == (q : Int) - 1) = true := beq_iff_eq.2 (by omega)
     have SM := Lib.hid (fun a c a2 c2 wz k1 k2 => SM.out a c a2 c2 S wz k1 k2)
     cases hne : neB (insF S k 1) s k q with
     | true =>
      have eE : exE (q - 1) S q s k = 0 := by unfold exE; rw [if_neg h0, if_pos h1, hne]; rfl
      rw [ne_ins 1 hk, hne] at SM
      rw [eE, eS]
      clear h0 h1 eE eS hS HNO hsh hss hc hne
      unfold arrC
      go_enter Tryz.func38, Tryz.ntmps38
      go_wp2_with fail
      go_at_call 75
      (with_reducible refine (WO.out _ ?_).mono ?_)
      · exact BB.out.now.2.2.1
      rintro e w2 ⟨a2, c2, rfl, hk2, hn2, hb2⟩
      have BB := Lib.hid (BB.out.go hb2)
      have HK2 := Lib.hid hk2
      have HN2 := Lib.hid hn2
      have hl2 := hk2.len
      have HR := Lib.hid BB.out.now.2.1
      clear hk2 hn2 hb2
      go_wp2_with (refine ld_arr rfl (.tmp 3) rfl w.heap.size rfl HR.out ?_)
      go_at_call 34
      (with_reducible refine (RK.out _ ?_).mono ?_)
      · exact H.out.below BB.out.below
      rintro e w3 ⟨rfl, hb3⟩
      have BB := Lib.hid (BB.out.go hb3)
      have HK2 := Lib.hid (HK2.out.below hb3)
      have HR := Lib.hid BB.out.now.2.1
      clear hb3
      go_wp2_with (refine ld_arr rfl (.tmp 3) rfl w.heap.size rfl HR.out ?_)
      go_at_call 46
      (with_reducible refine (SH.out _ ?_).mono ?_)
      · exact H.out.below BB.out.below
      rintro e w4 ⟨a4, c4, rfl, hk4, hb4⟩
      have BB := Lib.hid (BB.out.go hb4)
      have HK4 := Lib.hid hk4
      have hl4 := hk4.len
      have HK2 := Lib.hid (HK2.out.below hb4)
      clear hk4 hb4
      go_wp2_with fail
      go_at_call 76
      (with_reducible refine (SM.out _ _ _ _ _ HK4.out HK2.out).mono ?_)
      rintro e w5 ⟨rfl, hb5⟩
      have BB := Lib.hid (BB.out.go hb5)
      have HK2 := Lib.hid (HK2.out.below hb5)
      have HR := Lib.hid BB.out.now.2.1
      clear hb5 HK4
      go_wp2_with (refine ld_arr rfl (.tmp 3) rfl w.heap.size rfl HR.out ?_)
      go_at_call 48
      (refine (LY.out _ _ _ (H.out.below BB.out.below) HK2.out HN2.out).mono ?_)
      rintro e w8 ⟨y8, rfl, h8, hb8⟩
      have BB := Lib.hid (BB.out.go hb8)
      have HZ := Lib.hid BB.out.now.1
      have HE := Lib.hid (MoTold.yes (h8.put HZ.out y8) (below_put BB.out.below (show w.heap.size <= w.heap.size + 1 by omega) y8))
      obtain ⟨n8, m8, d8, u8, v8, z8, hx8, _⟩ := h8.form
      subst hx8
      clear h8 hb8
      unfold arrC
      unfold arrC at HE
      go_wp2_with (refine st_arr rfl (.tmp 6) (.tmp 34) rfl (w.heap.size + 1) rfl _ _ _ _ _ _ _ _ _ rfl HZ.out rfl ?_)
      exact bodyPost_ret (res_arr2 Tryz.results38 rfl rfl (HZ.out.put _) rfl) rfl HE.out
     | false =>
      have eE : exE (q - 1) S q s k = 24 := by unfold exE; rw [if_neg h0, if_pos h1, hne]; rfl
      rw [ne_ins 1 hk, hne] at SM
      rw [eE]
      clear h0 h1 eE eS hS hsh hss hc hne
      unfold arrC
      go_enter Tryz.func38, Tryz.ntmps38
      go_wp2_with fail
      go_at_call 75
      (with_reducible refine (WO.out _ ?_).mono ?_)
      · exact BB.out.now.2.2.1
      rintro e w2 ⟨a2, c2, rfl, hk2, hn2, hb2⟩
      have BB := Lib.hid (BB.out.go hb2)
      have HK2 := Lib.hid hk2
      have HN2 := Lib.hid hn2
      have hl2 := hk2.len
      have HR := Lib.hid BB.out.now.2.1
      clear hk2 hn2 hb2
      go_wp2_with (refine ld_arr rfl (.tmp 3) rfl w.heap.size rfl HR.out ?_)
      go_at_call 34
      (with_reducible refine (RK.out _ ?_).mono ?_)
      · exact H.out.below BB.out.below
      rintro e w3 ⟨rfl, hb3⟩
      have BB := Lib.hid (BB.out.go hb3)
      have HK2 := Lib.hid (HK2.out.below hb3)
      have HR := Lib.hid BB.out.now.2.1
      clear hb3
      go_wp2_with (refine ld_arr rfl (.tmp 3) rfl w.heap.size rfl HR.out ?_)
      go_at_call 46
      (with_reducible refine (SH.out _ ?_).mono ?_)
      · exact H.out.below BB.out.below
      rintro e w4 ⟨a4, c4, rfl, hk4, hb4⟩
      have BB := Lib.hid (BB.out.go hb4)
      have HK4 := Lib.hid hk4
      have hl4 := hk4.len
      have HK2 := Lib.hid (HK2.out.below hb4)
      clear hk4 hb4
      go_wp2_with fail
      go_at_call 76
      (with_reducible refine (SM.out _ _ _ _ _ HK4.out HK2.out).mono ?_)
      rintro e w5 ⟨rfl, hb5⟩
      have BB := Lib.hid (BB.out.go hb5)
      have HK2 := Lib.hid (HK2.out.below hb5)
      have HR := Lib.hid BB.out.now.2.1
      clear hb5 HK4
      have HZ := Lib.hid BB.out.now.1
      have HE := Lib.hid (HNO.out 24 _ (by decide) BB.out.below)
      go_wp2_with (refine st_arr rfl (.tmp 6) (.tmp 30) rfl (w.heap.size + 1) rfl false 0 (fun _ => 0) none 0 0 none 0 0 rfl HZ.out rfl ?_)
      exact bodyPost_ret (res_arr2 Tryz.results38 rfl rfl (HZ.out.put _) rfl) rfl HE.out
   · have w1 := IntWalk.i64_in ((q : Int) - 1) (by omega)
     have d1 : ((r : Int) == (q : Int) - 1) = false := beq_eq_false_iff_ne.2 (by omega)
     by_cases h2 : r = q
     · subst h2
       have d2 : ((r : Int) == (r : Int)) = true := beq_self_eq_true _
       have SM := Lib.hid (fun a c a2 c2 wz k1 k2 => SM.out a c a2 c2 (outF S k) wz k1 k2)
       cases hne : neB S s k r with
       | true =>
        have eE : exE r S r s k = 0 := by unfold exE; rw [if_neg h0, if_neg h1, if_pos rfl, hne]; rfl
        rw [ne_out hk, hne] at SM
        have hi := neB_iff.1 hne
        have HX : Hid (∀ wz, Below w.heap.size w wz -> Arr wz (arrC ch ((r : Int) - 1) (dm S r) na nn nc ta tn tc) (exS r S r s k) r ch (itm (exS r S r s k) r).toNat (fun j => elC L g 32 (exG r j)) (fun j => elP L P (exG r j)) (fun j => elQ L Q (exG r j))) := Lib.hid (fun wz hb => by
         have eM : (itm (exS r S r s k) r).toNat = L := by rw [(hS.out eE).2.2.2 h0, hc]; rfl
         rw [eM]
         refine ((H.out.below hb).on (fun j hj => ?_) (fun j hj => ?_) (fun j hj => ?_)).shape (fun j hj => ?_)
         · show g j = elC L g 32 (exG r j)
           unfold elC exG; rw [if_neg h0, if_pos (by omega)]; rfl
         · show P j = elP L P (exG r j)
           unfold elP exG; rw [if_neg h0, if_pos (by omega)]; rfl
         · show Q j = elQ L Q (exG r j)
           unfold elQ exG; rw [if_neg h0, if_pos (by omega)]; rfl
         · unfold exS exN
           rw [if_pos rfl]
           by_cases e : j = k
           · subst e; rw [wi_at]
           · rw [wi_off _ e]; exact hi j hj e)
        rw [eE]
        clear h0 h1 eE hS HNO hsh hss hc hne hi
        unfold arrC
        go_enter Tryz.func38, Tryz.ntmps38
        go_wp2_with fail
        go_at_call 75
        (with_reducible refine (WO.out _ ?_).mono ?_)
        · exact BB.out.now.2.2.1
        rintro e w2 ⟨a2, c2, rfl, hk2, hn2, hb2⟩
        have BB := Lib.hid (BB.out.go hb2)
        have HK2 := Lib.hid hk2
        have HN2 := Lib.hid hn2
        have hl2 := hk2.len
        have HR := Lib.hid BB.out.now.2.1
        clear hk2 hn2 hb2
        go_wp2_with (refine ld_arr rfl (.tmp 3) rfl w.heap.size rfl HR.out ?_)
        go_at_call 34
        (with_reducible refine (RK.out _ ?_).mono ?_)
        · exact H.out.below BB.out.below
        rintro e w3 ⟨rfl, hb3⟩
        have BB := Lib.hid (BB.out.go hb3)
        have HK2 := Lib.hid (HK2.out.below hb3)
        have HR := Lib.hid BB.out.now.2.1
        clear hb3
        go_wp2_with (refine ld_arr rfl (.tmp 3) rfl w.heap.size rfl HR.out ?_)
        go_at_call 46
        (with_reducible refine (SH.out _ ?_).mono ?_)
        · exact H.out.below BB.out.below
        rintro e w4 ⟨a4, c4, rfl, hk4, hb4⟩
        have BB := Lib.hid (BB.out.go hb4)
        have HK4 := Lib.hid hk4
        have hl4 := hk4.len
        have HK2 := Lib.hid (HK2.out.below hb4)
        clear hk4 hb4
        go_wp2_with fail
        go_at_call 75
        (with_reducible refine (WS.out _ _ _ HK4.out).mono ?_)
        rintro e w6 ⟨a6, c6, rfl, hk6, _, hb6⟩
        have BB := Lib.hid (BB.out.go hb6)
        have HK4 := Lib.hid hk6
        have hl6 := hk6.len
        have HK2 := Lib.hid (HK2.out.below hb6)
        clear hk6 hb6
        go_wp2_with fail
        go_at_call 76
        (with_reducible refine (SM.out _ _ _ _ _ HK4.out HK2.out).mono ?_)
        rintro e w5 ⟨rfl, hb5⟩
        have BB := Lib.hid (BB.out.go hb5)
        have HK2 := Lib.hid (HK2.out.below hb5)
        have HR := Lib.hid BB.out.now.2.1
        clear hb5 HK4
        have HZ := Lib.hid BB.out.now.1
        have HE := Lib.hid (MoTold.yes ((HX.out _ BB.out.below).put HZ.out (arrC ch ((r : Int) - 1) (dm S r) na nn nc ta tn tc)) (below_put BB.out.below (show w.heap.size <= w.heap.size + 1 by omega) (arrC ch ((r : Int) - 1) (dm S r) na nn nc ta tn tc)))
        unfold arrC at HE
        go_wp2_with (first
         | (refine ld_arr rfl (.tmp 3) rfl w.heap.size rfl HR.out ?_)
         | (refine st_arr rfl (.tmp 6) (.tmp 47) rfl (w.heap.size + 1) rfl _ _ _ _ _ _ _ _ _ rfl HZ.out rfl ?_))
        exact bodyPost_ret (res_arr2 Tryz.results38 rfl rfl (HZ.out.put _) rfl) rfl HE.out
       | false =>
        have eE : exE r S r s k = 24 := by unfold exE; rw [if_neg h0, if_neg h1, if_pos rfl, hne]; rfl
        rw [ne_out hk, hne] at SM
        rw [eE]
        clear h0 h1 eE hS hsh hss hc hne
        unfold arrC
        go_enter Tryz.func38, Tryz.ntmps38
        go_wp2_with fail
        go_at_call 75
        (with_reducible refine (WO.out _ ?_).mono ?_)
        · exact BB.out.now.2.2.1
        rintro e w2 ⟨a2, c2, rfl, hk2, hn2, hb2⟩
        have BB := Lib.hid (BB.out.go hb2)
        have HK2 := Lib.hid hk2
        have HN2 := Lib.hid hn2
        have hl2 := hk2.len
        have HR := Lib.hid BB.out.now.2.1
        clear hk2 hn2 hb2
        go_wp2_with (refine ld_arr rfl (.tmp 3) rfl w.heap.size rfl HR.out ?_)
        go_at_call 34
        (with_reducible refine (RK.out _ ?_).mono ?_)
        · exact H.out.below BB.out.below
        rintro e w3 ⟨rfl, hb3⟩
        have BB := Lib.hid (BB.out.go hb3)
        have HK2 := Lib.hid (HK2.out.below hb3)
        have HR := Lib.hid BB.out.now.2.1
        clear hb3
        go_wp2_with (refine ld_arr rfl (.tmp 3) rfl w.heap.size rfl HR.out ?_)
        go_at_call 46
        (with_reducible refine (SH.out _ ?_).mono ?_)
        · exact H.out.below BB.out.below
        rintro e w4 ⟨a4, c4, rfl, hk4, hb4⟩
        have BB := Lib.hid (BB.out.go hb4)
        have HK4 := Lib.hid hk4
        have hl4 := hk4.len
        have HK2 := Lib.hid (HK2.out.below hb4)
        clear hk4 hb4
        go_wp2_with fail
        go_at_call 75
        (with_reducible refine (WS.out _ _ _ HK4.out).mono ?_)
        rintro e w6 ⟨a6, c6, rfl, hk6, _, hb6⟩
        have BB := Lib.hid (BB.out.go hb6)
        have HK4 := Lib.hid hk6
        have hl6 := hk6.len
        have HK2 := Lib.hid (HK2.out.below hb6)
        clear hk6 hb6
        go_wp2_with fail
        go_at_call 76
        (with_reducible refine (SM.out _ _ _ _ _ HK4.out HK2.out).mono ?_)
        rintro e w5 ⟨rfl, hb5⟩
        have BB := Lib.hid (BB.out.go hb5)
        have HK2 := Lib.hid (HK2.out.below hb5)
        have HR := Lib.hid BB.out.now.2.1
        clear hb5 HK4
        have HZ := Lib.hid BB.out.now.1
        have HE := Lib.hid (HNO.out 24 _ (by decide) BB.out.below)
        go_wp2_with (refine st_arr rfl (.tmp 6) (.tmp 46) rfl (w.heap.size + 1) rfl false 0 (fun _ => 0) none 0 0 none 0 0 rfl HZ.out rfl ?_)
        exact bodyPost_ret (res_arr2 Tryz.results38 rfl rfl (HZ.out.put _) rfl) rfl HE.out
     · have d2 : ((r : Int) == (q : Int)) = false := beq_eq_false_iff_ne.2 (by omega)
       have eE : exE r S q s k = 23 := by unfold exE; rw [if_neg h0, if_neg h1, if_neg h2]
       rw [eE]
       clear h0 h1 h2 eE hS hsh hss hc
       unfold arrC
       go_enter Tryz.func38, Tryz.ntmps38
       go_wp2_with fail
       go_at_call 75
       (with_reducible refine (WO.out _ ?_).mono ?_)
       · exact BB.out.now.2.2.1
       rintro e w2 ⟨a2, c2, rfl, hk2, hn2, hb2⟩
       have BB := Lib.hid (BB.out.go hb2)
       have HK2 := Lib.hid hk2
       have HN2 := Lib.hid hn2
       have hl2 := hk2.len
       have HR := Lib.hid BB.out.now.2.1
       clear hk2 hn2 hb2
       go_wp2_with (refine ld_arr rfl (.tmp 3) rfl w.heap.size rfl HR.out ?_)
       go_at_call 34
       (with_reducible refine (RK.out _ ?_).mono ?_)
       · exact H.out.below BB.out.below
       rintro e w3 ⟨rfl, hb3⟩
       have BB := Lib.hid (BB.out.go hb3)
       have HK2 := Lib.hid (HK2.out.below hb3)
       have HR := Lib.hid BB.out.now.2.1
       clear hb3
       have HZ := Lib.hid BB.out.now.1
       have HE := Lib.hid (HNO.out 23 _ (by decide) BB.out.below)
       go_wp2_with (refine st_arr rfl (.tmp 6) (.tmp 48) rfl (w.heap.size + 1) rfl false 0 (fun _ => 0) none 0 0 none 0 0 rfl HZ.out rfl ?_)
       exact bodyPost_ret (res_arr2 Tryz.results38 rfl rfl (HZ.out.put _) rfl) rfl HE.out
end Go.Proofs.YtdlccnmhcggjiaaGreatDoor
namespace Go.Proofs.YtdlccnmhcggjiaaGreatDoor
open Go.RowKit
theorem r7With_any (a : Option Addr) (n c : Nat) (f : Nat -> Int) (i x : Int) (w : World) (h : KRow w .i64 a n c f) (hn : n <= 1000000) :
    Calls Tryz.prog 82 #[.slice a n c, .int .i64 i, .int .i64 x] w fun e w' => ∃ a' c', e = .returned (.slice a' n c') /\ KRow w' .i64 a' n c' (wiF f i x) /\ Below w.heap.size w w' := by
 obtain ⟨i0, hi, hz0, hz1, hz2⟩ := info_parts infoI
 have hl := h.len
 have H := Lib.hid h
 clear h
 go_enter Tryz.func82, Tryz.ntmps82
 go_wp2
 go_loopw [7, 8] (fun v j wr => ∃ (k : Nat) (a1 : Option Addr) (c1 : Nat), k <= n /\ j = .int .i64 k /\ v = .slice a1 k c1 /\ Hid (Below w.heap.size w wr /\ wr.ownsRow w.heap.size 3 1 (.slice a1 k c1) k (kcs .i64 (wiF f i x) k))) (fun _ j _ => n - (intOf j).toNat)
 case atStart => exact ⟨0, none, 0, by omega, rfl, rfl, Below.refl _ _, World.ownsRow_nil _ _ _ _⟩
 case round =>
  obtain ⟨k, a1, c1, hk, rfl, rfl, hrel⟩ := hrel
  obtain ⟨hbl, hown⟩ := hrel.out
  by_cases hlt : k < n
  · obtain ⟨b, off, rfl, hb, hc⟩ := (H.out.below hbl).get hlt
    have HMX := Lib.hid (show k + 1 <= maxLen by unfold maxLen; omega)
    have HMY := Lib.hid (show (k + 1) * 8 <= 140737488355328 by omega)
    have hwr := hbl.size
    have HW : Hid (∀ y, y = wiF f i x k -> ∀ (v5 : Value) (w5 : World), w5.ownsRow w.heap.size 3 1 v5 (k + 1) (kcs .i64 (wiF f i x) k ++ [.int .i64 y]) -> w5.ownsRow w.heap.size 3 1 v5 (k + 1) (kcs .i64 (wiF f i x) (k + 1))) := Lib.hid (fun y hy v5 w5 h => by subst hy; exact h)
    have HO2 := Lib.hid (fun y => own_below hown ((Below.refl _ _).alloc (Nat.le_refl _) (.cells #[.int .i64 y] 3)))
    have HNEW := Lib.hid (fun y => World.news_of_block (Row.new wr 3 #[.int .i64 y]))
    have HB2 := Lib.hid (fun y => hbl.trans ((Below.refl wr.heap.size wr).alloc (Nat.le_refl _) (.cells #[.int .i64 y] 3) |>.mono hwr))
    have HBA : Hid (∀ y, w.heap.size <= (wr.alloc (.cells #[.int .i64 y] 3)).heap.size) := Lib.hid (fun y => by rw [World.size_alloc]; omega)
    by_cases hik : (k : Int) = i
    · have hq : ((k : Int) == i) = true := beq_iff_eq.2 hik
      have HX := Lib.hid (show x = wiF f i x k by unfold wiF; rw [if_pos hik])
      have HW := Lib.hid (HW.out x HX.out)
      clear hik hbl hown hrel HX
      go_wp2_with (at_builtin; refine wpList_append_lies _ rfl (.tmp 18) (.tmp 20) 22 rfl w.heap.size 3 i0 _ 1 8 Tryz.underlying22 hi hz0 hz1 hz2 rfl (by omega) (.slice a1 k c1) k _ rfl (HO2.out x) ⟨wr.heap.size, 0, none⟩ 1 1 [.int .i64 x] rfl rfl (HNEW.out x) ?q1 (by omega) HMX.out HMY.out (HBA.out x) _ rfl ?_)
      case q1 => rfl
      intro g9 cap9 w5 hown5 hgrow _ _
      have HN2 := Lib.hid (And.intro ((HB2.out x).grown hgrow (HBA.out x) (fun q hq => ((HO2.out x).lt q hq).1)) (HW.out _ _ hown5))
      clear hown5 hgrow
      go_wp2
      go_roundw
      case rel => exact ⟨k + 1, _, cap9, by omega, by go_num, rfl, HN2.out⟩
      case measure => simp [intOf]; omega
    · have hq : ((k : Int) == i) = false := beq_eq_false_iff_ne.2 hik
      have HX := Lib.hid (show f k = wiF f i x k by unfold wiF; rw [if_neg hik])
      have HW := Lib.hid (HW.out (f k) HX.out)
      clear hik hbl hown hrel HX
      generalize f k = y at *
      go_wp2_with (at_builtin; refine wpList_append_lies _ rfl (.tmp 22) (.tmp 27) 22 rfl w.heap.size 3 i0 _ 1 8 Tryz.underlying22 hi hz0 hz1 hz2 rfl (by omega) (.slice a1 k c1) k _ rfl (HO2.out y) ⟨wr.heap.size, 0, none⟩ 1 1 [.int .i64 y] rfl rfl (HNEW.out y) ?q1 (by omega) HMX.out HMY.out (HBA.out y) _ rfl ?_)
      case q1 => rfl
      intro g9 cap9 w5 hown5 hgrow _ _
      have HN2 := Lib.hid (And.intro ((HB2.out y).grown hgrow (HBA.out y) (fun q hq => ((HO2.out y).lt q hq).1)) (HW.out _ _ hown5))
      clear hown5 hgrow
      go_wp2
      go_roundw
      case rel => exact ⟨k + 1, _, cap9, by omega, by go_num, rfl, HN2.out⟩
      case measure => simp [intOf]; omega
  · obtain rfl : k = n := by omega
    obtain ⟨a9, c9, he, hq⟩ := KRow.of_own hown
    injection he with he1 _ he2
    subst he1 he2
    have HE := Lib.hid (And.intro hq hbl)
    clear hbl hown hq hrel
    go_wp2
    go_ret
    exact ⟨_, _, rfl, HE.out⟩
end Go.Proofs.YtdlccnmhcggjiaaGreatDoor
namespace Go.Proofs.YtdlccnmhcggjiaaGreatDoor
open Go.RowKit
attribute [local go_sem ↓] Go.wp_at_zero Go.wp_at_succ
def pkE (T : Nat -> Int) (r : Nat) : Int := if shB T r then 0 else 26
theorem runes8_any {w : World} {x : Array Value} {S : Nat -> Int} {r L : Nat} {g P : Nat -> Int} {Q : Nat -> Nat} (h : Arr w x S r true L g P Q) (hL : L <= 1000000) :
    Calls Tryz.prog 61 #[.agg x] w fun e w' => ∃ a c, e = .returned (.slice a L c) /\ KRow w' .i32 a L c g /\ Below w.heap.size w w' := by
 obtain ⟨ta, tc, rfl, hk⟩ := h.1 rfl
 exact runes_any true ((r : Int) - 1) (dm S r) none 0 0 ta L tc g w hk hL
theorem rats8_any {w : World} {x : Array Value} {S : Nat -> Int} {r L : Nat} {g P : Nat -> Int} {Q : Nat -> Nat} (h : Arr w x S r false L g P Q) (hL : L <= 1000000) :
    Calls Tryz.prog 64 #[.agg x] w fun e w' => ∃ a c, e = .returned (.slice a L c) /\ RRow w' a L c P Q /\ Below w.heap.size w w' := by
 obtain ⟨na, nc, rfl, hk⟩ := h.2 rfl
 exact aRats_any false ((r : Int) - 1) (dm S r) na L nc none 0 0 P Q w hk hL
theorem makeC_any {w : World} {aT : Option Addr} {r cT : Nat} {T : Nat -> Int} {a : Option Addr} {M c : Nat} {W1 W2 : Nat -> Int} {W3 : Nat -> Nat} {E : Int} {bE : Bool} (kT : KRow w .i64 aT r cT T) (hT : In64 T r) (kl : KRow w .i32 a M c W1) (hM : M <= 1000000) (hok : (shB T r && decide (itm T r = (M : Nat))) = bE) (hE : (bE = true -> E = 0) /\ (bE = false -> E = 26)) :
    Calls Tryz.prog 59 #[.slice aT r cT, .slice a M c] w fun e w' => ∃ x, e = .returned (.tuple #[.agg x, .bool bE]) /\ MoR w' x E T r true M W1 W2 W3 /\ Below w.heap.size w w' := by
 have := chars_any aT r cT T a M c W1 w kT hT kl hM
 rw [hok] at this
 refine this.mono ?_
 rintro e w' ⟨x, he, h2, hb⟩
 refine ⟨x, he, ?_, hb⟩
 cases bE with
 | true =>
  obtain rfl := hE.1 rfl
  rw [if_pos rfl] at h2
  have ha : Arr w' x T r true M W1 W2 W3 := ⟨fun _ => h2, fun e => by cases e⟩
  exact ⟨ha.isA, fun _ => ha, fun e => absurd rfl e⟩
 | false =>
  obtain rfl := hE.2 rfl
  rw [if_neg (by decide)] at h2
  subst h2
  exact ⟨IsA.zer, (fun e => by cases e), fun _ => rfl⟩
theorem makeR_any {w : World} {aT : Option Addr} {r cT : Nat} {T : Nat -> Int} {a : Option Addr} {M c : Nat} {W1 W2 : Nat -> Int} {W3 : Nat -> Nat} {E : Int} {bE : Bool} (kT : KRow w .i64 aT r cT T) (hT : In64 T r) (kl : RRow w a M c W2 W3) (hM : M <= 1000000) (hok : (shB T r && decide (itm T r = (M : Nat))) = bE) (hE : (bE = true -> E = 0) /\ (bE = false -> E = 26)) :
    Calls Tryz.prog 62 #[.slice aT r cT, .slice a M c] w fun e w' => ∃ x, e = .returned (.tuple #[.agg x, .bool bE]) /\ MoR w' x E T r false M W1 W2 W3 /\ Below w.heap.size w w' := by
 have := nums_any aT r cT T a M c W2 W3 w kT hT kl hM
 rw [hok] at this
 refine this.mono ?_
 rintro e w' ⟨x, he, h2, hb⟩
 refine ⟨x, he, ?_, hb⟩
 cases bE with
 | true =>
  obtain rfl := hE.1 rfl
  rw [if_pos rfl] at h2
  have ha : Arr w' x T r false M W1 W2 W3 := ⟨fun e => (by cases e), fun _ => h2⟩
  exact ⟨ha.isA, fun _ => ha, fun e => absurd rfl e⟩
 | false =>
  obtain rfl := hE.2 rfl
  rw [if_neg (by decide)] at h2
  subst h2
  exact ⟨IsA.zer, (fun e => by cases e), fun _ => rfl⟩
theorem KRow.storeA {w : World} {ki : IntKind} {a : Option Addr} {n c : Nat} {f : Nat -> Int} (h : KRow w ki a n c f) (hki : ki ≠ .i64) {k : Nat} {t : TypeId} {z : Array Value} (hr : Row w k t z) (hz : IsA z) (cs : Array Value) : KRow (w.setRow k cs) ki a n c f := by
 obtain ⟨_, _, _, _, _, _, _, _, _, rfl⟩ := hz
 exact h.away (KRow.ne h hki hr) (Far.setRow _ _ _)
theorem RRow.storeA {w : World} {a : Option Addr} {n c : Nat} {P : Nat -> Int} {Q : Nat -> Nat} (h : RRow w a n c P Q) {k : Nat} {t : TypeId} {z : Array Value} (hr : Row w k t z) (hz : IsA z) (cs : Array Value) : RRow (w.setRow k cs) a n c P Q := by
 obtain ⟨_, _, _, _, _, _, _, _, _, rfl⟩ := hz
 exact h.away (Row.noLimb hr) (RRow.ne h hr) (Far.setRow _ _ _)
def BhP (fl : Bool) (k1 k2 k3 k4 : Nat) (c1 c2 : Array Value) (aT : Option Addr) (r cT : Nat) (T : Nat -> Int) (y : World) : Prop := Row y k1 32 c1 /\ Row y k2 32 c2 /\ Row y k3 32 zerC /\ (∃ z, Row y k4 32 z /\ IsA z) /\ (fl = false -> KRow y .i64 aT r cT T)
theorem BhP.stay {fl : Bool} {k1 k2 k3 k4 : Nat} {c1 c2 : Array Value} {aT : Option Addr} {r cT : Nat} {T : Nat -> Int} : ∀ a b, Below a.heap.size a b -> BhP fl k1 k2 k3 k4 c1 c2 aT r cT T a -> BhP fl k1 k2 k3 k4 c1 c2 aT r cT T b := by
 rintro a b hb ⟨h1, h2, h3, ⟨z4, h4, i4⟩, h5⟩
 exact ⟨h1.below hb, h2.below hb, h3.below hb, ⟨z4, h4.below hb, i4⟩, fun e => (h5 e).below hb⟩
theorem BhP.put {w y : World} {fl : Bool} {k1 k2 k3 k4 : Nat} {c1 c2 : Array Value} {aT : Option Addr} {r cT : Nat} {T : Nat -> Int} (h : Bag w (BhP fl k1 k2 k3 k4 c1 c2 aT r cT T) y) (n1 : k1 ≠ k4) (n2 : k2 ≠ k4) (n3 : k3 ≠ k4) (hw : w.heap.size <= k4) (cs : Array Value) (hc : IsA cs) : Bag w (BhP true k1 k2 k3 k4 c1 c2 aT r cT T) (y.setRow k4 cs) := by
 obtain ⟨h1, h2, h3, ⟨z4, h4, i4⟩, _⟩ := h.now
 exact ⟨below_put h.below hw _, BhP.stay, h1.puto n1 _, h2.puto n2 _, h3.puto n3 _, ⟨_, h4.put _, hc⟩, fun e => by cases e⟩
theorem behind_any (x1 : Array Value) (X : Nat -> Int) (r : Nat) (ch : Bool) (La : Nat) (g1 P1 : Nat -> Int) (Q1 : Nat -> Nat) (x2 : Array Value) (Y : Nat -> Int) (Lb : Nat) (g2 P2 : Nat -> Int) (Q2 : Nat -> Nat) (k N1 N2 : Nat) (w : World) (h1 : Arr w x1 X r ch La g1 P1 Q1) (h2 : Arr w x2 Y r ch Lb g2 P2 Q2)
    (hX : shB X r = true) (hY : shB Y r = true) (hcX : itm X r = (La : Nat)) (hcY : itm Y r = (Lb : Nat)) (hk : k < r) (hne : ∀ a, a < r -> a ≠ k -> Y a = X a) (hN1 : (N1 : Int) = X k * stF X r k) (hN2 : (N2 : Int) = Y k * stF X r k) :
    Calls Tryz.prog 39 #[.agg x1, .agg x2, .int .i64 (k : Nat)] w fun e w' => MoTold (pkE (wiF X (k : Nat) (X k + Y k)) r) (wiF X (k : Nat) (X k + Y k)) r ch (La + Lb) (wvF N1 N2 g1 g2) (wvF N1 N2 P1 P2) (wvF N1 N2 Q1 Q2) w w' e := by
 obtain ⟨na1, nn1, nc1, ta1, tn1, tc1, hx1, _⟩ := h1.form
 subst hx1
 obtain ⟨na2, nn2, nc2, ta2, tn2, tc2, hx2, _⟩ := h2.form
 subst hx2
 have hr8 := (sh_ax hX).1
 have bX := ax_le4 hX hk
 have bY := ax_le4 hY hk
 obtain ⟨n, hn⟩ : ∃ n : Nat, X k = n := ⟨(X k).toNat, by omega⟩
 obtain ⟨m, hm⟩ : ∃ m : Nat, Y k = m := ⟨(Y k).toNat, by omega⟩
 obtain ⟨T, hT⟩ : ∃ f, wiF X (k : Nat) (X k + Y k) = f := ⟨_, rfl⟩
 have hTk : T k = ((n + m : Nat) : Int) := by rw [← hT, wi_at, hn, hm]; push_cast; rfl
 have hxT : ∀ a, a < r -> a ≠ k -> X a = T a := fun a _ ha => by rw [← hT, wi_off _ ha]
 have hyT : ∀ a, a < r -> a ≠ k -> Y a = T a := fun a ha hak => (hne a ha hak).trans (hxT a ha hak)
 obtain ⟨c1, c2⟩ := shf_congr hxT hk
 have est : stF X r k = stF T r k := itm_congr c2
 rw [hn, est] at hN1
 rw [hm, est] at hN2
 obtain ⟨B0, hB1, hB2, hL1, hL2, hLT⟩ := wv_len hk hTk hn hm hxT hyT (fun a ha => by have h9 := hxT a (by omega) (by omega); have := ax_le4 hX (show a < r by omega); omega) hN1 hN2
 have hB4 : B0 <= 4096 := by
  have := ax_bd (ax_le (show k <= r by omega) (sh_ax hX).2)
  omega
 have hX4 := ax_bd (sh_ax hX).2
 have hY4 := ax_bd (sh_ax hY).2
 have hLa : La = B0 * N1 := by rw [hcX] at hL1; exact_mod_cast hL1
 have hLb : Lb = B0 * N2 := by rw [hcY] at hL2; exact_mod_cast hL2
 have hLM : itm T r = ((La + Lb : Nat) : Int) := by rw [hLT, hLa, hLb, Nat.mul_add]
 have hT64 : In64 T r := fun a ha => by
  by_cases e : a = k
  · subst e; rw [hTk]; omega
  · have := ax_le4 hX ha; rw [← hxT a ha e]; omega
 obtain ⟨bE, hbE⟩ : ∃ b, shB T r = b := ⟨_, rfl⟩
 obtain ⟨E, hE⟩ : ∃ E, pkE T r = E := ⟨_, rfl⟩
 have HEB : Hid ((bE = true -> E = 0) /\ (bE = false -> E = 26)) := Lib.hid ⟨fun e => by rw [← hE]; unfold pkE; rw [hbE, e]; rfl, fun e => by rw [← hE]; unfold pkE; rw [hbE, e]; rfl⟩
 have hok : (shB T r && decide (itm T r = ((La + Lb : Nat) : Int))) = bE := by rw [hLM, decide_eq_true rfl, Bool.and_true, hbE]
 rw [hT, hE]
 obtain ⟨st1, hst1⟩ : ∃ s, stF X r k = s := ⟨_, rfl⟩
 obtain ⟨st2, hst2⟩ : ∃ s, stF Y r k = s := ⟨_, rfl⟩
 have SP1 : Hid (∀ a c wz, KRow wz .i64 a r c X -> Calls Tryz.prog 77 #[.slice a r c, .int .i64 (k : Nat)] wz fun e w' => e = .returned (.tuple #[.int .i64 (B0 : Nat), .int .i64 (n : Nat), .int .i64 st1, .bool true]) /\ Below wz.heap.size wz w') := Lib.hid (fun a c wz h => by
  have := split_any a r c X (k : Nat) wz h (fun j hj => by have := ax_le4 hX hj; omega)
  unfold SpTold at this
  have hs : spB X r ((k : Nat) : Int) = true := by unfold spB; rw [hX, decide_eq_true (show (0 : Int) <= k by omega), decide_eq_true (show (k : Int) < r by omega)]; rfl
  rw [hs, if_pos rfl, if_pos rfl, if_pos rfl, Int.toNat_natCast, hB1, hn, show itm (shf X (k + 1)) (r - (k + 1)) = st1 from hst1] at this
  exact this)
 have SP2 : Hid (∀ a c wz, KRow wz .i64 a r c Y -> Calls Tryz.prog 77 #[.slice a r c, .int .i64 (k : Nat)] wz fun e w' => e = .returned (.tuple #[.int .i64 (B0 : Nat), .int .i64 (m : Nat), .int .i64 st2, .bool true]) /\ Below wz.heap.size wz w') := Lib.hid (fun a c wz h => by
  have := split_any a r c Y (k : Nat) wz h (fun j hj => by have := ax_le4 hY hj; omega)
  unfold SpTold at this
  have hs : spB Y r ((k : Nat) : Int) = true := by unfold spB; rw [hY, decide_eq_true (show (0 : Int) <= k by omega), decide_eq_true (show (k : Int) < r by omega)]; rfl
  rw [hs, if_pos rfl, if_pos rfl, if_pos rfl, Int.toNat_natCast, hB2, hm, show itm (shf Y (k + 1)) (r - (k + 1)) = st2 from hst2] at this
  exact this)
 have WI : Hid (∀ a c wz, KRow wz .i64 a r c X -> Calls Tryz.prog 78 #[.slice a r c, .int .i64 (k : Nat), .int .i64 ((n : Int) + (m : Int))] wz fun e w' => ∃ a' c', e = .returned (.slice a' r c') /\ KRow w' .i64 a' r c' T /\ Below wz.heap.size wz w') := Lib.hid (fun a c wz h => by
  have := with_any a r c X (k : Nat) ((n : Int) + (m : Int)) wz h (by omega)
  rw [show wiF X ((k : Nat) : Int) ((n : Int) + (m : Int)) = T by rw [← hT, hn, hm]] at this
  exact this)
 have w1 := IntWalk.i64_in ((n : Int) + (m : Int)) (by omega)
 have H1 := Lib.hid h1
 have H2 := Lib.hid h2
 have SH1 := Lib.hid (fun wz h => shape8_any (arrC ch ((r : Int) - 1) (dm X r) na1 nn1 nc1 ta1 tn1 tc1) X r ch La g1 P1 Q1 wz h hr8)
 have SH2 := Lib.hid (fun wz h => shape8_any (arrC ch ((r : Int) - 1) (dm Y r) na2 nn2 nc2 ta2 tn2 tc2) Y r ch Lb g2 P2 Q2 wz h hr8)
 have IC := Lib.hid (fun wz => isChar_any ch ((r : Int) - 1) (dm X r) na1 nn1 nc1 ta1 tn1 tc1 wz)
 have BB0 := Lib.hid ((((Bag.start w).newRow (arrC ch ((r : Int) - 1) (dm X r) na1 nn1 nc1 ta1 tn1 tc1) 32).newRow (arrC ch ((r : Int) - 1) (dm Y r) na2 nn2 nc2 ta2 tn2 tc2) 32).newRow zerC 32)
 simp only [World.size_alloc] at BB0
 have BB := Lib.hid (show Bag w (fun y => Row y w.heap.size 32 (arrC ch ((r : Int) - 1) (dm X r) na1 nn1 nc1 ta1 tn1 tc1) /\ Row y (w.heap.size + 1) 32 (arrC ch ((r : Int) - 1) (dm Y r) na2 nn2 nc2 ta2 tn2 tc2) /\ Row y (w.heap.size + 1 + 1) 32 zerC /\ True) _ from ⟨BB0.out.below, fun a b hb ⟨q1, q2, q3, _⟩ => ⟨q1.below hb, q2.below hb, q3.below hb, trivial⟩, BB0.out.now.2.2.1, BB0.out.now.2.1, BB0.out.now.1, trivial⟩)
 have HR1 := Lib.hid BB.out.now.1
 clear h1 h2 BB0 hX hY hne hN1 hN2 hn hm hTk hxT hyT c1 c2 est hB1 hB2 hL1 hL2 hLT hT hbE hE hst1 hst2 bX bY
 have hpos : True := trivial
 have hLa4 : La <= 4096 := by omega
 have hLb4 : Lb <= 4096 := by omega
 clear hcX hcY hX4 hY4 hLM
 cases ch with
 | true =>
  have EL1 := Lib.hid (fun wz (h : Arr wz (arrC true ((r : Int) - 1) (dm X r) na1 nn1 nc1 ta1 tn1 tc1) X r true La g1 P1 Q1) => runes8_any h (by omega))
  have EL2 := Lib.hid (fun wz (h : Arr wz (arrC true ((r : Int) - 1) (dm Y r) na2 nn2 nc2 ta2 tn2 tc2) Y r true Lb g2 P2 Q2) => runes8_any h (by omega))
  have WV := Lib.hid (fun a c b d wz h1 h2 => wovenC_any a La c g1 b Lb d g2 B0 N1 N2 wz h1 h2 hLa hLb (by omega) (by omega) (by omega))
  have MK := Lib.hid (fun aT a c cT wz (kT : KRow wz .i64 aT r cT T) (kl : KRow wz .i32 a (La + Lb) c (wvF N1 N2 g1 g2)) => makeC_any (E := E) (bE := bE) (W1 := wvF N1 N2 g1 g2) (W2 := wvF N1 N2 P1 P2) (W3 := wvF N1 N2 Q1 Q2) kT hT64 kl (by omega) hok HEB.out)
  clear hLa hLb hT64 hok hpos
  unfold arrC
  go_enter Tryz.func39, Tryz.ntmps39
  go_wp2_with (refine ld_arr rfl (.tmp 3) rfl (w.heap.size) rfl HR1.out ?_)
  go_at_call 46
  (with_reducible refine (SH1.out _ ?_).mono ?_)
  · exact H1.out.below BB.out.below
  rintro e w2a ⟨a2, c2, rfl, hk2, hb2⟩
  have BB := Lib.hid (BB.out.go hb2)
  have HK := Lib.hid hk2
  have hl2 := hk2.len
  clear hk2 hb2
  go_wp2_with fail
  go_at_call 77
  (with_reducible refine (SP1.out _ _ _ HK.out).mono ?_)
  rintro e w2b ⟨rfl, hb3⟩
  have BB := Lib.hid (BB.out.go hb3)
  have HR1 := Lib.hid BB.out.now.1
  have HR2 := Lib.hid BB.out.now.2.1
  clear hb3 HK
  go_wp2_with (refine ld_arr rfl (.tmp 4) rfl (w.heap.size + 1) rfl HR2.out ?_)
  go_at_call 46
  (with_reducible refine (SH2.out _ ?_).mono ?_)
  · exact H2.out.below BB.out.below
  rintro e w4a ⟨a4, c4, rfl, hk4, hb4⟩
  have BB := Lib.hid (BB.out.go hb4)
  have HK := Lib.hid hk4
  have hl4 := hk4.len
  clear hk4 hb4
  go_wp2_with fail
  go_at_call 77
  (with_reducible refine (SP2.out _ _ _ HK.out).mono ?_)
  rintro e w4b ⟨rfl, hb5⟩
  have BB := Lib.hid (BB.out.go hb5)
  have HR1 := Lib.hid BB.out.now.1
  have HR2 := Lib.hid BB.out.now.2.1
  clear hb5 HK
  go_wp2_with (refine ld_arr rfl (.tmp 3) rfl (w.heap.size) rfl HR1.out ?_)
  go_at_call 46
  (with_reducible refine (SH1.out _ ?_).mono ?_)
  · exact H1.out.below BB.out.below
  rintro e w6a ⟨a6, c6, rfl, hk6, hb6⟩
  have BB := Lib.hid (BB.out.go hb6)
  have HK := Lib.hid hk6
  have hl6 := hk6.len
  clear hk6 hb6
  go_wp2_with fail
  go_at_call 78
  (with_reducible refine (WI.out _ _ _ HK.out).mono ?_)
  rintro e w7 ⟨aT, cT, rfl, hkT, hb7⟩
  have BB := Lib.hid (BB.out.go hb7)
  have HKT := Lib.hid hkT
  have hlT := hkT.len
  have hb17 : Below w7.heap.size w7 (w7.alloc (.cells zerC 32)) := (Below.refl _ _).alloc (Nat.le_refl _) _
  have HR1 := Lib.hid (BB.out.go hb17).now.1
  have BP0 : Hid (Bag w (BhP false (w.heap.size) (w.heap.size + 1) (w.heap.size + 1 + 1) w7.heap.size (arrC true ((r : Int) - 1) (dm X r) na1 nn1 nc1 ta1 tn1 tc1) (arrC true ((r : Int) - 1) (dm Y r) na2 nn2 nc2 ta2 tn2 tc2) aT r cT T) (w7.alloc (.cells zerC 32))) := Lib.hid ⟨(BB.out.go hb17).below, BhP.stay, (BB.out.go hb17).now.1, (BB.out.go hb17).now.2.1, (BB.out.go hb17).now.2.2.1, ⟨_, Row.new _ _ _, IsA.zer⟩, fun _ => hkT.below hb17⟩
  have hsz : w.heap.size + 1 + 1 < w7.heap.size := BB.out.now.2.2.1.lt
  unfold zerC at HR1 BP0
  unfold arrC at HR1 BP0
  clear hkT hb7 hb17 HK
  go_wp2_with (refine ld_arr rfl (.tmp 3) rfl (w.heap.size) rfl HR1.out ?_)
  go_at_call 58
  (with_reducible refine (IC.out _).mono ?_)
  rintro e Y3 ⟨rfl, hb8⟩
  have BP := BP0.out.go hb8
  obtain ⟨g17, hg17⟩ : ∃ n, w7.heap.size = n := ⟨_, rfl⟩
  rw [hg17] at hsz BP
  clear hb8 BP0 HR1 BB HKT
  go_wp2_with fail
  clear hg17
  refine wp_region_inv4 ⟨(fun j => ([[47], [48], [49], [50], [51], [52], [53], [54], [46], [55], [56], [], [18]] : List (List Nat)).getD j []), (fun j => ([[], [], [1], [], [1, 2, 3], [], [1, 2, 3, 4, 5], [0, 1, 2, 3, 4, 5, 6], [0, 1, 2, 3, 4, 5, 6, 7], [0, 1, 2, 3, 4, 5, 6, 7, 8], [0, 1, 2, 3, 4, 5, 6, 7, 8], [0, 1, 2, 3, 4, 5, 6, 7, 8, 9], [0, 1, 2, 3, 4, 5, 6, 7, 8, 9, 10, 11]] : List (List Nat)).getD j []), []⟩ (fun jj vv yy => match jj with | 0 => vv = [some (.slice aT r cT)] | 1 => vv = [some (.agg (arrC true ((r : Int) - 1) (dm X r) na1 nn1 nc1 ta1 tn1 tc1))] | 2 => ∃ (a2 : Option Addr), ∃ (c2 : Nat), vv = [some (.slice a2 La c2)] /\ KRow yy .i32 a2 La c2 g1 | 3 => vv = [some (.agg (arrC true ((r : Int) - 1) (dm Y r) na2 nn2 nc2 ta2 tn2 tc2))] | 4 => ∃ (a4 : Option Addr), ∃ (c4 : Nat), vv = [some (.slice a4 Lb c4)] /\ KRow yy .i32 a4 Lb c4 g2 | 5 => vv = [some (.int .i64 (B0 : Nat))] | 6 => ∃ (a6 : Option Addr), ∃ (c6 : Nat), vv = [some (.slice a6 (La + Lb) c6)] /\ KRow yy .i32 a6 (La + Lb) c6 (wvF N1 N2 g1 g2) | 7 => ∃ (x7 : Array Value), vv = [some (.tuple #[.agg x7, .bool bE])] /\ MoR yy x7 E T r true (La + Lb) (wvF N1 N2 g1 g2) (wvF N1 N2 P1 P2) (wvF N1 N2 Q1 Q2) /\ IsA x7 | 8 => ∃ (x7 : Array Value), vv = [some (.tuple #[.agg x7, .bool bE])] /\ MoR yy x7 E T r true (La + Lb) (wvF N1 N2 g1 g2) (wvF N1 N2 P1 P2) (wvF N1 N2 Q1 Q2) /\ IsA x7 | 9 => ∃ (x7 : Array Value), vv = [some (.agg x7)] /\ MoR yy x7 E T r true (La + Lb) (wvF N1 N2 g1 g2) (wvF N1 N2 P1 P2) (wvF N1 N2 Q1 Q2) /\ IsA x7 | 10 => vv = [some (.bool bE)] | 11 => ∃ (x7 : Array Value), Row yy (g17) 32 x7 /\ MoR yy x7 E T r true (La + Lb) (wvF N1 N2 g1 g2) (wvF N1 N2 P1 P2) (wvF N1 N2 Q1 Q2) /\ IsA x7 | 12 => vv = [some (.bool bE)] | _ => True) (fun f => Bag w (BhP (f 11) (w.heap.size) (w.heap.size + 1) (w.heap.size + 1 + 1) g17 (arrC true ((r : Int) - 1) (dm X r) na1 nn1 nc1 ta1 tn1 tc1) (arrC true ((r : Int) - 1) (dm Y r) na2 nn2 nc2 ta2 tn2 tc2) aT r cT T)) (by kernel_rfl) (by kernel_rfl) (by kernel_rfl) BP.drew ?_ ?_ ?_
  · intro jj vv yw yw2 hb h
    match jj, h with
    | 0, h => exact h
    | 1, h => exact h
    | 2, ⟨a2, c2, e2, g2_0⟩ => exact Exists.intro a2 (Exists.intro c2 (And.intro e2 (g2_0.below hb)))
    | 3, h => exact h
    | 4, ⟨a4, c4, e4, g4_0⟩ => exact Exists.intro a4 (Exists.intro c4 (And.intro e4 (g4_0.below hb)))
    | 5, h => exact h
    | 6, ⟨a6, c6, e6, g6_0⟩ => exact Exists.intro a6 (Exists.intro c6 (And.intro e6 (g6_0.below hb)))
    | 7, ⟨x7, e7, g7_0, g7_1⟩ => exact Exists.intro x7 (And.intro e7 (And.intro (g7_0.below hb) g7_1))
    | 8, ⟨x7, e8, g8_0, g8_1⟩ => exact Exists.intro x7 (And.intro e8 (And.intro (g8_0.below hb) g8_1))
    | 9, ⟨x7, e9, g9_0, g9_1⟩ => exact Exists.intro x7 (And.intro e9 (And.intro (g9_0.below hb) g9_1))
    | 10, h => exact h
    | 11, ⟨x7, g11_0, g11_1, g11_2⟩ => exact Exists.intro x7 (And.intro (g11_0.below hb) (And.intro (g11_1.below hb) g11_2))
    | 12, h => exact h
    | _ + 13, h => exact h
  · intro ac yw hsz hdf hold hB hp
    obtain ⟨x7, r17, m7, i7⟩ := hp 11 (by decide)
    have t18 : ac.tmps[18]? = some (.bool bE) := (List.cons.inj (hp 12 (by decide))).1
    have t6 : ac.tmps[6]? = some (.pointer (some ⟨w.heap.size + 1 + 1, 0, none⟩)) := hold 6 (by kernel_rfl)
    have t17 : ac.tmps[17]? = some (.pointer (some ⟨g17, 0, none⟩)) := hold 17 (by kernel_rfl)
    have HX := Lib.hid r17
    have HM := Lib.hid m7
    have HI := Lib.hid i7
    have HZ := Lib.hid hB.now.2.2.1
    have HBW := Lib.hid hB.below
    have HLT := Lib.hid hB.now.2.2.1.lt
    clear hold hp r17 m7 i7 hB
    obtain ⟨TZ, hTZ⟩ : ∃ TZ : Nat -> Value, ∀ i, (ac.tmps[i]?).getD undef = TZ i := ⟨_, fun _ => rfl⟩
    have f6 := (hTZ 6).symm.trans (congrArg (fun x => Option.getD x undef) t6)
    have f17 := (hTZ 17).symm.trans (congrArg (fun x => Option.getD x undef) t17)
    have f18 := (hTZ 18).symm.trans (congrArg (fun x => Option.getD x undef) t18)
    have hac := act_eq (n := 72) hsz TZ hTZ
    rw [show ((List.range 72).map TZ).toArray = #[TZ 0, TZ 1, TZ 2, TZ 3, TZ 4, TZ 5, TZ 6, TZ 7, TZ 8, TZ 9, TZ 10, TZ 11, TZ 12, TZ 13, TZ 14, TZ 15, TZ 16, TZ 17, TZ 18, TZ 19, TZ 20, TZ 21, TZ 22, TZ 23, TZ 24, TZ 25, TZ 26, TZ 27, TZ 28, TZ 29, TZ 30, TZ 31, TZ 32, TZ 33, TZ 34, TZ 35, TZ 36, TZ 37, TZ 38, TZ 39, TZ 40, TZ 41, TZ 42, TZ 43, TZ 44, TZ 45, TZ 46, TZ 47, TZ 48, TZ 49, TZ 50, TZ 51, TZ 52, TZ 53, TZ 54, TZ 55, TZ 56, TZ 57, TZ 58, TZ 59, TZ 60, TZ 61, TZ 62, TZ 63, TZ 64, TZ 65, TZ 66, TZ 67, TZ 68, TZ 69, TZ 70, TZ 71] from rfl, f6, f17, f18, hdf] at hac
    simp only [Option.getD_some] at hac
    subst hac
    clear hTZ f6 f17 f18
    cases bE with
    | true =>
     obtain rfl := HEB.out.1 rfl
     have HA := Lib.hid (HM.out.2.1 rfl)
     obtain ⟨n8, m8, d8, u8, v8, z8, hx8, _⟩ := HA.out.form
     subst hx8
     have HE := Lib.hid (MoTold.yes (HA.out.put HZ.out (arrC true ((r : Int) - 1) (dm T r) n8 m8 d8 u8 v8 z8)) (below_put HBW.out (show w.heap.size <= w.heap.size + 1 + 1 by omega) (arrC true ((r : Int) - 1) (dm T r) n8 m8 d8 u8 v8 z8)))
     clear HM HI HEB
     unfold arrC at HX HE
     go_wp2_with (first
      | (refine ld_arr rfl (.tmp 17) rfl g17 rfl HX.out ?_)
      | (refine st_arr rfl (.tmp 6) (.tmp 71) rfl (w.heap.size + 1 + 1) rfl _ _ _ _ _ _ _ _ _ rfl HZ.out rfl ?_))
     exact bodyPost_ret (res_arr2 Tryz.results39 rfl rfl (HZ.out.put _) rfl) rfl HE.out
    | false =>
     obtain rfl := HEB.out.2 rfl
     have HE := Lib.hid (MoTold.no (S := T) (r := r) (ch := true) (L := La + Lb) (g := wvF N1 N2 g1 g2) (fP := wvF N1 N2 P1 P2) (fQ := wvF N1 N2 Q1 Q2) (E := 26) (by decide) (below_put HBW.out (show w.heap.size <= w.heap.size + 1 + 1 by omega) zerC))
     clear HM HI HEB HX
     go_wp2_with (refine st_arr rfl (.tmp 6) (.tmp 70) rfl (w.heap.size + 1 + 1) rfl false 0 (fun _ => 0) none 0 0 none 0 0 rfl HZ.out rfl ?_)
     exact bodyPost_ret (res_arr2 Tryz.results39 rfl rfl (HZ.out.put _) rfl) rfl HE.out
  refine Stps4.cons (o := _) ?_ ?_
  · intro f ac yw hsz hold hB hp hf K hK
    have t16 : ac.tmps[16]? = some (.slice aT r cT) := hold 16 (by kernel_rfl)
    clear hold hp hsz hf
    go_simp
    exact hK.out _ _ ⟨hB, rfl, Nat.le_refl _, .inl (Below.refl _ _), fun h => absurd h (by decide)⟩
  refine Stps4.cons (o := _) ?_ ?_
  · intro f ac yw hsz hold hB hp hf K hK
    have t3 : ac.tmps[3]? = some (.pointer (some ⟨w.heap.size, 0, none⟩)) := hold 3 (by kernel_rfl)
    clear hold hp hsz
    rw [if_pos (by rfl)]
    refine ld8 3 rfl (w.heap.size) ((arrC true ((r : Int) - 1) (dm X r) na1 nn1 nc1 ta1 tn1 tc1)) t3 (hB.now.1) (rfl) ?_
    exact hK.out _ _ ⟨hB, rfl, Nat.le_refl _, .inl (Below.refl _ _), fun h => absurd h (by decide)⟩
  refine Stps4.cons (o := _) ?_ ?_
  · intro f ac yw hsz hold hB hp hf K hK
    have e1 := hp 1 (by decide)
    have t48 : ac.tmps[48]? = some (.agg (arrC true ((r : Int) - 1) (dm X r) na1 nn1 nc1 ta1 tn1 tc1)) := (List.cons.inj e1).1
    clear hold hp hsz hf e1
    go_simp
    (go_at_call 61; (refine (EL1.out _ (H1.out.below hB.below)).mono ?_); rintro e wz ⟨a2, c2, rfl, h2_0, hbz⟩)
    exact hK.out _ _ ⟨hB.go hbz, Exists.intro a2 (Exists.intro c2 (And.intro rfl h2_0)), hbz.size, .inl hbz, fun h => absurd h (by decide)⟩
  refine Stps4.cons (o := _) ?_ ?_
  · intro f ac yw hsz hold hB hp hf K hK
    have t4 : ac.tmps[4]? = some (.pointer (some ⟨w.heap.size + 1, 0, none⟩)) := hold 4 (by kernel_rfl)
    clear hold hp hsz
    rw [if_pos (by rfl)]
    refine ld8 4 rfl (w.heap.size + 1) ((arrC true ((r : Int) - 1) (dm Y r) na2 nn2 nc2 ta2 tn2 tc2)) t4 (hB.now.2.1) (rfl) ?_
    exact hK.out _ _ ⟨hB, rfl, Nat.le_refl _, .inl (Below.refl _ _), fun h => absurd h (by decide)⟩
  refine Stps4.cons (o := _) ?_ ?_
  · intro f ac yw hsz hold hB hp hf K hK
    have e3 := hp 3 (by decide)
    have t50 : ac.tmps[50]? = some (.agg (arrC true ((r : Int) - 1) (dm Y r) na2 nn2 nc2 ta2 tn2 tc2)) := (List.cons.inj e3).1
    clear hold hp hsz hf e3
    go_simp
    (go_at_call 61; (refine (EL2.out _ (H2.out.below hB.below)).mono ?_); rintro e wz ⟨a4, c4, rfl, h4_0, hbz⟩)
    exact hK.out _ _ ⟨hB.go hbz, Exists.intro a4 (Exists.intro c4 (And.intro rfl h4_0)), hbz.size, .inl hbz, fun h => absurd h (by decide)⟩
  refine Stps4.cons (o := _) ?_ ?_
  · intro f ac yw hsz hold hB hp hf K hK
    have t8 : ac.tmps[8]? = some (.int .i64 (B0 : Nat)) := hold 8 (by kernel_rfl)
    clear hold hp hsz hf
    go_simp
    exact hK.out _ _ ⟨hB, rfl, Nat.le_refl _, .inl (Below.refl _ _), fun h => absurd h (by decide)⟩
  refine Stps4.cons (o := _) ?_ ?_
  · intro f ac yw hsz hold hB hp hf K hK
    obtain ⟨a2_2, c2_2, e2, g2_0⟩ := hp 2 (by decide)
    have t49 : ac.tmps[49]? = some (.slice a2_2 La c2_2) := (List.cons.inj e2).1
    obtain ⟨a4_4, c4_4, e4, g4_0⟩ := hp 4 (by decide)
    have t51 : ac.tmps[51]? = some (.slice a4_4 Lb c4_4) := (List.cons.inj e4).1
    have e5 := hp 5 (by decide)
    have t52 : ac.tmps[52]? = some (.int .i64 (B0 : Nat)) := (List.cons.inj e5).1
    clear hold hp hsz hf e2 e4 e5
    go_simp
    (go_at_call 79; (refine (WV.out _ _ _ _ _ g2_0 g4_0).mono ?_); rintro e wz ⟨a6, c6, rfl, h6_0, hbz⟩)
    exact hK.out _ _ ⟨hB.go hbz, Exists.intro a6 (Exists.intro c6 (And.intro rfl h6_0)), hbz.size, .inl hbz, fun h => absurd h (by decide)⟩
  refine Stps4.cons (o := _) ?_ ?_
  · intro f ac yw hsz hold hB hp hf K hK
    have e0 := hp 0 (by decide)
    have t47 : ac.tmps[47]? = some (.slice aT r cT) := (List.cons.inj e0).1
    obtain ⟨a6_6, c6_6, e6, g6_0⟩ := hp 6 (by decide)
    have t53 : ac.tmps[53]? = some (.slice a6_6 (La + Lb) c6_6) := (List.cons.inj e6).1
    clear hold hp hsz e0 e6
    go_simp
    (go_at_call 59; (refine (MK.out _ _ _ _ _ (hB.now.2.2.2.2 (hf 11 (by decide))) g6_0).mono ?_); rintro e wz ⟨x7, rfl, h7_0, hbz⟩)
    exact hK.out _ _ ⟨hB.go hbz, Exists.intro x7 (And.intro rfl (And.intro h7_0 h7_0.1)), hbz.size, .inl hbz, fun h => absurd h (by decide)⟩
  refine Stps4.cons (o := _) ?_ ?_
  · intro f ac yw hsz hold hB hp hf K hK
    obtain ⟨x7_7, e7, g7_0, g7_1⟩ := hp 7 (by decide)
    have t54 : ac.tmps[54]? = some (.tuple #[.agg x7_7, .bool bE]) := (List.cons.inj e7).1
    clear hold hp hsz hf e7
    go_simp
    exact hK.out _ _ ⟨hB, Exists.intro x7_7 (And.intro rfl (And.intro g7_0 g7_1)), Nat.le_refl _, .inl (Below.refl _ _), fun h => absurd h (by decide)⟩
  refine Stps4.cons (o := _) ?_ ?_
  · intro f ac yw hsz hold hB hp hf K hK
    obtain ⟨x7_8, e8, g8_0, g8_1⟩ := hp 8 (by decide)
    have t46 : ac.tmps[46]? = some (.tuple #[.agg x7_8, .bool bE]) := (List.cons.inj e8).1
    clear hold hp hsz hf e8
    go_simp
    exact hK.out _ _ ⟨hB, Exists.intro x7_8 (And.intro rfl (And.intro g8_0 g8_1)), Nat.le_refl _, .inl (Below.refl _ _), fun h => absurd h (by decide)⟩
  refine Stps4.cons (o := _) ?_ ?_
  · intro f ac yw hsz hold hB hp hf K hK
    obtain ⟨x7_8, e8, g8_0, g8_1⟩ := hp 8 (by decide)
    have t46 : ac.tmps[46]? = some (.tuple #[.agg x7_8, .bool bE]) := (List.cons.inj e8).1
    clear hold hp hsz hf e8
    go_simp
    exact hK.out _ _ ⟨hB, rfl, Nat.le_refl _, .inl (Below.refl _ _), fun h => absurd h (by decide)⟩
  refine Stps4.cons (o := _) ?_ ?_
  · intro f ac yw hsz hold hB hp hf K hK
    obtain ⟨x7_9, e9, g9_0, g9_1⟩ := hp 9 (by decide)
    have t55 : ac.tmps[55]? = some (.agg x7_9) := (List.cons.inj e9).1
    have t17 : ac.tmps[17]? = some (.pointer (some ⟨g17, 0, none⟩)) := hold 17 (by kernel_rfl)
    clear hold hp hsz hf e9
    rw [if_pos (by rfl)]
    obtain ⟨zz, hz, iz⟩ := hB.now.2.2.2.1
    have HB := BhP.put hB (by omega) (by omega) (by omega) (by omega) (x7_9) g9_1
    refine st8 17 55 rfl (g17) x7_9 t17 t55 _ zz hz iz g9_1 ?_
    refine hK.out undef _ ⟨HB, Exists.intro x7_9 (And.intro (hz.put _) (And.intro (g9_0.store hz iz _) g9_1)), by simp [World.setRow], .inr ?_, fun h => absurd h (by decide)⟩
    intro jj hj hap h
    match jj, h with
    | 0, h => exact h
    | 1, h => exact h
    | 2, ⟨a2, c2, e2, g2_0⟩ => exact Exists.intro a2 (Exists.intro c2 (And.intro e2 (KRow.storeA g2_0 (by decide) hz iz _)))
    | 3, h => exact h
    | 4, ⟨a4, c4, e4, g4_0⟩ => exact Exists.intro a4 (Exists.intro c4 (And.intro e4 (KRow.storeA g4_0 (by decide) hz iz _)))
    | 5, h => exact h
    | 6, ⟨a6, c6, e6, g6_0⟩ => exact Exists.intro a6 (Exists.intro c6 (And.intro e6 (KRow.storeA g6_0 (by decide) hz iz _)))
    | 7, ⟨x7, e7, g7_0, g7_1⟩ => exact Exists.intro x7 (And.intro e7 (And.intro (g7_0.store hz iz _) g7_1))
    | 8, ⟨x7, e8, g8_0, g8_1⟩ => exact Exists.intro x7 (And.intro e8 (And.intro (g8_0.store hz iz _) g8_1))
    | 9, ⟨x7, e9, g9_0, g9_1⟩ => exact Exists.intro x7 (And.intro e9 (And.intro (g9_0.store hz iz _) g9_1))
    | 10, h => exact h
    | 11, _ => exact absurd rfl hj
    | 12, h => exact h
    | _ + 13, h => exact h
  refine Stps4.cons (o := _) ?_ ?_
  · intro f ac yw hsz hold hB hp hf K hK
    have e10 := hp 10 (by decide)
    have t56 : ac.tmps[56]? = some (.bool bE) := (List.cons.inj e10).1
    clear hold hp hsz hf e10
    go_simp
    exact hK.out _ _ ⟨hB, rfl, Nat.le_refl _, .inl (Below.refl _ _), fun h => absurd h (by decide)⟩
  exact Stps4.nil _
 | false =>
  have EL1 := Lib.hid (fun wz (h : Arr wz (arrC false ((r : Int) - 1) (dm X r) na1 nn1 nc1 ta1 tn1 tc1) X r false La g1 P1 Q1) => rats8_any h (by omega))
  have EL2 := Lib.hid (fun wz (h : Arr wz (arrC false ((r : Int) - 1) (dm Y r) na2 nn2 nc2 ta2 tn2 tc2) Y r false Lb g2 P2 Q2) => rats8_any h (by omega))
  have WV := Lib.hid (fun a c b d wz h1 h2 => wovenR_any a La c P1 Q1 b Lb d P2 Q2 B0 N1 N2 wz h1 h2 hLa hLb (by omega) (by omega) (by omega))
  have MK := Lib.hid (fun aT a c cT wz (kT : KRow wz .i64 aT r cT T) (kl : RRow wz a (La + Lb) c (wvF N1 N2 P1 P2) (wvF N1 N2 Q1 Q2)) => makeR_any (E := E) (bE := bE) (W1 := wvF N1 N2 g1 g2) (W2 := wvF N1 N2 P1 P2) (W3 := wvF N1 N2 Q1 Q2) kT hT64 kl (by omega) hok HEB.out)
  clear hLa hLb hT64 hok hpos
  unfold arrC
  go_enter Tryz.func39, Tryz.ntmps39
  go_wp2_with (refine ld_arr rfl (.tmp 3) rfl (w.heap.size) rfl HR1.out ?_)
  go_at_call 46
  (with_reducible refine (SH1.out _ ?_).mono ?_)
  · exact H1.out.below BB.out.below
  rintro e w2a ⟨a2, c2, rfl, hk2, hb2⟩
  have BB := Lib.hid (BB.out.go hb2)
  have HK := Lib.hid hk2
  have hl2 := hk2.len
  clear hk2 hb2
  go_wp2_with fail
  go_at_call 77
  (with_reducible refine (SP1.out _ _ _ HK.out).mono ?_)
  rintro e w2b ⟨rfl, hb3⟩
  have BB := Lib.hid (BB.out.go hb3)
  have HR1 := Lib.hid BB.out.now.1
  have HR2 := Lib.hid BB.out.now.2.1
  clear hb3 HK
  go_wp2_with (refine ld_arr rfl (.tmp 4) rfl (w.heap.size + 1) rfl HR2.out ?_)
  go_at_call 46
  (with_reducible refine (SH2.out _ ?_).mono ?_)
  · exact H2.out.below BB.out.below
  rintro e w4a ⟨a4, c4, rfl, hk4, hb4⟩
  have BB := Lib.hid (BB.out.go hb4)
  have HK := Lib.hid hk4
  have hl4 := hk4.len
  clear hk4 hb4
  go_wp2_with fail
  go_at_call 77
  (with_reducible refine (SP2.out _ _ _ HK.out).mono ?_)
  rintro e w4b ⟨rfl, hb5⟩
  have BB := Lib.hid (BB.out.go hb5)
  have HR1 := Lib.hid BB.out.now.1
  have HR2 := Lib.hid BB.out.now.2.1
  clear hb5 HK
  go_wp2_with (refine ld_arr rfl (.tmp 3) rfl (w.heap.size) rfl HR1.out ?_)
  go_at_call 46
  (with_reducible refine (SH1.out _ ?_).mono ?_)
  · exact H1.out.below BB.out.below
  rintro e w6a ⟨a6, c6, rfl, hk6, hb6⟩
  have BB := Lib.hid (BB.out.go hb6)
  have HK := Lib.hid hk6
  have hl6 := hk6.len
  clear hk6 hb6
  go_wp2_with fail
  go_at_call 78
  (with_reducible refine (WI.out _ _ _ HK.out).mono ?_)
  rintro e w7 ⟨aT, cT, rfl, hkT, hb7⟩
  have BB := Lib.hid (BB.out.go hb7)
  have HKT := Lib.hid hkT
  have hlT := hkT.len
  have hb17 : Below w7.heap.size w7 (w7.alloc (.cells zerC 32)) := (Below.refl _ _).alloc (Nat.le_refl _) _
  have HR1 := Lib.hid (BB.out.go hb17).now.1
  have BP0 : Hid (Bag w (BhP false (w.heap.size) (w.heap.size + 1) (w.heap.size + 1 + 1) w7.heap.size (arrC false ((r : Int) - 1) (dm X r) na1 nn1 nc1 ta1 tn1 tc1) (arrC false ((r : Int) - 1) (dm Y r) na2 nn2 nc2 ta2 tn2 tc2) aT r cT T) (w7.alloc (.cells zerC 32))) := Lib.hid ⟨(BB.out.go hb17).below, BhP.stay, (BB.out.go hb17).now.1, (BB.out.go hb17).now.2.1, (BB.out.go hb17).now.2.2.1, ⟨_, Row.new _ _ _, IsA.zer⟩, fun _ => hkT.below hb17⟩
  have hsz : w.heap.size + 1 + 1 < w7.heap.size := BB.out.now.2.2.1.lt
  unfold zerC at HR1 BP0
  unfold arrC at HR1 BP0
  clear hkT hb7 hb17 HK
  go_wp2_with (refine ld_arr rfl (.tmp 3) rfl (w.heap.size) rfl HR1.out ?_)
  go_at_call 58
  (with_reducible refine (IC.out _).mono ?_)
  rintro e Y3 ⟨rfl, hb8⟩
  have BP := BP0.out.go hb8
  obtain ⟨g17, hg17⟩ : ∃ n, w7.heap.size = n := ⟨_, rfl⟩
  rw [hg17] at hsz BP
  clear hb8 BP0 HR1 BB HKT
  go_wp2_with fail
  clear hg17
  refine wp_region_inv4 ⟨(fun j => ([[58], [59], [60], [61], [62], [63], [64], [65], [57], [66], [67], [], [18]] : List (List Nat)).getD j []), (fun j => ([[], [], [1], [], [1, 2, 3], [], [1, 2, 3, 4, 5], [0, 1, 2, 3, 4, 5, 6], [0, 1, 2, 3, 4, 5, 6, 7], [0, 1, 2, 3, 4, 5, 6, 7, 8], [0, 1, 2, 3, 4, 5, 6, 7, 8], [0, 1, 2, 3, 4, 5, 6, 7, 8, 9], [0, 1, 2, 3, 4, 5, 6, 7, 8, 9, 10, 11]] : List (List Nat)).getD j []), []⟩ (fun jj vv yy => match jj with | 0 => vv = [some (.slice aT r cT)] | 1 => vv = [some (.agg (arrC false ((r : Int) - 1) (dm X r) na1 nn1 nc1 ta1 tn1 tc1))] | 2 => ∃ (a2 : Option Addr), ∃ (c2 : Nat), vv = [some (.slice a2 La c2)] /\ RRow yy a2 La c2 P1 Q1 | 3 => vv = [some (.agg (arrC false ((r : Int) - 1) (dm Y r) na2 nn2 nc2 ta2 tn2 tc2))] | 4 => ∃ (a4 : Option Addr), ∃ (c4 : Nat), vv = [some (.slice a4 Lb c4)] /\ RRow yy a4 Lb c4 P2 Q2 | 5 => vv = [some (.int .i64 (B0 : Nat))] | 6 => ∃ (a6 : Option Addr), ∃ (c6 : Nat), vv = [some (.slice a6 (La + Lb) c6)] /\ RRow yy a6 (La + Lb) c6 (wvF N1 N2 P1 P2) (wvF N1 N2 Q1 Q2) | 7 => ∃ (x7 : Array Value), vv = [some (.tuple #[.agg x7, .bool bE])] /\ MoR yy x7 E T r false (La + Lb) (wvF N1 N2 g1 g2) (wvF N1 N2 P1 P2) (wvF N1 N2 Q1 Q2) /\ IsA x7 | 8 => ∃ (x7 : Array Value), vv = [some (.tuple #[.agg x7, .bool bE])] /\ MoR yy x7 E T r false (La + Lb) (wvF N1 N2 g1 g2) (wvF N1 N2 P1 P2) (wvF N1 N2 Q1 Q2) /\ IsA x7 | 9 => ∃ (x7 : Array Value), vv = [some (.agg x7)] /\ MoR yy x7 E T r false (La + Lb) (wvF N1 N2 g1 g2) (wvF N1 N2 P1 P2) (wvF N1 N2 Q1 Q2) /\ IsA x7 | 10 => vv = [some (.bool bE)] | 11 => ∃ (x7 : Array Value), Row yy (g17) 32 x7 /\ MoR yy x7 E T r false (La + Lb) (wvF N1 N2 g1 g2) (wvF N1 N2 P1 P2) (wvF N1 N2 Q1 Q2) /\ IsA x7 | 12 => vv = [some (.bool bE)] | _ => True) (fun f => Bag w (BhP (f 11) (w.heap.size) (w.heap.size + 1) (w.heap.size + 1 + 1) g17 (arrC false ((r : Int) - 1) (dm X r) na1 nn1 nc1 ta1 tn1 tc1) (arrC false ((r : Int) - 1) (dm Y r) na2 nn2 nc2 ta2 tn2 tc2) aT r cT T)) (by kernel_rfl) (by kernel_rfl) (by kernel_rfl) BP.drew ?_ ?_ ?_
  · intro jj vv yw yw2 hb h
    match jj, h with
    | 0, h => exact h
    | 1, h => exact h
    | 2, ⟨a2, c2, e2, g2_0⟩ => exact Exists.intro a2 (Exists.intro c2 (And.intro e2 (g2_0.below hb)))
    | 3, h => exact h
    | 4, ⟨a4, c4, e4, g4_0⟩ => exact Exists.intro a4 (Exists.intro c4 (And.intro e4 (g4_0.below hb)))
    | 5, h => exact h
    | 6, ⟨a6, c6, e6, g6_0⟩ => exact Exists.intro a6 (Exists.intro c6 (And.intro e6 (g6_0.below hb)))
    | 7, ⟨x7, e7, g7_0, g7_1⟩ => exact Exists.intro x7 (And.intro e7 (And.intro (g7_0.below hb) g7_1))
    | 8, ⟨x7, e8, g8_0, g8_1⟩ => exact Exists.intro x7 (And.intro e8 (And.intro (g8_0.below hb) g8_1))
    | 9, ⟨x7, e9, g9_0, g9_1⟩ => exact Exists.intro x7 (And.intro e9 (And.intro (g9_0.below hb) g9_1))
    | 10, h => exact h
    | 11, ⟨x7, g11_0, g11_1, g11_2⟩ => exact Exists.intro x7 (And.intro (g11_0.below hb) (And.intro (g11_1.below hb) g11_2))
    | 12, h => exact h
    | _ + 13, h => exact h
  · intro ac yw hsz hdf hold hB hp
    obtain ⟨x7, r17, m7, i7⟩ := hp 11 (by decide)
    have t18 : ac.tmps[18]? = some (.bool bE) := (List.cons.inj (hp 12 (by decide))).1
    have t6 : ac.tmps[6]? = some (.pointer (some ⟨w.heap.size + 1 + 1, 0, none⟩)) := hold 6 (by kernel_rfl)
    have t17 : ac.tmps[17]? = some (.pointer (some ⟨g17, 0, none⟩)) := hold 17 (by kernel_rfl)
    have HX := Lib.hid r17
    have HM := Lib.hid m7
    have HI := Lib.hid i7
    have HZ := Lib.hid hB.now.2.2.1
    have HBW := Lib.hid hB.below
    have HLT := Lib.hid hB.now.2.2.1.lt
    clear hold hp r17 m7 i7 hB
    obtain ⟨TZ, hTZ⟩ : ∃ TZ : Nat -> Value, ∀ i, (ac.tmps[i]?).getD undef = TZ i := ⟨_, fun _ => rfl⟩
    have f6 := (hTZ 6).symm.trans (congrArg (fun x => Option.getD x undef) t6)
    have f17 := (hTZ 17).symm.trans (congrArg (fun x => Option.getD x undef) t17)
    have f18 := (hTZ 18).symm.trans (congrArg (fun x => Option.getD x undef) t18)
    have hac := act_eq (n := 72) hsz TZ hTZ
    rw [show ((List.range 72).map TZ).toArray = #[TZ 0, TZ 1, TZ 2, TZ 3, TZ 4, TZ 5, TZ 6, TZ 7, TZ 8, TZ 9, TZ 10, TZ 11, TZ 12, TZ 13, TZ 14, TZ 15, TZ 16, TZ 17, TZ 18, TZ 19, TZ 20, TZ 21, TZ 22, TZ 23, TZ 24, TZ 25, TZ 26, TZ 27, TZ 28, TZ 29, TZ 30, TZ 31, TZ 32, TZ 33, TZ 34, TZ 35, TZ 36, TZ 37, TZ 38, TZ 39, TZ 40, TZ 41, TZ 42, TZ 43, TZ 44, TZ 45, TZ 46, TZ 47, TZ 48, TZ 49, TZ 50, TZ 51, TZ 52, TZ 53, TZ 54, TZ 55, TZ 56, TZ 57, TZ 58, TZ 59, TZ 60, TZ 61, TZ 62, TZ 63, TZ 64, TZ 65, TZ 66, TZ 67, TZ 68, TZ 69, TZ 70, TZ 71] from rfl, f6, f17, f18, hdf] at hac
    simp only [Option.getD_some] at hac
    subst hac
    clear hTZ f6 f17 f18
    cases bE with
    | true =>
     obtain rfl := HEB.out.1 rfl
     have HA := Lib.hid (HM.out.2.1 rfl)
     obtain ⟨n8, m8, d8, u8, v8, z8, hx8, _⟩ := HA.out.form
     subst hx8
     have HE := Lib.hid (MoTold.yes (HA.out.put HZ.out (arrC false ((r : Int) - 1) (dm T r) n8 m8 d8 u8 v8 z8)) (below_put HBW.out (show w.heap.size <= w.heap.size + 1 + 1 by omega) (arrC false ((r : Int) - 1) (dm T r) n8 m8 d8 u8 v8 z8)))
     clear HM HI HEB
     unfold arrC at HX HE
     go_wp2_with (first
      | (refine ld_arr rfl (.tmp 17) rfl g17 rfl HX.out ?_)
      | (refine st_arr rfl (.tmp 6) (.tmp 71) rfl (w.heap.size + 1 + 1) rfl _ _ _ _ _ _ _ _ _ rfl HZ.out rfl ?_))
     exact bodyPost_ret (res_arr2 Tryz.results39 rfl rfl (HZ.out.put _) rfl) rfl HE.out
    | false =>
     obtain rfl := HEB.out.2 rfl
     have HE := Lib.hid (MoTold.no (S := T) (r := r) (ch := false) (L := La + Lb) (g := wvF N1 N2 g1 g2) (fP := wvF N1 N2 P1 P2) (fQ := wvF N1 N2 Q1 Q2) (E := 26) (by decide) (below_put HBW.out (show w.heap.size <= w.heap.size + 1 + 1 by omega) zerC))
     clear HM HI HEB HX
     go_wp2_with (refine st_arr rfl (.tmp 6) (.tmp 70) rfl (w.heap.size + 1 + 1) rfl false 0 (fun _ => 0) none 0 0 none 0 0 rfl HZ.out rfl ?_)
     exact bodyPost_ret (res_arr2 Tryz.results39 rfl rfl (HZ.out.put _) rfl) rfl HE.out
  refine Stps4.cons (o := _) ?_ ?_
  · intro f ac yw hsz hold hB hp hf K hK
    have t16 : ac.tmps[16]? = some (.slice aT r cT) := hold 16 (by kernel_rfl)
    clear hold hp hsz hf
    go_simp
    exact hK.out _ _ ⟨hB, rfl, Nat.le_refl _, .inl (Below.refl _ _), fun h => absurd h (by decide)⟩
  refine Stps4.cons (o := _) ?_ ?_
  · intro f ac yw hsz hold hB hp hf K hK
    have t3 : ac.tmps[3]? = some (.pointer (some ⟨w.heap.size, 0, none⟩)) := hold 3 (by kernel_rfl)
    clear hold hp hsz
    rw [if_pos (by rfl)]
    refine ld8 3 rfl (w.heap.size) ((arrC false ((r : Int) - 1) (dm X r) na1 nn1 nc1 ta1 tn1 tc1)) t3 (hB.now.1) (rfl) ?_
    exact hK.out _ _ ⟨hB, rfl, Nat.le_refl _, .inl (Below.refl _ _), fun h => absurd h (by decide)⟩
  refine Stps4.cons (o := _) ?_ ?_
  · intro f ac yw hsz hold hB hp hf K hK
    have e1 := hp 1 (by decide)
    have t59 : ac.tmps[59]? = some (.agg (arrC false ((r : Int) - 1) (dm X r) na1 nn1 nc1 ta1 tn1 tc1)) := (List.cons.inj e1).1
    clear hold hp hsz hf e1
    go_simp
    (go_at_call 64; (refine (EL1.out _ (H1.out.below hB.below)).mono ?_); rintro e wz ⟨a2, c2, rfl, h2_0, hbz⟩)
    exact hK.out _ _ ⟨hB.go hbz, Exists.intro a2 (Exists.intro c2 (And.intro rfl h2_0)), hbz.size, .inl hbz, fun h => absurd h (by decide)⟩
  refine Stps4.cons (o := _) ?_ ?_
  · intro f ac yw hsz hold hB hp hf K hK
    have t4 : ac.tmps[4]? = some (.pointer (some ⟨w.heap.size + 1, 0, none⟩)) := hold 4 (by kernel_rfl)
    clear hold hp hsz
    rw [if_pos (by rfl)]
    refine ld8 4 rfl (w.heap.size + 1) ((arrC false ((r : Int) - 1) (dm Y r) na2 nn2 nc2 ta2 tn2 tc2)) t4 (hB.now.2.1) (rfl) ?_
    exact hK.out _ _ ⟨hB, rfl, Nat.le_refl _, .inl (Below.refl _ _), fun h => absurd h (by decide)⟩
  refine Stps4.cons (o := _) ?_ ?_
  · intro f ac yw hsz hold hB hp hf K hK
    have e3 := hp 3 (by decide)
    have t61 : ac.tmps[61]? = some (.agg (arrC false ((r : Int) - 1) (dm Y r) na2 nn2 nc2 ta2 tn2 tc2)) := (List.cons.inj e3).1
    clear hold hp hsz hf e3
    go_simp
    (go_at_call 64; (refine (EL2.out _ (H2.out.below hB.below)).mono ?_); rintro e wz ⟨a4, c4, rfl, h4_0, hbz⟩)
    exact hK.out _ _ ⟨hB.go hbz, Exists.intro a4 (Exists.intro c4 (And.intro rfl h4_0)), hbz.size, .inl hbz, fun h => absurd h (by decide)⟩
  refine Stps4.cons (o := _) ?_ ?_
  · intro f ac yw hsz hold hB hp hf K hK
    have t8 : ac.tmps[8]? = some (.int .i64 (B0 : Nat)) := hold 8 (by kernel_rfl)
    clear hold hp hsz hf
    go_simp
    exact hK.out _ _ ⟨hB, rfl, Nat.le_refl _, .inl (Below.refl _ _), fun h => absurd h (by decide)⟩
  refine Stps4.cons (o := _) ?_ ?_
  · intro f ac yw hsz hold hB hp hf K hK
    obtain ⟨a2_2, c2_2, e2, g2_0⟩ := hp 2 (by decide)
    have t60 : ac.tmps[60]? = some (.slice a2_2 La c2_2) := (List.cons.inj e2).1
    obtain ⟨a4_4, c4_4, e4, g4_0⟩ := hp 4 (by decide)
    have t62 : ac.tmps[62]? = some (.slice a4_4 Lb c4_4) := (List.cons.inj e4).1
    have e5 := hp 5 (by decide)
    have t63 : ac.tmps[63]? = some (.int .i64 (B0 : Nat)) := (List.cons.inj e5).1
    clear hold hp hsz hf e2 e4 e5
    go_simp
    (go_at_call 80; (refine (WV.out _ _ _ _ _ g2_0 g4_0).mono ?_); rintro e wz ⟨a6, c6, rfl, h6_0, hbz⟩)
    exact hK.out _ _ ⟨hB.go hbz, Exists.intro a6 (Exists.intro c6 (And.intro rfl h6_0)), hbz.size, .inl hbz, fun h => absurd h (by decide)⟩
  refine Stps4.cons (o := _) ?_ ?_
  · intro f ac yw hsz hold hB hp hf K hK
    have e0 := hp 0 (by decide)
    have t58 : ac.tmps[58]? = some (.slice aT r cT) := (List.cons.inj e0).1
    obtain ⟨a6_6, c6_6, e6, g6_0⟩ := hp 6 (by decide)
    have t64 : ac.tmps[64]? = some (.slice a6_6 (La + Lb) c6_6) := (List.cons.inj e6).1
    clear hold hp hsz e0 e6
    go_simp
    (go_at_call 62; (refine (MK.out _ _ _ _ _ (hB.now.2.2.2.2 (hf 11 (by decide))) g6_0).mono ?_); rintro e wz ⟨x7, rfl, h7_0, hbz⟩)
    exact hK.out _ _ ⟨hB.go hbz, Exists.intro x7 (And.intro rfl (And.intro h7_0 h7_0.1)), hbz.size, .inl hbz, fun h => absurd h (by decide)⟩
  refine Stps4.cons (o := _) ?_ ?_
  · intro f ac yw hsz hold hB hp hf K hK
    obtain ⟨x7_7, e7, g7_0, g7_1⟩ := hp 7 (by decide)
    have t65 : ac.tmps[65]? = some (.tuple #[.agg x7_7, .bool bE]) := (List.cons.inj e7).1
    clear hold hp hsz hf e7
    go_simp
    exact hK.out _ _ ⟨hB, Exists.intro x7_7 (And.intro rfl (And.intro g7_0 g7_1)), Nat.le_refl _, .inl (Below.refl _ _), fun h => absurd h (by decide)⟩
  refine Stps4.cons (o := _) ?_ ?_
  · intro f ac yw hsz hold hB hp hf K hK
    obtain ⟨x7_8, e8, g8_0, g8_1⟩ := hp 8 (by decide)
    have t57 : ac.tmps[57]? = some (.tuple #[.agg x7_8, .bool bE]) := (List.cons.inj e8).1
    clear hold hp hsz hf e8
    go_simp
    exact hK.out _ _ ⟨hB, Exists.intro x7_8 (And.intro rfl (And.intro g8_0 g8_1)), Nat.le_refl _, .inl (Below.refl _ _), fun h => absurd h (by decide)⟩
  refine Stps4.cons (o := _) ?_ ?_
  · intro f ac yw hsz hold hB hp hf K hK
    obtain ⟨x7_8, e8, g8_0, g8_1⟩ := hp 8 (by decide)
    have t57 : ac.tmps[57]? = some (.tuple #[.agg x7_8, .bool bE]) := (List.cons.inj e8).1
    clear hold hp hsz hf e8
    go_simp
    exact hK.out _ _ ⟨hB, rfl, Nat.le_refl _, .inl (Below.refl _ _), fun h => absurd h (by decide)⟩
  refine Stps4.cons (o := _) ?_ ?_
  · intro f ac yw hsz hold hB hp hf K hK
    obtain ⟨x7_9, e9, g9_0, g9_1⟩ := hp 9 (by decide)
    have t66 : ac.tmps[66]? = some (.agg x7_9) := (List.cons.inj e9).1
    have t17 : ac.tmps[17]? = some (.pointer (some ⟨g17, 0, none⟩)) := hold 17 (by kernel_rfl)
    clear hold hp hsz hf e9
    rw [if_pos (by rfl)]
    obtain ⟨zz, hz, iz⟩ := hB.now.2.2.2.1
    have HB := BhP.put hB (by omega) (by omega) (by omega) (by omega) (x7_9) g9_1
    refine st8 17 66 rfl (g17) x7_9 t17 t66 _ zz hz iz g9_1 ?_
    refine hK.out undef _ ⟨HB, Exists.intro x7_9 (And.intro (hz.put _) (And.intro (g9_0.store hz iz _) g9_1)), by simp [World.setRow], .inr ?_, fun h => absurd h (by decide)⟩
    intro jj hj hap h
    match jj, h with
    | 0, h => exact h
    | 1, h => exact h
    | 2, ⟨a2, c2, e2, g2_0⟩ => exact Exists.intro a2 (Exists.intro c2 (And.intro e2 (RRow.storeA g2_0 hz iz _)))
    | 3, h => exact h
    | 4, ⟨a4, c4, e4, g4_0⟩ => exact Exists.intro a4 (Exists.intro c4 (And.intro e4 (RRow.storeA g4_0 hz iz _)))
    | 5, h => exact h
    | 6, ⟨a6, c6, e6, g6_0⟩ => exact Exists.intro a6 (Exists.intro c6 (And.intro e6 (RRow.storeA g6_0 hz iz _)))
    | 7, ⟨x7, e7, g7_0, g7_1⟩ => exact Exists.intro x7 (And.intro e7 (And.intro (g7_0.store hz iz _) g7_1))
    | 8, ⟨x7, e8, g8_0, g8_1⟩ => exact Exists.intro x7 (And.intro e8 (And.intro (g8_0.store hz iz _) g8_1))
    | 9, ⟨x7, e9, g9_0, g9_1⟩ => exact Exists.intro x7 (And.intro e9 (And.intro (g9_0.store hz iz _) g9_1))
    | 10, h => exact h
    | 11, _ => exact absurd rfl hj
    | 12, h => exact h
    | _ + 13, h => exact h
  refine Stps4.cons (o := _) ?_ ?_
  · intro f ac yw hsz hold hB hp hf K hK
    have e10 := hp 10 (by decide)
    have t67 : ac.tmps[67]? = some (.bool bE) := (List.cons.inj e10).1
    clear hold hp hsz hf e10
    go_simp
    exact hK.out _ _ ⟨hB, rfl, Nat.le_refl _, .inl (Below.refl _ _), fun h => absurd h (by decide)⟩
  exact Stps4.nil _
theorem stA {ops : Array Oper} {rest : List Oper} {o : Oper} {a : Act} {w : World} {Q : Exit -> Act -> World -> Prop} (hgd : o.guard = none) (x y : Operand) (ho : o.op = .store 32 x y) (g : Nat) (hx : a.eval x = .pointer (some ⟨g, 0, none⟩))
    (cs : Array Value) (hy : a.eval y = .agg cs) (hc : IsA cs) {old : Array Value} (hg : Row w g 32 old) (hz : IsA old)
    (h : wpList Tryz.prog ops Q rest (a.put o.dst undef) (w.setRow g cs)) : wpList Tryz.prog ops Q (o :: rest) a w :=
 wpList_store_row hgd _ x y ho g _ hx hy _ old hg (by rw [arr12, hc.size]) (by rw [hz.size, hc.size]) hc.one h
theorem MoR.told {w w' : World} {x : Array Value} {E : Int} {S : Nat -> Int} {r : Nat} {ch : Bool} {L : Nat} {g fP : Nat -> Int} {fQ : Nat -> Nat} (h : MoR w' x E S r ch L g fP fQ) (hb : Below w.heap.size w w') : MoTold E S r ch L g fP fQ w w' (.returned (.tuple #[.agg x, .int .i64 E])) := ⟨x, rfl, h.2.1, h.2.2, hb⟩
def caK (q : Nat) (i : Int) : Int := if i < 0 then (q : Int) - 1 else i
def jnT (r1 : Nat) (S1 : Nat -> Int) (r2 : Nat) (S2 : Nat -> Int) (k : Nat) : Nat -> Int := wiF (grS r1 S1 r2 S2) (k : Nat) (exN r1 S1 (grR r1 r2) k + exN r2 S2 (grR r1 r2) k)
def jnN (r : Nat) (S : Nat -> Int) (q : Nat) (s : Nat -> Int) (k : Nat) : Nat := (exN r S q k * stF s q k).toNat
def jnE (kb : Bool) (r1 : Nat) (S1 : Nat -> Int) (r2 : Nat) (S2 : Nat -> Int) (i : Int) : Int :=
 if kb = false then 22 else if ((grR r1 r2 : Nat) : Int) <= caK (grR r1 r2) i then 23 else
  if exE r1 S1 (grR r1 r2) (grS r1 S1 r2 S2) (caK (grR r1 r2) i).toNat = 0 then
   (if exE r2 S2 (grR r1 r2) (grS r1 S1 r2 S2) (caK (grR r1 r2) i).toNat = 0 then pkE (jnT r1 S1 r2 S2 (caK (grR r1 r2) i).toNat) (grR r1 r2) else exE r2 S2 (grR r1 r2) (grS r1 S1 r2 S2) (caK (grR r1 r2) i).toNat)
  else exE r1 S1 (grR r1 r2) (grS r1 S1 r2 S2) (caK (grR r1 r2) i).toNat
theorem gr_sh {r1 r2 : Nat} {S1 S2 : Nat -> Int} (h1 : shB S1 r1 = true) (h2 : shB S2 r2 = true) : shB (grS r1 S1 r2 S2) (grR r1 r2) = true /\ 1 <= grR r1 r2 := by
 unfold grS grR
 split
 · exact ⟨h2, by omega⟩
 · split
   · exact ⟨h1, by omega⟩
   · exact ⟨by decide, by omega⟩
theorem KRow.apartA {w : World} {a : Option Addr} {n c : Nat} {f : Nat -> Int} {k : Nat} (h : KRow w .i64 a n c f) (hn : n = 0 ∨ ∀ x, a = some x -> x.block ≠ k) (cs : Array Value) : KRow (w.setRow k cs) .i64 a n c f := h.away hn (Far.setRow _ _ _)
theorem catenate_any (x1 : Array Value) (S1 : Nat -> Int) (r1 : Nat) (ch1 : Bool) (L1 : Nat) (g1 P1 : Nat -> Int) (Q1 : Nat -> Nat) (x2 : Array Value) (S2 : Nat -> Int) (r2 : Nat) (ch2 : Bool) (L2 : Nat) (g2 P2 : Nat -> Int) (Q2 : Nat -> Nat) (i : Int) (w : World) (h1 : Arr w x1 S1 r1 ch1 L1 g1 P1 Q1) (h2 : Arr w x2 S2 r2 ch2 L2 g2 P2 Q2)
    (hsh1 : shB S1 r1 = true) (hc1 : itm S1 r1 = (L1 : Nat)) (hsh2 : shB S2 r2 = true) (hc2 : itm S2 r2 = (L2 : Nat)) (hi : -9223372036854775808 <= i /\ i <= 9223372036854775807) :
    Calls Tryz.prog 10 #[.agg x1, .agg x2, .int .i64 i] w fun e w' => MoTold (jnE (kdB ch1 L1 ch2 L2) r1 S1 r2 S2 i) (jnT r1 S1 r2 S2 (caK (grR r1 r2) i).toNat) (grR r1 r2) (kdC ch1 L1 ch2 L2) (itm (jnT r1 S1 r2 S2 (caK (grR r1 r2) i).toNat) (grR r1 r2)).toNat (wvF (jnN r1 S1 (grR r1 r2) (grS r1 S1 r2 S2) (caK (grR r1 r2) i).toNat) (jnN r2 S2 (grR r1 r2) (grS r1 S1 r2 S2) (caK (grR r1 r2) i).toNat) (fun j => elC L1 g1 32 (exG r1 j)) (fun j => elC L2 g2 32 (exG r2 j))) (wvF (jnN r1 S1 (grR r1 r2) (grS r1 S1 r2 S2) (caK (grR r1 r2) i).toNat) (jnN r2 S2 (grR r1 r2) (grS r1 S1 r2 S2) (caK (grR r1 r2) i).toNat) (fun j => elP L1 P1 (exG r1 j)) (fun j => elP L2 P2 (exG r2 j))) (wvF (jnN r1 S1 (grR r1 r2) (grS r1 S1 r2 S2) (caK (grR r1 r2) i).toNat) (jnN r2 S2 (grR r1 r2) (grS r1 S1 r2 S2) (caK (grR r1 r2) i).toNat) (fun j => elQ L1 Q1 (exG r1 j)) (fun j => elQ L2 Q2 (exG r2 j))) w w' e := by
 obtain ⟨na1, nn1, nc1, ta1, tn1, tc1, hx1, _⟩ := h1.form
 subst hx1
 obtain ⟨na2, nn2, nc2, ta2, tn2, tc2, hx2, _⟩ := h2.form
 subst hx2
 have hr1 := (sh_ax hsh1).1
 have hr2 := (sh_ax hsh2).1
 have H1 := Lib.hid h1
 have H2 := Lib.hid h2
 have AL := Lib.hid (fun wz h1 h2 => alike_any (arrC ch1 ((r1 : Int) - 1) (dm S1 r1) na1 nn1 nc1 ta1 tn1 tc1) S1 r1 ch1 L1 g1 P1 Q1 (arrC ch2 ((r2 : Int) - 1) (dm S2 r2) na2 nn2 nc2 ta2 tn2 tc2) S2 r2 ch2 L2 g2 P2 Q2 wz h1 h2 hsh1 hc1 hsh2 hc2)
 have BB0 := Lib.hid ((((Bag.start w).newRow (arrC ch1 ((r1 : Int) - 1) (dm S1 r1) na1 nn1 nc1 ta1 tn1 tc1) 32).newRow (arrC ch2 ((r2 : Int) - 1) (dm S2 r2) na2 nn2 nc2 ta2 tn2 tc2) 32).newRow zerC 32)
 simp only [World.size_alloc] at BB0
 have BB := Lib.hid (show Bag w (fun y => Row y w.heap.size 32 (arrC ch1 ((r1 : Int) - 1) (dm S1 r1) na1 nn1 nc1 ta1 tn1 tc1) /\ Row y (w.heap.size + 1) 32 (arrC ch2 ((r2 : Int) - 1) (dm S2 r2) na2 nn2 nc2 ta2 tn2 tc2) /\ Row y (w.heap.size + 1 + 1) 32 zerC /\ True) _ from ⟨BB0.out.below, fun a b hb ⟨q1, q2, q3, _⟩ => ⟨q1.below hb, q2.below hb, q3.below hb, trivial⟩, BB0.out.now.2.2.1, BB0.out.now.2.1, BB0.out.now.1, trivial⟩)
 have HR1 := Lib.hid BB.out.now.1
 have HR2 := Lib.hid BB.out.now.2.1
 clear h1 h2 BB0
 obtain ⟨KB, hKB⟩ : ∃ b, kdB ch1 L1 ch2 L2 = b := ⟨_, rfl⟩
 obtain ⟨CH, hCH⟩ : ∃ b, kdC ch1 L1 ch2 L2 = b := ⟨_, rfl⟩
 rw [hKB, hCH]
 rw [hKB, hCH] at AL
 clear hKB hCH
 obtain ⟨hss, hq1⟩ := gr_sh hsh1 hsh2
 have GR := Lib.hid (fun y1 y2 wz h1 h2 => greater_any y1 S1 r1 CH L1 g1 P1 Q1 y2 S2 r2 CH L2 g2 P2 Q2 wz h1 h2 hr1 hr2)
 have hdE : jnE KB r1 S1 r2 S2 i = jnE KB r1 S1 r2 S2 i := rfl
 unfold jnE at hdE ⊢
 unfold jnT at hdE ⊢
 obtain ⟨q, hq⟩ : ∃ q, grR r1 r2 = q := ⟨_, rfl⟩
 obtain ⟨s, hs⟩ : ∃ s, grS r1 S1 r2 S2 = s := ⟨_, rfl⟩
 rw [hq, hs] at hss GR ⊢
 rw [hq] at hq1
 have hq8 := (sh_ax hss).1
 have HQ1 := Lib.hid hq1
 clear hdE hq hs
 have EX1 : Hid (∀ k, k < q -> ∀ y a c wz, Arr wz y S1 r1 CH L1 g1 P1 Q1 -> KRow wz .i64 a q c s -> Calls Tryz.prog 38 #[.agg y, .slice a q c, .int .i64 (k : Nat)] wz fun e w' => ∃ z, e = .returned (.tuple #[.agg z, .int .i64 (exE r1 S1 q s k)]) /\ IsA z /\ (exE r1 S1 q s k = 0 -> Arr w' z (exS r1 S1 q s k) q CH (itm (exS r1 S1 q s k) q).toNat (fun j => elC L1 g1 32 (exG r1 j)) (fun j => elP L1 P1 (exG r1 j)) (fun j => elQ L1 Q1 (exG r1 j))) /\ Below wz.heap.size wz w') := Lib.hid (fun k hk y a c wz h hs => (extended_any y S1 r1 CH L1 g1 P1 Q1 a q c s k wz h hsh1 hc1 hs hss hk).mono (fun _ _ hq => by
  obtain ⟨x, he, hm, hb⟩ := hq.res
  exact ⟨x, he, hm.1, hm.2.1, hb⟩))
 have EX2 : Hid (∀ k, k < q -> ∀ y a c wz, Arr wz y S2 r2 CH L2 g2 P2 Q2 -> KRow wz .i64 a q c s -> Calls Tryz.prog 38 #[.agg y, .slice a q c, .int .i64 (k : Nat)] wz fun e w' => ∃ z, e = .returned (.tuple #[.agg z, .int .i64 (exE r2 S2 q s k)]) /\ IsA z /\ (exE r2 S2 q s k = 0 -> Arr w' z (exS r2 S2 q s k) q CH (itm (exS r2 S2 q s k) q).toNat (fun j => elC L2 g2 32 (exG r2 j)) (fun j => elP L2 P2 (exG r2 j)) (fun j => elQ L2 Q2 (exG r2 j))) /\ Below wz.heap.size wz w') := Lib.hid (fun k hk y a c wz h hs => (extended_any y S2 r2 CH L2 g2 P2 Q2 a q c s k wz h hsh2 hc2 hs hss hk).mono (fun _ _ hq => by
  obtain ⟨x, he, hm, hb⟩ := hq.res
  exact ⟨x, he, hm.1, hm.2.1, hb⟩))
 obtain ⟨KK, hKK⟩ : ∃ k : Nat, (caK q i).toNat = k := ⟨_, rfl⟩
 rw [hKK]
 obtain ⟨T, hT⟩ : ∃ f, wiF s (KK : Nat) (exN r1 S1 q KK + exN r2 S2 q KK) = f := ⟨_, rfl⟩
 rw [hT]
 obtain ⟨M, hM⟩ : ∃ n, (itm T q).toNat = n := ⟨_, rfl⟩
 rw [hM]
 obtain ⟨N1, hN1⟩ : ∃ n, jnN r1 S1 q s KK = n := ⟨_, rfl⟩
 obtain ⟨N2, hN2⟩ : ∃ n, jnN r2 S2 q s KK = n := ⟨_, rfl⟩
 rw [hN1, hN2]
 obtain ⟨E, hE⟩ : ∃ E, (if KB = false then 22 else if ((q : Nat) : Int) <= caK q i then 23 else if exE r1 S1 q s KK = 0 then (if exE r2 S2 q s KK = 0 then pkE T q else exE r2 S2 q s KK) else exE r1 S1 q s KK : Int) = E := ⟨_, rfl⟩
 rw [hE]
 have BH : Hid (∀ k : Nat, caK q i = (k : Nat) -> k < q -> KB = true -> exE r1 S1 q s k = 0 -> exE r2 S2 q s k = 0 -> ∀ y1 y2 wz, Arr wz y1 (exS r1 S1 q s k) q CH (itm (exS r1 S1 q s k) q).toNat (fun j => elC L1 g1 32 (exG r1 j)) (fun j => elP L1 P1 (exG r1 j)) (fun j => elQ L1 Q1 (exG r1 j)) -> Arr wz y2 (exS r2 S2 q s k) q CH (itm (exS r2 S2 q s k) q).toNat (fun j => elC L2 g2 32 (exG r2 j)) (fun j => elP L2 P2 (exG r2 j)) (fun j => elQ L2 Q2 (exG r2 j)) ->
     Calls Tryz.prog 39 #[.agg y1, .agg y2, .int .i64 (k : Nat)] wz fun e w' => ∃ y, e = .returned (.tuple #[.agg y, .int .i64 E]) /\ MoR w' y E T q CH M (wvF N1 N2 (fun j => elC L1 g1 32 (exG r1 j)) (fun j => elC L2 g2 32 (exG r2 j))) (wvF N1 N2 (fun j => elP L1 P1 (exG r1 j)) (fun j => elP L2 P2 (exG r2 j))) (wvF N1 N2 (fun j => elQ L1 Q1 (exG r1 j)) (fun j => elQ L2 Q2 (exG r2 j))) /\ Below wz.heap.size wz w') := Lib.hid (fun k hk hkq hkb e1 e2 y1 y2 wz a1 a2 => by
  have hkk : KK = k := by rw [← hKK, hk]; rfl
  subst hkk
  obtain ⟨b1, b2, b3, _⟩ := ex_sh hkq hss hsh1 e1
  obtain ⟨c1, c2, c3, _⟩ := ex_sh hkq hss hsh2 e2
  have bx := ax_bd (sh_ax b1).2
  have cx := ax_bd (sh_ax c1).2
  have st : 0 <= stF s q KK := (ax_bd (ax_shf (KK + 1) (sh_ax hss).2 (q - (KK + 1)) (by omega))).2.2.1
  have est : ∀ v, stF (wiF s (KK : Nat) v) q KK = stF s q KK := fun v => itm_congr (fun j _ => wi_off (s := s) (j := KK + 1 + j) v (by omega))
  have n1 : (N1 : Int) = exN r1 S1 q KK * stF s q KK := by rw [← hN1]; unfold jnN; exact Int.toNat_of_nonneg (Int.mul_nonneg b2 st)
  have n2 : (N2 : Int) = exN r2 S2 q KK * stF s q KK := by rw [← hN2]; unfold jnN; exact Int.toNat_of_nonneg (Int.mul_nonneg c2 st)
  have hb := behind_any y1 (exS r1 S1 q s KK) q CH _ _ _ _ y2 (exS r2 S2 q s KK) _ _ _ _ KK N1 N2 wz a1 a2 b1 c1 (by omega) (by omega) hkq (fun a ha hak => by unfold exS; rw [wi_off _ hak, wi_off _ hak]) (by unfold exS; rw [wi_at, est]; exact n1) (by unfold exS; rw [wi_at, est]; exact n2)
  have eT : wiF (exS r1 S1 q s KK) (KK : Nat) (exS r1 S1 q s KK KK + exS r2 S2 q s KK KK) = T := by rw [← hT]; unfold exS; rw [wi_wi, wi_at, wi_at]
  have eE : pkE T q = E := by
   rw [← hE, if_neg (by rw [hkb]; decide), if_neg (by rw [hk]; omega), if_pos e1, if_pos e2]
  have eM : (itm (exS r1 S1 q s KK) q).toNat + (itm (exS r2 S2 q s KK) q).toNat = M := by
   obtain ⟨n, hn⟩ : ∃ n : Nat, exN r1 S1 q KK = n := ⟨(exN r1 S1 q KK).toNat, by omega⟩
   obtain ⟨m, hm⟩ : ∃ m : Nat, exN r2 S2 q KK = m := ⟨(exN r2 S2 q KK).toNat, by omega⟩
   obtain ⟨B, _, _, l1, l2, l3⟩ := wv_len (T := T) (x := exS r1 S1 q s KK) (y := exS r2 S2 q s KK) (n := n) (m := m) (N1 := N1) (N2 := N2) hkq (by rw [← hT, wi_at, hn, hm]; push_cast; rfl) (by unfold exS; rw [wi_at]; exact hn) (by unfold exS; rw [wi_at]; exact hm)
    (fun a _ hak => by rw [← hT]; unfold exS; rw [wi_off _ hak, wi_off _ hak]) (fun a _ hak => by rw [← hT]; unfold exS; rw [wi_off _ hak, wi_off _ hak]) (fun a ha => by rw [← hT, wi_off _ (by omega)]; exact (ax_le4 hss (by omega)).1) (by rw [← hT, est, ← hn]; exact n1) (by rw [← hT, est, ← hm]; exact n2)
   rw [← hM, l1, l2, l3, Int.toNat_natCast, Int.toNat_natCast, Int.toNat_natCast, Nat.mul_add]
  rw [eT, eE, eM] at hb
  exact hb.mono (fun _ _ hq => hq.res))
 have HE22 : Hid (KB = false -> E = 22) := Lib.hid (fun e => by rw [← hE, if_pos e])
 have HE23 : Hid (KB = true -> ¬ i < 0 -> (q : Int) <= i -> E = 23) := Lib.hid (fun e h1 h2 => by rw [← hE, if_neg (by rw [e]; decide), if_pos (by unfold caK; rw [if_neg h1]; exact h2)])
 have HE1 : Hid (∀ k : Nat, caK q i = (k : Nat) -> k < q -> KB = true -> exE r1 S1 q s k ≠ 0 -> E = exE r1 S1 q s k) := Lib.hid (fun k hk hkq hkb e1 => by
  have hkk : KK = k := by rw [← hKK, hk]; rfl
  subst hkk
  rw [← hE, if_neg (by rw [hkb]; decide), if_neg (by rw [hk]; omega), if_neg e1])
 have HE2 : Hid (∀ k : Nat, caK q i = (k : Nat) -> k < q -> KB = true -> exE r1 S1 q s k = 0 -> exE r2 S2 q s k ≠ 0 -> E = exE r2 S2 q s k) := Lib.hid (fun k hk hkq hkb e1 e2 => by
  have hkk : KK = k := by rw [← hKK, hk]; rfl
  subst hkk
  rw [← hE, if_neg (by rw [hkb]; decide), if_neg (by rw [hk]; omega), if_pos e1, if_neg e2])
 have HNO : Hid (∀ E wz, E ≠ 0 -> Below w.heap.size w wz -> MoTold E T q CH M (wvF N1 N2 (fun j => elC L1 g1 32 (exG r1 j)) (fun j => elC L2 g2 32 (exG r2 j))) (wvF N1 N2 (fun j => elP L1 P1 (exG r1 j)) (fun j => elP L2 P2 (exG r2 j))) (wvF N1 N2 (fun j => elQ L1 Q1 (exG r1 j)) (fun j => elQ L2 Q2 (exG r2 j))) w (wz.setRow (w.heap.size + 1 + 1) zerC) (.returned (.tuple #[.agg zerC, .int .i64 E]))) := Lib.hid (fun E wz hE hb => MoTold.no hE (below_put hb (show w.heap.size <= w.heap.size + 1 + 1 by omega) zerC))
 clear hE hT hM hN1 hN2 hKK hss hsh1 hsh2 hc1 hc2 hr1 hr2 hq1
 cases KB with
 | false =>
  obtain rfl := HE22.out rfl
  clear EX1 EX2 BH HE1 HE2 HE23 HE22
  unfold arrC
  go_enter Tryz.func10, Tryz.ntmps10
  go_wp2_with (first
   | (refine ld_arr rfl (.tmp 3) rfl (w.heap.size) rfl HR1.out ?_)
   | (refine ld_arr rfl (.tmp 4) rfl (w.heap.size + 1) rfl HR2.out ?_))
  go_at_call 36
  (with_reducible refine (AL.out _ ?_ ?_).mono ?_)
  · exact H1.out.below BB.out.below
  · exact H2.out.below BB.out.below
  rintro e w2 ⟨y1, y2, rfl, i1, i2, hA, hb2⟩
  have B2 := BB.out.go hb2
  have HZ1 := Lib.hid B2.now.1
  have hz2 := B2.now.2.1.puto (k := w.heap.size) (by omega) y1
  have HZ2 := Lib.hid hz2
  have I1 := Lib.hid i1
  have I2 := Lib.hid i2
  have F1 := Lib.hid ((B2.now.1.put y1).puto (k := w.heap.size + 1) (by omega) y2)
  have F2 := Lib.hid (hz2.put y2)
  have F3 := Lib.hid ((B2.now.2.2.1.puto (k := w.heap.size) (by omega) y1).puto (k := w.heap.size + 1) (by omega) y2)
  have F4 := Lib.hid (below_put (below_put B2.below (Nat.le_refl _) y1) (show w.heap.size <= w.heap.size + 1 by omega) y2)
  have HE := Lib.hid (HNO.out 22 _ (by decide) F4.out)
  clear hA hb2 B2 hz2 i1 i2
  go_wp2_with (first
   | (refine stA rfl (.tmp 3) (.tmp 15) rfl (w.heap.size) rfl y1 rfl I1.out HZ1.out (IsA.of _ _ _ _ _ _ _ _ _) ?_)
   | (refine stA rfl (.tmp 4) (.tmp 16) rfl (w.heap.size + 1) rfl y2 rfl I2.out HZ2.out (IsA.of _ _ _ _ _ _ _ _ _) ?_)
   | (refine st_arr rfl (.tmp 6) (.tmp 20) rfl (w.heap.size + 1 + 1) rfl false 0 (fun _ => 0) none 0 0 none 0 0 rfl F3.out rfl ?_))
  exact bodyPost_ret (res_arr2 Tryz.results10 rfl rfl (F3.out.put _) rfl) rfl HE.out
 | true =>
  have HF23 := Lib.hid (HE23.out rfl)
  have BH2 := Lib.hid (fun k h1 h2 => BH.out k h1 h2 rfl)
  have HF1 := Lib.hid (fun k h1 h2 => HE1.out k h1 h2 rfl)
  have HF2 := Lib.hid (fun k h1 h2 => HE2.out k h1 h2 rfl)
  clear HE22 HE23 BH HE1 HE2
  unfold arrC
  go_enter Tryz.func10, Tryz.ntmps10
  go_wp2_with (first
   | (refine ld_arr rfl (.tmp 3) rfl (w.heap.size) rfl HR1.out ?_)
   | (refine ld_arr rfl (.tmp 4) rfl (w.heap.size + 1) rfl HR2.out ?_))
  go_at_call 36
  (with_reducible refine (AL.out _ ?_ ?_).mono ?_)
  · exact H1.out.below BB.out.below
  · exact H2.out.below BB.out.below
  rintro e w2 ⟨y1, y2, rfl, i1, i2, hA, hb2⟩
  have B2 := BB.out.go hb2
  have HZ1 := Lib.hid B2.now.1
  have hz2 := B2.now.2.1.puto (k := w.heap.size) (by omega) y1
  have HZ2 := Lib.hid hz2
  have I1 := Lib.hid i1
  have I2 := Lib.hid i2
  have F1 := Lib.hid ((B2.now.1.put y1).puto (k := w.heap.size + 1) (by omega) y2)
  have F2 := Lib.hid (hz2.put y2)
  have F3 := Lib.hid ((B2.now.2.2.1.puto (k := w.heap.size) (by omega) y1).puto (k := w.heap.size + 1) (by omega) y2)
  have F4 := Lib.hid (below_put (below_put B2.below (Nat.le_refl _) y1) (show w.heap.size <= w.heap.size + 1 by omega) y2)
  have F5 := Lib.hid (((hA trivial).1.store B2.now.1 (IsA.of _ _ _ _ _ _ _ _ _) y1).store hz2 (IsA.of _ _ _ _ _ _ _ _ _) y2)
  have F6 := Lib.hid (((hA trivial).2.store B2.now.1 (IsA.of _ _ _ _ _ _ _ _ _) y1).store hz2 (IsA.of _ _ _ _ _ _ _ _ _) y2)
  clear hA hb2 B2 hz2 i1 i2
  go_wp2_with (first
   | (refine stA rfl (.tmp 3) (.tmp 15) rfl (w.heap.size) rfl y1 rfl I1.out HZ1.out (IsA.of _ _ _ _ _ _ _ _ _) ?_)
   | (refine stA rfl (.tmp 4) (.tmp 16) rfl (w.heap.size + 1) rfl y2 rfl I2.out HZ2.out (IsA.of _ _ _ _ _ _ _ _ _) ?_)
   | (refine ld8G (by rfl) 3 rfl (w.heap.size) y1 (by rfl) F1.out I1.out.size ?_)
   | (refine ld8G (by rfl) 4 rfl (w.heap.size + 1) y2 (by rfl) F2.out I2.out.size ?_))
  generalize hW : ((w2.setRow w.heap.size y1).setRow (w.heap.size + 1) y2) = Y2 at *
  have BC := Lib.hid (show Bag w (fun y => Row y w.heap.size 32 y1 /\ Row y (w.heap.size + 1) 32 y2 /\ Row y (w.heap.size + 1 + 1) 32 zerC /\ Arr y y1 S1 r1 CH L1 g1 P1 Q1 /\ Arr y y2 S2 r2 CH L2 g2 P2 Q2) Y2 from ⟨F4.out, (fun a b hb ⟨q1, q2, q3, q4, q5⟩ => ⟨q1.below hb, q2.below hb, q3.below hb, q4.below hb, q5.below hb⟩), F1.out, F2.out, F3.out, F5.out, F6.out⟩)
  clear hW HZ1 HZ2 F1 F2 F3 F4 F5 F6
  go_at_call 37
  (refine (GR.out _ _ _ BC.out.now.2.2.2.1 BC.out.now.2.2.2.2).mono ?_)
  rintro e w3 ⟨aS, cS, rfl, hkS, hnS, hb3⟩
  have HNS : Hid (∀ x, aS = some x -> x.block ≠ w.heap.size) := Lib.hid (fun x hx => by have h1 := hnS x hx; have h2 := BC.out.now.1.lt; omega)
  have hlS := hkS.len
  have BC := Lib.hid ((BC.out.go hb3).krow hkS)
  have hq1 := HQ1.out
  clear hkS hb3 hnS
  by_cases hin : i < 0
  · obtain ⟨k, hqk⟩ : ∃ k : Nat, q - 1 = k := ⟨_, rfl⟩
    have e1 : (q : Int) - 1 = (k : Nat) := by omega
    have hkq : k < q := by omega
    have hck : caK q i = (k : Nat) := by unfold caK; rw [if_pos hin, e1]
    have w1 := IntWalk.i64_in ((q : Int) - 1) (by omega)
    have w2' := IntWalk.i64_in ((k : Nat) : Int) (by omega)
    have d1 : ¬ ((q : Nat) : Int) <= (k : Nat) := by omega
    have d2 : ((k : Nat) : Int) < (q : Nat) := by omega
    clear hqk
    have EK1 := Lib.hid (EX1.out k hkq)
    have EK2 := Lib.hid (EX2.out k hkq)
    have BK := Lib.hid (BH2.out k hck hkq)
    have HEA := Lib.hid (HF1.out k hck hkq)
    have HEB := Lib.hid (HF2.out k hck hkq)
    obtain ⟨E1, hE1⟩ : ∃ E, exE r1 S1 q s k = E := ⟨_, rfl⟩
    obtain ⟨E2, hE2⟩ : ∃ E, exE r2 S2 q s k = E := ⟨_, rfl⟩
    obtain ⟨X1, hX1⟩ : ∃ f, exS r1 S1 q s k = f := ⟨_, rfl⟩
    obtain ⟨X2, hX2⟩ : ∃ f, exS r2 S2 q s k = f := ⟨_, rfl⟩
    obtain ⟨M1, hM1⟩ : ∃ n, (itm X1 q).toNat = n := ⟨_, rfl⟩
    obtain ⟨M2, hM2⟩ : ∃ n, (itm X2 q).toNat = n := ⟨_, rfl⟩
    rw [hX1, hE1, hM1] at EK1
    rw [hX2, hE2, hM2] at EK2
    rw [hE1, hE2, hX1, hX2, hM1, hM2] at BK
    rw [hE1] at HEA
    rw [hE1, hE2] at HEB
    clear EX1 EX2 BH2 HF1 HF2 HF23 hck hE1 hE2 hX1 hX2 hM1 hM2
    have HY1 := Lib.hid BC.out.now.2.1
    go_wp2_with (refine ld8G (by rfl) 3 rfl (w.heap.size) y1 (by rfl) HY1.out I1.out.size ?_)
    go_at_call 38
    (refine (EK1.out _ _ _ _ BC.out.now.2.2.2.2.1 BC.out.now.1).mono ?_)
    rintro e w4 ⟨z1, rfl, j1, hz1, hb4⟩
    have B4 := BC.out.go hb4
    have J1 := Lib.hid j1
    have HZ1 := Lib.hid B4.now.2.1
    have G1 := Lib.hid (B4.now.2.1.put z1)
    have G2 := Lib.hid (B4.now.2.2.1.puto (k := w.heap.size) (by omega) z1)
    have G3 := Lib.hid (B4.now.2.2.2.1.puto (k := w.heap.size) (by omega) z1)
    have G4 := Lib.hid (below_put B4.below (Nat.le_refl _) z1)
    by_cases h0 : E1 = 0
    · subst h0
      have G5 := Lib.hid ((hz1 rfl).store B4.now.2.1 I1.out z1)
      have G6 := Lib.hid (B4.now.2.2.2.2.2.store B4.now.2.1 I1.out z1)
      have G7 := Lib.hid (KRow.apartA B4.now.1 (.inr HNS.out) z1)
      clear hz1 hb4 B4 j1 HY1 BC HEA
      go_wp2_with (first
       | (refine stA rfl (.tmp 3) (.tmp 39) rfl (w.heap.size) rfl z1 rfl J1.out HZ1.out I1.out ?_)
       | (refine ld8G (by rfl) 4 rfl (w.heap.size + 1) y2 (by rfl) G2.out I2.out.size ?_))
      generalize hW : (w4.setRow w.heap.size z1) = Y4 at *
      have BC := Lib.hid (show Bag w (fun y => Row y w.heap.size 32 z1 /\ Row y (w.heap.size + 1) 32 y2 /\ Row y (w.heap.size + 1 + 1) 32 zerC /\ Arr y z1 X1 q CH M1 (fun j => elC L1 g1 32 (exG r1 j)) (fun j => elP L1 P1 (exG r1 j)) (fun j => elQ L1 Q1 (exG r1 j)) /\ Arr y y2 S2 r2 CH L2 g2 P2 Q2) Y4 from ⟨G4.out, (fun a b hb ⟨q1, q2, q3, q4, q5⟩ => ⟨q1.below hb, q2.below hb, q3.below hb, q4.below hb, q5.below hb⟩), G1.out, G2.out, G3.out, G5.out, G6.out⟩)
      clear hW HZ1 G1 G2 G3 G4 G5 G6
      go_at_call 38
      (refine (EK2.out _ _ _ _ BC.out.now.2.2.2.2 G7.out).mono ?_)
      rintro e w5 ⟨z2, rfl, j2, hz2, hb5⟩
      have B5 := BC.out.go hb5
      have J2 := Lib.hid j2
      have HZ2 := Lib.hid B5.now.2.1
      have G1 := Lib.hid (B5.now.1.puto (k := w.heap.size + 1) (by omega) z2)
      have G2 := Lib.hid (B5.now.2.1.put z2)
      have G3 := Lib.hid (B5.now.2.2.1.puto (k := w.heap.size + 1) (by omega) z2)
      have G4 := Lib.hid (below_put B5.below (show w.heap.size <= w.heap.size + 1 by omega) z2)
      by_cases h1 : E2 = 0
      · subst h1
        have G5 := Lib.hid (B5.now.2.2.2.1.store B5.now.2.1 I2.out z2)
        have G6 := Lib.hid ((hz2 rfl).store B5.now.2.1 I2.out z2)
        clear hz2 hb5 B5 j2 BC HEB G7
        go_wp2_with (first
         | (refine stA rfl (.tmp 4) (.tmp 50) rfl (w.heap.size + 1) rfl z2 rfl J2.out HZ2.out I2.out ?_)
         | (refine ld8G (by rfl) 3 rfl (w.heap.size) z1 (by rfl) G1.out J1.out.size ?_)
         | (refine ld8G (by rfl) 4 rfl (w.heap.size + 1) z2 (by rfl) G2.out J2.out.size ?_))
        generalize hW : (w5.setRow (w.heap.size + 1) z2) = Y5 at *
        go_at_call 39
        (refine (BK.out trivial trivial _ _ _ G5.out G6.out).mono ?_)
        rintro e w6 ⟨y6, rfl, hM, hb6⟩
        have HZ6 := Lib.hid (G3.out.below hb6)
        have HE := Lib.hid ((hM.store (G3.out.below hb6) IsA.zer y6).told (below_put (G4.out.trans (hb6.mono G4.out.size)) (show w.heap.size <= w.heap.size + 1 + 1 by omega) y6))
        have J6 := Lib.hid hM.1
        clear hM hb6 hW HZ2 G1 G2 G3 G4 G5 G6
        go_wp2_with (refine stA rfl (.tmp 6) (.tmp 60) rfl (w.heap.size + 1 + 1) rfl y6 rfl J6.out HZ6.out IsA.zer ?_)
        exact bodyPost_ret (res_arr2 Tryz.results10 rfl rfl (HZ6.out.put _) J6.out.size) rfl HE.out
      · have dE : (E2 != 0) = true := bne_iff_ne.2 h1
        obtain rfl := HEB.out trivial h1
        have HE := Lib.hid (HNO.out _ _ h1 G4.out)
        clear hz2 hb5 B5 j2 BC HEB h1 BK G7
        go_wp2_with (first
         | (refine stA rfl (.tmp 4) (.tmp 50) rfl (w.heap.size + 1) rfl z2 rfl J2.out HZ2.out I2.out ?_)
         | (refine st_arr rfl (.tmp 6) (.tmp 54) rfl (w.heap.size + 1 + 1) rfl false 0 (fun _ => 0) none 0 0 none 0 0 rfl G3.out rfl ?_))
        exact bodyPost_ret (res_arr2 Tryz.results10 rfl rfl (G3.out.put _) rfl) rfl HE.out
    · have dE : (E1 != 0) = true := bne_iff_ne.2 h0
      obtain rfl := HEA.out h0
      have HE := Lib.hid (HNO.out _ _ h0 G4.out)
      clear hz1 hb4 B4 j1 HY1 BC HEA HEB h0 BK EK2
      go_wp2_with (first
       | (refine stA rfl (.tmp 3) (.tmp 39) rfl (w.heap.size) rfl z1 rfl J1.out HZ1.out I1.out ?_)
       | (refine st_arr rfl (.tmp 6) (.tmp 43) rfl (w.heap.size + 1 + 1) rfl false 0 (fun _ => 0) none 0 0 none 0 0 rfl G3.out rfl ?_))
      exact bodyPost_ret (res_arr2 Tryz.results10 rfl rfl (G3.out.put _) rfl) rfl HE.out
  · by_cases hiq : (q : Int) <= i
    · have HZ3 := Lib.hid BC.out.now.2.2.2.1
      obtain rfl := HF23.out (by omega) hiq
      have HE := Lib.hid (HNO.out 23 _ (by decide) BC.out.below)
      clear EX1 EX2 BH2 HF1 HF2 HF23
      go_wp2_with (refine st_arr rfl (.tmp 6) (.tmp 33) rfl (w.heap.size + 1 + 1) rfl false 0 (fun _ => 0) none 0 0 none 0 0 rfl HZ3.out rfl ?_)
      exact bodyPost_ret (res_arr2 Tryz.results10 rfl rfl (HZ3.out.put _) rfl) rfl HE.out
    · obtain ⟨k, rfl⟩ : ∃ k : Nat, i = (k : Nat) := ⟨i.toNat, by omega⟩
      have hkq : k < q := by omega
      have hck : caK q ((k : Nat) : Int) = (k : Nat) := by unfold caK; rw [if_neg hin]
      have d1 : ¬ ((q : Nat) : Int) <= (k : Nat) := by omega
      have d2 : ((k : Nat) : Int) < (q : Nat) := by omega
      have EK1 := Lib.hid (EX1.out k hkq)
      have EK2 := Lib.hid (EX2.out k hkq)
      have BK := Lib.hid (BH2.out k hck hkq)
      have HEA := Lib.hid (HF1.out k hck hkq)
      have HEB := Lib.hid (HF2.out k hck hkq)
      obtain ⟨E1, hE1⟩ : ∃ E, exE r1 S1 q s k = E := ⟨_, rfl⟩
      obtain ⟨E2, hE2⟩ : ∃ E, exE r2 S2 q s k = E := ⟨_, rfl⟩
      obtain ⟨X1, hX1⟩ : ∃ f, exS r1 S1 q s k = f := ⟨_, rfl⟩
      obtain ⟨X2, hX2⟩ : ∃ f, exS r2 S2 q s k = f := ⟨_, rfl⟩
      obtain ⟨M1, hM1⟩ : ∃ n, (itm X1 q).toNat = n := ⟨_, rfl⟩
      obtain ⟨M2, hM2⟩ : ∃ n, (itm X2 q).toNat = n := ⟨_, rfl⟩
      rw [hX1, hE1, hM1] at EK1
      rw [hX2, hE2, hM2] at EK2
      rw [hE1, hE2, hX1, hX2, hM1, hM2] at BK
      rw [hE1] at HEA
      rw [hE1, hE2] at HEB
      clear EX1 EX2 BH2 HF1 HF2 HF23 hck hE1 hE2 hX1 hX2 hM1 hM2
      have HY1 := Lib.hid BC.out.now.2.1
      go_wp2_with (refine ld8G (by rfl) 3 rfl (w.heap.size) y1 (by rfl) HY1.out I1.out.size ?_)
      go_at_call 38
      (refine (EK1.out _ _ _ _ BC.out.now.2.2.2.2.1 BC.out.now.1).mono ?_)
      rintro e w4 ⟨z1, rfl, j1, hz1, hb4⟩
      have B4 := BC.out.go hb4
      have J1 := Lib.hid j1
      have HZ1 := Lib.hid B4.now.2.1
      have G1 := Lib.hid (B4.now.2.1.put z1)
      have G2 := Lib.hid (B4.now.2.2.1.puto (k := w.heap.size) (by omega) z1)
      have G3 := Lib.hid (B4.now.2.2.2.1.puto (k := w.heap.size) (by omega) z1)
      have G4 := Lib.hid (below_put B4.below (Nat.le_refl _) z1)
      by_cases h0 : E1 = 0
      · subst h0
        have G5 := Lib.hid ((hz1 rfl).store B4.now.2.1 I1.out z1)
        have G6 := Lib.hid (B4.now.2.2.2.2.2.store B4.now.2.1 I1.out z1)
        have G7 := Lib.hid (KRow.apartA B4.now.1 (.inr HNS.out) z1)
        clear hz1 hb4 B4 j1 HY1 BC HEA
        go_wp2_with (first
         | (refine stA rfl (.tmp 3) (.tmp 39) rfl (w.heap.size) rfl z1 rfl J1.out HZ1.out I1.out ?_)
         | (refine ld8G (by rfl) 4 rfl (w.heap.size + 1) y2 (by rfl) G2.out I2.out.size ?_))
        generalize hW : (w4.setRow w.heap.size z1) = Y4 at *
        have BC := Lib.hid (show Bag w (fun y => Row y w.heap.size 32 z1 /\ Row y (w.heap.size + 1) 32 y2 /\ Row y (w.heap.size + 1 + 1) 32 zerC /\ Arr y z1 X1 q CH M1 (fun j => elC L1 g1 32 (exG r1 j)) (fun j => elP L1 P1 (exG r1 j)) (fun j => elQ L1 Q1 (exG r1 j)) /\ Arr y y2 S2 r2 CH L2 g2 P2 Q2) Y4 from ⟨G4.out, (fun a b hb ⟨q1, q2, q3, q4, q5⟩ => ⟨q1.below hb, q2.below hb, q3.below hb, q4.below hb, q5.below hb⟩), G1.out, G2.out, G3.out, G5.out, G6.out⟩)
        clear hW HZ1 G1 G2 G3 G4 G5 G6
        go_at_call 38
        (refine (EK2.out _ _ _ _ BC.out.now.2.2.2.2 G7.out).mono ?_)
        rintro e w5 ⟨z2, rfl, j2, hz2, hb5⟩
        have B5 := BC.out.go hb5
        have J2 := Lib.hid j2
        have HZ2 := Lib.hid B5.now.2.1
        have G1 := Lib.hid (B5.now.1.puto (k := w.heap.size + 1) (by omega) z2)
        have G2 := Lib.hid (B5.now.2.1.put z2)
        have G3 := Lib.hid (B5.now.2.2.1.puto (k := w.heap.size + 1) (by omega) z2)
        have G4 := Lib.hid (below_put B5.below (show w.heap.size <= w.heap.size + 1 by omega) z2)
        by_cases h1 : E2 = 0
        · subst h1
          have G5 := Lib.hid (B5.now.2.2.2.1.store B5.now.2.1 I2.out z2)
          have G6 := Lib.hid ((hz2 rfl).store B5.now.2.1 I2.out z2)
          clear hz2 hb5 B5 j2 BC HEB G7
          go_wp2_with (first
           | (refine stA rfl (.tmp 4) (.tmp 50) rfl (w.heap.size + 1) rfl z2 rfl J2.out HZ2.out I2.out ?_)
           | (refine ld8G (by rfl) 3 rfl (w.heap.size) z1 (by rfl) G1.out J1.out.size ?_)
           | (refine ld8G (by rfl) 4 rfl (w.heap.size + 1) z2 (by rfl) G2.out J2.out.size ?_))
          generalize hW : (w5.setRow (w.heap.size + 1) z2) = Y5 at *
          go_at_call 39
          (refine (BK.out trivial trivial _ _ _ G5.out G6.out).mono ?_)
          rintro e w6 ⟨y6, rfl, hM, hb6⟩
          have HZ6 := Lib.hid (G3.out.below hb6)
          have HE := Lib.hid ((hM.store (G3.out.below hb6) IsA.zer y6).told (below_put (G4.out.trans (hb6.mono G4.out.size)) (show w.heap.size <= w.heap.size + 1 + 1 by omega) y6))
          have J6 := Lib.hid hM.1
          clear hM hb6 hW HZ2 G1 G2 G3 G4 G5 G6
          go_wp2_with (refine stA rfl (.tmp 6) (.tmp 60) rfl (w.heap.size + 1 + 1) rfl y6 rfl J6.out HZ6.out IsA.zer ?_)
          exact bodyPost_ret (res_arr2 Tryz.results10 rfl rfl (HZ6.out.put _) J6.out.size) rfl HE.out
        · have dE : (E2 != 0) = true := bne_iff_ne.2 h1
          obtain rfl := HEB.out trivial h1
          have HE := Lib.hid (HNO.out _ _ h1 G4.out)
          clear hz2 hb5 B5 j2 BC HEB h1 BK G7
          go_wp2_with (first
           | (refine stA rfl (.tmp 4) (.tmp 50) rfl (w.heap.size + 1) rfl z2 rfl J2.out HZ2.out I2.out ?_)
           | (refine st_arr rfl (.tmp 6) (.tmp 54) rfl (w.heap.size + 1 + 1) rfl false 0 (fun _ => 0) none 0 0 none 0 0 rfl G3.out rfl ?_))
          exact bodyPost_ret (res_arr2 Tryz.results10 rfl rfl (G3.out.put _) rfl) rfl HE.out
      · have dE : (E1 != 0) = true := bne_iff_ne.2 h0
        obtain rfl := HEA.out h0
        have HE := Lib.hid (HNO.out _ _ h0 G4.out)
        clear hz1 hb4 B4 j1 HY1 BC HEA HEB h0 BK EK2
        go_wp2_with (first
         | (refine stA rfl (.tmp 3) (.tmp 39) rfl (w.heap.size) rfl z1 rfl J1.out HZ1.out I1.out ?_)
         | (refine st_arr rfl (.tmp 6) (.tmp 43) rfl (w.heap.size + 1 + 1) rfl false 0 (fun _ => 0) none 0 0 none 0 0 rfl G3.out rfl ?_))
        exact bodyPost_ret (res_arr2 Tryz.results10 rfl rfl (G3.out.put _) rfl) rfl HE.out
end Go.Proofs.YtdlccnmhcggjiaaGreatDoor
