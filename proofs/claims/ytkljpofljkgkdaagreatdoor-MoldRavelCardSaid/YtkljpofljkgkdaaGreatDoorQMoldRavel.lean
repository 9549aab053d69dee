/-
  Proved: the law MoldRavel of package typeballlaw08 returns true for every plain array, under the row's own conditions.
-/
import Derived.Test.YtkljpofljkgkdaaGreatDoorQ1
import Derived.Test.YtkljpofljkgkdaaGreatDoorQ2
import Derived.Test.YtkljpofljkgkdaaGreatDoorQ3
import Derived.Test.YtkljpofljkgkdaaGreatDoorQ4
import Derived.Test.YtkljpofljkgkdaaGreatDoorQ5
import Derived.Test.YtkljpofljkgkdaaGreatDoorQ6
import Derived.Test.YtkljpofljkgkdaaGreatDoorQ7
import Derived.Test.YtkljpofljkgkdaaGreatDoorQ8
import Derived.Test.YtkljpofljkgkdaaGreatDoorQ9
import Derived.SizedLaws
import Derived.Test.YtkljpofljkgkdaaGreatDoorCards
import Derived.Test.YtkljpofljkgkdaaGreatDoorTie
import Derived.LaidMore
import Derived.Lay
import Derived.SevenTiedAt
import Derived.Stop.Joined
namespace Go.Proofs.YtkljpofljkgkdaaGreatDoor
open Go.ChangeShapes Go.WideShapes Go.ChangeAt Go.RowKit Go.WideMaps Go.WideElems
attribute [local go_sem ↓] Go.wp_at_zero Go.wp_at_succ

set_option linter.unusedSimpArgs false in
set_option maxHeartbeats 6400000 in
set_option maxRecDepth 100000 in
theorem moldRavel_walk (cs : Array Value) (S : Nat → Int) (r : Nat) (ch : Bool) (g : Nat → Int) (tn : Nat) (fB : Nat → Bool) (fS fT : Nat → ByteArray) (nn : Nat)
    (w : World) (h : PlnAt w cs S r ch g tn fB fS fT nn) (hS : In64 S r) (hz : ∀ j, j < nn → (fS j).size ≤ maxLen ∧ (fT j).size ≤ maxLen) :
    Calls Tryz.prog 7 #[.agg cs] w fun e w' => e = .returned (.bool true) ∧ Below w.heap.size w w' := by
  have HP := Lib.hid h
  obtain ⟨sa, sc, ta, tc, na, nc, rfl, _⟩ := h
  have LP := Lib.hid (fun wz h => light9_any (plC sa r sc ch ta tn tc na nn nc) S r ch g tn fB fS fT nn wz h hS hz)
  have AW := Lib.hid (fun wz => awake8_any wz)
  have SO := Lib.hid (fun cs p wz h => showsOk_any cs p wz h)
  have BB := Lib.hid ((Bag.start w).newRow (plC sa r sc ch ta tn tc na nn nc) 26)
  have HR := Lib.hid BB.out.now.1
  clear hS hz
  unfold plC
  go_enter Tryz.func7, Tryz.ntmps7
  go_wp2_with (refine ld_pln rfl (.tmp 1) rfl w.heap.size rfl HR.out ?_)
  go_at_call 8
  (with_reducible refine (LP.out _ ?_).mono ?_)
  · exact HP.out.below BB.out.below
  rintro e w2 ⟨b, rfl, hb, hb2⟩
  have BB := Lib.hid (BB.out.go hb2)
  clear hb2 LP
  cases b with
  | false =>
    clear hb HR
    go_wp2_with fail
    go_at_call 9
    (with_reducible refine (AW.out _).mono ?_)
    rintro e w9 ⟨rfl, hb9⟩
    have HE := Lib.hid (BB.out.go hb9).below
    clear hb9
    go_wp2
    go_ret
    exact ⟨rfl, HE.out⟩
  | true =>
    obtain ⟨L, rfl, rfl, hG⟩ := hb rfl
    clear hb
    have HR2 := Lib.hid BB.out.now.1
    have hGL := hG.le
    have h8 := hG.rank
    have hin := hG.in64
    obtain ⟨nP, hnP⟩ : ∃ f, gP fB fS fT = f := ⟨_, rfl⟩
    obtain ⟨nQ, hnQ⟩ : ∃ f, gQ fB fS fT = f := ⟨_, rfl⟩
    have OF := Lib.hid (fun wz h => of8_any (plC sa r sc ch ta (tnO ch L) tc na (nnO ch L) nc) S r ch L g fB fS fT wz h hG)
    have MS := Lib.hid (fun x wz (q : Arr wz x S r ch L g nP nQ) => moShape_any x S r ch L g nP nQ wz q h8 hin)
    have RV := Lib.hid (fun x wz (q : Arr wz x S r ch L g nP nQ) => ravel8_any x S r ch L g nP nQ wz q (by omega))
    have hwh : whC false r S (fun _ => 1) = true := by
      have : ∀ n, n ≤ r → whB S (fun _ => 1) n = true := fun n => by
        induction n with
        | zero => intro _; rfl
        | succ n ih =>
          intro hn
          have h1 := hin n (by omega)
          show (whB S (fun _ => 1) n && (decide (1 = 1) && fitB (S n))) = true
          rw [ih (by omega), decide_eq_true rfl]
          unfold fitB
          rw [decide_eq_true h1]
          rfl
      exact this r (Nat.le_refl _)
    have hrs : rsE 1 false r S (fun _ => 1) = 0 := by
      unfold rsE
      rw [hwh]
      have e1 : liE 1 true = 0 := rfl
      rw [e1, if_pos rfl, negB_iff.2 (fun j hj => ax_nn (sh_ax hG.sh).2 hj), if_neg (by decide), if_neg (by omega), hG.sh, if_pos rfl]
    have RS : Hid (∀ x0 x wz, Arr wz x0 (fun _ => (r : Int)) 1 false r (fun _ => 0) S (fun _ => 1) → Arr wz x (fun _ => (L : Int)) 1 ch L g nP nQ → Calls Tryz.prog 17 #[.agg x0, .agg x] wz fun e w' => ∃ y, e = .returned (.tuple #[.agg y, .int .i64 0]) ∧ Arr w' y S r ch L g nP nQ ∧ Below wz.heap.size wz w') := Lib.hid (fun x0 x wz q0 q =>
      (reshape_any x0 (fun _ => (r : Int)) 1 false r (fun _ => 0) S (fun _ => 1) x (fun _ => (L : Int)) 1 ch L g nP nQ wz q0 q (by omega) (fun _ _ _ => Nat.one_pos) (by omega) (by omega)).mono (by
        intro e w' hq
        obtain ⟨y, he, hy, hb⟩ := hq.ok hrs
        rw [hG.cnt, Int.toNat_natCast] at hy
        have hself : ∀ j, j < L → arG L j = (j : Int) := fun j hj => by unfold arG; rw [if_neg (by omega), Nat.mod_eq_of_lt hj]
        exact ⟨y, he, hy.on (fun j hj => by show elC L g 32 (arG L j) = g j; rw [hself j hj]; exact (el_at g nP nQ 32 hj).1.symm) (fun j hj => by show elP L nP (arG L j) = nP j; rw [hself j hj]; exact (el_at g nP nQ 32 hj).2.1.symm) (fun j hj => by show elQ L nQ (arG L j) = nQ j; rw [hself j hj]; exact (el_at g nP nQ 32 hj).2.2.symm), hb⟩))
    rw [hnP, hnQ] at OF
    clear hwh hrs hin HR
    go_wp2_with (refine ld_pln rfl (.tmp 1) rfl w.heap.size rfl HR2.out ?_)
    go_at_call 11
    (with_reducible refine (OF.out _ ?_).mono ?_)
    · exact HP.out.below BB.out.below
    rintro e w3 ⟨xa, rfl, ha, hb3⟩
    have B3 := (BB.out.go hb3).arr ha
    obtain ⟨c1, c2, c3, c4, c5, c6, c7, c8, c9, hxa⟩ := ha.isA
    subst hxa
    have BB := Lib.hid (B3.newRow (arrC c1 c2 c3 c4 c5 c6 c7 c8 c9) 34)
    clear ha hb3 B3 HR2
    unfold arrC
    go_wp2_with fail
    have hWW := BB.out.below
    unfold arrC at hWW
    unfold arrC at BB
    generalize hW : (w3.alloc (.cells _ 34)) = YY at *
    clear hW hWW
    have A1 : Hid (∀ yz, Below YY.heap.size YY yz → Arr yz (arrC c1 c2 c3 c4 c5 c6 c7 c8 c9) S r ch L g nP nQ) := Lib.hid (fun yz hb => Arr.below BB.out.now.2.1 hb)
    have RW1 : Hid (∀ yz, Below YY.heap.size YY yz → Row yz w3.heap.size 34 (arrC c1 c2 c3 c4 c5 c6 c7 c8 c9)) := Lib.hid (fun yz hb => Row.below BB.out.now.1 hb)
    have RWP : Hid (∀ yz, Below YY.heap.size YY yz → Row yz w.heap.size 26 (plC sa r sc ch ta (tnO ch L) tc na (nnO ch L) nc)) := Lib.hid (fun yz hb => Row.below BB.out.now.2.2.1 hb)
    have SZ1 : Hid (IsA (arrC c1 c2 c3 c4 c5 c6 c7 c8 c9)) := Lib.hid ⟨_, _, _, _, _, _, _, _, _, rfl⟩
    have BB := Lib.hid (Bag.fresh BB.out.below)
    generalize (arrC c1 c2 c3 c4 c5 c6 c7 c8 c9) = X1 at A1 RW1 SZ1
    refine wp_region_inv2 ⟨(fun j => ([[13], [14], [15], [16], [17], [12], [18], [19], [4], [4], [5]] : List (List Nat)).getD j []), (fun j => ([[], [0], [], [0, 1, 2], [0, 1, 2, 3], [0, 1, 2, 3, 4], [0, 1, 2, 3, 4, 5], [0, 1, 2, 3, 4, 5], [], [0, 1, 2, 3, 4, 5, 6, 8], [0, 1, 2, 3, 4, 5, 6, 7, 8, 9]] : List (List Nat)).getD j []), [8]⟩ (fun jj vv yy => match jj with | 0 => vv = [some (.agg X1)] | 1 => ∃ (x1 : Array Value), vv = [some (.agg x1)] ∧ ArrA yy x1 (fun _ => (r : Int)) 1 false r S (fun _ => 1) ∧ IsA x1 | 2 => vv = [some (.agg X1)] | 3 => ∃ (x3 : Array Value), vv = [some (.agg x3)] ∧ Arr yy x3 (fun _ => (L : Int)) 1 ch L g nP nQ ∧ IsA x3 | 4 => ∃ (x4 : Array Value), vv = [some (.tuple #[.agg x4, .int .i64 0])] ∧ Arr yy x4 S r ch L g nP nQ ∧ IsA x4 | 5 => ∃ (x4 : Array Value), vv = [some (.tuple #[.agg x4, .int .i64 0])] ∧ Arr yy x4 S r ch L g nP nQ ∧ IsA x4 | 6 => ∃ (x4 : Array Value), vv = [some (.agg x4)] ∧ Arr yy x4 S r ch L g nP nQ ∧ IsA x4 | 7 => vv = [some (.int .i64 0)] | 8 => ∃ (k8 : Nat), ∃ (z8 : Array Value), vv = [some (.pointer (some ⟨k8, 0, none⟩))] ∧ Row yy k8 34 z8 ∧ IsA z8 ∧ YY.heap.size ≤ k8 | 9 => ∃ (k8 : Nat), ∃ (x4 : Array Value), vv = [some (.pointer (some ⟨k8, 0, none⟩))] ∧ Row yy k8 34 x4 ∧ Arr yy x4 S r ch L g nP nQ ∧ IsA x4 | 10 => vv = [some (.int .i64 0)] | _ => True) (Bag YY (fun _ => True)) (by kernel_rfl) (by kernel_rfl) (by kernel_rfl) (Bag.start YY).drew ?_ ?_ ?_
    · intro jj vv yw yw2 hb h
      match jj, h with
      | 0, h => exact h
      | 1, ⟨x1, e1, g1_0, g1_1⟩ => exact Exists.intro x1 (And.intro e1 (And.intro (g1_0.below hb) g1_1))
      | 2, h => exact h
      | 3, ⟨x3, e3, g3_0, g3_1⟩ => exact Exists.intro x3 (And.intro e3 (And.intro (g3_0.below hb) g3_1))
      | 4, ⟨x4, e4, g4_0, g4_1⟩ => exact Exists.intro x4 (And.intro e4 (And.intro (g4_0.below hb) g4_1))
      | 5, ⟨x4, e5, g5_0, g5_1⟩ => exact Exists.intro x4 (And.intro e5 (And.intro (g5_0.below hb) g5_1))
      | 6, ⟨x4, e6, g6_0, g6_1⟩ => exact Exists.intro x4 (And.intro e6 (And.intro (g6_0.below hb) g6_1))
      | 7, h => exact h
      | 8, ⟨k8, z8, e8, g8_0, g8_1, g8_2⟩ => exact Exists.intro k8 (Exists.intro z8 (And.intro e8 (And.intro (g8_0.below hb) (And.intro g8_1 g8_2))))
      | 9, ⟨k8, x4, e9, g9_0, g9_1, g9_2⟩ => exact Exists.intro k8 (Exists.intro x4 (And.intro e9 (And.intro (g9_0.below hb) (And.intro (g9_1.below hb) g9_2))))
      | 10, h => exact h
      | _ + 11, h => exact h
    · intro ac yw hsz hdf hold hB hp
      obtain ⟨k8, x4, e9, r9, a9, i9⟩ := hp 9 (by decide)
      have t4 : ac.tmps[4]? = some (.pointer (some ⟨k8, 0, none⟩)) := (List.cons.inj e9).1
      have t5 : ac.tmps[5]? = some (.int .i64 0) := (List.cons.inj (hp 10 (by decide))).1
      have t1 : ac.tmps[1]? = some (.pointer (some ⟨w.heap.size, 0, none⟩)) := hold 1 (by kernel_rfl)
      have HRP := Lib.hid (RWP.out _ hB.below)
      have HSH := Lib.hid (hG.shown (by rw [hnP, hnQ]; exact a9) (HP.out.below (BB.out.go hB.below).below))
      have BB := Lib.hid (BB.out.go hB.below)
      obtain ⟨c1, c2, c3, c4, c5, c6, c7, c8, c9, hx4⟩ := i9
      subst hx4
      have HR8 := Lib.hid r9
      clear hold hp e9 r9 a9 hB
      obtain ⟨TW, hTW⟩ : ∃ TW : Nat → Value, ∀ i, (ac.tmps[i]?).getD undef = TW i := ⟨_, fun _ => rfl⟩
      have f1 := (hTW 1).symm.trans (congrArg (fun x => Option.getD x undef) t1)
      have f4 := (hTW 4).symm.trans (congrArg (fun x => Option.getD x undef) t4)
      have f5 := (hTW 5).symm.trans (congrArg (fun x => Option.getD x undef) t5)
      have hac := act_eq (n := 27) hsz TW hTW
      rw [show ((List.range 27).map TW).toArray = #[TW 0, TW 1, TW 2, TW 3, TW 4, TW 5, TW 6, TW 7, TW 8, TW 9, TW 10, TW 11, TW 12, TW 13, TW 14, TW 15, TW 16, TW 17, TW 18, TW 19, TW 20, TW 21, TW 22, TW 23, TW 24, TW 25, TW 26] from rfl, f1, f4, f5, hdf] at hac
      simp only [Option.getD_some] at hac
      subst hac
      clear hTW f1 f4 f5
      go_wp2_with (first
        | (refine ld_arr rfl (.tmp 4) rfl k8 rfl HR8.out ?_)
        | (refine ld_pln rfl (.tmp 1) rfl w.heap.size rfl HRP.out ?_))
      go_at_call 19
      (refine (SO.out _ _ _ HSH.out).mono ?_)
      rintro e w8 ⟨rfl, hb8⟩
      have BB := Lib.hid (BB.out.go hb8)
      clear hb8
      go_wp2_with fail
      go_at_call 9
      (with_reducible refine (AW.out _).mono ?_)
      rintro e w9 ⟨rfl, hb9⟩
      have HE := Lib.hid (BB.out.go hb9).below
      clear hb9
      go_wp2
      go_ret
      exact ⟨rfl, HE.out⟩
    refine Stps2.cons (o := _) ?_ ?_
    · intro ac yw hsz hold hB hp K hK
      have t3 : ac.tmps[3]? = some (.pointer (some ⟨w3.heap.size, 0, none⟩)) := hold 3 (by kernel_rfl)
      clear hold hp hsz
      rw [if_pos (by rfl)]
      refine ld8 3 rfl (w3.heap.size) (X1) t3 (RW1.out _ hB.below) (SZ1.out.size) ?_
      exact hK.out _ _ ⟨hB, rfl, Nat.le_refl _, .inl (Below.refl _ _), fun h => absurd h (by decide)⟩
    refine Stps2.cons (o := _) ?_ ?_
    · intro ac yw hsz hold hB hp K hK
      have e0 := hp 0 (by decide)
      have t13 : ac.tmps[13]? = some (.agg X1) := (List.cons.inj e0).1
      clear hold hp hsz e0
      go_simp
      (go_at_call 14; (refine (MS.out _ _ (A1.out _ hB.below)).mono ?_); rintro e wz ⟨x1, rfl, h1_0, hbz⟩)
      exact hK.out _ _ ⟨hB.go hbz, Exists.intro x1 (And.intro rfl (And.intro h1_0 ((h1_0 (fun _ => 0)).isA))), hbz.size, .inl hbz, fun h => absurd h (by decide)⟩
    refine Stps2.cons (o := _) ?_ ?_
    · intro ac yw hsz hold hB hp K hK
      have t3 : ac.tmps[3]? = some (.pointer (some ⟨w3.heap.size, 0, none⟩)) := hold 3 (by kernel_rfl)
      clear hold hp hsz
      rw [if_pos (by rfl)]
      refine ld8 3 rfl (w3.heap.size) (X1) t3 (RW1.out _ hB.below) (SZ1.out.size) ?_
      exact hK.out _ _ ⟨hB, rfl, Nat.le_refl _, .inl (Below.refl _ _), fun h => absurd h (by decide)⟩
    refine Stps2.cons (o := _) ?_ ?_
    · intro ac yw hsz hold hB hp K hK
      have e2 := hp 2 (by decide)
      have t15 : ac.tmps[15]? = some (.agg X1) := (List.cons.inj e2).1
      clear hold hp hsz e2
      go_simp
      (go_at_call 29; (refine (RV.out _ _ (A1.out _ hB.below)).mono ?_); rintro e wz ⟨x3, rfl, h3_0, hbz⟩)
      exact hK.out _ _ ⟨hB.go hbz, Exists.intro x3 (And.intro rfl (And.intro h3_0 h3_0.isA)), hbz.size, .inl hbz, fun h => absurd h (by decide)⟩
    refine Stps2.cons (o := _) ?_ ?_
    · intro ac yw hsz hold hB hp K hK
      obtain ⟨x1_1, e1, g1_0, g1_1⟩ := hp 1 (by decide)
      have t14 : ac.tmps[14]? = some (.agg x1_1) := (List.cons.inj e1).1
      obtain ⟨x3_3, e3, g3_0, g3_1⟩ := hp 3 (by decide)
      have t16 : ac.tmps[16]? = some (.agg x3_3) := (List.cons.inj e3).1
      clear hold hp hsz e1 e3
      go_simp
      (go_at_call 17; (refine (RS.out _ _ _ (g1_0 _) g3_0).mono ?_); rintro e wz ⟨x4, rfl, h4_0, hbz⟩)
      exact hK.out _ _ ⟨hB.go hbz, Exists.intro x4 (And.intro rfl (And.intro h4_0 h4_0.isA)), hbz.size, .inl hbz, fun h => absurd h (by decide)⟩
    refine Stps2.cons (o := _) ?_ ?_
    · intro ac yw hsz hold hB hp K hK
      obtain ⟨x4_4, e4, g4_0, g4_1⟩ := hp 4 (by decide)
      have t17 : ac.tmps[17]? = some (.tuple #[.agg x4_4, .int .i64 0]) := (List.cons.inj e4).1
      clear hold hp hsz e4
      go_simp
      exact hK.out _ _ ⟨hB, Exists.intro x4_4 (And.intro rfl (And.intro g4_0 g4_1)), Nat.le_refl _, .inl (Below.refl _ _), fun h => absurd h (by decide)⟩
    refine Stps2.cons (o := _) ?_ ?_
    · intro ac yw hsz hold hB hp K hK
      obtain ⟨x4_5, e5, g5_0, g5_1⟩ := hp 5 (by decide)
      have t12 : ac.tmps[12]? = some (.tuple #[.agg x4_5, .int .i64 0]) := (List.cons.inj e5).1
      clear hold hp hsz e5
      go_simp
      exact hK.out _ _ ⟨hB, Exists.intro x4_5 (And.intro rfl (And.intro g5_0 g5_1)), Nat.le_refl _, .inl (Below.refl _ _), fun h => absurd h (by decide)⟩
    refine Stps2.cons (o := _) ?_ ?_
    · intro ac yw hsz hold hB hp K hK
      obtain ⟨x4_5, e5, g5_0, g5_1⟩ := hp 5 (by decide)
      have t12 : ac.tmps[12]? = some (.tuple #[.agg x4_5, .int .i64 0]) := (List.cons.inj e5).1
      clear hold hp hsz e5
      go_simp
      exact hK.out _ _ ⟨hB, rfl, Nat.le_refl _, .inl (Below.refl _ _), fun h => absurd h (by decide)⟩
    refine Stps2.cons (o := _) ?_ ?_
    · intro ac yw hsz hold hB hp K hK
      clear hold hp hsz
      have hbz : Below yw.heap.size yw (yw.alloc (.cells zerC 34)) ∧ yw.heap.size < (yw.alloc (.cells zerC 34)).heap.size := ⟨(Below.refl _ _).alloc (Nat.le_refl _) _, by rw [World.size_alloc]; omega⟩
      go_simp
      exact hK.out _ _ ⟨hB.alloc _, Exists.intro yw.heap.size (Exists.intro zerC (And.intro rfl (And.intro ((Row.new yw _ zerC)) (And.intro IsA.zer hB.below.size)))), Nat.le_of_lt hbz.2, .inl hbz.1, fun _ => ⟨_, rfl, Nat.le_refl _, hbz.2⟩⟩
    refine Stps2.cons (o := _) ?_ ?_
    · intro ac yw hsz hold hB hp K hK
      obtain ⟨k8_8, z8_8, e8, g8_0, g8_1, g8_2⟩ := hp 8 (by decide)
      have t4 : ac.tmps[4]? = some (.pointer (some ⟨k8_8, 0, none⟩)) := (List.cons.inj e8).1
      obtain ⟨x4_6, e6, g6_0, g6_1⟩ := hp 6 (by decide)
      have t18 : ac.tmps[18]? = some (.agg x4_6) := (List.cons.inj e6).1
      clear hold hp hsz e8 e6
      rw [if_pos (by rfl)]
      have HB : Bag _ (fun _ => True) (yw.setRow k8_8 x4_6) := ⟨below_put hB.below g8_2 _, fun _ _ _ _ => trivial, trivial⟩
      refine st8 4 18 rfl k8_8 x4_6 t4 t18 _ z8_8 g8_0 g8_1 g6_1 ?_
      refine hK.out undef _ ⟨HB, Exists.intro k8_8 (Exists.intro x4_6 (And.intro (congrArg (fun x => [x]) t4) (And.intro (g8_0.put _) (And.intro (g6_0.store g8_0 g8_1 _) g6_1)))), by simp [World.setRow], .inr ?_, fun h => absurd h (by decide)⟩
      intro jj hj hap h
      match jj, h with
      | 0, h => exact h
      | 1, ⟨x1, e1, g1_0, g1_1⟩ =>
        exact Exists.intro x1 (And.intro e1 (And.intro (g1_0.store g8_0 g8_1 _) g1_1))
      | 2, h => exact h
      | 3, ⟨x3, e3, g3_0, g3_1⟩ =>
        exact Exists.intro x3 (And.intro e3 (And.intro (g3_0.store g8_0 g8_1 _) g3_1))
      | 4, ⟨x4, e4, g4_0, g4_1⟩ =>
        exact Exists.intro x4 (And.intro e4 (And.intro (g4_0.store g8_0 g8_1 _) g4_1))
      | 5, ⟨x4, e5, g5_0, g5_1⟩ =>
        exact Exists.intro x4 (And.intro e5 (And.intro (g5_0.store g8_0 g8_1 _) g5_1))
      | 6, ⟨x4, e6, g6_0, g6_1⟩ =>
        exact Exists.intro x4 (And.intro e6 (And.intro (g6_0.store g8_0 g8_1 _) g6_1))
      | 7, h => exact h
      | 8, ⟨k8, z8, e8, g8_0, g8_1, g8_2⟩ =>
        have e9 : k8 = k8_8 := by have := (List.cons.inj e8).1.symm.trans t4; cases this; rfl
        subst e9
        exact Exists.intro _ (Exists.intro _ (And.intro e8 (And.intro (g8_0.put _) (And.intro g6_1 g8_2))))
      | 9, _ => exact absurd rfl hj
      | 10, h => exact h
      | _ + 11, h => exact h
    refine Stps2.cons (o := _) ?_ ?_
    · intro ac yw hsz hold hB hp K hK
      have e7 := hp 7 (by decide)
      have t19 : ac.tmps[19]? = some (.int .i64 0) := (List.cons.inj e7).1
      clear hold hp hsz e7
      go_simp
      exact hK.out _ _ ⟨hB, rfl, Nat.le_refl _, .inl (Below.refl _ _), fun h => absurd h (by decide)⟩
    exact Stps2.nil _

theorem own : ownKnob Tryz.prog.godebug = none := by kernel_rfl
theorem laidOut : laidOutB Tryz.prog = true := by kernel_rfl

set_option maxRecDepth 100000 in
theorem moldRavel_lifted (os : Os) (started : os.Started) (H : Type) (enc : TypeId × Value → H) :
    ReturnsInHanded {} Tryz.checked os 7 .any (fun w args => (Rows.moldRavelSpec.pre enc Tryz.prog Tryz.f7 [] false w args ∧ laidMetH Tryz.prog Rows.moldRavelRow.laid w) ∧ sizedMet enc Tryz.prog Tryz.f7 (OpenSpec.ofChange Rows.moldRavelSpec) false w args)
      (Rows.moldRavelSpec.post enc Tryz.prog Tryz.f7 false true false false) := by
  refine returnsInHanded_of_change_and (C := Tryz.checked) (X := fun w _ => laidMetH Tryz.prog Rows.moldRavelRow.laid w) (fun _ _ _ hh h => h.of_heap hh) own started (by kernel_rfl) Tryz.func7
    (ChangeSpec.witness_shaped (enc := enc) (C := Tryz.checked) (os := os) (X := fun w _ => laidMetH Tryz.prog Rows.moldRavelRow.laid w) false (World.laidAll Tryz.prog os Rows.moldRavelRow.laid) #[.agg #[.slice none 0 0, .bool false, .slice none 0 0, .slice none 0 0]] 8 (World.laidAll_os _ _ _)
      (World.shaped_of_ZipB (by kernel_rfl) (by kernel_rfl)) (by kernel_rfl) (by kernel_rfl) (by kernel_rfl)
      (by rw [MakeChecks.laidMetH_plain _ _ _ (by kernel_rfl)]; exact laidMet_laidAll _ (by kernel_rfl) (by kernel_rfl))) ?_
  intro W base args ds gs before hval0 hW _ _ _ _
  have hval : ∀ (j : Nat) t v, Tryz.f7.params[j]? = some t → args[j]? = some v → Value.okWide Tryz.prog W .any base t v := hval0
  have hW' := hW
  obtain ⟨p, q, hA0, hV, rfl, _, _⟩ := hW
  have hA : DataW.TrodAll enc Tryz.prog W 0 (fun _ => true) true Tryz.f7.params.toList args.toList ds p := hA0
  rw [Tryz.params7] at hA hval
  obtain ⟨v0, d0, rfl, rfl, h0⟩ := trodAll_one hA
  obtain ⟨rfl, rfl⟩ := trodVars_none hV
  obtain ⟨cs0, S0, q0, ch0, g0, tn0, fB0, fS0, fT0, nn0, rfl, k0, w0, z0⟩ := open_pln (hval 0 26 v0 rfl rfl) h0
  have hlt : ∀ y ∈ p, y.block < W.heap.size := fun y hy => by simpa using hW'.lt y (by simpa using hy)
  simp only [List.append_nil] at hW'
  refine (moldRavel_walk cs0 S0 q0 ch0 g0 tn0 fB0 fS0 fT0 nn0 W k0 w0 z0).mono fun e W' ⟨he, hb⟩ => ?_
  subst he
  exact ⟨_, rfl, _, _, _, [], _, [], hW', trodAll_mk1 (shut_bool Tryz.underlying4 _), trodAll_mk1 (Below.trod laidOut (by kernel_rfl) (of_decide_eq_true (by kernel_rfl)) h0 hb (fun y hy => hlt y (by simp [hy]))), rfl, hb.frame _, fun h => by cases h⟩

theorem moldRavel_row : Rows.MoldRavelSaid :=
  OpenClaim.holds_of_wide 7 Tryz.f7 rfl rfl rfl rfl rfl rfl rfl ⟨rfl, rfl, rfl, rfl, rfl⟩ rfl rfl rfl rfl rfl (by kernel_rfl) Tryz.func7 (by kernel_rfl)
    (of_decide_eq_true (by kernel_rfl)) (by unfold Func.isWrapper; first | (rw [if_pos (by decide +kernel)]; kernel_rfl) | (rw [if_neg (by decide +kernel)]; exact ⟨rfl, rfl⟩))
    (fun os started H enc _ => moldRavel_lifted os started H enc)

theorem moldRavel_holds : Rows.MoldRavelCardSaid :=
  Claim7.holds_tied_plain_at .later [] [.data, .pinned] true Rows.moldRavelCard.stood.harness Rows.moldRavelCard.stood.looks moldRavel_row (fun _ h => by cases h) (by kernel_rfl) (fun _ h => by cases h) moldRavel_row_tie rfl ⟨rfl, rfl⟩ (by kernel_rfl) rfl
    (fun f fn hf hfn => by
      obtain rfl : f = 7 := Option.some.inj ((show Tryz.prog.funcNamed "typeball/typeballlaw08.MoldRavel" = some 7 by kernel_rfl).symm.trans hf) |>.symm
      obtain rfl : fn = Tryz.f7 := (Option.some.inj (Tryz.func7.symm.trans hfn)).symm
      exact ⟨by kernel_rfl, fun j t ht => by
        rw [Tryz.params7] at ht
        have hm : t ∈ [26] := by simpa using Array.mem_of_getElem? ht
        have hall : ([26].all fun u => !Tryz.prog.wantsStandIn u) = true := by kernel_rfl
        exact (show Tryz.prog.wantsStandIn t = false by simpa using List.all_eq_true.1 hall t hm)⟩)
    (by kernel_rfl)
#print axioms moldRavel_holds
end Go.Proofs.YtkljpofljkgkdaaGreatDoor
