/-
  Proved: the law MoldBack of package typeballlaw08 returns true for every plain array and number, under the row's own conditions.
-/
import Derived.Test.YtkljpofljkgkdaaGreatDoorQ1
import Derived.Test.YtkljpofljkgkdaaGreatDoorQ2
import Derived.Test.YtkljpofljkgkdaaGreatDoorQ3
import Derived.Test.YtkljpofljkgkdaaGreatDoorQ4
import Derived.Test.YtkljpofljkgkdaaGreatDoorQ5
import Derived.Test.YtkljpofljkgkdaaGreatDoorQ6
import Derived.Test.YtkljpofljkgkdaaGreatDoorQ7
import Derived.Test.YtkljpofljkgkdaaGreatDoorQ8
import Derived.Test.YtkljpofljkgkdaaGreatDoorQ9
import Derived.Test.YtkljpofljkgkdaaGreatDoorB1
import Derived.SizedLaws
import Derived.Test.YtkljpofljkgkdaaGreatDoorCards
import Derived.Test.YtkljpofljkgkdaaGreatDoorTie
import Derived.LaidMore
import Derived.Lay
import Derived.SevenTiedAt
import Derived.Stop.Joined
namespace Go.Proofs.YtkljpofljkgkdaaGreatDoor
open Go.ChangeShapes Go.WideShapes Go.ChangeAt Go.RowKit Go.WideMaps Go.WideElems
attribute [local go_sem ↓] Go.wp_at_zero Go.wp_at_succ

set_option linter.unusedSimpArgs false in
set_option maxHeartbeats 6400000 in
set_option maxRecDepth 100000 in
theorem moldBack_walk (cs : Array Value) (S : Nat → Int) (r : Nat) (ch : Bool) (g : Nat → Int) (tn : Nat) (fB : Nat → Bool) (fS fT : Nat → ByteArray) (nn : Nat) (n : Int)
    (w : World) (h : PlnAt w cs S r ch g tn fB fS fT nn) (hS : In64 S r) (hz : ∀ j, j < nn → (fS j).size ≤ maxLen ∧ (fT j).size ≤ maxLen) (hn : -2147483648 ≤ n ∧ n ≤ 2147483647) :
    Calls Tryz.prog 6 #[.agg cs, .int .i32 n] w fun e w' => e = .returned (.bool true) ∧ Below w.heap.size w w' := by
  have HP := Lib.hid h
  obtain ⟨sa, sc, ta, tc, na, nc, rfl, _⟩ := h
  have LP := Lib.hid (fun wz h => light9_any (plC sa r sc ch ta tn tc na nn nc) S r ch g tn fB fS fT nn wz h hS hz)
  have AW := Lib.hid (fun wz => awake8_any wz)
  have SO := Lib.hid (fun cs p wz h => showsOk_any cs p wz h)
  have BB := Lib.hid ((Bag.start w).newRow (plC sa r sc ch ta tn tc na nn nc) 26)
  have HR := Lib.hid BB.out.now.1
  have hw1 := IntWalk.i64_in n (by omega)
  have hw2 := IntWalk.i64_in (-n) (by omega)
  have IT := Lib.hid (fun wz => int8_any n wz (by omega))
  have IT2 := Lib.hid (fun wz => int8_any (-n) wz (by omega))
  have hnn := hn
  clear hS hz hn
  unfold plC
  go_enter Tryz.func6, Tryz.ntmps6
  go_wp2_with (refine ld_pln rfl (.tmp 2) rfl w.heap.size rfl HR.out ?_)
  go_at_call 8
  (with_reducible refine (LP.out _ ?_).mono ?_)
  · exact HP.out.below BB.out.below
  rintro e w2 ⟨b, rfl, hb, hb2⟩
  have BB := Lib.hid (BB.out.go hb2)
  clear hb2 LP
  cases b with
  | false =>
    clear hb HR
    go_wp2_with fail
    go_at_call 9
    (with_reducible refine (AW.out _).mono ?_)
    rintro e w9 ⟨rfl, hb9⟩
    have HE := Lib.hid (BB.out.go hb9).below
    clear hb9
    go_wp2
    go_ret
    exact ⟨rfl, HE.out⟩
  | true =>
    obtain ⟨L, rfl, rfl, hG⟩ := hb rfl
    clear hb
    have HR2 := Lib.hid BB.out.now.1
    have hGL := hG.le
    have h8 := hG.rank
    have hin := hG.in64
    obtain ⟨nP, hnP⟩ : ∃ f, gP fB fS fT = f := ⟨_, rfl⟩
    obtain ⟨nQ, hnQ⟩ : ∃ f, gQ fB fS fT = f := ⟨_, rfl⟩
    have OF := Lib.hid (fun wz h => of8_any (plC sa r sc ch ta (tnO ch L) tc na (nnO ch L) nc) S r ch L g fB fS fT wz h hG)
    have hsm := hG.small
    have htd := hG.told
    have hps := hG.pos
    rw [hnP, hnQ] at OF hsm htd
    obtain ⟨M1, hM1⟩ : ∃ M : Nat, itm (mnF S (rvT r) r) r = M := ⟨(itm (mnF S (rvT r) r) r).toNat, by have := ax_bd (sh_ax (rvT_shape hG.sh)).2; omega⟩
    have hM2 : itm (mnF (mnF S (rvT r) r) (rvT r) r) r = (L : Nat) := by rw [itm_congr (fun j hj => rv_twice hG.sh hj)]; exact hG.cnt
    have hin1 : In64 (mnF S (rvT r) r) r := fun j hj => by have := ax_le4 (rvT_shape hG.sh) hj; omega
    obtain ⟨S1, hS1⟩ : ∃ f, mnF S (rvT r) r = f := ⟨_, rfl⟩
    obtain ⟨g1, hg1⟩ : ∃ f : Nat → Int, (fun j => elC L g 32 (mvG S (rvT r) r r j)) = f := ⟨_, rfl⟩
    obtain ⟨P1, hP1⟩ : ∃ f : Nat → Int, (fun j => elP L nP (mvG S (rvT r) r r j)) = f := ⟨_, rfl⟩
    obtain ⟨Q1, hQ1⟩ : ∃ f : Nat → Nat, (fun j => elQ L nQ (mvG S (rvT r) r r j)) = f := ⟨_, rfl⟩
    have TR1 : Hid (∀ x wz, Arr wz x S r ch L g nP nQ → Calls Tryz.prog 26 #[.agg x] wz fun e w' => ∃ y, e = .returned (.agg y) ∧ Arr w' y S1 r ch M1 g1 P1 Q1 ∧ Below wz.heap.size wz w') := Lib.hid (fun x wz q => by
      have := transpose_any x S r ch L g nP nQ M1 wz q hin hG.sh hM1
      rw [hS1, hg1, hP1, hQ1] at this
      exact this)
    have TR2 : Hid (∀ x wz, Arr wz x S1 r ch M1 g1 P1 Q1 → Calls Tryz.prog 26 #[.agg x] wz fun e w' => ∃ y, e = .returned (.agg y) ∧ Arr w' y S r ch L g nP nQ ∧ Below wz.heap.size wz w') := Lib.hid (fun x wz q => by
      subst hS1 hg1 hP1 hQ1
      refine (transpose_any x _ r ch M1 _ _ _ L wz q hin1 (rvT_shape hG.sh) hM2).mono ?_
      rintro e w' ⟨y, he, hy, hb⟩
      refine ⟨y, he, ?_, hb⟩
      exact (hy.shape (fun j hj => rv_twice hG.sh hj)).back (fun j hj => by
        have := tt_back hG.sh hG.cnt hj
        rw [hM1] at this
        exact this))
    have PL := Lib.hid (fun x wz (q : Arr wz x S r ch L g nP nQ) => plain8_any x S r ch L g nP nQ wz h8 q (by omega) hsm)
    have SM := Lib.hid (fun x wz (q : Pln wz x S r ch L g (fun j => rB (nP j)) (fun j => rS (nP j)) (fun j => str (dec (nQ j)))) (z : Pln wz (plC sa r sc ch ta (tnO ch L) tc na (nnO ch L) nc) S r ch L g fB fS fT) => pl_same (plB_of2 (fun _ _ => rfl) (fun _ _ => rfl) htd) q z)
    obtain ⟨gR, hgR⟩ : ∃ f : Nat → Int, (fun j => elC L g 32 (rvG S r (-1) (revF (S (axI r (-1)).toNat)) j)) = f := ⟨_, rfl⟩
    obtain ⟨PR, hPR⟩ : ∃ f : Nat → Int, (fun j => elP L nP (rvG S r (-1) (revF (S (axI r (-1)).toNat)) j)) = f := ⟨_, rfl⟩
    obtain ⟨QR, hQR⟩ : ∃ f : Nat → Nat, (fun j => elQ L nQ (rvG S r (-1) (revF (S (axI r (-1)).toNat)) j)) = f := ⟨_, rfl⟩
    have hrE : rvE r (-1) = 0 := by
      unfold rvE
      rcases last_axis r with ⟨_, e⟩ | ⟨_, e, _, e2⟩
      · rw [e, if_pos rfl]
      · rw [e, e2, if_neg (by decide), if_pos rfl]
    have RV1 : Hid (∀ x wz, Arr wz x S r ch L g nP nQ → Calls Tryz.prog 20 #[.agg x, .int .i64 (-1)] wz fun e w' => ∃ y, e = .returned (.tuple #[.agg y, .int .i64 0]) ∧ Arr w' y S r ch L gR PR QR ∧ Below wz.heap.size wz w') := Lib.hid (fun x wz q => (moReverse_any x S r ch L g nP nQ (-1) wz q hin hG.sh hG.cnt).mono (by
      intro e w' hq
      have := hq.ok hrE
      rw [hgR, hPR, hQR] at this
      exact this))
    have RV2 : Hid (∀ x wz, Arr wz x S r ch L gR PR QR → Calls Tryz.prog 20 #[.agg x, .int .i64 (-1)] wz fun e w' => ∃ y, e = .returned (.tuple #[.agg y, .int .i64 0]) ∧ Arr w' y S r ch L g nP nQ ∧ Below wz.heap.size wz w') := Lib.hid (fun x wz q => (moReverse_any x S r ch L gR PR QR (-1) wz q hin hG.sh hG.cnt).mono (by
      intro e w' hq
      obtain ⟨y, he, hy, hb⟩ := hq.ok hrE
      subst hgR hPR hQR
      refine ⟨y, he, hy.back (fun j hj => ?_), hb⟩
      rcases last_axis r with ⟨_, e2⟩ | ⟨e1, e2, e3, e4⟩
      · unfold rvG; rw [e2, if_pos rfl, if_pos rfl]; omega
      · rw [e3, Int.toNat_natCast]
        exact rv_back hG.sh hG.cnt (fun row i hi => by show 0 ≤ S (r - 1) - 1 - (i : Int) ∧ S (r - 1) - 1 - (i : Int) < S (r - 1); omega) (fun row i hi => rev_back hi) hj))
    obtain ⟨gT, hgT⟩ : ∃ f : Nat → Int, (fun j => elC L g 32 (rtG S r (-1) 0 1 (fun _ => n) j)) = f := ⟨_, rfl⟩
    obtain ⟨PT, hPT⟩ : ∃ f : Nat → Int, (fun j => elP L nP (rtG S r (-1) 0 1 (fun _ => n) j)) = f := ⟨_, rfl⟩
    obtain ⟨QT, hQT⟩ : ∃ f : Nat → Nat, (fun j => elQ L nQ (rtG S r (-1) 0 1 (fun _ => n) j)) = f := ⟨_, rfl⟩
    have htE : ∀ m : Int, -9223372036854775808 ≤ m ∧ m ≤ 9223372036854775807 → rtE (fun _ => 0) 0 false 1 (fun _ => m) (fun _ => 1) S r (-1) = 0 := fun m hm => by
      unfold rtE
      have e0 : whC false 1 (fun _ => m) (fun _ => 1) = true := by
        show (true && (decide (1 = 1) && fitB m)) = true
        unfold fitB
        rw [decide_eq_true hm]
        rfl
      rw [e0, if_pos rfl]
      rcases last_axis r with ⟨_, e⟩ | ⟨_, e, _, e2⟩
      · rw [e, if_pos rfl, if_pos rfl]
      · rw [e, e2, if_neg (by decide), if_pos rfl]
        rfl
    have RO1 : Hid (∀ x0 x wz, ArrA wz x0 (fun _ => 0) 0 false 1 (fun _ => n) (fun _ => 1) → Arr wz x S r ch L g nP nQ → Calls Tryz.prog 22 #[.agg x0, .agg x, .int .i64 (-1)] wz fun e w' => ∃ y, e = .returned (.tuple #[.agg y, .int .i64 0]) ∧ Arr w' y S r ch L gT PT QT ∧ Below wz.heap.size wz w') := Lib.hid (fun x0 x wz q0 q => (rotate_any x0 (fun _ => 0) 0 false 1 (fun _ => 0) (fun _ => n) (fun _ => 1) x S r ch L g nP nQ (-1) wz (q0 _) q (by omega) (fun _ _ _ => Nat.one_pos) (by omega) rfl hin hG.sh hG.cnt).mono (by
      intro e w' hq
      have := hq.ok (htE n (by have := hnn; omega))
      rw [hgT, hPT, hQT] at this
      exact this))
    have RO2 : Hid (∀ x0 x wz, ArrA wz x0 (fun _ => 0) 0 false 1 (fun _ => -n) (fun _ => 1) → Arr wz x S r ch L gT PT QT → Calls Tryz.prog 22 #[.agg x0, .agg x, .int .i64 (-1)] wz fun e w' => ∃ y, e = .returned (.tuple #[.agg y, .int .i64 0]) ∧ Arr w' y S r ch L g nP nQ ∧ Below wz.heap.size wz w') := Lib.hid (fun x0 x wz q0 q => (rotate_any x0 (fun _ => 0) 0 false 1 (fun _ => 0) (fun _ => -n) (fun _ => 1) x S r ch L gT PT QT (-1) wz (q0 _) q (by omega) (fun _ _ _ => Nat.one_pos) (by omega) rfl hin hG.sh hG.cnt).mono (by
      intro e w' hq
      obtain ⟨y, he, hy, hb⟩ := hq.ok (htE (-n) (by have := hnn; omega))
      subst hgT hPT hQT
      refine ⟨y, he, hy.back (fun j hj => ?_), hb⟩
      unfold rtG
      have e5 : ∀ m : Int, rtT 0 1 (fun _ => m) = fun _ => m := fun m => rfl
      rw [e5, e5]
      rcases last_axis r with ⟨_, e2⟩ | ⟨e1, e2, e3, e4⟩
      · unfold rvG; rw [e2, if_pos rfl, if_pos rfl]; omega
      · rw [e3, Int.toNat_natCast]
        have h4 := ax_le4 hG.sh (show r - 1 < r by omega)
        exact rv_back (F := rotF (fun _ => -n) (S (r - 1)).toNat) (F2 := rotF (fun _ => n) (S (r - 1)).toNat) hG.sh hG.cnt (fun row i hi => by have := rotF_in (fun _ => -n) (N := (S (r - 1)).toNat) (by omega) row i; omega) (fun row i hi => rot_back (by omega) (by omega)) hj))
    clear hin hsm htd hps hM1 hM2 hin1 hS1 hg1 hP1 hQ1 hgR hPR hQR hrE hgT hPT hQT htE HR hnn
    go_wp2_with (refine ld_pln rfl (.tmp 2) rfl w.heap.size rfl HR2.out ?_)
    go_at_call 11
    (with_reducible refine (OF.out _ ?_).mono ?_)
    · exact HP.out.below BB.out.below
    rintro e w3 ⟨xa, rfl, ha, hb3⟩
    have B3 := (BB.out.go hb3).arr ha
    obtain ⟨c1, c2, c3, c4, c5, c6, c7, c8, c9, hxa⟩ := ha.isA
    subst hxa
    have BB := Lib.hid (B3.newRow (arrC c1 c2 c3 c4 c5 c6 c7 c8 c9) 34)
    clear ha hb3 B3 HR2
    unfold arrC
    go_wp2_with fail
    have hWW := BB.out.below
    unfold arrC at hWW
    unfold arrC at BB
    generalize hW : (w3.alloc (.cells _ 34)) = YY at *
    clear hW hWW
    have A1 : Hid (∀ yz, Below YY.heap.size YY yz → Arr yz (arrC c1 c2 c3 c4 c5 c6 c7 c8 c9) S r ch L g nP nQ) := Lib.hid (fun yz hb => Arr.below BB.out.now.2.1 hb)
    have RW1 : Hid (∀ yz, Below YY.heap.size YY yz → Row yz w3.heap.size 34 (arrC c1 c2 c3 c4 c5 c6 c7 c8 c9)) := Lib.hid (fun yz hb => Row.below BB.out.now.1 hb)
    have RWP : Hid (∀ yz, Below YY.heap.size YY yz → Row yz w.heap.size 26 (plC sa r sc ch ta (tnO ch L) tc na (nnO ch L) nc)) := Lib.hid (fun yz hb => Row.below BB.out.now.2.2.1 hb)
    have SZ1 : Hid (IsA (arrC c1 c2 c3 c4 c5 c6 c7 c8 c9)) := Lib.hid ⟨_, _, _, _, _, _, _, _, _, rfl⟩
    have BB := Lib.hid (Bag.fresh BB.out.below)
    generalize (arrC c1 c2 c3 c4 c5 c6 c7 c8 c9) = X1 at A1 RW1 SZ1
    refine wp_region_inv2 ⟨(fun j => ([[20], [21], [22], [23], [24], [25], [26]] : List (List Nat)).getD j []), (fun j => ([[], [0], [0, 1], [0, 1, 2], [], [0, 1, 2, 3, 4], [0, 1, 2, 3, 4, 5]] : List (List Nat)).getD j []), []⟩ (fun jj vv yy => match jj with | 0 => vv = [some (.agg X1)] | 1 => ∃ (x1 : Array Value), vv = [some (.agg x1)] ∧ Arr yy x1 S1 r ch M1 g1 P1 Q1 ∧ IsA x1 | 2 => ∃ (x2 : Array Value), vv = [some (.agg x2)] ∧ Arr yy x2 S r ch L g nP nQ ∧ IsA x2 | 3 => ∃ (x3 : Array Value), vv = [some (.agg x3)] ∧ Pln yy x3 S r ch L g (fun j => rB (nP j)) (fun j => rS (nP j)) (fun j => str (dec (nQ j))) | 4 => vv = [some (.agg (plC sa r sc ch ta (tnO ch L) tc na (nnO ch L) nc))] | 5 => vv = [some (.bool true)] | 6 => vv = [some (.bool false)] | _ => True) (Bag YY (fun _ => True)) (by kernel_rfl) (by kernel_rfl) (by kernel_rfl) (Bag.start YY).drew ?_ ?_ ?_
    · intro jj vv yw yw2 hb h
      match jj, h with
      | 0, h => exact h
      | 1, ⟨x1, e1, g1_0, g1_1⟩ => exact Exists.intro x1 (And.intro e1 (And.intro (g1_0.below hb) g1_1))
      | 2, ⟨x2, e2, g2_0, g2_1⟩ => exact Exists.intro x2 (And.intro e2 (And.intro (g2_0.below hb) g2_1))
      | 3, ⟨x3, e3, g3_0⟩ => exact Exists.intro x3 (And.intro e3 (g3_0.below hb))
      | 4, h => exact h
      | 5, h => exact h
      | 6, h => exact h
      | _ + 7, h => exact h
    · intro ac yw hsz hdf hold hB hp
      have t26 : ac.tmps[26]? = some (.bool false) := (List.cons.inj (hp 6 (by decide))).1
      have t1 : ac.tmps[1]? = some (.int .i32 n) := hold 1 (by kernel_rfl)
      have t2 : ac.tmps[2]? = some (.pointer (some ⟨w.heap.size, 0, none⟩)) := hold 2 (by kernel_rfl)
      have t5 : ac.tmps[5]? = some (.pointer (some ⟨w3.heap.size, 0, none⟩)) := hold 5 (by kernel_rfl)
      have BB := Lib.hid (((((Bag.fresh (BB.out.go hB.below).below).row (RWP.out _ hB.below)).arr (A1.out _ hB.below)).row (RW1.out _ hB.below)))
      have HR1 := Lib.hid BB.out.now.1
      clear hold hp RWP A1 RW1 hB
      obtain ⟨TW, hTW⟩ : ∃ TW : Nat → Value, ∀ i, (ac.tmps[i]?).getD undef = TW i := ⟨_, fun _ => rfl⟩
      have f1 := (hTW 1).symm.trans (congrArg (fun x => Option.getD x undef) t1)
      have f2 := (hTW 2).symm.trans (congrArg (fun x => Option.getD x undef) t2)
      have f5 := (hTW 5).symm.trans (congrArg (fun x => Option.getD x undef) t5)
      have f26 := (hTW 26).symm.trans (congrArg (fun x => Option.getD x undef) t26)
      have hac := act_eq (n := 75) hsz TW hTW
      rw [show ((List.range 75).map TW).toArray = #[TW 0, TW 1, TW 2, TW 3, TW 4, TW 5, TW 6, TW 7, TW 8, TW 9, TW 10, TW 11, TW 12, TW 13, TW 14, TW 15, TW 16, TW 17, TW 18, TW 19, TW 20, TW 21, TW 22, TW 23, TW 24, TW 25, TW 26, TW 27, TW 28, TW 29, TW 30, TW 31, TW 32, TW 33, TW 34, TW 35, TW 36, TW 37, TW 38, TW 39, TW 40, TW 41, TW 42, TW 43, TW 44, TW 45, TW 46, TW 47, TW 48, TW 49, TW 50, TW 51, TW 52, TW 53, TW 54, TW 55, TW 56, TW 57, TW 58, TW 59, TW 60, TW 61, TW 62, TW 63, TW 64, TW 65, TW 66, TW 67, TW 68, TW 69, TW 70, TW 71, TW 72, TW 73, TW 74] from rfl, f1, f2, f5, f26, hdf] at hac
      simp only [Option.getD_some] at hac
      subst hac
      clear hTW f1 f2 f5 f26
      go_wp2_with (refine ld8G (by rfl) 5 rfl w3.heap.size X1 (by rfl) HR1.out SZ1.out.size ?_)
      go_at_call 20
      (refine (RV1.out _ _ BB.out.now.2.1).mono ?_)
      rintro e w5 ⟨y1, rfl, h5, hb5⟩
      have BB := Lib.hid ((BB.out.go hb5).arr h5)
      obtain ⟨c1, c2, c3, c4, c5, c6, c7, c8, c9, hy1⟩ := h5.isA
      subst hy1
      have BB := Lib.hid (BB.out.newRow (arrC c1 c2 c3 c4 c5 c6 c7 c8 c9) 34)
      have HR5 := Lib.hid BB.out.now.1
      clear h5 hb5
      unfold arrC
      go_wp2_with (refine ld_arr rfl (.tmp 6) rfl w5.heap.size rfl HR5.out ?_)
      go_at_call 20
      (refine (RV2.out _ _ BB.out.now.2.1).mono ?_)
      rintro e w6 ⟨y2, rfl, h6, hb6⟩
      have BB := Lib.hid ((BB.out.go hb6).arr h6)
      obtain ⟨d1, d2, d3, d4, d5, d6, d7, d8, d9, hy2⟩ := h6.isA
      subst hy2
      have BB := Lib.hid (BB.out.newRow (arrC d1 d2 d3 d4 d5 d6 d7 d8 d9) 34)
      clear h6 hb6
      unfold arrC
      go_wp2_with fail
      have hWW := BB.out.below
      unfold arrC at hWW
      unfold arrC at BB
      generalize hW : (w6.alloc (.cells _ 34)) = Y8 at *
      clear hW hWW
      have A8 : Hid (∀ yz, Below Y8.heap.size Y8 yz → Arr yz (arrC d1 d2 d3 d4 d5 d6 d7 d8 d9) S r ch L g nP nQ) := Lib.hid (fun yz hb => Arr.below BB.out.now.2.1 hb)
      have RW8 : Hid (∀ yz, Below Y8.heap.size Y8 yz → Row yz w6.heap.size 34 (arrC d1 d2 d3 d4 d5 d6 d7 d8 d9)) := Lib.hid (fun yz hb => Row.below BB.out.now.1 hb)
      have A1 : Hid (∀ yz, Below Y8.heap.size Y8 yz → Arr yz X1 S r ch L g nP nQ) := Lib.hid (fun yz hb => Arr.below BB.out.now.2.2.2.2.2.1 hb)
      have RW1 : Hid (∀ yz, Below Y8.heap.size Y8 yz → Row yz w3.heap.size 34 X1) := Lib.hid (fun yz hb => Row.below BB.out.now.2.2.2.2.1 hb)
      have RWP : Hid (∀ yz, Below Y8.heap.size Y8 yz → Row yz w.heap.size 26 (plC sa r sc ch ta (tnO ch L) tc na (nnO ch L) nc)) := Lib.hid (fun yz hb => Row.below BB.out.now.2.2.2.2.2.2.1 hb)
      have SZ8 : Hid (IsA (arrC d1 d2 d3 d4 d5 d6 d7 d8 d9)) := Lib.hid ⟨_, _, _, _, _, _, _, _, _, rfl⟩
      have BB := Lib.hid (Bag.fresh BB.out.below)
      generalize (arrC d1 d2 d3 d4 d5 d6 d7 d8 d9) = X8 at A8 RW8 SZ8
      refine wp_region_inv2 ⟨(fun j => ([[38], [39], [40], [41], [42], [37], [43], [44], [10], [10], [11]] : List (List Nat)).getD j []), (fun j => ([[], [0], [0, 1], [], [0, 1, 2, 3], [0, 1, 2, 3, 4], [0, 1, 2, 3, 4, 5], [0, 1, 2, 3, 4, 5], [], [0, 1, 2, 3, 4, 5, 6, 8], [0, 1, 2, 3, 4, 5, 6, 7, 8, 9]] : List (List Nat)).getD j []), [8]⟩ (fun jj vv yy => match jj with | 0 => vv = [some (.int .i32 n)] | 1 => vv = [some (.int .i64 n)] | 2 => ∃ (x2 : Array Value), vv = [some (.agg x2)] ∧ ArrA yy x2 (fun _ => 0) 0 false 1 (fun _ => n) (fun _ => 1) ∧ IsA x2 | 3 => vv = [some (.agg X1)] | 4 => ∃ (x4 : Array Value), vv = [some (.tuple #[.agg x4, .int .i64 0])] ∧ Arr yy x4 S r ch L gT PT QT ∧ IsA x4 | 5 => ∃ (x4 : Array Value), vv = [some (.tuple #[.agg x4, .int .i64 0])] ∧ Arr yy x4 S r ch L gT PT QT ∧ IsA x4 | 6 => ∃ (x4 : Array Value), vv = [some (.agg x4)] ∧ Arr yy x4 S r ch L gT PT QT ∧ IsA x4 | 7 => vv = [some (.int .i64 0)] | 8 => ∃ (k8 : Nat), ∃ (z8 : Array Value), vv = [some (.pointer (some ⟨k8, 0, none⟩))] ∧ Row yy k8 34 z8 ∧ IsA z8 ∧ Y8.heap.size ≤ k8 | 9 => ∃ (k8 : Nat), ∃ (x4 : Array Value), vv = [some (.pointer (some ⟨k8, 0, none⟩))] ∧ Row yy k8 34 x4 ∧ Arr yy x4 S r ch L gT PT QT ∧ IsA x4 | 10 => vv = [some (.int .i64 0)] | _ => True) (Bag Y8 (fun _ => True)) (by kernel_rfl) (by kernel_rfl) (by kernel_rfl) (Bag.start Y8).drew ?_ ?_ ?_
      · intro jj vv yw yw2 hb h
        match jj, h with
        | 0, h => exact h
        | 1, h => exact h
        | 2, ⟨x2, e2, g2_0, g2_1⟩ => exact Exists.intro x2 (And.intro e2 (And.intro (g2_0.below hb) g2_1))
        | 3, h => exact h
        | 4, ⟨x4, e4, g4_0, g4_1⟩ => exact Exists.intro x4 (And.intro e4 (And.intro (g4_0.below hb) g4_1))
        | 5, ⟨x4, e5, g5_0, g5_1⟩ => exact Exists.intro x4 (And.intro e5 (And.intro (g5_0.below hb) g5_1))
        | 6, ⟨x4, e6, g6_0, g6_1⟩ => exact Exists.intro x4 (And.intro e6 (And.intro (g6_0.below hb) g6_1))
        | 7, h => exact h
        | 8, ⟨k8, z8, e8, g8_0, g8_1, g8_2⟩ => exact Exists.intro k8 (Exists.intro z8 (And.intro e8 (And.intro (g8_0.below hb) (And.intro g8_1 g8_2))))
        | 9, ⟨k8, x4, e9, g9_0, g9_1, g9_2⟩ => exact Exists.intro k8 (Exists.intro x4 (And.intro e9 (And.intro (g9_0.below hb) (And.intro (g9_1.below hb) g9_2))))
        | 10, h => exact h
        | _ + 11, h => exact h
      · intro ac yw hsz hdf hold hB hp
        obtain ⟨k8, x4, e9, r9, a9, i9⟩ := hp 9 (by decide)
        have t10 : ac.tmps[10]? = some (.pointer (some ⟨k8, 0, none⟩)) := (List.cons.inj e9).1
        have t11 : ac.tmps[11]? = some (.int .i64 0) := (List.cons.inj (hp 10 (by decide))).1
        have t1 : ac.tmps[1]? = some (.int .i32 n) := hold 1 (by kernel_rfl)
        have t2 : ac.tmps[2]? = some (.pointer (some ⟨w.heap.size, 0, none⟩)) := hold 2 (by kernel_rfl)
        have t7 : ac.tmps[7]? = some (.int .i64 0) := hold 7 (by kernel_rfl)
        have t8 : ac.tmps[8]? = some (.pointer (some ⟨w6.heap.size, 0, none⟩)) := hold 8 (by kernel_rfl)
        have t9 : ac.tmps[9]? = some (.int .i64 0) := hold 9 (by kernel_rfl)
        have RWP := Lib.hid (fun yz hb => RWP.out yz (hB.below.trans (Below.mono hb hB.below.size)))
        have RW8 := Lib.hid (fun yz hb => RW8.out yz (hB.below.trans (Below.mono hb hB.below.size)))
        have A8 := Lib.hid (fun yz hb => A8.out yz (hB.below.trans (Below.mono hb hB.below.size)))
        have A4 := Lib.hid (fun yz (hb : Below yw.heap.size yw yz) => a9.below hb)
        have RW4 := Lib.hid (fun yz (hb : Below yw.heap.size yw yz) => r9.below hb)
        have SZ4 := Lib.hid i9
        have BB := Lib.hid (Bag.fresh (BB.out.go hB.below).below)
        clear hold hp e9 r9 a9 i9 hB
        obtain ⟨TU, hTU⟩ : ∃ TU : Nat → Value, ∀ i, (ac.tmps[i]?).getD undef = TU i := ⟨_, fun _ => rfl⟩
        have f1 := (hTU 1).symm.trans (congrArg (fun x => Option.getD x undef) t1)
        have f2 := (hTU 2).symm.trans (congrArg (fun x => Option.getD x undef) t2)
        have f7 := (hTU 7).symm.trans (congrArg (fun x => Option.getD x undef) t7)
        have f8 := (hTU 8).symm.trans (congrArg (fun x => Option.getD x undef) t8)
        have f9 := (hTU 9).symm.trans (congrArg (fun x => Option.getD x undef) t9)
        have f10 := (hTU 10).symm.trans (congrArg (fun x => Option.getD x undef) t10)
        have f11 := (hTU 11).symm.trans (congrArg (fun x => Option.getD x undef) t11)
        have hac := act_eq (n := 75) hsz TU hTU
        rw [show ((List.range 75).map TU).toArray = #[TU 0, TU 1, TU 2, TU 3, TU 4, TU 5, TU 6, TU 7, TU 8, TU 9, TU 10, TU 11, TU 12, TU 13, TU 14, TU 15, TU 16, TU 17, TU 18, TU 19, TU 20, TU 21, TU 22, TU 23, TU 24, TU 25, TU 26, TU 27, TU 28, TU 29, TU 30, TU 31, TU 32, TU 33, TU 34, TU 35, TU 36, TU 37, TU 38, TU 39, TU 40, TU 41, TU 42, TU 43, TU 44, TU 45, TU 46, TU 47, TU 48, TU 49, TU 50, TU 51, TU 52, TU 53, TU 54, TU 55, TU 56, TU 57, TU 58, TU 59, TU 60, TU 61, TU 62, TU 63, TU 64, TU 65, TU 66, TU 67, TU 68, TU 69, TU 70, TU 71, TU 72, TU 73, TU 74] from rfl, f1, f2, f7, f8, f9, f10, f11, hdf] at hac
        simp only [Option.getD_some] at hac
        subst hac
        clear hTU f1 f2 f7 f8 f9 f10 f11
        go_wp2_with fail
        generalize yw = Y9 at *
        refine wp_region_inv2 ⟨(fun j => ([[46], [47], [48], [49], [50], [51], [45], [52], [53], [12], [12], [13]] : List (List Nat)).getD j []), (fun j => ([[], [0], [0, 1], [0, 1, 2], [], [0, 1, 2, 3, 4], [0, 1, 2, 3, 4, 5], [0, 1, 2, 3, 4, 5, 6], [0, 1, 2, 3, 4, 5, 6], [], [0, 1, 2, 3, 4, 5, 6, 7, 9], [0, 1, 2, 3, 4, 5, 6, 7, 8, 9, 10]] : List (List Nat)).getD j []), [9]⟩ (fun jj vv yy => match jj with | 0 => vv = [some (.int .i32 n)] | 1 => vv = [some (.int .i64 n)] | 2 => vv = [some (.int .i64 (-n))] | 3 => ∃ (x3 : Array Value), vv = [some (.agg x3)] ∧ ArrA yy x3 (fun _ => 0) 0 false 1 (fun _ => -n) (fun _ => 1) ∧ IsA x3 | 4 => vv = [some (.agg x4)] | 5 => ∃ (x5 : Array Value), vv = [some (.tuple #[.agg x5, .int .i64 0])] ∧ Arr yy x5 S r ch L g nP nQ ∧ IsA x5 | 6 => ∃ (x5 : Array Value), vv = [some (.tuple #[.agg x5, .int .i64 0])] ∧ Arr yy x5 S r ch L g nP nQ ∧ IsA x5 | 7 => ∃ (x5 : Array Value), vv = [some (.agg x5)] ∧ Arr yy x5 S r ch L g nP nQ ∧ IsA x5 | 8 => vv = [some (.int .i64 0)] | 9 => ∃ (k9 : Nat), ∃ (z9 : Array Value), vv = [some (.pointer (some ⟨k9, 0, none⟩))] ∧ Row yy k9 34 z9 ∧ IsA z9 ∧ Y9.heap.size ≤ k9 | 10 => ∃ (k9 : Nat), ∃ (x5 : Array Value), vv = [some (.pointer (some ⟨k9, 0, none⟩))] ∧ Row yy k9 34 x5 ∧ Arr yy x5 S r ch L g nP nQ ∧ IsA x5 | 11 => vv = [some (.int .i64 0)] | _ => True) (Bag Y9 (fun _ => True)) (by kernel_rfl) (by kernel_rfl) (by kernel_rfl) (Bag.start Y9).drew ?_ ?_ ?_
        · intro jj vv yw yw2 hb h
          match jj, h with
          | 0, h => exact h
          | 1, h => exact h
          | 2, h => exact h
          | 3, ⟨x3, e3, g3_0, g3_1⟩ => exact Exists.intro x3 (And.intro e3 (And.intro (g3_0.below hb) g3_1))
          | 4, h => exact h
          | 5, ⟨x5, e5, g5_0, g5_1⟩ => exact Exists.intro x5 (And.intro e5 (And.intro (g5_0.below hb) g5_1))
          | 6, ⟨x5, e6, g6_0, g6_1⟩ => exact Exists.intro x5 (And.intro e6 (And.intro (g6_0.below hb) g6_1))
          | 7, ⟨x5, e7, g7_0, g7_1⟩ => exact Exists.intro x5 (And.intro e7 (And.intro (g7_0.below hb) g7_1))
          | 8, h => exact h
          | 9, ⟨k9, z9, e9, g9_0, g9_1, g9_2⟩ => exact Exists.intro k9 (Exists.intro z9 (And.intro e9 (And.intro (g9_0.below hb) (And.intro g9_1 g9_2))))
          | 10, ⟨k9, x5, e10, g10_0, g10_1, g10_2⟩ => exact Exists.intro k9 (Exists.intro x5 (And.intro e10 (And.intro (g10_0.below hb) (And.intro (g10_1.below hb) g10_2))))
          | 11, h => exact h
          | _ + 12, h => exact h
        · intro ac yw hsz hdf hold hB hp
          obtain ⟨k9, x5, e10, r10, a10, i10⟩ := hp 10 (by decide)
          have t12 : ac.tmps[12]? = some (.pointer (some ⟨k9, 0, none⟩)) := (List.cons.inj e10).1
          have t13 : ac.tmps[13]? = some (.int .i64 0) := (List.cons.inj (hp 11 (by decide))).1
          have t2 : ac.tmps[2]? = some (.pointer (some ⟨w.heap.size, 0, none⟩)) := hold 2 (by kernel_rfl)
          have t7 : ac.tmps[7]? = some (.int .i64 0) := hold 7 (by kernel_rfl)
          have t8 : ac.tmps[8]? = some (.pointer (some ⟨w6.heap.size, 0, none⟩)) := hold 8 (by kernel_rfl)
          have t9 : ac.tmps[9]? = some (.int .i64 0) := hold 9 (by kernel_rfl)
          have t11 : ac.tmps[11]? = some (.int .i64 0) := hold 11 (by kernel_rfl)
          have HRP := Lib.hid (RWP.out _ hB.below)
          have HR8 := Lib.hid (RW8.out _ hB.below)
          have HSH8 := Lib.hid (hG.shown (by rw [hnP, hnQ]; exact A8.out _ hB.below) (HP.out.below (BB.out.go hB.below).below))
          have HR12 := Lib.hid r10
          have SZ12 := Lib.hid i10
          have HA12 := Lib.hid a10
          have BB := Lib.hid (BB.out.go hB.below)
          clear hold hp e10 r10 a10 i10 hB
          obtain ⟨TV, hTV⟩ : ∃ TV : Nat → Value, ∀ i, (ac.tmps[i]?).getD undef = TV i := ⟨_, fun _ => rfl⟩
          have f2 := (hTV 2).symm.trans (congrArg (fun x => Option.getD x undef) t2)
          have f7 := (hTV 7).symm.trans (congrArg (fun x => Option.getD x undef) t7)
          have f8 := (hTV 8).symm.trans (congrArg (fun x => Option.getD x undef) t8)
          have f9 := (hTV 9).symm.trans (congrArg (fun x => Option.getD x undef) t9)
          have f11 := (hTV 11).symm.trans (congrArg (fun x => Option.getD x undef) t11)
          have f12 := (hTV 12).symm.trans (congrArg (fun x => Option.getD x undef) t12)
          have f13 := (hTV 13).symm.trans (congrArg (fun x => Option.getD x undef) t13)
          have hac := act_eq (n := 75) hsz TV hTV
          rw [show ((List.range 75).map TV).toArray = #[TV 0, TV 1, TV 2, TV 3, TV 4, TV 5, TV 6, TV 7, TV 8, TV 9, TV 10, TV 11, TV 12, TV 13, TV 14, TV 15, TV 16, TV 17, TV 18, TV 19, TV 20, TV 21, TV 22, TV 23, TV 24, TV 25, TV 26, TV 27, TV 28, TV 29, TV 30, TV 31, TV 32, TV 33, TV 34, TV 35, TV 36, TV 37, TV 38, TV 39, TV 40, TV 41, TV 42, TV 43, TV 44, TV 45, TV 46, TV 47, TV 48, TV 49, TV 50, TV 51, TV 52, TV 53, TV 54, TV 55, TV 56, TV 57, TV 58, TV 59, TV 60, TV 61, TV 62, TV 63, TV 64, TV 65, TV 66, TV 67, TV 68, TV 69, TV 70, TV 71, TV 72, TV 73, TV 74] from rfl, f2, f7, f8, f9, f11, f12, f13, hdf] at hac
          simp only [Option.getD_some] at hac
          subst hac
          clear hTV f2 f7 f8 f9 f11 f12 f13
          go_wp2_with (first
            | (refine ld8G (by rfl) 8 rfl w6.heap.size X8 (by rfl) HR8.out SZ8.out.size ?_)
            | (refine ldPG (by rfl) 2 rfl w.heap.size (plC sa r sc ch ta (tnO ch L) tc na (nnO ch L) nc) (by rfl) HRP.out rfl ?_))
          go_at_call 19
          (refine (SO.out _ _ _ HSH8.out).mono ?_)
          rintro e w8 ⟨rfl, hb8⟩
          have HRQ := Lib.hid (HRP.out.below hb8)
          have HR13 := Lib.hid (HR12.out.below hb8)
          have BB := Lib.hid (BB.out.go hb8)
          have HSH12 := Lib.hid (hG.shown (by rw [hnP, hnQ]; exact HA12.out.below hb8) (HP.out.below BB.out.below))
          clear hb8 HRP HR12
          go_wp2_with (first
            | (refine ld8G (by rfl) 12 rfl k9 x5 (by rfl) HR13.out SZ12.out.size ?_)
            | (refine ldPG (by rfl) 2 rfl w.heap.size (plC sa r sc ch ta (tnO ch L) tc na (nnO ch L) nc) (by rfl) HRQ.out rfl ?_))
          go_at_call 19
          (refine (SO.out _ _ _ HSH12.out).mono ?_)
          rintro e w10 ⟨rfl, hb10⟩
          have BB := Lib.hid (BB.out.go hb10)
          clear hb10
          go_wp2_with fail
          go_at_call 9
          (with_reducible refine (AW.out _).mono ?_)
          rintro e w9 ⟨rfl, hb9⟩
          have HE := Lib.hid (BB.out.go hb9).below
          clear hb9
          go_wp2
          go_ret
          exact ⟨rfl, HE.out⟩
        refine Stps2.cons (o := _) ?_ ?_
        · intro ac yw hsz hold hB hp K hK
          have t1 : ac.tmps[1]? = some (.int .i32 n) := hold 1 (by kernel_rfl)
          clear hold hp hsz
          go_simp
          exact hK.out _ _ ⟨hB, rfl, Nat.le_refl _, .inl (Below.refl _ _), fun h => absurd h (by decide)⟩
        refine Stps2.cons (o := _) ?_ ?_
        · intro ac yw hsz hold hB hp K hK
          have e0 := hp 0 (by decide)
          have t46 : ac.tmps[46]? = some (.int .i32 n) := (List.cons.inj e0).1
          clear hold hp hsz e0
          go_simp
          exact hK.out _ _ ⟨hB, rfl, Nat.le_refl _, .inl (Below.refl _ _), fun h => absurd h (by decide)⟩
        refine Stps2.cons (o := _) ?_ ?_
        · intro ac yw hsz hold hB hp K hK
          have e1 := hp 1 (by decide)
          have t47 : ac.tmps[47]? = some (.int .i64 n) := (List.cons.inj e1).1
          clear hold hp hsz e1
          go_simp
          exact hK.out _ _ ⟨hB, rfl, Nat.le_refl _, .inl (Below.refl _ _), fun h => absurd h (by decide)⟩
        refine Stps2.cons (o := _) ?_ ?_
        · intro ac yw hsz hold hB hp K hK
          have e2 := hp 2 (by decide)
          have t48 : ac.tmps[48]? = some (.int .i64 (-n)) := (List.cons.inj e2).1
          clear hold hp hsz e2
          go_simp
          (go_at_call 28; (with_reducible refine (IT2.out _).mono ?_); rintro e wz ⟨x3, rfl, h3_0, hbz⟩)
          exact hK.out _ _ ⟨hB.go hbz, Exists.intro x3 (And.intro rfl (And.intro h3_0 ((h3_0 (fun _ => 0)).isA))), hbz.size, .inl hbz, fun h => absurd h (by decide)⟩
        refine Stps2.cons (o := _) ?_ ?_
        · intro ac yw hsz hold hB hp K hK
          have t10 : ac.tmps[10]? = some (.pointer (some ⟨k8, 0, none⟩)) := hold 10 (by kernel_rfl)
          clear hold hp hsz
          rw [if_pos (by rfl)]
          refine ld8 10 rfl (k8) (x4) t10 (RW4.out _ hB.below) (SZ4.out.size) ?_
          exact hK.out _ _ ⟨hB, rfl, Nat.le_refl _, .inl (Below.refl _ _), fun h => absurd h (by decide)⟩
        refine Stps2.cons (o := _) ?_ ?_
        · intro ac yw hsz hold hB hp K hK
          obtain ⟨x3_3, e3, g3_0, g3_1⟩ := hp 3 (by decide)
          have t49 : ac.tmps[49]? = some (.agg x3_3) := (List.cons.inj e3).1
          have e4 := hp 4 (by decide)
          have t50 : ac.tmps[50]? = some (.agg x4) := (List.cons.inj e4).1
          clear hold hp hsz e3 e4
          go_simp
          (go_at_call 22; (refine (RO2.out _ _ _ g3_0 (A4.out _ hB.below)).mono ?_); rintro e wz ⟨x5, rfl, h5_0, hbz⟩)
          exact hK.out _ _ ⟨hB.go hbz, Exists.intro x5 (And.intro rfl (And.intro h5_0 h5_0.isA)), hbz.size, .inl hbz, fun h => absurd h (by decide)⟩
        refine Stps2.cons (o := _) ?_ ?_
        · intro ac yw hsz hold hB hp K hK
          obtain ⟨x5_5, e5, g5_0, g5_1⟩ := hp 5 (by decide)
          have t51 : ac.tmps[51]? = some (.tuple #[.agg x5_5, .int .i64 0]) := (List.cons.inj e5).1
          clear hold hp hsz e5
          go_simp
          exact hK.out _ _ ⟨hB, Exists.intro x5_5 (And.intro rfl (And.intro g5_0 g5_1)), Nat.le_refl _, .inl (Below.refl _ _), fun h => absurd h (by decide)⟩
        refine Stps2.cons (o := _) ?_ ?_
        · intro ac yw hsz hold hB hp K hK
          obtain ⟨x5_6, e6, g6_0, g6_1⟩ := hp 6 (by decide)
          have t45 : ac.tmps[45]? = some (.tuple #[.agg x5_6, .int .i64 0]) := (List.cons.inj e6).1
          clear hold hp hsz e6
          go_simp
          exact hK.out _ _ ⟨hB, Exists.intro x5_6 (And.intro rfl (And.intro g6_0 g6_1)), Nat.le_refl _, .inl (Below.refl _ _), fun h => absurd h (by decide)⟩
        refine Stps2.cons (o := _) ?_ ?_
        · intro ac yw hsz hold hB hp K hK
          obtain ⟨x5_6, e6, g6_0, g6_1⟩ := hp 6 (by decide)
          have t45 : ac.tmps[45]? = some (.tuple #[.agg x5_6, .int .i64 0]) := (List.cons.inj e6).1
          clear hold hp hsz e6
          go_simp
          exact hK.out _ _ ⟨hB, rfl, Nat.le_refl _, .inl (Below.refl _ _), fun h => absurd h (by decide)⟩
        refine Stps2.cons (o := _) ?_ ?_
        · intro ac yw hsz hold hB hp K hK
          clear hold hp hsz
          have hbz : Below yw.heap.size yw (yw.alloc (.cells zerC 34)) ∧ yw.heap.size < (yw.alloc (.cells zerC 34)).heap.size := ⟨(Below.refl _ _).alloc (Nat.le_refl _) _, by rw [World.size_alloc]; omega⟩
          go_simp
          exact hK.out _ _ ⟨hB.alloc _, Exists.intro yw.heap.size (Exists.intro zerC (And.intro rfl (And.intro ((Row.new yw _ zerC)) (And.intro IsA.zer hB.below.size)))), Nat.le_of_lt hbz.2, .inl hbz.1, fun _ => ⟨_, rfl, Nat.le_refl _, hbz.2⟩⟩
        refine Stps2.cons (o := _) ?_ ?_
        · intro ac yw hsz hold hB hp K hK
          obtain ⟨k9_9, z9_9, e9, g9_0, g9_1, g9_2⟩ := hp 9 (by decide)
          have t12 : ac.tmps[12]? = some (.pointer (some ⟨k9_9, 0, none⟩)) := (List.cons.inj e9).1
          obtain ⟨x5_7, e7, g7_0, g7_1⟩ := hp 7 (by decide)
          have t52 : ac.tmps[52]? = some (.agg x5_7) := (List.cons.inj e7).1
          clear hold hp hsz e9 e7
          rw [if_pos (by rfl)]
          have HB : Bag _ (fun _ => True) (yw.setRow k9_9 x5_7) := ⟨below_put hB.below g9_2 _, fun _ _ _ _ => trivial, trivial⟩
          refine st8 12 52 rfl k9_9 x5_7 t12 t52 _ z9_9 g9_0 g9_1 g7_1 ?_
          refine hK.out undef _ ⟨HB, Exists.intro k9_9 (Exists.intro x5_7 (And.intro (congrArg (fun x => [x]) t12) (And.intro (g9_0.put _) (And.intro (g7_0.store g9_0 g9_1 _) g7_1)))), by simp [World.setRow], .inr ?_, fun h => absurd h (by decide)⟩
          intro jj hj hap h
          match jj, h with
          | 0, h => exact h
          | 1, h => exact h
          | 2, h => exact h
          | 3, ⟨x3, e3, g3_0, g3_1⟩ =>
            exact Exists.intro x3 (And.intro e3 (And.intro (g3_0.store g9_0 g9_1 _) g3_1))
          | 4, h => exact h
          | 5, ⟨x5, e5, g5_0, g5_1⟩ =>
            exact Exists.intro x5 (And.intro e5 (And.intro (g5_0.store g9_0 g9_1 _) g5_1))
          | 6, ⟨x5, e6, g6_0, g6_1⟩ =>
            exact Exists.intro x5 (And.intro e6 (And.intro (g6_0.store g9_0 g9_1 _) g6_1))
          | 7, ⟨x5, e7, g7_0, g7_1⟩ =>
            exact Exists.intro x5 (And.intro e7 (And.intro (g7_0.store g9_0 g9_1 _) g7_1))
          | 8, h => exact h
          | 9, ⟨k9, z9, e9, g9_0, g9_1, g9_2⟩ =>
            have e9 : k9 = k9_9 := by have := (List.cons.inj e9).1.symm.trans t12; cases this; rfl
            subst e9
            exact Exists.intro _ (Exists.intro _ (And.intro e9 (And.intro (g9_0.put _) (And.intro g7_1 g9_2))))
          | 10, _ => exact absurd rfl hj
          | 11, h => exact h
          | _ + 12, h => exact h
        refine Stps2.cons (o := _) ?_ ?_
        · intro ac yw hsz hold hB hp K hK
          have e8 := hp 8 (by decide)
          have t53 : ac.tmps[53]? = some (.int .i64 0) := (List.cons.inj e8).1
          clear hold hp hsz e8
          go_simp
          exact hK.out _ _ ⟨hB, rfl, Nat.le_refl _, .inl (Below.refl _ _), fun h => absurd h (by decide)⟩
        exact Stps2.nil _
      refine Stps2.cons (o := _) ?_ ?_
      · intro ac yw hsz hold hB hp K hK
        have t1 : ac.tmps[1]? = some (.int .i32 n) := hold 1 (by kernel_rfl)
        clear hold hp hsz
        go_simp
        exact hK.out _ _ ⟨hB, rfl, Nat.le_refl _, .inl (Below.refl _ _), fun h => absurd h (by decide)⟩
      refine Stps2.cons (o := _) ?_ ?_
      · intro ac yw hsz hold hB hp K hK
        have e0 := hp 0 (by decide)
        have t38 : ac.tmps[38]? = some (.int .i32 n) := (List.cons.inj e0).1
        clear hold hp hsz e0
        go_simp
        exact hK.out _ _ ⟨hB, rfl, Nat.le_refl _, .inl (Below.refl _ _), fun h => absurd h (by decide)⟩
      refine Stps2.cons (o := _) ?_ ?_
      · intro ac yw hsz hold hB hp K hK
        have e1 := hp 1 (by decide)
        have t39 : ac.tmps[39]? = some (.int .i64 n) := (List.cons.inj e1).1
        clear hold hp hsz e1
        go_simp
        (go_at_call 28; (with_reducible refine (IT.out _).mono ?_); rintro e wz ⟨x2, rfl, h2_0, hbz⟩)
        exact hK.out _ _ ⟨hB.go hbz, Exists.intro x2 (And.intro rfl (And.intro h2_0 ((h2_0 (fun _ => 0)).isA))), hbz.size, .inl hbz, fun h => absurd h (by decide)⟩
      refine Stps2.cons (o := _) ?_ ?_
      · intro ac yw hsz hold hB hp K hK
        have t5 : ac.tmps[5]? = some (.pointer (some ⟨w3.heap.size, 0, none⟩)) := hold 5 (by kernel_rfl)
        clear hold hp hsz
        rw [if_pos (by rfl)]
        refine ld8 5 rfl (w3.heap.size) (X1) t5 (RW1.out _ hB.below) (SZ1.out.size) ?_
        exact hK.out _ _ ⟨hB, rfl, Nat.le_refl _, .inl (Below.refl _ _), fun h => absurd h (by decide)⟩
      refine Stps2.cons (o := _) ?_ ?_
      · intro ac yw hsz hold hB hp K hK
        obtain ⟨x2_2, e2, g2_0, g2_1⟩ := hp 2 (by decide)
        have t40 : ac.tmps[40]? = some (.agg x2_2) := (List.cons.inj e2).1
        have e3 := hp 3 (by decide)
        have t41 : ac.tmps[41]? = some (.agg X1) := (List.cons.inj e3).1
        clear hold hp hsz e2 e3
        go_simp
        (go_at_call 22; (refine (RO1.out _ _ _ g2_0 (A1.out _ hB.below)).mono ?_); rintro e wz ⟨x4, rfl, h4_0, hbz⟩)
        exact hK.out _ _ ⟨hB.go hbz, Exists.intro x4 (And.intro rfl (And.intro h4_0 h4_0.isA)), hbz.size, .inl hbz, fun h => absurd h (by decide)⟩
      refine Stps2.cons (o := _) ?_ ?_
      · intro ac yw hsz hold hB hp K hK
        obtain ⟨x4_4, e4, g4_0, g4_1⟩ := hp 4 (by decide)
        have t42 : ac.tmps[42]? = some (.tuple #[.agg x4_4, .int .i64 0]) := (List.cons.inj e4).1
        clear hold hp hsz e4
        go_simp
        exact hK.out _ _ ⟨hB, Exists.intro x4_4 (And.intro rfl (And.intro g4_0 g4_1)), Nat.le_refl _, .inl (Below.refl _ _), fun h => absurd h (by decide)⟩
      refine Stps2.cons (o := _) ?_ ?_
      · intro ac yw hsz hold hB hp K hK
        obtain ⟨x4_5, e5, g5_0, g5_1⟩ := hp 5 (by decide)
        have t37 : ac.tmps[37]? = some (.tuple #[.agg x4_5, .int .i64 0]) := (List.cons.inj e5).1
        clear hold hp hsz e5
        go_simp
        exact hK.out _ _ ⟨hB, Exists.intro x4_5 (And.intro rfl (And.intro g5_0 g5_1)), Nat.le_refl _, .inl (Below.refl _ _), fun h => absurd h (by decide)⟩
      refine Stps2.cons (o := _) ?_ ?_
      · intro ac yw hsz hold hB hp K hK
        obtain ⟨x4_5, e5, g5_0, g5_1⟩ := hp 5 (by decide)
        have t37 : ac.tmps[37]? = some (.tuple #[.agg x4_5, .int .i64 0]) := (List.cons.inj e5).1
        clear hold hp hsz e5
        go_simp
        exact hK.out _ _ ⟨hB, rfl, Nat.le_refl _, .inl (Below.refl _ _), fun h => absurd h (by decide)⟩
      refine Stps2.cons (o := _) ?_ ?_
      · intro ac yw hsz hold hB hp K hK
        clear hold hp hsz
        have hbz : Below yw.heap.size yw (yw.alloc (.cells zerC 34)) ∧ yw.heap.size < (yw.alloc (.cells zerC 34)).heap.size := ⟨(Below.refl _ _).alloc (Nat.le_refl _) _, by rw [World.size_alloc]; omega⟩
        go_simp
        exact hK.out _ _ ⟨hB.alloc _, Exists.intro yw.heap.size (Exists.intro zerC (And.intro rfl (And.intro ((Row.new yw _ zerC)) (And.intro IsA.zer hB.below.size)))), Nat.le_of_lt hbz.2, .inl hbz.1, fun _ => ⟨_, rfl, Nat.le_refl _, hbz.2⟩⟩
      refine Stps2.cons (o := _) ?_ ?_
      · intro ac yw hsz hold hB hp K hK
        obtain ⟨k8_8, z8_8, e8, g8_0, g8_1, g8_2⟩ := hp 8 (by decide)
        have t10 : ac.tmps[10]? = some (.pointer (some ⟨k8_8, 0, none⟩)) := (List.cons.inj e8).1
        obtain ⟨x4_6, e6, g6_0, g6_1⟩ := hp 6 (by decide)
        have t43 : ac.tmps[43]? = some (.agg x4_6) := (List.cons.inj e6).1
        clear hold hp hsz e8 e6
        rw [if_pos (by rfl)]
        have HB : Bag _ (fun _ => True) (yw.setRow k8_8 x4_6) := ⟨below_put hB.below g8_2 _, fun _ _ _ _ => trivial, trivial⟩
        refine st8 10 43 rfl k8_8 x4_6 t10 t43 _ z8_8 g8_0 g8_1 g6_1 ?_
        refine hK.out undef _ ⟨HB, Exists.intro k8_8 (Exists.intro x4_6 (And.intro (congrArg (fun x => [x]) t10) (And.intro (g8_0.put _) (And.intro (g6_0.store g8_0 g8_1 _) g6_1)))), by simp [World.setRow], .inr ?_, fun h => absurd h (by decide)⟩
        intro jj hj hap h
        match jj, h with
        | 0, h => exact h
        | 1, h => exact h
        | 2, ⟨x2, e2, g2_0, g2_1⟩ =>
          exact Exists.intro x2 (And.intro e2 (And.intro (g2_0.store g8_0 g8_1 _) g2_1))
        | 3, h => exact h
        | 4, ⟨x4, e4, g4_0, g4_1⟩ =>
          exact Exists.intro x4 (And.intro e4 (And.intro (g4_0.store g8_0 g8_1 _) g4_1))
        | 5, ⟨x4, e5, g5_0, g5_1⟩ =>
          exact Exists.intro x4 (And.intro e5 (And.intro (g5_0.store g8_0 g8_1 _) g5_1))
        | 6, ⟨x4, e6, g6_0, g6_1⟩ =>
          exact Exists.intro x4 (And.intro e6 (And.intro (g6_0.store g8_0 g8_1 _) g6_1))
        | 7, h => exact h
        | 8, ⟨k8, z8, e8, g8_0, g8_1, g8_2⟩ =>
          have e9 : k8 = k8_8 := by have := (List.cons.inj e8).1.symm.trans t10; cases this; rfl
          subst e9
          exact Exists.intro _ (Exists.intro _ (And.intro e8 (And.intro (g8_0.put _) (And.intro g6_1 g8_2))))
        | 9, _ => exact absurd rfl hj
        | 10, h => exact h
        | _ + 11, h => exact h
      refine Stps2.cons (o := _) ?_ ?_
      · intro ac yw hsz hold hB hp K hK
        have e7 := hp 7 (by decide)
        have t44 : ac.tmps[44]? = some (.int .i64 0) := (List.cons.inj e7).1
        clear hold hp hsz e7
        go_simp
        exact hK.out _ _ ⟨hB, rfl, Nat.le_refl _, .inl (Below.refl _ _), fun h => absurd h (by decide)⟩
      exact Stps2.nil _
    refine Stps2.cons (o := _) ?_ ?_
    · intro ac yw hsz hold hB hp K hK
      have t5 : ac.tmps[5]? = some (.pointer (some ⟨w3.heap.size, 0, none⟩)) := hold 5 (by kernel_rfl)
      clear hold hp hsz
      rw [if_pos (by rfl)]
      refine ld8 5 rfl (w3.heap.size) (X1) t5 (RW1.out _ hB.below) (SZ1.out.size) ?_
      exact hK.out _ _ ⟨hB, rfl, Nat.le_refl _, .inl (Below.refl _ _), fun h => absurd h (by decide)⟩
    refine Stps2.cons (o := _) ?_ ?_
    · intro ac yw hsz hold hB hp K hK
      have e0 := hp 0 (by decide)
      have t20 : ac.tmps[20]? = some (.agg X1) := (List.cons.inj e0).1
      clear hold hp hsz e0
      go_simp
      (go_at_call 26; (refine (TR1.out _ _ (A1.out _ hB.below)).mono ?_); rintro e wz ⟨x1, rfl, h1_0, hbz⟩)
      exact hK.out _ _ ⟨hB.go hbz, Exists.intro x1 (And.intro rfl (And.intro h1_0 h1_0.isA)), hbz.size, .inl hbz, fun h => absurd h (by decide)⟩
    refine Stps2.cons (o := _) ?_ ?_
    · intro ac yw hsz hold hB hp K hK
      obtain ⟨x1_1, e1, g1_0, g1_1⟩ := hp 1 (by decide)
      have t21 : ac.tmps[21]? = some (.agg x1_1) := (List.cons.inj e1).1
      clear hold hp hsz e1
      go_simp
      (go_at_call 26; (refine (TR2.out _ _ g1_0).mono ?_); rintro e wz ⟨x2, rfl, h2_0, hbz⟩)
      exact hK.out _ _ ⟨hB.go hbz, Exists.intro x2 (And.intro rfl (And.intro h2_0 h2_0.isA)), hbz.size, .inl hbz, fun h => absurd h (by decide)⟩
    refine Stps2.cons (o := _) ?_ ?_
    · intro ac yw hsz hold hB hp K hK
      obtain ⟨x2_2, e2, g2_0, g2_1⟩ := hp 2 (by decide)
      have t22 : ac.tmps[22]? = some (.agg x2_2) := (List.cons.inj e2).1
      clear hold hp hsz e2
      go_simp
      (go_at_call 15; (refine (PL.out _ _ g2_0).mono ?_); rintro e wz ⟨x3, rfl, h3_0, hbz⟩)
      exact hK.out _ _ ⟨hB.go hbz, Exists.intro x3 (And.intro rfl h3_0), hbz.size, .inl hbz, fun h => absurd h (by decide)⟩
    refine Stps2.cons (o := _) ?_ ?_
    · intro ac yw hsz hold hB hp K hK
      have t2 : ac.tmps[2]? = some (.pointer (some ⟨w.heap.size, 0, none⟩)) := hold 2 (by kernel_rfl)
      clear hold hp hsz
      rw [if_pos (by rfl)]
      refine ldP 2 rfl (w.heap.size) ((plC sa r sc ch ta (tnO ch L) tc na (nnO ch L) nc)) t2 (RWP.out _ hB.below) (rfl) ?_
      exact hK.out _ _ ⟨hB, rfl, Nat.le_refl _, .inl (Below.refl _ _), fun h => absurd h (by decide)⟩
    refine Stps2.cons (o := _) ?_ ?_
    · intro ac yw hsz hold hB hp K hK
      obtain ⟨x3_3, e3, g3_0⟩ := hp 3 (by decide)
      have t23 : ac.tmps[23]? = some (.agg x3_3) := (List.cons.inj e3).1
      have e4 := hp 4 (by decide)
      have t24 : ac.tmps[24]? = some (.agg (plC sa r sc ch ta (tnO ch L) tc na (nnO ch L) nc)) := (List.cons.inj e4).1
      clear hold hp hsz e3 e4
      go_simp
      (go_at_call 13; (refine (SM.out _ _ g3_0 (HP.out.below (BB.out.go hB.below).below)).mono ?_); rintro e wz ⟨rfl, hbz⟩)
      exact hK.out _ _ ⟨hB.go hbz, rfl, hbz.size, .inl hbz, fun h => absurd h (by decide)⟩
    refine Stps2.cons (o := _) ?_ ?_
    · intro ac yw hsz hold hB hp K hK
      have e5 := hp 5 (by decide)
      have t25 : ac.tmps[25]? = some (.bool true) := (List.cons.inj e5).1
      clear hold hp hsz e5
      go_simp
      exact hK.out _ _ ⟨hB, rfl, Nat.le_refl _, .inl (Below.refl _ _), fun h => absurd h (by decide)⟩
    exact Stps2.nil _

theorem own : ownKnob Tryz.prog.godebug = none := by kernel_rfl
theorem laidOut : laidOutB Tryz.prog = true := by kernel_rfl

set_option maxRecDepth 100000 in
theorem moldBack_lifted (os : Os) (started : os.Started) (H : Type) (enc : TypeId × Value → H) :
    ReturnsInHanded {} Tryz.checked os 6 .any (fun w args => (Rows.moldBackSpec.pre enc Tryz.prog Tryz.f6 [] false w args ∧ laidMetH Tryz.prog Rows.moldBackRow.laid w) ∧ sizedMet enc Tryz.prog Tryz.f6 (OpenSpec.ofChange Rows.moldBackSpec) false w args)
      (Rows.moldBackSpec.post enc Tryz.prog Tryz.f6 false true false false) := by
  refine returnsInHanded_of_change_and (C := Tryz.checked) (X := fun w _ => laidMetH Tryz.prog Rows.moldBackRow.laid w) (fun _ _ _ hh h => h.of_heap hh) own started (by kernel_rfl) Tryz.func6
    (ChangeSpec.witness_shaped (enc := enc) (C := Tryz.checked) (os := os) (X := fun w _ => laidMetH Tryz.prog Rows.moldBackRow.laid w) false (World.laidAll Tryz.prog os Rows.moldBackRow.laid) #[.agg #[.slice none 0 0, .bool false, .slice none 0 0, .slice none 0 0], .int .i32 0] 8 (World.laidAll_os _ _ _)
      (World.shaped_of_ZipB (by kernel_rfl) (by kernel_rfl)) (by kernel_rfl) (by kernel_rfl) (by kernel_rfl)
      (by rw [MakeChecks.laidMetH_plain _ _ _ (by kernel_rfl)]; exact laidMet_laidAll _ (by kernel_rfl) (by kernel_rfl))) ?_
  intro W base args ds gs before hval0 hW _ _ _ _
  have hval : ∀ (j : Nat) t v, Tryz.f6.params[j]? = some t → args[j]? = some v → Value.okWide Tryz.prog W .any base t v := hval0
  have hW' := hW
  obtain ⟨p, q, hA0, hV, rfl, _, _⟩ := hW
  have hA : DataW.TrodAll enc Tryz.prog W 0 (fun _ => true) true Tryz.f6.params.toList args.toList ds p := hA0
  rw [Tryz.params6] at hA hval
  obtain ⟨v0, v1, d0, d1, p0, p1, rfl, rfl, rfl, h0, h1⟩ := trodAll_two hA
  obtain ⟨rfl, rfl⟩ := trodVars_none hV
  obtain ⟨cs0, S0, q0, ch0, g0, tn0, fB0, fS0, fT0, nn0, rfl, k0, w0, z0⟩ := open_pln (hval 0 26 v0 rfl rfl) h0
  obtain ⟨x1, rfl, rfl, rfl, w1⟩ := open_int Tryz.underlying21 (hval 1 21 v1 rfl rfl) h1
  have b1 : -2147483648 ≤ x1 ∧ x1 ≤ 2147483647 := by simpa [Lit.wf, IntKind.min, IntKind.max, IntKind.signed, IntKind.bits] using w1
  have hlt : ∀ y ∈ p0 ++ ([]), y.block < W.heap.size := fun y hy => by simpa using hW'.lt y (by simpa using hy)
  simp only [List.append_nil] at hW'
  refine (moldBack_walk cs0 S0 q0 ch0 g0 tn0 fB0 fS0 fT0 nn0 x1 W k0 w0 z0 b1).mono fun e W' ⟨he, hb⟩ => ?_
  subst he
  exact ⟨_, rfl, _, _, _, [], _, [], hW', trodAll_mk1 (shut_bool Tryz.underlying4 _), trodAll_mk2 (Below.trod laidOut (by kernel_rfl) (of_decide_eq_true (by kernel_rfl)) h0 hb (fun y hy => hlt y (by simp [hy]))) (shut_int Tryz.underlying21 w1), rfl, hb.frame _, fun h => by cases h⟩

theorem moldBack_row : Rows.MoldBackSaid :=
  OpenClaim.holds_of_wide 6 Tryz.f6 rfl rfl rfl rfl rfl rfl rfl ⟨rfl, rfl, rfl, rfl, rfl⟩ rfl rfl rfl rfl rfl (by kernel_rfl) Tryz.func6 (by kernel_rfl)
    (of_decide_eq_true (by kernel_rfl)) (by unfold Func.isWrapper; first | (rw [if_pos (by decide +kernel)]; kernel_rfl) | (rw [if_neg (by decide +kernel)]; exact ⟨rfl, rfl⟩))
    (fun os started H enc _ => moldBack_lifted os started H enc)

theorem moldBack_holds : Rows.MoldBackCardSaid :=
  Claim7.holds_tied_plain_at .later [] [.data, .pinned] true Rows.moldBackCard.stood.harness Rows.moldBackCard.stood.looks moldBack_row (fun _ h => by cases h) (by kernel_rfl) (fun _ h => by cases h) moldBack_row_tie rfl ⟨rfl, rfl⟩ (by kernel_rfl) rfl
    (fun f fn hf hfn => by
      obtain rfl : f = 6 := Option.some.inj ((show Tryz.prog.funcNamed "typeball/typeballlaw08.MoldBack" = some 6 by kernel_rfl).symm.trans hf) |>.symm
      obtain rfl : fn = Tryz.f6 := (Option.some.inj (Tryz.func6.symm.trans hfn)).symm
      exact ⟨by kernel_rfl, fun j t ht => by
        rw [Tryz.params6] at ht
        have hm : t ∈ [26, 21] := by simpa using Array.mem_of_getElem? ht
        have hall : ([26, 21].all fun u => !Tryz.prog.wantsStandIn u) = true := by kernel_rfl
        exact (show Tryz.prog.wantsStandIn t = false by simpa using List.all_eq_true.1 hall t hm)⟩)
    (by kernel_rfl)
#print axioms moldBack_holds
end Go.Proofs.YtkljpofljkgkdaaGreatDoor
