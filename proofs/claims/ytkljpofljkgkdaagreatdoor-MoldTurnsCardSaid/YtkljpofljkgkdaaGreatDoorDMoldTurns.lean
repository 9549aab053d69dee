/-
  Proved: the law MoldTurns of package typeballlaw08 returns true for every two plain arrays and every number, under the row's own conditions.
-/
import Derived.Test.YtkljpofljkgkdaaGreatDoorQ1
import Derived.Test.YtkljpofljkgkdaaGreatDoorQ2
import Derived.Test.YtkljpofljkgkdaaGreatDoorQ3
import Derived.Test.YtkljpofljkgkdaaGreatDoorQ4
import Derived.Test.YtkljpofljkgkdaaGreatDoorQ5
import Derived.Test.YtkljpofljkgkdaaGreatDoorQ6
import Derived.Test.YtkljpofljkgkdaaGreatDoorQ7
import Derived.Test.YtkljpofljkgkdaaGreatDoorQ8
import Derived.Test.YtkljpofljkgkdaaGreatDoorQ9
import Derived.Test.YtkljpofljkgkdaaGreatDoorD1
import Derived.Test.YtkljpofljkgkdaaGreatDoorD2
import Derived.SizedLaws
import Derived.Test.YtkljpofljkgkdaaGreatDoorCards
import Derived.Test.YtkljpofljkgkdaaGreatDoorTie
import Derived.LaidMore
import Derived.Lay
import Derived.SevenTiedAt
import Derived.Stop.Joined
namespace Go.Proofs.YtkljpofljkgkdaaGreatDoor
open Go.ChangeShapes Go.WideShapes Go.ChangeAt Go.RowKit Go.WideMaps Go.WideElems
attribute [local go_sem ↓] Go.wp_at_zero Go.wp_at_succ

set_option linter.unusedSimpArgs false in
set_option maxHeartbeats 6400000 in
set_option maxRecDepth 100000 in
theorem moldTurns_walk (cs0 : Array Value) (S0 : Nat → Int) (r0 : Nat) (ch0 : Bool) (g0 : Nat → Int) (tn0 : Nat) (fB0 : Nat → Bool) (fS0 fT0 : Nat → ByteArray) (nn0 : Nat) (cs : Array Value) (S : Nat → Int) (r : Nat) (ch : Bool) (g : Nat → Int) (tn : Nat) (fB : Nat → Bool) (fS fT : Nat → ByteArray) (nn : Nat) (i : Int)
    (w : World) (h0 : PlnAt w cs0 S0 r0 ch0 g0 tn0 fB0 fS0 fT0 nn0) (hS0 : In64 S0 r0) (hz0 : ∀ j, j < nn0 → (fS0 j).size ≤ maxLen ∧ (fT0 j).size ≤ maxLen) (h : PlnAt w cs S r ch g tn fB fS fT nn) (hS : In64 S r) (hz : ∀ j, j < nn → (fS j).size ≤ maxLen ∧ (fT j).size ≤ maxLen) (_ : -9223372036854775808 ≤ i ∧ i ≤ 9223372036854775807) :
    Calls Tryz.prog 4 #[.agg cs0, .agg cs, .int .i64 i] w fun e w' => e = .returned (.bool true) ∧ Below w.heap.size w w' := by
  have HP0 := Lib.hid h0
  have HP := Lib.hid h
  obtain ⟨sb, scb, tb, tcb, nb, ncb, rfl, _⟩ := h0
  obtain ⟨sa, sc, ta, tc, na, nc, rfl, _⟩ := h
  have LP0 := Lib.hid (fun wz h => light9_any (plC sb r0 scb ch0 tb tn0 tcb nb nn0 ncb) S0 r0 ch0 g0 tn0 fB0 fS0 fT0 nn0 wz h hS0 hz0)
  have LP := Lib.hid (fun wz h => light9_any (plC sa r sc ch ta tn tc na nn nc) S r ch g tn fB fS fT nn wz h hS hz)
  have AW := Lib.hid (fun wz => awake8_any wz)
  have BB := Lib.hid (((Bag.start w).newRow (plC sb r0 scb ch0 tb tn0 tcb nb nn0 ncb) 26).newRow (plC sa r sc ch ta tn tc na nn nc) 26)
  simp only [World.size_alloc] at BB
  have HR := Lib.hid BB.out.now.2.1
  clear hS0 hz0 hS hz
  unfold plC
  go_enter Tryz.func4, Tryz.ntmps4
  go_wp2_with (refine ldPG (by rfl) 3 rfl w.heap.size (plC sb r0 scb ch0 tb tn0 tcb nb nn0 ncb) (by rfl) HR.out rfl ?_)
  go_at_call 8
  (with_reducible refine (LP0.out _ ?_).mono ?_)
  · exact HP0.out.below BB.out.below
  rintro e w2 ⟨b0, rfl, hb0, hb2⟩
  have BB := Lib.hid (BB.out.go hb2)
  clear hb2 LP0
  cases b0 with
  | false =>
    clear hb0 HR
    go_wp2_with fail
    go_at_call 9
    (with_reducible refine (AW.out _).mono ?_)
    rintro e w9 ⟨rfl, hb9⟩
    have HE := Lib.hid (BB.out.go hb9).below
    clear hb9
    go_wp2
    go_ret
    exact ⟨rfl, HE.out⟩
  | true =>
    obtain ⟨L0, rfl, rfl, hG0⟩ := hb0 rfl
    clear hb0
    have HR := Lib.hid BB.out.now.1
    go_wp2_with (refine ldPG (by rfl) 4 rfl (w.heap.size + 1) (plC sa r sc ch ta tn tc na nn nc) (by rfl) HR.out rfl ?_)
    go_at_call 8
    (with_reducible refine (LP.out _ ?_).mono ?_)
    · exact HP.out.below BB.out.below
    rintro e w3 ⟨b, rfl, hb, hb3⟩
    have BB := Lib.hid (BB.out.go hb3)
    clear hb3 LP
    cases b with
    | false =>
      clear hb HR hG0
      go_wp2_with fail
      go_at_call 9
      (with_reducible refine (AW.out _).mono ?_)
      rintro e w9 ⟨rfl, hb9⟩
      have HE := Lib.hid (BB.out.go hb9).below
      clear hb9
      go_wp2
      go_ret
      exact ⟨rfl, HE.out⟩
    | true =>
      obtain ⟨L, rfl, rfl, hG⟩ := hb rfl
      clear hb
      have HR := Lib.hid BB.out.now.1
      have hGL := hG.le
      have hGL0 := hG0.le
      have h8 := hG.rank
      have h80 := hG0.rank
      have hin := hG.in64
      obtain ⟨nP, hnP⟩ : ∃ f, gP fB fS fT = f := ⟨_, rfl⟩
      obtain ⟨nQ, hnQ⟩ : ∃ f, gQ fB fS fT = f := ⟨_, rfl⟩
      obtain ⟨mP, hmP⟩ : ∃ f, gP fB0 fS0 fT0 = f := ⟨_, rfl⟩
      obtain ⟨mQ, hmQ⟩ : ∃ f, gQ fB0 fS0 fT0 = f := ⟨_, rfl⟩
      have OF0 := Lib.hid (fun wz h => of8_any (plC sb r0 scb ch0 tb (tnO ch0 L0) tcb nb (nnO ch0 L0) ncb) S0 r0 ch0 L0 g0 fB0 fS0 fT0 wz h hG0)
      have OF := Lib.hid (fun wz h => of8_any (plC sa r sc ch ta (tnO ch L) tc na (nnO ch L) nc) S r ch L g fB fS fT wz h hG)
      have hN0 := hG0.num
      have hq0 := hG0.pos
      obtain ⟨GV, hGV⟩ : ∃ f, rvG S r i (revF (S (axI r i).toNat)) = f := ⟨_, rfl⟩
      obtain ⟨GT, hGT⟩ : ∃ f, rtG S r i r0 L0 mP = f := ⟨_, rfl⟩
      have hel1 := hG.els GV L
      have hel2 := hG.els GT L
      rw [hmP, hmQ] at OF0 hN0
      rw [hmQ] at hq0
      rw [hnP, hnQ] at OF hel1 hel2
      obtain ⟨gV, hgV⟩ : ∃ f : Nat → Int, (fun j => elC L g 32 (GV j)) = f := ⟨_, rfl⟩
      obtain ⟨PV, hPV⟩ : ∃ f : Nat → Int, (fun j => elP L nP (GV j)) = f := ⟨_, rfl⟩
      obtain ⟨QV, hQV⟩ : ∃ f : Nat → Nat, (fun j => elQ L nQ (GV j)) = f := ⟨_, rfl⟩
      obtain ⟨BV, hBV⟩ : ∃ f : Nat → Bool, (fun j => elB L fB (GV j)) = f := ⟨_, rfl⟩
      obtain ⟨SV, hSV⟩ : ∃ f : Nat → ByteArray, (fun j => elS L fS (rS 0) (GV j)) = f := ⟨_, rfl⟩
      obtain ⟨TV, hTV⟩ : ∃ f : Nat → ByteArray, (fun j => elS L fT (str (dec 1)) (GV j)) = f := ⟨_, rfl⟩
      obtain ⟨gT, hgT⟩ : ∃ f : Nat → Int, (fun j => elC L g 32 (GT j)) = f := ⟨_, rfl⟩
      obtain ⟨PT, hPT⟩ : ∃ f : Nat → Int, (fun j => elP L nP (GT j)) = f := ⟨_, rfl⟩
      obtain ⟨QT, hQT⟩ : ∃ f : Nat → Nat, (fun j => elQ L nQ (GT j)) = f := ⟨_, rfl⟩
      obtain ⟨BT, hBT⟩ : ∃ f : Nat → Bool, (fun j => elB L fB (GT j)) = f := ⟨_, rfl⟩
      obtain ⟨ST, hST⟩ : ∃ f : Nat → ByteArray, (fun j => elS L fS (rS 0) (GT j)) = f := ⟨_, rfl⟩
      obtain ⟨TT, hTT⟩ : ∃ f : Nat → ByteArray, (fun j => elS L fT (str (dec 1)) (GT j)) = f := ⟨_, rfl⟩
      rw [hPV, hQV, hBV, hSV, hTV] at hel1
      rw [hPT, hQT, hBT, hST, hTT] at hel2
      obtain ⟨E1, hE1⟩ : ∃ E, rvE r i = E := ⟨_, rfl⟩
      obtain ⟨E2, hE2⟩ : ∃ E, rtE S0 r0 ch0 L0 mP mQ S r i = E := ⟨_, rfl⟩
      have RV : Hid (∀ x wz, Arr wz x S r ch L g nP nQ → Calls Tryz.prog 20 #[.agg x, .int .i64 i] wz fun e w' => ∃ y, e = .returned (.tuple #[.agg y, .int .i64 E1]) ∧ MoR w' y E1 S r ch L gV PV QV ∧ Below wz.heap.size wz w') := Lib.hid (fun x wz q =>
        (moReverse_any x S r ch L g nP nQ i wz q hin hG.sh hG.cnt).mono (by
          intro e w' hq
          have := hq.res
          rw [hE1, hGV, hgV, hPV, hQV] at this
          exact this))
      have RV2 : Hid (∀ wz, Pln wz (plC sa r sc ch ta (tnO ch L) tc na (nnO ch L) nc) S r ch L g fB fS fT → Calls Tryz.prog 21 #[.agg (plC sa r sc ch ta (tnO ch L) tc na (nnO ch L) nc), .int .i64 i] wz fun e w' => ∃ y, e = .returned (.tuple #[.agg y, .int .i64 E1]) ∧ PoR w' y E1 S r ch L gV BV SV TV ∧ Below wz.heap.size wz w') := Lib.hid (fun wz q =>
        (rReverse_any (plC sa r sc ch ta (tnO ch L) tc na (nnO ch L) nc) S r ch L g fB fS fT i wz q hG.sh hG.cnt (by omega)).mono (by
          intro e w' hq
          have := hq.res
          rw [hE1, hGV, hgV, hBV, hSV, hTV] at this
          exact this))
      have RT : Hid (∀ x0 x wz, Arr wz x0 S0 r0 ch0 L0 g0 mP mQ → Arr wz x S r ch L g nP nQ → Calls Tryz.prog 22 #[.agg x0, .agg x, .int .i64 i] wz fun e w' => ∃ y, e = .returned (.tuple #[.agg y, .int .i64 E2]) ∧ MoR w' y E2 S r ch L gT PT QT ∧ Below wz.heap.size wz w') := Lib.hid (fun x0 x wz q0 q =>
        (rotate_any x0 S0 r0 ch0 L0 g0 mP mQ x S r ch L g nP nQ i wz q0 q h80 hq0 (by omega) hG0.cnt hin hG.sh hG.cnt).mono (by
          intro e w' hq
          have := hq.res
          rw [hE2, hGT, hgT, hPT, hQT] at this
          exact this))
      have RT2 : Hid (∀ wz, Pln wz (plC sb r0 scb ch0 tb (tnO ch0 L0) tcb nb (nnO ch0 L0) ncb) S0 r0 ch0 L0 g0 fB0 fS0 fT0 → Pln wz (plC sa r sc ch ta (tnO ch L) tc na (nnO ch L) nc) S r ch L g fB fS fT → Calls Tryz.prog 23 #[.agg (plC sb r0 scb ch0 tb (tnO ch0 L0) tcb nb (nnO ch0 L0) ncb), .agg (plC sa r sc ch ta (tnO ch L) tc na (nnO ch L) nc), .int .i64 i] wz fun e w' => ∃ y, e = .returned (.tuple #[.agg y, .int .i64 E2]) ∧ PoR w' y E2 S r ch L gT BT ST TT ∧ Below wz.heap.size wz w') := Lib.hid (fun wz q0 q =>
        (rRotate_any (plC sb r0 scb ch0 tb (tnO ch0 L0) tcb nb (nnO ch0 L0) ncb) S0 r0 ch0 L0 g0 fB0 fS0 fT0 mP mQ (plC sa r sc ch ta (tnO ch L) tc na (nnO ch L) nc) S r ch L g fB fS fT i wz q0 q hN0 hG0.sh hG0.cnt (by omega) hG.sh hG.cnt (by omega)).mono (by
          intro e w' hq
          have := hq.res
          rw [hE2, hGT, hgT, hBT, hST, hTT] at this
          exact this))
      have SO1 := Lib.hid (fun x p wz (q : MoR wz x E1 S r ch L gV PV QV) (z : PoR wz p E1 S r ch L gV BV SV TV) => shows8_any x p E1 S r ch L gV PV QV BV SV TV wz q z (fun _ => ⟨h8, by omega⟩) hel1)
      have SO2 := Lib.hid (fun x p wz (q : MoR wz x E2 S r ch L gT PT QT) (z : PoR wz p E2 S r ch L gT BT ST TT) => shows8_any x p E2 S r ch L gT PT QT BT ST TT wz q z (fun _ => ⟨h8, by omega⟩) hel2)
      clear hin hN0 hq0 hel1 hel2 hGV hGT hE1 hE2 hgV hPV hQV hBV hSV hTV hgT hPT hQT hBT hST hTT hnP hnQ hmP hmQ hG hG0 hGL hGL0 h8 h80
      go_wp2_with (refine ld_pln rfl (.tmp 4) rfl (w.heap.size + 1) rfl HR.out ?_)
      go_at_call 11
      (with_reducible refine (OF.out _ ?_).mono ?_)
      · exact HP.out.below BB.out.below
      rintro e w3 ⟨xa, rfl, ha, hb4⟩
      have BB := Lib.hid ((BB.out.go hb4).arr ha)
      clear ha hb4 HR
      go_wp2_with fail
      go_at_call 20
      (refine (RV.out _ _ BB.out.now.1).mono ?_)
      rintro e w4 ⟨x7, rfl, h7, hb5⟩
      have BB := Lib.hid (BB.out.go hb5)
      obtain ⟨c1, c2, c3, c4, c5, c6, c7, c8, c9, hx7⟩ := h7.1
      subst hx7
      have hZ : Below w4.heap.size w4 ((w4.alloc (.cells zerC 34)).setRow w4.heap.size (arrC c1 c2 c3 c4 c5 c6 c7 c8 c9)) := below_put ((Below.refl _ w4).alloc (Nat.le_refl _) (.cells zerC 34)) (Nat.le_refl _) (arrC c1 c2 c3 c4 c5 c6 c7 c8 c9)
      have HZ : Hid (Row (w4.alloc (.cells zerC 34)) w4.heap.size 34 zerC) := Lib.hid (Row.new w4 _ zerC)
      have HR7 := Lib.hid (HZ.out.put (arrC c1 c2 c3 c4 c5 c6 c7 c8 c9))
      have HM7 := Lib.hid (h7.below hZ)
      have BB := Lib.hid (BB.out.go hZ)
      have HRP := Lib.hid BB.out.now.2.1
      clear h7 hb5 hZ
      unfold arrC
      go_wp2_with (first
        | (refine st_arr rfl (.tmp 7) (.tmp 29) rfl w4.heap.size rfl _ _ _ _ _ _ _ _ _ rfl HZ.out rfl ?_)
        | (refine ld_pln rfl (.tmp 4) rfl (w.heap.size + 1) rfl HRP.out ?_))
      go_at_call 21
      (refine (RV2.out _ (HP.out.below BB.out.below)).mono ?_)
      rintro e w5 ⟨p9, rfl, h9, hb6⟩
      obtain ⟨va, vn, vc, vh, vt, vtn, vtc, vr, vrn, vrc, hpv⟩ := h9.1
      subst hpv
      have hZ : Below w5.heap.size w5 ((w5.alloc (.cells plZer 26)).setRow w5.heap.size (plC va vn vc vh vt vtn vtc vr vrn vrc)) := below_put ((Below.refl _ w5).alloc (Nat.le_refl _) (.cells plZer 26)) (Nat.le_refl _) (plC va vn vc vh vt vtn vtc vr vrn vrc)
      have HZ : Hid (Row (w5.alloc (.cells plZer 26)) w5.heap.size 26 plZer) := Lib.hid (Row.new w5 _ plZer)
      have HR9 := Lib.hid (HZ.out.put (plC va vn vc vh vt vtn vtc vr vrn vrc))
      have HX9 := Lib.hid (h9.below hZ)
      have HM7 := Lib.hid ((HM7.out.below hb6).below hZ)
      have HR7 := Lib.hid ((HR7.out.below hb6).below hZ)
      have BB := Lib.hid ((BB.out.go hb6).go hZ)
      clear h9 hb6 hZ HRP
      go_wp2_with (refine st_pln rfl (.tmp 9) (.tmp 35) rfl w5.heap.size rfl _ _ _ _ _ _ _ _ _ _ rfl HZ.out rfl ?_)
      generalize hW : (World.setRow _ _ _) = Y5
      have RWP : Hid (∀ yz, Below Y5.heap.size Y5 yz → Row yz (w.heap.size + 1) 26 (plC sa r sc ch ta (tnO ch L) tc na (nnO ch L) nc)) := by
        subst hW
        exact Lib.hid (fun yz hb => Row.below BB.out.now.2.1 hb)
      have RWB : Hid (∀ yz, Below Y5.heap.size Y5 yz → Row yz w.heap.size 26 (plC sb r0 scb ch0 tb (tnO ch0 L0) tcb nb (nnO ch0 L0) ncb)) := by
        subst hW
        exact Lib.hid (fun yz hb => Row.below BB.out.now.2.2.1 hb)
      have RW7 : Hid (∀ yz, Below Y5.heap.size Y5 yz → Row yz w4.heap.size 34 (arrC c1 c2 c3 c4 c5 c6 c7 c8 c9)) := by
        subst hW
        exact Lib.hid (fun yz hb => Row.below HR7.out hb)
      have RW9 : Hid (∀ yz, Below Y5.heap.size Y5 yz → Row yz w5.heap.size 26 (plC va vn vc vh vt vtn vtc vr vrn vrc)) := by
        subst hW
        exact Lib.hid (fun yz hb => Row.below HR9.out hb)
      have M7 : Hid (∀ yz, Below Y5.heap.size Y5 yz → MoR yz (arrC c1 c2 c3 c4 c5 c6 c7 c8 c9) E1 S r ch L gV PV QV) := by
        subst hW
        exact Lib.hid (fun yz hb => MoR.below HM7.out hb)
      have X9 : Hid (∀ yz, Below Y5.heap.size Y5 yz → PoR yz (plC va vn vc vh vt vtn vtc vr vrn vrc) E1 S r ch L gV BV SV TV) := by
        subst hW
        exact Lib.hid (fun yz hb => PoR.below HX9.out hb)
      have SZ7 : Hid (IsA (arrC c1 c2 c3 c4 c5 c6 c7 c8 c9)) := Lib.hid ⟨_, _, _, _, _, _, _, _, _, rfl⟩
      have SZ9 : Hid (IsP (plC va vn vc vh vt vtn vtc vr vrn vrc)) := Lib.hid ⟨_, _, _, _, _, _, _, _, _, _, rfl⟩
      have BB : Hid (Bag w (fun _ => True) Y5) := by
        subst hW
        exact Lib.hid (Bag.fresh BB.out.below)
      clear hW HR7 HR9 HM7 HX9 HZ
      generalize (arrC c1 c2 c3 c4 c5 c6 c7 c8 c9) = X7 at RW7 M7 SZ7
      generalize (plC va vn vc vh vt vtn vtc vr vrn vrc) = P9 at RW9 X9 SZ9
      refine wp_region_inv2 ⟨(fun j => ([[38], [39], [40], [41], [42], [43], [37], [44], [45], [11], [11], [12]] : List (List Nat)).getD j []), (fun j => ([[], [0], [], [0, 1, 2], [], [0, 1, 2, 3, 4], [0, 1, 2, 3, 4, 5], [0, 1, 2, 3, 4, 5, 6], [0, 1, 2, 3, 4, 5, 6], [], [0, 1, 2, 3, 4, 5, 6, 7, 9], [0, 1, 2, 3, 4, 5, 6, 7, 8, 9, 10]] : List (List Nat)).getD j []), [9]⟩ (fun jj vv yy => match jj with | 0 => vv = [some (.agg (plC sb r0 scb ch0 tb (tnO ch0 L0) tcb nb (nnO ch0 L0) ncb))] | 1 => ∃ (x1 : Array Value), vv = [some (.agg x1)] ∧ Arr yy x1 S0 r0 ch0 L0 g0 mP mQ | 2 => vv = [some (.agg (plC sa r sc ch ta (tnO ch L) tc na (nnO ch L) nc))] | 3 => ∃ (x3 : Array Value), vv = [some (.agg x3)] ∧ Arr yy x3 S r ch L g nP nQ | 4 => vv = [some (.int .i64 i)] | 5 => ∃ (x5 : Array Value), vv = [some (.tuple #[.agg x5, .int .i64 E2])] ∧ MoR yy x5 E2 S r ch L gT PT QT ∧ IsA x5 | 6 => ∃ (x5 : Array Value), vv = [some (.tuple #[.agg x5, .int .i64 E2])] ∧ MoR yy x5 E2 S r ch L gT PT QT ∧ IsA x5 | 7 => ∃ (x5 : Array Value), vv = [some (.agg x5)] ∧ MoR yy x5 E2 S r ch L gT PT QT ∧ IsA x5 | 8 => vv = [some (.int .i64 E2)] | 9 => ∃ (k9 : Nat), ∃ (z9 : Array Value), vv = [some (.pointer (some ⟨k9, 0, none⟩))] ∧ Row yy k9 34 z9 ∧ IsA z9 ∧ Y5.heap.size ≤ k9 | 10 => ∃ (k9 : Nat), ∃ (x5 : Array Value), vv = [some (.pointer (some ⟨k9, 0, none⟩))] ∧ Row yy k9 34 x5 ∧ MoR yy x5 E2 S r ch L gT PT QT ∧ IsA x5 | 11 => vv = [some (.int .i64 E2)] | _ => True) (Bag Y5 (fun _ => True)) (by kernel_rfl) (by kernel_rfl) (by kernel_rfl) (Bag.start Y5).drew ?_ ?_ ?_
      · intro jj vv yw yw2 hb h
        match jj, h with
        | 0, h => exact h
        | 1, ⟨x1, e1, g1_0⟩ => exact Exists.intro x1 (And.intro e1 (g1_0.below hb))
        | 2, h => exact h
        | 3, ⟨x3, e3, g3_0⟩ => exact Exists.intro x3 (And.intro e3 (g3_0.below hb))
        | 4, h => exact h
        | 5, ⟨x5, e5, g5_0, g5_1⟩ => exact Exists.intro x5 (And.intro e5 (And.intro (g5_0.below hb) g5_1))
        | 6, ⟨x5, e6, g6_0, g6_1⟩ => exact Exists.intro x5 (And.intro e6 (And.intro (g6_0.below hb) g6_1))
        | 7, ⟨x5, e7, g7_0, g7_1⟩ => exact Exists.intro x5 (And.intro e7 (And.intro (g7_0.below hb) g7_1))
        | 8, h => exact h
        | 9, ⟨k9, z9, e9, g9_0, g9_1, g9_2⟩ => exact Exists.intro k9 (Exists.intro z9 (And.intro e9 (And.intro (g9_0.below hb) (And.intro g9_1 g9_2))))
        | 10, ⟨k9, x5, e10, g10_0, g10_1, g10_2⟩ => exact Exists.intro k9 (Exists.intro x5 (And.intro e10 (And.intro (g10_0.below hb) (And.intro (g10_1.below hb) g10_2))))
        | 11, h => exact h
        | _ + 12, h => exact h
      · intro ac yw hsz hdf hold hB hp
        obtain ⟨k11, x5, e10, r10, a10, i10⟩ := hp 10 (by decide)
        have t11 : ac.tmps[11]? = some (.pointer (some ⟨k11, 0, none⟩)) := (List.cons.inj e10).1
        have t12 : ac.tmps[12]? = some (.int .i64 E2) := (List.cons.inj (hp 11 (by decide))).1
        have t2 : ac.tmps[2]? = some (.int .i64 i) := hold 2 (by kernel_rfl)
        have t3 : ac.tmps[3]? = some (.pointer (some ⟨w.heap.size, 0, none⟩)) := hold 3 (by kernel_rfl)
        have t4 : ac.tmps[4]? = some (.pointer (some ⟨w.heap.size + 1, 0, none⟩)) := hold 4 (by kernel_rfl)
        have t7 : ac.tmps[7]? = some (.pointer (some ⟨w4.heap.size, 0, none⟩)) := hold 7 (by kernel_rfl)
        have t8 : ac.tmps[8]? = some (.int .i64 E1) := hold 8 (by kernel_rfl)
        have t9 : ac.tmps[9]? = some (.pointer (some ⟨w5.heap.size, 0, none⟩)) := hold 9 (by kernel_rfl)
        have t10 : ac.tmps[10]? = some (.int .i64 E1) := hold 10 (by kernel_rfl)
        have HRB := Lib.hid (RWB.out _ hB.below)
        have HRP := Lib.hid (RWP.out _ hB.below)
        have HR7 := Lib.hid (RW7.out _ hB.below)
        have HR9 := Lib.hid (RW9.out _ hB.below)
        have HM7 := Lib.hid (M7.out _ hB.below)
        have HX9 := Lib.hid (X9.out _ hB.below)
        have BB := Lib.hid (BB.out.go hB.below)
        have HM := Lib.hid a10
        have SZ := Lib.hid i10
        have HR := Lib.hid r10
        clear hold hp e10 r10 a10 i10 hB
        obtain ⟨TW, hTW⟩ : ∃ TW : Nat → Value, ∀ i, (ac.tmps[i]?).getD undef = TW i := ⟨_, fun _ => rfl⟩
        have f2 := (hTW 2).symm.trans (congrArg (fun x => Option.getD x undef) t2)
        have f3 := (hTW 3).symm.trans (congrArg (fun x => Option.getD x undef) t3)
        have f4 := (hTW 4).symm.trans (congrArg (fun x => Option.getD x undef) t4)
        have f7 := (hTW 7).symm.trans (congrArg (fun x => Option.getD x undef) t7)
        have f8 := (hTW 8).symm.trans (congrArg (fun x => Option.getD x undef) t8)
        have f9 := (hTW 9).symm.trans (congrArg (fun x => Option.getD x undef) t9)
        have f10 := (hTW 10).symm.trans (congrArg (fun x => Option.getD x undef) t10)
        have f11 := (hTW 11).symm.trans (congrArg (fun x => Option.getD x undef) t11)
        have f12 := (hTW 12).symm.trans (congrArg (fun x => Option.getD x undef) t12)
        have hac := act_eq (n := 68) hsz TW hTW
        rw [show ((List.range 68).map TW).toArray = #[TW 0, TW 1, TW 2, TW 3, TW 4, TW 5, TW 6, TW 7, TW 8, TW 9, TW 10, TW 11, TW 12, TW 13, TW 14, TW 15, TW 16, TW 17, TW 18, TW 19, TW 20, TW 21, TW 22, TW 23, TW 24, TW 25, TW 26, TW 27, TW 28, TW 29, TW 30, TW 31, TW 32, TW 33, TW 34, TW 35, TW 36, TW 37, TW 38, TW 39, TW 40, TW 41, TW 42, TW 43, TW 44, TW 45, TW 46, TW 47, TW 48, TW 49, TW 50, TW 51, TW 52, TW 53, TW 54, TW 55, TW 56, TW 57, TW 58, TW 59, TW 60, TW 61, TW 62, TW 63, TW 64, TW 65, TW 66, TW 67] from rfl, f2, f3, f4, f7, f8, f9, f10, f11, f12, hdf] at hac
        simp only [Option.getD_some] at hac
        subst hac
        clear hTW f2 f3 f4 f7 f8 f9 f10 f11 f12
        go_wp2_with (first
          | (refine ld_pln rfl (.tmp 3) rfl (w.heap.size) rfl HRB.out ?_)
          | (refine ld_pln rfl (.tmp 4) rfl (w.heap.size + 1) rfl HRP.out ?_))
        go_at_call 23
        (refine (RT2.out _ (HP0.out.below BB.out.below) (HP.out.below BB.out.below)).mono ?_)
        rintro e w8 ⟨p8, rfl, h8, hb8⟩
        obtain ⟨qa, qn, qc, qh, qt, qtn, qtc, qr, qrn, qrc, hpq⟩ := h8.1
        subst hpq
        have hZ : Below w8.heap.size w8 ((w8.alloc (.cells plZer 26)).setRow w8.heap.size (plC qa qn qc qh qt qtn qtc qr qrn qrc)) := below_put ((Below.refl _ w8).alloc (Nat.le_refl _) (.cells plZer 26)) (Nat.le_refl _) (plC qa qn qc qh qt qtn qtc qr qrn qrc)
        have HZ : Hid (Row (w8.alloc (.cells plZer 26)) w8.heap.size 26 plZer) := Lib.hid (Row.new w8 _ plZer)
        have HRX := Lib.hid (HZ.out.put (plC qa qn qc qh qt qtn qtc qr qrn qrc))
        have HX := Lib.hid (h8.below hZ)
        have HM := Lib.hid ((HM.out.below hb8).below hZ)
        have HR := Lib.hid ((HR.out.below hb8).below hZ)
        have HM7 := Lib.hid ((HM7.out.below hb8).below hZ)
        have HX9 := Lib.hid ((HX9.out.below hb8).below hZ)
        have HR7 := Lib.hid ((HR7.out.below hb8).below hZ)
        have HR9 := Lib.hid ((HR9.out.below hb8).below hZ)
        have BB := Lib.hid ((BB.out.go hb8).go hZ)
        clear h8 hb8 hZ HRB HRP
        go_wp2_with (first
          | (refine st_pln rfl (.tmp 13) (.tmp 51) rfl w8.heap.size rfl _ _ _ _ _ _ _ _ _ _ rfl HZ.out rfl ?_)
          | (refine ld8G (by rfl) 7 rfl w4.heap.size X7 (by rfl) HR7.out SZ7.out.size ?_)
          | (refine ldPG (by rfl) 9 rfl w5.heap.size P9 (by rfl) HR9.out SZ9.out.size ?_))
        go_at_call 19
        (refine (SO1.out _ _ _ HM7.out HX9.out).mono ?_)
        rintro e w10 ⟨rfl, hb10⟩
        have BB := Lib.hid (BB.out.go hb10)
        have HX := Lib.hid (HX.out.below hb10)
        have HM := Lib.hid (HM.out.below hb10)
        have HR := Lib.hid (HR.out.below hb10)
        have HRX := Lib.hid (HRX.out.below hb10)
        clear hb10 HM7 HX9 HR7 HR9 HZ
        go_wp2_with (first
          | (refine ld8G (by rfl) 11 rfl k11 x5 (by rfl) HR.out SZ.out.size ?_)
          | (refine ldPG (by rfl) 13 rfl w8.heap.size (plC qa qn qc qh qt qtn qtc qr qrn qrc) (by rfl) HRX.out rfl ?_))
        go_at_call 19
        (refine (SO2.out _ _ _ HM.out HX.out).mono ?_)
        rintro e w11 ⟨rfl, hb11⟩
        have BB := Lib.hid (BB.out.go hb11)
        clear hb11
        go_wp2_with fail
        go_at_call 9
        (with_reducible refine (AW.out _).mono ?_)
        rintro e w9 ⟨rfl, hb9⟩
        have HE := Lib.hid (BB.out.go hb9).below
        clear hb9
        go_wp2
        go_ret
        exact ⟨rfl, HE.out⟩
      refine Stps2.cons (o := _) ?_ ?_
      · intro ac yw hsz hold hB hp K hK
        have t3 : ac.tmps[3]? = some (.pointer (some ⟨w.heap.size, 0, none⟩)) := hold 3 (by kernel_rfl)
        clear hold hp hsz
        rw [if_pos (by rfl)]
        refine ldP 3 rfl (w.heap.size) ((plC sb r0 scb ch0 tb (tnO ch0 L0) tcb nb (nnO ch0 L0) ncb)) t3 (RWB.out _ hB.below) (rfl) ?_
        exact hK.out _ _ ⟨hB, rfl, Nat.le_refl _, .inl (Below.refl _ _), fun h => absurd h (by decide)⟩
      refine Stps2.cons (o := _) ?_ ?_
      · intro ac yw hsz hold hB hp K hK
        have e0 := hp 0 (by decide)
        have t38 : ac.tmps[38]? = some (.agg (plC sb r0 scb ch0 tb (tnO ch0 L0) tcb nb (nnO ch0 L0) ncb)) := (List.cons.inj e0).1
        clear hold hp hsz e0
        go_simp
        (go_at_call 11; (refine (OF0.out _ (HP0.out.below (BB.out.go hB.below).below)).mono ?_); rintro e wz ⟨x1, rfl, h1_0, hbz⟩)
        exact hK.out _ _ ⟨hB.go hbz, Exists.intro x1 (And.intro rfl h1_0), hbz.size, .inl hbz, fun h => absurd h (by decide)⟩
      refine Stps2.cons (o := _) ?_ ?_
      · intro ac yw hsz hold hB hp K hK
        have t4 : ac.tmps[4]? = some (.pointer (some ⟨w.heap.size + 1, 0, none⟩)) := hold 4 (by kernel_rfl)
        clear hold hp hsz
        rw [if_pos (by rfl)]
        refine ldP 4 rfl (w.heap.size + 1) ((plC sa r sc ch ta (tnO ch L) tc na (nnO ch L) nc)) t4 (RWP.out _ hB.below) (rfl) ?_
        exact hK.out _ _ ⟨hB, rfl, Nat.le_refl _, .inl (Below.refl _ _), fun h => absurd h (by decide)⟩
      refine Stps2.cons (o := _) ?_ ?_
      · intro ac yw hsz hold hB hp K hK
        have e2 := hp 2 (by decide)
        have t40 : ac.tmps[40]? = some (.agg (plC sa r sc ch ta (tnO ch L) tc na (nnO ch L) nc)) := (List.cons.inj e2).1
        clear hold hp hsz e2
        go_simp
        (go_at_call 11; (refine (OF.out _ (HP.out.below (BB.out.go hB.below).below)).mono ?_); rintro e wz ⟨x3, rfl, h3_0, hbz⟩)
        exact hK.out _ _ ⟨hB.go hbz, Exists.intro x3 (And.intro rfl h3_0), hbz.size, .inl hbz, fun h => absurd h (by decide)⟩
      refine Stps2.cons (o := _) ?_ ?_
      · intro ac yw hsz hold hB hp K hK
        have t2 : ac.tmps[2]? = some (.int .i64 i) := hold 2 (by kernel_rfl)
        clear hold hp hsz
        go_simp
        exact hK.out _ _ ⟨hB, rfl, Nat.le_refl _, .inl (Below.refl _ _), fun h => absurd h (by decide)⟩
      refine Stps2.cons (o := _) ?_ ?_
      · intro ac yw hsz hold hB hp K hK
        obtain ⟨x1_1, e1, g1_0⟩ := hp 1 (by decide)
        have t39 : ac.tmps[39]? = some (.agg x1_1) := (List.cons.inj e1).1
        obtain ⟨x3_3, e3, g3_0⟩ := hp 3 (by decide)
        have t41 : ac.tmps[41]? = some (.agg x3_3) := (List.cons.inj e3).1
        have e4 := hp 4 (by decide)
        have t42 : ac.tmps[42]? = some (.int .i64 i) := (List.cons.inj e4).1
        clear hold hp hsz e1 e3 e4
        go_simp
        (go_at_call 22; (refine (RT.out _ _ _ g1_0 g3_0).mono ?_); rintro e wz ⟨x5, rfl, h5_0, hbz⟩)
        exact hK.out _ _ ⟨hB.go hbz, Exists.intro x5 (And.intro rfl (And.intro h5_0 h5_0.1)), hbz.size, .inl hbz, fun h => absurd h (by decide)⟩
      refine Stps2.cons (o := _) ?_ ?_
      · intro ac yw hsz hold hB hp K hK
        obtain ⟨x5_5, e5, g5_0, g5_1⟩ := hp 5 (by decide)
        have t43 : ac.tmps[43]? = some (.tuple #[.agg x5_5, .int .i64 E2]) := (List.cons.inj e5).1
        clear hold hp hsz e5
        go_simp
        exact hK.out _ _ ⟨hB, Exists.intro x5_5 (And.intro rfl (And.intro g5_0 g5_1)), Nat.le_refl _, .inl (Below.refl _ _), fun h => absurd h (by decide)⟩
      refine Stps2.cons (o := _) ?_ ?_
      · intro ac yw hsz hold hB hp K hK
        obtain ⟨x5_6, e6, g6_0, g6_1⟩ := hp 6 (by decide)
        have t37 : ac.tmps[37]? = some (.tuple #[.agg x5_6, .int .i64 E2]) := (List.cons.inj e6).1
        clear hold hp hsz e6
        go_simp
        exact hK.out _ _ ⟨hB, Exists.intro x5_6 (And.intro rfl (And.intro g6_0 g6_1)), Nat.le_refl _, .inl (Below.refl _ _), fun h => absurd h (by decide)⟩
      refine Stps2.cons (o := _) ?_ ?_
      · intro ac yw hsz hold hB hp K hK
        obtain ⟨x5_6, e6, g6_0, g6_1⟩ := hp 6 (by decide)
        have t37 : ac.tmps[37]? = some (.tuple #[.agg x5_6, .int .i64 E2]) := (List.cons.inj e6).1
        clear hold hp hsz e6
        go_simp
        exact hK.out _ _ ⟨hB, rfl, Nat.le_refl _, .inl (Below.refl _ _), fun h => absurd h (by decide)⟩
      refine Stps2.cons (o := _) ?_ ?_
      · intro ac yw hsz hold hB hp K hK
        clear hold hp hsz
        have hbz : Below yw.heap.size yw (yw.alloc (.cells zerC 34)) ∧ yw.heap.size < (yw.alloc (.cells zerC 34)).heap.size := ⟨(Below.refl _ _).alloc (Nat.le_refl _) _, by rw [World.size_alloc]; omega⟩
        go_simp
        exact hK.out _ _ ⟨hB.alloc _, Exists.intro yw.heap.size (Exists.intro zerC (And.intro rfl (And.intro ((Row.new yw _ zerC)) (And.intro IsA.zer hB.below.size)))), Nat.le_of_lt hbz.2, .inl hbz.1, fun _ => ⟨_, rfl, Nat.le_refl _, hbz.2⟩⟩
      refine Stps2.cons (o := _) ?_ ?_
      · intro ac yw hsz hold hB hp K hK
        obtain ⟨k9_9, z9_9, e9, g9_0, g9_1, g9_2⟩ := hp 9 (by decide)
        have t11 : ac.tmps[11]? = some (.pointer (some ⟨k9_9, 0, none⟩)) := (List.cons.inj e9).1
        obtain ⟨x5_7, e7, g7_0, g7_1⟩ := hp 7 (by decide)
        have t44 : ac.tmps[44]? = some (.agg x5_7) := (List.cons.inj e7).1
        clear hold hp hsz e9 e7
        rw [if_pos (by rfl)]
        have HB : Bag _ (fun _ => True) (yw.setRow k9_9 x5_7) := ⟨below_put hB.below g9_2 _, fun _ _ _ _ => trivial, trivial⟩
        refine st8 11 44 rfl k9_9 x5_7 t11 t44 _ z9_9 g9_0 g9_1 g7_1 ?_
        refine hK.out undef _ ⟨HB, Exists.intro k9_9 (Exists.intro x5_7 (And.intro (congrArg (fun x => [x]) t11) (And.intro (g9_0.put _) (And.intro (g7_0.store g9_0 g9_1 _) g7_1)))), by simp [World.setRow], .inr ?_, fun h => absurd h (by decide)⟩
        intro jj hj hap h
        match jj, h with
        | 0, h => exact h
        | 1, ⟨x1, e1, g1_0⟩ =>
          exact Exists.intro x1 (And.intro e1 (g1_0.store g9_0 g9_1 _))
        | 2, h => exact h
        | 3, ⟨x3, e3, g3_0⟩ =>
          exact Exists.intro x3 (And.intro e3 (g3_0.store g9_0 g9_1 _))
        | 4, h => exact h
        | 5, ⟨x5, e5, g5_0, g5_1⟩ =>
          exact Exists.intro x5 (And.intro e5 (And.intro (g5_0.store g9_0 g9_1 _) g5_1))
        | 6, ⟨x5, e6, g6_0, g6_1⟩ =>
          exact Exists.intro x5 (And.intro e6 (And.intro (g6_0.store g9_0 g9_1 _) g6_1))
        | 7, ⟨x5, e7, g7_0, g7_1⟩ =>
          exact Exists.intro x5 (And.intro e7 (And.intro (g7_0.store g9_0 g9_1 _) g7_1))
        | 8, h => exact h
        | 9, ⟨k9, z9, e9, g9_0, g9_1, g9_2⟩ =>
          have e9 : k9 = k9_9 := by have := (List.cons.inj e9).1.symm.trans t11; cases this; rfl
          subst e9
          exact Exists.intro _ (Exists.intro _ (And.intro e9 (And.intro (g9_0.put _) (And.intro g7_1 g9_2))))
        | 10, _ => exact absurd rfl hj
        | 11, h => exact h
        | _ + 12, h => exact h
      refine Stps2.cons (o := _) ?_ ?_
      · intro ac yw hsz hold hB hp K hK
        have e8 := hp 8 (by decide)
        have t45 : ac.tmps[45]? = some (.int .i64 E2) := (List.cons.inj e8).1
        clear hold hp hsz e8
        go_simp
        exact hK.out _ _ ⟨hB, rfl, Nat.le_refl _, .inl (Below.refl _ _), fun h => absurd h (by decide)⟩
      exact Stps2.nil _

theorem own : ownKnob Tryz.prog.godebug = none := by kernel_rfl
theorem laidOut : laidOutB Tryz.prog = true := by kernel_rfl

set_option maxRecDepth 100000 in
theorem moldTurns_lifted (os : Os) (started : os.Started) (H : Type) (enc : TypeId × Value → H) :
    ReturnsInHanded {} Tryz.checked os 4 .any (fun w args => (Rows.moldTurnsSpec.pre enc Tryz.prog Tryz.f4 [] false w args ∧ laidMetH Tryz.prog Rows.moldTurnsRow.laid w) ∧ sizedMet enc Tryz.prog Tryz.f4 (OpenSpec.ofChange Rows.moldTurnsSpec) false w args)
      (Rows.moldTurnsSpec.post enc Tryz.prog Tryz.f4 false true false false) := by
  refine returnsInHanded_of_change_and (C := Tryz.checked) (X := fun w _ => laidMetH Tryz.prog Rows.moldTurnsRow.laid w) (fun _ _ _ hh h => h.of_heap hh) own started (by kernel_rfl) Tryz.func4
    (ChangeSpec.witness_shaped (enc := enc) (C := Tryz.checked) (os := os) (X := fun w _ => laidMetH Tryz.prog Rows.moldTurnsRow.laid w) false (World.laidAll Tryz.prog os Rows.moldTurnsRow.laid) #[.agg #[.slice none 0 0, .bool false, .slice none 0 0, .slice none 0 0], .agg #[.slice none 0 0, .bool false, .slice none 0 0, .slice none 0 0], .int .i64 0] 8 (World.laidAll_os _ _ _)
      (World.shaped_of_ZipB (by kernel_rfl) (by kernel_rfl)) (by kernel_rfl) (by kernel_rfl) (by kernel_rfl)
      (by rw [MakeChecks.laidMetH_plain _ _ _ (by kernel_rfl)]; exact laidMet_laidAll _ (by kernel_rfl) (by kernel_rfl))) ?_
  intro W base args ds gs before hval0 hW _ _ _ _
  have hval : ∀ (j : Nat) t v, Tryz.f4.params[j]? = some t → args[j]? = some v → Value.okWide Tryz.prog W .any base t v := hval0
  have hW' := hW
  obtain ⟨p, q, hA0, hV, rfl, _, _⟩ := hW
  have hA : DataW.TrodAll enc Tryz.prog W 0 (fun _ => true) true Tryz.f4.params.toList args.toList ds p := hA0
  rw [Tryz.params4] at hA hval
  obtain ⟨v0, v1, v2, d0, d1, d2, p0, p1, p2, rfl, rfl, rfl, h0, h1, h2⟩ := trodAll_three hA
  obtain ⟨rfl, rfl⟩ := trodVars_none hV
  obtain ⟨cs0, S0, q0, ch0, g0, tn0, fB0, fS0, fT0, nn0, rfl, k0, w0, z0⟩ := open_pln (hval 0 26 v0 rfl rfl) h0
  obtain ⟨cs1, S1, q1, ch1, g1, tn1, fB1, fS1, fT1, nn1, rfl, k1, w1, z1⟩ := open_pln (hval 1 26 v1 rfl rfl) h1
  obtain ⟨x2, rfl, rfl, rfl, w2⟩ := open_int Tryz.underlying3 (hval 2 3 v2 rfl rfl) h2
  have b2 : -9223372036854775808 ≤ x2 ∧ x2 ≤ 9223372036854775807 := by simpa [Lit.wf, IntKind.min, IntKind.max, IntKind.signed, IntKind.bits] using w2
  have hlt : ∀ y ∈ p0 ++ (p1 ++ ([])), y.block < W.heap.size := fun y hy => by simpa using hW'.lt y (by simpa using hy)
  simp only [List.append_nil] at hW'
  refine (moldTurns_walk cs0 S0 q0 ch0 g0 tn0 fB0 fS0 fT0 nn0 cs1 S1 q1 ch1 g1 tn1 fB1 fS1 fT1 nn1 x2 W k0 w0 z0 k1 w1 z1 b2).mono fun e W' ⟨he, hb⟩ => ?_
  subst he
  exact ⟨_, rfl, _, _, _, [], _, [], hW', trodAll_mk1 (shut_bool Tryz.underlying4 _), trodAll_mk3 (Below.trod laidOut (by kernel_rfl) (of_decide_eq_true (by kernel_rfl)) h0 hb (fun y hy => hlt y (by simp [hy]))) (Below.trod laidOut (by kernel_rfl) (of_decide_eq_true (by kernel_rfl)) h1 hb (fun y hy => hlt y (by simp [hy]))) (shut_int Tryz.underlying3 w2), rfl, hb.frame _, fun h => by cases h⟩

theorem moldTurns_row : Rows.MoldTurnsSaid :=
  OpenClaim.holds_of_wide 4 Tryz.f4 rfl rfl rfl rfl rfl rfl rfl ⟨rfl, rfl, rfl, rfl, rfl⟩ rfl rfl rfl rfl rfl (by kernel_rfl) Tryz.func4 (by kernel_rfl)
    (of_decide_eq_true (by kernel_rfl)) (by unfold Func.isWrapper; first | (rw [if_pos (by decide +kernel)]; kernel_rfl) | (rw [if_neg (by decide +kernel)]; exact ⟨rfl, rfl⟩))
    (fun os started H enc _ => moldTurns_lifted os started H enc)

theorem moldTurns_holds : Rows.MoldTurnsCardSaid :=
  Claim7.holds_tied_plain_at .later [] [.data, .pinned] true Rows.moldTurnsCard.stood.harness Rows.moldTurnsCard.stood.looks moldTurns_row (fun _ h => by cases h) (by kernel_rfl) (fun _ h => by cases h) moldTurns_row_tie rfl ⟨rfl, rfl⟩ (by kernel_rfl) rfl
    (fun f fn hf hfn => by
      obtain rfl : f = 4 := Option.some.inj ((show Tryz.prog.funcNamed "typeball/typeballlaw08.MoldTurns" = some 4 by kernel_rfl).symm.trans hf) |>.symm
      obtain rfl : fn = Tryz.f4 := (Option.some.inj (Tryz.func4.symm.trans hfn)).symm
      exact ⟨by kernel_rfl, fun j t ht => by
        rw [Tryz.params4] at ht
        have hm : t ∈ [26, 3] := by simpa using Array.mem_of_getElem? ht
        have hall : ([26, 3].all fun u => !Tryz.prog.wantsStandIn u) = true := by kernel_rfl
        exact (show Tryz.prog.wantsStandIn t = false by simpa using List.all_eq_true.1 hall t hm)⟩)
    (by kernel_rfl)
#print axioms moldTurns_holds
end Go.Proofs.YtkljpofljkgkdaaGreatDoor
