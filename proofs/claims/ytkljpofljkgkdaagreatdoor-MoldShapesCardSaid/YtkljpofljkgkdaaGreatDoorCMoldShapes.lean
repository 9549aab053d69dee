/-
  Proved: the law MoldShapes of package typeballlaw08 returns true for every two plain arrays and every number, under the row's own conditions.
-/
import Derived.Test.YtkljpofljkgkdaaGreatDoorQ1
import Derived.Test.YtkljpofljkgkdaaGreatDoorQ2
import Derived.Test.YtkljpofljkgkdaaGreatDoorQ3
import Derived.Test.YtkljpofljkgkdaaGreatDoorQ4
import Derived.Test.YtkljpofljkgkdaaGreatDoorQ5
import Derived.Test.YtkljpofljkgkdaaGreatDoorQ6
import Derived.Test.YtkljpofljkgkdaaGreatDoorQ7
import Derived.Test.YtkljpofljkgkdaaGreatDoorQ8
import Derived.Test.YtkljpofljkgkdaaGreatDoorQ9
import Derived.Test.YtkljpofljkgkdaaGreatDoorC1
import Derived.SizedLaws
import Derived.Test.YtkljpofljkgkdaaGreatDoorCards
import Derived.Test.YtkljpofljkgkdaaGreatDoorTie
import Derived.LaidMore
import Derived.Lay
import Derived.SevenTiedAt
import Derived.Stop.Joined
namespace Go.Proofs.YtkljpofljkgkdaaGreatDoor
open Go.ChangeShapes Go.WideShapes Go.ChangeAt Go.RowKit Go.WideMaps Go.WideElems
attribute [local go_sem ↓] Go.wp_at_zero Go.wp_at_succ

set_option linter.unusedSimpArgs false in
set_option maxHeartbeats 6400000 in
set_option maxRecDepth 100000 in
theorem moldShapes_walk (cs0 : Array Value) (S0 : Nat → Int) (r0 : Nat) (ch0 : Bool) (g0 : Nat → Int) (tn0 : Nat) (fB0 : Nat → Bool) (fS0 fT0 : Nat → ByteArray) (nn0 : Nat) (cs : Array Value) (S : Nat → Int) (r : Nat) (ch : Bool) (g : Nat → Int) (tn : Nat) (fB : Nat → Bool) (fS fT : Nat → ByteArray) (nn : Nat) (i : Int)
    (w : World) (h0 : PlnAt w cs0 S0 r0 ch0 g0 tn0 fB0 fS0 fT0 nn0) (hS0 : In64 S0 r0) (hz0 : ∀ j, j < nn0 → (fS0 j).size ≤ maxLen ∧ (fT0 j).size ≤ maxLen) (h : PlnAt w cs S r ch g tn fB fS fT nn) (hS : In64 S r) (hz : ∀ j, j < nn → (fS j).size ≤ maxLen ∧ (fT j).size ≤ maxLen) (_ : -9223372036854775808 ≤ i ∧ i ≤ 9223372036854775807) :
    Calls Tryz.prog 3 #[.agg cs0, .agg cs, .int .i64 i] w fun e w' => e = .returned (.bool true) ∧ Below w.heap.size w w' := by
  have HP0 := Lib.hid h0
  have HP := Lib.hid h
  obtain ⟨sb, scb, tb, tcb, nb, ncb, rfl, _⟩ := h0
  obtain ⟨sa, sc, ta, tc, na, nc, rfl, hk, _⟩ := h
  have HK := Lib.hid hk
  have LP0 := Lib.hid (fun wz h => light9_any (plC sb r0 scb ch0 tb tn0 tcb nb nn0 ncb) S0 r0 ch0 g0 tn0 fB0 fS0 fT0 nn0 wz h hS0 hz0)
  have LP := Lib.hid (fun wz h => light9_any (plC sa r sc ch ta tn tc na nn nc) S r ch g tn fB fS fT nn wz h hS hz)
  have AW := Lib.hid (fun wz => awake8_any wz)
  have BB := Lib.hid (((Bag.start w).newRow (plC sb r0 scb ch0 tb tn0 tcb nb nn0 ncb) 26).newRow (plC sa r sc ch ta tn tc na nn nc) 26)
  simp only [World.size_alloc] at BB
  have HR := Lib.hid BB.out.now.2.1
  clear hS0 hz0 hS hz hk
  unfold plC
  go_enter Tryz.func3, Tryz.ntmps3
  go_wp2_with (refine ldPG (by rfl) 3 rfl w.heap.size (plC sb r0 scb ch0 tb tn0 tcb nb nn0 ncb) (by rfl) HR.out rfl ?_)
  go_at_call 8
  (with_reducible refine (LP0.out _ ?_).mono ?_)
  · exact HP0.out.below BB.out.below
  rintro e w2 ⟨b0, rfl, hb0, hb2⟩
  have BB := Lib.hid (BB.out.go hb2)
  clear hb2 LP0
  cases b0 with
  | false =>
    clear hb0 HR
    go_wp2_with fail
    go_at_call 9
    (with_reducible refine (AW.out _).mono ?_)
    rintro e w9 ⟨rfl, hb9⟩
    have HE := Lib.hid (BB.out.go hb9).below
    clear hb9
    go_wp2
    go_ret
    exact ⟨rfl, HE.out⟩
  | true =>
    obtain ⟨L0, rfl, rfl, hG0⟩ := hb0 rfl
    clear hb0
    have HR := Lib.hid BB.out.now.1
    go_wp2_with (refine ldPG (by rfl) 4 rfl (w.heap.size + 1) (plC sa r sc ch ta tn tc na nn nc) (by rfl) HR.out rfl ?_)
    go_at_call 8
    (with_reducible refine (LP.out _ ?_).mono ?_)
    · exact HP.out.below BB.out.below
    rintro e w3 ⟨b, rfl, hb, hb3⟩
    have BB := Lib.hid (BB.out.go hb3)
    clear hb3 LP
    cases b with
    | false =>
      clear hb HR hG0
      go_wp2_with fail
      go_at_call 9
      (with_reducible refine (AW.out _).mono ?_)
      rintro e w9 ⟨rfl, hb9⟩
      have HE := Lib.hid (BB.out.go hb9).below
      clear hb9
      go_wp2
      go_ret
      exact ⟨rfl, HE.out⟩
    | true =>
      obtain ⟨L, rfl, rfl, hG⟩ := hb rfl
      clear hb
      have HR := Lib.hid BB.out.now.1
      have hGL := hG.le
      have hGL0 := hG0.le
      have h8 := hG.rank
      have h80 := hG0.rank
      have hin := hG.in64
      obtain ⟨nP, hnP⟩ : ∃ f, gP fB fS fT = f := ⟨_, rfl⟩
      obtain ⟨nQ, hnQ⟩ : ∃ f, gQ fB fS fT = f := ⟨_, rfl⟩
      obtain ⟨mP, hmP⟩ : ∃ f, gP fB0 fS0 fT0 = f := ⟨_, rfl⟩
      obtain ⟨mQ, hmQ⟩ : ∃ f, gQ fB0 fS0 fT0 = f := ⟨_, rfl⟩
      have OF0 := Lib.hid (fun wz h => of8_any (plC sb r0 scb ch0 tb (tnO ch0 L0) tcb nb (nnO ch0 L0) ncb) S0 r0 ch0 L0 g0 fB0 fS0 fT0 wz h hG0)
      have OF := Lib.hid (fun wz h => of8_any (plC sa r sc ch ta (tnO ch L) tc na (nnO ch L) nc) S r ch L g fB fS fT wz h hG)
      have hN0 := hG0.num
      have hq0 := hG0.pos
      have hel := hG.els (arG L) (itm mP L0).toNat
      rw [hmP, hmQ] at OF0 hN0
      rw [hmQ] at hq0
      rw [hnP, hnQ] at OF hel
      obtain ⟨AX, hAX⟩ : ∃ x, axI r i = x := ⟨_, rfl⟩
      obtain ⟨AQ, hAQ⟩ : ∃ x, axQ r i = x := ⟨_, rfl⟩
      have MA := Lib.hid (fun x wz (q : Arr wz x S r ch L g nP nQ) => moAxis_any x S r ch L g nP nQ i wz q h8)
      have RA := Lib.hid (fun wz (q : Pln wz (plC sa r sc ch ta (tnO ch L) tc na (nnO ch L) nc) S r ch L g fB fS fT) => rAxis_any (plC sa r sc ch ta (tnO ch L) tc na (nnO ch L) nc) S r ch L g fB fS fT i wz q (by omega))
      rw [hAX, hAQ] at MA RA
      have MS := Lib.hid (fun x wz (q : Arr wz x S r ch L g nP nQ) => moShape_any x S r ch L g nP nQ wz q h8 hin)
      have hsS : Small false r S (fun _ => 1) := fun _ j hj => by
        have h4 := ax_le4 hG.sh hj
        exact ⟨Nat.one_pos, Nat.lt_of_le_of_lt (show (S j).natAbs ≤ 4096 by omega) (by decide), show (1 : Nat) < 4294967296 ^ 7 by decide⟩
      have PL := Lib.hid (fun x wz (q : Arr wz x (fun _ => (r : Int)) 1 false r (fun _ => 0) S (fun _ => 1)) => plain8_any x (fun _ => (r : Int)) 1 false r (fun _ => 0) S (fun _ => 1) wz (by omega) q (by omega) hsS)
      have RI := Lib.hid (fun wz (q : KRow wz .i64 sa r sc S) => pints_any sa r sc S wz q hin (by omega))
      have SM := Lib.hid (fun x p wz (q : Pln wz x (fun _ => (r : Int)) 1 false r (fun _ => 0) (fun j => rB (S j)) (fun j => rS (S j)) (fun _ => str (dec 1))) (z : Pln wz p (fun _ => (r : Int)) 1 false r (fun _ => 0) (fun j => rB (S j)) (fun j => rS (S j)) (fun _ => str (dec 1))) => pl_same (plB_of2 (fun _ _ => rfl) (fun _ _ => rfl) (fun _ _ => ⟨rfl, rfl, rfl⟩)) q z)
      have hrE : rsE r0 ch0 L0 mP mQ = 0 → L0 ≤ 8 ∧ (itm mP L0).toNat ≤ 1000000 := fun e => by
        unfold rsE at e
        split at e
        · split at e
          · omega
          · split at e
            · omega
            · split at e
              · rename_i hs
                have := ax_bd (sh_ax hs).2
                omega
              · omega
        · rename_i hx
          exact absurd e hx
      obtain ⟨E, hE⟩ : ∃ E, rsE r0 ch0 L0 mP mQ = E := ⟨_, rfl⟩
      obtain ⟨M, hM⟩ : ∃ M, (itm mP L0).toNat = M := ⟨_, rfl⟩
      obtain ⟨gE, hgE⟩ : ∃ f : Nat → Int, (fun j => elC L g 32 (arG L j)) = f := ⟨_, rfl⟩
      obtain ⟨PE, hPE⟩ : ∃ f : Nat → Int, (fun j => elP L nP (arG L j)) = f := ⟨_, rfl⟩
      obtain ⟨QE, hQE⟩ : ∃ f : Nat → Nat, (fun j => elQ L nQ (arG L j)) = f := ⟨_, rfl⟩
      obtain ⟨BE, hBE⟩ : ∃ f : Nat → Bool, (fun j => elB L fB (arG L j)) = f := ⟨_, rfl⟩
      obtain ⟨SE, hSE⟩ : ∃ f : Nat → ByteArray, (fun j => elS L fS (rS 0) (arG L j)) = f := ⟨_, rfl⟩
      obtain ⟨TE, hTE⟩ : ∃ f : Nat → ByteArray, (fun j => elS L fT (str (dec 1)) (arG L j)) = f := ⟨_, rfl⟩
      rw [hM, hPE, hQE, hBE, hSE, hTE] at hel
      rw [hE, hM] at hrE
      have RS : Hid (∀ x0 x wz, Arr wz x0 S0 r0 ch0 L0 g0 mP mQ → Arr wz x S r ch L g nP nQ → Calls Tryz.prog 17 #[.agg x0, .agg x] wz fun e w' => ∃ y, e = .returned (.tuple #[.agg y, .int .i64 E]) ∧ MoR w' y E mP L0 ch M gE PE QE ∧ Below wz.heap.size wz w') := Lib.hid (fun x0 x wz q0 q =>
        (reshape_any x0 S0 r0 ch0 L0 g0 mP mQ x S r ch L g nP nQ wz q0 q h80 hq0 (by omega) (by omega)).mono (by
          intro e w' hq
          have := hq.res
          rw [hE, hM, hgE, hPE, hQE] at this
          exact this))
      have RR : Hid (∀ wz, Pln wz (plC sb r0 scb ch0 tb (tnO ch0 L0) tcb nb (nnO ch0 L0) ncb) S0 r0 ch0 L0 g0 fB0 fS0 fT0 → Pln wz (plC sa r sc ch ta (tnO ch L) tc na (nnO ch L) nc) S r ch L g fB fS fT → Calls Tryz.prog 18 #[.agg (plC sb r0 scb ch0 tb (tnO ch0 L0) tcb nb (nnO ch0 L0) ncb), .agg (plC sa r sc ch ta (tnO ch L) tc na (nnO ch L) nc)] wz fun e w' => ∃ y, e = .returned (.tuple #[.agg y, .int .i64 E]) ∧ PoR w' y E mP L0 ch M gE BE SE TE ∧ Below wz.heap.size wz w') := Lib.hid (fun wz q0 q =>
        (rReshape_any (plC sb r0 scb ch0 tb (tnO ch0 L0) tcb nb (nnO ch0 L0) ncb) S0 r0 ch0 L0 g0 fB0 fS0 fT0 mP mQ (plC sa r sc ch ta (tnO ch L) tc na (nnO ch L) nc) S r ch L g fB fS fT wz q0 q hN0 (by omega) (by omega)).mono (by
          intro e w' hq
          have := hq.res
          rw [hE, hM, hgE, hBE, hSE, hTE] at this
          exact this))
      have SO := Lib.hid (fun x p wz (q : MoR wz x E mP L0 ch M gE PE QE) (z : PoR wz p E mP L0 ch M gE BE SE TE) => shows8_any x p E mP L0 ch M gE PE QE BE SE TE wz q z hrE hel)
      clear hin hN0 hq0 hel hAX hAQ hsS hrE hE hM hgE hPE hQE hBE hSE hTE hnP hnQ hmP hmQ hG hG0 hGL hGL0 h8 h80
      go_wp2_with (refine ld_pln rfl (.tmp 4) rfl (w.heap.size + 1) rfl HR.out ?_)
      go_at_call 11
      (with_reducible refine (OF.out _ ?_).mono ?_)
      · exact HP.out.below BB.out.below
      rintro e w4 ⟨xa, rfl, ha, hb4⟩
      have BB := Lib.hid ((BB.out.go hb4).arr ha)
      clear ha hb4 HR
      go_wp2_with fail
      go_at_call 10
      (refine (MA.out _ _ BB.out.now.1).mono ?_)
      rintro e w5 ⟨rfl, hb5⟩
      have BB := Lib.hid (BB.out.go hb5)
      have HR := Lib.hid BB.out.now.2.1
      clear hb5
      go_wp2_with (refine ld_pln rfl (.tmp 4) rfl (w.heap.size + 1) rfl HR.out ?_)
      go_at_call 12
      (refine (RA.out _ (HP.out.below BB.out.below)).mono ?_)
      rintro e Y5 ⟨rfl, hb6⟩
      have BB := Lib.hid (BB.out.go hb6)
      have RWP : Hid (∀ yz, Below Y5.heap.size Y5 yz → Row yz (w.heap.size + 1) 26 (plC sa r sc ch ta (tnO ch L) tc na (nnO ch L) nc)) := Lib.hid (fun yz hb => Row.below BB.out.now.2.1 hb)
      have RWB : Hid (∀ yz, Below Y5.heap.size Y5 yz → Row yz w.heap.size 26 (plC sb r0 scb ch0 tb (tnO ch0 L0) tcb nb (nnO ch0 L0) ncb)) := Lib.hid (fun yz hb => Row.below BB.out.now.2.2.1 hb)
      have BB := Lib.hid (Bag.fresh BB.out.below)
      clear hb6 HR
      go_wp2_with fail
      refine wp_region_inv2 ⟨(fun j => ([[37], [38], [39], [40], [41], [42], [43], [44], [45], [46], [47], [48], [49], [50], [51], [52], [53], [54], [55]] : List (List Nat)).getD j []), (fun j => ([[], [], [0, 1], [0, 1, 2], [0, 1, 2, 3], [0, 1, 2, 3], [0, 1, 2, 3, 4, 5], [0, 1, 2, 3, 4, 5, 6], [0, 1, 2, 3, 4, 5, 6, 7], [0, 1, 2, 3, 4, 5, 6, 7, 8], [0, 1, 2, 3, 4, 5, 6, 7, 8, 9], [0, 1, 2, 3, 4, 5, 6, 7, 8, 9, 10], [0, 1, 2, 3, 4, 5, 6, 7, 8, 9, 10, 11], [0, 1, 2, 3, 4, 5, 6, 7, 8], [0, 1, 2, 3, 4, 5, 6, 7, 8, 13], [0, 1, 2, 3, 4, 5, 6, 7, 8, 9, 10, 11, 12, 13, 14], [0, 1, 2, 3, 4, 5, 6, 7, 8, 9, 10, 11, 12, 13, 14, 15], [0, 1, 2, 3, 4, 5, 6, 7, 8, 9, 10, 11, 12, 13, 14, 15, 16], [0, 1, 2, 3, 4, 5, 6, 7, 8, 9, 10, 11, 12, 13, 14, 15, 16, 17]] : List (List Nat)).getD j []), []⟩ (fun jj vv yy => match jj with | 0 => vv = [some (.int .i64 AX)] | 1 => vv = [some (.int .i64 AX)] | 2 => vv = [some (.bool false)] | 3 => vv = [some (.bool false)] | 4 => vv = [some (.bool AQ)] | 5 => vv = [some (.bool AQ)] | 6 => vv = [some (.bool false)] | 7 => vv = [some (.bool false)] | 8 => vv = [some (.bool false)] | 9 => vv = [some (.agg (plC sa r sc ch ta (tnO ch L) tc na (nnO ch L) nc))] | 10 => ∃ (x10 : Array Value), vv = [some (.agg x10)] ∧ Arr yy x10 S r ch L g nP nQ | 11 => ∃ (x11 : Array Value), vv = [some (.agg x11)] ∧ ArrA yy x11 (fun _ => (r : Int)) 1 false r S (fun _ => 1) | 12 => ∃ (x12 : Array Value), vv = [some (.agg x12)] ∧ Pln yy x12 (fun _ => (r : Int)) 1 false r (fun _ => 0) (fun j => rB (S j)) (fun j => rS (S j)) (fun _ => str (dec 1)) | 13 => vv = [some (.pointer (some ⟨w.heap.size + 1, 0, none⟩))] | 14 => vv = [some (.slice sa r sc)] | 15 => ∃ (x15 : Array Value), vv = [some (.agg x15)] ∧ Pln yy x15 (fun _ => (r : Int)) 1 false r (fun _ => 0) (fun j => rB (S j)) (fun j => rS (S j)) (fun _ => str (dec 1)) | 16 => vv = [some (.bool true)] | 17 => vv = [some (.bool false)] | 18 => vv = [some (.bool false)] | _ => True) (Bag Y5 (fun _ => True)) (by kernel_rfl) (by kernel_rfl) (by kernel_rfl) (Bag.start Y5).drew ?_ ?_ ?_
      · intro jj vv yw yw2 hb h
        match jj, h with
        | 0, h => exact h
        | 1, h => exact h
        | 2, h => exact h
        | 3, h => exact h
        | 4, h => exact h
        | 5, h => exact h
        | 6, h => exact h
        | 7, h => exact h
        | 8, h => exact h
        | 9, h => exact h
        | 10, ⟨x10, e10, g10_0⟩ => exact Exists.intro x10 (And.intro e10 (g10_0.below hb))
        | 11, ⟨x11, e11, g11_0⟩ => exact Exists.intro x11 (And.intro e11 (g11_0.below hb))
        | 12, ⟨x12, e12, g12_0⟩ => exact Exists.intro x12 (And.intro e12 (g12_0.below hb))
        | 13, h => exact h
        | 14, h => exact h
        | 15, ⟨x15, e15, g15_0⟩ => exact Exists.intro x15 (And.intro e15 (g15_0.below hb))
        | 16, h => exact h
        | 17, h => exact h
        | 18, h => exact h
        | _ + 19, h => exact h
      · intro ac yw hsz hdf hold hB hp
        have t55 : ac.tmps[55]? = some (.bool false) := (List.cons.inj (hp 18 (by decide))).1
        have t3 : ac.tmps[3]? = some (.pointer (some ⟨w.heap.size, 0, none⟩)) := hold 3 (by kernel_rfl)
        have t4 : ac.tmps[4]? = some (.pointer (some ⟨w.heap.size + 1, 0, none⟩)) := hold 4 (by kernel_rfl)
        have RWB := Lib.hid (fun yz hb => RWB.out yz (hB.below.trans (Below.mono hb hB.below.size)))
        have RWP := Lib.hid (fun yz hb => RWP.out yz (hB.below.trans (Below.mono hb hB.below.size)))
        have BB := Lib.hid (Bag.fresh (BB.out.go hB.below).below)
        clear hold hp hB
        obtain ⟨TU, hTU⟩ : ∃ TU : Nat → Value, ∀ i, (ac.tmps[i]?).getD undef = TU i := ⟨_, fun _ => rfl⟩
        have f3 := (hTU 3).symm.trans (congrArg (fun x => Option.getD x undef) t3)
        have f4 := (hTU 4).symm.trans (congrArg (fun x => Option.getD x undef) t4)
        have f55 := (hTU 55).symm.trans (congrArg (fun x => Option.getD x undef) t55)
        have hac := act_eq (n := 78) hsz TU hTU
        rw [show ((List.range 78).map TU).toArray = #[TU 0, TU 1, TU 2, TU 3, TU 4, TU 5, TU 6, TU 7, TU 8, TU 9, TU 10, TU 11, TU 12, TU 13, TU 14, TU 15, TU 16, TU 17, TU 18, TU 19, TU 20, TU 21, TU 22, TU 23, TU 24, TU 25, TU 26, TU 27, TU 28, TU 29, TU 30, TU 31, TU 32, TU 33, TU 34, TU 35, TU 36, TU 37, TU 38, TU 39, TU 40, TU 41, TU 42, TU 43, TU 44, TU 45, TU 46, TU 47, TU 48, TU 49, TU 50, TU 51, TU 52, TU 53, TU 54, TU 55, TU 56, TU 57, TU 58, TU 59, TU 60, TU 61, TU 62, TU 63, TU 64, TU 65, TU 66, TU 67, TU 68, TU 69, TU 70, TU 71, TU 72, TU 73, TU 74, TU 75, TU 76, TU 77] from rfl, f3, f4, f55, hdf] at hac
        simp only [Option.getD_some] at hac
        subst hac
        clear hTU f3 f4 f55
        go_wp2_with fail
        generalize yw = Y7 at *
        refine wp_region_inv2 ⟨(fun j => ([[57], [58], [59], [60], [61], [56], [62], [63], [11], [11], [12]] : List (List Nat)).getD j []), (fun j => ([[], [0], [], [0, 1, 2], [0, 1, 2, 3], [0, 1, 2, 3, 4], [0, 1, 2, 3, 4, 5], [0, 1, 2, 3, 4, 5], [], [0, 1, 2, 3, 4, 5, 6, 8], [0, 1, 2, 3, 4, 5, 6, 7, 8, 9]] : List (List Nat)).getD j []), [8]⟩ (fun jj vv yy => match jj with | 0 => vv = [some (.agg (plC sb r0 scb ch0 tb (tnO ch0 L0) tcb nb (nnO ch0 L0) ncb))] | 1 => ∃ (x1 : Array Value), vv = [some (.agg x1)] ∧ Arr yy x1 S0 r0 ch0 L0 g0 mP mQ | 2 => vv = [some (.agg (plC sa r sc ch ta (tnO ch L) tc na (nnO ch L) nc))] | 3 => ∃ (x3 : Array Value), vv = [some (.agg x3)] ∧ Arr yy x3 S r ch L g nP nQ | 4 => ∃ (x4 : Array Value), vv = [some (.tuple #[.agg x4, .int .i64 E])] ∧ MoR yy x4 E mP L0 ch M gE PE QE ∧ IsA x4 | 5 => ∃ (x4 : Array Value), vv = [some (.tuple #[.agg x4, .int .i64 E])] ∧ MoR yy x4 E mP L0 ch M gE PE QE ∧ IsA x4 | 6 => ∃ (x4 : Array Value), vv = [some (.agg x4)] ∧ MoR yy x4 E mP L0 ch M gE PE QE ∧ IsA x4 | 7 => vv = [some (.int .i64 E)] | 8 => ∃ (k8 : Nat), ∃ (z8 : Array Value), vv = [some (.pointer (some ⟨k8, 0, none⟩))] ∧ Row yy k8 34 z8 ∧ IsA z8 ∧ Y7.heap.size ≤ k8 | 9 => ∃ (k8 : Nat), ∃ (x4 : Array Value), vv = [some (.pointer (some ⟨k8, 0, none⟩))] ∧ Row yy k8 34 x4 ∧ MoR yy x4 E mP L0 ch M gE PE QE ∧ IsA x4 | 10 => vv = [some (.int .i64 E)] | _ => True) (Bag Y7 (fun _ => True)) (by kernel_rfl) (by kernel_rfl) (by kernel_rfl) (Bag.start Y7).drew ?_ ?_ ?_
        · intro jj vv yw yw2 hb h
          match jj, h with
          | 0, h => exact h
          | 1, ⟨x1, e1, g1_0⟩ => exact Exists.intro x1 (And.intro e1 (g1_0.below hb))
          | 2, h => exact h
          | 3, ⟨x3, e3, g3_0⟩ => exact Exists.intro x3 (And.intro e3 (g3_0.below hb))
          | 4, ⟨x4, e4, g4_0, g4_1⟩ => exact Exists.intro x4 (And.intro e4 (And.intro (g4_0.below hb) g4_1))
          | 5, ⟨x4, e5, g5_0, g5_1⟩ => exact Exists.intro x4 (And.intro e5 (And.intro (g5_0.below hb) g5_1))
          | 6, ⟨x4, e6, g6_0, g6_1⟩ => exact Exists.intro x4 (And.intro e6 (And.intro (g6_0.below hb) g6_1))
          | 7, h => exact h
          | 8, ⟨k8, z8, e8, g8_0, g8_1, g8_2⟩ => exact Exists.intro k8 (Exists.intro z8 (And.intro e8 (And.intro (g8_0.below hb) (And.intro g8_1 g8_2))))
          | 9, ⟨k8, x4, e9, g9_0, g9_1, g9_2⟩ => exact Exists.intro k8 (Exists.intro x4 (And.intro e9 (And.intro (g9_0.below hb) (And.intro (g9_1.below hb) g9_2))))
          | 10, h => exact h
          | _ + 11, h => exact h
        · intro ac yw hsz hdf hold hB hp
          obtain ⟨k8, x4, e9, r9, a9, i9⟩ := hp 9 (by decide)
          have t11 : ac.tmps[11]? = some (.pointer (some ⟨k8, 0, none⟩)) := (List.cons.inj e9).1
          have t12 : ac.tmps[12]? = some (.int .i64 E) := (List.cons.inj (hp 10 (by decide))).1
          have t3 : ac.tmps[3]? = some (.pointer (some ⟨w.heap.size, 0, none⟩)) := hold 3 (by kernel_rfl)
          have t4 : ac.tmps[4]? = some (.pointer (some ⟨w.heap.size + 1, 0, none⟩)) := hold 4 (by kernel_rfl)
          have HRB := Lib.hid (RWB.out _ hB.below)
          have HRP := Lib.hid (RWP.out _ hB.below)
          have BB := Lib.hid (BB.out.go hB.below)
          have HM := Lib.hid a9
          have SZ := Lib.hid i9
          have HR := Lib.hid r9
          clear hold hp e9 r9 a9 i9 hB
          obtain ⟨TW, hTW⟩ : ∃ TW : Nat → Value, ∀ i, (ac.tmps[i]?).getD undef = TW i := ⟨_, fun _ => rfl⟩
          have f3 := (hTW 3).symm.trans (congrArg (fun x => Option.getD x undef) t3)
          have f4 := (hTW 4).symm.trans (congrArg (fun x => Option.getD x undef) t4)
          have f11 := (hTW 11).symm.trans (congrArg (fun x => Option.getD x undef) t11)
          have f12 := (hTW 12).symm.trans (congrArg (fun x => Option.getD x undef) t12)
          have hac := act_eq (n := 78) hsz TW hTW
          rw [show ((List.range 78).map TW).toArray = #[TW 0, TW 1, TW 2, TW 3, TW 4, TW 5, TW 6, TW 7, TW 8, TW 9, TW 10, TW 11, TW 12, TW 13, TW 14, TW 15, TW 16, TW 17, TW 18, TW 19, TW 20, TW 21, TW 22, TW 23, TW 24, TW 25, TW 26, TW 27, TW 28, TW 29, TW 30, TW 31, TW 32, TW 33, TW 34, TW 35, TW 36, TW 37, TW 38, TW 39, TW 40, TW 41, TW 42, TW 43, TW 44, TW 45, TW 46, TW 47, TW 48, TW 49, TW 50, TW 51, TW 52, TW 53, TW 54, TW 55, TW 56, TW 57, TW 58, TW 59, TW 60, TW 61, TW 62, TW 63, TW 64, TW 65, TW 66, TW 67, TW 68, TW 69, TW 70, TW 71, TW 72, TW 73, TW 74, TW 75, TW 76, TW 77] from rfl, f3, f4, f11, f12, hdf] at hac
          simp only [Option.getD_some] at hac
          subst hac
          clear hTW f3 f4 f11 f12
          go_wp2_with (first
            | (refine ld_pln rfl (.tmp 3) rfl (w.heap.size) rfl HRB.out ?_)
            | (refine ld_pln rfl (.tmp 4) rfl (w.heap.size + 1) rfl HRP.out ?_))
          go_at_call 18
          (refine (RR.out _ (HP0.out.below BB.out.below) (HP.out.below BB.out.below)).mono ?_)
          rintro e w8 ⟨p8, rfl, h8, hb8⟩
          obtain ⟨qa, qn, qc, qh, qt, qtn, qtc, qr, qrn, qrc, hp8⟩ := h8.1
          subst hp8
          have hZ : Below w8.heap.size w8 ((w8.alloc (.cells plZer 26)).setRow w8.heap.size (plC qa qn qc qh qt qtn qtc qr qrn qrc)) := below_put ((Below.refl _ w8).alloc (Nat.le_refl _) (.cells plZer 26)) (Nat.le_refl _) (plC qa qn qc qh qt qtn qtc qr qrn qrc)
          have HZ : Hid (Row (w8.alloc (.cells plZer 26)) w8.heap.size 26 plZer) := Lib.hid (Row.new w8 _ plZer)
          have HRX := Lib.hid (HZ.out.put (plC qa qn qc qh qt qtn qtc qr qrn qrc))
          have HX := Lib.hid (h8.below hZ)
          have HM := Lib.hid ((HM.out.below hb8).below hZ)
          have HR := Lib.hid ((HR.out.below hb8).below hZ)
          have BB := Lib.hid ((BB.out.go hb8).go hZ)
          clear h8 hb8 hZ HRB HRP
          go_wp2_with (first
            | (refine st_pln rfl (.tmp 13) (.tmp 68) rfl w8.heap.size rfl _ _ _ _ _ _ _ _ _ _ rfl HZ.out rfl ?_)
            | (refine ld8G (by rfl) 11 rfl k8 x4 (by rfl) HR.out SZ.out.size ?_)
            | (refine ldPG (by rfl) 13 rfl w8.heap.size (plC qa qn qc qh qt qtn qtc qr qrn qrc) (by rfl) HRX.out rfl ?_))
          go_at_call 19
          (refine (SO.out _ _ _ HM.out HX.out).mono ?_)
          rintro e w10 ⟨rfl, hb10⟩
          have BB := Lib.hid (BB.out.go hb10)
          clear hb10
          go_wp2_with fail
          go_at_call 9
          (with_reducible refine (AW.out _).mono ?_)
          rintro e w9 ⟨rfl, hb9⟩
          have HE := Lib.hid (BB.out.go hb9).below
          clear hb9
          go_wp2
          go_ret
          exact ⟨rfl, HE.out⟩
        refine Stps2.cons (o := _) ?_ ?_
        · intro ac yw hsz hold hB hp K hK
          have t3 : ac.tmps[3]? = some (.pointer (some ⟨w.heap.size, 0, none⟩)) := hold 3 (by kernel_rfl)
          clear hold hp hsz
          rw [if_pos (by rfl)]
          refine ldP 3 rfl (w.heap.size) ((plC sb r0 scb ch0 tb (tnO ch0 L0) tcb nb (nnO ch0 L0) ncb)) t3 (RWB.out _ hB.below) (rfl) ?_
          exact hK.out _ _ ⟨hB, rfl, Nat.le_refl _, .inl (Below.refl _ _), fun h => absurd h (by decide)⟩
        refine Stps2.cons (o := _) ?_ ?_
        · intro ac yw hsz hold hB hp K hK
          have e0 := hp 0 (by decide)
          have t57 : ac.tmps[57]? = some (.agg (plC sb r0 scb ch0 tb (tnO ch0 L0) tcb nb (nnO ch0 L0) ncb)) := (List.cons.inj e0).1
          clear hold hp hsz e0
          go_simp
          (go_at_call 11; (refine (OF0.out _ (HP0.out.below (BB.out.go hB.below).below)).mono ?_); rintro e wz ⟨x1, rfl, h1_0, hbz⟩)
          exact hK.out _ _ ⟨hB.go hbz, Exists.intro x1 (And.intro rfl h1_0), hbz.size, .inl hbz, fun h => absurd h (by decide)⟩
        refine Stps2.cons (o := _) ?_ ?_
        · intro ac yw hsz hold hB hp K hK
          have t4 : ac.tmps[4]? = some (.pointer (some ⟨w.heap.size + 1, 0, none⟩)) := hold 4 (by kernel_rfl)
          clear hold hp hsz
          rw [if_pos (by rfl)]
          refine ldP 4 rfl (w.heap.size + 1) ((plC sa r sc ch ta (tnO ch L) tc na (nnO ch L) nc)) t4 (RWP.out _ hB.below) (rfl) ?_
          exact hK.out _ _ ⟨hB, rfl, Nat.le_refl _, .inl (Below.refl _ _), fun h => absurd h (by decide)⟩
        refine Stps2.cons (o := _) ?_ ?_
        · intro ac yw hsz hold hB hp K hK
          have e2 := hp 2 (by decide)
          have t59 : ac.tmps[59]? = some (.agg (plC sa r sc ch ta (tnO ch L) tc na (nnO ch L) nc)) := (List.cons.inj e2).1
          clear hold hp hsz e2
          go_simp
          (go_at_call 11; (refine (OF.out _ (HP.out.below (BB.out.go hB.below).below)).mono ?_); rintro e wz ⟨x3, rfl, h3_0, hbz⟩)
          exact hK.out _ _ ⟨hB.go hbz, Exists.intro x3 (And.intro rfl h3_0), hbz.size, .inl hbz, fun h => absurd h (by decide)⟩
        refine Stps2.cons (o := _) ?_ ?_
        · intro ac yw hsz hold hB hp K hK
          obtain ⟨x1_1, e1, g1_0⟩ := hp 1 (by decide)
          have t58 : ac.tmps[58]? = some (.agg x1_1) := (List.cons.inj e1).1
          obtain ⟨x3_3, e3, g3_0⟩ := hp 3 (by decide)
          have t60 : ac.tmps[60]? = some (.agg x3_3) := (List.cons.inj e3).1
          clear hold hp hsz e1 e3
          go_simp
          (go_at_call 17; (refine (RS.out _ _ _ g1_0 g3_0).mono ?_); rintro e wz ⟨x4, rfl, h4_0, hbz⟩)
          exact hK.out _ _ ⟨hB.go hbz, Exists.intro x4 (And.intro rfl (And.intro h4_0 h4_0.1)), hbz.size, .inl hbz, fun h => absurd h (by decide)⟩
        refine Stps2.cons (o := _) ?_ ?_
        · intro ac yw hsz hold hB hp K hK
          obtain ⟨x4_4, e4, g4_0, g4_1⟩ := hp 4 (by decide)
          have t61 : ac.tmps[61]? = some (.tuple #[.agg x4_4, .int .i64 E]) := (List.cons.inj e4).1
          clear hold hp hsz e4
          go_simp
          exact hK.out _ _ ⟨hB, Exists.intro x4_4 (And.intro rfl (And.intro g4_0 g4_1)), Nat.le_refl _, .inl (Below.refl _ _), fun h => absurd h (by decide)⟩
        refine Stps2.cons (o := _) ?_ ?_
        · intro ac yw hsz hold hB hp K hK
          obtain ⟨x4_5, e5, g5_0, g5_1⟩ := hp 5 (by decide)
          have t56 : ac.tmps[56]? = some (.tuple #[.agg x4_5, .int .i64 E]) := (List.cons.inj e5).1
          clear hold hp hsz e5
          go_simp
          exact hK.out _ _ ⟨hB, Exists.intro x4_5 (And.intro rfl (And.intro g5_0 g5_1)), Nat.le_refl _, .inl (Below.refl _ _), fun h => absurd h (by decide)⟩
        refine Stps2.cons (o := _) ?_ ?_
        · intro ac yw hsz hold hB hp K hK
          obtain ⟨x4_5, e5, g5_0, g5_1⟩ := hp 5 (by decide)
          have t56 : ac.tmps[56]? = some (.tuple #[.agg x4_5, .int .i64 E]) := (List.cons.inj e5).1
          clear hold hp hsz e5
          go_simp
          exact hK.out _ _ ⟨hB, rfl, Nat.le_refl _, .inl (Below.refl _ _), fun h => absurd h (by decide)⟩
        refine Stps2.cons (o := _) ?_ ?_
        · intro ac yw hsz hold hB hp K hK
          clear hold hp hsz
          have hbz : Below yw.heap.size yw (yw.alloc (.cells zerC 34)) ∧ yw.heap.size < (yw.alloc (.cells zerC 34)).heap.size := ⟨(Below.refl _ _).alloc (Nat.le_refl _) _, by rw [World.size_alloc]; omega⟩
          go_simp
          exact hK.out _ _ ⟨hB.alloc _, Exists.intro yw.heap.size (Exists.intro zerC (And.intro rfl (And.intro ((Row.new yw _ zerC)) (And.intro IsA.zer hB.below.size)))), Nat.le_of_lt hbz.2, .inl hbz.1, fun _ => ⟨_, rfl, Nat.le_refl _, hbz.2⟩⟩
        refine Stps2.cons (o := _) ?_ ?_
        · intro ac yw hsz hold hB hp K hK
          obtain ⟨k8_8, z8_8, e8, g8_0, g8_1, g8_2⟩ := hp 8 (by decide)
          have t11 : ac.tmps[11]? = some (.pointer (some ⟨k8_8, 0, none⟩)) := (List.cons.inj e8).1
          obtain ⟨x4_6, e6, g6_0, g6_1⟩ := hp 6 (by decide)
          have t62 : ac.tmps[62]? = some (.agg x4_6) := (List.cons.inj e6).1
          clear hold hp hsz e8 e6
          rw [if_pos (by rfl)]
          have HB : Bag _ (fun _ => True) (yw.setRow k8_8 x4_6) := ⟨below_put hB.below g8_2 _, fun _ _ _ _ => trivial, trivial⟩
          refine st8 11 62 rfl k8_8 x4_6 t11 t62 _ z8_8 g8_0 g8_1 g6_1 ?_
          refine hK.out undef _ ⟨HB, Exists.intro k8_8 (Exists.intro x4_6 (And.intro (congrArg (fun x => [x]) t11) (And.intro (g8_0.put _) (And.intro (g6_0.store g8_0 g8_1 _) g6_1)))), by simp [World.setRow], .inr ?_, fun h => absurd h (by decide)⟩
          intro jj hj hap h
          match jj, h with
          | 0, h => exact h
          | 1, ⟨x1, e1, g1_0⟩ =>
            exact Exists.intro x1 (And.intro e1 (g1_0.store g8_0 g8_1 _))
          | 2, h => exact h
          | 3, ⟨x3, e3, g3_0⟩ =>
            exact Exists.intro x3 (And.intro e3 (g3_0.store g8_0 g8_1 _))
          | 4, ⟨x4, e4, g4_0, g4_1⟩ =>
            exact Exists.intro x4 (And.intro e4 (And.intro (g4_0.store g8_0 g8_1 _) g4_1))
          | 5, ⟨x4, e5, g5_0, g5_1⟩ =>
            exact Exists.intro x4 (And.intro e5 (And.intro (g5_0.store g8_0 g8_1 _) g5_1))
          | 6, ⟨x4, e6, g6_0, g6_1⟩ =>
            exact Exists.intro x4 (And.intro e6 (And.intro (g6_0.store g8_0 g8_1 _) g6_1))
          | 7, h => exact h
          | 8, ⟨k8, z8, e8, g8_0, g8_1, g8_2⟩ =>
            have e9 : k8 = k8_8 := by have := (List.cons.inj e8).1.symm.trans t11; cases this; rfl
            subst e9
            exact Exists.intro _ (Exists.intro _ (And.intro e8 (And.intro (g8_0.put _) (And.intro g6_1 g8_2))))
          | 9, _ => exact absurd rfl hj
          | 10, h => exact h
          | _ + 11, h => exact h
        refine Stps2.cons (o := _) ?_ ?_
        · intro ac yw hsz hold hB hp K hK
          have e7 := hp 7 (by decide)
          have t63 : ac.tmps[63]? = some (.int .i64 E) := (List.cons.inj e7).1
          clear hold hp hsz e7
          go_simp
          exact hK.out _ _ ⟨hB, rfl, Nat.le_refl _, .inl (Below.refl _ _), fun h => absurd h (by decide)⟩
        exact Stps2.nil _
      refine Stps2.cons (o := _) ?_ ?_
      · intro ac yw hsz hold hB hp K hK
        have t7 : ac.tmps[7]? = some (.int .i64 AX) := hold 7 (by kernel_rfl)
        clear hold hp hsz
        go_simp
        exact hK.out _ _ ⟨hB, rfl, Nat.le_refl _, .inl (Below.refl _ _), fun h => absurd h (by decide)⟩
      refine Stps2.cons (o := _) ?_ ?_
      · intro ac yw hsz hold hB hp K hK
        have t9 : ac.tmps[9]? = some (.int .i64 AX) := hold 9 (by kernel_rfl)
        clear hold hp hsz
        go_simp
        exact hK.out _ _ ⟨hB, rfl, Nat.le_refl _, .inl (Below.refl _ _), fun h => absurd h (by decide)⟩
      refine Stps2.cons (o := _) ?_ ?_
      · intro ac yw hsz hold hB hp K hK
        have e0 := hp 0 (by decide)
        have t37 : ac.tmps[37]? = some (.int .i64 AX) := (List.cons.inj e0).1
        have e1 := hp 1 (by decide)
        have t38 : ac.tmps[38]? = some (.int .i64 AX) := (List.cons.inj e1).1
        clear hold hp hsz e0 e1
        go_simp
        exact hK.out _ _ ⟨hB, rfl, Nat.le_refl _, .inl (Below.refl _ _), fun h => absurd h (by decide)⟩
      refine Stps2.cons (o := _) ?_ ?_
      · intro ac yw hsz hold hB hp K hK
        have e2 := hp 2 (by decide)
        have t39 : ac.tmps[39]? = some (.bool false) := (List.cons.inj e2).1
        clear hold hp hsz e2
        go_simp
        exact hK.out _ _ ⟨hB, rfl, Nat.le_refl _, .inl (Below.refl _ _), fun h => absurd h (by decide)⟩
      refine Stps2.cons (o := _) ?_ ?_
      · intro ac yw hsz hold hB hp K hK
        have t40 : ac.tmps[40]? = some (.bool false) := (List.cons.inj (hp 3 (by decide))).1
        rw [if_pos (wanted_pos rfl rfl t40)]
        have t8 : ac.tmps[8]? = some (.bool AQ) := hold 8 (by kernel_rfl)
        clear hold hp hsz
        go_simp
        exact hK.out _ _ ⟨hB, rfl, Nat.le_refl _, .inl (Below.refl _ _), fun h => absurd h (by decide)⟩
      refine Stps2.cons (o := _) ?_ ?_
      · intro ac yw hsz hold hB hp K hK
        have t40 : ac.tmps[40]? = some (.bool false) := (List.cons.inj (hp 3 (by decide))).1
        rw [if_pos (wanted_pos rfl rfl t40)]
        have t10 : ac.tmps[10]? = some (.bool AQ) := hold 10 (by kernel_rfl)
        clear hold hp hsz
        go_simp
        exact hK.out _ _ ⟨hB, rfl, Nat.le_refl _, .inl (Below.refl _ _), fun h => absurd h (by decide)⟩
      refine Stps2.cons (o := _) ?_ ?_
      · intro ac yw hsz hold hB hp K hK
        have t40 : ac.tmps[40]? = some (.bool false) := (List.cons.inj (hp 3 (by decide))).1
        rw [if_pos (wanted_pos rfl rfl t40)]
        have e4 := hp 4 (by decide)
        have t41 : ac.tmps[41]? = some (.bool AQ) := (List.cons.inj e4).1
        have e5 := hp 5 (by decide)
        have t42 : ac.tmps[42]? = some (.bool AQ) := (List.cons.inj e5).1
        clear hold hp hsz e4 e5
        go_simp
        exact hK.out _ _ ⟨hB, rfl, Nat.le_refl _, .inl (Below.refl _ _), fun h => absurd h (by decide)⟩
      refine Stps2.cons (o := _) ?_ ?_
      · intro ac yw hsz hold hB hp K hK
        have e3 := hp 3 (by decide)
        have t40 : ac.tmps[40]? = some (.bool false) := (List.cons.inj e3).1
        have e6 := hp 6 (by decide)
        have t43 : ac.tmps[43]? = some (.bool false) := (List.cons.inj e6).1
        clear hold hp hsz e3 e6
        go_simp
        exact hK.out _ _ ⟨hB, rfl, Nat.le_refl _, .inl (Below.refl _ _), fun h => absurd h (by decide)⟩
      refine Stps2.cons (o := _) ?_ ?_
      · intro ac yw hsz hold hB hp K hK
        have e7 := hp 7 (by decide)
        have t44 : ac.tmps[44]? = some (.bool false) := (List.cons.inj e7).1
        clear hold hp hsz e7
        go_simp
        exact hK.out _ _ ⟨hB, rfl, Nat.le_refl _, .inl (Below.refl _ _), fun h => absurd h (by decide)⟩
      refine Stps2.cons (o := _) ?_ ?_
      · intro ac yw hsz hold hB hp K hK
        have t45 : ac.tmps[45]? = some (.bool false) := (List.cons.inj (hp 8 (by decide))).1
        rw [if_pos (wanted_pos rfl rfl t45)]
        have t4 : ac.tmps[4]? = some (.pointer (some ⟨w.heap.size + 1, 0, none⟩)) := hold 4 (by kernel_rfl)
        clear hold hp hsz
        refine ldP 4 rfl (w.heap.size + 1) ((plC sa r sc ch ta (tnO ch L) tc na (nnO ch L) nc)) t4 (RWP.out _ hB.below) (rfl) ?_
        exact hK.out _ _ ⟨hB, rfl, Nat.le_refl _, .inl (Below.refl _ _), fun h => absurd h (by decide)⟩
      refine Stps2.cons (o := _) ?_ ?_
      · intro ac yw hsz hold hB hp K hK
        have t45 : ac.tmps[45]? = some (.bool false) := (List.cons.inj (hp 8 (by decide))).1
        rw [if_pos (wanted_pos rfl rfl t45)]
        have e9 := hp 9 (by decide)
        have t46 : ac.tmps[46]? = some (.agg (plC sa r sc ch ta (tnO ch L) tc na (nnO ch L) nc)) := (List.cons.inj e9).1
        clear hold hp hsz e9
        go_simp
        (go_at_call 11; (refine (OF.out _ (HP.out.below (BB.out.go hB.below).below)).mono ?_); rintro e wz ⟨x10, rfl, h10_0, hbz⟩)
        exact hK.out _ _ ⟨hB.go hbz, Exists.intro x10 (And.intro rfl h10_0), hbz.size, .inl hbz, fun h => absurd h (by decide)⟩
      refine Stps2.cons (o := _) ?_ ?_
      · intro ac yw hsz hold hB hp K hK
        have t45 : ac.tmps[45]? = some (.bool false) := (List.cons.inj (hp 8 (by decide))).1
        rw [if_pos (wanted_pos rfl rfl t45)]
        obtain ⟨x10_10, e10, g10_0⟩ := hp 10 (by decide)
        have t47 : ac.tmps[47]? = some (.agg x10_10) := (List.cons.inj e10).1
        clear hold hp hsz e10
        go_simp
        (go_at_call 14; (refine (MS.out _ _ g10_0).mono ?_); rintro e wz ⟨x11, rfl, h11_0, hbz⟩)
        exact hK.out _ _ ⟨hB.go hbz, Exists.intro x11 (And.intro rfl h11_0), hbz.size, .inl hbz, fun h => absurd h (by decide)⟩
      refine Stps2.cons (o := _) ?_ ?_
      · intro ac yw hsz hold hB hp K hK
        have t45 : ac.tmps[45]? = some (.bool false) := (List.cons.inj (hp 8 (by decide))).1
        rw [if_pos (wanted_pos rfl rfl t45)]
        obtain ⟨x11_11, e11, g11_0⟩ := hp 11 (by decide)
        have t48 : ac.tmps[48]? = some (.agg x11_11) := (List.cons.inj e11).1
        clear hold hp hsz e11
        go_simp
        (go_at_call 15; (refine (PL.out _ _ (g11_0 _)).mono ?_); rintro e wz ⟨x12, rfl, h12_0, hbz⟩)
        exact hK.out _ _ ⟨hB.go hbz, Exists.intro x12 (And.intro rfl h12_0), hbz.size, .inl hbz, fun h => absurd h (by decide)⟩
      refine Stps2.cons (o := _) ?_ ?_
      · intro ac yw hsz hold hB hp K hK
        have t45 : ac.tmps[45]? = some (.bool false) := (List.cons.inj (hp 8 (by decide))).1
        rw [if_pos (wanted_pos rfl rfl t45)]
        have t4 : ac.tmps[4]? = some (.pointer (some ⟨w.heap.size + 1, 0, none⟩)) := hold 4 (by kernel_rfl)
        clear hold hp hsz
        go_simp
        exact hK.out _ _ ⟨hB, rfl, Nat.le_refl _, .inl (Below.refl _ _), fun h => absurd h (by decide)⟩
      refine Stps2.cons (o := _) ?_ ?_
      · intro ac yw hsz hold hB hp K hK
        have t45 : ac.tmps[45]? = some (.bool false) := (List.cons.inj (hp 8 (by decide))).1
        rw [if_pos (wanted_pos rfl rfl t45)]
        have e13 := hp 13 (by decide)
        have t50 : ac.tmps[50]? = some (.pointer (some ⟨w.heap.size + 1, 0, none⟩)) := (List.cons.inj e13).1
        clear hold hp hsz e13
        have x0 : yw.cell? ⟨w.heap.size + 1, 0, none⟩ = some (.slice sa r sc) := (RWP.out _ hB.below).cell 0
        go_simp
        exact hK.out _ _ ⟨hB, rfl, Nat.le_refl _, .inl (Below.refl _ _), fun h => absurd h (by decide)⟩
      refine Stps2.cons (o := _) ?_ ?_
      · intro ac yw hsz hold hB hp K hK
        have t45 : ac.tmps[45]? = some (.bool false) := (List.cons.inj (hp 8 (by decide))).1
        rw [if_pos (wanted_pos rfl rfl t45)]
        have e14 := hp 14 (by decide)
        have t51 : ac.tmps[51]? = some (.slice sa r sc) := (List.cons.inj e14).1
        clear hold hp hsz e14
        go_simp
        (go_at_call 16; (refine (RI.out _ (HK.out.below (BB.out.go hB.below).below)).mono ?_); rintro e wz ⟨x15, rfl, h15_0, hbz⟩)
        exact hK.out _ _ ⟨hB.go hbz, Exists.intro x15 (And.intro rfl ((h15_0 (fun _ => 0)))), hbz.size, .inl hbz, fun h => absurd h (by decide)⟩
      refine Stps2.cons (o := _) ?_ ?_
      · intro ac yw hsz hold hB hp K hK
        have t45 : ac.tmps[45]? = some (.bool false) := (List.cons.inj (hp 8 (by decide))).1
        rw [if_pos (wanted_pos rfl rfl t45)]
        obtain ⟨x12_12, e12, g12_0⟩ := hp 12 (by decide)
        have t49 : ac.tmps[49]? = some (.agg x12_12) := (List.cons.inj e12).1
        obtain ⟨x15_15, e15, g15_0⟩ := hp 15 (by decide)
        have t52 : ac.tmps[52]? = some (.agg x15_15) := (List.cons.inj e15).1
        clear hold hp hsz e12 e15
        go_simp
        (go_at_call 13; (refine (SM.out _ _ _ g12_0 g15_0).mono ?_); rintro e wz ⟨rfl, hbz⟩)
        exact hK.out _ _ ⟨hB.go hbz, rfl, hbz.size, .inl hbz, fun h => absurd h (by decide)⟩
      refine Stps2.cons (o := _) ?_ ?_
      · intro ac yw hsz hold hB hp K hK
        have t45 : ac.tmps[45]? = some (.bool false) := (List.cons.inj (hp 8 (by decide))).1
        rw [if_pos (wanted_pos rfl rfl t45)]
        have e16 := hp 16 (by decide)
        have t53 : ac.tmps[53]? = some (.bool true) := (List.cons.inj e16).1
        clear hold hp hsz e16
        go_simp
        exact hK.out _ _ ⟨hB, rfl, Nat.le_refl _, .inl (Below.refl _ _), fun h => absurd h (by decide)⟩
      refine Stps2.cons (o := _) ?_ ?_
      · intro ac yw hsz hold hB hp K hK
        have e8 := hp 8 (by decide)
        have t45 : ac.tmps[45]? = some (.bool false) := (List.cons.inj e8).1
        have e17 := hp 17 (by decide)
        have t54 : ac.tmps[54]? = some (.bool false) := (List.cons.inj e17).1
        clear hold hp hsz e8 e17
        go_simp
        exact hK.out _ _ ⟨hB, rfl, Nat.le_refl _, .inl (Below.refl _ _), fun h => absurd h (by decide)⟩
      exact Stps2.nil _

theorem own : ownKnob Tryz.prog.godebug = none := by kernel_rfl
theorem laidOut : laidOutB Tryz.prog = true := by kernel_rfl

set_option maxRecDepth 100000 in
theorem moldShapes_lifted (os : Os) (started : os.Started) (H : Type) (enc : TypeId × Value → H) :
    ReturnsInHanded {} Tryz.checked os 3 .any (fun w args => (Rows.moldShapesSpec.pre enc Tryz.prog Tryz.f3 [] false w args ∧ laidMetH Tryz.prog Rows.moldShapesRow.laid w) ∧ sizedMet enc Tryz.prog Tryz.f3 (OpenSpec.ofChange Rows.moldShapesSpec) false w args)
      (Rows.moldShapesSpec.post enc Tryz.prog Tryz.f3 false true false false) := by
  refine returnsInHanded_of_change_and (C := Tryz.checked) (X := fun w _ => laidMetH Tryz.prog Rows.moldShapesRow.laid w) (fun _ _ _ hh h => h.of_heap hh) own started (by kernel_rfl) Tryz.func3
    (ChangeSpec.witness_shaped (enc := enc) (C := Tryz.checked) (os := os) (X := fun w _ => laidMetH Tryz.prog Rows.moldShapesRow.laid w) false (World.laidAll Tryz.prog os Rows.moldShapesRow.laid) #[.agg #[.slice none 0 0, .bool false, .slice none 0 0, .slice none 0 0], .agg #[.slice none 0 0, .bool false, .slice none 0 0, .slice none 0 0], .int .i64 0] 8 (World.laidAll_os _ _ _)
      (World.shaped_of_ZipB (by kernel_rfl) (by kernel_rfl)) (by kernel_rfl) (by kernel_rfl) (by kernel_rfl)
      (by rw [MakeChecks.laidMetH_plain _ _ _ (by kernel_rfl)]; exact laidMet_laidAll _ (by kernel_rfl) (by kernel_rfl))) ?_
  intro W base args ds gs before hval0 hW _ _ _ _
  have hval : ∀ (j : Nat) t v, Tryz.f3.params[j]? = some t → args[j]? = some v → Value.okWide Tryz.prog W .any base t v := hval0
  have hW' := hW
  obtain ⟨p, q, hA0, hV, rfl, _, _⟩ := hW
  have hA : DataW.TrodAll enc Tryz.prog W 0 (fun _ => true) true Tryz.f3.params.toList args.toList ds p := hA0
  rw [Tryz.params3] at hA hval
  obtain ⟨v0, v1, v2, d0, d1, d2, p0, p1, p2, rfl, rfl, rfl, h0, h1, h2⟩ := trodAll_three hA
  obtain ⟨rfl, rfl⟩ := trodVars_none hV
  obtain ⟨cs0, S0, q0, ch0, g0, tn0, fB0, fS0, fT0, nn0, rfl, k0, w0, z0⟩ := open_pln (hval 0 26 v0 rfl rfl) h0
  obtain ⟨cs1, S1, q1, ch1, g1, tn1, fB1, fS1, fT1, nn1, rfl, k1, w1, z1⟩ := open_pln (hval 1 26 v1 rfl rfl) h1
  obtain ⟨x2, rfl, rfl, rfl, w2⟩ := open_int Tryz.underlying3 (hval 2 3 v2 rfl rfl) h2
  have b2 : -9223372036854775808 ≤ x2 ∧ x2 ≤ 9223372036854775807 := by simpa [Lit.wf, IntKind.min, IntKind.max, IntKind.signed, IntKind.bits] using w2
  have hlt : ∀ y ∈ p0 ++ (p1 ++ ([])), y.block < W.heap.size := fun y hy => by simpa using hW'.lt y (by simpa using hy)
  simp only [List.append_nil] at hW'
  refine (moldShapes_walk cs0 S0 q0 ch0 g0 tn0 fB0 fS0 fT0 nn0 cs1 S1 q1 ch1 g1 tn1 fB1 fS1 fT1 nn1 x2 W k0 w0 z0 k1 w1 z1 b2).mono fun e W' ⟨he, hb⟩ => ?_
  subst he
  exact ⟨_, rfl, _, _, _, [], _, [], hW', trodAll_mk1 (shut_bool Tryz.underlying4 _), trodAll_mk3 (Below.trod laidOut (by kernel_rfl) (of_decide_eq_true (by kernel_rfl)) h0 hb (fun y hy => hlt y (by simp [hy]))) (Below.trod laidOut (by kernel_rfl) (of_decide_eq_true (by kernel_rfl)) h1 hb (fun y hy => hlt y (by simp [hy]))) (shut_int Tryz.underlying3 w2), rfl, hb.frame _, fun h => by cases h⟩

theorem moldShapes_row : Rows.MoldShapesSaid :=
  OpenClaim.holds_of_wide 3 Tryz.f3 rfl rfl rfl rfl rfl rfl rfl ⟨rfl, rfl, rfl, rfl, rfl⟩ rfl rfl rfl rfl rfl (by kernel_rfl) Tryz.func3 (by kernel_rfl)
    (of_decide_eq_true (by kernel_rfl)) (by unfold Func.isWrapper; first | (rw [if_pos (by decide +kernel)]; kernel_rfl) | (rw [if_neg (by decide +kernel)]; exact ⟨rfl, rfl⟩))
    (fun os started H enc _ => moldShapes_lifted os started H enc)

theorem moldShapes_holds : Rows.MoldShapesCardSaid :=
  Claim7.holds_tied_plain_at .later [] [.data, .pinned] true Rows.moldShapesCard.stood.harness Rows.moldShapesCard.stood.looks moldShapes_row (fun _ h => by cases h) (by kernel_rfl) (fun _ h => by cases h) moldShapes_row_tie rfl ⟨rfl, rfl⟩ (by kernel_rfl) rfl
    (fun f fn hf hfn => by
      obtain rfl : f = 3 := Option.some.inj ((show Tryz.prog.funcNamed "typeball/typeballlaw08.MoldShapes" = some 3 by kernel_rfl).symm.trans hf) |>.symm
      obtain rfl : fn = Tryz.f3 := (Option.some.inj (Tryz.func3.symm.trans hfn)).symm
      exact ⟨by kernel_rfl, fun j t ht => by
        rw [Tryz.params3] at ht
        have hm : t ∈ [26, 3] := by simpa using Array.mem_of_getElem? ht
        have hall : ([26, 3].all fun u => !Tryz.prog.wantsStandIn u) = true := by kernel_rfl
        exact (show Tryz.prog.wantsStandIn t = false by simpa using List.all_eq_true.1 hall t hm)⟩)
    (by kernel_rfl)
#print axioms moldShapes_holds
end Go.Proofs.YtkljpofljkgkdaaGreatDoor
