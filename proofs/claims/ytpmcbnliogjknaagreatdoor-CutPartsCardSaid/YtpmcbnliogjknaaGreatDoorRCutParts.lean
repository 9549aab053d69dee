/-
  Proved: the law CutParts of package typeballlaw09 returns true for every two plain arrays, under the row's own conditions.
-/
import Derived.Test.YtpmcbnliogjknaaGreatDoorQ1
import Derived.Test.YtpmcbnliogjknaaGreatDoorQ2
import Derived.Test.YtpmcbnliogjknaaGreatDoorQ3
import Derived.Test.YtpmcbnliogjknaaGreatDoorQ4
import Derived.Test.YtpmcbnliogjknaaGreatDoorQ5
import Derived.Test.YtpmcbnliogjknaaGreatDoorQ6
import Derived.Test.YtpmcbnliogjknaaGreatDoorQ7
import Derived.Test.YtpmcbnliogjknaaGreatDoorQ8
import Derived.Test.YtpmcbnliogjknaaGreatDoorQ9
import Derived.Test.YtpmcbnliogjknaaGreatDoorQ10
import Derived.Test.YtpmcbnliogjknaaGreatDoorR1
import Derived.Test.YtpmcbnliogjknaaGreatDoorR2
import Derived.Test.YtpmcbnliogjknaaGreatDoorR3
import Derived.Test.YtpmcbnliogjknaaGreatDoorR4
import Derived.Test.YtpmcbnliogjknaaGreatDoorR5
import Derived.Test.YtpmcbnliogjknaaGreatDoorR6
import Derived.SizedLaws
import Derived.Test.YtpmcbnliogjknaaGreatDoorCards
import Derived.Test.YtpmcbnliogjknaaGreatDoorTie
import Derived.LaidMore
import Derived.Lay
import Derived.SevenTiedAt
import Derived.Stop.Joined
namespace Go.Proofs.YtpmcbnliogjknaaGreatDoor
open Go.ChangeShapes Go.WideShapes Go.ChangeAt Go.RowKit Go.WideMaps Go.WideElems
attribute [local go_sem ↓] Go.wp_at_zero Go.wp_at_succ

set_option linter.unusedSimpArgs false in
set_option maxHeartbeats 6400000 in
set_option maxRecDepth 100000 in
theorem cutParts_walk (cs0 : Array Value) (S0 : Nat → Int) (r0 : Nat) (ch0 : Bool) (g0 : Nat → Int) (tn0 : Nat) (fB0 : Nat → Bool) (fS0 fT0 : Nat → ByteArray) (nn0 : Nat) (cs : Array Value) (S : Nat → Int) (r : Nat) (ch : Bool) (g : Nat → Int) (tn : Nat) (fB : Nat → Bool) (fS fT : Nat → ByteArray) (nn : Nat)
    (w : World) (h0 : PlnAt w cs0 S0 r0 ch0 g0 tn0 fB0 fS0 fT0 nn0) (hS0 : In64 S0 r0) (hz0 : ∀ j, j < nn0 → (fS0 j).size ≤ maxLen ∧ (fT0 j).size ≤ maxLen) (h : PlnAt w cs S r ch g tn fB fS fT nn) (hS : In64 S r) (hz : ∀ j, j < nn → (fS j).size ≤ maxLen ∧ (fT j).size ≤ maxLen) :
    Calls Tryz.prog 3 #[.agg cs0, .agg cs] w fun e w' => e = .returned (.bool true) ∧ Below w.heap.size w w' := by
  have HP0 := Lib.hid h0
  have HP := Lib.hid h
  obtain ⟨sb, scb, tb, tcb, nb, ncb, rfl, _⟩ := h0
  obtain ⟨sa, sc, ta, tc, na, nc, rfl, _⟩ := h
  have LP0 := Lib.hid (fun wz h => lightG_any (plC sb r0 scb ch0 tb tn0 tcb nb nn0 ncb) S0 r0 ch0 g0 tn0 fB0 fS0 fT0 nn0 wz h hS0 hz0)
  have LP := Lib.hid (fun wz h => lightG_any (plC sa r sc ch ta tn tc na nn nc) S r ch g tn fB fS fT nn wz h hS hz)
  have AW := Lib.hid (fun wz => awake9_any wz)
  have BB := Lib.hid (((Bag.start w).newRow (plC sb r0 scb ch0 tb tn0 tcb nb nn0 ncb) 26).newRow (plC sa r sc ch ta tn tc na nn nc) 26)
  simp only [World.size_alloc] at BB
  have HR := Lib.hid BB.out.now.2.1
  clear hS0 hz0 hS hz
  unfold plC
  go_enter Tryz.func3, Tryz.ntmps3
  go_wp2_with (refine ldPG (by rfl) 2 rfl w.heap.size (plC sb r0 scb ch0 tb tn0 tcb nb nn0 ncb) (by rfl) HR.out rfl ?_)
  go_at_call 6
  (with_reducible refine (LP0.out _ ?_).mono ?_)
  · exact HP0.out.below BB.out.below
  rintro e w2 ⟨b0, rfl, hb0, hb2⟩
  have BB := Lib.hid (BB.out.go hb2)
  clear hb2 LP0
  cases b0 with
  | false =>
    clear hb0 HR
    go_wp2_with fail
    go_at_call 7
    (with_reducible refine (AW.out _).mono ?_)
    rintro e w9 ⟨rfl, hb9⟩
    have HE := Lib.hid (BB.out.go hb9).below
    clear hb9
    go_wp2
    go_ret
    exact ⟨rfl, HE.out⟩
  | true =>
    obtain ⟨L0, rfl, rfl, hG0⟩ := hb0 rfl
    clear hb0
    have HR := Lib.hid BB.out.now.1
    go_wp2_with (refine ldPG (by rfl) 3 rfl (w.heap.size + 1) (plC sa r sc ch ta tn tc na nn nc) (by rfl) HR.out rfl ?_)
    go_at_call 6
    (with_reducible refine (LP.out _ ?_).mono ?_)
    · exact HP.out.below BB.out.below
    rintro e w3 ⟨b, rfl, hb, hb3⟩
    have BB := Lib.hid (BB.out.go hb3)
    clear hb3 LP
    cases b with
    | false =>
      clear hb HR hG0
      go_wp2_with fail
      go_at_call 7
      (with_reducible refine (AW.out _).mono ?_)
      rintro e w9 ⟨rfl, hb9⟩
      have HE := Lib.hid (BB.out.go hb9).below
      clear hb9
      go_wp2
      go_ret
      exact ⟨rfl, HE.out⟩
    | true =>
      obtain ⟨L, rfl, rfl, hG⟩ := hb rfl
      clear hb HR
      have hGL := hG.le
      have hGL0 := hG0.le
      have h8 := hG.rank
      have h80 := hG0.rank
      have hin := hG.in64
      have OF0 := Lib.hid (fun wz h => of8_any (plC sb r0 scb ch0 tb (tnO ch0 L0) tcb nb (nnO ch0 L0) ncb) S0 r0 ch0 L0 g0 fB0 fS0 fT0 wz h hG0)
      have OF := Lib.hid (fun wz h => of8_any (plC sa r sc ch ta (tnO ch L) tc na (nnO ch L) nc) S r ch L g fB fS fT wz h hG)
      have hN0 := hG0.num
      have hq0 := hG0.pos
      obtain ⟨RK, hRK⟩ : ∃ n : Nat, L0 = n := ⟨_, rfl⟩
      obtain ⟨Ea, hEa⟩ : ∃ f : Int, (paE false 5000 r0 ch0 L0 (gP fB0 fS0 fT0) (gQ fB0 fS0 fT0) S r) = f := ⟨_, rfl⟩
      obtain ⟨Ta, hTa⟩ : ∃ f : Nat → Int, (lnF (paN false 4097 (gP fB0 fS0 fT0) (paS r S))) = f := ⟨_, rfl⟩
      obtain ⟨Da, hDa⟩ : ∃ f : Nat → Int, (lnF (paN false 5000 (gP fB0 fS0 fT0) (paS r S))) = f := ⟨_, rfl⟩
      obtain ⟨Ma, hMa⟩ : ∃ f : Nat, (itm (lnF (paN false 4097 (gP fB0 fS0 fT0) (paS r S))) L0).toNat = f := ⟨_, rfl⟩
      obtain ⟨Na, hNa⟩ : ∃ f : Nat, (itm (lnF (paN false 5000 (gP fB0 fS0 fT0) (paS r S))) L0).toNat = f := ⟨_, rfl⟩
      obtain ⟨ga, hga⟩ : ∃ f : Nat → Int, (fun j => elC L g 32 (pkG (paS r S) (lnF (paN false 4097 (gP fB0 fS0 fT0) (paS r S))) L0 (paF false 4097 (gP fB0 fS0 fT0) (paS r S)) j)) = f := ⟨_, rfl⟩
      obtain ⟨Pa, hPa⟩ : ∃ f : Nat → Int, (fun j => elP L (gP fB fS fT) (pkG (paS r S) (lnF (paN false 4097 (gP fB0 fS0 fT0) (paS r S))) L0 (paF false 4097 (gP fB0 fS0 fT0) (paS r S)) j)) = f := ⟨_, rfl⟩
      obtain ⟨Qa, hQa⟩ : ∃ f : Nat → Nat, (fun j => elQ L (gQ fB fS fT) (pkG (paS r S) (lnF (paN false 4097 (gP fB0 fS0 fT0) (paS r S))) L0 (paF false 4097 (gP fB0 fS0 fT0) (paS r S)) j)) = f := ⟨_, rfl⟩
      obtain ⟨da, hda⟩ : ∃ f : Nat → Int, (fun j => elC L g 32 (pkG (paS r S) (lnF (paN false 5000 (gP fB0 fS0 fT0) (paS r S))) L0 (paF false 5000 (gP fB0 fS0 fT0) (paS r S)) j)) = f := ⟨_, rfl⟩
      obtain ⟨Ba, hBa⟩ : ∃ f : Nat → Bool, (fun j => elB L fB (pkG (paS r S) (lnF (paN false 5000 (gP fB0 fS0 fT0) (paS r S))) L0 (paF false 5000 (gP fB0 fS0 fT0) (paS r S)) j)) = f := ⟨_, rfl⟩
      obtain ⟨Ua, hUa⟩ : ∃ f : Nat → ByteArray, (fun j => elS L fS (rS 0) (pkG (paS r S) (lnF (paN false 5000 (gP fB0 fS0 fT0) (paS r S))) L0 (paF false 5000 (gP fB0 fS0 fT0) (paS r S)) j)) = f := ⟨_, rfl⟩
      obtain ⟨Va, hVa⟩ : ∃ f : Nat → ByteArray, (fun j => elS L fT (str (dec 1)) (pkG (paS r S) (lnF (paN false 5000 (gP fB0 fS0 fT0) (paS r S))) L0 (paF false 5000 (gP fB0 fS0 fT0) (paS r S)) j)) = f := ⟨_, rfl⟩
      have hca := (pa_cmp false r0 ch0 L0 (gP fB0 fS0 fT0) (gQ fB0 fS0 fT0) S r hG.sh).1
      obtain ⟨Eb, hEb⟩ : ∃ f : Int, (paE true 5000 r0 ch0 L0 (gP fB0 fS0 fT0) (gQ fB0 fS0 fT0) S r) = f := ⟨_, rfl⟩
      obtain ⟨Tb, hTb⟩ : ∃ f : Nat → Int, (lnF (paN true 4097 (gP fB0 fS0 fT0) (paS r S))) = f := ⟨_, rfl⟩
      obtain ⟨Db, hDb⟩ : ∃ f : Nat → Int, (lnF (paN true 5000 (gP fB0 fS0 fT0) (paS r S))) = f := ⟨_, rfl⟩
      obtain ⟨Mb, hMb⟩ : ∃ f : Nat, (itm (lnF (paN true 4097 (gP fB0 fS0 fT0) (paS r S))) L0).toNat = f := ⟨_, rfl⟩
      obtain ⟨Nb, hNb⟩ : ∃ f : Nat, (itm (lnF (paN true 5000 (gP fB0 fS0 fT0) (paS r S))) L0).toNat = f := ⟨_, rfl⟩
      obtain ⟨gb, hgb⟩ : ∃ f : Nat → Int, (fun j => elC L g 32 (pkG (paS r S) (lnF (paN true 4097 (gP fB0 fS0 fT0) (paS r S))) L0 (paF true 4097 (gP fB0 fS0 fT0) (paS r S)) j)) = f := ⟨_, rfl⟩
      obtain ⟨Pb, hPb⟩ : ∃ f : Nat → Int, (fun j => elP L (gP fB fS fT) (pkG (paS r S) (lnF (paN true 4097 (gP fB0 fS0 fT0) (paS r S))) L0 (paF true 4097 (gP fB0 fS0 fT0) (paS r S)) j)) = f := ⟨_, rfl⟩
      obtain ⟨Qb, hQb⟩ : ∃ f : Nat → Nat, (fun j => elQ L (gQ fB fS fT) (pkG (paS r S) (lnF (paN true 4097 (gP fB0 fS0 fT0) (paS r S))) L0 (paF true 4097 (gP fB0 fS0 fT0) (paS r S)) j)) = f := ⟨_, rfl⟩
      obtain ⟨db, hdb⟩ : ∃ f : Nat → Int, (fun j => elC L g 32 (pkG (paS r S) (lnF (paN true 5000 (gP fB0 fS0 fT0) (paS r S))) L0 (paF true 5000 (gP fB0 fS0 fT0) (paS r S)) j)) = f := ⟨_, rfl⟩
      obtain ⟨Bb, hBb⟩ : ∃ f : Nat → Bool, (fun j => elB L fB (pkG (paS r S) (lnF (paN true 5000 (gP fB0 fS0 fT0) (paS r S))) L0 (paF true 5000 (gP fB0 fS0 fT0) (paS r S)) j)) = f := ⟨_, rfl⟩
      obtain ⟨Ub, hUb⟩ : ∃ f : Nat → ByteArray, (fun j => elS L fS (rS 0) (pkG (paS r S) (lnF (paN true 5000 (gP fB0 fS0 fT0) (paS r S))) L0 (paF true 5000 (gP fB0 fS0 fT0) (paS r S)) j)) = f := ⟨_, rfl⟩
      obtain ⟨Vb, hVb⟩ : ∃ f : Nat → ByteArray, (fun j => elS L fT (str (dec 1)) (pkG (paS r S) (lnF (paN true 5000 (gP fB0 fS0 fT0) (paS r S))) L0 (paF true 5000 (gP fB0 fS0 fT0) (paS r S)) j)) = f := ⟨_, rfl⟩
      have hcb := (pa_cmp true r0 ch0 L0 (gP fB0 fS0 fT0) (gQ fB0 fS0 fT0) S r hG.sh).1
      obtain ⟨mP, hmP⟩ : ∃ f, (gP fB0 fS0 fT0) = f := ⟨_, rfl⟩
      obtain ⟨mQ, hmQ⟩ : ∃ f, (gQ fB0 fS0 fT0) = f := ⟨_, rfl⟩
      obtain ⟨nP, hnP⟩ : ∃ f, (gP fB fS fT) = f := ⟨_, rfl⟩
      obtain ⟨nQ, hnQ⟩ : ∃ f, (gQ fB fS fT) = f := ⟨_, rfl⟩
      rw [hmP, hmQ] at OF0
      rw [hnP, hnQ] at OF
      have TKa : Hid (∀ x0 x wz, Arr wz x0 S0 r0 ch0 L0 g0 mP mQ → Arr wz x S r ch L g nP nQ → Calls Tryz.prog 8 #[.agg x0, .agg x] wz fun e w' => ∃ y, e = .returned (.tuple #[.agg y, .int .i64 Ea]) ∧ MoR w' y Ea Ta RK ch Ma ga Pa Qa ∧ Below wz.heap.size wz w') := Lib.hid (fun x0 x wz q0 q => by
        subst hmP hmQ hnP hnQ
        subst hRK
        subst hEa hTa hDa hMa hNa hga hPa hQa hda hBa hUa hVa
        exact (take_any x0 S0 r0 ch0 L0 g0 _ _ x S r ch L g _ _ wz q0 q h80 hq0 (by omega) hin hG.sh hG.cnt).mono (fun _ _ hq => by
          have := hq.res
          rw [hca] at this
          exact this))
      have PTa : Hid (∀ wz, Pln wz (plC sb r0 scb ch0 tb (tnO ch0 L0) tcb nb (nnO ch0 L0) ncb) S0 r0 ch0 L0 g0 fB0 fS0 fT0 → Pln wz (plC sa r sc ch ta (tnO ch L) tc na (nnO ch L) nc) S r ch L g fB fS fT → Calls Tryz.prog 10 #[.agg (plC sb r0 scb ch0 tb (tnO ch0 L0) tcb nb (nnO ch0 L0) ncb), .agg (plC sa r sc ch ta (tnO ch L) tc na (nnO ch L) nc), .bool false] wz fun e w' => ∃ y, e = .returned (.tuple #[.agg y, .int .i64 Ea]) ∧ PoR w' y Ea Da RK ch Na da Ba Ua Va ∧ Below wz.heap.size wz w') := Lib.hid (fun wz q0 q => by
        subst hmP hmQ hnP hnQ
        subst hRK
        subst hEa hTa hDa hMa hNa hga hPa hQa hda hBa hUa hVa
        exact (rPart_no false rfl (plC sb r0 scb ch0 tb (tnO ch0 L0) tcb nb (nnO ch0 L0) ncb) S0 r0 ch0 L0 g0 fB0 fS0 fT0 _ _ (plC sa r sc ch ta (tnO ch L) tc na (nnO ch L) nc) S r ch L g fB fS fT wz q0 hN0 (by omega) q hG.sh (by omega)).mono (fun _ _ hq => hq.res))
      have SOa : Hid (∀ x p wz, MoR wz x Ea Ta RK ch Ma ga Pa Qa → PoR wz p Ea Da RK ch Na da Ba Ua Va → Calls Tryz.prog 12 #[.agg x, .int .i64 Ea, .agg p, .int .i64 Ea] wz fun e w' => e = .returned (.bool true) ∧ Below wz.heap.size wz w') := Lib.hid (fun x p wz q z => by
        subst hmP hmQ hnP hnQ
        subst hRK
        subst hEa hTa hDa hMa hNa hga hPa hQa hda hBa hUa hVa
        exact showsD_any q z (hG.cmp (pa_cmp false r0 ch0 L0 (gP fB0 fS0 fT0) (gQ fB0 fS0 fT0) S r hG.sh).2 g))
      have TKb : Hid (∀ x0 x wz, Arr wz x0 S0 r0 ch0 L0 g0 mP mQ → Arr wz x S r ch L g nP nQ → Calls Tryz.prog 11 #[.agg x0, .agg x] wz fun e w' => ∃ y, e = .returned (.tuple #[.agg y, .int .i64 Eb]) ∧ MoR w' y Eb Tb RK ch Mb gb Pb Qb ∧ Below wz.heap.size wz w') := Lib.hid (fun x0 x wz q0 q => by
        subst hmP hmQ hnP hnQ
        subst hRK
        subst hEb hTb hDb hMb hNb hgb hPb hQb hdb hBb hUb hVb
        exact (drop_any x0 S0 r0 ch0 L0 g0 _ _ x S r ch L g _ _ wz q0 q h80 hq0 (by omega) hin hG.sh hG.cnt).mono (fun _ _ hq => by
          have := hq.res
          rw [hcb] at this
          exact this))
      have PTb : Hid (∀ wz, Pln wz (plC sb r0 scb ch0 tb (tnO ch0 L0) tcb nb (nnO ch0 L0) ncb) S0 r0 ch0 L0 g0 fB0 fS0 fT0 → Pln wz (plC sa r sc ch ta (tnO ch L) tc na (nnO ch L) nc) S r ch L g fB fS fT → Calls Tryz.prog 10 #[.agg (plC sb r0 scb ch0 tb (tnO ch0 L0) tcb nb (nnO ch0 L0) ncb), .agg (plC sa r sc ch ta (tnO ch L) tc na (nnO ch L) nc), .bool true] wz fun e w' => ∃ y, e = .returned (.tuple #[.agg y, .int .i64 Eb]) ∧ PoR w' y Eb Db RK ch Nb db Bb Ub Vb ∧ Below wz.heap.size wz w') := Lib.hid (fun wz q0 q => by
        subst hmP hmQ hnP hnQ
        subst hRK
        subst hEb hTb hDb hMb hNb hgb hPb hQb hdb hBb hUb hVb
        exact (rPart_yes true rfl (plC sb r0 scb ch0 tb (tnO ch0 L0) tcb nb (nnO ch0 L0) ncb) S0 r0 ch0 L0 g0 fB0 fS0 fT0 _ _ (plC sa r sc ch ta (tnO ch L) tc na (nnO ch L) nc) S r ch L g fB fS fT wz q0 hN0 (by omega) q hG.sh (by omega)).mono (fun _ _ hq => hq.res))
      have SOb : Hid (∀ x p wz, MoR wz x Eb Tb RK ch Mb gb Pb Qb → PoR wz p Eb Db RK ch Nb db Bb Ub Vb → Calls Tryz.prog 12 #[.agg x, .int .i64 Eb, .agg p, .int .i64 Eb] wz fun e w' => e = .returned (.bool true) ∧ Below wz.heap.size wz w') := Lib.hid (fun x p wz q z => by
        subst hmP hmQ hnP hnQ
        subst hRK
        subst hEb hTb hDb hMb hNb hgb hPb hQb hdb hBb hUb hVb
        exact showsD_any q z (hG.cmp (pa_cmp true r0 ch0 L0 (gP fB0 fS0 fT0) (gQ fB0 fS0 fT0) S r hG.sh).2 g))
      clear hin hN0 hq0 hRK hca hcb hnP hnQ hmP hmQ hG hG0 hGL hGL0 h8 h80 hEa hTa hDa hMa hNa hga hPa hQa hda hBa hUa hVa hEb hTb hDb hMb hNb hgb hPb hQb hdb hBb hUb hVb
      have RWP : Hid (∀ yz, Below w3.heap.size w3 yz → Row yz (w.heap.size + 1) 26 (plC sa r sc ch ta (tnO ch L) tc na (nnO ch L) nc)) := Lib.hid (fun yz hb => Row.below BB.out.now.1 hb)
      have RWB : Hid (∀ yz, Below w3.heap.size w3 yz → Row yz (w.heap.size) 26 (plC sb r0 scb ch0 tb (tnO ch0 L0) tcb nb (nnO ch0 L0) ncb)) := Lib.hid (fun yz hb => Row.below BB.out.now.2.1 hb)
      have BB := Lib.hid (Bag.fresh BB.out.below)
      go_wp2_with fail
      refine wp_region_inv2 ⟨(fun j => ([[23], [24], [25], [26], [27], [22], [28], [29], [5], [5], [6]] : List (List Nat)).getD j []), (fun j => ([[], [0], [], [0, 1, 2], [0, 1, 2, 3], [0, 1, 2, 3, 4], [0, 1, 2, 3, 4, 5], [0, 1, 2, 3, 4, 5], [], [0, 1, 2, 3, 4, 5, 6, 8], [0, 1, 2, 3, 4, 5, 6, 7, 8, 9]] : List (List Nat)).getD j []), [8]⟩ (fun jj vv yy => match jj with | 0 => vv = [some (.agg (plC sb r0 scb ch0 tb (tnO ch0 L0) tcb nb (nnO ch0 L0) ncb))] | 1 => ∃ (x1 : Array Value), vv = [some (.agg x1)] ∧ Arr yy x1 S0 r0 ch0 L0 g0 mP mQ | 2 => vv = [some (.agg (plC sa r sc ch ta (tnO ch L) tc na (nnO ch L) nc))] | 3 => ∃ (x3 : Array Value), vv = [some (.agg x3)] ∧ Arr yy x3 S r ch L g nP nQ | 4 => ∃ (x5 : Array Value), vv = [some (.tuple #[.agg x5, .int .i64 Ea])] ∧ MoR yy x5 Ea Ta RK ch Ma ga Pa Qa ∧ IsA x5 | 5 => ∃ (x5 : Array Value), vv = [some (.tuple #[.agg x5, .int .i64 Ea])] ∧ MoR yy x5 Ea Ta RK ch Ma ga Pa Qa ∧ IsA x5 | 6 => ∃ (x5 : Array Value), vv = [some (.agg x5)] ∧ MoR yy x5 Ea Ta RK ch Ma ga Pa Qa ∧ IsA x5 | 7 => vv = [some (.int .i64 Ea)] | 8 => ∃ (k8 : Nat), ∃ (z8 : Array Value), vv = [some (.pointer (some ⟨k8, 0, none⟩))] ∧ Row yy k8 32 z8 ∧ IsA z8 ∧ w3.heap.size ≤ k8 | 9 => ∃ (k8 : Nat), ∃ (x5 : Array Value), vv = [some (.pointer (some ⟨k8, 0, none⟩))] ∧ Row yy k8 32 x5 ∧ MoR yy x5 Ea Ta RK ch Ma ga Pa Qa ∧ IsA x5 | 10 => vv = [some (.int .i64 Ea)] | _ => True) (Bag w3 (fun _ => True)) (by kernel_rfl) (by kernel_rfl) (by kernel_rfl) (Bag.start w3).drew ?_ ?_ ?_
      · intro jj vv yw yw2 hb h
        match jj, h with
        | 0, h => exact h
        | 1, ⟨x1, e1, g1_0⟩ => exact Exists.intro x1 (And.intro e1 (g1_0.below hb))
        | 2, h => exact h
        | 3, ⟨x3, e3, g3_0⟩ => exact Exists.intro x3 (And.intro e3 (g3_0.below hb))
        | 4, ⟨x5, e4, g4_0, g4_1⟩ => exact Exists.intro x5 (And.intro e4 (And.intro (g4_0.below hb) g4_1))
        | 5, ⟨x5, e5, g5_0, g5_1⟩ => exact Exists.intro x5 (And.intro e5 (And.intro (g5_0.below hb) g5_1))
        | 6, ⟨x5, e6, g6_0, g6_1⟩ => exact Exists.intro x5 (And.intro e6 (And.intro (g6_0.below hb) g6_1))
        | 7, h => exact h
        | 8, ⟨k8, z8, e8, g8_0, g8_1, g8_2⟩ => exact Exists.intro k8 (Exists.intro z8 (And.intro e8 (And.intro (g8_0.below hb) (And.intro g8_1 g8_2))))
        | 9, ⟨k8, x5, e9, g9_0, g9_1, g9_2⟩ => exact Exists.intro k8 (Exists.intro x5 (And.intro e9 (And.intro (g9_0.below hb) (And.intro (g9_1.below hb) g9_2))))
        | 10, h => exact h
        | _ + 11, h => exact h
      · intro ac yw hsz hdf hold hB hp
        obtain ⟨ka, xa, es, rs, ms, zs⟩ := hp 9 (by decide)
        have t5 : ac.tmps[5]? = some (.pointer (some ⟨ka, 0, none⟩)) := (List.cons.inj es).1
        have t6 : ac.tmps[6]? = some (.int .i64 Ea) := (List.cons.inj (hp 10 (by decide))).1
        have t2 : ac.tmps[2]? = some (.pointer (some ⟨w.heap.size, 0, none⟩)) := hold 2 (by kernel_rfl)
        have t3 : ac.tmps[3]? = some (.pointer (some ⟨w.heap.size + 1, 0, none⟩)) := hold 3 (by kernel_rfl)
        have HRB := Lib.hid (RWB.out _ hB.below)
        have HRP := Lib.hid (RWP.out _ hB.below)
        have BB := Lib.hid (BB.out.go hB.below)
        have HM := Lib.hid ms
        have SZa := Lib.hid zs
        have HR := Lib.hid rs
        clear hold hp es rs ms zs hB RWB RWP
        obtain ⟨TV, hTV⟩ : ∃ TV : Nat → Value, ∀ i, (ac.tmps[i]?).getD undef = TV i := ⟨_, fun _ => rfl⟩
        have f2 := (hTV 2).symm.trans (congrArg (fun x => Option.getD x undef) t2)
        have f3 := (hTV 3).symm.trans (congrArg (fun x => Option.getD x undef) t3)
        have f5 := (hTV 5).symm.trans (congrArg (fun x => Option.getD x undef) t5)
        have f6 := (hTV 6).symm.trans (congrArg (fun x => Option.getD x undef) t6)
        have hac := act_eq (n := 65) hsz TV hTV
        rw [show ((List.range 65).map TV).toArray = #[TV 0, TV 1, TV 2, TV 3, TV 4, TV 5, TV 6, TV 7, TV 8, TV 9, TV 10, TV 11, TV 12, TV 13, TV 14, TV 15, TV 16, TV 17, TV 18, TV 19, TV 20, TV 21, TV 22, TV 23, TV 24, TV 25, TV 26, TV 27, TV 28, TV 29, TV 30, TV 31, TV 32, TV 33, TV 34, TV 35, TV 36, TV 37, TV 38, TV 39, TV 40, TV 41, TV 42, TV 43, TV 44, TV 45, TV 46, TV 47, TV 48, TV 49, TV 50, TV 51, TV 52, TV 53, TV 54, TV 55, TV 56, TV 57, TV 58, TV 59, TV 60, TV 61, TV 62, TV 63, TV 64] from rfl, f2, f3, f5, f6, hdf] at hac
        simp only [Option.getD_some] at hac
        subst hac
        clear hTV f2 f3 f5 f6
        go_wp2_with (first
          | (refine ld_pln rfl (.tmp 2) rfl (w.heap.size) rfl HRB.out ?_)
          | (refine ld_pln rfl (.tmp 3) rfl (w.heap.size + 1) rfl HRP.out ?_))
        go_at_call 10
        (refine (PTa.out _ (HP0.out.below BB.out.below) (HP.out.below BB.out.below)).mono ?_)
        rintro e w5 ⟨p8, rfl, h8, hb8⟩
        obtain ⟨va, vn, vc, vh, vt, vtn, vtc, vr, vrn, vrc, hpv⟩ := h8.1
        subst hpv
        have hZ : Below w5.heap.size w5 ((w5.alloc (.cells plZer 26)).setRow w5.heap.size (plC va vn vc vh vt vtn vtc vr vrn vrc)) := below_put ((Below.refl _ w5).alloc (Nat.le_refl _) (.cells plZer 26)) (Nat.le_refl _) (plC va vn vc vh vt vtn vtc vr vrn vrc)
        have HZ : Hid (Row (w5.alloc (.cells plZer 26)) w5.heap.size 26 plZer) := Lib.hid (Row.new w5 _ plZer)
        have HRX := Lib.hid (HZ.out.put (plC va vn vc vh vt vtn vtc vr vrn vrc))
        have HX := Lib.hid (h8.below hZ)
        have HM := Lib.hid ((HM.out.below hb8).below hZ)
        have HR := Lib.hid ((HR.out.below hb8).below hZ)
        have HRB := Lib.hid ((HRB.out.below hb8).below hZ)
        have HRP := Lib.hid ((HRP.out.below hb8).below hZ)
        have BB := Lib.hid ((BB.out.go hb8).go hZ)
        clear h8 hb8 hZ
        go_wp2_with (refine st_pln rfl (.tmp 7) (.tmp 34) rfl w5.heap.size rfl _ _ _ _ _ _ _ _ _ _ rfl HZ.out rfl ?_)
        generalize hW : (World.setRow _ _ _) = Y5
        have RWB : Hid (∀ yz, Below Y5.heap.size Y5 yz → Row yz (w.heap.size) 26 (plC sb r0 scb ch0 tb (tnO ch0 L0) tcb nb (nnO ch0 L0) ncb)) := by
          subst hW
          exact Lib.hid (fun yz hb => Row.below HRB.out hb)
        have RWP : Hid (∀ yz, Below Y5.heap.size Y5 yz → Row yz (w.heap.size + 1) 26 (plC sa r sc ch ta (tnO ch L) tc na (nnO ch L) nc)) := by
          subst hW
          exact Lib.hid (fun yz hb => Row.below HRP.out hb)
        have RWa : Hid (∀ yz, Below Y5.heap.size Y5 yz → Row yz ka 32 xa) := by
          subst hW
          exact Lib.hid (fun yz hb => Row.below HR.out hb)
        have RW9 : Hid (∀ yz, Below Y5.heap.size Y5 yz → Row yz w5.heap.size 26 (plC va vn vc vh vt vtn vtc vr vrn vrc)) := by
          subst hW
          exact Lib.hid (fun yz hb => Row.below HRX.out hb)
        have Ma : Hid (∀ yz, Below Y5.heap.size Y5 yz → MoR yz xa Ea Ta RK ch Ma ga Pa Qa) := by
          subst hW
          exact Lib.hid (fun yz hb => MoR.below HM.out hb)
        have X9 : Hid (∀ yz, Below Y5.heap.size Y5 yz → PoR yz (plC va vn vc vh vt vtn vtc vr vrn vrc) Ea Da RK ch Na da Ba Ua Va) := by
          subst hW
          exact Lib.hid (fun yz hb => PoR.below HX.out hb)
        have SZ9 : Hid (IsP (plC va vn vc vh vt vtn vtc vr vrn vrc)) := Lib.hid ⟨_, _, _, _, _, _, _, _, _, _, rfl⟩
        have BB : Hid (Bag w (fun _ => True) Y5) := by
          subst hW
          exact Lib.hid (Bag.fresh BB.out.below)
        clear hW HR HM HX HRX HRB HRP HZ
        generalize (plC va vn vc vh vt vtn vtc vr vrn vrc) = P9 at RW9 X9 SZ9
        refine wp_region_inv2 ⟨(fun j => ([[37], [38], [39], [40], [41], [36], [42], [43], [9], [9], [10]] : List (List Nat)).getD j []), (fun j => ([[], [0], [], [0, 1, 2], [0, 1, 2, 3], [0, 1, 2, 3, 4], [0, 1, 2, 3, 4, 5], [0, 1, 2, 3, 4, 5], [], [0, 1, 2, 3, 4, 5, 6, 8], [0, 1, 2, 3, 4, 5, 6, 7, 8, 9]] : List (List Nat)).getD j []), [8]⟩ (fun jj vv yy => match jj with | 0 => vv = [some (.agg (plC sb r0 scb ch0 tb (tnO ch0 L0) tcb nb (nnO ch0 L0) ncb))] | 1 => ∃ (x1 : Array Value), vv = [some (.agg x1)] ∧ Arr yy x1 S0 r0 ch0 L0 g0 mP mQ | 2 => vv = [some (.agg (plC sa r sc ch ta (tnO ch L) tc na (nnO ch L) nc))] | 3 => ∃ (x3 : Array Value), vv = [some (.agg x3)] ∧ Arr yy x3 S r ch L g nP nQ | 4 => ∃ (x5 : Array Value), vv = [some (.tuple #[.agg x5, .int .i64 Eb])] ∧ MoR yy x5 Eb Tb RK ch Mb gb Pb Qb ∧ IsA x5 | 5 => ∃ (x5 : Array Value), vv = [some (.tuple #[.agg x5, .int .i64 Eb])] ∧ MoR yy x5 Eb Tb RK ch Mb gb Pb Qb ∧ IsA x5 | 6 => ∃ (x5 : Array Value), vv = [some (.agg x5)] ∧ MoR yy x5 Eb Tb RK ch Mb gb Pb Qb ∧ IsA x5 | 7 => vv = [some (.int .i64 Eb)] | 8 => ∃ (k8 : Nat), ∃ (z8 : Array Value), vv = [some (.pointer (some ⟨k8, 0, none⟩))] ∧ Row yy k8 32 z8 ∧ IsA z8 ∧ Y5.heap.size ≤ k8 | 9 => ∃ (k8 : Nat), ∃ (x5 : Array Value), vv = [some (.pointer (some ⟨k8, 0, none⟩))] ∧ Row yy k8 32 x5 ∧ MoR yy x5 Eb Tb RK ch Mb gb Pb Qb ∧ IsA x5 | 10 => vv = [some (.int .i64 Eb)] | _ => True) (Bag Y5 (fun _ => True)) (by kernel_rfl) (by kernel_rfl) (by kernel_rfl) (Bag.start Y5).drew ?_ ?_ ?_
        · intro jj vv yw yw2 hb h
          match jj, h with
          | 0, h => exact h
          | 1, ⟨x1, e1, g1_0⟩ => exact Exists.intro x1 (And.intro e1 (g1_0.below hb))
          | 2, h => exact h
          | 3, ⟨x3, e3, g3_0⟩ => exact Exists.intro x3 (And.intro e3 (g3_0.below hb))
          | 4, ⟨x5, e4, g4_0, g4_1⟩ => exact Exists.intro x5 (And.intro e4 (And.intro (g4_0.below hb) g4_1))
          | 5, ⟨x5, e5, g5_0, g5_1⟩ => exact Exists.intro x5 (And.intro e5 (And.intro (g5_0.below hb) g5_1))
          | 6, ⟨x5, e6, g6_0, g6_1⟩ => exact Exists.intro x5 (And.intro e6 (And.intro (g6_0.below hb) g6_1))
          | 7, h => exact h
          | 8, ⟨k8, z8, e8, g8_0, g8_1, g8_2⟩ => exact Exists.intro k8 (Exists.intro z8 (And.intro e8 (And.intro (g8_0.below hb) (And.intro g8_1 g8_2))))
          | 9, ⟨k8, x5, e9, g9_0, g9_1, g9_2⟩ => exact Exists.intro k8 (Exists.intro x5 (And.intro e9 (And.intro (g9_0.below hb) (And.intro (g9_1.below hb) g9_2))))
          | 10, h => exact h
          | _ + 11, h => exact h
        · intro ac yw hsz hdf hold hB hp
          obtain ⟨kc, xc, es, rs, ms, zs⟩ := hp 9 (by decide)
          have t9 : ac.tmps[9]? = some (.pointer (some ⟨kc, 0, none⟩)) := (List.cons.inj es).1
          have t10 : ac.tmps[10]? = some (.int .i64 Eb) := (List.cons.inj (hp 10 (by decide))).1
          have t2 : ac.tmps[2]? = some (.pointer (some ⟨w.heap.size, 0, none⟩)) := hold 2 (by kernel_rfl)
          have t3 : ac.tmps[3]? = some (.pointer (some ⟨w.heap.size + 1, 0, none⟩)) := hold 3 (by kernel_rfl)
          have t5 : ac.tmps[5]? = some (.pointer (some ⟨ka, 0, none⟩)) := hold 5 (by kernel_rfl)
          have t6 : ac.tmps[6]? = some (.int .i64 Ea) := hold 6 (by kernel_rfl)
          have t7 : ac.tmps[7]? = some (.pointer (some ⟨w5.heap.size, 0, none⟩)) := hold 7 (by kernel_rfl)
          have t8 : ac.tmps[8]? = some (.int .i64 Ea) := hold 8 (by kernel_rfl)
          have HRB := Lib.hid (RWB.out _ hB.below)
          have HRP := Lib.hid (RWP.out _ hB.below)
          have HR7 := Lib.hid (RWa.out _ hB.below)
          have HR9 := Lib.hid (RW9.out _ hB.below)
          have HM7 := Lib.hid (Ma.out _ hB.below)
          have HX9 := Lib.hid (X9.out _ hB.below)
          have BB := Lib.hid (BB.out.go hB.below)
          have HM := Lib.hid ms
          have SZ := Lib.hid zs
          have HR := Lib.hid rs
          clear hold hp es rs ms zs hB
          obtain ⟨TW, hTW⟩ : ∃ TW : Nat → Value, ∀ i, (ac.tmps[i]?).getD undef = TW i := ⟨_, fun _ => rfl⟩
          have f2 := (hTW 2).symm.trans (congrArg (fun x => Option.getD x undef) t2)
          have f3 := (hTW 3).symm.trans (congrArg (fun x => Option.getD x undef) t3)
          have f5 := (hTW 5).symm.trans (congrArg (fun x => Option.getD x undef) t5)
          have f6 := (hTW 6).symm.trans (congrArg (fun x => Option.getD x undef) t6)
          have f7 := (hTW 7).symm.trans (congrArg (fun x => Option.getD x undef) t7)
          have f8 := (hTW 8).symm.trans (congrArg (fun x => Option.getD x undef) t8)
          have f9 := (hTW 9).symm.trans (congrArg (fun x => Option.getD x undef) t9)
          have f10 := (hTW 10).symm.trans (congrArg (fun x => Option.getD x undef) t10)
          have hac := act_eq (n := 65) hsz TW hTW
          rw [show ((List.range 65).map TW).toArray = #[TW 0, TW 1, TW 2, TW 3, TW 4, TW 5, TW 6, TW 7, TW 8, TW 9, TW 10, TW 11, TW 12, TW 13, TW 14, TW 15, TW 16, TW 17, TW 18, TW 19, TW 20, TW 21, TW 22, TW 23, TW 24, TW 25, TW 26, TW 27, TW 28, TW 29, TW 30, TW 31, TW 32, TW 33, TW 34, TW 35, TW 36, TW 37, TW 38, TW 39, TW 40, TW 41, TW 42, TW 43, TW 44, TW 45, TW 46, TW 47, TW 48, TW 49, TW 50, TW 51, TW 52, TW 53, TW 54, TW 55, TW 56, TW 57, TW 58, TW 59, TW 60, TW 61, TW 62, TW 63, TW 64] from rfl, f2, f3, f5, f6, f7, f8, f9, f10, hdf] at hac
          simp only [Option.getD_some] at hac
          subst hac
          clear hTW f2 f3 f5 f6 f7 f8 f9 f10
          go_wp2_with (first
            | (refine ld_pln rfl (.tmp 2) rfl (w.heap.size) rfl HRB.out ?_)
            | (refine ld_pln rfl (.tmp 3) rfl (w.heap.size + 1) rfl HRP.out ?_))
          go_at_call 10
          (refine (PTb.out _ (HP0.out.below BB.out.below) (HP.out.below BB.out.below)).mono ?_)
          rintro e w8 ⟨p8, rfl, h8, hb8⟩
          obtain ⟨qa, qn, qc, qh, qt, qtn, qtc, qr, qrn, qrc, hpq⟩ := h8.1
          subst hpq
          have hZ : Below w8.heap.size w8 ((w8.alloc (.cells plZer 26)).setRow w8.heap.size (plC qa qn qc qh qt qtn qtc qr qrn qrc)) := below_put ((Below.refl _ w8).alloc (Nat.le_refl _) (.cells plZer 26)) (Nat.le_refl _) (plC qa qn qc qh qt qtn qtc qr qrn qrc)
          have HZ : Hid (Row (w8.alloc (.cells plZer 26)) w8.heap.size 26 plZer) := Lib.hid (Row.new w8 _ plZer)
          have HRX := Lib.hid (HZ.out.put (plC qa qn qc qh qt qtn qtc qr qrn qrc))
          have HX := Lib.hid (h8.below hZ)
          have HM := Lib.hid ((HM.out.below hb8).below hZ)
          have HR := Lib.hid ((HR.out.below hb8).below hZ)
          have HM7 := Lib.hid ((HM7.out.below hb8).below hZ)
          have HX9 := Lib.hid ((HX9.out.below hb8).below hZ)
          have HR7 := Lib.hid ((HR7.out.below hb8).below hZ)
          have HR9 := Lib.hid ((HR9.out.below hb8).below hZ)
          have BB := Lib.hid ((BB.out.go hb8).go hZ)
          clear h8 hb8 hZ HRB HRP
          go_wp2_with (first
            | (refine st_pln rfl (.tmp 11) (.tmp 48) rfl w8.heap.size rfl _ _ _ _ _ _ _ _ _ _ rfl HZ.out rfl ?_)
            | (refine ld8G (by rfl) 5 rfl ka xa (by rfl) HR7.out SZa.out.size ?_)
            | (refine ldPG (by rfl) 7 rfl w5.heap.size P9 (by rfl) HR9.out SZ9.out.size ?_))
          go_at_call 12
          (refine (SOa.out _ _ _ HM7.out HX9.out).mono ?_)
          rintro e w10 ⟨rfl, hb10⟩
          have BB := Lib.hid (BB.out.go hb10)
          have HX := Lib.hid (HX.out.below hb10)
          have HM := Lib.hid (HM.out.below hb10)
          have HR := Lib.hid (HR.out.below hb10)
          have HRX := Lib.hid (HRX.out.below hb10)
          clear hb10 HM7 HX9 HR7 HR9 HZ
          go_wp2_with (first
            | (refine ld8G (by rfl) 9 rfl kc xc (by rfl) HR.out SZ.out.size ?_)
            | (refine ldPG (by rfl) 11 rfl w8.heap.size (plC qa qn qc qh qt qtn qtc qr qrn qrc) (by rfl) HRX.out rfl ?_))
          go_at_call 12
          (refine (SOb.out _ _ _ HM.out HX.out).mono ?_)
          rintro e w11 ⟨rfl, hb11⟩
          have BB := Lib.hid (BB.out.go hb11)
          clear hb11
          go_wp2_with fail
          go_at_call 7
          (with_reducible refine (AW.out _).mono ?_)
          rintro e w9 ⟨rfl, hb9⟩
          have HE := Lib.hid (BB.out.go hb9).below
          clear hb9
          go_wp2
          go_ret
          exact ⟨rfl, HE.out⟩
        refine Stps2.cons (o := _) ?_ ?_
        · intro ac yw hsz hold hB hp K hK
          have t2 : ac.tmps[2]? = some (.pointer (some ⟨w.heap.size, 0, none⟩)) := hold 2 (by kernel_rfl)
          clear hold hp hsz
          rw [if_pos (by rfl)]
          refine ldP 2 rfl (w.heap.size) ((plC sb r0 scb ch0 tb (tnO ch0 L0) tcb nb (nnO ch0 L0) ncb)) t2 (RWB.out _ hB.below) (rfl) ?_
          exact hK.out _ _ ⟨hB, rfl, Nat.le_refl _, .inl (Below.refl _ _), fun h => absurd h (by decide)⟩
        refine Stps2.cons (o := _) ?_ ?_
        · intro ac yw hsz hold hB hp K hK
          have e0 := hp 0 (by decide)
          have t37 : ac.tmps[37]? = some (.agg (plC sb r0 scb ch0 tb (tnO ch0 L0) tcb nb (nnO ch0 L0) ncb)) := (List.cons.inj e0).1
          clear hold hp hsz e0
          go_simp
          (go_at_call 9; (refine (OF0.out _ (HP0.out.below (BB.out.go hB.below).below)).mono ?_); rintro e wz ⟨x1, rfl, h1_0, hbz⟩)
          exact hK.out _ _ ⟨hB.go hbz, Exists.intro x1 (And.intro rfl h1_0), hbz.size, .inl hbz, fun h => absurd h (by decide)⟩
        refine Stps2.cons (o := _) ?_ ?_
        · intro ac yw hsz hold hB hp K hK
          have t3 : ac.tmps[3]? = some (.pointer (some ⟨w.heap.size + 1, 0, none⟩)) := hold 3 (by kernel_rfl)
          clear hold hp hsz
          rw [if_pos (by rfl)]
          refine ldP 3 rfl (w.heap.size + 1) ((plC sa r sc ch ta (tnO ch L) tc na (nnO ch L) nc)) t3 (RWP.out _ hB.below) (rfl) ?_
          exact hK.out _ _ ⟨hB, rfl, Nat.le_refl _, .inl (Below.refl _ _), fun h => absurd h (by decide)⟩
        refine Stps2.cons (o := _) ?_ ?_
        · intro ac yw hsz hold hB hp K hK
          have e2 := hp 2 (by decide)
          have t39 : ac.tmps[39]? = some (.agg (plC sa r sc ch ta (tnO ch L) tc na (nnO ch L) nc)) := (List.cons.inj e2).1
          clear hold hp hsz e2
          go_simp
          (go_at_call 9; (refine (OF.out _ (HP.out.below (BB.out.go hB.below).below)).mono ?_); rintro e wz ⟨x3, rfl, h3_0, hbz⟩)
          exact hK.out _ _ ⟨hB.go hbz, Exists.intro x3 (And.intro rfl h3_0), hbz.size, .inl hbz, fun h => absurd h (by decide)⟩
        refine Stps2.cons (o := _) ?_ ?_
        · intro ac yw hsz hold hB hp K hK
          obtain ⟨x1_1, e1, g1_0⟩ := hp 1 (by decide)
          have t38 : ac.tmps[38]? = some (.agg x1_1) := (List.cons.inj e1).1
          obtain ⟨x3_3, e3, g3_0⟩ := hp 3 (by decide)
          have t40 : ac.tmps[40]? = some (.agg x3_3) := (List.cons.inj e3).1
          clear hold hp hsz e1 e3
          go_simp
          (go_at_call 11; (refine (TKb.out _ _ _ g1_0 g3_0).mono ?_); rintro e wz ⟨x5, rfl, h5_0, hbz⟩)
          exact hK.out _ _ ⟨hB.go hbz, Exists.intro x5 (And.intro rfl (And.intro h5_0 h5_0.1)), hbz.size, .inl hbz, fun h => absurd h (by decide)⟩
        refine Stps2.cons (o := _) ?_ ?_
        · intro ac yw hsz hold hB hp K hK
          obtain ⟨x5_4, e4, g4_0, g4_1⟩ := hp 4 (by decide)
          have t41 : ac.tmps[41]? = some (.tuple #[.agg x5_4, .int .i64 Eb]) := (List.cons.inj e4).1
          clear hold hp hsz e4
          go_simp
          exact hK.out _ _ ⟨hB, Exists.intro x5_4 (And.intro rfl (And.intro g4_0 g4_1)), Nat.le_refl _, .inl (Below.refl _ _), fun h => absurd h (by decide)⟩
        refine Stps2.cons (o := _) ?_ ?_
        · intro ac yw hsz hold hB hp K hK
          obtain ⟨x5_5, e5, g5_0, g5_1⟩ := hp 5 (by decide)
          have t36 : ac.tmps[36]? = some (.tuple #[.agg x5_5, .int .i64 Eb]) := (List.cons.inj e5).1
          clear hold hp hsz e5
          go_simp
          exact hK.out _ _ ⟨hB, Exists.intro x5_5 (And.intro rfl (And.intro g5_0 g5_1)), Nat.le_refl _, .inl (Below.refl _ _), fun h => absurd h (by decide)⟩
        refine Stps2.cons (o := _) ?_ ?_
        · intro ac yw hsz hold hB hp K hK
          obtain ⟨x5_5, e5, g5_0, g5_1⟩ := hp 5 (by decide)
          have t36 : ac.tmps[36]? = some (.tuple #[.agg x5_5, .int .i64 Eb]) := (List.cons.inj e5).1
          clear hold hp hsz e5
          go_simp
          exact hK.out _ _ ⟨hB, rfl, Nat.le_refl _, .inl (Below.refl _ _), fun h => absurd h (by decide)⟩
        refine Stps2.cons (o := _) ?_ ?_
        · intro ac yw hsz hold hB hp K hK
          clear hold hp hsz
          have hbz : Below yw.heap.size yw (yw.alloc (.cells zerC 32)) ∧ yw.heap.size < (yw.alloc (.cells zerC 32)).heap.size := ⟨(Below.refl _ _).alloc (Nat.le_refl _) _, by rw [World.size_alloc]; omega⟩
          go_simp
          exact hK.out _ _ ⟨hB.alloc _, Exists.intro yw.heap.size (Exists.intro zerC (And.intro rfl (And.intro ((Row.new yw _ zerC)) (And.intro IsA.zer hB.below.size)))), Nat.le_of_lt hbz.2, .inl hbz.1, fun _ => ⟨_, rfl, Nat.le_refl _, hbz.2⟩⟩
        refine Stps2.cons (o := _) ?_ ?_
        · intro ac yw hsz hold hB hp K hK
          obtain ⟨k8_8, z8_8, e8, g8_0, g8_1, g8_2⟩ := hp 8 (by decide)
          have t9 : ac.tmps[9]? = some (.pointer (some ⟨k8_8, 0, none⟩)) := (List.cons.inj e8).1
          obtain ⟨x5_6, e6, g6_0, g6_1⟩ := hp 6 (by decide)
          have t42 : ac.tmps[42]? = some (.agg x5_6) := (List.cons.inj e6).1
          clear hold hp hsz e8 e6
          rw [if_pos (by rfl)]
          have HB : Bag _ (fun _ => True) (yw.setRow k8_8 x5_6) := ⟨below_put hB.below g8_2 _, fun _ _ _ _ => trivial, trivial⟩
          refine st8 9 42 rfl k8_8 x5_6 t9 t42 _ z8_8 g8_0 g8_1 g6_1 ?_
          refine hK.out undef _ ⟨HB, Exists.intro k8_8 (Exists.intro x5_6 (And.intro (congrArg (fun x => [x]) t9) (And.intro (g8_0.put _) (And.intro (g6_0.store g8_0 g8_1 _) g6_1)))), by simp [World.setRow], .inr ?_, fun h => absurd h (by decide)⟩
          intro jj hj hap h
          match jj, h with
          | 0, h => exact h
          | 1, ⟨x1, e1, g1_0⟩ =>
            exact Exists.intro x1 (And.intro e1 (g1_0.store g8_0 g8_1 _))
          | 2, h => exact h
          | 3, ⟨x3, e3, g3_0⟩ =>
            exact Exists.intro x3 (And.intro e3 (g3_0.store g8_0 g8_1 _))
          | 4, ⟨x5, e4, g4_0, g4_1⟩ =>
            exact Exists.intro x5 (And.intro e4 (And.intro (g4_0.store g8_0 g8_1 _) g4_1))
          | 5, ⟨x5, e5, g5_0, g5_1⟩ =>
            exact Exists.intro x5 (And.intro e5 (And.intro (g5_0.store g8_0 g8_1 _) g5_1))
          | 6, ⟨x5, e6, g6_0, g6_1⟩ =>
            exact Exists.intro x5 (And.intro e6 (And.intro (g6_0.store g8_0 g8_1 _) g6_1))
          | 7, h => exact h
          | 8, ⟨k8, z8, e8, g8_0, g8_1, g8_2⟩ =>
            have e9 : k8 = k8_8 := by have := (List.cons.inj e8).1.symm.trans t9; cases this; rfl
            subst e9
            exact Exists.intro _ (Exists.intro _ (And.intro e8 (And.intro (g8_0.put _) (And.intro g6_1 g8_2))))
          | 9, _ => exact absurd rfl hj
          | 10, h => exact h
          | _ + 11, h => exact h
        refine Stps2.cons (o := _) ?_ ?_
        · intro ac yw hsz hold hB hp K hK
          have e7 := hp 7 (by decide)
          have t43 : ac.tmps[43]? = some (.int .i64 Eb) := (List.cons.inj e7).1
          clear hold hp hsz e7
          go_simp
          exact hK.out _ _ ⟨hB, rfl, Nat.le_refl _, .inl (Below.refl _ _), fun h => absurd h (by decide)⟩
        exact Stps2.nil _
      refine Stps2.cons (o := _) ?_ ?_
      · intro ac yw hsz hold hB hp K hK
        have t2 : ac.tmps[2]? = some (.pointer (some ⟨w.heap.size, 0, none⟩)) := hold 2 (by kernel_rfl)
        clear hold hp hsz
        rw [if_pos (by rfl)]
        refine ldP 2 rfl (w.heap.size) ((plC sb r0 scb ch0 tb (tnO ch0 L0) tcb nb (nnO ch0 L0) ncb)) t2 (RWB.out _ hB.below) (rfl) ?_
        exact hK.out _ _ ⟨hB, rfl, Nat.le_refl _, .inl (Below.refl _ _), fun h => absurd h (by decide)⟩
      refine Stps2.cons (o := _) ?_ ?_
      · intro ac yw hsz hold hB hp K hK
        have e0 := hp 0 (by decide)
        have t23 : ac.tmps[23]? = some (.agg (plC sb r0 scb ch0 tb (tnO ch0 L0) tcb nb (nnO ch0 L0) ncb)) := (List.cons.inj e0).1
        clear hold hp hsz e0
        go_simp
        (go_at_call 9; (refine (OF0.out _ (HP0.out.below (BB.out.go hB.below).below)).mono ?_); rintro e wz ⟨x1, rfl, h1_0, hbz⟩)
        exact hK.out _ _ ⟨hB.go hbz, Exists.intro x1 (And.intro rfl h1_0), hbz.size, .inl hbz, fun h => absurd h (by decide)⟩
      refine Stps2.cons (o := _) ?_ ?_
      · intro ac yw hsz hold hB hp K hK
        have t3 : ac.tmps[3]? = some (.pointer (some ⟨w.heap.size + 1, 0, none⟩)) := hold 3 (by kernel_rfl)
        clear hold hp hsz
        rw [if_pos (by rfl)]
        refine ldP 3 rfl (w.heap.size + 1) ((plC sa r sc ch ta (tnO ch L) tc na (nnO ch L) nc)) t3 (RWP.out _ hB.below) (rfl) ?_
        exact hK.out _ _ ⟨hB, rfl, Nat.le_refl _, .inl (Below.refl _ _), fun h => absurd h (by decide)⟩
      refine Stps2.cons (o := _) ?_ ?_
      · intro ac yw hsz hold hB hp K hK
        have e2 := hp 2 (by decide)
        have t25 : ac.tmps[25]? = some (.agg (plC sa r sc ch ta (tnO ch L) tc na (nnO ch L) nc)) := (List.cons.inj e2).1
        clear hold hp hsz e2
        go_simp
        (go_at_call 9; (refine (OF.out _ (HP.out.below (BB.out.go hB.below).below)).mono ?_); rintro e wz ⟨x3, rfl, h3_0, hbz⟩)
        exact hK.out _ _ ⟨hB.go hbz, Exists.intro x3 (And.intro rfl h3_0), hbz.size, .inl hbz, fun h => absurd h (by decide)⟩
      refine Stps2.cons (o := _) ?_ ?_
      · intro ac yw hsz hold hB hp K hK
        obtain ⟨x1_1, e1, g1_0⟩ := hp 1 (by decide)
        have t24 : ac.tmps[24]? = some (.agg x1_1) := (List.cons.inj e1).1
        obtain ⟨x3_3, e3, g3_0⟩ := hp 3 (by decide)
        have t26 : ac.tmps[26]? = some (.agg x3_3) := (List.cons.inj e3).1
        clear hold hp hsz e1 e3
        go_simp
        (go_at_call 8; (refine (TKa.out _ _ _ g1_0 g3_0).mono ?_); rintro e wz ⟨x5, rfl, h5_0, hbz⟩)
        exact hK.out _ _ ⟨hB.go hbz, Exists.intro x5 (And.intro rfl (And.intro h5_0 h5_0.1)), hbz.size, .inl hbz, fun h => absurd h (by decide)⟩
      refine Stps2.cons (o := _) ?_ ?_
      · intro ac yw hsz hold hB hp K hK
        obtain ⟨x5_4, e4, g4_0, g4_1⟩ := hp 4 (by decide)
        have t27 : ac.tmps[27]? = some (.tuple #[.agg x5_4, .int .i64 Ea]) := (List.cons.inj e4).1
        clear hold hp hsz e4
        go_simp
        exact hK.out _ _ ⟨hB, Exists.intro x5_4 (And.intro rfl (And.intro g4_0 g4_1)), Nat.le_refl _, .inl (Below.refl _ _), fun h => absurd h (by decide)⟩
      refine Stps2.cons (o := _) ?_ ?_
      · intro ac yw hsz hold hB hp K hK
        obtain ⟨x5_5, e5, g5_0, g5_1⟩ := hp 5 (by decide)
        have t22 : ac.tmps[22]? = some (.tuple #[.agg x5_5, .int .i64 Ea]) := (List.cons.inj e5).1
        clear hold hp hsz e5
        go_simp
        exact hK.out _ _ ⟨hB, Exists.intro x5_5 (And.intro rfl (And.intro g5_0 g5_1)), Nat.le_refl _, .inl (Below.refl _ _), fun h => absurd h (by decide)⟩
      refine Stps2.cons (o := _) ?_ ?_
      · intro ac yw hsz hold hB hp K hK
        obtain ⟨x5_5, e5, g5_0, g5_1⟩ := hp 5 (by decide)
        have t22 : ac.tmps[22]? = some (.tuple #[.agg x5_5, .int .i64 Ea]) := (List.cons.inj e5).1
        clear hold hp hsz e5
        go_simp
        exact hK.out _ _ ⟨hB, rfl, Nat.le_refl _, .inl (Below.refl _ _), fun h => absurd h (by decide)⟩
      refine Stps2.cons (o := _) ?_ ?_
      · intro ac yw hsz hold hB hp K hK
        clear hold hp hsz
        have hbz : Below yw.heap.size yw (yw.alloc (.cells zerC 32)) ∧ yw.heap.size < (yw.alloc (.cells zerC 32)).heap.size := ⟨(Below.refl _ _).alloc (Nat.le_refl _) _, by rw [World.size_alloc]; omega⟩
        go_simp
        exact hK.out _ _ ⟨hB.alloc _, Exists.intro yw.heap.size (Exists.intro zerC (And.intro rfl (And.intro ((Row.new yw _ zerC)) (And.intro IsA.zer hB.below.size)))), Nat.le_of_lt hbz.2, .inl hbz.1, fun _ => ⟨_, rfl, Nat.le_refl _, hbz.2⟩⟩
      refine Stps2.cons (o := _) ?_ ?_
      · intro ac yw hsz hold hB hp K hK
        obtain ⟨k8_8, z8_8, e8, g8_0, g8_1, g8_2⟩ := hp 8 (by decide)
        have t5 : ac.tmps[5]? = some (.pointer (some ⟨k8_8, 0, none⟩)) := (List.cons.inj e8).1
        obtain ⟨x5_6, e6, g6_0, g6_1⟩ := hp 6 (by decide)
        have t28 : ac.tmps[28]? = some (.agg x5_6) := (List.cons.inj e6).1
        clear hold hp hsz e8 e6
        rw [if_pos (by rfl)]
        have HB : Bag _ (fun _ => True) (yw.setRow k8_8 x5_6) := ⟨below_put hB.below g8_2 _, fun _ _ _ _ => trivial, trivial⟩
        refine st8 5 28 rfl k8_8 x5_6 t5 t28 _ z8_8 g8_0 g8_1 g6_1 ?_
        refine hK.out undef _ ⟨HB, Exists.intro k8_8 (Exists.intro x5_6 (And.intro (congrArg (fun x => [x]) t5) (And.intro (g8_0.put _) (And.intro (g6_0.store g8_0 g8_1 _) g6_1)))), by simp [World.setRow], .inr ?_, fun h => absurd h (by decide)⟩
        intro jj hj hap h
        match jj, h with
        | 0, h => exact h
        | 1, ⟨x1, e1, g1_0⟩ =>
          exact Exists.intro x1 (And.intro e1 (g1_0.store g8_0 g8_1 _))
        | 2, h => exact h
        | 3, ⟨x3, e3, g3_0⟩ =>
          exact Exists.intro x3 (And.intro e3 (g3_0.store g8_0 g8_1 _))
        | 4, ⟨x5, e4, g4_0, g4_1⟩ =>
          exact Exists.intro x5 (And.intro e4 (And.intro (g4_0.store g8_0 g8_1 _) g4_1))
        | 5, ⟨x5, e5, g5_0, g5_1⟩ =>
          exact Exists.intro x5 (And.intro e5 (And.intro (g5_0.store g8_0 g8_1 _) g5_1))
        | 6, ⟨x5, e6, g6_0, g6_1⟩ =>
          exact Exists.intro x5 (And.intro e6 (And.intro (g6_0.store g8_0 g8_1 _) g6_1))
        | 7, h => exact h
        | 8, ⟨k8, z8, e8, g8_0, g8_1, g8_2⟩ =>
          have e9 : k8 = k8_8 := by have := (List.cons.inj e8).1.symm.trans t5; cases this; rfl
          subst e9
          exact Exists.intro _ (Exists.intro _ (And.intro e8 (And.intro (g8_0.put _) (And.intro g6_1 g8_2))))
        | 9, _ => exact absurd rfl hj
        | 10, h => exact h
        | _ + 11, h => exact h
      refine Stps2.cons (o := _) ?_ ?_
      · intro ac yw hsz hold hB hp K hK
        have e7 := hp 7 (by decide)
        have t29 : ac.tmps[29]? = some (.int .i64 Ea) := (List.cons.inj e7).1
        clear hold hp hsz e7
        go_simp
        exact hK.out _ _ ⟨hB, rfl, Nat.le_refl _, .inl (Below.refl _ _), fun h => absurd h (by decide)⟩
      exact Stps2.nil _

theorem own : ownKnob Tryz.prog.godebug = none := by kernel_rfl
theorem laidOut : laidOutB Tryz.prog = true := by kernel_rfl

set_option maxRecDepth 100000 in
theorem cutParts_lifted (os : Os) (started : os.Started) (H : Type) (enc : TypeId × Value → H) :
    ReturnsInHanded {} Tryz.checked os 3 .any (fun w args => (Rows.cutPartsSpec.pre enc Tryz.prog Tryz.f3 [] false w args ∧ laidMetH Tryz.prog Rows.cutPartsRow.laid w) ∧ sizedMet enc Tryz.prog Tryz.f3 (OpenSpec.ofChange Rows.cutPartsSpec) false w args)
      (Rows.cutPartsSpec.post enc Tryz.prog Tryz.f3 false true false false) := by
  refine returnsInHanded_of_change_and (C := Tryz.checked) (X := fun w _ => laidMetH Tryz.prog Rows.cutPartsRow.laid w) (fun _ _ _ hh h => h.of_heap hh) own started (by kernel_rfl) Tryz.func3
    (ChangeSpec.witness_shaped (enc := enc) (C := Tryz.checked) (os := os) (X := fun w _ => laidMetH Tryz.prog Rows.cutPartsRow.laid w) false (World.laidAll Tryz.prog os Rows.cutPartsRow.laid) #[.agg #[.slice none 0 0, .bool false, .slice none 0 0, .slice none 0 0], .agg #[.slice none 0 0, .bool false, .slice none 0 0, .slice none 0 0]] 8 (World.laidAll_os _ _ _)
      (World.shaped_of_ZipB (by kernel_rfl) (by kernel_rfl)) (by kernel_rfl) (by kernel_rfl) (by kernel_rfl)
      (by rw [MakeChecks.laidMetH_plain _ _ _ (by kernel_rfl)]; exact laidMet_laidAll _ (by kernel_rfl) (by kernel_rfl))) ?_
  intro W base args ds gs before hval0 hW _ _ _ _
  have hval : ∀ (j : Nat) t v, Tryz.f3.params[j]? = some t → args[j]? = some v → Value.okWide Tryz.prog W .any base t v := hval0
  have hW' := hW
  obtain ⟨p, q, hA0, hV, rfl, _, _⟩ := hW
  have hA : DataW.TrodAll enc Tryz.prog W 0 (fun _ => true) true Tryz.f3.params.toList args.toList ds p := hA0
  rw [Tryz.params3] at hA hval
  obtain ⟨v0, v1, d0, d1, p0, p1, rfl, rfl, rfl, h0, h1⟩ := trodAll_two hA
  obtain ⟨rfl, rfl⟩ := trodVars_none hV
  obtain ⟨cs0, S0, q0, ch0, g0, tn0, fB0, fS0, fT0, nn0, rfl, k0, w0, z0⟩ := open_pln (hval 0 26 v0 rfl rfl) h0
  obtain ⟨cs1, S1, q1, ch1, g1, tn1, fB1, fS1, fT1, nn1, rfl, k1, w1, z1⟩ := open_pln (hval 1 26 v1 rfl rfl) h1
  have hlt : ∀ y ∈ p0 ++ (p1), y.block < W.heap.size := fun y hy => by simpa using hW'.lt y (by simpa using hy)
  simp only [List.append_nil] at hW'
  refine (cutParts_walk cs0 S0 q0 ch0 g0 tn0 fB0 fS0 fT0 nn0 cs1 S1 q1 ch1 g1 tn1 fB1 fS1 fT1 nn1 W k0 w0 z0 k1 w1 z1).mono fun e W' ⟨he, hb⟩ => ?_
  subst he
  exact ⟨_, rfl, _, _, _, [], _, [], hW', trodAll_mk1 (shut_bool Tryz.underlying4 _), trodAll_mk2 (Below.trod laidOut (by kernel_rfl) (of_decide_eq_true (by kernel_rfl)) h0 hb (fun y hy => hlt y (by simp [hy]))) (Below.trod laidOut (by kernel_rfl) (of_decide_eq_true (by kernel_rfl)) h1 hb (fun y hy => hlt y (by simp [hy]))), rfl, hb.frame _, fun h => by cases h⟩

theorem cutParts_row : Rows.CutPartsSaid :=
  OpenClaim.holds_of_wide 3 Tryz.f3 rfl rfl rfl rfl rfl rfl rfl ⟨rfl, rfl, rfl, rfl, rfl⟩ rfl rfl rfl rfl rfl (by kernel_rfl) Tryz.func3 (by kernel_rfl)
    (of_decide_eq_true (by kernel_rfl)) (by unfold Func.isWrapper; first | (rw [if_pos (by decide +kernel)]; kernel_rfl) | (rw [if_neg (by decide +kernel)]; exact ⟨rfl, rfl⟩))
    (fun os started H enc _ => cutParts_lifted os started H enc)

theorem cutParts_holds : Rows.CutPartsCardSaid :=
  Claim7.holds_tied_plain_at .later [] [.data, .pinned] true Rows.cutPartsCard.stood.harness Rows.cutPartsCard.stood.looks cutParts_row (fun _ h => by cases h) (by kernel_rfl) (fun _ h => by cases h) cutParts_row_tie rfl ⟨rfl, rfl⟩ (by kernel_rfl) rfl
    (fun f fn hf hfn => by
      obtain rfl : f = 3 := Option.some.inj ((show Tryz.prog.funcNamed "typeball/typeballlaw09.CutParts" = some 3 by kernel_rfl).symm.trans hf) |>.symm
      obtain rfl : fn = Tryz.f3 := (Option.some.inj (Tryz.func3.symm.trans hfn)).symm
      exact ⟨by kernel_rfl, fun j t ht => by
        rw [Tryz.params3] at ht
        have hm : t ∈ [26] := by simpa using Array.mem_of_getElem? ht
        have hall : ([26].all fun u => !Tryz.prog.wantsStandIn u) = true := by kernel_rfl
        exact (show Tryz.prog.wantsStandIn t = false by simpa using List.all_eq_true.1 hall t hm)⟩)
    (by kernel_rfl)
#print axioms cutParts_holds
end Go.Proofs.YtpmcbnliogjknaaGreatDoor
