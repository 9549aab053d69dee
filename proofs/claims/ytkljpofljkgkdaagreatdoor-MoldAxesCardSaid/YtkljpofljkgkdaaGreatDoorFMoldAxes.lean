/-
  Proved: the law MoldAxes of package typeballlaw08 returns true for every two plain arrays and every truth, under the row's own conditions.
-/
import Derived.Test.YtkljpofljkgkdaaGreatDoorQ1
import Derived.Test.YtkljpofljkgkdaaGreatDoorQ2
import Derived.Test.YtkljpofljkgkdaaGreatDoorQ3
import Derived.Test.YtkljpofljkgkdaaGreatDoorQ4
import Derived.Test.YtkljpofljkgkdaaGreatDoorQ5
import Derived.Test.YtkljpofljkgkdaaGreatDoorQ6
import Derived.Test.YtkljpofljkgkdaaGreatDoorQ7
import Derived.Test.YtkljpofljkgkdaaGreatDoorQ8
import Derived.Test.YtkljpofljkgkdaaGreatDoorQ9
import Derived.Test.YtkljpofljkgkdaaGreatDoorF1
import Derived.Test.YtkljpofljkgkdaaGreatDoorF2
import Derived.SizedLaws
import Derived.Test.YtkljpofljkgkdaaGreatDoorCards
import Derived.Test.YtkljpofljkgkdaaGreatDoorTie
import Derived.LaidMore
import Derived.Lay
import Derived.SevenTiedAt
import Derived.Stop.Joined
namespace Go.Proofs.YtkljpofljkgkdaaGreatDoor
open Go.ChangeShapes Go.WideShapes Go.ChangeAt Go.RowKit Go.WideMaps Go.WideElems
attribute [local go_sem ↓] Go.wp_at_zero Go.wp_at_succ

set_option linter.unusedSimpArgs false in
set_option maxHeartbeats 6400000 in
set_option maxRecDepth 100000 in
theorem moldAxes_walk (cs0 : Array Value) (S0 : Nat → Int) (r0 : Nat) (ch0 : Bool) (g0 : Nat → Int) (tn0 : Nat) (fB0 : Nat → Bool) (fS0 fT0 : Nat → ByteArray) (nn0 : Nat) (cs : Array Value) (S : Nat → Int) (r : Nat) (ch : Bool) (g : Nat → Int) (tn : Nat) (fB : Nat → Bool) (fS fT : Nat → ByteArray) (nn : Nat) (one : Bool)
    (w : World) (h0 : PlnAt w cs0 S0 r0 ch0 g0 tn0 fB0 fS0 fT0 nn0) (hS0 : In64 S0 r0) (hz0 : ∀ j, j < nn0 → (fS0 j).size ≤ maxLen ∧ (fT0 j).size ≤ maxLen) (h : PlnAt w cs S r ch g tn fB fS fT nn) (hS : In64 S r) (hz : ∀ j, j < nn → (fS j).size ≤ maxLen ∧ (fT j).size ≤ maxLen) :
    Calls Tryz.prog 5 #[.agg cs0, .agg cs, .bool one] w fun e w' => e = .returned (.bool true) ∧ Below w.heap.size w w' := by
  have HP0 := Lib.hid h0
  have HP := Lib.hid h
  obtain ⟨sb, scb, tb, tcb, nb, ncb, rfl, _⟩ := h0
  obtain ⟨sa, sc, ta, tc, na, nc, rfl, _⟩ := h
  have LP0 := Lib.hid (fun wz h => light9_any (plC sb r0 scb ch0 tb tn0 tcb nb nn0 ncb) S0 r0 ch0 g0 tn0 fB0 fS0 fT0 nn0 wz h hS0 hz0)
  have LP := Lib.hid (fun wz h => light9_any (plC sa r sc ch ta tn tc na nn nc) S r ch g tn fB fS fT nn wz h hS hz)
  have AW := Lib.hid (fun wz => awake8_any wz)
  have BB := Lib.hid (((Bag.start w).newRow (plC sb r0 scb ch0 tb tn0 tcb nb nn0 ncb) 26).newRow (plC sa r sc ch ta tn tc na nn nc) 26)
  simp only [World.size_alloc] at BB
  have HR := Lib.hid BB.out.now.2.1
  clear hS0 hz0 hS hz
  unfold plC
  go_enter Tryz.func5, Tryz.ntmps5
  go_wp2_with (refine ldPG (by rfl) 3 rfl w.heap.size (plC sb r0 scb ch0 tb tn0 tcb nb nn0 ncb) (by rfl) HR.out rfl ?_)
  go_at_call 8
  (with_reducible refine (LP0.out _ ?_).mono ?_)
  · exact HP0.out.below BB.out.below
  rintro e w2 ⟨b0, rfl, hb0, hb2⟩
  have BB := Lib.hid (BB.out.go hb2)
  clear hb2 LP0
  cases b0 with
  | false =>
    clear hb0 HR
    go_wp2_with fail
    go_at_call 9
    (with_reducible refine (AW.out _).mono ?_)
    rintro e w9 ⟨rfl, hb9⟩
    have HE := Lib.hid (BB.out.go hb9).below
    clear hb9
    go_wp2
    go_ret
    exact ⟨rfl, HE.out⟩
  | true =>
    obtain ⟨L0, rfl, rfl, hG0⟩ := hb0 rfl
    clear hb0
    have HR := Lib.hid BB.out.now.1
    go_wp2_with (refine ldPG (by rfl) 4 rfl (w.heap.size + 1) (plC sa r sc ch ta tn tc na nn nc) (by rfl) HR.out rfl ?_)
    go_at_call 8
    (with_reducible refine (LP.out _ ?_).mono ?_)
    · exact HP.out.below BB.out.below
    rintro e w3 ⟨b, rfl, hb, hb3⟩
    have BB := Lib.hid (BB.out.go hb3)
    clear hb3 LP
    cases b with
    | false =>
      clear hb HR hG0
      go_wp2_with fail
      go_at_call 9
      (with_reducible refine (AW.out _).mono ?_)
      rintro e w9 ⟨rfl, hb9⟩
      have HE := Lib.hid (BB.out.go hb9).below
      clear hb9
      go_wp2
      go_ret
      exact ⟨rfl, HE.out⟩
    | true =>
      obtain ⟨L, rfl, rfl, hG⟩ := hb rfl
      clear hb
      have HR := Lib.hid BB.out.now.1
      have hGL := hG.le
      have hGL0 := hG0.le
      have h8 := hG.rank
      have h80 := hG0.rank
      have hin := hG.in64
      obtain ⟨nP, hnP⟩ : ∃ f, gP fB fS fT = f := ⟨_, rfl⟩
      obtain ⟨nQ, hnQ⟩ : ∃ f, gQ fB fS fT = f := ⟨_, rfl⟩
      obtain ⟨mP, hmP⟩ : ∃ f, gP fB0 fS0 fT0 = f := ⟨_, rfl⟩
      obtain ⟨mQ, hmQ⟩ : ∃ f, gQ fB0 fS0 fT0 = f := ⟨_, rfl⟩
      have OF0 := Lib.hid (fun wz h => of8_any (plC sb r0 scb ch0 tb (tnO ch0 L0) tcb nb (nnO ch0 L0) ncb) S0 r0 ch0 L0 g0 fB0 fS0 fT0 wz h hG0)
      have OF := Lib.hid (fun wz h => of8_any (plC sa r sc ch ta (tnO ch L) tc na (nnO ch L) nc) S r ch L g fB fS fT wz h hG)
      have hN0 := hG0.num
      have hq0 := hG0.pos
      rw [hmP, hmQ] at OF0 hN0
      rw [hmQ] at hq0
      rw [hnP, hnQ] at OF
      have hrE0 : ∀ o : Int, 0 ≤ o ∧ o ≤ 1 → tbE r0 ch0 L0 mP mQ r o = 0 → (cnN (toF mP o) r).toNat ≤ 8 ∧ (itm (mnF S (toF mP o) r) (cnN (toF mP o) r).toNat).toNat ≤ 1000000 := fun o _ e => by
        unfold tbE at e
        split at e
        · split at e
          · rename_i hlr
            split at e
            · rename_i hmv
              rw [hlr] at hmv
              obtain ⟨C, M, hC, hM, _, hs2⟩ := mv_good (S := S) hmv h8 hG.sh
              rw [hC, Int.toNat_natCast]
              have h3 := ax_bd (sh_ax hs2).2
              exact ⟨(sh_ax hs2).1, by omega⟩
            · omega
          · omega
        · rename_i hx
          exact absurd e hx
      obtain ⟨M1, hM1⟩ : ∃ M : Nat, itm (mnF S (rvT r) r) r = M := ⟨(itm (mnF S (rvT r) r) r).toNat, by have := ax_bd (sh_ax (rvT_shape hG.sh)).2; omega⟩
      have hM14 : M1 ≤ 1000000 := by have := ax_bd (sh_ax (rvT_shape hG.sh)).2; omega
      obtain ⟨S1, hS1⟩ : ∃ f, mnF S (rvT r) r = f := ⟨_, rfl⟩
      have hel2 := hG.els (mvG S (rvT r) r r) M1
      rw [hnP, hnQ] at hel2
      obtain ⟨g1, hg1⟩ : ∃ f : Nat → Int, (fun j => elC L g 32 (mvG S (rvT r) r r j)) = f := ⟨_, rfl⟩
      obtain ⟨P1, hP1⟩ : ∃ f : Nat → Int, (fun j => elP L nP (mvG S (rvT r) r r j)) = f := ⟨_, rfl⟩
      obtain ⟨Q1, hQ1⟩ : ∃ f : Nat → Nat, (fun j => elQ L nQ (mvG S (rvT r) r r j)) = f := ⟨_, rfl⟩
      obtain ⟨F1, hF1⟩ : ∃ f : Nat → Bool, (fun j => elB L fB (mvG S (rvT r) r r j)) = f := ⟨_, rfl⟩
      obtain ⟨U1, hU1⟩ : ∃ f : Nat → ByteArray, (fun j => elS L fS (rS 0) (mvG S (rvT r) r r j)) = f := ⟨_, rfl⟩
      obtain ⟨V1, hV1⟩ : ∃ f : Nat → ByteArray, (fun j => elS L fT (str (dec 1)) (mvG S (rvT r) r r j)) = f := ⟨_, rfl⟩
      rw [hP1, hQ1, hF1, hU1, hV1] at hel2
      have TR : Hid (∀ x wz, Arr wz x S r ch L g nP nQ → Calls Tryz.prog 26 #[.agg x] wz fun e w' => ∃ y, e = .returned (.agg y) ∧ Arr w' y S1 r ch M1 g1 P1 Q1 ∧ Below wz.heap.size wz w') := Lib.hid (fun x wz q => by
        have := transpose_any x S r ch L g nP nQ M1 wz q hin hG.sh hM1
        rw [hS1, hg1, hP1, hQ1] at this
        exact this)
      have TR2 : Hid (∀ wz, Pln wz (plC sa r sc ch ta (tnO ch L) tc na (nnO ch L) nc) S r ch L g fB fS fT → Calls Tryz.prog 27 #[.agg (plC sa r sc ch ta (tnO ch L) tc na (nnO ch L) nc)] wz fun e w' => ∃ y, e = .returned (.agg y) ∧ Pln w' y S1 r ch M1 g1 F1 U1 V1 ∧ Below wz.heap.size wz w') := Lib.hid (fun wz q => by
        have := rTranspose_any (plC sa r sc ch ta (tnO ch L) tc na (nnO ch L) nc) S r ch L g fB fS fT M1 wz q hG.sh hM1 (by omega)
        rw [hS1, hg1, hF1, hU1, hV1] at this
        exact this)
      have SO2 : Hid (∀ x p wz, Arr wz x S1 r ch M1 g1 P1 Q1 → Pln wz p S1 r ch M1 g1 F1 U1 V1 → Calls Tryz.prog 19 #[.agg x, .int .i64 0, .agg p, .int .i64 0] wz fun e w' => e = .returned (.bool true) ∧ Below wz.heap.size wz w') := Lib.hid (fun x p wz q z => by
        obtain ⟨za, zb, zc, zd, ze, zf, hz, _⟩ := z.form
        exact shows8_any x p 0 S1 r ch M1 g1 P1 Q1 F1 U1 V1 wz ⟨q.isA, fun _ => q, fun e => absurd rfl e⟩ ⟨⟨_, _, _, _, _, _, _, _, _, _, hz⟩, fun _ => z⟩ (fun _ => ⟨h8, hM14⟩) hel2)
      clear hM1 hM14 hS1 hel2 hg1 hP1 hQ1 hF1 hU1 hV1 hmP hmQ
      cases one with
      | false =>
        have TBE := hrE0 0 (by omega)
        obtain ⟨T, hTT⟩ : ∃ T, toF mP 0 = T := ⟨_, rfl⟩
        obtain ⟨CC, hCC⟩ : ∃ C, (cnN T r).toNat = C := ⟨_, rfl⟩
        obtain ⟨SE0, hSE0⟩ : ∃ F, mnF S T r = F := ⟨_, rfl⟩
        obtain ⟨MM, hMM⟩ : ∃ C, (itm SE0 CC).toNat = C := ⟨_, rfl⟩
        obtain ⟨E, hE⟩ : ∃ E, tbE r0 ch0 L0 mP mQ r 0 = E := ⟨_, rfl⟩
        obtain ⟨GG, hGG⟩ : ∃ f, mvG S T r CC = f := ⟨_, rfl⟩
        obtain ⟨gE, hgE⟩ : ∃ f : Nat → Int, (fun j => elC L g 32 (GG j)) = f := ⟨_, rfl⟩
        obtain ⟨PE, hPE⟩ : ∃ f : Nat → Int, (fun j => elP L nP (GG j)) = f := ⟨_, rfl⟩
        obtain ⟨QE, hQE⟩ : ∃ f : Nat → Nat, (fun j => elQ L nQ (GG j)) = f := ⟨_, rfl⟩
        obtain ⟨BE, hBE⟩ : ∃ f : Nat → Bool, (fun j => elB L fB (GG j)) = f := ⟨_, rfl⟩
        obtain ⟨SE, hSE⟩ : ∃ f : Nat → ByteArray, (fun j => elS L fS (rS 0) (GG j)) = f := ⟨_, rfl⟩
        obtain ⟨TE, hTE⟩ : ∃ f : Nat → ByteArray, (fun j => elS L fT (str (dec 1)) (GG j)) = f := ⟨_, rfl⟩
        have hel := hG.els GG MM
        rw [hnP, hnQ, hPE, hQE, hBE, hSE, hTE] at hel
        rw [hE, hTT, hCC, hSE0, hMM] at TBE
        have TB : Hid (∀ x0 x wz, Arr wz x0 S0 r0 ch0 L0 g0 mP mQ → Arr wz x S r ch L g nP nQ → Calls Tryz.prog 24 #[.agg x0, .agg x, .int .i64 0] wz fun e w' => ∃ y, e = .returned (.tuple #[.agg y, .int .i64 E]) ∧ MoR w' y E SE0 CC ch MM gE PE QE ∧ Below wz.heap.size wz w') := Lib.hid (fun x0 x wz q0 q =>
          (transposeBy_any x0 S0 r0 ch0 L0 g0 mP mQ x S r ch L g nP nQ 0 wz q0 q h80 hq0 (by omega) hin hG.sh (by omega)).mono (by
            intro e w' hq
            have := hq.res
            rw [hE, hTT, hCC, hSE0, hMM, hGG, hgE, hPE, hQE] at this
            exact this))
        have TB2 : Hid (∀ wz, Pln wz (plC sb r0 scb ch0 tb (tnO ch0 L0) tcb nb (nnO ch0 L0) ncb) S0 r0 ch0 L0 g0 fB0 fS0 fT0 → Pln wz (plC sa r sc ch ta (tnO ch L) tc na (nnO ch L) nc) S r ch L g fB fS fT → Calls Tryz.prog 25 #[.agg (plC sb r0 scb ch0 tb (tnO ch0 L0) tcb nb (nnO ch0 L0) ncb), .agg (plC sa r sc ch ta (tnO ch L) tc na (nnO ch L) nc), .int .i64 0] wz fun e w' => ∃ y, e = .returned (.tuple #[.agg y, .int .i64 E]) ∧ PoR w' y E SE0 CC ch MM gE BE SE TE ∧ Below wz.heap.size wz w') := Lib.hid (fun wz q0 q =>
          (rTransposeBy_any (plC sb r0 scb ch0 tb (tnO ch0 L0) tcb nb (nnO ch0 L0) ncb) S0 r0 ch0 L0 g0 fB0 fS0 fT0 mP mQ (plC sa r sc ch ta (tnO ch L) tc na (nnO ch L) nc) S r ch L g fB fS fT 0 wz q0 q hN0 (by omega) hG.sh (by omega) (by omega)).mono (by
            intro e w' hq
            have := hq.res
            rw [hE, hTT, hCC, hSE0, hMM, hGG, hgE, hBE, hSE, hTE] at this
            exact this))
        have SO1 := Lib.hid (fun x p wz (q : MoR wz x E SE0 CC ch MM gE PE QE) (z : PoR wz p E SE0 CC ch MM gE BE SE TE) => shows8_any x p E SE0 CC ch MM gE PE QE BE SE TE wz q z TBE hel)
        clear hin hN0 hq0 hel TBE hrE0 hTT hCC hSE0 hMM hE hGG hgE hPE hQE hBE hSE hTE hnP hnQ hG hG0 hGL hGL0 h8 h80
        go_wp2_with fail
        obtain ⟨Y6, hY6⟩ : ∃ y, y = w3 := ⟨_, rfl⟩
        subst hY6
        have RWP : Hid (∀ yz, Below Y6.heap.size Y6 yz → Row yz (w.heap.size + 1) 26 (plC sa r sc ch ta (tnO ch L) tc na (nnO ch L) nc)) := Lib.hid (fun yz hb => Row.below BB.out.now.1 hb)
        have RWB : Hid (∀ yz, Below Y6.heap.size Y6 yz → Row yz w.heap.size 26 (plC sb r0 scb ch0 tb (tnO ch0 L0) tcb nb (nnO ch0 L0) ncb)) := Lib.hid (fun yz hb => Row.below BB.out.now.2.1 hb)
        have BB := Lib.hid (Bag.fresh BB.out.below)
        clear HR
        refine wp_region_inv2 ⟨(fun j => ([[23], [24], [25], [26], [27], [28], [22], [29], [30], [8], [8], [9]] : List (List Nat)).getD j []), (fun j => ([[], [0], [], [0, 1, 2], [], [0, 1, 2, 3, 4], [0, 1, 2, 3, 4, 5], [0, 1, 2, 3, 4, 5, 6], [0, 1, 2, 3, 4, 5, 6], [], [0, 1, 2, 3, 4, 5, 6, 7, 9], [0, 1, 2, 3, 4, 5, 6, 7, 8, 9, 10]] : List (List Nat)).getD j []), [9]⟩ (fun jj vv yy => match jj with | 0 => vv = [some (.agg (plC sb r0 scb ch0 tb (tnO ch0 L0) tcb nb (nnO ch0 L0) ncb))] | 1 => ∃ (x1 : Array Value), vv = [some (.agg x1)] ∧ Arr yy x1 S0 r0 ch0 L0 g0 mP mQ | 2 => vv = [some (.agg (plC sa r sc ch ta (tnO ch L) tc na (nnO ch L) nc))] | 3 => ∃ (x3 : Array Value), vv = [some (.agg x3)] ∧ Arr yy x3 S r ch L g nP nQ | 4 => vv = [some (.int .i64 0)] | 5 => ∃ (x5 : Array Value), vv = [some (.tuple #[.agg x5, .int .i64 E])] ∧ MoR yy x5 E SE0 CC ch MM gE PE QE ∧ IsA x5 | 6 => ∃ (x5 : Array Value), vv = [some (.tuple #[.agg x5, .int .i64 E])] ∧ MoR yy x5 E SE0 CC ch MM gE PE QE ∧ IsA x5 | 7 => ∃ (x5 : Array Value), vv = [some (.agg x5)] ∧ MoR yy x5 E SE0 CC ch MM gE PE QE ∧ IsA x5 | 8 => vv = [some (.int .i64 E)] | 9 => ∃ (k9 : Nat), ∃ (z9 : Array Value), vv = [some (.pointer (some ⟨k9, 0, none⟩))] ∧ Row yy k9 34 z9 ∧ IsA z9 ∧ Y6.heap.size ≤ k9 | 10 => ∃ (k9 : Nat), ∃ (x5 : Array Value), vv = [some (.pointer (some ⟨k9, 0, none⟩))] ∧ Row yy k9 34 x5 ∧ MoR yy x5 E SE0 CC ch MM gE PE QE ∧ IsA x5 | 11 => vv = [some (.int .i64 E)] | _ => True) (Bag Y6 (fun _ => True)) (by kernel_rfl) (by kernel_rfl) (by kernel_rfl) (Bag.start Y6).drew ?_ ?_ ?_
        · intro jj vv yw yw2 hb h
          match jj, h with
          | 0, h => exact h
          | 1, ⟨x1, e1, g1_0⟩ => exact Exists.intro x1 (And.intro e1 (g1_0.below hb))
          | 2, h => exact h
          | 3, ⟨x3, e3, g3_0⟩ => exact Exists.intro x3 (And.intro e3 (g3_0.below hb))
          | 4, h => exact h
          | 5, ⟨x5, e5, g5_0, g5_1⟩ => exact Exists.intro x5 (And.intro e5 (And.intro (g5_0.below hb) g5_1))
          | 6, ⟨x5, e6, g6_0, g6_1⟩ => exact Exists.intro x5 (And.intro e6 (And.intro (g6_0.below hb) g6_1))
          | 7, ⟨x5, e7, g7_0, g7_1⟩ => exact Exists.intro x5 (And.intro e7 (And.intro (g7_0.below hb) g7_1))
          | 8, h => exact h
          | 9, ⟨k9, z9, e9, g9_0, g9_1, g9_2⟩ => exact Exists.intro k9 (Exists.intro z9 (And.intro e9 (And.intro (g9_0.below hb) (And.intro g9_1 g9_2))))
          | 10, ⟨k9, x5, e10, g10_0, g10_1, g10_2⟩ => exact Exists.intro k9 (Exists.intro x5 (And.intro e10 (And.intro (g10_0.below hb) (And.intro (g10_1.below hb) g10_2))))
          | 11, h => exact h
          | _ + 12, h => exact h
        · intro ac yw hsz hdf hold hB hp
          obtain ⟨k9, x5, e10, r10, a10, i10⟩ := hp 10 (by decide)
          have t8 : ac.tmps[8]? = some (.pointer (some ⟨k9, 0, none⟩)) := (List.cons.inj e10).1
          have t9 : ac.tmps[9]? = some (.int .i64 E) := (List.cons.inj (hp 11 (by decide))).1
          have t3 : ac.tmps[3]? = some (.pointer (some ⟨w.heap.size, 0, none⟩)) := hold 3 (by kernel_rfl)
          have t4 : ac.tmps[4]? = some (.pointer (some ⟨w.heap.size + 1, 0, none⟩)) := hold 4 (by kernel_rfl)
          have t7 : ac.tmps[7]? = some (.int .i64 0) := hold 7 (by kernel_rfl)
          have HRB := Lib.hid (RWB.out _ hB.below)
          have HRP := Lib.hid (RWP.out _ hB.below)
          have BB := Lib.hid (BB.out.go hB.below)
          have HM := Lib.hid a10
          have SZ := Lib.hid i10
          have HR := Lib.hid r10
          clear hold hp e10 r10 a10 i10 hB RWB RWP
          obtain ⟨TW, hTW⟩ : ∃ TW : Nat → Value, ∀ i, (ac.tmps[i]?).getD undef = TW i := ⟨_, fun _ => rfl⟩
          have f3 := (hTW 3).symm.trans (congrArg (fun x => Option.getD x undef) t3)
          have f4 := (hTW 4).symm.trans (congrArg (fun x => Option.getD x undef) t4)
          have f7 := (hTW 7).symm.trans (congrArg (fun x => Option.getD x undef) t7)
          have f8 := (hTW 8).symm.trans (congrArg (fun x => Option.getD x undef) t8)
          have f9 := (hTW 9).symm.trans (congrArg (fun x => Option.getD x undef) t9)
          have hac := act_eq (n := 54) hsz TW hTW
          rw [show ((List.range 54).map TW).toArray = #[TW 0, TW 1, TW 2, TW 3, TW 4, TW 5, TW 6, TW 7, TW 8, TW 9, TW 10, TW 11, TW 12, TW 13, TW 14, TW 15, TW 16, TW 17, TW 18, TW 19, TW 20, TW 21, TW 22, TW 23, TW 24, TW 25, TW 26, TW 27, TW 28, TW 29, TW 30, TW 31, TW 32, TW 33, TW 34, TW 35, TW 36, TW 37, TW 38, TW 39, TW 40, TW 41, TW 42, TW 43, TW 44, TW 45, TW 46, TW 47, TW 48, TW 49, TW 50, TW 51, TW 52, TW 53] from rfl, f3, f4, f7, f8, f9, hdf] at hac
          simp only [Option.getD_some] at hac
          subst hac
          clear hTW f3 f4 f7 f8 f9
          go_wp2_with (first
            | (refine ld_pln rfl (.tmp 3) rfl (w.heap.size) rfl HRB.out ?_)
            | (refine ld_pln rfl (.tmp 4) rfl (w.heap.size + 1) rfl HRP.out ?_))
          go_at_call 25
          (refine (TB2.out _ (HP0.out.below BB.out.below) (HP.out.below BB.out.below)).mono ?_)
          rintro e w8 ⟨p8, rfl, h8, hb8⟩
          obtain ⟨qa, qn, qc, qh, qt, qtn, qtc, qr, qrn, qrc, hp8⟩ := h8.1
          subst hp8
          have hZ : Below w8.heap.size w8 ((w8.alloc (.cells plZer 26)).setRow w8.heap.size (plC qa qn qc qh qt qtn qtc qr qrn qrc)) := below_put ((Below.refl _ w8).alloc (Nat.le_refl _) (.cells plZer 26)) (Nat.le_refl _) (plC qa qn qc qh qt qtn qtc qr qrn qrc)
          have HZ : Hid (Row (w8.alloc (.cells plZer 26)) w8.heap.size 26 plZer) := Lib.hid (Row.new w8 _ plZer)
          have HRX := Lib.hid (HZ.out.put (plC qa qn qc qh qt qtn qtc qr qrn qrc))
          have HX := Lib.hid (h8.below hZ)
          have HM := Lib.hid ((HM.out.below hb8).below hZ)
          have HR := Lib.hid ((HR.out.below hb8).below hZ)
          have HRP := Lib.hid ((HRP.out.below hb8).below hZ)
          have BB := Lib.hid ((BB.out.go hb8).go hZ)
          clear h8 hb8 hZ HRB
          go_wp2_with (refine st_pln rfl (.tmp 10) (.tmp 36) rfl w8.heap.size rfl _ _ _ _ _ _ _ _ _ _ rfl HZ.out rfl ?_)
          generalize hW : (World.setRow _ _ _) = Y8
          have RWP : Hid (∀ yz, Below Y8.heap.size Y8 yz → Row yz (w.heap.size + 1) 26 (plC sa r sc ch ta (tnO ch L) tc na (nnO ch L) nc)) := by
            subst hW
            exact Lib.hid (fun yz hb => Row.below HRP.out hb)
          have RW8 : Hid (∀ yz, Below Y8.heap.size Y8 yz → Row yz k9 34 x5) := by
            subst hW
            exact Lib.hid (fun yz hb => Row.below HR.out hb)
          have RW10 : Hid (∀ yz, Below Y8.heap.size Y8 yz → Row yz w8.heap.size 26 (plC qa qn qc qh qt qtn qtc qr qrn qrc)) := by
            subst hW
            exact Lib.hid (fun yz hb => Row.below HRX.out hb)
          have M8 : Hid (∀ yz, Below Y8.heap.size Y8 yz → MoR yz x5 E SE0 CC ch MM gE PE QE) := by
            subst hW
            exact Lib.hid (fun yz hb => MoR.below HM.out hb)
          have X8 : Hid (∀ yz, Below Y8.heap.size Y8 yz → PoR yz (plC qa qn qc qh qt qtn qtc qr qrn qrc) E SE0 CC ch MM gE BE SE TE) := by
            subst hW
            exact Lib.hid (fun yz hb => PoR.below HX.out hb)
          have SZ10 : Hid (IsP (plC qa qn qc qh qt qtn qtc qr qrn qrc)) := Lib.hid ⟨_, _, _, _, _, _, _, _, _, _, rfl⟩
          have BB : Hid (Bag w (fun _ => True) Y8) := by
            subst hW
            exact Lib.hid (Bag.fresh BB.out.below)
          clear hW HR HRX HM HX HZ HRP
          generalize (plC qa qn qc qh qt qtn qtc qr qrn qrc) = P10 at RW10 X8 SZ10
          refine wp_region_inv2 ⟨(fun j => ([[38], [39], [40], [41], [42], [43], [44], [45], [46], [47], [48], [49], [50], [51], [52], [53], [6]] : List (List Nat)).getD j []), (fun j => ([[], [], [], [], [0, 1, 2, 3], [0, 1, 2, 3, 4], [0, 1, 2, 3, 4, 5], [0, 1, 2, 3, 4, 5, 6], [0, 1, 2, 3, 4, 5, 6, 7], [0, 1, 2, 3, 4, 5], [0, 1, 2, 3, 4, 5, 6, 7, 8, 9], [0, 1, 2, 3, 4, 5, 6, 7, 8, 9, 10], [0, 1, 2, 3, 4, 5, 6, 7, 8, 9, 10, 11], [0, 1, 2, 3, 4, 5, 6, 7, 8, 9, 10, 11, 12], [0, 1, 2, 3, 4, 5, 6, 7, 8, 9, 10, 11, 12, 13], [0, 1, 2, 3, 4, 5, 6, 7, 8, 9, 10, 11, 12, 13, 14], [0, 1, 2, 3, 4, 5, 6, 7, 8, 9, 10, 11, 12, 13, 14, 15]] : List (List Nat)).getD j []), []⟩ (fun jj vv yy => match jj with | 0 => vv = [some (.agg x5)] | 1 => vv = [some (.int .i64 E)] | 2 => vv = [some (.agg P10)] | 3 => vv = [some (.int .i64 E)] | 4 => vv = [some (.bool true)] | 5 => vv = [some (.bool true)] | 6 => vv = [some (.agg (plC sa r sc ch ta (tnO ch L) tc na (nnO ch L) nc))] | 7 => ∃ (x7 : Array Value), vv = [some (.agg x7)] ∧ Arr yy x7 S r ch L g nP nQ | 8 => ∃ (x8 : Array Value), vv = [some (.agg x8)] ∧ Arr yy x8 S1 r ch M1 g1 P1 Q1 | 9 => vv = [some (.agg (plC sa r sc ch ta (tnO ch L) tc na (nnO ch L) nc))] | 10 => ∃ (x10 : Array Value), vv = [some (.agg x10)] ∧ Pln yy x10 S1 r ch M1 g1 F1 U1 V1 | 11 => vv = [some (.bool true)] | 12 => vv = [some (.bool true)] | 13 => vv = [some (.bool true)] | 14 => vv = [some (.bool true)] | 15 => vv = [some (.bool true)] | 16 => vv = [some (.bool true)] | _ => True) (Bag Y8 (fun _ => True)) (by kernel_rfl) (by kernel_rfl) (by kernel_rfl) (Bag.start Y8).drew ?_ ?_ ?_
          · intro jj vv yw yw2 hb h
            match jj, h with
            | 0, h => exact h
            | 1, h => exact h
            | 2, h => exact h
            | 3, h => exact h
            | 4, h => exact h
            | 5, h => exact h
            | 6, h => exact h
            | 7, ⟨x7, e7, g7_0⟩ => exact Exists.intro x7 (And.intro e7 (g7_0.below hb))
            | 8, ⟨x8, e8, g8_0⟩ => exact Exists.intro x8 (And.intro e8 (g8_0.below hb))
            | 9, h => exact h
            | 10, ⟨x10, e10, g10_0⟩ => exact Exists.intro x10 (And.intro e10 (g10_0.below hb))
            | 11, h => exact h
            | 12, h => exact h
            | 13, h => exact h
            | 14, h => exact h
            | 15, h => exact h
            | 16, h => exact h
            | _ + 17, h => exact h
          · intro ac yw hsz hdf hold hB hp
            have t6 : ac.tmps[6]? = some (.bool true) := (List.cons.inj (hp 16 (by decide))).1
            have HE := Lib.hid (BB.out.go hB.below).below
            clear hold hp hB
            obtain ⟨TX, hTX⟩ : ∃ TX : Nat → Value, ∀ i, (ac.tmps[i]?).getD undef = TX i := ⟨_, fun _ => rfl⟩
            have f6 := (hTX 6).symm.trans (congrArg (fun x => Option.getD x undef) t6)
            have hac := act_eq (n := 54) hsz TX hTX
            rw [show ((List.range 54).map TX).toArray = #[TX 0, TX 1, TX 2, TX 3, TX 4, TX 5, TX 6, TX 7, TX 8, TX 9, TX 10, TX 11, TX 12, TX 13, TX 14, TX 15, TX 16, TX 17, TX 18, TX 19, TX 20, TX 21, TX 22, TX 23, TX 24, TX 25, TX 26, TX 27, TX 28, TX 29, TX 30, TX 31, TX 32, TX 33, TX 34, TX 35, TX 36, TX 37, TX 38, TX 39, TX 40, TX 41, TX 42, TX 43, TX 44, TX 45, TX 46, TX 47, TX 48, TX 49, TX 50, TX 51, TX 52, TX 53] from rfl, f6, hdf] at hac
            simp only [Option.getD_some] at hac
            subst hac
            clear hTX f6
            go_wp2
            go_ret
            exact ⟨rfl, HE.out⟩
          refine Stps2.cons (o := _) ?_ ?_
          · intro ac yw hsz hold hB hp K hK
            have t8 : ac.tmps[8]? = some (.pointer (some ⟨k9, 0, none⟩)) := hold 8 (by kernel_rfl)
            clear hold hp hsz
            rw [if_pos (by rfl)]
            refine ld8 8 rfl (k9) (x5) t8 (RW8.out _ hB.below) (SZ.out.size) ?_
            exact hK.out _ _ ⟨hB, rfl, Nat.le_refl _, .inl (Below.refl _ _), fun h => absurd h (by decide)⟩
          refine Stps2.cons (o := _) ?_ ?_
          · intro ac yw hsz hold hB hp K hK
            have t9 : ac.tmps[9]? = some (.int .i64 E) := hold 9 (by kernel_rfl)
            clear hold hp hsz
            go_simp
            exact hK.out _ _ ⟨hB, rfl, Nat.le_refl _, .inl (Below.refl _ _), fun h => absurd h (by decide)⟩
          refine Stps2.cons (o := _) ?_ ?_
          · intro ac yw hsz hold hB hp K hK
            have t10 : ac.tmps[10]? = some (.pointer (some ⟨w8.heap.size, 0, none⟩)) := hold 10 (by kernel_rfl)
            clear hold hp hsz
            rw [if_pos (by rfl)]
            refine ldP 10 rfl (w8.heap.size) (P10) t10 (RW10.out _ hB.below) (SZ10.out.size) ?_
            exact hK.out _ _ ⟨hB, rfl, Nat.le_refl _, .inl (Below.refl _ _), fun h => absurd h (by decide)⟩
          refine Stps2.cons (o := _) ?_ ?_
          · intro ac yw hsz hold hB hp K hK
            have t11 : ac.tmps[11]? = some (.int .i64 E) := hold 11 (by kernel_rfl)
            clear hold hp hsz
            go_simp
            exact hK.out _ _ ⟨hB, rfl, Nat.le_refl _, .inl (Below.refl _ _), fun h => absurd h (by decide)⟩
          refine Stps2.cons (o := _) ?_ ?_
          · intro ac yw hsz hold hB hp K hK
            have e0 := hp 0 (by decide)
            have t38 : ac.tmps[38]? = some (.agg x5) := (List.cons.inj e0).1
            have e1 := hp 1 (by decide)
            have t39 : ac.tmps[39]? = some (.int .i64 E) := (List.cons.inj e1).1
            have e2 := hp 2 (by decide)
            have t40 : ac.tmps[40]? = some (.agg P10) := (List.cons.inj e2).1
            have e3 := hp 3 (by decide)
            have t41 : ac.tmps[41]? = some (.int .i64 E) := (List.cons.inj e3).1
            clear hold hp hsz e0 e1 e2 e3
            go_simp
            (go_at_call 19; (refine (SO1.out _ _ _ (M8.out _ hB.below) (X8.out _ hB.below)).mono ?_); rintro e wz ⟨rfl, hbz⟩)
            exact hK.out _ _ ⟨hB.go hbz, rfl, hbz.size, .inl hbz, fun h => absurd h (by decide)⟩
          refine Stps2.cons (o := _) ?_ ?_
          · intro ac yw hsz hold hB hp K hK
            have e4 := hp 4 (by decide)
            have t42 : ac.tmps[42]? = some (.bool true) := (List.cons.inj e4).1
            clear hold hp hsz e4
            go_simp
            exact hK.out _ _ ⟨hB, rfl, Nat.le_refl _, .inl (Below.refl _ _), fun h => absurd h (by decide)⟩
          refine Stps2.cons (o := _) ?_ ?_
          · intro ac yw hsz hold hB hp K hK
            have t43 : ac.tmps[43]? = some (.bool true) := (List.cons.inj (hp 5 (by decide))).1
            rw [if_pos (wanted_pos rfl rfl t43)]
            have t4 : ac.tmps[4]? = some (.pointer (some ⟨w.heap.size + 1, 0, none⟩)) := hold 4 (by kernel_rfl)
            clear hold hp hsz
            refine ldP 4 rfl (w.heap.size + 1) ((plC sa r sc ch ta (tnO ch L) tc na (nnO ch L) nc)) t4 (RWP.out _ hB.below) (rfl) ?_
            exact hK.out _ _ ⟨hB, rfl, Nat.le_refl _, .inl (Below.refl _ _), fun h => absurd h (by decide)⟩
          refine Stps2.cons (o := _) ?_ ?_
          · intro ac yw hsz hold hB hp K hK
            have t43 : ac.tmps[43]? = some (.bool true) := (List.cons.inj (hp 5 (by decide))).1
            rw [if_pos (wanted_pos rfl rfl t43)]
            have e6 := hp 6 (by decide)
            have t44 : ac.tmps[44]? = some (.agg (plC sa r sc ch ta (tnO ch L) tc na (nnO ch L) nc)) := (List.cons.inj e6).1
            clear hold hp hsz e6
            go_simp
            (go_at_call 11; (refine (OF.out _ (HP.out.below (BB.out.go hB.below).below)).mono ?_); rintro e wz ⟨x7, rfl, h7_0, hbz⟩)
            exact hK.out _ _ ⟨hB.go hbz, Exists.intro x7 (And.intro rfl h7_0), hbz.size, .inl hbz, fun h => absurd h (by decide)⟩
          refine Stps2.cons (o := _) ?_ ?_
          · intro ac yw hsz hold hB hp K hK
            have t43 : ac.tmps[43]? = some (.bool true) := (List.cons.inj (hp 5 (by decide))).1
            rw [if_pos (wanted_pos rfl rfl t43)]
            obtain ⟨x7_7, e7, g7_0⟩ := hp 7 (by decide)
            have t45 : ac.tmps[45]? = some (.agg x7_7) := (List.cons.inj e7).1
            clear hold hp hsz e7
            go_simp
            (go_at_call 26; (refine (TR.out _ _ g7_0).mono ?_); rintro e wz ⟨x8, rfl, h8_0, hbz⟩)
            exact hK.out _ _ ⟨hB.go hbz, Exists.intro x8 (And.intro rfl h8_0), hbz.size, .inl hbz, fun h => absurd h (by decide)⟩
          refine Stps2.cons (o := _) ?_ ?_
          · intro ac yw hsz hold hB hp K hK
            have t43 : ac.tmps[43]? = some (.bool true) := (List.cons.inj (hp 5 (by decide))).1
            rw [if_pos (wanted_pos rfl rfl t43)]
            have t4 : ac.tmps[4]? = some (.pointer (some ⟨w.heap.size + 1, 0, none⟩)) := hold 4 (by kernel_rfl)
            clear hold hp hsz
            refine ldP 4 rfl (w.heap.size + 1) ((plC sa r sc ch ta (tnO ch L) tc na (nnO ch L) nc)) t4 (RWP.out _ hB.below) (rfl) ?_
            exact hK.out _ _ ⟨hB, rfl, Nat.le_refl _, .inl (Below.refl _ _), fun h => absurd h (by decide)⟩
          refine Stps2.cons (o := _) ?_ ?_
          · intro ac yw hsz hold hB hp K hK
            have t43 : ac.tmps[43]? = some (.bool true) := (List.cons.inj (hp 5 (by decide))).1
            rw [if_pos (wanted_pos rfl rfl t43)]
            have e9 := hp 9 (by decide)
            have t47 : ac.tmps[47]? = some (.agg (plC sa r sc ch ta (tnO ch L) tc na (nnO ch L) nc)) := (List.cons.inj e9).1
            clear hold hp hsz e9
            go_simp
            (go_at_call 27; (refine (TR2.out _ (HP.out.below (BB.out.go hB.below).below)).mono ?_); rintro e wz ⟨x10, rfl, h10_0, hbz⟩)
            exact hK.out _ _ ⟨hB.go hbz, Exists.intro x10 (And.intro rfl h10_0), hbz.size, .inl hbz, fun h => absurd h (by decide)⟩
          refine Stps2.cons (o := _) ?_ ?_
          · intro ac yw hsz hold hB hp K hK
            have t43 : ac.tmps[43]? = some (.bool true) := (List.cons.inj (hp 5 (by decide))).1
            rw [if_pos (wanted_pos rfl rfl t43)]
            obtain ⟨x8_8, e8, g8_0⟩ := hp 8 (by decide)
            have t46 : ac.tmps[46]? = some (.agg x8_8) := (List.cons.inj e8).1
            obtain ⟨x10_10, e10, g10_0⟩ := hp 10 (by decide)
            have t48 : ac.tmps[48]? = some (.agg x10_10) := (List.cons.inj e10).1
            clear hold hp hsz e8 e10
            go_simp
            (go_at_call 19; (refine (SO2.out _ _ _ g8_0 g10_0).mono ?_); rintro e wz ⟨rfl, hbz⟩)
            exact hK.out _ _ ⟨hB.go hbz, rfl, hbz.size, .inl hbz, fun h => absurd h (by decide)⟩
          refine Stps2.cons (o := _) ?_ ?_
          · intro ac yw hsz hold hB hp K hK
            have e5 := hp 5 (by decide)
            have t43 : ac.tmps[43]? = some (.bool true) := (List.cons.inj e5).1
            have e11 := hp 11 (by decide)
            have t49 : ac.tmps[49]? = some (.bool true) := (List.cons.inj e11).1
            clear hold hp hsz e5 e11
            go_simp
            exact hK.out _ _ ⟨hB, rfl, Nat.le_refl _, .inl (Below.refl _ _), fun h => absurd h (by decide)⟩
          refine Stps2.cons (o := _) ?_ ?_
          · intro ac yw hsz hold hB hp K hK
            have e12 := hp 12 (by decide)
            have t50 : ac.tmps[50]? = some (.bool true) := (List.cons.inj e12).1
            clear hold hp hsz e12
            go_simp
            exact hK.out _ _ ⟨hB, rfl, Nat.le_refl _, .inl (Below.refl _ _), fun h => absurd h (by decide)⟩
          refine Stps2.cons (o := _) ?_ ?_
          · intro ac yw hsz hold hB hp K hK
            have t51 : ac.tmps[51]? = some (.bool true) := (List.cons.inj (hp 13 (by decide))).1
            rw [if_pos (wanted_pos rfl rfl t51)]
            clear hold hp hsz
            go_simp
            (go_at_call 9; (with_reducible refine (AW.out _).mono ?_); rintro e wz ⟨rfl, hbz⟩)
            exact hK.out _ _ ⟨hB.go hbz, rfl, hbz.size, .inl hbz, fun h => absurd h (by decide)⟩
          refine Stps2.cons (o := _) ?_ ?_
          · intro ac yw hsz hold hB hp K hK
            have e13 := hp 13 (by decide)
            have t51 : ac.tmps[51]? = some (.bool true) := (List.cons.inj e13).1
            have e14 := hp 14 (by decide)
            have t52 : ac.tmps[52]? = some (.bool true) := (List.cons.inj e14).1
            clear hold hp hsz e13 e14
            go_simp
            exact hK.out _ _ ⟨hB, rfl, Nat.le_refl _, .inl (Below.refl _ _), fun h => absurd h (by decide)⟩
          refine Stps2.cons (o := _) ?_ ?_
          · intro ac yw hsz hold hB hp K hK
            have e15 := hp 15 (by decide)
            have t53 : ac.tmps[53]? = some (.bool true) := (List.cons.inj e15).1
            clear hold hp hsz e15
            go_simp
            exact hK.out _ _ ⟨hB, rfl, Nat.le_refl _, .inl (Below.refl _ _), fun h => absurd h (by decide)⟩
          exact Stps2.nil _
        refine Stps2.cons (o := _) ?_ ?_
        · intro ac yw hsz hold hB hp K hK
          have t3 : ac.tmps[3]? = some (.pointer (some ⟨w.heap.size, 0, none⟩)) := hold 3 (by kernel_rfl)
          clear hold hp hsz
          rw [if_pos (by rfl)]
          refine ldP 3 rfl (w.heap.size) ((plC sb r0 scb ch0 tb (tnO ch0 L0) tcb nb (nnO ch0 L0) ncb)) t3 (RWB.out _ hB.below) (rfl) ?_
          exact hK.out _ _ ⟨hB, rfl, Nat.le_refl _, .inl (Below.refl _ _), fun h => absurd h (by decide)⟩
        refine Stps2.cons (o := _) ?_ ?_
        · intro ac yw hsz hold hB hp K hK
          have e0 := hp 0 (by decide)
          have t23 : ac.tmps[23]? = some (.agg (plC sb r0 scb ch0 tb (tnO ch0 L0) tcb nb (nnO ch0 L0) ncb)) := (List.cons.inj e0).1
          clear hold hp hsz e0
          go_simp
          (go_at_call 11; (refine (OF0.out _ (HP0.out.below (BB.out.go hB.below).below)).mono ?_); rintro e wz ⟨x1, rfl, h1_0, hbz⟩)
          exact hK.out _ _ ⟨hB.go hbz, Exists.intro x1 (And.intro rfl h1_0), hbz.size, .inl hbz, fun h => absurd h (by decide)⟩
        refine Stps2.cons (o := _) ?_ ?_
        · intro ac yw hsz hold hB hp K hK
          have t4 : ac.tmps[4]? = some (.pointer (some ⟨w.heap.size + 1, 0, none⟩)) := hold 4 (by kernel_rfl)
          clear hold hp hsz
          rw [if_pos (by rfl)]
          refine ldP 4 rfl (w.heap.size + 1) ((plC sa r sc ch ta (tnO ch L) tc na (nnO ch L) nc)) t4 (RWP.out _ hB.below) (rfl) ?_
          exact hK.out _ _ ⟨hB, rfl, Nat.le_refl _, .inl (Below.refl _ _), fun h => absurd h (by decide)⟩
        refine Stps2.cons (o := _) ?_ ?_
        · intro ac yw hsz hold hB hp K hK
          have e2 := hp 2 (by decide)
          have t25 : ac.tmps[25]? = some (.agg (plC sa r sc ch ta (tnO ch L) tc na (nnO ch L) nc)) := (List.cons.inj e2).1
          clear hold hp hsz e2
          go_simp
          (go_at_call 11; (refine (OF.out _ (HP.out.below (BB.out.go hB.below).below)).mono ?_); rintro e wz ⟨x3, rfl, h3_0, hbz⟩)
          exact hK.out _ _ ⟨hB.go hbz, Exists.intro x3 (And.intro rfl h3_0), hbz.size, .inl hbz, fun h => absurd h (by decide)⟩
        refine Stps2.cons (o := _) ?_ ?_
        · intro ac yw hsz hold hB hp K hK
          have t7 : ac.tmps[7]? = some (.int .i64 0) := hold 7 (by kernel_rfl)
          clear hold hp hsz
          go_simp
          exact hK.out _ _ ⟨hB, rfl, Nat.le_refl _, .inl (Below.refl _ _), fun h => absurd h (by decide)⟩
        refine Stps2.cons (o := _) ?_ ?_
        · intro ac yw hsz hold hB hp K hK
          obtain ⟨x1_1, e1, g1_0⟩ := hp 1 (by decide)
          have t24 : ac.tmps[24]? = some (.agg x1_1) := (List.cons.inj e1).1
          obtain ⟨x3_3, e3, g3_0⟩ := hp 3 (by decide)
          have t26 : ac.tmps[26]? = some (.agg x3_3) := (List.cons.inj e3).1
          have e4 := hp 4 (by decide)
          have t27 : ac.tmps[27]? = some (.int .i64 0) := (List.cons.inj e4).1
          clear hold hp hsz e1 e3 e4
          go_simp
          (go_at_call 24; (refine (TB.out _ _ _ g1_0 g3_0).mono ?_); rintro e wz ⟨x5, rfl, h5_0, hbz⟩)
          exact hK.out _ _ ⟨hB.go hbz, Exists.intro x5 (And.intro rfl (And.intro h5_0 h5_0.1)), hbz.size, .inl hbz, fun h => absurd h (by decide)⟩
        refine Stps2.cons (o := _) ?_ ?_
        · intro ac yw hsz hold hB hp K hK
          obtain ⟨x5_5, e5, g5_0, g5_1⟩ := hp 5 (by decide)
          have t28 : ac.tmps[28]? = some (.tuple #[.agg x5_5, .int .i64 E]) := (List.cons.inj e5).1
          clear hold hp hsz e5
          go_simp
          exact hK.out _ _ ⟨hB, Exists.intro x5_5 (And.intro rfl (And.intro g5_0 g5_1)), Nat.le_refl _, .inl (Below.refl _ _), fun h => absurd h (by decide)⟩
        refine Stps2.cons (o := _) ?_ ?_
        · intro ac yw hsz hold hB hp K hK
          obtain ⟨x5_6, e6, g6_0, g6_1⟩ := hp 6 (by decide)
          have t22 : ac.tmps[22]? = some (.tuple #[.agg x5_6, .int .i64 E]) := (List.cons.inj e6).1
          clear hold hp hsz e6
          go_simp
          exact hK.out _ _ ⟨hB, Exists.intro x5_6 (And.intro rfl (And.intro g6_0 g6_1)), Nat.le_refl _, .inl (Below.refl _ _), fun h => absurd h (by decide)⟩
        refine Stps2.cons (o := _) ?_ ?_
        · intro ac yw hsz hold hB hp K hK
          obtain ⟨x5_6, e6, g6_0, g6_1⟩ := hp 6 (by decide)
          have t22 : ac.tmps[22]? = some (.tuple #[.agg x5_6, .int .i64 E]) := (List.cons.inj e6).1
          clear hold hp hsz e6
          go_simp
          exact hK.out _ _ ⟨hB, rfl, Nat.le_refl _, .inl (Below.refl _ _), fun h => absurd h (by decide)⟩
        refine Stps2.cons (o := _) ?_ ?_
        · intro ac yw hsz hold hB hp K hK
          clear hold hp hsz
          have hbz : Below yw.heap.size yw (yw.alloc (.cells zerC 34)) ∧ yw.heap.size < (yw.alloc (.cells zerC 34)).heap.size := ⟨(Below.refl _ _).alloc (Nat.le_refl _) _, by rw [World.size_alloc]; omega⟩
          go_simp
          exact hK.out _ _ ⟨hB.alloc _, Exists.intro yw.heap.size (Exists.intro zerC (And.intro rfl (And.intro ((Row.new yw _ zerC)) (And.intro IsA.zer hB.below.size)))), Nat.le_of_lt hbz.2, .inl hbz.1, fun _ => ⟨_, rfl, Nat.le_refl _, hbz.2⟩⟩
        refine Stps2.cons (o := _) ?_ ?_
        · intro ac yw hsz hold hB hp K hK
          obtain ⟨k9_9, z9_9, e9, g9_0, g9_1, g9_2⟩ := hp 9 (by decide)
          have t8 : ac.tmps[8]? = some (.pointer (some ⟨k9_9, 0, none⟩)) := (List.cons.inj e9).1
          obtain ⟨x5_7, e7, g7_0, g7_1⟩ := hp 7 (by decide)
          have t29 : ac.tmps[29]? = some (.agg x5_7) := (List.cons.inj e7).1
          clear hold hp hsz e9 e7
          rw [if_pos (by rfl)]
          have HB : Bag _ (fun _ => True) (yw.setRow k9_9 x5_7) := ⟨below_put hB.below g9_2 _, fun _ _ _ _ => trivial, trivial⟩
          refine st8 8 29 rfl k9_9 x5_7 t8 t29 _ z9_9 g9_0 g9_1 g7_1 ?_
          refine hK.out undef _ ⟨HB, Exists.intro k9_9 (Exists.intro x5_7 (And.intro (congrArg (fun x => [x]) t8) (And.intro (g9_0.put _) (And.intro (g7_0.store g9_0 g9_1 _) g7_1)))), by simp [World.setRow], .inr ?_, fun h => absurd h (by decide)⟩
          intro jj hj hap h
          match jj, h with
          | 0, h => exact h
          | 1, ⟨x1, e1, g1_0⟩ =>
            exact Exists.intro x1 (And.intro e1 (g1_0.store g9_0 g9_1 _))
          | 2, h => exact h
          | 3, ⟨x3, e3, g3_0⟩ =>
            exact Exists.intro x3 (And.intro e3 (g3_0.store g9_0 g9_1 _))
          | 4, h => exact h
          | 5, ⟨x5, e5, g5_0, g5_1⟩ =>
            exact Exists.intro x5 (And.intro e5 (And.intro (g5_0.store g9_0 g9_1 _) g5_1))
          | 6, ⟨x5, e6, g6_0, g6_1⟩ =>
            exact Exists.intro x5 (And.intro e6 (And.intro (g6_0.store g9_0 g9_1 _) g6_1))
          | 7, ⟨x5, e7, g7_0, g7_1⟩ =>
            exact Exists.intro x5 (And.intro e7 (And.intro (g7_0.store g9_0 g9_1 _) g7_1))
          | 8, h => exact h
          | 9, ⟨k9, z9, e9, g9_0, g9_1, g9_2⟩ =>
            have e9 : k9 = k9_9 := by have := (List.cons.inj e9).1.symm.trans t8; cases this; rfl
            subst e9
            exact Exists.intro _ (Exists.intro _ (And.intro e9 (And.intro (g9_0.put _) (And.intro g7_1 g9_2))))
          | 10, _ => exact absurd rfl hj
          | 11, h => exact h
          | _ + 12, h => exact h
        refine Stps2.cons (o := _) ?_ ?_
        · intro ac yw hsz hold hB hp K hK
          have e8 := hp 8 (by decide)
          have t30 : ac.tmps[30]? = some (.int .i64 E) := (List.cons.inj e8).1
          clear hold hp hsz e8
          go_simp
          exact hK.out _ _ ⟨hB, rfl, Nat.le_refl _, .inl (Below.refl _ _), fun h => absurd h (by decide)⟩
        exact Stps2.nil _
      | true =>
        have TBE := hrE0 1 (by omega)
        obtain ⟨T, hTT⟩ : ∃ T, toF mP 1 = T := ⟨_, rfl⟩
        obtain ⟨CC, hCC⟩ : ∃ C, (cnN T r).toNat = C := ⟨_, rfl⟩
        obtain ⟨SE0, hSE0⟩ : ∃ F, mnF S T r = F := ⟨_, rfl⟩
        obtain ⟨MM, hMM⟩ : ∃ C, (itm SE0 CC).toNat = C := ⟨_, rfl⟩
        obtain ⟨E, hE⟩ : ∃ E, tbE r0 ch0 L0 mP mQ r 1 = E := ⟨_, rfl⟩
        obtain ⟨GG, hGG⟩ : ∃ f, mvG S T r CC = f := ⟨_, rfl⟩
        obtain ⟨gE, hgE⟩ : ∃ f : Nat → Int, (fun j => elC L g 32 (GG j)) = f := ⟨_, rfl⟩
        obtain ⟨PE, hPE⟩ : ∃ f : Nat → Int, (fun j => elP L nP (GG j)) = f := ⟨_, rfl⟩
        obtain ⟨QE, hQE⟩ : ∃ f : Nat → Nat, (fun j => elQ L nQ (GG j)) = f := ⟨_, rfl⟩
        obtain ⟨BE, hBE⟩ : ∃ f : Nat → Bool, (fun j => elB L fB (GG j)) = f := ⟨_, rfl⟩
        obtain ⟨SE, hSE⟩ : ∃ f : Nat → ByteArray, (fun j => elS L fS (rS 0) (GG j)) = f := ⟨_, rfl⟩
        obtain ⟨TE, hTE⟩ : ∃ f : Nat → ByteArray, (fun j => elS L fT (str (dec 1)) (GG j)) = f := ⟨_, rfl⟩
        have hel := hG.els GG MM
        rw [hnP, hnQ, hPE, hQE, hBE, hSE, hTE] at hel
        rw [hE, hTT, hCC, hSE0, hMM] at TBE
        have TB : Hid (∀ x0 x wz, Arr wz x0 S0 r0 ch0 L0 g0 mP mQ → Arr wz x S r ch L g nP nQ → Calls Tryz.prog 24 #[.agg x0, .agg x, .int .i64 1] wz fun e w' => ∃ y, e = .returned (.tuple #[.agg y, .int .i64 E]) ∧ MoR w' y E SE0 CC ch MM gE PE QE ∧ Below wz.heap.size wz w') := Lib.hid (fun x0 x wz q0 q =>
          (transposeBy_any x0 S0 r0 ch0 L0 g0 mP mQ x S r ch L g nP nQ 1 wz q0 q h80 hq0 (by omega) hin hG.sh (by omega)).mono (by
            intro e w' hq
            have := hq.res
            rw [hE, hTT, hCC, hSE0, hMM, hGG, hgE, hPE, hQE] at this
            exact this))
        have TB2 : Hid (∀ wz, Pln wz (plC sb r0 scb ch0 tb (tnO ch0 L0) tcb nb (nnO ch0 L0) ncb) S0 r0 ch0 L0 g0 fB0 fS0 fT0 → Pln wz (plC sa r sc ch ta (tnO ch L) tc na (nnO ch L) nc) S r ch L g fB fS fT → Calls Tryz.prog 25 #[.agg (plC sb r0 scb ch0 tb (tnO ch0 L0) tcb nb (nnO ch0 L0) ncb), .agg (plC sa r sc ch ta (tnO ch L) tc na (nnO ch L) nc), .int .i64 1] wz fun e w' => ∃ y, e = .returned (.tuple #[.agg y, .int .i64 E]) ∧ PoR w' y E SE0 CC ch MM gE BE SE TE ∧ Below wz.heap.size wz w') := Lib.hid (fun wz q0 q =>
          (rTransposeBy_any (plC sb r0 scb ch0 tb (tnO ch0 L0) tcb nb (nnO ch0 L0) ncb) S0 r0 ch0 L0 g0 fB0 fS0 fT0 mP mQ (plC sa r sc ch ta (tnO ch L) tc na (nnO ch L) nc) S r ch L g fB fS fT 1 wz q0 q hN0 (by omega) hG.sh (by omega) (by omega)).mono (by
            intro e w' hq
            have := hq.res
            rw [hE, hTT, hCC, hSE0, hMM, hGG, hgE, hBE, hSE, hTE] at this
            exact this))
        have SO1 := Lib.hid (fun x p wz (q : MoR wz x E SE0 CC ch MM gE PE QE) (z : PoR wz p E SE0 CC ch MM gE BE SE TE) => shows8_any x p E SE0 CC ch MM gE PE QE BE SE TE wz q z TBE hel)
        clear hin hN0 hq0 hel TBE hrE0 hTT hCC hSE0 hMM hE hGG hgE hPE hQE hBE hSE hTE hnP hnQ hG hG0 hGL hGL0 h8 h80
        go_wp2_with fail
        obtain ⟨Y6, hY6⟩ : ∃ y, y = w3 := ⟨_, rfl⟩
        subst hY6
        have RWP : Hid (∀ yz, Below Y6.heap.size Y6 yz → Row yz (w.heap.size + 1) 26 (plC sa r sc ch ta (tnO ch L) tc na (nnO ch L) nc)) := Lib.hid (fun yz hb => Row.below BB.out.now.1 hb)
        have RWB : Hid (∀ yz, Below Y6.heap.size Y6 yz → Row yz w.heap.size 26 (plC sb r0 scb ch0 tb (tnO ch0 L0) tcb nb (nnO ch0 L0) ncb)) := Lib.hid (fun yz hb => Row.below BB.out.now.2.1 hb)
        have BB := Lib.hid (Bag.fresh BB.out.below)
        clear HR
        refine wp_region_inv2 ⟨(fun j => ([[23], [24], [25], [26], [27], [28], [22], [29], [30], [8], [8], [9]] : List (List Nat)).getD j []), (fun j => ([[], [0], [], [0, 1, 2], [], [0, 1, 2, 3, 4], [0, 1, 2, 3, 4, 5], [0, 1, 2, 3, 4, 5, 6], [0, 1, 2, 3, 4, 5, 6], [], [0, 1, 2, 3, 4, 5, 6, 7, 9], [0, 1, 2, 3, 4, 5, 6, 7, 8, 9, 10]] : List (List Nat)).getD j []), [9]⟩ (fun jj vv yy => match jj with | 0 => vv = [some (.agg (plC sb r0 scb ch0 tb (tnO ch0 L0) tcb nb (nnO ch0 L0) ncb))] | 1 => ∃ (x1 : Array Value), vv = [some (.agg x1)] ∧ Arr yy x1 S0 r0 ch0 L0 g0 mP mQ | 2 => vv = [some (.agg (plC sa r sc ch ta (tnO ch L) tc na (nnO ch L) nc))] | 3 => ∃ (x3 : Array Value), vv = [some (.agg x3)] ∧ Arr yy x3 S r ch L g nP nQ | 4 => vv = [some (.int .i64 1)] | 5 => ∃ (x5 : Array Value), vv = [some (.tuple #[.agg x5, .int .i64 E])] ∧ MoR yy x5 E SE0 CC ch MM gE PE QE ∧ IsA x5 | 6 => ∃ (x5 : Array Value), vv = [some (.tuple #[.agg x5, .int .i64 E])] ∧ MoR yy x5 E SE0 CC ch MM gE PE QE ∧ IsA x5 | 7 => ∃ (x5 : Array Value), vv = [some (.agg x5)] ∧ MoR yy x5 E SE0 CC ch MM gE PE QE ∧ IsA x5 | 8 => vv = [some (.int .i64 E)] | 9 => ∃ (k9 : Nat), ∃ (z9 : Array Value), vv = [some (.pointer (some ⟨k9, 0, none⟩))] ∧ Row yy k9 34 z9 ∧ IsA z9 ∧ Y6.heap.size ≤ k9 | 10 => ∃ (k9 : Nat), ∃ (x5 : Array Value), vv = [some (.pointer (some ⟨k9, 0, none⟩))] ∧ Row yy k9 34 x5 ∧ MoR yy x5 E SE0 CC ch MM gE PE QE ∧ IsA x5 | 11 => vv = [some (.int .i64 E)] | _ => True) (Bag Y6 (fun _ => True)) (by kernel_rfl) (by kernel_rfl) (by kernel_rfl) (Bag.start Y6).drew ?_ ?_ ?_
        · intro jj vv yw yw2 hb h
          match jj, h with
          | 0, h => exact h
          | 1, ⟨x1, e1, g1_0⟩ => exact Exists.intro x1 (And.intro e1 (g1_0.below hb))
          | 2, h => exact h
          | 3, ⟨x3, e3, g3_0⟩ => exact Exists.intro x3 (And.intro e3 (g3_0.below hb))
          | 4, h => exact h
          | 5, ⟨x5, e5, g5_0, g5_1⟩ => exact Exists.intro x5 (And.intro e5 (And.intro (g5_0.below hb) g5_1))
          | 6, ⟨x5, e6, g6_0, g6_1⟩ => exact Exists.intro x5 (And.intro e6 (And.intro (g6_0.below hb) g6_1))
          | 7, ⟨x5, e7, g7_0, g7_1⟩ => exact Exists.intro x5 (And.intro e7 (And.intro (g7_0.below hb) g7_1))
          | 8, h => exact h
          | 9, ⟨k9, z9, e9, g9_0, g9_1, g9_2⟩ => exact Exists.intro k9 (Exists.intro z9 (And.intro e9 (And.intro (g9_0.below hb) (And.intro g9_1 g9_2))))
          | 10, ⟨k9, x5, e10, g10_0, g10_1, g10_2⟩ => exact Exists.intro k9 (Exists.intro x5 (And.intro e10 (And.intro (g10_0.below hb) (And.intro (g10_1.below hb) g10_2))))
          | 11, h => exact h
          | _ + 12, h => exact h
        · intro ac yw hsz hdf hold hB hp
          obtain ⟨k9, x5, e10, r10, a10, i10⟩ := hp 10 (by decide)
          have t8 : ac.tmps[8]? = some (.pointer (some ⟨k9, 0, none⟩)) := (List.cons.inj e10).1
          have t9 : ac.tmps[9]? = some (.int .i64 E) := (List.cons.inj (hp 11 (by decide))).1
          have t3 : ac.tmps[3]? = some (.pointer (some ⟨w.heap.size, 0, none⟩)) := hold 3 (by kernel_rfl)
          have t4 : ac.tmps[4]? = some (.pointer (some ⟨w.heap.size + 1, 0, none⟩)) := hold 4 (by kernel_rfl)
          have t7 : ac.tmps[7]? = some (.int .i64 1) := hold 7 (by kernel_rfl)
          have HRB := Lib.hid (RWB.out _ hB.below)
          have HRP := Lib.hid (RWP.out _ hB.below)
          have BB := Lib.hid (BB.out.go hB.below)
          have HM := Lib.hid a10
          have SZ := Lib.hid i10
          have HR := Lib.hid r10
          clear hold hp e10 r10 a10 i10 hB RWB RWP
          obtain ⟨TW, hTW⟩ : ∃ TW : Nat → Value, ∀ i, (ac.tmps[i]?).getD undef = TW i := ⟨_, fun _ => rfl⟩
          have f3 := (hTW 3).symm.trans (congrArg (fun x => Option.getD x undef) t3)
          have f4 := (hTW 4).symm.trans (congrArg (fun x => Option.getD x undef) t4)
          have f7 := (hTW 7).symm.trans (congrArg (fun x => Option.getD x undef) t7)
          have f8 := (hTW 8).symm.trans (congrArg (fun x => Option.getD x undef) t8)
          have f9 := (hTW 9).symm.trans (congrArg (fun x => Option.getD x undef) t9)
          have hac := act_eq (n := 54) hsz TW hTW
          rw [show ((List.range 54).map TW).toArray = #[TW 0, TW 1, TW 2, TW 3, TW 4, TW 5, TW 6, TW 7, TW 8, TW 9, TW 10, TW 11, TW 12, TW 13, TW 14, TW 15, TW 16, TW 17, TW 18, TW 19, TW 20, TW 21, TW 22, TW 23, TW 24, TW 25, TW 26, TW 27, TW 28, TW 29, TW 30, TW 31, TW 32, TW 33, TW 34, TW 35, TW 36, TW 37, TW 38, TW 39, TW 40, TW 41, TW 42, TW 43, TW 44, TW 45, TW 46, TW 47, TW 48, TW 49, TW 50, TW 51, TW 52, TW 53] from rfl, f3, f4, f7, f8, f9, hdf] at hac
          simp only [Option.getD_some] at hac
          subst hac
          clear hTW f3 f4 f7 f8 f9
          go_wp2_with (first
            | (refine ld_pln rfl (.tmp 3) rfl (w.heap.size) rfl HRB.out ?_)
            | (refine ld_pln rfl (.tmp 4) rfl (w.heap.size + 1) rfl HRP.out ?_))
          go_at_call 25
          (refine (TB2.out _ (HP0.out.below BB.out.below) (HP.out.below BB.out.below)).mono ?_)
          rintro e w8 ⟨p8, rfl, h8, hb8⟩
          obtain ⟨qa, qn, qc, qh, qt, qtn, qtc, qr, qrn, qrc, hp8⟩ := h8.1
          subst hp8
          have hZ : Below w8.heap.size w8 ((w8.alloc (.cells plZer 26)).setRow w8.heap.size (plC qa qn qc qh qt qtn qtc qr qrn qrc)) := below_put ((Below.refl _ w8).alloc (Nat.le_refl _) (.cells plZer 26)) (Nat.le_refl _) (plC qa qn qc qh qt qtn qtc qr qrn qrc)
          have HZ : Hid (Row (w8.alloc (.cells plZer 26)) w8.heap.size 26 plZer) := Lib.hid (Row.new w8 _ plZer)
          have HRX := Lib.hid (HZ.out.put (plC qa qn qc qh qt qtn qtc qr qrn qrc))
          have HX := Lib.hid (h8.below hZ)
          have HM := Lib.hid ((HM.out.below hb8).below hZ)
          have HR := Lib.hid ((HR.out.below hb8).below hZ)
          have HRP := Lib.hid ((HRP.out.below hb8).below hZ)
          have BB := Lib.hid ((BB.out.go hb8).go hZ)
          clear h8 hb8 hZ HRB
          go_wp2_with (refine st_pln rfl (.tmp 10) (.tmp 36) rfl w8.heap.size rfl _ _ _ _ _ _ _ _ _ _ rfl HZ.out rfl ?_)
          generalize hW : (World.setRow _ _ _) = Y8
          have RWP : Hid (∀ yz, Below Y8.heap.size Y8 yz → Row yz (w.heap.size + 1) 26 (plC sa r sc ch ta (tnO ch L) tc na (nnO ch L) nc)) := by
            subst hW
            exact Lib.hid (fun yz hb => Row.below HRP.out hb)
          have RW8 : Hid (∀ yz, Below Y8.heap.size Y8 yz → Row yz k9 34 x5) := by
            subst hW
            exact Lib.hid (fun yz hb => Row.below HR.out hb)
          have RW10 : Hid (∀ yz, Below Y8.heap.size Y8 yz → Row yz w8.heap.size 26 (plC qa qn qc qh qt qtn qtc qr qrn qrc)) := by
            subst hW
            exact Lib.hid (fun yz hb => Row.below HRX.out hb)
          have M8 : Hid (∀ yz, Below Y8.heap.size Y8 yz → MoR yz x5 E SE0 CC ch MM gE PE QE) := by
            subst hW
            exact Lib.hid (fun yz hb => MoR.below HM.out hb)
          have X8 : Hid (∀ yz, Below Y8.heap.size Y8 yz → PoR yz (plC qa qn qc qh qt qtn qtc qr qrn qrc) E SE0 CC ch MM gE BE SE TE) := by
            subst hW
            exact Lib.hid (fun yz hb => PoR.below HX.out hb)
          have SZ10 : Hid (IsP (plC qa qn qc qh qt qtn qtc qr qrn qrc)) := Lib.hid ⟨_, _, _, _, _, _, _, _, _, _, rfl⟩
          have BB : Hid (Bag w (fun _ => True) Y8) := by
            subst hW
            exact Lib.hid (Bag.fresh BB.out.below)
          clear hW HR HRX HM HX HZ HRP
          generalize (plC qa qn qc qh qt qtn qtc qr qrn qrc) = P10 at RW10 X8 SZ10
          refine wp_region_inv2 ⟨(fun j => ([[38], [39], [40], [41], [42], [43], [44], [45], [46], [47], [48], [49], [50], [51], [52], [53], [6]] : List (List Nat)).getD j []), (fun j => ([[], [], [], [], [0, 1, 2, 3], [0, 1, 2, 3, 4], [0, 1, 2, 3, 4, 5], [0, 1, 2, 3, 4, 5, 6], [0, 1, 2, 3, 4, 5, 6, 7], [0, 1, 2, 3, 4, 5], [0, 1, 2, 3, 4, 5, 6, 7, 8, 9], [0, 1, 2, 3, 4, 5, 6, 7, 8, 9, 10], [0, 1, 2, 3, 4, 5, 6, 7, 8, 9, 10, 11], [0, 1, 2, 3, 4, 5, 6, 7, 8, 9, 10, 11, 12], [0, 1, 2, 3, 4, 5, 6, 7, 8, 9, 10, 11, 12, 13], [0, 1, 2, 3, 4, 5, 6, 7, 8, 9, 10, 11, 12, 13, 14], [0, 1, 2, 3, 4, 5, 6, 7, 8, 9, 10, 11, 12, 13, 14, 15]] : List (List Nat)).getD j []), []⟩ (fun jj vv yy => match jj with | 0 => vv = [some (.agg x5)] | 1 => vv = [some (.int .i64 E)] | 2 => vv = [some (.agg P10)] | 3 => vv = [some (.int .i64 E)] | 4 => vv = [some (.bool true)] | 5 => vv = [some (.bool true)] | 6 => vv = [some (.agg (plC sa r sc ch ta (tnO ch L) tc na (nnO ch L) nc))] | 7 => ∃ (x7 : Array Value), vv = [some (.agg x7)] ∧ Arr yy x7 S r ch L g nP nQ | 8 => ∃ (x8 : Array Value), vv = [some (.agg x8)] ∧ Arr yy x8 S1 r ch M1 g1 P1 Q1 | 9 => vv = [some (.agg (plC sa r sc ch ta (tnO ch L) tc na (nnO ch L) nc))] | 10 => ∃ (x10 : Array Value), vv = [some (.agg x10)] ∧ Pln yy x10 S1 r ch M1 g1 F1 U1 V1 | 11 => vv = [some (.bool true)] | 12 => vv = [some (.bool true)] | 13 => vv = [some (.bool true)] | 14 => vv = [some (.bool true)] | 15 => vv = [some (.bool true)] | 16 => vv = [some (.bool true)] | _ => True) (Bag Y8 (fun _ => True)) (by kernel_rfl) (by kernel_rfl) (by kernel_rfl) (Bag.start Y8).drew ?_ ?_ ?_
          · intro jj vv yw yw2 hb h
            match jj, h with
            | 0, h => exact h
            | 1, h => exact h
            | 2, h => exact h
            | 3, h => exact h
            | 4, h => exact h
            | 5, h => exact h
            | 6, h => exact h
            | 7, ⟨x7, e7, g7_0⟩ => exact Exists.intro x7 (And.intro e7 (g7_0.below hb))
            | 8, ⟨x8, e8, g8_0⟩ => exact Exists.intro x8 (And.intro e8 (g8_0.below hb))
            | 9, h => exact h
            | 10, ⟨x10, e10, g10_0⟩ => exact Exists.intro x10 (And.intro e10 (g10_0.below hb))
            | 11, h => exact h
            | 12, h => exact h
            | 13, h => exact h
            | 14, h => exact h
            | 15, h => exact h
            | 16, h => exact h
            | _ + 17, h => exact h
          · intro ac yw hsz hdf hold hB hp
            have t6 : ac.tmps[6]? = some (.bool true) := (List.cons.inj (hp 16 (by decide))).1
            have HE := Lib.hid (BB.out.go hB.below).below
            clear hold hp hB
            obtain ⟨TX, hTX⟩ : ∃ TX : Nat → Value, ∀ i, (ac.tmps[i]?).getD undef = TX i := ⟨_, fun _ => rfl⟩
            have f6 := (hTX 6).symm.trans (congrArg (fun x => Option.getD x undef) t6)
            have hac := act_eq (n := 54) hsz TX hTX
            rw [show ((List.range 54).map TX).toArray = #[TX 0, TX 1, TX 2, TX 3, TX 4, TX 5, TX 6, TX 7, TX 8, TX 9, TX 10, TX 11, TX 12, TX 13, TX 14, TX 15, TX 16, TX 17, TX 18, TX 19, TX 20, TX 21, TX 22, TX 23, TX 24, TX 25, TX 26, TX 27, TX 28, TX 29, TX 30, TX 31, TX 32, TX 33, TX 34, TX 35, TX 36, TX 37, TX 38, TX 39, TX 40, TX 41, TX 42, TX 43, TX 44, TX 45, TX 46, TX 47, TX 48, TX 49, TX 50, TX 51, TX 52, TX 53] from rfl, f6, hdf] at hac
            simp only [Option.getD_some] at hac
            subst hac
            clear hTX f6
            go_wp2
            go_ret
            exact ⟨rfl, HE.out⟩
          refine Stps2.cons (o := _) ?_ ?_
          · intro ac yw hsz hold hB hp K hK
            have t8 : ac.tmps[8]? = some (.pointer (some ⟨k9, 0, none⟩)) := hold 8 (by kernel_rfl)
            clear hold hp hsz
            rw [if_pos (by rfl)]
            refine ld8 8 rfl (k9) (x5) t8 (RW8.out _ hB.below) (SZ.out.size) ?_
            exact hK.out _ _ ⟨hB, rfl, Nat.le_refl _, .inl (Below.refl _ _), fun h => absurd h (by decide)⟩
          refine Stps2.cons (o := _) ?_ ?_
          · intro ac yw hsz hold hB hp K hK
            have t9 : ac.tmps[9]? = some (.int .i64 E) := hold 9 (by kernel_rfl)
            clear hold hp hsz
            go_simp
            exact hK.out _ _ ⟨hB, rfl, Nat.le_refl _, .inl (Below.refl _ _), fun h => absurd h (by decide)⟩
          refine Stps2.cons (o := _) ?_ ?_
          · intro ac yw hsz hold hB hp K hK
            have t10 : ac.tmps[10]? = some (.pointer (some ⟨w8.heap.size, 0, none⟩)) := hold 10 (by kernel_rfl)
            clear hold hp hsz
            rw [if_pos (by rfl)]
            refine ldP 10 rfl (w8.heap.size) (P10) t10 (RW10.out _ hB.below) (SZ10.out.size) ?_
            exact hK.out _ _ ⟨hB, rfl, Nat.le_refl _, .inl (Below.refl _ _), fun h => absurd h (by decide)⟩
          refine Stps2.cons (o := _) ?_ ?_
          · intro ac yw hsz hold hB hp K hK
            have t11 : ac.tmps[11]? = some (.int .i64 E) := hold 11 (by kernel_rfl)
            clear hold hp hsz
            go_simp
            exact hK.out _ _ ⟨hB, rfl, Nat.le_refl _, .inl (Below.refl _ _), fun h => absurd h (by decide)⟩
          refine Stps2.cons (o := _) ?_ ?_
          · intro ac yw hsz hold hB hp K hK
            have e0 := hp 0 (by decide)
            have t38 : ac.tmps[38]? = some (.agg x5) := (List.cons.inj e0).1
            have e1 := hp 1 (by decide)
            have t39 : ac.tmps[39]? = some (.int .i64 E) := (List.cons.inj e1).1
            have e2 := hp 2 (by decide)
            have t40 : ac.tmps[40]? = some (.agg P10) := (List.cons.inj e2).1
            have e3 := hp 3 (by decide)
            have t41 : ac.tmps[41]? = some (.int .i64 E) := (List.cons.inj e3).1
            clear hold hp hsz e0 e1 e2 e3
            go_simp
            (go_at_call 19; (refine (SO1.out _ _ _ (M8.out _ hB.below) (X8.out _ hB.below)).mono ?_); rintro e wz ⟨rfl, hbz⟩)
            exact hK.out _ _ ⟨hB.go hbz, rfl, hbz.size, .inl hbz, fun h => absurd h (by decide)⟩
          refine Stps2.cons (o := _) ?_ ?_
          · intro ac yw hsz hold hB hp K hK
            have e4 := hp 4 (by decide)
            have t42 : ac.tmps[42]? = some (.bool true) := (List.cons.inj e4).1
            clear hold hp hsz e4
            go_simp
            exact hK.out _ _ ⟨hB, rfl, Nat.le_refl _, .inl (Below.refl _ _), fun h => absurd h (by decide)⟩
          refine Stps2.cons (o := _) ?_ ?_
          · intro ac yw hsz hold hB hp K hK
            have t43 : ac.tmps[43]? = some (.bool true) := (List.cons.inj (hp 5 (by decide))).1
            rw [if_pos (wanted_pos rfl rfl t43)]
            have t4 : ac.tmps[4]? = some (.pointer (some ⟨w.heap.size + 1, 0, none⟩)) := hold 4 (by kernel_rfl)
            clear hold hp hsz
            refine ldP 4 rfl (w.heap.size + 1) ((plC sa r sc ch ta (tnO ch L) tc na (nnO ch L) nc)) t4 (RWP.out _ hB.below) (rfl) ?_
            exact hK.out _ _ ⟨hB, rfl, Nat.le_refl _, .inl (Below.refl _ _), fun h => absurd h (by decide)⟩
          refine Stps2.cons (o := _) ?_ ?_
          · intro ac yw hsz hold hB hp K hK
            have t43 : ac.tmps[43]? = some (.bool true) := (List.cons.inj (hp 5 (by decide))).1
            rw [if_pos (wanted_pos rfl rfl t43)]
            have e6 := hp 6 (by decide)
            have t44 : ac.tmps[44]? = some (.agg (plC sa r sc ch ta (tnO ch L) tc na (nnO ch L) nc)) := (List.cons.inj e6).1
            clear hold hp hsz e6
            go_simp
            (go_at_call 11; (refine (OF.out _ (HP.out.below (BB.out.go hB.below).below)).mono ?_); rintro e wz ⟨x7, rfl, h7_0, hbz⟩)
            exact hK.out _ _ ⟨hB.go hbz, Exists.intro x7 (And.intro rfl h7_0), hbz.size, .inl hbz, fun h => absurd h (by decide)⟩
          refine Stps2.cons (o := _) ?_ ?_
          · intro ac yw hsz hold hB hp K hK
            have t43 : ac.tmps[43]? = some (.bool true) := (List.cons.inj (hp 5 (by decide))).1
            rw [if_pos (wanted_pos rfl rfl t43)]
            obtain ⟨x7_7, e7, g7_0⟩ := hp 7 (by decide)
            have t45 : ac.tmps[45]? = some (.agg x7_7) := (List.cons.inj e7).1
            clear hold hp hsz e7
            go_simp
            (go_at_call 26; (refine (TR.out _ _ g7_0).mono ?_); rintro e wz ⟨x8, rfl, h8_0, hbz⟩)
            exact hK.out _ _ ⟨hB.go hbz, Exists.intro x8 (And.intro rfl h8_0), hbz.size, .inl hbz, fun h => absurd h (by decide)⟩
          refine Stps2.cons (o := _) ?_ ?_
          · intro ac yw hsz hold hB hp K hK
            have t43 : ac.tmps[43]? = some (.bool true) := (List.cons.inj (hp 5 (by decide))).1
            rw [if_pos (wanted_pos rfl rfl t43)]
            have t4 : ac.tmps[4]? = some (.pointer (some ⟨w.heap.size + 1, 0, none⟩)) := hold 4 (by kernel_rfl)
            clear hold hp hsz
            refine ldP 4 rfl (w.heap.size + 1) ((plC sa r sc ch ta (tnO ch L) tc na (nnO ch L) nc)) t4 (RWP.out _ hB.below) (rfl) ?_
            exact hK.out _ _ ⟨hB, rfl, Nat.le_refl _, .inl (Below.refl _ _), fun h => absurd h (by decide)⟩
          refine Stps2.cons (o := _) ?_ ?_
          · intro ac yw hsz hold hB hp K hK
            have t43 : ac.tmps[43]? = some (.bool true) := (List.cons.inj (hp 5 (by decide))).1
            rw [if_pos (wanted_pos rfl rfl t43)]
            have e9 := hp 9 (by decide)
            have t47 : ac.tmps[47]? = some (.agg (plC sa r sc ch ta (tnO ch L) tc na (nnO ch L) nc)) := (List.cons.inj e9).1
            clear hold hp hsz e9
            go_simp
            (go_at_call 27; (refine (TR2.out _ (HP.out.below (BB.out.go hB.below).below)).mono ?_); rintro e wz ⟨x10, rfl, h10_0, hbz⟩)
            exact hK.out _ _ ⟨hB.go hbz, Exists.intro x10 (And.intro rfl h10_0), hbz.size, .inl hbz, fun h => absurd h (by decide)⟩
          refine Stps2.cons (o := _) ?_ ?_
          · intro ac yw hsz hold hB hp K hK
            have t43 : ac.tmps[43]? = some (.bool true) := (List.cons.inj (hp 5 (by decide))).1
            rw [if_pos (wanted_pos rfl rfl t43)]
            obtain ⟨x8_8, e8, g8_0⟩ := hp 8 (by decide)
            have t46 : ac.tmps[46]? = some (.agg x8_8) := (List.cons.inj e8).1
            obtain ⟨x10_10, e10, g10_0⟩ := hp 10 (by decide)
            have t48 : ac.tmps[48]? = some (.agg x10_10) := (List.cons.inj e10).1
            clear hold hp hsz e8 e10
            go_simp
            (go_at_call 19; (refine (SO2.out _ _ _ g8_0 g10_0).mono ?_); rintro e wz ⟨rfl, hbz⟩)
            exact hK.out _ _ ⟨hB.go hbz, rfl, hbz.size, .inl hbz, fun h => absurd h (by decide)⟩
          refine Stps2.cons (o := _) ?_ ?_
          · intro ac yw hsz hold hB hp K hK
            have e5 := hp 5 (by decide)
            have t43 : ac.tmps[43]? = some (.bool true) := (List.cons.inj e5).1
            have e11 := hp 11 (by decide)
            have t49 : ac.tmps[49]? = some (.bool true) := (List.cons.inj e11).1
            clear hold hp hsz e5 e11
            go_simp
            exact hK.out _ _ ⟨hB, rfl, Nat.le_refl _, .inl (Below.refl _ _), fun h => absurd h (by decide)⟩
          refine Stps2.cons (o := _) ?_ ?_
          · intro ac yw hsz hold hB hp K hK
            have e12 := hp 12 (by decide)
            have t50 : ac.tmps[50]? = some (.bool true) := (List.cons.inj e12).1
            clear hold hp hsz e12
            go_simp
            exact hK.out _ _ ⟨hB, rfl, Nat.le_refl _, .inl (Below.refl _ _), fun h => absurd h (by decide)⟩
          refine Stps2.cons (o := _) ?_ ?_
          · intro ac yw hsz hold hB hp K hK
            have t51 : ac.tmps[51]? = some (.bool true) := (List.cons.inj (hp 13 (by decide))).1
            rw [if_pos (wanted_pos rfl rfl t51)]
            clear hold hp hsz
            go_simp
            (go_at_call 9; (with_reducible refine (AW.out _).mono ?_); rintro e wz ⟨rfl, hbz⟩)
            exact hK.out _ _ ⟨hB.go hbz, rfl, hbz.size, .inl hbz, fun h => absurd h (by decide)⟩
          refine Stps2.cons (o := _) ?_ ?_
          · intro ac yw hsz hold hB hp K hK
            have e13 := hp 13 (by decide)
            have t51 : ac.tmps[51]? = some (.bool true) := (List.cons.inj e13).1
            have e14 := hp 14 (by decide)
            have t52 : ac.tmps[52]? = some (.bool true) := (List.cons.inj e14).1
            clear hold hp hsz e13 e14
            go_simp
            exact hK.out _ _ ⟨hB, rfl, Nat.le_refl _, .inl (Below.refl _ _), fun h => absurd h (by decide)⟩
          refine Stps2.cons (o := _) ?_ ?_
          · intro ac yw hsz hold hB hp K hK
            have e15 := hp 15 (by decide)
            have t53 : ac.tmps[53]? = some (.bool true) := (List.cons.inj e15).1
            clear hold hp hsz e15
            go_simp
            exact hK.out _ _ ⟨hB, rfl, Nat.le_refl _, .inl (Below.refl _ _), fun h => absurd h (by decide)⟩
          exact Stps2.nil _
        refine Stps2.cons (o := _) ?_ ?_
        · intro ac yw hsz hold hB hp K hK
          have t3 : ac.tmps[3]? = some (.pointer (some ⟨w.heap.size, 0, none⟩)) := hold 3 (by kernel_rfl)
          clear hold hp hsz
          rw [if_pos (by rfl)]
          refine ldP 3 rfl (w.heap.size) ((plC sb r0 scb ch0 tb (tnO ch0 L0) tcb nb (nnO ch0 L0) ncb)) t3 (RWB.out _ hB.below) (rfl) ?_
          exact hK.out _ _ ⟨hB, rfl, Nat.le_refl _, .inl (Below.refl _ _), fun h => absurd h (by decide)⟩
        refine Stps2.cons (o := _) ?_ ?_
        · intro ac yw hsz hold hB hp K hK
          have e0 := hp 0 (by decide)
          have t23 : ac.tmps[23]? = some (.agg (plC sb r0 scb ch0 tb (tnO ch0 L0) tcb nb (nnO ch0 L0) ncb)) := (List.cons.inj e0).1
          clear hold hp hsz e0
          go_simp
          (go_at_call 11; (refine (OF0.out _ (HP0.out.below (BB.out.go hB.below).below)).mono ?_); rintro e wz ⟨x1, rfl, h1_0, hbz⟩)
          exact hK.out _ _ ⟨hB.go hbz, Exists.intro x1 (And.intro rfl h1_0), hbz.size, .inl hbz, fun h => absurd h (by decide)⟩
        refine Stps2.cons (o := _) ?_ ?_
        · intro ac yw hsz hold hB hp K hK
          have t4 : ac.tmps[4]? = some (.pointer (some ⟨w.heap.size + 1, 0, none⟩)) := hold 4 (by kernel_rfl)
          clear hold hp hsz
          rw [if_pos (by rfl)]
          refine ldP 4 rfl (w.heap.size + 1) ((plC sa r sc ch ta (tnO ch L) tc na (nnO ch L) nc)) t4 (RWP.out _ hB.below) (rfl) ?_
          exact hK.out _ _ ⟨hB, rfl, Nat.le_refl _, .inl (Below.refl _ _), fun h => absurd h (by decide)⟩
        refine Stps2.cons (o := _) ?_ ?_
        · intro ac yw hsz hold hB hp K hK
          have e2 := hp 2 (by decide)
          have t25 : ac.tmps[25]? = some (.agg (plC sa r sc ch ta (tnO ch L) tc na (nnO ch L) nc)) := (List.cons.inj e2).1
          clear hold hp hsz e2
          go_simp
          (go_at_call 11; (refine (OF.out _ (HP.out.below (BB.out.go hB.below).below)).mono ?_); rintro e wz ⟨x3, rfl, h3_0, hbz⟩)
          exact hK.out _ _ ⟨hB.go hbz, Exists.intro x3 (And.intro rfl h3_0), hbz.size, .inl hbz, fun h => absurd h (by decide)⟩
        refine Stps2.cons (o := _) ?_ ?_
        · intro ac yw hsz hold hB hp K hK
          have t7 : ac.tmps[7]? = some (.int .i64 1) := hold 7 (by kernel_rfl)
          clear hold hp hsz
          go_simp
          exact hK.out _ _ ⟨hB, rfl, Nat.le_refl _, .inl (Below.refl _ _), fun h => absurd h (by decide)⟩
        refine Stps2.cons (o := _) ?_ ?_
        · intro ac yw hsz hold hB hp K hK
          obtain ⟨x1_1, e1, g1_0⟩ := hp 1 (by decide)
          have t24 : ac.tmps[24]? = some (.agg x1_1) := (List.cons.inj e1).1
          obtain ⟨x3_3, e3, g3_0⟩ := hp 3 (by decide)
          have t26 : ac.tmps[26]? = some (.agg x3_3) := (List.cons.inj e3).1
          have e4 := hp 4 (by decide)
          have t27 : ac.tmps[27]? = some (.int .i64 1) := (List.cons.inj e4).1
          clear hold hp hsz e1 e3 e4
          go_simp
          (go_at_call 24; (refine (TB.out _ _ _ g1_0 g3_0).mono ?_); rintro e wz ⟨x5, rfl, h5_0, hbz⟩)
          exact hK.out _ _ ⟨hB.go hbz, Exists.intro x5 (And.intro rfl (And.intro h5_0 h5_0.1)), hbz.size, .inl hbz, fun h => absurd h (by decide)⟩
        refine Stps2.cons (o := _) ?_ ?_
        · intro ac yw hsz hold hB hp K hK
          obtain ⟨x5_5, e5, g5_0, g5_1⟩ := hp 5 (by decide)
          have t28 : ac.tmps[28]? = some (.tuple #[.agg x5_5, .int .i64 E]) := (List.cons.inj e5).1
          clear hold hp hsz e5
          go_simp
          exact hK.out _ _ ⟨hB, Exists.intro x5_5 (And.intro rfl (And.intro g5_0 g5_1)), Nat.le_refl _, .inl (Below.refl _ _), fun h => absurd h (by decide)⟩
        refine Stps2.cons (o := _) ?_ ?_
        · intro ac yw hsz hold hB hp K hK
          obtain ⟨x5_6, e6, g6_0, g6_1⟩ := hp 6 (by decide)
          have t22 : ac.tmps[22]? = some (.tuple #[.agg x5_6, .int .i64 E]) := (List.cons.inj e6).1
          clear hold hp hsz e6
          go_simp
          exact hK.out _ _ ⟨hB, Exists.intro x5_6 (And.intro rfl (And.intro g6_0 g6_1)), Nat.le_refl _, .inl (Below.refl _ _), fun h => absurd h (by decide)⟩
        refine Stps2.cons (o := _) ?_ ?_
        · intro ac yw hsz hold hB hp K hK
          obtain ⟨x5_6, e6, g6_0, g6_1⟩ := hp 6 (by decide)
          have t22 : ac.tmps[22]? = some (.tuple #[.agg x5_6, .int .i64 E]) := (List.cons.inj e6).1
          clear hold hp hsz e6
          go_simp
          exact hK.out _ _ ⟨hB, rfl, Nat.le_refl _, .inl (Below.refl _ _), fun h => absurd h (by decide)⟩
        refine Stps2.cons (o := _) ?_ ?_
        · intro ac yw hsz hold hB hp K hK
          clear hold hp hsz
          have hbz : Below yw.heap.size yw (yw.alloc (.cells zerC 34)) ∧ yw.heap.size < (yw.alloc (.cells zerC 34)).heap.size := ⟨(Below.refl _ _).alloc (Nat.le_refl _) _, by rw [World.size_alloc]; omega⟩
          go_simp
          exact hK.out _ _ ⟨hB.alloc _, Exists.intro yw.heap.size (Exists.intro zerC (And.intro rfl (And.intro ((Row.new yw _ zerC)) (And.intro IsA.zer hB.below.size)))), Nat.le_of_lt hbz.2, .inl hbz.1, fun _ => ⟨_, rfl, Nat.le_refl _, hbz.2⟩⟩
        refine Stps2.cons (o := _) ?_ ?_
        · intro ac yw hsz hold hB hp K hK
          obtain ⟨k9_9, z9_9, e9, g9_0, g9_1, g9_2⟩ := hp 9 (by decide)
          have t8 : ac.tmps[8]? = some (.pointer (some ⟨k9_9, 0, none⟩)) := (List.cons.inj e9).1
          obtain ⟨x5_7, e7, g7_0, g7_1⟩ := hp 7 (by decide)
          have t29 : ac.tmps[29]? = some (.agg x5_7) := (List.cons.inj e7).1
          clear hold hp hsz e9 e7
          rw [if_pos (by rfl)]
          have HB : Bag _ (fun _ => True) (yw.setRow k9_9 x5_7) := ⟨below_put hB.below g9_2 _, fun _ _ _ _ => trivial, trivial⟩
          refine st8 8 29 rfl k9_9 x5_7 t8 t29 _ z9_9 g9_0 g9_1 g7_1 ?_
          refine hK.out undef _ ⟨HB, Exists.intro k9_9 (Exists.intro x5_7 (And.intro (congrArg (fun x => [x]) t8) (And.intro (g9_0.put _) (And.intro (g7_0.store g9_0 g9_1 _) g7_1)))), by simp [World.setRow], .inr ?_, fun h => absurd h (by decide)⟩
          intro jj hj hap h
          match jj, h with
          | 0, h => exact h
          | 1, ⟨x1, e1, g1_0⟩ =>
            exact Exists.intro x1 (And.intro e1 (g1_0.store g9_0 g9_1 _))
          | 2, h => exact h
          | 3, ⟨x3, e3, g3_0⟩ =>
            exact Exists.intro x3 (And.intro e3 (g3_0.store g9_0 g9_1 _))
          | 4, h => exact h
          | 5, ⟨x5, e5, g5_0, g5_1⟩ =>
            exact Exists.intro x5 (And.intro e5 (And.intro (g5_0.store g9_0 g9_1 _) g5_1))
          | 6, ⟨x5, e6, g6_0, g6_1⟩ =>
            exact Exists.intro x5 (And.intro e6 (And.intro (g6_0.store g9_0 g9_1 _) g6_1))
          | 7, ⟨x5, e7, g7_0, g7_1⟩ =>
            exact Exists.intro x5 (And.intro e7 (And.intro (g7_0.store g9_0 g9_1 _) g7_1))
          | 8, h => exact h
          | 9, ⟨k9, z9, e9, g9_0, g9_1, g9_2⟩ =>
            have e9 : k9 = k9_9 := by have := (List.cons.inj e9).1.symm.trans t8; cases this; rfl
            subst e9
            exact Exists.intro _ (Exists.intro _ (And.intro e9 (And.intro (g9_0.put _) (And.intro g7_1 g9_2))))
          | 10, _ => exact absurd rfl hj
          | 11, h => exact h
          | _ + 12, h => exact h
        refine Stps2.cons (o := _) ?_ ?_
        · intro ac yw hsz hold hB hp K hK
          have e8 := hp 8 (by decide)
          have t30 : ac.tmps[30]? = some (.int .i64 E) := (List.cons.inj e8).1
          clear hold hp hsz e8
          go_simp
          exact hK.out _ _ ⟨hB, rfl, Nat.le_refl _, .inl (Below.refl _ _), fun h => absurd h (by decide)⟩
        exact Stps2.nil _

theorem own : ownKnob Tryz.prog.godebug = none := by kernel_rfl
theorem laidOut : laidOutB Tryz.prog = true := by kernel_rfl

set_option maxRecDepth 100000 in
theorem moldAxes_lifted (os : Os) (started : os.Started) (H : Type) (enc : TypeId × Value → H) :
    ReturnsInHanded {} Tryz.checked os 5 .any (fun w args => (Rows.moldAxesSpec.pre enc Tryz.prog Tryz.f5 [] false w args ∧ laidMetH Tryz.prog Rows.moldAxesRow.laid w) ∧ sizedMet enc Tryz.prog Tryz.f5 (OpenSpec.ofChange Rows.moldAxesSpec) false w args)
      (Rows.moldAxesSpec.post enc Tryz.prog Tryz.f5 false true false false) := by
  refine returnsInHanded_of_change_and (C := Tryz.checked) (X := fun w _ => laidMetH Tryz.prog Rows.moldAxesRow.laid w) (fun _ _ _ hh h => h.of_heap hh) own started (by kernel_rfl) Tryz.func5
    (ChangeSpec.witness_shaped (enc := enc) (C := Tryz.checked) (os := os) (X := fun w _ => laidMetH Tryz.prog Rows.moldAxesRow.laid w) false (World.laidAll Tryz.prog os Rows.moldAxesRow.laid) #[.agg #[.slice none 0 0, .bool false, .slice none 0 0, .slice none 0 0], .agg #[.slice none 0 0, .bool false, .slice none 0 0, .slice none 0 0], .bool false] 8 (World.laidAll_os _ _ _)
      (World.shaped_of_ZipB (by kernel_rfl) (by kernel_rfl)) (by kernel_rfl) (by kernel_rfl) (by kernel_rfl)
      (by rw [MakeChecks.laidMetH_plain _ _ _ (by kernel_rfl)]; exact laidMet_laidAll _ (by kernel_rfl) (by kernel_rfl))) ?_
  intro W base args ds gs before hval0 hW _ _ _ _
  have hval : ∀ (j : Nat) t v, Tryz.f5.params[j]? = some t → args[j]? = some v → Value.okWide Tryz.prog W .any base t v := hval0
  have hW' := hW
  obtain ⟨p, q, hA0, hV, rfl, _, _⟩ := hW
  have hA : DataW.TrodAll enc Tryz.prog W 0 (fun _ => true) true Tryz.f5.params.toList args.toList ds p := hA0
  rw [Tryz.params5] at hA hval
  obtain ⟨v0, v1, v2, d0, d1, d2, p0, p1, p2, rfl, rfl, rfl, h0, h1, h2⟩ := trodAll_three hA
  obtain ⟨rfl, rfl⟩ := trodVars_none hV
  obtain ⟨cs0, S0, q0, ch0, g0, tn0, fB0, fS0, fT0, nn0, rfl, k0, w0, z0⟩ := open_pln (hval 0 26 v0 rfl rfl) h0
  obtain ⟨cs1, S1, q1, ch1, g1, tn1, fB1, fS1, fT1, nn1, rfl, k1, w1, z1⟩ := open_pln (hval 1 26 v1 rfl rfl) h1
  obtain ⟨x2, rfl, rfl, rfl⟩ := open_bool Tryz.underlying4 (hval 2 4 v2 rfl rfl) h2
  have hlt : ∀ y ∈ p0 ++ (p1 ++ ([])), y.block < W.heap.size := fun y hy => by simpa using hW'.lt y (by simpa using hy)
  simp only [List.append_nil] at hW'
  refine (moldAxes_walk cs0 S0 q0 ch0 g0 tn0 fB0 fS0 fT0 nn0 cs1 S1 q1 ch1 g1 tn1 fB1 fS1 fT1 nn1 x2 W k0 w0 z0 k1 w1 z1).mono fun e W' ⟨he, hb⟩ => ?_
  subst he
  exact ⟨_, rfl, _, _, _, [], _, [], hW', trodAll_mk1 (shut_bool Tryz.underlying4 _), trodAll_mk3 (Below.trod laidOut (by kernel_rfl) (of_decide_eq_true (by kernel_rfl)) h0 hb (fun y hy => hlt y (by simp [hy]))) (Below.trod laidOut (by kernel_rfl) (of_decide_eq_true (by kernel_rfl)) h1 hb (fun y hy => hlt y (by simp [hy]))) (shut_bool Tryz.underlying4 _), rfl, hb.frame _, fun h => by cases h⟩

theorem moldAxes_row : Rows.MoldAxesSaid :=
  OpenClaim.holds_of_wide 5 Tryz.f5 rfl rfl rfl rfl rfl rfl rfl ⟨rfl, rfl, rfl, rfl, rfl⟩ rfl rfl rfl rfl rfl (by kernel_rfl) Tryz.func5 (by kernel_rfl)
    (of_decide_eq_true (by kernel_rfl)) (by unfold Func.isWrapper; first | (rw [if_pos (by decide +kernel)]; kernel_rfl) | (rw [if_neg (by decide +kernel)]; exact ⟨rfl, rfl⟩))
    (fun os started H enc _ => moldAxes_lifted os started H enc)

theorem moldAxes_holds : Rows.MoldAxesCardSaid :=
  Claim7.holds_tied_plain_at .later [] [.data, .pinned] true Rows.moldAxesCard.stood.harness Rows.moldAxesCard.stood.looks moldAxes_row (fun _ h => by cases h) (by kernel_rfl) (fun _ h => by cases h) moldAxes_row_tie rfl ⟨rfl, rfl⟩ (by kernel_rfl) rfl
    (fun f fn hf hfn => by
      obtain rfl : f = 5 := Option.some.inj ((show Tryz.prog.funcNamed "typeball/typeballlaw08.MoldAxes" = some 5 by kernel_rfl).symm.trans hf) |>.symm
      obtain rfl : fn = Tryz.f5 := (Option.some.inj (Tryz.func5.symm.trans hfn)).symm
      exact ⟨by kernel_rfl, fun j t ht => by
        rw [Tryz.params5] at ht
        have hm : t ∈ [26, 4] := by simpa using Array.mem_of_getElem? ht
        have hall : ([26, 4].all fun u => !Tryz.prog.wantsStandIn u) = true := by kernel_rfl
        exact (show Tryz.prog.wantsStandIn t = false by simpa using List.all_eq_true.1 hall t hm)⟩)
    (by kernel_rfl)
#print axioms moldAxes_holds
end Go.Proofs.YtkljpofljkgkdaaGreatDoor
