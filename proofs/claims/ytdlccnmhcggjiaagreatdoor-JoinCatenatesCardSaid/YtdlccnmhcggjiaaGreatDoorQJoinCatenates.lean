/-
  Proved: the law JoinCatenates of package typeballlaw10 returns true for every two plain arrays and every number, under the row's own conditions.
-/
import Derived.Test.YtdlccnmhcggjiaaGreatDoorQ1
import Derived.Test.YtdlccnmhcggjiaaGreatDoorQ2
import Derived.Test.YtdlccnmhcggjiaaGreatDoorQ3
import Derived.Test.YtdlccnmhcggjiaaGreatDoorQ4
import Derived.Test.YtdlccnmhcggjiaaGreatDoorQ5
import Derived.Test.YtdlccnmhcggjiaaGreatDoorQ6
import Derived.Test.YtdlccnmhcggjiaaGreatDoorQ7
import Derived.Test.YtdlccnmhcggjiaaGreatDoorQ8
import Derived.Test.YtdlccnmhcggjiaaGreatDoorQ9
import Derived.Test.YtdlccnmhcggjiaaGreatDoorQ10
import Derived.Test.YtdlccnmhcggjiaaGreatDoorQ11
import Derived.Test.YtdlccnmhcggjiaaGreatDoorQ12
import Derived.SizedLaws
import Derived.Test.YtdlccnmhcggjiaaGreatDoorCards
import Derived.Test.YtdlccnmhcggjiaaGreatDoorTie
import Derived.LaidMore
import Derived.Lay
import Derived.SevenTiedAt
import Derived.Stop.Joined
set_option maxHeartbeats 12800000
set_option maxRecDepth 100000
set_option linter.unusedSimpArgs false
set_option linter.unusedVariables false
namespace Go.Proofs.YtdlccnmhcggjiaaGreatDoor
open Go.ChangeShapes Go.WideShapes Go.ChangeAt Go.RowKit Go.WideMaps Go.WideElems
attribute [local go_sem ↓] Go.wp_at_zero Go.wp_at_succ
theorem joinCatenates_walk (cs0 : Array Value) (S0 : Nat -> Int) (r0 : Nat) (ch0 : Bool) (g0 : Nat -> Int) (tn0 : Nat) (fB0 : Nat -> Bool) (fS0 fT0 : Nat -> ByteArray) (nn0 : Nat) (cs : Array Value) (S : Nat -> Int) (r : Nat) (ch : Bool) (g : Nat -> Int) (tn : Nat) (fB : Nat -> Bool) (fS fT : Nat -> ByteArray) (nn : Nat) (i : Int)
    (w : World) (h0 : PlnAt w cs0 S0 r0 ch0 g0 tn0 fB0 fS0 fT0 nn0) (hS0 : In64 S0 r0) (hz0 : ∀ j, j < nn0 -> (fS0 j).size <= maxLen /\ (fT0 j).size <= maxLen) (h : PlnAt w cs S r ch g tn fB fS fT nn) (hS : In64 S r) (hz : ∀ j, j < nn -> (fS j).size <= maxLen /\ (fT j).size <= maxLen) (hi : -9223372036854775808 <= i /\ i <= 9223372036854775807) :
    Calls Tryz.prog 3 #[.agg cs0, .agg cs, .int .i64 i] w fun e w' => e = .returned (.bool true) /\ Below w.heap.size w w' := by
 have HP0 := Lib.hid h0
 have HP := Lib.hid h
 obtain ⟨sb, scb, tb, tcb, nb, ncb, rfl, _⟩ := h0
 obtain ⟨sa, sc, ta, tc, na, nc, rfl, _⟩ := h
 have LP0 := Lib.hid (fun wz h => lightK_any (plC sb r0 scb ch0 tb tn0 tcb nb nn0 ncb) S0 r0 ch0 g0 tn0 fB0 fS0 fT0 nn0 wz h hS0 hz0)
 have LP := Lib.hid (fun wz h => lightK_any (plC sa r sc ch ta tn tc na nn nc) S r ch g tn fB fS fT nn wz h hS hz)
 have AW := Lib.hid (fun wz => awake10_any wz)
 have BB := Lib.hid (((Bag.start w).newRow (plC sb r0 scb ch0 tb tn0 tcb nb nn0 ncb) 26).newRow (plC sa r sc ch ta tn tc na nn nc) 26)
 simp only [World.size_alloc] at BB
 have HR := Lib.hid BB.out.now.2.1
 clear hS0 hz0 hS hz
 unfold plC
 go_enter Tryz.func3, Tryz.ntmps3
 go_wp2_with (refine ldPG (by rfl) 3 rfl w.heap.size (plC sb r0 scb ch0 tb tn0 tcb nb nn0 ncb) (by rfl) HR.out rfl ?_)
 go_at_call 8
 (with_reducible refine (LP0.out _ ?_).mono ?_)
 · exact HP0.out.below BB.out.below
 rintro e w2 ⟨b0, rfl, hb0, hb2⟩
 have BB := Lib.hid (BB.out.go hb2)
 clear hb2 LP0
 cases b0 with
 | false =>
  clear hb0 HR
  go_wp2_with fail
  go_at_call 9
  (with_reducible refine (AW.out _).mono ?_)
  rintro e w9 ⟨rfl, hb9⟩
  have HE := Lib.hid (BB.out.go hb9).below
  clear hb9
  go_wp2
  go_ret
  exact ⟨rfl, HE.out⟩
 | true =>
  obtain ⟨L0, rfl, rfl, hG0⟩ := hb0 rfl
  clear hb0
  have HR := Lib.hid BB.out.now.1
  go_wp2_with (refine ldPG (by rfl) 4 rfl (w.heap.size + 1) (plC sa r sc ch ta tn tc na nn nc) (by rfl) HR.out rfl ?_)
  go_at_call 8
  (with_reducible refine (LP.out _ ?_).mono ?_)
  · exact HP.out.below BB.out.below
  rintro e w3 ⟨b, rfl, hb, hb3⟩
  have BB := Lib.hid (BB.out.go hb3)
  clear hb3 LP
  cases b with
  | false =>
   clear hb HR hG0
   go_wp2_with fail
   go_at_call 9
   (with_reducible refine (AW.out _).mono ?_)
   rintro e w9 ⟨rfl, hb9⟩
   have HE := Lib.hid (BB.out.go hb9).below
   clear hb9
   go_wp2
   go_ret
   exact ⟨rfl, HE.out⟩
  | true =>
   obtain ⟨L, rfl, rfl, hG⟩ := hb rfl
   clear hb HR
   have hGL := hG.le
   have hGL0 := hG0.le
   have h8 := hG.rank
   have h80 := hG0.rank
   have OF0 := Lib.hid (fun wz h => of8_any (plC sb r0 scb ch0 tb (tnO ch0 L0) tcb nb (nnO ch0 L0) ncb) S0 r0 ch0 L0 g0 fB0 fS0 fT0 wz h hG0)
   have OF := Lib.hid (fun wz h => of8_any (plC sa r sc ch ta (tnO ch L) tc na (nnO ch L) nc) S r ch L g fB fS fT wz h hG)
   have HSM : (jnE (kdB ch0 L0 ch L) r0 S0 r S i) = 0 -> ((grR r0 r) <= 8 /\ (itm (jnT r0 S0 r S (caK (grR r0 r) i).toNat) (grR r0 r)).toNat <= 1000000) /\ ElSame (kdC ch0 L0 ch L) (itm (jnT r0 S0 r S (caK (grR r0 r) i).toNat) (grR r0 r)).toNat (wvF (jnN r0 S0 (grR r0 r) (grS r0 S0 r S) (caK (grR r0 r) i).toNat) (jnN r S (grR r0 r) (grS r0 S0 r S) (caK (grR r0 r) i).toNat) (fun j => elP L0 (gP fB0 fS0 fT0) (exG r0 j)) (fun j => elP L (gP fB fS fT) (exG r j))) (wvF (jnN r0 S0 (grR r0 r) (grS r0 S0 r S) (caK (grR r0 r) i).toNat) (jnN r S (grR r0 r) (grS r0 S0 r S) (caK (grR r0 r) i).toNat) (fun j => elQ L0 (gQ fB0 fS0 fT0) (exG r0 j)) (fun j => elQ L (gQ fB fS fT) (exG r j))) (wvF (jnN r0 S0 (grR r0 r) (grS r0 S0 r S) (caK (grR r0 r) i).toNat) (jnN r S (grR r0 r) (grS r0 S0 r S) (caK (grR r0 r) i).toNat) (fun j => elB L0 fB0 (exG r0 j)) (fun j => elB L fB (exG r j))) (wvF (jnN r0 S0 (grR r0 r) (grS r0 S0 r S) (caK (grR r0 r) i).toNat) (jnN r S (grR r0 r) (grS r0 S0 r S) (caK (grR r0 r) i).toNat) (fun j => elS L0 fS0 (rS 0) (exG r0 j)) (fun j => elS L fS (rS 0) (exG r j))) (wvF (jnN r0 S0 (grR r0 r) (grS r0 S0 r S) (caK (grR r0 r) i).toNat) (jnN r S (grR r0 r) (grS r0 S0 r S) (caK (grR r0 r) i).toNat) (fun j => elS L0 fT0 (str (dec 1)) (exG r0 j)) (fun j => elS L fT (str (dec 1)) (exG r j))) := fun e => by
    obtain ⟨q1, q2⟩ := jn_ok e
    obtain ⟨q3, q4⟩ := sh_count q2
    exact ⟨⟨q3, by omega⟩, wv_same hG0 hG q1 _ _ _ (exG r0) (exG r)⟩
   have TK0 := fun x0 x wz q0 q => catenate_any x0 S0 r0 ch0 L0 g0 (gP fB0 fS0 fT0) (gQ fB0 fS0 fT0) x S r ch L g (gP fB fS fT) (gQ fB fS fT) i wz q0 q hG0.sh hG0.cnt hG.sh hG.cnt hi
   have PT0 := fun wz q0 q => rcat_any (plC sb r0 scb ch0 tb (tnO ch0 L0) tcb nb (nnO ch0 L0) ncb) S0 r0 ch0 L0 g0 fB0 fS0 fT0 (plC sa r sc ch ta (tnO ch L) tc na (nnO ch L) nc) S r ch L g fB fS fT i wz q0 q hG0.sh hG0.cnt hG.sh hG.cnt hi
   obtain ⟨P, hP⟩ : ∃ f : Nat -> Int, (wvF (jnN r0 S0 (grR r0 r) (grS r0 S0 r S) (caK (grR r0 r) i).toNat) (jnN r S (grR r0 r) (grS r0 S0 r S) (caK (grR r0 r) i).toNat) (fun j => elP L0 (gP fB0 fS0 fT0) (exG r0 j)) (fun j => elP L (gP fB fS fT) (exG r j))) = f := ⟨_, rfl⟩
   obtain ⟨Q, hQ⟩ : ∃ f : Nat -> Nat, (wvF (jnN r0 S0 (grR r0 r) (grS r0 S0 r S) (caK (grR r0 r) i).toNat) (jnN r S (grR r0 r) (grS r0 S0 r S) (caK (grR r0 r) i).toNat) (fun j => elQ L0 (gQ fB0 fS0 fT0) (exG r0 j)) (fun j => elQ L (gQ fB fS fT) (exG r j))) = f := ⟨_, rfl⟩
   obtain ⟨B, hB⟩ : ∃ f : Nat -> Bool, (wvF (jnN r0 S0 (grR r0 r) (grS r0 S0 r S) (caK (grR r0 r) i).toNat) (jnN r S (grR r0 r) (grS r0 S0 r S) (caK (grR r0 r) i).toNat) (fun j => elB L0 fB0 (exG r0 j)) (fun j => elB L fB (exG r j))) = f := ⟨_, rfl⟩
   obtain ⟨U, hU⟩ : ∃ f : Nat -> ByteArray, (wvF (jnN r0 S0 (grR r0 r) (grS r0 S0 r S) (caK (grR r0 r) i).toNat) (jnN r S (grR r0 r) (grS r0 S0 r S) (caK (grR r0 r) i).toNat) (fun j => elS L0 fS0 (rS 0) (exG r0 j)) (fun j => elS L fS (rS 0) (exG r j))) = f := ⟨_, rfl⟩
   obtain ⟨V, hV⟩ : ∃ f : Nat -> ByteArray, (wvF (jnN r0 S0 (grR r0 r) (grS r0 S0 r S) (caK (grR r0 r) i).toNat) (jnN r S (grR r0 r) (grS r0 S0 r S) (caK (grR r0 r) i).toNat) (fun j => elS L0 fT0 (str (dec 1)) (exG r0 j)) (fun j => elS L fT (str (dec 1)) (exG r j))) = f := ⟨_, rfl⟩
   obtain ⟨G, hG'⟩ : ∃ f : Nat -> Int, (wvF (jnN r0 S0 (grR r0 r) (grS r0 S0 r S) (caK (grR r0 r) i).toNat) (jnN r S (grR r0 r) (grS r0 S0 r S) (caK (grR r0 r) i).toNat) (fun j => elC L0 g0 32 (exG r0 j)) (fun j => elC L g 32 (exG r j))) = f := ⟨_, rfl⟩
   obtain ⟨M, hM⟩ : ∃ f : Nat, (itm (jnT r0 S0 r S (caK (grR r0 r) i).toNat) (grR r0 r)).toNat = f := ⟨_, rfl⟩
   obtain ⟨E, hE⟩ : ∃ f : Int, (jnE (kdB ch0 L0 ch L) r0 S0 r S i) = f := ⟨_, rfl⟩
   obtain ⟨T, hT⟩ : ∃ f : Nat -> Int, (jnT r0 S0 r S (caK (grR r0 r) i).toNat) = f := ⟨_, rfl⟩
   obtain ⟨RK, hRK⟩ : ∃ f : Nat, (grR r0 r) = f := ⟨_, rfl⟩
   obtain ⟨CH, hCH⟩ : ∃ f : Bool, (kdC ch0 L0 ch L) = f := ⟨_, rfl⟩
   rw [hP, hQ, hB, hU, hV, hM, hE, hRK, hCH] at HSM
   obtain ⟨mP, hmP⟩ : ∃ f, (gP fB0 fS0 fT0) = f := ⟨_, rfl⟩
   obtain ⟨mQ, hmQ⟩ : ∃ f, (gQ fB0 fS0 fT0) = f := ⟨_, rfl⟩
   obtain ⟨nP, hnP⟩ : ∃ f, (gP fB fS fT) = f := ⟨_, rfl⟩
   obtain ⟨nQ, hnQ⟩ : ∃ f, (gQ fB fS fT) = f := ⟨_, rfl⟩
   rw [hmP, hmQ] at OF0
   rw [hnP, hnQ] at OF
   have TK : Hid (∀ x0 x wz, Arr wz x0 S0 r0 ch0 L0 g0 mP mQ -> Arr wz x S r ch L g nP nQ -> Calls Tryz.prog 10 #[.agg x0, .agg x, .int .i64 i] wz fun e w' => ∃ y, e = .returned (.tuple #[.agg y, .int .i64 E]) /\ MoR w' y E T RK CH M G P Q /\ Below wz.heap.size wz w') := Lib.hid (fun x0 x wz q0 q => by
    subst hmP hmQ hnP hnQ
    refine (TK0 x0 x wz q0 q).mono (fun _ _ hq => ?_)
    rw [hP, hQ, hG', hM, hE, hT, hRK, hCH] at hq
    exact hq.res)
   have PT : Hid (∀ wz, Pln wz (plC sb r0 scb ch0 tb (tnO ch0 L0) tcb nb (nnO ch0 L0) ncb) S0 r0 ch0 L0 g0 fB0 fS0 fT0 -> Pln wz (plC sa r sc ch ta (tnO ch L) tc na (nnO ch L) nc) S r ch L g fB fS fT -> Calls Tryz.prog 12 #[.agg (plC sb r0 scb ch0 tb (tnO ch0 L0) tcb nb (nnO ch0 L0) ncb), .agg (plC sa r sc ch ta (tnO ch L) tc na (nnO ch L) nc), .int .i64 i] wz fun e w' => ∃ y, e = .returned (.tuple #[.agg y, .int .i64 E]) /\ PoR w' y E T RK CH M G B U V /\ Below wz.heap.size wz w') := Lib.hid (fun wz q0 q => by
    refine (PT0 wz q0 q).mono (fun _ _ hq => ?_)
    rw [hB, hU, hV, hG', hM, hE, hT, hRK, hCH] at hq
    exact hq.res)
   have SO : Hid (∀ x p wz, MoR wz x E T RK CH M G P Q -> PoR wz p E T RK CH M G B U V -> Calls Tryz.prog 13 #[.agg x, .int .i64 E, .agg p, .int .i64 E] wz fun e w' => e = .returned (.bool true) /\ Below wz.heap.size wz w') := Lib.hid (fun x p wz q z => showsM_any x p E T RK CH M G P Q B U V wz q z HSM)
   clear hmP hmQ hnP hnQ hP hQ hB hU hV hG' hM hE hT hRK hCH hG hG0 hGL hGL0 h8 h80 hi HSM TK0 PT0
   have RWP : Hid (∀ yz, Below w3.heap.size w3 yz -> Row yz (w.heap.size + 1) 26 (plC sa r sc ch ta (tnO ch L) tc na (nnO ch L) nc)) := Lib.hid (fun yz hb => Row.below BB.out.now.1 hb)
   have RWB : Hid (∀ yz, Below w3.heap.size w3 yz -> Row yz (w.heap.size) 26 (plC sb r0 scb ch0 tb (tnO ch0 L0) tcb nb (nnO ch0 L0) ncb)) := Lib.hid (fun yz hb => Row.below BB.out.now.2.1 hb)
   have BB := Lib.hid (Bag.fresh BB.out.below)
   go_wp2_with fail
   refine wp_region_inv2 ⟨(fun j => ([[21], [22], [23], [24], [25], [26], [20], [27], [28], [7], [7], [8]] : List (List Nat)).getD j []), (fun j => ([[], [0], [], [0, 1, 2], [], [0, 1, 2, 3, 4], [0, 1, 2, 3, 4, 5], [0, 1, 2, 3, 4, 5, 6], [0, 1, 2, 3, 4, 5, 6], [], [0, 1, 2, 3, 4, 5, 6, 7, 9], [0, 1, 2, 3, 4, 5, 6, 7, 8, 9, 10]] : List (List Nat)).getD j []), [9]⟩ (fun jj vv yy => match jj with | 0 => vv = [some (.agg (plC sb r0 scb ch0 tb (tnO ch0 L0) tcb nb (nnO ch0 L0) ncb))] | 1 => ∃ (x1 : Array Value), vv = [some (.agg x1)] /\ Arr yy x1 S0 r0 ch0 L0 g0 mP mQ | 2 => vv = [some (.agg (plC sa r sc ch ta (tnO ch L) tc na (nnO ch L) nc))] | 3 => ∃ (x3 : Array Value), vv = [some (.agg x3)] /\ Arr yy x3 S r ch L g nP nQ | 4 => vv = [some (.int .i64 i)] | 5 => ∃ (x5 : Array Value), vv = [some (.tuple #[.agg x5, .int .i64 E])] /\ MoR yy x5 E T RK CH M G P Q /\ IsA x5 | 6 => ∃ (x5 : Array Value), vv = [some (.tuple #[.agg x5, .int .i64 E])] /\ MoR yy x5 E T RK CH M G P Q /\ IsA x5 | 7 => ∃ (x5 : Array Value), vv = [some (.agg x5)] /\ MoR yy x5 E T RK CH M G P Q /\ IsA x5 | 8 => vv = [some (.int .i64 E)] | 9 => ∃ (k9 : Nat), ∃ (z9 : Array Value), vv = [some (.pointer (some ⟨k9, 0, none⟩))] /\ Row yy k9 32 z9 /\ IsA z9 /\ w3.heap.size <= k9 | 10 => ∃ (k9 : Nat), ∃ (x5 : Array Value), vv = [some (.pointer (some ⟨k9, 0, none⟩))] /\ Row yy k9 32 x5 /\ MoR yy x5 E T RK CH M G P Q /\ IsA x5 | 11 => vv = [some (.int .i64 E)] | _ => True) (Bag w3 (fun _ => True)) (by kernel_rfl) (by kernel_rfl) (by kernel_rfl) (Bag.start w3).drew ?_ ?_ ?_
   · intro jj vv yw yw2 hb h
     match jj, h with
     | 0, h => exact h
     | 1, ⟨x1, e1, g1_0⟩ => exact Exists.intro x1 (And.intro e1 (g1_0.below hb))
     | 2, h => exact h
     | 3, ⟨x3, e3, g3_0⟩ => exact Exists.intro x3 (And.intro e3 (g3_0.below hb))
     | 4, h => exact h
     | 5, ⟨x5, e5, g5_0, g5_1⟩ => exact Exists.intro x5 (And.intro e5 (And.intro (g5_0.below hb) g5_1))
     | 6, ⟨x5, e6, g6_0, g6_1⟩ => exact Exists.intro x5 (And.intro e6 (And.intro (g6_0.below hb) g6_1))
     | 7, ⟨x5, e7, g7_0, g7_1⟩ => exact Exists.intro x5 (And.intro e7 (And.intro (g7_0.below hb) g7_1))
     | 8, h => exact h
     | 9, ⟨k9, z9, e9, g9_0, g9_1, g9_2⟩ => exact Exists.intro k9 (Exists.intro z9 (And.intro e9 (And.intro (g9_0.below hb) (And.intro g9_1 g9_2))))
     | 10, ⟨k9, x5, e10, g10_0, g10_1, g10_2⟩ => exact Exists.intro k9 (Exists.intro x5 (And.intro e10 (And.intro (g10_0.below hb) (And.intro (g10_1.below hb) g10_2))))
     | 11, h => exact h
     | _ + 12, h => exact h
   · intro ac yw hsz hdf hold hB hp
     obtain ⟨ka, xa, es, rs, ms, zs⟩ := hp 10 (by decide)
     have t7 : ac.tmps[7]? = some (.pointer (some ⟨ka, 0, none⟩)) := (List.cons.inj es).1
     have t8 : ac.tmps[8]? = some (.int .i64 E) := (List.cons.inj (hp 11 (by decide))).1
     have t2 : ac.tmps[2]? = some (.int .i64 i) := hold 2 (by kernel_rfl)
     have t3 : ac.tmps[3]? = some (.pointer (some ⟨w.heap.size, 0, none⟩)) := hold 3 (by kernel_rfl)
     have t4 : ac.tmps[4]? = some (.pointer (some ⟨w.heap.size + 1, 0, none⟩)) := hold 4 (by kernel_rfl)
     have HRB := Lib.hid (RWB.out _ hB.below)
     have HRP := Lib.hid (RWP.out _ hB.below)
     have BB := Lib.hid (BB.out.go hB.below)
     have HM := Lib.hid ms
     have SZ := Lib.hid zs
     have HR := Lib.hid rs
     clear hold hp es rs ms zs hB RWB RWP
     obtain ⟨TV, hTV⟩ : ∃ TV : Nat -> Value, ∀ i, (ac.tmps[i]?).getD undef = TV i := ⟨_, fun _ => rfl⟩
     have f2 := (hTV 2).symm.trans (congrArg (fun x => Option.getD x undef) t2)
     have f3 := (hTV 3).symm.trans (congrArg (fun x => Option.getD x undef) t3)
     have f4 := (hTV 4).symm.trans (congrArg (fun x => Option.getD x undef) t4)
     have f7 := (hTV 7).symm.trans (congrArg (fun x => Option.getD x undef) t7)
     have f8 := (hTV 8).symm.trans (congrArg (fun x => Option.getD x undef) t8)
     have hac := act_eq (n := 44) hsz TV hTV
     rw [show ((List.range 44).map TV).toArray = #[TV 0, TV 1, TV 2, TV 3, TV 4, TV 5, TV 6, TV 7, TV 8, TV 9, TV 10, TV 11, TV 12, TV 13, TV 14, TV 15, TV 16, TV 17, TV 18, TV 19, TV 20, TV 21, TV 22, TV 23, TV 24, TV 25, TV 26, TV 27, TV 28, TV 29, TV 30, TV 31, TV 32, TV 33, TV 34, TV 35, TV 36, TV 37, TV 38, TV 39, TV 40, TV 41, TV 42, TV 43] from rfl, f2, f3, f4, f7, f8, hdf] at hac
     simp only [Option.getD_some] at hac
     subst hac
     clear hTV f2 f3 f4 f7 f8
     go_wp2_with (first
      | (refine ld_pln rfl (.tmp 3) rfl (w.heap.size) rfl HRB.out ?_)
      | (refine ld_pln rfl (.tmp 4) rfl (w.heap.size + 1) rfl HRP.out ?_))
     go_at_call 12
     (refine (PT.out _ (HP0.out.below BB.out.below) (HP.out.below BB.out.below)).mono ?_)
     rintro e w8 ⟨p8, rfl, h8, hb8⟩
     obtain ⟨qa, qn, qc, qh, qt, qtn, qtc, qr, qrn, qrc, hpq⟩ := h8.1
     subst hpq
     have hZ : Below w8.heap.size w8 ((w8.alloc (.cells plZer 26)).setRow w8.heap.size (plC qa qn qc qh qt qtn qtc qr qrn qrc)) := below_put ((Below.refl _ w8).alloc (Nat.le_refl _) (.cells plZer 26)) (Nat.le_refl _) (plC qa qn qc qh qt qtn qtc qr qrn qrc)
     have HZ : Hid (Row (w8.alloc (.cells plZer 26)) w8.heap.size 26 plZer) := Lib.hid (Row.new w8 _ plZer)
     have HRX := Lib.hid (HZ.out.put (plC qa qn qc qh qt qtn qtc qr qrn qrc))
     have HX := Lib.hid (h8.below hZ)
     have HM := Lib.hid ((HM.out.below hb8).below hZ)
     have HR := Lib.hid ((HR.out.below hb8).below hZ)
     have BB := Lib.hid ((BB.out.go hb8).go hZ)
     clear h8 hb8 hZ HRB HRP
     go_wp2_with (first
      | (refine st_pln rfl (.tmp 9) (.tmp 34) rfl w8.heap.size rfl _ _ _ _ _ _ _ _ _ _ rfl HZ.out rfl ?_)
      | (refine ld8G (by rfl) 7 rfl ka xa (by rfl) HR.out SZ.out.size ?_)
      | (refine ldPG (by rfl) 9 rfl w8.heap.size (plC qa qn qc qh qt qtn qtc qr qrn qrc) (by rfl) HRX.out rfl ?_))
     go_at_call 13
     (refine (SO.out _ _ _ HM.out HX.out).mono ?_)
     rintro e w11 ⟨rfl, hb11⟩
     have BB := Lib.hid (BB.out.go hb11)
     clear hb11
     go_wp2_with fail
     go_at_call 9
     (with_reducible refine (AW.out _).mono ?_)
     rintro e w9 ⟨rfl, hb9⟩
     have HE := Lib.hid (BB.out.go hb9).below
     clear hb9
     go_wp2
     go_ret
     exact ⟨rfl, HE.out⟩
   refine Stps2.cons (o := _) ?_ ?_
   · intro ac yw hsz hold hB hp K hK
     have t3 : ac.tmps[3]? = some (.pointer (some ⟨w.heap.size, 0, none⟩)) := hold 3 (by kernel_rfl)
     clear hold hp hsz
     rw [if_pos (by rfl)]
     refine ldP 3 rfl (w.heap.size) ((plC sb r0 scb ch0 tb (tnO ch0 L0) tcb nb (nnO ch0 L0) ncb)) t3 (RWB.out _ hB.below) (rfl) ?_
     exact hK.out _ _ ⟨hB, rfl, Nat.le_refl _, .inl (Below.refl _ _), fun h => absurd h (by decide)⟩
   refine Stps2.cons (o := _) ?_ ?_
   · intro ac yw hsz hold hB hp K hK
     have e0 := hp 0 (by decide)
     have t21 : ac.tmps[21]? = some (.agg (plC sb r0 scb ch0 tb (tnO ch0 L0) tcb nb (nnO ch0 L0) ncb)) := (List.cons.inj e0).1
     clear hold hp hsz e0
     go_simp
     (go_at_call 11; (refine (OF0.out _ (HP0.out.below (BB.out.go hB.below).below)).mono ?_); rintro e wz ⟨x1, rfl, h1_0, hbz⟩)
     exact hK.out _ _ ⟨hB.go hbz, Exists.intro x1 (And.intro rfl h1_0), hbz.size, .inl hbz, fun h => absurd h (by decide)⟩
   refine Stps2.cons (o := _) ?_ ?_
   · intro ac yw hsz hold hB hp K hK
     have t4 : ac.tmps[4]? = some (.pointer (some ⟨w.heap.size + 1, 0, none⟩)) := hold 4 (by kernel_rfl)
     clear hold hp hsz
     rw [if_pos (by rfl)]
     refine ldP 4 rfl (w.heap.size + 1) ((plC sa r sc ch ta (tnO ch L) tc na (nnO ch L) nc)) t4 (RWP.out _ hB.below) (rfl) ?_
     exact hK.out _ _ ⟨hB, rfl, Nat.le_refl _, .inl (Below.refl _ _), fun h => absurd h (by decide)⟩
   refine Stps2.cons (o := _) ?_ ?_
   · intro ac yw hsz hold hB hp K hK
     have e2 := hp 2 (by decide)
     have t23 : ac.tmps[23]? = some (.agg (plC sa r sc ch ta (tnO ch L) tc na (nnO ch L) nc)) := (List.cons.inj e2).1
     clear hold hp hsz e2
     go_simp
     (go_at_call 11; (refine (OF.out _ (HP.out.below (BB.out.go hB.below).below)).mono ?_); rintro e wz ⟨x3, rfl, h3_0, hbz⟩)
     exact hK.out _ _ ⟨hB.go hbz, Exists.intro x3 (And.intro rfl h3_0), hbz.size, .inl hbz, fun h => absurd h (by decide)⟩
   refine Stps2.cons (o := _) ?_ ?_
   · intro ac yw hsz hold hB hp K hK
     have t2 : ac.tmps[2]? = some (.int .i64 i) := hold 2 (by kernel_rfl)
     clear hold hp hsz
     go_simp
     exact hK.out _ _ ⟨hB, rfl, Nat.le_refl _, .inl (Below.refl _ _), fun h => absurd h (by decide)⟩
   refine Stps2.cons (o := _) ?_ ?_
   · intro ac yw hsz hold hB hp K hK
     obtain ⟨x1_1, e1, g1_0⟩ := hp 1 (by decide)
     have t22 : ac.tmps[22]? = some (.agg x1_1) := (List.cons.inj e1).1
     obtain ⟨x3_3, e3, g3_0⟩ := hp 3 (by decide)
     have t24 : ac.tmps[24]? = some (.agg x3_3) := (List.cons.inj e3).1
     have e4 := hp 4 (by decide)
     have t25 : ac.tmps[25]? = some (.int .i64 i) := (List.cons.inj e4).1
     clear hold hp hsz e1 e3 e4
     go_simp
     (go_at_call 10; (refine (TK.out _ _ _ g1_0 g3_0).mono ?_); rintro e wz ⟨x5, rfl, h5_0, hbz⟩)
     exact hK.out _ _ ⟨hB.go hbz, Exists.intro x5 (And.intro rfl (And.intro h5_0 h5_0.1)), hbz.size, .inl hbz, fun h => absurd h (by decide)⟩
   refine Stps2.cons (o := _) ?_ ?_
   · intro ac yw hsz hold hB hp K hK
     obtain ⟨x5_5, e5, g5_0, g5_1⟩ := hp 5 (by decide)
     have t26 : ac.tmps[26]? = some (.tuple #[.agg x5_5, .int .i64 E]) := (List.cons.inj e5).1
     clear hold hp hsz e5
     go_simp
     exact hK.out _ _ ⟨hB, Exists.intro x5_5 (And.intro rfl (And.intro g5_0 g5_1)), Nat.le_refl _, .inl (Below.refl _ _), fun h => absurd h (by decide)⟩
   refine Stps2.cons (o := _) ?_ ?_
   · intro ac yw hsz hold hB hp K hK
     obtain ⟨x5_6, e6, g6_0, g6_1⟩ := hp 6 (by decide)
     have t20 : ac.tmps[20]? = some (.tuple #[.agg x5_6, .int .i64 E]) := (List.cons.inj e6).1
     clear hold hp hsz e6
     go_simp
     exact hK.out _ _ ⟨hB, Exists.intro x5_6 (And.intro rfl (And.intro g6_0 g6_1)), Nat.le_refl _, .inl (Below.refl _ _), fun h => absurd h (by decide)⟩
   refine Stps2.cons (o := _) ?_ ?_
   · intro ac yw hsz hold hB hp K hK
     obtain ⟨x5_6, e6, g6_0, g6_1⟩ := hp 6 (by decide)
     have t20 : ac.tmps[20]? = some (.tuple #[.agg x5_6, .int .i64 E]) := (List.cons.inj e6).1
     clear hold hp hsz e6
     go_simp
     exact hK.out _ _ ⟨hB, rfl, Nat.le_refl _, .inl (Below.refl _ _), fun h => absurd h (by decide)⟩
   refine Stps2.cons (o := _) ?_ ?_
   · intro ac yw hsz hold hB hp K hK
     clear hold hp hsz
     have hbz : Below yw.heap.size yw (yw.alloc (.cells zerC 32)) /\ yw.heap.size < (yw.alloc (.cells zerC 32)).heap.size := ⟨(Below.refl _ _).alloc (Nat.le_refl _) _, by rw [World.size_alloc]; omega⟩
     go_simp
     exact hK.out _ _ ⟨hB.alloc _, Exists.intro yw.heap.size (Exists.intro zerC (And.intro rfl (And.intro ((Row.new yw _ zerC)) (And.intro IsA.zer hB.below.size)))), Nat.le_of_lt hbz.2, .inl hbz.1, fun _ => ⟨_, rfl, Nat.le_refl _, hbz.2⟩⟩
   refine Stps2.cons (o := _) ?_ ?_
   · intro ac yw hsz hold hB hp K hK
     obtain ⟨k9_9, z9_9, e9, g9_0, g9_1, g9_2⟩ := hp 9 (by decide)
     have t7 : ac.tmps[7]? = some (.pointer (some ⟨k9_9, 0, none⟩)) := (List.cons.inj e9).1
     obtain ⟨x5_7, e7, g7_0, g7_1⟩ := hp 7 (by decide)
     have t27 : ac.tmps[27]? = some (.agg x5_7) := (List.cons.inj e7).1
     clear hold hp hsz e9 e7
     rw [if_pos (by rfl)]
     have HB : Bag _ (fun _ => True) (yw.setRow k9_9 x5_7) := ⟨below_put hB.below g9_2 _, fun _ _ _ _ => trivial, trivial⟩
     refine st8 7 27 rfl k9_9 x5_7 t7 t27 _ z9_9 g9_0 g9_1 g7_1 ?_
     refine hK.out undef _ ⟨HB, Exists.intro k9_9 (Exists.intro x5_7 (And.intro (congrArg (fun x => [x]) t7) (And.intro (g9_0.put _) (And.intro (g7_0.store g9_0 g9_1 _) g7_1)))), by simp [World.setRow], .inr ?_, fun h => absurd h (by decide)⟩
     intro jj hj hap h
     match jj, h with
     | 0, h => exact h
     | 1, ⟨x1, e1, g1_0⟩ =>
      exact Exists.intro x1 (And.intro e1 (g1_0.store g9_0 g9_1 _))
     | 2, h => exact h
     | 3, ⟨x3, e3, g3_0⟩ =>
      exact Exists.intro x3 (And.intro e3 (g3_0.store g9_0 g9_1 _))
     | 4, h => exact h
     | 5, ⟨x5, e5, g5_0, g5_1⟩ =>
      exact Exists.intro x5 (And.intro e5 (And.intro (g5_0.store g9_0 g9_1 _) g5_1))
     | 6, ⟨x5, e6, g6_0, g6_1⟩ =>
      exact Exists.intro x5 (And.intro e6 (And.intro (g6_0.store g9_0 g9_1 _) g6_1))
     | 7, ⟨x5, e7, g7_0, g7_1⟩ =>
      exact Exists.intro x5 (And.intro e7 (And.intro (g7_0.store g9_0 g9_1 _) g7_1))
     | 8, h => exact h
     | 9, ⟨k9, z9, e9, g9_0, g9_1, g9_2⟩ =>
      have e9 : k9 = k9_9 := by have := (List.cons.inj e9).1.symm.trans t7; cases this; rfl
      subst e9
      exact Exists.intro _ (Exists.intro _ (And.intro e9 (And.intro (g9_0.put _) (And.intro g7_1 g9_2))))
     | 10, _ => exact absurd rfl hj
     | 11, h => exact h
     | _ + 12, h => exact h
   refine Stps2.cons (o := _) ?_ ?_
   · intro ac yw hsz hold hB hp K hK
     have e8 := hp 8 (by decide)
     have t28 : ac.tmps[28]? = some (.int .i64 E) := (List.cons.inj e8).1
     clear hold hp hsz e8
     go_simp
     exact hK.out _ _ ⟨hB, rfl, Nat.le_refl _, .inl (Below.refl _ _), fun h => absurd h (by decide)⟩
   exact Stps2.nil _
theorem own : ownKnob Tryz.prog.godebug = none := by kernel_rfl
theorem laidOut : laidOutB Tryz.prog = true := by kernel_rfl
theorem joinCatenates_lifted (os : Os) (started : os.Started) (H : Type) (enc : TypeId × Value -> H) :
    ReturnsInHanded {} Tryz.checked os 3 .any (fun w args => (Rows.joinCatenatesSpec.pre enc Tryz.prog Tryz.f3 [] false w args /\ laidMetH Tryz.prog Rows.joinCatenatesRow.laid w) /\ sizedMet enc Tryz.prog Tryz.f3 (OpenSpec.ofChange Rows.joinCatenatesSpec) false w args)
     (Rows.joinCatenatesSpec.post enc Tryz.prog Tryz.f3 false true false false) := by
 refine returnsInHanded_of_change_and (C := Tryz.checked) (X := fun w _ => laidMetH Tryz.prog Rows.joinCatenatesRow.laid w) (fun _ _ _ hh h => h.of_heap hh) own started (by kernel_rfl) Tryz.func3
  (ChangeSpec.witness_shaped (enc := enc) (C := Tryz.checked) (os := os) (X := fun w _ => laidMetH Tryz.prog Rows.joinCatenatesRow.laid w) false (World.laidAll Tryz.prog os Rows.joinCatenatesRow.laid) #[.agg #[.slice none 0 0, .bool false, .slice none 0 0, .slice none 0 0], .agg #[.slice none 0 0, .bool false, .slice none 0 0, .slice none 0 0], .int .i64 0] 8 (World.laidAll_os _ _ _)
    (World.shaped_of_ZipB (by kernel_rfl) (by kernel_rfl)) (by kernel_rfl) (by kernel_rfl) (by kernel_rfl)
    (by rw [MakeChecks.laidMetH_plain _ _ _ (by kernel_rfl)]; exact laidMet_laidAll _ (by kernel_rfl) (by kernel_rfl))) ?_
 intro W base args ds gs before hval0 hW _ _ _ _
 have hval : ∀ (j : Nat) t v, Tryz.f3.params[j]? = some t -> args[j]? = some v -> Value.okWide Tryz.prog W .any base t v := hval0
 have hW' := hW
 obtain ⟨p, q, hA0, hV, rfl, _, _⟩ := hW
 have hA : DataW.TrodAll enc Tryz.prog W 0 (fun _ => true) true Tryz.f3.params.toList args.toList ds p := hA0
 rw [Tryz.params3] at hA hval
 obtain ⟨v0, v1, v2, d0, d1, d2, p0, p1, p2, rfl, rfl, rfl, h0, h1, h2⟩ := trodAll_three hA
 obtain ⟨rfl, rfl⟩ := trodVars_none hV
 obtain ⟨cs0, S0, q0, ch0, g0, tn0, fB0, fS0, fT0, nn0, rfl, k0, w0, z0⟩ := open_pln (hval 0 26 v0 rfl rfl) h0
 obtain ⟨cs1, S1, q1, ch1, g1, tn1, fB1, fS1, fT1, nn1, rfl, k1, w1, z1⟩ := open_pln (hval 1 26 v1 rfl rfl) h1
 obtain ⟨x2, rfl, rfl, rfl, w2⟩ := open_int Tryz.underlying3 (hval 2 3 v2 rfl rfl) h2
 have b2 : -9223372036854775808 <= x2 /\ x2 <= 9223372036854775807 := by simpa [Lit.wf, IntKind.min, IntKind.max, IntKind.signed, IntKind.bits] using w2
 have hlt : ∀ y ∈ p0 ++ (p1 ++ ([])), y.block < W.heap.size := fun y hy => by simpa using hW'.lt y (by simpa using hy)
 simp only [List.append_nil] at hW'
 refine (joinCatenates_walk cs0 S0 q0 ch0 g0 tn0 fB0 fS0 fT0 nn0 cs1 S1 q1 ch1 g1 tn1 fB1 fS1 fT1 nn1 x2 W k0 w0 z0 k1 w1 z1 b2).mono fun e W' ⟨he, hb⟩ => ?_
 subst he
 exact ⟨_, rfl, _, _, _, [], _, [], hW', trodAll_mk1 (shut_bool Tryz.underlying4 _), trodAll_mk3 (Below.trod laidOut (by kernel_rfl) (of_decide_eq_true (by kernel_rfl)) h0 hb (fun y hy => hlt y (by simp [hy]))) (Below.trod laidOut (by kernel_rfl) (of_decide_eq_true (by kernel_rfl)) h1 hb (fun y hy => hlt y (by simp [hy]))) (shut_int Tryz.underlying3 w2), rfl, hb.frame _, fun h => by cases h⟩
theorem joinCatenates_row : Rows.JoinCatenatesSaid :=
 OpenClaim.holds_of_wide 3 Tryz.f3 rfl rfl rfl rfl rfl rfl rfl ⟨rfl, rfl, rfl, rfl, rfl⟩ rfl rfl rfl rfl rfl (by kernel_rfl) Tryz.func3 (by kernel_rfl)
  (of_decide_eq_true (by kernel_rfl)) (by unfold Func.isWrapper; first | (rw [if_pos (by decide +kernel)]; kernel_rfl) | (rw [if_neg (by decide +kernel)]; exact ⟨rfl, rfl⟩))
  (fun os started H enc _ => joinCatenates_lifted os started H enc)
theorem joinCatenates_holds : Rows.JoinCatenatesCardSaid :=
 Claim7.holds_tied_plain_at .later [] [.data, .pinned] true Rows.joinCatenatesCard.stood.harness Rows.joinCatenatesCard.stood.looks joinCatenates_row (fun _ h => by cases h) (by kernel_rfl) (fun _ h => by cases h) joinCatenates_row_tie rfl ⟨rfl, rfl⟩ (by kernel_rfl) rfl
  (fun f fn hf hfn => by
    obtain rfl : f = 3 := Option.some.inj ((show Tryz.prog.funcNamed "typeball/typeballlaw10.JoinCatenates" = some 3 by kernel_rfl).symm.trans hf) |>.symm
    obtain rfl : fn = Tryz.f3 := (Option.some.inj (Tryz.func3.symm.trans hfn)).symm
    exact ⟨by kernel_rfl, fun j t ht => by
     rw [Tryz.params3] at ht
     have hm : t ∈ [26, 3] := by simpa using Array.mem_of_getElem? ht
     have hall : ([26, 3].all fun u => !Tryz.prog.wantsStandIn u) = true := by kernel_rfl
     exact (show Tryz.prog.wantsStandIn t = false by simpa using List.all_eq_true.1 hall t hm)⟩)
  (by kernel_rfl)
#print axioms joinCatenates_holds
end Go.Proofs.YtdlccnmhcggjiaaGreatDoor
