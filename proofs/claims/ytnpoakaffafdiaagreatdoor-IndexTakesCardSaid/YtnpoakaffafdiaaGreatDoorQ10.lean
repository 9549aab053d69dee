/-
  Texts of this seat, laid together.
-/
import Derived.Deep.QuietTactic
import Derived.BigQuiet
import Derived.StillTailTactics
import Derived.Test.YtnpoakaffafdiaaGreatDoorQ1
import Derived.Test.YtnpoakaffafdiaaGreatDoorQ2
import Derived.Test.YtnpoakaffafdiaaGreatDoorQ3
import Derived.Test.YtnpoakaffafdiaaGreatDoorQ4
import Derived.Test.YtnpoakaffafdiaaGreatDoorQ5
import Derived.Test.YtnpoakaffafdiaaGreatDoorQ6
import Derived.Test.YtnpoakaffafdiaaGreatDoorQ7
import Derived.Test.YtnpoakaffafdiaaGreatDoorQ8
import Derived.Test.YtnpoakaffafdiaaGreatDoorQ9
set_option maxHeartbeats 12800000
set_option maxRecDepth 100000
set_option linter.unusedSimpArgs false
set_option linter.unusedVariables false
namespace Go.Proofs.YtnpoakaffafdiaaGreatDoor
open Go.RowKit
attribute [local go_sem ↓] Go.wp_at_zero Go.wp_at_succ
def iwD1 : Nat -> Sb := fun _ => (false, (fun _ => ((2 : Nat) : Int)), 1, false, 2, (fun _ => 0), lt [3, 1], (fun _ => 1))
def iwD2 : Nat -> Sb := fun _ => (false, (fun _ => 0), 0, false, 1, (fun _ => 0), (fun _ => 2), (fun _ => 1))
def iw1S : Nat -> Int := ixT (fun _ => ((3 : Nat) : Int)) iwD1 1
def iwG1 : Nat -> Int := pkG (fun _ => ((3 : Nat) : Int)) (lnF (ixN (fun _ => ((3 : Nat) : Int)) iwD1)) 1 (ixF 1 iwD1)
def iw1g : Nat -> Int := fun j => elC 3 (fun _ => 0) 32 (iwG1 j)
def iw1P : Nat -> Int := fun j => elP 3 (lt [5, 6, 7]) (iwG1 j)
def iw1Q : Nat -> Nat := fun j => elQ 3 (fun _ => 1) (iwG1 j)
def iwG2 : Nat -> Int := pkG (fun _ => ((3 : Nat) : Int)) (lnF (ixN (fun _ => ((3 : Nat) : Int)) iwD2)) 1 (ixF 1 iwD2)
def iwM2 : Nat := (itm (lnF (ixN (fun _ => ((3 : Nat) : Int)) iwD2)) 1).toNat
def iw2g : Nat -> Int := puF iwG2 (fun j => (fun _ => 0 : Nat -> Int) (j % 1)) iwM2 (fun _ => 0)
def iw2P : Nat -> Int := puF iwG2 (fun j => (fun _ => 9 : Nat -> Int) (j % 1)) iwM2 (lt [5, 6, 7])
def iw2Q : Nat -> Nat := puF iwG2 (fun j => (fun _ => 1 : Nat -> Nat) (j % 1)) iwM2 (fun _ => 1)
theorem SRow.one {yw : World} {al ch : Bool} {more : Int} {d : Nat -> Int} {na : Option Addr} {nn nc : Nat} {ta : Option Addr} {tn tc : Nat} {D : Nat -> Sb} (e1 : al = (D 0).al) (e2 : ch = (D 0).ch) (e3 : more = ((D 0).r : Nat) - 1) (e4 : d = dm (D 0).S (D 0).r)
    (h : Arr yw (arrC ch more d na nn nc ta tn tc) (D 0).S (D 0).r (D 0).ch (D 0).L (D 0).g (D 0).P (D 0).Q) : SRow (yw.alloc (.cells (subC al ch more d na nn nc ta tn tc) 79)) (some ⟨yw.heap.size, 0, none⟩) 1 1 D := by
 subst e1 e2 e3 e4
 refine ⟨Nat.le_refl _, by unfold maxLen; omega, .inr ⟨yw.heap.size, 0, rfl, by rw [World.size_alloc]; omega, fun j hj => ?_⟩⟩
 obtain rfl : j = 0 := by omega
 refine ⟨na, nn, nc, ta, tn, tc, fun o v hv => ?_, h.below ((Below.refl _ _).alloc (Nat.le_refl _) _)⟩
 rw [Nat.zero_mul, Nat.zero_add]
 exact ((Row.new yw 79 _).cell o).trans (by rwa [Array.getElem?_toList] at hv)
theorem SRow.store {w : World} {a : Option Addr} {n c : Nat} {D : Nat -> Sb} (h : SRow w a n c D) {k : Nat} {cs0 : Array Value} (hr : Row w k 36 cs0) (ha : IsA cs0) (cs : Array Value) : SRow (w.setRow k cs) a n c D := by
 obtain ⟨ch', more', d', na', nn', nc', ta', tn', tc', rfl⟩ := ha
 obtain ⟨h0, h1, h2⟩ := h
 refine ⟨h0, h1, h2.imp id ?_⟩
 rintro ⟨b, off, rfl, hl, hc⟩
 have hf := Far.setRow w k cs
 refine ⟨b, off, rfl, Nat.lt_of_lt_of_le hl hf.size, fun j hj => ?_⟩
 obtain ⟨na, nn, nc, ta, tn, tc, e1, e2⟩ := hc j hj
 have hbk : b ≠ k := by
  rintro rfl
  have q0 := e1 0 _ rfl
  have q1 := e1 1 _ rfl
  rw [hr.cell] at q0 q1
  rcases arr_cells _ _ q0 with ⟨z0, _⟩ | ⟨_, _, _, z⟩ | ⟨_, _, _, _, _, z⟩
  · rcases arr_cells _ _ q1 with ⟨z1, _⟩ | ⟨_, _, _, z⟩ | ⟨_, _, _, _, _, z⟩
    · omega
    · cases z
    · cases z
  · cases z
  · cases z
 exact ⟨na, nn, nc, ta, tn, tc, fun o v hv => (hf.cell (a := ⟨b, _, none⟩) hbk hl).trans (e1 o v hv), e2.away hr hf⟩
theorem pintsL {wz : World} {a : Option Addr} {c n : Nat} {l : List Int} (h : KRow wz .i64 a n c (lt l)) (h64 : l.all (fun x => decide (-9223372036854775808 <= x /\ x <= 9223372036854775807)) = true) (hn : n <= 1000000) :
    Calls Tryz.prog 38 #[.slice a n c] wz fun e w' => ∃ p, e = .returned (.agg p) /\ PlJ w' p l n /\ Below wz.heap.size wz w' :=
 (r6Ints_any a n c (lt l) wz h (lt64 h64 n) hn).mono (by
   intro e w' hq
   obtain ⟨p, he, _, hb⟩ := hq (fun _ => 0)
   refine ⟨p, he, fun T => ?_, hb⟩
   obtain ⟨p2, he2, h2, _⟩ := hq T
   rw [he] at he2
   injection he2 with he2
   injection he2 with he2
   rw [he2]
   exact h2)
theorem awake11_any (w : World) : Calls Tryz.prog 10 #[] w fun e w' => e = .returned (.bool true) /\ Below w.heap.size w w' := by
 have INa : Hid (∀ a c wz, KRow wz .i64 a 3 c (lt [5, 6, 7]) -> Calls Tryz.prog 36 #[.slice a 3 c] wz fun e w' => ∃ (na : Option Addr) (nn nc : Nat) (ta : Option Addr) (tn tc : Nat), e = .returned (.agg (arrC false (0) (dm (fun _ => ((3 : Nat) : Int)) 1) na nn nc ta tn tc)) /\ Arr w' (arrC false (0) (dm (fun _ => ((3 : Nat) : Int)) 1) na nn nc ta tn tc) (fun _ => ((3 : Nat) : Int)) 1 false 3 (fun _ => 0) (lt [5, 6, 7]) (fun _ => 1) /\ Below wz.heap.size wz w') := Lib.hid (fun a c wz h => (ints8_any a 3 c (lt [5, 6, 7]) wz h (lt64 (by decide) 3) (by omega)).mono (by
  rintro e w' ⟨x, he, h, hb⟩
  have h := h (fun _ => 0)
  obtain ⟨na, nn, nc, ta, tn, tc, rfl, _⟩ := h.form
  exact ⟨na, nn, nc, ta, tn, tc, he, h, hb⟩))
 have INb : Hid (∀ a c wz, KRow wz .i64 a 2 c (lt [3, 1]) -> Calls Tryz.prog 36 #[.slice a 2 c] wz fun e w' => ∃ (na : Option Addr) (nn nc : Nat) (ta : Option Addr) (tn tc : Nat), e = .returned (.agg (arrC false (0) (dm (fun _ => ((2 : Nat) : Int)) 1) na nn nc ta tn tc)) /\ Arr w' (arrC false (0) (dm (fun _ => ((2 : Nat) : Int)) 1) na nn nc ta tn tc) (fun _ => ((2 : Nat) : Int)) 1 false 2 (fun _ => 0) (lt [3, 1]) (fun _ => 1) /\ Below wz.heap.size wz w') := Lib.hid (fun a c wz h => (ints8_any a 2 c (lt [3, 1]) wz h (lt64 (by decide) 2) (by omega)).mono (by
  rintro e w' ⟨x, he, h, hb⟩
  have h := h (fun _ => 0)
  obtain ⟨na, nn, nc, ta, tn, tc, rfl, _⟩ := h.form
  exact ⟨na, nn, nc, ta, tn, tc, he, h, hb⟩))
 have I9 : Hid (∀ wz, Calls Tryz.prog 37 #[.int .i64 9] wz fun e w' => ∃ (na : Option Addr) (nn nc : Nat) (ta : Option Addr) (tn tc : Nat), e = .returned (.agg (arrC false (-1) (dm (fun _ => 0) 0) na nn nc ta tn tc)) /\ Arr w' (arrC false (-1) (dm (fun _ => 0) 0) na nn nc ta tn tc) (fun _ => 0) 0 false 1 (fun _ => 0) (fun _ => 9) (fun _ => 1) /\ Below wz.heap.size wz w') := Lib.hid (fun wz => (int8_any 9 wz (by omega)).mono (by
  rintro e w' ⟨x, he, h, hb⟩
  have h := h (fun _ => 0)
  obtain ⟨na, nn, nc, ta, tn, tc, rfl, _⟩ := h.form
  exact ⟨na, nn, nc, ta, tn, tc, he, h, hb⟩))
 have I2 : Hid (∀ wz, Calls Tryz.prog 37 #[.int .i64 2] wz fun e w' => ∃ (na : Option Addr) (nn nc : Nat) (ta : Option Addr) (tn tc : Nat), e = .returned (.agg (arrC false (-1) (dm (fun _ => 0) 0) na nn nc ta tn tc)) /\ Arr w' (arrC false (-1) (dm (fun _ => 0) 0) na nn nc ta tn tc) (fun _ => 0) 0 false 1 (fun _ => 0) (fun _ => 2) (fun _ => 1) /\ Below wz.heap.size wz w') := Lib.hid (fun wz => (int8_any 2 wz (by omega)).mono (by
  rintro e w' ⟨x, he, h, hb⟩
  have h := h (fun _ => 0)
  obtain ⟨na, nn, nc, ta, tn, tc, rfl, _⟩ := h.form
  exact ⟨na, nn, nc, ta, tn, tc, he, h, hb⟩))
 have II : Hid (∀ x a c wz, Arr wz x (fun _ => ((3 : Nat) : Int)) 1 false 3 (fun _ => 0) (lt [5, 6, 7]) (fun _ => 1) -> SRow wz a 1 c iwD1 -> Calls Tryz.prog 11 #[.agg x, .int .i64 1, .slice a 1 c] wz fun e w' => ∃ y, e = .returned (.tuple #[.agg y, .int .i64 0]) /\ Arr w' y iw1S 1 false 2 iw1g iw1P iw1Q /\ Below wz.heap.size wz w') := Lib.hid (fun x a c wz h hs =>
  (iindex_any x (fun _ => ((3 : Nat) : Int)) 1 false 3 (fun _ => 0) (lt [5, 6, 7]) (fun _ => 1) 1 a 1 c iwD1 wz h (by decide) hs (fun _ _ => show (iwD1 0).ok from ⟨by decide, by decide, by decide, fun _ _ _ => Nat.one_pos⟩) (by omega) (by omega)).mono (fun _ _ q => q.ok (by decide)))
 have ST : Hid (∀ x v a c wz, Arr wz x (fun _ => ((3 : Nat) : Int)) 1 false 3 (fun _ => 0) (lt [5, 6, 7]) (fun _ => 1) -> Arr wz v (fun _ => 0) 0 false 1 (fun _ => 0) (fun _ => 9) (fun _ => 1) -> SRow wz a 1 c iwD2 -> Calls Tryz.prog 16 #[.agg x, .agg v, .int .i64 1, .slice a 1 c] wz fun e w' => ∃ y, e = .returned (.tuple #[.agg y, .int .i64 0]) /\ Arr w' y (fun _ => ((3 : Nat) : Int)) 1 false 3 iw2g iw2P iw2Q /\ Below wz.heap.size wz w') := Lib.hid (fun x v a c wz h h2 hs =>
  (iset_any x (fun _ => ((3 : Nat) : Int)) 1 false 3 (fun _ => 0) (lt [5, 6, 7]) (fun _ => 1) v (fun _ => 0) 0 false 1 (fun _ => 0) (fun _ => 9) (fun _ => 1) 1 a 1 c iwD2 wz h h2 (by decide) (by decide) (by decide) (by decide) hs (fun _ _ => show (iwD2 0).ok from ⟨by decide, by decide, by decide, fun _ _ _ => Nat.one_pos⟩) (by omega) (by omega)).mono (fun _ _ q => q.ok (by decide)))
 have RI2 : Hid (∀ a c wz, KRow wz .i64 a 2 c (lt [7, 5]) -> Calls Tryz.prog 38 #[.slice a 2 c] wz fun e w' => ∃ p, e = .returned (.agg p) /\ PlJ w' p [7, 5] 2 /\ Below wz.heap.size wz w') := Lib.hid (fun a c wz h => pintsL h (by decide) (by omega))
 have RI3 : Hid (∀ a c wz, KRow wz .i64 a 3 c (lt [5, 9, 7]) -> Calls Tryz.prog 38 #[.slice a 3 c] wz fun e w' => ∃ p, e = .returned (.agg p) /\ PlJ w' p [5, 9, 7] 3 /\ Below wz.heap.size wz w') := Lib.hid (fun a c wz h => pintsL h (by decide) (by omega))
 have SH1 : Hid (∀ wz x p, Arr wz x iw1S 1 false 2 iw1g iw1P iw1Q -> PlJ wz p [7, 5] 2 -> Shown wz x p) := Lib.hid (fun wz x p h hp => shownJ h hp (by omega) (by decide) (less2 (by decide) (by decide)))
 have SH2 : Hid (∀ wz x p, Arr wz x (fun _ => ((3 : Nat) : Int)) 1 false 3 iw2g iw2P iw2Q -> PlJ wz p [5, 9, 7] 3 -> Shown wz x p) := Lib.hid (fun wz x p h hp => shownJ h hp (by omega) (by decide) (less3 (by decide) (by decide) (by decide)))
 have SO := Lib.hid (fun cs p wz h => showsOkI_any cs p wz h)
 go_enter Tryz.func10, Tryz.ntmps10
 go_wp2_with fail
 have B9 := Lib.hid (((Bag.start w).alloc (.cells #[.int .i64 5, .int .i64 6, .int .i64 7] 3)).krow (KRow.lits w [5, 6, 7] 3 (by decide) rfl))
 go_at_call 36
 (refine (INa.out _ _ _ B9.out.now.1).mono ?_)
 rintro e W1 ⟨n1, m1, d1, u1, v1, y1, rfl, h1, hb1⟩
 have HB1 := Lib.hid (B9.out.go hb1).below
 have HA1 := Lib.hid h1
 clear h1 hb1 B9
 have BB := Lib.hid (((Bag.fresh HB1.out).arr HA1.out).newRow (arrC false (0) (dm (fun _ => ((3 : Nat) : Int)) 1) n1 m1 d1 u1 v1 y1) 36)
 clear HB1 HA1
 unfold arrC
 go_wp2_with fail
 have hWW := BB.out.below
 unfold arrC at hWW
 unfold arrC at BB
 generalize hW : (W1.alloc (.cells _ 36)) = Y1 at *
 clear hW hWW
 have RW1 : Hid (∀ yz, Below Y1.heap.size Y1 yz -> Row yz W1.heap.size 36 (arrC false (0) (dm (fun _ => ((3 : Nat) : Int)) 1) n1 m1 d1 u1 v1 y1)) := Lib.hid (fun yz hb => Row.below BB.out.now.1 hb)
 have A1 : Hid (∀ yz, Below Y1.heap.size Y1 yz -> Arr yz (arrC false (0) (dm (fun _ => ((3 : Nat) : Int)) 1) n1 m1 d1 u1 v1 y1) (fun _ => ((3 : Nat) : Int)) 1 false 3 (fun _ => 0) (lt [5, 6, 7]) (fun _ => 1)) := Lib.hid (fun yz hb => Arr.below BB.out.now.2.1 hb)
 have SZ1 : Hid (IsA (arrC false (0) (dm (fun _ => ((3 : Nat) : Int)) 1) n1 m1 d1 u1 v1 y1)) := Lib.hid ⟨_, _, _, _, _, _, _, _, _, rfl⟩
 have BB := Lib.hid (Bag.fresh BB.out.below)
 generalize (arrC false (0) (dm (fun _ => ((3 : Nat) : Int)) 1) n1 m1 d1 u1 v1 y1) = X1 at RW1 A1 SZ1
 refine wp_region_inv2 ⟨(fun j => ([[9], [10], [11], [12], [13], [14], [8], [15], [16], [2], [2], [3]] : List (List Nat)).getD j []), (fun j => ([[], [], [1], [1, 2], [1, 2, 3], [0, 1, 2, 3, 4], [0, 1, 2, 3, 4, 5], [0, 1, 2, 3, 4, 5, 6], [0, 1, 2, 3, 4, 5, 6], [], [0, 1, 2, 3, 4, 5, 6, 7, 9], [0, 1, 2, 3, 4, 5, 6, 7, 8, 9, 10]] : List (List Nat)).getD j []), [1, 4, 9]⟩ (fun jj vv yy => match jj with | 0 => vv = [some (.agg X1)] | 1 => ∃ (k1 : Nat), vv = [some (.slice (some ⟨k1, 0, none⟩) 2 2)] /\ KRow yy .i64 (some ⟨k1, 0, none⟩) 2 2 (lt [3, 1]) | 2 => ∃ (na2 : Option Addr), ∃ (nn2 : Nat), ∃ (nc2 : Nat), ∃ (ta2 : Option Addr), ∃ (tn2 : Nat), ∃ (tc2 : Nat), vv = [some (.agg (arrC false (0) (dm (fun _ => ((2 : Nat) : Int)) 1) na2 nn2 nc2 ta2 tn2 tc2))] /\ Arr yy (arrC false (0) (dm (fun _ => ((2 : Nat) : Int)) 1) na2 nn2 nc2 ta2 tn2 tc2) (fun _ => ((2 : Nat) : Int)) 1 false 2 (fun _ => 0) (lt [3, 1]) (fun _ => 1) | 3 => ∃ (na2 : Option Addr), ∃ (nn2 : Nat), ∃ (nc2 : Nat), ∃ (ta2 : Option Addr), ∃ (tn2 : Nat), ∃ (tc2 : Nat), vv = [some (.agg (subC false false (0) (dm (fun _ => ((2 : Nat) : Int)) 1) na2 nn2 nc2 ta2 tn2 tc2))] /\ Arr yy (arrC false (0) (dm (fun _ => ((2 : Nat) : Int)) 1) na2 nn2 nc2 ta2 tn2 tc2) (fun _ => ((2 : Nat) : Int)) 1 false 2 (fun _ => 0) (lt [3, 1]) (fun _ => 1) | 4 => ∃ (k4 : Nat), vv = [some (.slice (some ⟨k4, 0, none⟩) 1 1)] /\ SRow yy (some ⟨k4, 0, none⟩) 1 1 iwD1 | 5 => ∃ (x5 : Array Value), vv = [some (.tuple #[.agg x5, .int .i64 0])] /\ Arr yy x5 iw1S 1 false 2 iw1g iw1P iw1Q /\ IsA x5 | 6 => ∃ (x5 : Array Value), vv = [some (.tuple #[.agg x5, .int .i64 0])] /\ Arr yy x5 iw1S 1 false 2 iw1g iw1P iw1Q /\ IsA x5 | 7 => ∃ (x5 : Array Value), vv = [some (.agg x5)] /\ Arr yy x5 iw1S 1 false 2 iw1g iw1P iw1Q /\ IsA x5 | 8 => vv = [some (.int .i64 0)] | 9 => ∃ (k9 : Nat), ∃ (z9 : Array Value), vv = [some (.pointer (some ⟨k9, 0, none⟩))] /\ Row yy k9 36 z9 /\ IsA z9 /\ Y1.heap.size <= k9 | 10 => ∃ (k9 : Nat), ∃ (x5 : Array Value), vv = [some (.pointer (some ⟨k9, 0, none⟩))] /\ Row yy k9 36 x5 /\ Arr yy x5 iw1S 1 false 2 iw1g iw1P iw1Q /\ IsA x5 | 11 => vv = [some (.int .i64 0)] | _ => True) (Bag Y1 (fun _ => True)) (by kernel_rfl) (by kernel_rfl) (by kernel_rfl) (Bag.start Y1).drew ?_ ?_ ?_
 · intro jj vv yw yw2 hb h
   match jj, h with
   | 0, h => exact h
   | 1, ⟨k1, e1, g1_0⟩ => exact Exists.intro k1 (And.intro e1 (g1_0.below hb))
   | 2, ⟨na2, nn2, nc2, ta2, tn2, tc2, e2, g2_0⟩ => exact Exists.intro na2 (Exists.intro nn2 (Exists.intro nc2 (Exists.intro ta2 (Exists.intro tn2 (Exists.intro tc2 (And.intro e2 (g2_0.below hb)))))))
   | 3, ⟨na2, nn2, nc2, ta2, tn2, tc2, e3, g3_0⟩ => exact Exists.intro na2 (Exists.intro nn2 (Exists.intro nc2 (Exists.intro ta2 (Exists.intro tn2 (Exists.intro tc2 (And.intro e3 (g3_0.below hb)))))))
   | 4, ⟨k4, e4, g4_0⟩ => exact Exists.intro k4 (And.intro e4 (g4_0.below hb))
   | 5, ⟨x5, e5, g5_0, g5_1⟩ => exact Exists.intro x5 (And.intro e5 (And.intro (g5_0.below hb) g5_1))
   | 6, ⟨x5, e6, g6_0, g6_1⟩ => exact Exists.intro x5 (And.intro e6 (And.intro (g6_0.below hb) g6_1))
   | 7, ⟨x5, e7, g7_0, g7_1⟩ => exact Exists.intro x5 (And.intro e7 (And.intro (g7_0.below hb) g7_1))
   | 8, h => exact h
   | 9, ⟨k9, z9, e9, g9_0, g9_1, g9_2⟩ => exact Exists.intro k9 (Exists.intro z9 (And.intro e9 (And.intro (g9_0.below hb) (And.intro g9_1 g9_2))))
   | 10, ⟨k9, x5, e10, g10_0, g10_1, g10_2⟩ => exact Exists.intro k9 (Exists.intro x5 (And.intro e10 (And.intro (g10_0.below hb) (And.intro (g10_1.below hb) g10_2))))
   | 11, h => exact h
   | _ + 12, h => exact h
 · intro ac yw hsz hdf hold hB hp
   obtain ⟨ka, xa, es, rs, ms, zs⟩ := hp 10 (by decide)
   have t2 : ac.tmps[2]? = some (.pointer (some ⟨ka, 0, none⟩)) := (List.cons.inj es).1
   have t3 : ac.tmps[3]? = some (.int .i64 0) := (List.cons.inj (hp 11 (by decide))).1
   have t1 : ac.tmps[1]? = some (.pointer (some ⟨W1.heap.size, 0, none⟩)) := hold 1 (by kernel_rfl)
   have RW1 := Lib.hid (fun yz hb => RW1.out yz (hB.below.trans (Below.mono hb hB.below.size)))
   have A1 := Lib.hid (fun yz hb => A1.out yz (hB.below.trans (Below.mono hb hB.below.size)))
   have RWa := Lib.hid (fun yz (hb : Below yw.heap.size yw yz) => Row.below rs hb)
   have Aa := Lib.hid (fun yz (hb : Below yw.heap.size yw yz) => Arr.below ms hb)
   have SZa := Lib.hid zs
   have BB := Lib.hid (BB.out.go hB.below)
   clear hold hp es rs ms zs hB
   obtain ⟨TX, hTX⟩ : ∃ TX : Nat -> Value, ∀ i, (ac.tmps[i]?).getD undef = TX i := ⟨_, fun _ => rfl⟩
   have f1 := (hTX 1).symm.trans (congrArg (fun x => Option.getD x undef) t1)
   have f2 := (hTX 2).symm.trans (congrArg (fun x => Option.getD x undef) t2)
   have f3 := (hTX 3).symm.trans (congrArg (fun x => Option.getD x undef) t3)
   have hac := act_eq (n := 38) hsz TX hTX
   rw [show ((List.range 38).map TX).toArray = #[TX 0, TX 1, TX 2, TX 3, TX 4, TX 5, TX 6, TX 7, TX 8, TX 9, TX 10, TX 11, TX 12, TX 13, TX 14, TX 15, TX 16, TX 17, TX 18, TX 19, TX 20, TX 21, TX 22, TX 23, TX 24, TX 25, TX 26, TX 27, TX 28, TX 29, TX 30, TX 31, TX 32, TX 33, TX 34, TX 35, TX 36, TX 37] from rfl, f1, f2, f3, hdf] at hac
   simp only [Option.getD_some] at hac
   subst hac
   clear hTX f1 f2 f3
   go_wp2_with fail
   generalize yw = Y2 at *
   refine wp_region_inv2 ⟨(fun j => ([[18], [19], [20], [21], [22], [23], [17], [24], [25], [4], [4], [5]] : List (List Nat)).getD j []), (fun j => ([[], [], [1], [1, 2], [1, 2, 3], [0, 1, 2, 3, 4], [0, 1, 2, 3, 4, 5], [0, 1, 2, 3, 4, 5, 6], [0, 1, 2, 3, 4, 5, 6], [], [0, 1, 2, 3, 4, 5, 6, 7, 9], [0, 1, 2, 3, 4, 5, 6, 7, 8, 9, 10]] : List (List Nat)).getD j []), [4, 9]⟩ (fun jj vv yy => match jj with | 0 => vv = [some (.agg X1)] | 1 => ∃ (na1 : Option Addr), ∃ (nn1 : Nat), ∃ (nc1 : Nat), ∃ (ta1 : Option Addr), ∃ (tn1 : Nat), ∃ (tc1 : Nat), vv = [some (.agg (arrC false (-1) (dm (fun _ => 0) 0) na1 nn1 nc1 ta1 tn1 tc1))] /\ Arr yy (arrC false (-1) (dm (fun _ => 0) 0) na1 nn1 nc1 ta1 tn1 tc1) (fun _ => 0) 0 false 1 (fun _ => 0) (fun _ => 9) (fun _ => 1) | 2 => ∃ (na2 : Option Addr), ∃ (nn2 : Nat), ∃ (nc2 : Nat), ∃ (ta2 : Option Addr), ∃ (tn2 : Nat), ∃ (tc2 : Nat), vv = [some (.agg (arrC false (-1) (dm (fun _ => 0) 0) na2 nn2 nc2 ta2 tn2 tc2))] /\ Arr yy (arrC false (-1) (dm (fun _ => 0) 0) na2 nn2 nc2 ta2 tn2 tc2) (fun _ => 0) 0 false 1 (fun _ => 0) (fun _ => 2) (fun _ => 1) | 3 => ∃ (na2 : Option Addr), ∃ (nn2 : Nat), ∃ (nc2 : Nat), ∃ (ta2 : Option Addr), ∃ (tn2 : Nat), ∃ (tc2 : Nat), vv = [some (.agg (subC false false (-1) (dm (fun _ => 0) 0) na2 nn2 nc2 ta2 tn2 tc2))] /\ Arr yy (arrC false (-1) (dm (fun _ => 0) 0) na2 nn2 nc2 ta2 tn2 tc2) (fun _ => 0) 0 false 1 (fun _ => 0) (fun _ => 2) (fun _ => 1) | 4 => ∃ (k4 : Nat), vv = [some (.slice (some ⟨k4, 0, none⟩) 1 1)] /\ SRow yy (some ⟨k4, 0, none⟩) 1 1 iwD2 | 5 => ∃ (x5 : Array Value), vv = [some (.tuple #[.agg x5, .int .i64 0])] /\ Arr yy x5 (fun _ => ((3 : Nat) : Int)) 1 false 3 iw2g iw2P iw2Q /\ IsA x5 | 6 => ∃ (x5 : Array Value), vv = [some (.tuple #[.agg x5, .int .i64 0])] /\ Arr yy x5 (fun _ => ((3 : Nat) : Int)) 1 false 3 iw2g iw2P iw2Q /\ IsA x5 | 7 => ∃ (x5 : Array Value), vv = [some (.agg x5)] /\ Arr yy x5 (fun _ => ((3 : Nat) : Int)) 1 false 3 iw2g iw2P iw2Q /\ IsA x5 | 8 => vv = [some (.int .i64 0)] | 9 => ∃ (k9 : Nat), ∃ (z9 : Array Value), vv = [some (.pointer (some ⟨k9, 0, none⟩))] /\ Row yy k9 36 z9 /\ IsA z9 /\ Y2.heap.size <= k9 | 10 => ∃ (k9 : Nat), ∃ (x5 : Array Value), vv = [some (.pointer (some ⟨k9, 0, none⟩))] /\ Row yy k9 36 x5 /\ Arr yy x5 (fun _ => ((3 : Nat) : Int)) 1 false 3 iw2g iw2P iw2Q /\ IsA x5 | 11 => vv = [some (.int .i64 0)] | _ => True) (Bag Y2 (fun _ => True)) (by kernel_rfl) (by kernel_rfl) (by kernel_rfl) (Bag.start Y2).drew ?_ ?_ ?_
   · intro jj vv yw yw2 hb h
     match jj, h with
     | 0, h => exact h
     | 1, ⟨na1, nn1, nc1, ta1, tn1, tc1, e1, g1_0⟩ => exact Exists.intro na1 (Exists.intro nn1 (Exists.intro nc1 (Exists.intro ta1 (Exists.intro tn1 (Exists.intro tc1 (And.intro e1 (g1_0.below hb)))))))
     | 2, ⟨na2, nn2, nc2, ta2, tn2, tc2, e2, g2_0⟩ => exact Exists.intro na2 (Exists.intro nn2 (Exists.intro nc2 (Exists.intro ta2 (Exists.intro tn2 (Exists.intro tc2 (And.intro e2 (g2_0.below hb)))))))
     | 3, ⟨na2, nn2, nc2, ta2, tn2, tc2, e3, g3_0⟩ => exact Exists.intro na2 (Exists.intro nn2 (Exists.intro nc2 (Exists.intro ta2 (Exists.intro tn2 (Exists.intro tc2 (And.intro e3 (g3_0.below hb)))))))
     | 4, ⟨k4, e4, g4_0⟩ => exact Exists.intro k4 (And.intro e4 (g4_0.below hb))
     | 5, ⟨x5, e5, g5_0, g5_1⟩ => exact Exists.intro x5 (And.intro e5 (And.intro (g5_0.below hb) g5_1))
     | 6, ⟨x5, e6, g6_0, g6_1⟩ => exact Exists.intro x5 (And.intro e6 (And.intro (g6_0.below hb) g6_1))
     | 7, ⟨x5, e7, g7_0, g7_1⟩ => exact Exists.intro x5 (And.intro e7 (And.intro (g7_0.below hb) g7_1))
     | 8, h => exact h
     | 9, ⟨k9, z9, e9, g9_0, g9_1, g9_2⟩ => exact Exists.intro k9 (Exists.intro z9 (And.intro e9 (And.intro (g9_0.below hb) (And.intro g9_1 g9_2))))
     | 10, ⟨k9, x5, e10, g10_0, g10_1, g10_2⟩ => exact Exists.intro k9 (Exists.intro x5 (And.intro e10 (And.intro (g10_0.below hb) (And.intro (g10_1.below hb) g10_2))))
     | 11, h => exact h
     | _ + 12, h => exact h
   · intro ac yw hsz hdf hold hB hp
     obtain ⟨kb, xb, es, rs, ms, zs⟩ := hp 10 (by decide)
     have t4 : ac.tmps[4]? = some (.pointer (some ⟨kb, 0, none⟩)) := (List.cons.inj es).1
     have t5 : ac.tmps[5]? = some (.int .i64 0) := (List.cons.inj (hp 11 (by decide))).1
     have t2 : ac.tmps[2]? = some (.pointer (some ⟨ka, 0, none⟩)) := hold 2 (by kernel_rfl)
     have t3 : ac.tmps[3]? = some (.int .i64 0) := hold 3 (by kernel_rfl)
     have RWa := Lib.hid (fun yz hb => RWa.out yz (hB.below.trans (Below.mono hb hB.below.size)))
     have Aa := Lib.hid (fun yz hb => Aa.out yz (hB.below.trans (Below.mono hb hB.below.size)))
     have RWb := Lib.hid (fun yz (hb : Below yw.heap.size yw yz) => Row.below rs hb)
     have Ab := Lib.hid (fun yz (hb : Below yw.heap.size yw yz) => Arr.below ms hb)
     have SZb := Lib.hid zs
     have BB := Lib.hid (BB.out.go hB.below)
     clear hold hp es rs ms zs hB
     obtain ⟨TU, hTU⟩ : ∃ TU : Nat -> Value, ∀ i, (ac.tmps[i]?).getD undef = TU i := ⟨_, fun _ => rfl⟩
     have f2 := (hTU 2).symm.trans (congrArg (fun x => Option.getD x undef) t2)
     have f3 := (hTU 3).symm.trans (congrArg (fun x => Option.getD x undef) t3)
     have f4 := (hTU 4).symm.trans (congrArg (fun x => Option.getD x undef) t4)
     have f5 := (hTU 5).symm.trans (congrArg (fun x => Option.getD x undef) t5)
     have hac := act_eq (n := 38) hsz TU hTU
     rw [show ((List.range 38).map TU).toArray = #[TU 0, TU 1, TU 2, TU 3, TU 4, TU 5, TU 6, TU 7, TU 8, TU 9, TU 10, TU 11, TU 12, TU 13, TU 14, TU 15, TU 16, TU 17, TU 18, TU 19, TU 20, TU 21, TU 22, TU 23, TU 24, TU 25, TU 26, TU 27, TU 28, TU 29, TU 30, TU 31, TU 32, TU 33, TU 34, TU 35, TU 36, TU 37] from rfl, f2, f3, f4, f5, hdf] at hac
     simp only [Option.getD_some] at hac
     subst hac
     clear hTU f2 f3 f4 f5
     go_wp2_with fail
     generalize yw = Y3 at *
     refine wp_region_inv2 ⟨(fun j => ([[26], [27], [28], [29], [30], [31], [32], [33], [34], [35], [36], [37], [0]] : List (List Nat)).getD j []), (fun j => ([[], [], [], [2], [0, 1, 2, 3], [0, 1, 2, 3, 4], [0, 1, 2, 3, 4, 5], [0, 1, 2, 3, 4, 5], [0, 1, 2, 3, 4, 5], [0, 1, 2, 3, 4, 5, 8], [0, 1, 2, 3, 4, 5, 6, 7, 8, 9], [0, 1, 2, 3, 4, 5, 6, 7, 8, 9, 10], [0, 1, 2, 3, 4, 5, 6, 7, 8, 9, 10, 11]] : List (List Nat)).getD j []), [2, 8]⟩ (fun jj vv yy => match jj with | 0 => vv = [some (.agg xa)] | 1 => vv = [some (.int .i64 0)] | 2 => ∃ (k2 : Nat), vv = [some (.slice (some ⟨k2, 0, none⟩) 2 2)] /\ KRow yy .i64 (some ⟨k2, 0, none⟩) 2 2 (lt [7, 5]) | 3 => ∃ (x3 : Array Value), vv = [some (.agg x3)] /\ PlJ yy x3 [7, 5] 2 | 4 => vv = [some (.bool true)] | 5 => vv = [some (.bool true)] | 6 => vv = [some (.agg xb)] | 7 => vv = [some (.int .i64 0)] | 8 => ∃ (k8 : Nat), vv = [some (.slice (some ⟨k8, 0, none⟩) 3 3)] /\ KRow yy .i64 (some ⟨k8, 0, none⟩) 3 3 (lt [5, 9, 7]) | 9 => ∃ (x9 : Array Value), vv = [some (.agg x9)] /\ PlJ yy x9 [5, 9, 7] 3 | 10 => vv = [some (.bool true)] | 11 => vv = [some (.bool true)] | 12 => vv = [some (.bool true)] | _ => True) (Bag Y3 (fun _ => True)) (by kernel_rfl) (by kernel_rfl) (by kernel_rfl) (Bag.start Y3).drew ?_ ?_ ?_
     · intro jj vv yw yw2 hb h
       match jj, h with
       | 0, h => exact h
       | 1, h => exact h
       | 2, ⟨k2, e2, g2_0⟩ => exact Exists.intro k2 (And.intro e2 (g2_0.below hb))
       | 3, ⟨x3, e3, g3_0⟩ => exact Exists.intro x3 (And.intro e3 (g3_0.below hb))
       | 4, h => exact h
       | 5, h => exact h
       | 6, h => exact h
       | 7, h => exact h
       | 8, ⟨k8, e8, g8_0⟩ => exact Exists.intro k8 (And.intro e8 (g8_0.below hb))
       | 9, ⟨x9, e9, g9_0⟩ => exact Exists.intro x9 (And.intro e9 (g9_0.below hb))
       | 10, h => exact h
       | 11, h => exact h
       | 12, h => exact h
       | _ + 13, h => exact h
     · intro ac yw hsz hdf hold hB hp
       have t0 : ac.tmps[0]? = some (.bool true) := (List.cons.inj (hp 12 (by decide))).1
       have HE := Lib.hid (BB.out.go hB.below).below
       clear hold hp
       obtain ⟨TV, hTV⟩ : ∃ TV : Nat -> Value, ∀ i, (ac.tmps[i]?).getD undef = TV i := ⟨_, fun _ => rfl⟩
       have f0 := (hTV 0).symm.trans (congrArg (fun x => Option.getD x undef) t0)
       have hac := act_eq (n := 38) hsz TV hTV
       rw [show ((List.range 38).map TV).toArray = #[TV 0, TV 1, TV 2, TV 3, TV 4, TV 5, TV 6, TV 7, TV 8, TV 9, TV 10, TV 11, TV 12, TV 13, TV 14, TV 15, TV 16, TV 17, TV 18, TV 19, TV 20, TV 21, TV 22, TV 23, TV 24, TV 25, TV 26, TV 27, TV 28, TV 29, TV 30, TV 31, TV 32, TV 33, TV 34, TV 35, TV 36, TV 37] from rfl, f0, hdf] at hac
       simp only [Option.getD_some] at hac
       subst hac
       clear hTV f0
       go_wp2
       go_ret
       exact ⟨rfl, HE.out⟩
     refine Stps2.cons (o := _) ?_ ?_
     · intro ac yw hsz hold hB hp K hK
       have t2 : ac.tmps[2]? = some (.pointer (some ⟨ka, 0, none⟩)) := hold 2 (by kernel_rfl)
       clear hold hp hsz
       rw [if_pos (by rfl)]
       refine ld8 2 rfl (ka) (xa) t2 (RWa.out _ hB.below) (SZa.out.size) ?_
       exact hK.out _ _ ⟨hB, rfl, Nat.le_refl _, .inl (Below.refl _ _), fun h => absurd h (by decide)⟩
     refine Stps2.cons (o := _) ?_ ?_
     · intro ac yw hsz hold hB hp K hK
       have t3 : ac.tmps[3]? = some (.int .i64 0) := hold 3 (by kernel_rfl)
       clear hold hp hsz
       go_simp
       exact hK.out _ _ ⟨hB, rfl, Nat.le_refl _, .inl (Below.refl _ _), fun h => absurd h (by decide)⟩
     refine Stps2.cons (o := _) ?_ ?_
     · intro ac yw hsz hold hB hp K hK
       clear hold hp hsz
       have hbz : Below yw.heap.size yw (yw.alloc (.cells #[.int .i64 7, .int .i64 5] 3)) /\ yw.heap.size < (yw.alloc (.cells #[.int .i64 7, .int .i64 5] 3)).heap.size := ⟨(Below.refl _ _).alloc (Nat.le_refl _) _, by rw [World.size_alloc]; omega⟩
       have kz : KRow (yw.alloc (.cells #[.int .i64 7, .int .i64 5] 3)) .i64 (some ⟨yw.heap.size, 0, none⟩) 2 2 (lt [7, 5]) := KRow.lits yw [7, 5] 3 (by decide) rfl
       go_simp
       exact hK.out _ _ ⟨hB.alloc _, Exists.intro yw.heap.size (And.intro rfl kz), Nat.le_of_lt hbz.2, .inl hbz.1, fun _ => ⟨_, rfl, Nat.le_refl _, hbz.2⟩⟩
     refine Stps2.cons (o := _) ?_ ?_
     · intro ac yw hsz hold hB hp K hK
       obtain ⟨k2_2, e2, g2_0⟩ := hp 2 (by decide)
       have t28 : ac.tmps[28]? = some (.slice (some ⟨k2_2, 0, none⟩) 2 2) := (List.cons.inj e2).1
       clear hold hp hsz e2
       go_simp
       (go_at_call 38; (with_reducible refine (RI2.out _ _ _ g2_0).mono ?_); rintro e wz ⟨x3, rfl, h3_0, hbz⟩)
       exact hK.out _ _ ⟨hB.go hbz, Exists.intro x3 (And.intro rfl h3_0), hbz.size, .inl hbz, fun h => absurd h (by decide)⟩
     refine Stps2.cons (o := _) ?_ ?_
     · intro ac yw hsz hold hB hp K hK
       have e0 := hp 0 (by decide)
       have t26 : ac.tmps[26]? = some (.agg xa) := (List.cons.inj e0).1
       have e1 := hp 1 (by decide)
       have t27 : ac.tmps[27]? = some (.int .i64 0) := (List.cons.inj e1).1
       obtain ⟨x3_3, e3, g3_0⟩ := hp 3 (by decide)
       have t29 : ac.tmps[29]? = some (.agg x3_3) := (List.cons.inj e3).1
       clear hold hp hsz e0 e1 e3
       go_simp
       (go_at_call 15; (with_reducible refine (SO.out _ _ _ (SH1.out _ _ _ (Aa.out _ hB.below) g3_0)).mono ?_); rintro e wz ⟨rfl, hbz⟩)
       exact hK.out _ _ ⟨hB.go hbz, rfl, hbz.size, .inl hbz, fun h => absurd h (by decide)⟩
     refine Stps2.cons (o := _) ?_ ?_
     · intro ac yw hsz hold hB hp K hK
       have e4 := hp 4 (by decide)
       have t30 : ac.tmps[30]? = some (.bool true) := (List.cons.inj e4).1
       clear hold hp hsz e4
       go_simp
       exact hK.out _ _ ⟨hB, rfl, Nat.le_refl _, .inl (Below.refl _ _), fun h => absurd h (by decide)⟩
     refine Stps2.cons (o := _) ?_ ?_
     · intro ac yw hsz hold hB hp K hK
       have t31 : ac.tmps[31]? = some (.bool true) := (List.cons.inj (hp 5 (by decide))).1
       rw [if_pos (wanted_pos rfl rfl t31)]
       have t4 : ac.tmps[4]? = some (.pointer (some ⟨kb, 0, none⟩)) := hold 4 (by kernel_rfl)
       clear hold hp hsz
       refine ld8 4 rfl (kb) (xb) t4 (RWb.out _ hB.below) (SZb.out.size) ?_
       exact hK.out _ _ ⟨hB, rfl, Nat.le_refl _, .inl (Below.refl _ _), fun h => absurd h (by decide)⟩
     refine Stps2.cons (o := _) ?_ ?_
     · intro ac yw hsz hold hB hp K hK
       have t31 : ac.tmps[31]? = some (.bool true) := (List.cons.inj (hp 5 (by decide))).1
       rw [if_pos (wanted_pos rfl rfl t31)]
       have t5 : ac.tmps[5]? = some (.int .i64 0) := hold 5 (by kernel_rfl)
       clear hold hp hsz
       go_simp
       exact hK.out _ _ ⟨hB, rfl, Nat.le_refl _, .inl (Below.refl _ _), fun h => absurd h (by decide)⟩
     refine Stps2.cons (o := _) ?_ ?_
     · intro ac yw hsz hold hB hp K hK
       have t31 : ac.tmps[31]? = some (.bool true) := (List.cons.inj (hp 5 (by decide))).1
       rw [if_pos (wanted_pos rfl rfl t31)]
       clear hold hp hsz
       have hbz : Below yw.heap.size yw (yw.alloc (.cells #[.int .i64 5, .int .i64 9, .int .i64 7] 3)) /\ yw.heap.size < (yw.alloc (.cells #[.int .i64 5, .int .i64 9, .int .i64 7] 3)).heap.size := ⟨(Below.refl _ _).alloc (Nat.le_refl _) _, by rw [World.size_alloc]; omega⟩
       have kz : KRow (yw.alloc (.cells #[.int .i64 5, .int .i64 9, .int .i64 7] 3)) .i64 (some ⟨yw.heap.size, 0, none⟩) 3 3 (lt [5, 9, 7]) := KRow.lits yw [5, 9, 7] 3 (by decide) rfl
       go_simp
       exact hK.out _ _ ⟨hB.alloc _, Exists.intro yw.heap.size (And.intro rfl kz), Nat.le_of_lt hbz.2, .inl hbz.1, fun _ => ⟨_, rfl, Nat.le_refl _, hbz.2⟩⟩
     refine Stps2.cons (o := _) ?_ ?_
     · intro ac yw hsz hold hB hp K hK
       have t31 : ac.tmps[31]? = some (.bool true) := (List.cons.inj (hp 5 (by decide))).1
       rw [if_pos (wanted_pos rfl rfl t31)]
       obtain ⟨k8_8, e8, g8_0⟩ := hp 8 (by decide)
       have t34 : ac.tmps[34]? = some (.slice (some ⟨k8_8, 0, none⟩) 3 3) := (List.cons.inj e8).1
       clear hold hp hsz e8
       go_simp
       (go_at_call 38; (with_reducible refine (RI3.out _ _ _ g8_0).mono ?_); rintro e wz ⟨x9, rfl, h9_0, hbz⟩)
       exact hK.out _ _ ⟨hB.go hbz, Exists.intro x9 (And.intro rfl h9_0), hbz.size, .inl hbz, fun h => absurd h (by decide)⟩
     refine Stps2.cons (o := _) ?_ ?_
     · intro ac yw hsz hold hB hp K hK
       have t31 : ac.tmps[31]? = some (.bool true) := (List.cons.inj (hp 5 (by decide))).1
       rw [if_pos (wanted_pos rfl rfl t31)]
       have e6 := hp 6 (by decide)
       have t32 : ac.tmps[32]? = some (.agg xb) := (List.cons.inj e6).1
       have e7 := hp 7 (by decide)
       have t33 : ac.tmps[33]? = some (.int .i64 0) := (List.cons.inj e7).1
       obtain ⟨x9_9, e9, g9_0⟩ := hp 9 (by decide)
       have t35 : ac.tmps[35]? = some (.agg x9_9) := (List.cons.inj e9).1
       clear hold hp hsz e6 e7 e9
       go_simp
       (go_at_call 15; (with_reducible refine (SO.out _ _ _ (SH2.out _ _ _ (Ab.out _ hB.below) g9_0)).mono ?_); rintro e wz ⟨rfl, hbz⟩)
       exact hK.out _ _ ⟨hB.go hbz, rfl, hbz.size, .inl hbz, fun h => absurd h (by decide)⟩
     refine Stps2.cons (o := _) ?_ ?_
     · intro ac yw hsz hold hB hp K hK
       have e5 := hp 5 (by decide)
       have t31 : ac.tmps[31]? = some (.bool true) := (List.cons.inj e5).1
       have e10 := hp 10 (by decide)
       have t36 : ac.tmps[36]? = some (.bool true) := (List.cons.inj e10).1
       clear hold hp hsz e5 e10
       go_simp
       exact hK.out _ _ ⟨hB, rfl, Nat.le_refl _, .inl (Below.refl _ _), fun h => absurd h (by decide)⟩
     refine Stps2.cons (o := _) ?_ ?_
     · intro ac yw hsz hold hB hp K hK
       have e11 := hp 11 (by decide)
       have t37 : ac.tmps[37]? = some (.bool true) := (List.cons.inj e11).1
       clear hold hp hsz e11
       go_simp
       exact hK.out _ _ ⟨hB, rfl, Nat.le_refl _, .inl (Below.refl _ _), fun h => absurd h (by decide)⟩
     exact Stps2.nil _
   refine Stps2.cons (o := _) ?_ ?_
   · intro ac yw hsz hold hB hp K hK
     have t1 : ac.tmps[1]? = some (.pointer (some ⟨W1.heap.size, 0, none⟩)) := hold 1 (by kernel_rfl)
     clear hold hp hsz
     rw [if_pos (by rfl)]
     refine ld8 1 rfl (W1.heap.size) (X1) t1 (RW1.out _ hB.below) (SZ1.out.size) ?_
     exact hK.out _ _ ⟨hB, rfl, Nat.le_refl _, .inl (Below.refl _ _), fun h => absurd h (by decide)⟩
   refine Stps2.cons (o := _) ?_ ?_
   · intro ac yw hsz hold hB hp K hK
     clear hold hp hsz
     go_simp
     (go_at_call 37; (refine (I9.out _).mono ?_); rintro e wz ⟨na1, nn1, nc1, ta1, tn1, tc1, rfl, h1_0, hbz⟩)
     exact hK.out _ _ ⟨hB.go hbz, Exists.intro na1 (Exists.intro nn1 (Exists.intro nc1 (Exists.intro ta1 (Exists.intro tn1 (Exists.intro tc1 (And.intro rfl h1_0)))))), hbz.size, .inl hbz, fun h => absurd h (by decide)⟩
   refine Stps2.cons (o := _) ?_ ?_
   · intro ac yw hsz hold hB hp K hK
     clear hold hp hsz
     go_simp
     (go_at_call 37; (refine (I2.out _).mono ?_); rintro e wz ⟨na2, nn2, nc2, ta2, tn2, tc2, rfl, h2_0, hbz⟩)
     exact hK.out _ _ ⟨hB.go hbz, Exists.intro na2 (Exists.intro nn2 (Exists.intro nc2 (Exists.intro ta2 (Exists.intro tn2 (Exists.intro tc2 (And.intro rfl h2_0)))))), hbz.size, .inl hbz, fun h => absurd h (by decide)⟩
   refine Stps2.cons (o := _) ?_ ?_
   · intro ac yw hsz hold hB hp K hK
     obtain ⟨na2_2, nn2_2, nc2_2, ta2_2, tn2_2, tc2_2, e2, g2_0⟩ := hp 2 (by decide)
     have t20 : ac.tmps[20]? = some (.agg (arrC false (-1) (dm (fun _ => 0) 0) na2_2 nn2_2 nc2_2 ta2_2 tn2_2 tc2_2)) := (List.cons.inj e2).1
     clear hold hp hsz e2
     unfold arrC at t20
     go_simp
     exact hK.out _ _ ⟨hB, Exists.intro na2_2 (Exists.intro nn2_2 (Exists.intro nc2_2 (Exists.intro ta2_2 (Exists.intro tn2_2 (Exists.intro tc2_2 (And.intro rfl g2_0)))))), Nat.le_refl _, .inl (Below.refl _ _), fun h => absurd h (by decide)⟩
   refine Stps2.cons (o := _) ?_ ?_
   · intro ac yw hsz hold hB hp K hK
     obtain ⟨na2_3, nn2_3, nc2_3, ta2_3, tn2_3, tc2_3, e3, g3_0⟩ := hp 3 (by decide)
     have t21 : ac.tmps[21]? = some (.agg (subC false false (-1) (dm (fun _ => 0) 0) na2_3 nn2_3 nc2_3 ta2_3 tn2_3 tc2_3)) := (List.cons.inj e3).1
     clear hold hp hsz e3
     have hbz : Below yw.heap.size yw (yw.alloc (.cells (subC false false (-1) (dm (fun _ => 0) 0) na2_3 nn2_3 nc2_3 ta2_3 tn2_3 tc2_3) 79)) /\ yw.heap.size < (yw.alloc (.cells (subC false false (-1) (dm (fun _ => 0) 0) na2_3 nn2_3 nc2_3 ta2_3 tn2_3 tc2_3) 79)).heap.size := ⟨(Below.refl _ _).alloc (Nat.le_refl _) _, by rw [World.size_alloc]; omega⟩
     have kz : SRow (yw.alloc (.cells (subC false false (-1) (dm (fun _ => 0) 0) na2_3 nn2_3 nc2_3 ta2_3 tn2_3 tc2_3) 79)) (some ⟨yw.heap.size, 0, none⟩) 1 1 iwD2 := SRow.one rfl rfl rfl rfl g3_0
     unfold subC at t21
     go_simp
     exact hK.out _ _ ⟨hB.alloc _, Exists.intro yw.heap.size (And.intro rfl kz), Nat.le_of_lt hbz.2, .inl hbz.1, fun _ => ⟨_, rfl, Nat.le_refl _, hbz.2⟩⟩
   refine Stps2.cons (o := _) ?_ ?_
   · intro ac yw hsz hold hB hp K hK
     have e0 := hp 0 (by decide)
     have t18 : ac.tmps[18]? = some (.agg X1) := (List.cons.inj e0).1
     obtain ⟨na1_1, nn1_1, nc1_1, ta1_1, tn1_1, tc1_1, e1, g1_0⟩ := hp 1 (by decide)
     have t19 : ac.tmps[19]? = some (.agg (arrC false (-1) (dm (fun _ => 0) 0) na1_1 nn1_1 nc1_1 ta1_1 tn1_1 tc1_1)) := (List.cons.inj e1).1
     obtain ⟨k4_4, e4, g4_0⟩ := hp 4 (by decide)
     have t22 : ac.tmps[22]? = some (.slice (some ⟨k4_4, 0, none⟩) 1 1) := (List.cons.inj e4).1
     clear hold hp hsz e0 e1 e4
     go_simp
     (go_at_call 16; (refine (ST.out _ _ _ _ _ (A1.out _ hB.below) g1_0 g4_0).mono ?_); rintro e wz ⟨x5, rfl, h5_0, hbz⟩)
     exact hK.out _ _ ⟨hB.go hbz, Exists.intro x5 (And.intro rfl (And.intro h5_0 h5_0.isA)), hbz.size, .inl hbz, fun h => absurd h (by decide)⟩
   refine Stps2.cons (o := _) ?_ ?_
   · intro ac yw hsz hold hB hp K hK
     obtain ⟨x5_5, e5, g5_0, g5_1⟩ := hp 5 (by decide)
     have t23 : ac.tmps[23]? = some (.tuple #[.agg x5_5, .int .i64 0]) := (List.cons.inj e5).1
     clear hold hp hsz e5
     go_simp
     exact hK.out _ _ ⟨hB, Exists.intro x5_5 (And.intro rfl (And.intro g5_0 g5_1)), Nat.le_refl _, .inl (Below.refl _ _), fun h => absurd h (by decide)⟩
   refine Stps2.cons (o := _) ?_ ?_
   · intro ac yw hsz hold hB hp K hK
     obtain ⟨x5_6, e6, g6_0, g6_1⟩ := hp 6 (by decide)
     have t17 : ac.tmps[17]? = some (.tuple #[.agg x5_6, .int .i64 0]) := (List.cons.inj e6).1
     clear hold hp hsz e6
     go_simp
     exact hK.out _ _ ⟨hB, Exists.intro x5_6 (And.intro rfl (And.intro g6_0 g6_1)), Nat.le_refl _, .inl (Below.refl _ _), fun h => absurd h (by decide)⟩
   refine Stps2.cons (o := _) ?_ ?_
   · intro ac yw hsz hold hB hp K hK
     obtain ⟨x5_6, e6, g6_0, g6_1⟩ := hp 6 (by decide)
     have t17 : ac.tmps[17]? = some (.tuple #[.agg x5_6, .int .i64 0]) := (List.cons.inj e6).1
     clear hold hp hsz e6
     go_simp
     exact hK.out _ _ ⟨hB, rfl, Nat.le_refl _, .inl (Below.refl _ _), fun h => absurd h (by decide)⟩
   refine Stps2.cons (o := _) ?_ ?_
   · intro ac yw hsz hold hB hp K hK
     clear hold hp hsz
     have hbz : Below yw.heap.size yw (yw.alloc (.cells zerC 36)) /\ yw.heap.size < (yw.alloc (.cells zerC 36)).heap.size := ⟨(Below.refl _ _).alloc (Nat.le_refl _) _, by rw [World.size_alloc]; omega⟩
     go_simp
     exact hK.out _ _ ⟨hB.alloc _, Exists.intro yw.heap.size (Exists.intro zerC (And.intro rfl (And.intro ((Row.new yw _ zerC)) (And.intro IsA.zer hB.below.size)))), Nat.le_of_lt hbz.2, .inl hbz.1, fun _ => ⟨_, rfl, Nat.le_refl _, hbz.2⟩⟩
   refine Stps2.cons (o := _) ?_ ?_
   · intro ac yw hsz hold hB hp K hK
     obtain ⟨k9_9, z9_9, e9, g9_0, g9_1, g9_2⟩ := hp 9 (by decide)
     have t4 : ac.tmps[4]? = some (.pointer (some ⟨k9_9, 0, none⟩)) := (List.cons.inj e9).1
     obtain ⟨x5_7, e7, g7_0, g7_1⟩ := hp 7 (by decide)
     have t24 : ac.tmps[24]? = some (.agg x5_7) := (List.cons.inj e7).1
     clear hold hp hsz e9 e7
     rw [if_pos (by rfl)]
     have HB : Bag _ (fun _ => True) (yw.setRow k9_9 x5_7) := ⟨below_put hB.below g9_2 _, fun _ _ _ _ => trivial, trivial⟩
     refine st8 4 24 rfl k9_9 x5_7 t4 t24 _ z9_9 g9_0 g9_1 g7_1 ?_
     refine hK.out undef _ ⟨HB, Exists.intro k9_9 (Exists.intro x5_7 (And.intro (congrArg (fun x => [x]) t4) (And.intro (g9_0.put _) (And.intro (g7_0.store g9_0 g9_1 _) g7_1)))), by simp [World.setRow], .inr ?_, fun h => absurd h (by decide)⟩
     intro jj hj hap h
     match jj, h with
     | 0, h => exact h
     | 1, ⟨na1, nn1, nc1, ta1, tn1, tc1, e1, g1_0⟩ =>
      exact Exists.intro na1 (Exists.intro nn1 (Exists.intro nc1 (Exists.intro ta1 (Exists.intro tn1 (Exists.intro tc1 (And.intro e1 (g1_0.store g9_0 g9_1 _)))))))
     | 2, ⟨na2, nn2, nc2, ta2, tn2, tc2, e2, g2_0⟩ =>
      exact Exists.intro na2 (Exists.intro nn2 (Exists.intro nc2 (Exists.intro ta2 (Exists.intro tn2 (Exists.intro tc2 (And.intro e2 (g2_0.store g9_0 g9_1 _)))))))
     | 3, ⟨na2, nn2, nc2, ta2, tn2, tc2, e3, g3_0⟩ =>
      exact Exists.intro na2 (Exists.intro nn2 (Exists.intro nc2 (Exists.intro ta2 (Exists.intro tn2 (Exists.intro tc2 (And.intro e3 (g3_0.store g9_0 g9_1 _)))))))
     | 4, ⟨k4, e4, g4_0⟩ =>
      exact Exists.intro k4 (And.intro e4 (SRow.store g4_0 g9_0 g9_1 _))
     | 5, ⟨x5, e5, g5_0, g5_1⟩ =>
      exact Exists.intro x5 (And.intro e5 (And.intro (g5_0.store g9_0 g9_1 _) g5_1))
     | 6, ⟨x5, e6, g6_0, g6_1⟩ =>
      exact Exists.intro x5 (And.intro e6 (And.intro (g6_0.store g9_0 g9_1 _) g6_1))
     | 7, ⟨x5, e7, g7_0, g7_1⟩ =>
      exact Exists.intro x5 (And.intro e7 (And.intro (g7_0.store g9_0 g9_1 _) g7_1))
     | 8, h => exact h
     | 9, ⟨k9, z9, e9, g9_0, g9_1, g9_2⟩ =>
      have e9 : k9 = k9_9 := by have := (List.cons.inj e9).1.symm.trans t4; cases this; rfl
      subst e9
      exact Exists.intro _ (Exists.intro _ (And.intro e9 (And.intro (g9_0.put _) (And.intro g7_1 g9_2))))
     | 10, _ => exact absurd rfl hj
     | 11, h => exact h
     | _ + 12, h => exact h
   refine Stps2.cons (o := _) ?_ ?_
   · intro ac yw hsz hold hB hp K hK
     have e8 := hp 8 (by decide)
     have t25 : ac.tmps[25]? = some (.int .i64 0) := (List.cons.inj e8).1
     clear hold hp hsz e8
     go_simp
     exact hK.out _ _ ⟨hB, rfl, Nat.le_refl _, .inl (Below.refl _ _), fun h => absurd h (by decide)⟩
   exact Stps2.nil _
 refine Stps2.cons (o := _) ?_ ?_
 · intro ac yw hsz hold hB hp K hK
   have t1 : ac.tmps[1]? = some (.pointer (some ⟨W1.heap.size, 0, none⟩)) := hold 1 (by kernel_rfl)
   clear hold hp hsz
   rw [if_pos (by rfl)]
   refine ld8 1 rfl (W1.heap.size) (X1) t1 (RW1.out _ hB.below) (SZ1.out.size) ?_
   exact hK.out _ _ ⟨hB, rfl, Nat.le_refl _, .inl (Below.refl _ _), fun h => absurd h (by decide)⟩
 refine Stps2.cons (o := _) ?_ ?_
 · intro ac yw hsz hold hB hp K hK
   clear hold hp hsz
   have hbz : Below yw.heap.size yw (yw.alloc (.cells #[.int .i64 3, .int .i64 1] 3)) /\ yw.heap.size < (yw.alloc (.cells #[.int .i64 3, .int .i64 1] 3)).heap.size := ⟨(Below.refl _ _).alloc (Nat.le_refl _) _, by rw [World.size_alloc]; omega⟩
   have kz : KRow (yw.alloc (.cells #[.int .i64 3, .int .i64 1] 3)) .i64 (some ⟨yw.heap.size, 0, none⟩) 2 2 (lt [3, 1]) := KRow.lits yw [3, 1] 3 (by decide) rfl
   go_simp
   exact hK.out _ _ ⟨hB.alloc _, Exists.intro yw.heap.size (And.intro rfl kz), Nat.le_of_lt hbz.2, .inl hbz.1, fun _ => ⟨_, rfl, Nat.le_refl _, hbz.2⟩⟩
 refine Stps2.cons (o := _) ?_ ?_
 · intro ac yw hsz hold hB hp K hK
   obtain ⟨k1_1, e1, g1_0⟩ := hp 1 (by decide)
   have t10 : ac.tmps[10]? = some (.slice (some ⟨k1_1, 0, none⟩) 2 2) := (List.cons.inj e1).1
   clear hold hp hsz e1
   go_simp
   (go_at_call 36; (refine (INb.out _ _ _ g1_0).mono ?_); rintro e wz ⟨na2, nn2, nc2, ta2, tn2, tc2, rfl, h2_0, hbz⟩)
   exact hK.out _ _ ⟨hB.go hbz, Exists.intro na2 (Exists.intro nn2 (Exists.intro nc2 (Exists.intro ta2 (Exists.intro tn2 (Exists.intro tc2 (And.intro rfl h2_0)))))), hbz.size, .inl hbz, fun h => absurd h (by decide)⟩
 refine Stps2.cons (o := _) ?_ ?_
 · intro ac yw hsz hold hB hp K hK
   obtain ⟨na2_2, nn2_2, nc2_2, ta2_2, tn2_2, tc2_2, e2, g2_0⟩ := hp 2 (by decide)
   have t11 : ac.tmps[11]? = some (.agg (arrC false (0) (dm (fun _ => ((2 : Nat) : Int)) 1) na2_2 nn2_2 nc2_2 ta2_2 tn2_2 tc2_2)) := (List.cons.inj e2).1
   clear hold hp hsz e2
   unfold arrC at t11
   go_simp
   exact hK.out _ _ ⟨hB, Exists.intro na2_2 (Exists.intro nn2_2 (Exists.intro nc2_2 (Exists.intro ta2_2 (Exists.intro tn2_2 (Exists.intro tc2_2 (And.intro rfl g2_0)))))), Nat.le_refl _, .inl (Below.refl _ _), fun h => absurd h (by decide)⟩
 refine Stps2.cons (o := _) ?_ ?_
 · intro ac yw hsz hold hB hp K hK
   obtain ⟨na2_3, nn2_3, nc2_3, ta2_3, tn2_3, tc2_3, e3, g3_0⟩ := hp 3 (by decide)
   have t12 : ac.tmps[12]? = some (.agg (subC false false (0) (dm (fun _ => ((2 : Nat) : Int)) 1) na2_3 nn2_3 nc2_3 ta2_3 tn2_3 tc2_3)) := (List.cons.inj e3).1
   clear hold hp hsz e3
   have hbz : Below yw.heap.size yw (yw.alloc (.cells (subC false false (0) (dm (fun _ => ((2 : Nat) : Int)) 1) na2_3 nn2_3 nc2_3 ta2_3 tn2_3 tc2_3) 79)) /\ yw.heap.size < (yw.alloc (.cells (subC false false (0) (dm (fun _ => ((2 : Nat) : Int)) 1) na2_3 nn2_3 nc2_3 ta2_3 tn2_3 tc2_3) 79)).heap.size := ⟨(Below.refl _ _).alloc (Nat.le_refl _) _, by rw [World.size_alloc]; omega⟩
   have kz : SRow (yw.alloc (.cells (subC false false (0) (dm (fun _ => ((2 : Nat) : Int)) 1) na2_3 nn2_3 nc2_3 ta2_3 tn2_3 tc2_3) 79)) (some ⟨yw.heap.size, 0, none⟩) 1 1 iwD1 := SRow.one rfl rfl rfl rfl g3_0
   unfold subC at t12
   go_simp
   exact hK.out _ _ ⟨hB.alloc _, Exists.intro yw.heap.size (And.intro rfl kz), Nat.le_of_lt hbz.2, .inl hbz.1, fun _ => ⟨_, rfl, Nat.le_refl _, hbz.2⟩⟩
 refine Stps2.cons (o := _) ?_ ?_
 · intro ac yw hsz hold hB hp K hK
   have e0 := hp 0 (by decide)
   have t9 : ac.tmps[9]? = some (.agg X1) := (List.cons.inj e0).1
   obtain ⟨k4_4, e4, g4_0⟩ := hp 4 (by decide)
   have t13 : ac.tmps[13]? = some (.slice (some ⟨k4_4, 0, none⟩) 1 1) := (List.cons.inj e4).1
   clear hold hp hsz e0 e4
   go_simp
   (go_at_call 11; (refine (II.out _ _ _ _ (A1.out _ hB.below) g4_0).mono ?_); rintro e wz ⟨x5, rfl, h5_0, hbz⟩)
   exact hK.out _ _ ⟨hB.go hbz, Exists.intro x5 (And.intro rfl (And.intro h5_0 h5_0.isA)), hbz.size, .inl hbz, fun h => absurd h (by decide)⟩
 refine Stps2.cons (o := _) ?_ ?_
 · intro ac yw hsz hold hB hp K hK
   obtain ⟨x5_5, e5, g5_0, g5_1⟩ := hp 5 (by decide)
   have t14 : ac.tmps[14]? = some (.tuple #[.agg x5_5, .int .i64 0]) := (List.cons.inj e5).1
   clear hold hp hsz e5
   go_simp
   exact hK.out _ _ ⟨hB, Exists.intro x5_5 (And.intro rfl (And.intro g5_0 g5_1)), Nat.le_refl _, .inl (Below.refl _ _), fun h => absurd h (by decide)⟩
 refine Stps2.cons (o := _) ?_ ?_
 · intro ac yw hsz hold hB hp K hK
   obtain ⟨x5_6, e6, g6_0, g6_1⟩ := hp 6 (by decide)
   have t8 : ac.tmps[8]? = some (.tuple #[.agg x5_6, .int .i64 0]) := (List.cons.inj e6).1
   clear hold hp hsz e6
   go_simp
   exact hK.out _ _ ⟨hB, Exists.intro x5_6 (And.intro rfl (And.intro g6_0 g6_1)), Nat.le_refl _, .inl (Below.refl _ _), fun h => absurd h (by decide)⟩
 refine Stps2.cons (o := _) ?_ ?_
 · intro ac yw hsz hold hB hp K hK
   obtain ⟨x5_6, e6, g6_0, g6_1⟩ := hp 6 (by decide)
   have t8 : ac.tmps[8]? = some (.tuple #[.agg x5_6, .int .i64 0]) := (List.cons.inj e6).1
   clear hold hp hsz e6
   go_simp
   exact hK.out _ _ ⟨hB, rfl, Nat.le_refl _, .inl (Below.refl _ _), fun h => absurd h (by decide)⟩
 refine Stps2.cons (o := _) ?_ ?_
 · intro ac yw hsz hold hB hp K hK
   clear hold hp hsz
   have hbz : Below yw.heap.size yw (yw.alloc (.cells zerC 36)) /\ yw.heap.size < (yw.alloc (.cells zerC 36)).heap.size := ⟨(Below.refl _ _).alloc (Nat.le_refl _) _, by rw [World.size_alloc]; omega⟩
   go_simp
   exact hK.out _ _ ⟨hB.alloc _, Exists.intro yw.heap.size (Exists.intro zerC (And.intro rfl (And.intro ((Row.new yw _ zerC)) (And.intro IsA.zer hB.below.size)))), Nat.le_of_lt hbz.2, .inl hbz.1, fun _ => ⟨_, rfl, Nat.le_refl _, hbz.2⟩⟩
 refine Stps2.cons (o := _) ?_ ?_
 · intro ac yw hsz hold hB hp K hK
   obtain ⟨k9_9, z9_9, e9, g9_0, g9_1, g9_2⟩ := hp 9 (by decide)
   have t2 : ac.tmps[2]? = some (.pointer (some ⟨k9_9, 0, none⟩)) := (List.cons.inj e9).1
   obtain ⟨x5_7, e7, g7_0, g7_1⟩ := hp 7 (by decide)
   have t15 : ac.tmps[15]? = some (.agg x5_7) := (List.cons.inj e7).1
   clear hold hp hsz e9 e7
   rw [if_pos (by rfl)]
   have HB : Bag _ (fun _ => True) (yw.setRow k9_9 x5_7) := ⟨below_put hB.below g9_2 _, fun _ _ _ _ => trivial, trivial⟩
   refine st8 2 15 rfl k9_9 x5_7 t2 t15 _ z9_9 g9_0 g9_1 g7_1 ?_
   refine hK.out undef _ ⟨HB, Exists.intro k9_9 (Exists.intro x5_7 (And.intro (congrArg (fun x => [x]) t2) (And.intro (g9_0.put _) (And.intro (g7_0.store g9_0 g9_1 _) g7_1)))), by simp [World.setRow], .inr ?_, fun h => absurd h (by decide)⟩
   intro jj hj hap h
   match jj, h with
   | 0, h => exact h
   | 1, ⟨k1, e1, g1_0⟩ =>
    have hne : k1 ≠ k9_9 := fun e => hap 9 (by decide) 1 (by decide) (by decide) (by decide) (by decide) k9_9 ⟨2, _, rfl, t2, rfl⟩ ⟨10, _, rfl, (List.cons.inj e1).1, congrArg some e⟩
    exact Exists.intro k1 (And.intro e1 (g1_0.away (.inr (fun x hx => by obtain rfl := Option.some.inj hx; exact hne)) (Far.setRow _ _ _)))
   | 2, ⟨na2, nn2, nc2, ta2, tn2, tc2, e2, g2_0⟩ =>
    exact Exists.intro na2 (Exists.intro nn2 (Exists.intro nc2 (Exists.intro ta2 (Exists.intro tn2 (Exists.intro tc2 (And.intro e2 (g2_0.store g9_0 g9_1 _)))))))
   | 3, ⟨na2, nn2, nc2, ta2, tn2, tc2, e3, g3_0⟩ =>
    exact Exists.intro na2 (Exists.intro nn2 (Exists.intro nc2 (Exists.intro ta2 (Exists.intro tn2 (Exists.intro tc2 (And.intro e3 (g3_0.store g9_0 g9_1 _)))))))
   | 4, ⟨k4, e4, g4_0⟩ =>
    exact Exists.intro k4 (And.intro e4 (SRow.store g4_0 g9_0 g9_1 _))
   | 5, ⟨x5, e5, g5_0, g5_1⟩ =>
    exact Exists.intro x5 (And.intro e5 (And.intro (g5_0.store g9_0 g9_1 _) g5_1))
   | 6, ⟨x5, e6, g6_0, g6_1⟩ =>
    exact Exists.intro x5 (And.intro e6 (And.intro (g6_0.store g9_0 g9_1 _) g6_1))
   | 7, ⟨x5, e7, g7_0, g7_1⟩ =>
    exact Exists.intro x5 (And.intro e7 (And.intro (g7_0.store g9_0 g9_1 _) g7_1))
   | 8, h => exact h
   | 9, ⟨k9, z9, e9, g9_0, g9_1, g9_2⟩ =>
    have e9 : k9 = k9_9 := by have := (List.cons.inj e9).1.symm.trans t2; cases this; rfl
    subst e9
    exact Exists.intro _ (Exists.intro _ (And.intro e9 (And.intro (g9_0.put _) (And.intro g7_1 g9_2))))
   | 10, _ => exact absurd rfl hj
   | 11, h => exact h
   | _ + 12, h => exact h
 refine Stps2.cons (o := _) ?_ ?_
 · intro ac yw hsz hold hB hp K hK
   have e8 := hp 8 (by decide)
   have t16 : ac.tmps[16]? = some (.int .i64 0) := (List.cons.inj e8).1
   clear hold hp hsz e8
   go_simp
   exact hK.out _ _ ⟨hB, rfl, Nat.le_refl _, .inl (Below.refl _ _), fun h => absurd h (by decide)⟩
 exact Stps2.nil _
end Go.Proofs.YtnpoakaffafdiaaGreatDoor
namespace Go.Proofs.YtnpoakaffafdiaaGreatDoor
open Go.RowKit
theorem puF_self {α : Type} {G : Nat -> Int} {V f : Nat -> α} : ∀ {M : Nat}, (∀ k, k < M -> ∀ p : Nat, (p : Int) = G k -> V k = f p) -> ∀ p, puF G V M f p = f p
 | 0, _, _ => rfl
 | M + 1, h, p => by
  show (if (p : Int) = G M then V M else puF G V M f p) = f p
  split
  · rename_i e
    exact h M (by omega) p e
  · exact puF_self (fun k hk => h k (by omega)) p
theorem puF_const {α : Type} {G : Nat -> Int} {c : α} {f : Nat -> α} : ∀ {M k : Nat}, k < M -> ∀ p : Nat, (p : Int) = G k -> puF G (fun _ => c) M f p = c
 | 0, _, h, _, _ => absurd h (Nat.not_lt_zero _)
 | M + 1, k, h, p, e => by
  show (if (p : Int) = G M then c else puF G (fun _ => c) M f p) = c
  split
  · rfl
  · rename_i e2
    refine puF_const (k := k) ?_ p e
    have : k ≠ M := fun q => e2 (by rw [← q]; exact e)
    omega
theorem ixE_zero {o : Int} {S : Nat -> Int} {r m : Nat} {D : Nat -> Sb} (h : ixE o S r D m = 0) : m = r /\ allB (fun j => (D j).is o (S j)) r = true /\ shB (ixT S D r) (ixR D r) = true := by
 unfold ixE at h
 by_cases hm : m = r
 · subst hm
   rw [if_neg (fun e => e rfl)] at h
   split at h
   · omega
   split at h
   · omega
   rename_i h3
   split at h
   · omega
   unfold pkE at h
   split at h
   · rename_i h5
     exact ⟨rfl, by simpa using h3, h5⟩
   · omega
 · rw [if_pos hm] at h
   omega
theorem ix_pos {o : Int} {S : Nat -> Int} {r m L : Nat} {D : Nat -> Sb} (hsh : shB S r = true) (hL : itm S r = (L : Nat)) (hok : ∀ j, j < m -> (D j).ok) (h : ixE o S r D m = 0) :
    (∀ k, k < (itm (lnF (ixN S D)) r).toNat -> 0 <= pkG S (lnF (ixN S D)) r (ixF o D) k /\ pkG S (lnF (ixN S D)) r (ixF o D) k < L) /\ itm (ixT S D r) (ixR D r) = (((itm (lnF (ixN S D)) r).toNat : Nat) : Int) /\ (itm (lnF (ixN S D)) r).toNat <= 4096 := by
 obtain ⟨rfl, h1, h2⟩ := ixE_zero h
 have hax := (sh_ax hsh).2
 obtain ⟨h3, h4⟩ := ix_ax (S := S) (fun j hj => ⟨hok j hj, ax_nn hax hj⟩) h2
 have h5 := ax_bd h3
 refine ⟨fun k hk => pk_lt hsh hL (ix_in h1) h3 (by omega), by rw [h4]; omega, by omega⟩
theorem fi_self (T : Nat -> Int) (R : Nat) : fiE R T R T = 0 := by
 unfold fiE
 split
 · rfl
 rw [if_neg (fun e => e rfl), sameB_iff.2 (fun _ _ => rfl), if_pos rfl]
theorem fi_nil (S T : Nat -> Int) (R : Nat) : fiE 0 S R T = 0 := by
 unfold fiE
 rw [if_pos rfl]
theorem se_zero (M : Nat) (ch : Bool) : seE 0 0 M ch ch = 0 := by
 unfold seE
 rw [if_neg (fun e => e rfl), if_neg (fun e => e rfl)]
 split
 · rfl
 · rw [if_pos rfl]
theorem back_el {α : Type} {G : Nat -> Int} {M L : Nat} {f : Nat -> α} {el : Int -> α} (hG : ∀ k, k < M -> 0 <= G k /\ G k < (L : Int)) (hel : ∀ x : Int, 0 <= x /\ x < (L : Int) -> el x = f x.toNat) : puF G (fun j => el (G (j % M))) M f = f := by
 refine funext (puF_self (fun k hk p e => ?_))
 show el (G (k % M)) = f p
 rw [Nat.mod_eq_of_lt hk, hel _ (hG k hk), ← e, Int.toNat_natCast]
theorem same_el {α : Type} {G : Nat -> Int} {M L : Nat} {f V : Nat -> α} {el : (Nat -> α) -> Int -> α} (hG : ∀ k, k < M -> 0 <= G k /\ G k < (L : Int)) (hel : ∀ (h : Nat -> α) (x : Int), 0 <= x /\ x < (L : Int) -> el h x = h x.toNat) {k : Nat} (hk : k < M) : el (puF G (fun j => V (j % 1)) M f) (G k) = V 0 := by
 have e : (fun j : Nat => V (j % 1)) = fun _ => V 0 := funext (fun j => by rw [Nat.mod_one])
 rw [e, hel _ _ (hG k hk)]
 have := hG k hk
 exact puF_const hk _ (by omega)
theorem set_taken (x1 : Array Value) (S : Nat -> Int) (r : Nat) (ch : Bool) (L : Nat) (g P : Nat -> Int) (Q : Nat -> Nat) (x2 : Array Value) (o : Int) (sa : Option Addr) (m c : Nat) (D : Nat -> Sb) (w : World) (h1 : Arr w x1 S r ch L g P Q)
    (h2 : Arr w x2 (ixT S D r) (ixR D r) ch (itm (lnF (ixN S D)) r).toNat (fun j => elC L g 32 (pkG S (lnF (ixN S D)) r (ixF o D) j)) (fun j => elP L P (pkG S (lnF (ixN S D)) r (ixF o D) j)) (fun j => elQ L Q (pkG S (lnF (ixN S D)) r (ixF o D) j)))
    (hsh : shB S r = true) (hL : itm S r = (L : Nat)) (hs : SRow w sa m c D) (hok : ∀ j, j < m -> (D j).ok) (hm : m <= 1000) (ho : 0 <= o /\ o <= 1) (hE : ixE o S r D m = 0) :
    Calls Tryz.prog 16 #[.agg x1, .agg x2, .int .i64 o, .slice sa m c] w fun e w' => ∃ y, e = .returned (.tuple #[.agg y, .int .i64 0]) /\ Arr w' y S r ch L g P Q /\ Below w.heap.size w w' := by
 obtain ⟨q1, q2, q3⟩ := ix_pos hsh hL hok hE
 obtain ⟨e1, e2, e3⟩ := ixE_zero hE
 have := iset_any x1 S r ch L g P Q x2 (ixT S D r) (ixR D r) ch (itm (lnF (ixN S D)) r).toNat _ _ _ o sa m c D w h1 h2 hsh hL e3 q2 hs hok hm ho
 rw [hE, fi_self, se_zero, back_el (f := g) (el := elC L g 32) q1 (fun x hx => if_pos hx), back_el (f := P) (el := elP L P) q1 (fun x hx => if_pos hx), back_el (f := Q) (el := elQ L Q) q1 (fun x hx => if_pos hx)] at this
 exact this.mono (fun _ _ q => q.ok rfl)
theorem set_one (x1 : Array Value) (S : Nat -> Int) (r : Nat) (ch : Bool) (L : Nat) (g P : Nat -> Int) (Q : Nat -> Nat) (x2 : Array Value) (S2 : Nat -> Int) (g2 P2 : Nat -> Int) (Q2 : Nat -> Nat) (o : Int) (sa : Option Addr) (m c : Nat) (D : Nat -> Sb) (w : World) (h1 : Arr w x1 S r ch L g P Q)
    (h2 : Arr w x2 S2 0 ch 1 g2 P2 Q2) (hsh : shB S r = true) (hL : itm S r = (L : Nat)) (hs : SRow w sa m c D) (hok : ∀ j, j < m -> (D j).ok) (hm : m <= 1000) (ho : 0 <= o /\ o <= 1) (hE : ixE o S r D m = 0) :
    Calls Tryz.prog 16 #[.agg x1, .agg x2, .int .i64 o, .slice sa m c] w fun e w' => ∃ y, e = .returned (.tuple #[.agg y, .int .i64 0]) /\ Arr w' y S r ch L (puF (pkG S (lnF (ixN S D)) r (ixF o D)) (fun j => g2 (j % 1)) (itm (lnF (ixN S D)) r).toNat g) (puF (pkG S (lnF (ixN S D)) r (ixF o D)) (fun j => P2 (j % 1)) (itm (lnF (ixN S D)) r).toNat P) (puF (pkG S (lnF (ixN S D)) r (ixF o D)) (fun j => Q2 (j % 1)) (itm (lnF (ixN S D)) r).toNat Q) /\ Below w.heap.size w w' := by
 have := iset_any x1 S r ch L g P Q x2 S2 0 ch 1 g2 P2 Q2 o sa m c D w h1 h2 hsh hL rfl rfl hs hok hm ho
 rw [hE, fi_nil, se_zero] at this
 exact this.mono (fun _ _ q => q.ok rfl)
theorem take_one (x : Array Value) (S : Nat -> Int) (r : Nat) (ch : Bool) (L : Nat) (g P : Nat -> Int) (Q : Nat -> Nat) (g2 P2 : Nat -> Int) (Q2 : Nat -> Nat) (o : Int) (sa : Option Addr) (m c : Nat) (D : Nat -> Sb) (w : World)
    (h : Arr w x S r ch L (puF (pkG S (lnF (ixN S D)) r (ixF o D)) (fun j => g2 (j % 1)) (itm (lnF (ixN S D)) r).toNat g) (puF (pkG S (lnF (ixN S D)) r (ixF o D)) (fun j => P2 (j % 1)) (itm (lnF (ixN S D)) r).toNat P) (puF (pkG S (lnF (ixN S D)) r (ixF o D)) (fun j => Q2 (j % 1)) (itm (lnF (ixN S D)) r).toNat Q))
    (hsh : shB S r = true) (hL : itm S r = (L : Nat)) (hs : SRow w sa m c D) (hok : ∀ j, j < m -> (D j).ok) (hm : m <= 1000) (ho : 0 <= o /\ o <= 1) (hE : ixE o S r D m = 0) :
    Calls Tryz.prog 11 #[.agg x, .int .i64 o, .slice sa m c] w fun e w' => ∃ y, e = .returned (.tuple #[.agg y, .int .i64 0]) /\ Arr w' y (ixT S D r) (ixR D r) ch (itm (lnF (ixN S D)) r).toNat (fun _ => g2 0) (fun _ => P2 0) (fun _ => Q2 0) /\ Below w.heap.size w w' := by
 obtain ⟨q1, q2, q3⟩ := ix_pos hsh hL hok hE
 have := iindex_any x S r ch L _ _ _ o sa m c D w h hsh hs hok hm ho
 rw [hE] at this
 refine this.mono (fun _ _ q => ?_)
 obtain ⟨y, e1, e2, e3⟩ := q.ok rfl
 exact ⟨y, e1, e2.on (fun j hj => same_el (V := g2) (f := g) (el := fun h x => elC L h 32 x) q1 (fun h x hx => if_pos hx) hj) (fun j hj => same_el (V := P2) (f := P) (el := fun h x => elP L h x) q1 (fun h x hx => if_pos hx) hj) (fun j hj => same_el (V := Q2) (f := Q) (el := fun h x => elQ L h x) q1 (fun h x hx => if_pos hx) hj), e3⟩
theorem sameA {w : World} {x y : Array Value} {S : Nat -> Int} {r : Nat} {ch : Bool} {L : Nat} {g P : Nat -> Int} {Q : Nat -> Nat} (h : Arr w x S r ch L g P Q) (h2 : Arr w y S r ch L g P Q) (hs : Small ch L P Q) :
    Calls Tryz.prog 18 #[.agg x, .agg y] w fun e w' => e = .returned (.bool true) /\ Below w.heap.size w w' := by
 have key : ∀ (n1 n2 : Nat), asB ch ch ((r : Int) - 1) ((r : Int) - 1) (dm S r) (dm S r) n1 n1 g g n2 n2 P Q P Q = true := fun n1 n2 => by
  unfold asB
  rw [sameB_iff.2 (fun _ _ => rfl), sameB_iff.2 (fun _ _ => rfl), rsB_iff.2 (fun _ _ => rfl), decide_eq_true rfl, decide_eq_true rfl, decide_eq_true rfl, decide_eq_true rfl]
  rfl
 cases ch with
 | true =>
  obtain ⟨ta, tc, rfl, k⟩ := h.1 rfl
  obtain ⟨tb, td, rfl, k2⟩ := h2.1 rfl
  have := aSame_any true ((r : Int) - 1) (dm S r) none 0 0 ta L tc P Q g true ((r : Int) - 1) (dm S r) none 0 0 tb L td P Q g w (RRow.nought _ _ _ (Nat.zero_le _) _ _) k (RRow.nought _ _ _ (Nat.zero_le _) _ _) k2 7 (by omega) (fun j hj => absurd hj (Nat.not_lt_zero _)) (fun j hj => absurd hj (Nat.not_lt_zero _))
  rw [key] at this
  exact this
 | false =>
  obtain ⟨na, nc, rfl, k⟩ := h.2 rfl
  obtain ⟨nb, nd, rfl, k2⟩ := h2.2 rfl
  have := aSame_any false ((r : Int) - 1) (dm S r) na L nc none 0 0 P Q g false ((r : Int) - 1) (dm S r) nb L nd none 0 0 P Q g w k (KRow.nought _ _ _ _ (Nat.zero_le _) _) k2 (KRow.nought _ _ _ _ (Nat.zero_le _) _) 7 (by omega) (hs rfl) (hs rfl)
  rw [key] at this
  exact this
theorem rune8_any {w : World} {x : Array Value} {S : Nat -> Int} {r L : Nat} {g P : Nat -> Int} {Q : Nat -> Nat} (h : Arr w x S r true L g P Q) {i : Nat} (hi : i < L) :
    Calls Tryz.prog 20 #[.agg x, .int .i64 i] w fun e w' => e = .returned (.int .i32 (g i)) /\ Below w.heap.size w w' := by
 obtain ⟨ta, tc, rfl, k⟩ := h.1 rfl
 have := rune_any true ((r : Int) - 1) (dm S r) none 0 0 ta L tc g (i : Int) w k
 rw [show elC L g 0 (i : Int) = g i from (if_pos ⟨by omega, by omega⟩).trans (by rw [Int.toNat_natCast])] at this
 exact this
theorem rat8_any {w : World} {x : Array Value} {S : Nat -> Int} {r L : Nat} {g P : Nat -> Int} {Q : Nat -> Nat} (h : Arr w x S r false L g P Q) {i : Nat} (hi : i < L) :
    Calls Tryz.prog 21 #[.agg x, .int .i64 i] w fun e w' => RatTold w w' e (P i) (Q i) := by
 obtain ⟨na, nc, rfl, k⟩ := h.2 rfl
 have := elemG_any false ((r : Int) - 1) (dm S r) na L nc none 0 0 P Q (i : Int) w k
 rw [show elP L P (i : Int) = P i from (if_pos ⟨by omega, by omega⟩).trans (by rw [Int.toNat_natCast]), show elQ L Q (i : Int) = Q i from (if_pos ⟨by omega, by omega⟩).trans (by rw [Int.toNat_natCast])] at this
 exact this
def OwnII (y0 w : World) (a : Option Addr) (c : Nat) (f : Nat -> Int) (a2 : Option Addr) (c2 : Nat) (f2 : Nat -> Int) (k : Nat) : Prop :=
 OwnI y0 w a k c f /\ OwnI y0 w a2 k c2 f2 /\ ∀ b, (Value.slice a k c).ownBlock = some b -> (Value.slice a2 k c2).ownBlock ≠ some b
theorem OwnII.nil (y0 : World) (f f2 : Nat -> Int) : OwnII y0 y0 none 0 f none 0 f2 0 := ⟨OwnI.nil _ _, OwnI.nil _ _, fun b h => by cases h⟩
theorem OwnII.left {y0 w : World} {a a2 : Option Addr} {k c c2 : Nat} {f f2 : Nat -> Int} (h : OwnII y0 w a c f a2 c2 f2 k) : KRow w .i64 a k c f := h.1.krow
theorem inB_lt {f d : Nat -> Int} : ∀ {n : Nat}, inB f d n = true -> ∀ j, j < n -> 0 <= d j /\ d j < f j
 | 0, _, j, hj => absurd hj (Nat.not_lt_zero _)
 | n + 1, h, j, hj => by
  have h : (inB f d n && (decide (0 <= d n) && decide (d n < f n))) = true := h
  rw [Bool.and_eq_true, Bool.and_eq_true, decide_eq_true_eq, decide_eq_true_eq] at h
  by_cases e : j = n
  · subst e; exact h.2
  · exact inB_lt h.1 j (by omega)
theorem pl_congr9 {S d d' : Nat -> Int} : ∀ {r : Nat}, (∀ j, j < r -> d j = d' j) -> inB S d r = inB S d' r /\ plc S d r = plc S d' r
 | 0, _ => ⟨rfl, rfl⟩
 | r + 1, h => by
  obtain ⟨h1, h2⟩ := pl_congr9 (S := S) (r := r) (fun j hj => h j (by omega))
  have h3 := h r (by omega)
  constructor
  · show (inB S d r && (decide (0 <= d r) && decide (d r < S r))) = (inB S d' r && (decide (0 <= d' r) && decide (d' r < S r)))
    rw [h1, h3]
  · show plc S d r * S r + d r = plc S d' r * S r + d' r
    rw [h2, h3]
theorem pkG_same {S T T' : Nat -> Int} {r : Nat} {F F' : Nat -> Nat -> Int} (hsh : shB T r = true) (hT : ∀ j, j < r -> T j = T' j) (hF : ∀ j, j < r -> ∀ q : Nat, (q : Int) < T j -> F j q = F' j q) {k : Nat} (hk : k < (itm T r).toNat) : pkG S T r F k = pkG S T' r F' k := by
 obtain ⟨_, hax⟩ := sh_ax hsh
 have hk2 : (k : Int) < itm T r := by omega
 have hp := itm_pos hax (by omega) hk2
 have hd := inB_lt (dgs_in hp (by omega) hk2).1
 have e : ∀ j, j < r -> dgs T r (k : Nat) j = dgs T' r (k : Nat) j := fun j _ => dgs_congr _ _ hT
 obtain ⟨h1, h2⟩ := pkI_congr (F := F) (F' := F') (d := dgs T r (k : Nat)) (S := S) (r := r) (fun j hj => hF j hj _ (by have := hd j hj; omega))
 have h3 : ∀ j, j < r -> pkI F' (dgs T r (k : Nat)) j = pkI F' (dgs T' r (k : Nat)) j := fun j hj => by unfold pkI; rw [e j hj]
 obtain ⟨h4, h5⟩ := pl_congr9 (S := S) h3
 unfold pkG
 rw [h1, h2, h4, h5]
theorem sh_count {T : Nat -> Int} {r : Nat} (h : shB T r = true) : r <= 8 /\ (itm T r).toNat <= 4096 := by
 obtain ⟨h1, h2⟩ := sh_ax h
 have := ax_bd h2
 omega
def Cmp (E : Int) (r : Nat) (S T T' : Nat -> Int) (F F' : Nat -> Nat -> Int) : Prop := E = 0 -> r <= 8 /\ (itm T r).toNat <= 1000000 /\ (itm T r).toNat = (itm T' r).toNat /\ (∀ j, j < r -> T j = T' j) /\ ∀ j, j < (itm T r).toNat -> pkG S T r F j = pkG S T' r F' j
theorem Cmp.of {E : Int} {r : Nat} {S T T' : Nat -> Int} {F F' : Nat -> Nat -> Int} (hs : E = 0 -> shB T r = true) (hT : E = 0 -> ∀ j, j < r -> T j = T' j) (hF : E = 0 -> ∀ j, j < r -> ∀ q : Nat, (q : Int) < T j -> F j q = F' j q) : Cmp E r S T T' F F' := fun e => by
 obtain ⟨h1, h2⟩ := sh_count (hs e)
 exact ⟨h1, by omega, by rw [itm_congr (hT e)], hT e, fun j hj => pkG_same (hs e) (hT e) (hF e) hj⟩
end Go.Proofs.YtnpoakaffafdiaaGreatDoor
