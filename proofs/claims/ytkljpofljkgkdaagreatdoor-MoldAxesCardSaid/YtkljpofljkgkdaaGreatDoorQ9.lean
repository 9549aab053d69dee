/-
  Texts of this seat, laid together.
-/
import Derived.ProofKit
import Derived.Carry
import Derived.Deep.Strs
import Derived.OpenShut
import Derived.Test.YtkljpofljkgkdaaGreatDoorRows
import Derived.Deep.Slices
import Derived.Lib.SmallJoins
import Derived.Test.YtkljpofljkgkdaaGreatDoorQ1
import Derived.Test.YtkljpofljkgkdaaGreatDoorQ2
import Derived.Test.YtkljpofljkgkdaaGreatDoorQ3
import Derived.Test.YtkljpofljkgkdaaGreatDoorQ4
import Derived.Test.YtkljpofljkgkdaaGreatDoorQ5
import Derived.Test.YtkljpofljkgkdaaGreatDoorQ6
import Derived.Test.YtkljpofljkgkdaaGreatDoorQ7
import Derived.Test.YtkljpofljkgkdaaGreatDoorQ8

namespace Go.Proofs.YtkljpofljkgkdaaGreatDoor
open Go.RowKit
attribute [local go_sem ↓] Go.wp_at_zero Go.wp_at_succ
theorem MoTold.ok {E : Int} {S : Nat → Int} {r : Nat} {ch : Bool} {L : Nat} {g fP : Nat → Int} {fQ : Nat → Nat} {w w' : World} {e : Ending} (h : MoTold E S r ch L g fP fQ w w' e) (hE : E = 0) : ∃ cs, e = .returned (.tuple #[.agg cs, .int .i64 0]) ∧ Arr w' cs S r ch L g fP fQ ∧ Below w.heap.size w w' := by
  obtain ⟨cs, he, h1, _, hb⟩ := h
  rw [hE] at he
  exact ⟨cs, he, h1 hE, hb⟩
theorem Bag.fresh {w y : World} (hb : Below w.heap.size w y) : Bag w (fun _ => True) y := ⟨hb, fun _ _ _ _ => trivial, trivial⟩
/-- A plain list of integers. -/
def PlJ (w : World) (p : Array Value) (l : List Int) (n : Nat) : Prop := ∀ T, Pln w p (fun _ => (n : Int)) 1 false n T (fun j => rB (lt l j)) (fun j => rS (lt l j)) (fun _ => str (dec 1))
theorem PlJ.below {w w' : World} {p : Array Value} {l : List Int} {n : Nat} (h : PlJ w p l n) (hb : Below w.heap.size w w') : PlJ w' p l n := fun T => (h T).below hb
theorem shownJ {w : World} {cs p : Array Value} {S : Nat → Int} {L : Nat} {g fP : Nat → Int} {fQ : Nat → Nat} {l : List Int} (h : Arr w cs S 1 false L g fP fQ) (hp : PlJ w p l L) (hL : L ≤ 10) (hS : S 0 = (L : Int)) (hP : ∀ j, j < L → fP j = lt l j ∧ fQ j = 1 ∧ (fP j).natAbs ≤ 100) : Shown w cs p := by
  refine ⟨S, 1, false, L, g, fP, fQ, fun _ => (L : Int), g, _, _, _, h, hp g, by omega, by omega, fun _ j hj => ?_, fun j hj => ?_, fun _ _ => rfl, fun j hj => ?_⟩
  · obtain ⟨e1, e2, e3⟩ := hP j hj
    rw [e2]
    refine ⟨by omega, ?_, by decide⟩
    have : (100 : Nat) < 4294967296 ^ 7 := by decide
    omega
  · obtain rfl : j = 0 := by omega
    exact hS
  · obtain ⟨e1, e2, e3⟩ := hP j hj
    rw [e1, e2]
    exact ⟨rfl, rfl, rfl⟩
/-- An array of numbers, whatever is said of characters. -/
def ArrA (w : World) (cs : Array Value) (S : Nat → Int) (r : Nat) (ch : Bool) (L : Nat) (fP : Nat → Int) (fQ : Nat → Nat) : Prop := ∀ g, Arr w cs S r ch L g fP fQ
theorem ArrA.below {w w' : World} {cs : Array Value} {S : Nat → Int} {r : Nat} {ch : Bool} {L : Nat} {fP : Nat → Int} {fQ : Nat → Nat} (h : ArrA w cs S r ch L fP fQ) (hb : Below w.heap.size w w') : ArrA w' cs S r ch L fP fQ := fun g => (h g).below hb
theorem ArrA.store {w : World} {cs : Array Value} {S : Nat → Int} {r : Nat} {ch : Bool} {L : Nat} {fP : Nat → Int} {fQ : Nat → Nat} (h : ArrA w cs S r ch L fP fQ) {k : Nat} {t : TypeId} {z : Array Value} (hr : Row w k t z) (hz : IsA z) (cs' : Array Value) : ArrA (w.setRow k cs') cs S r ch L fP fQ := fun g => (h g).store hr hz cs'
/-- What the examples make. -/
def aw1 : Nat → Int := fun j => elP 3 (lt [5, 6, 7]) (rtG (fun _ => ((3 : Nat) : Int)) 1 (-1) 0 1 (fun _ => 1) j)
def aw2P : Nat → Int := fun j => elP 2 (lt [1, 2]) (arG 2 j)
def aw2Q : Nat → Nat := fun j => elQ 2 (fun _ => 1) (arG 2 j)
def aw3P : Nat → Int := fun j => elP 6 aw2P (mvG (lt [2, 3]) (toF (lt [0, 0]) 0) 2 1 j)
theorem less3 {p : Nat → Prop} (h0 : p 0) (h1 : p 1) (h2 : p 2) : ∀ j, j < 3 → p j
  | 0, _ => h0
  | 1, _ => h1
  | 2, _ => h2
  | n + 3, h => absurd h (by omega)
theorem less2 {p : Nat → Prop} (h0 : p 0) (h1 : p 1) : ∀ j, j < 2 → p j
  | 0, _ => h0
  | 1, _ => h1
  | n + 2, h => absurd h (by omega)
set_option linter.unusedSimpArgs false in
set_option maxHeartbeats 6400000 in
set_option maxRecDepth 100000 in
theorem awake8_any (w : World) : Calls Tryz.prog 9 #[] w fun e w' => e = .returned (.bool true) ∧ Below w.heap.size w w' := by
  have I1 := Lib.hid (fun wz => int8_any 1 wz (by omega))
  have IN3 := Lib.hid (fun a c wz (h : KRow wz .i64 a 3 c (lt [5, 6, 7])) => intsL_any a 3 c (lt [5, 6, 7]) wz h (lt64 (by decide) 3) (by omega))
  have IN2 := Lib.hid (fun a c wz (h : KRow wz .i64 a 2 c (lt [0, 0])) => intsL_any a 2 c (lt [0, 0]) wz h (lt64 (by decide) 2) (by omega))
  have INa := Lib.hid (fun a c wz (h : KRow wz .i64 a 2 c (lt [2, 3])) => intsL_any a 2 c (lt [2, 3]) wz h (lt64 (by decide) 2) (by omega))
  have INb := Lib.hid (fun a c wz (h : KRow wz .i64 a 2 c (lt [1, 2])) => intsL_any a 2 c (lt [1, 2]) wz h (lt64 (by decide) 2) (by omega))
  have RI3 : Hid (∀ a c wz, KRow wz .i64 a 3 c (lt [6, 7, 5]) → Calls Tryz.prog 16 #[.slice a 3 c] wz fun e w' => ∃ p, e = .returned (.agg p) ∧ PlJ w' p [6, 7, 5] 3 ∧ Below wz.heap.size wz w') := Lib.hid (fun a c wz h => (r6Ints_any a 3 c (lt [6, 7, 5]) wz h (lt64 (by decide) 3) (by omega)).mono (by
    intro e w' hq
    obtain ⟨p, he, _, hb⟩ := hq (fun _ => 0)
    refine ⟨p, he, fun T => ?_, hb⟩
    obtain ⟨p2, he2, h2, _⟩ := hq T
    rw [he] at he2
    injection he2 with he2
    injection he2 with he2
    rw [he2]
    exact h2))
  have RI2 : Hid (∀ a c wz, KRow wz .i64 a 2 c (lt [1, 1]) → Calls Tryz.prog 16 #[.slice a 2 c] wz fun e w' => ∃ p, e = .returned (.agg p) ∧ PlJ w' p [1, 1] 2 ∧ Below wz.heap.size wz w') := Lib.hid (fun a c wz h => (r6Ints_any a 2 c (lt [1, 1]) wz h (lt64 (by decide) 2) (by omega)).mono (by
    intro e w' hq
    obtain ⟨p, he, _, hb⟩ := hq (fun _ => 0)
    refine ⟨p, he, fun T => ?_, hb⟩
    obtain ⟨p2, he2, h2, _⟩ := hq T
    rw [he] at he2
    injection he2 with he2
    injection he2 with he2
    rw [he2]
    exact h2))
  have RT : Hid (∀ cs0 cs wz, Arr wz cs0 (fun _ => 0) 0 false 1 (fun _ => 0) (fun _ => 1) (fun _ => 1) → Arr wz cs (fun _ => ((3 : Nat) : Int)) 1 false 3 (fun _ => 0) (lt [5, 6, 7]) (fun _ => 1) → Calls Tryz.prog 22 #[.agg cs0, .agg cs, .int .i64 (-1)] wz fun e w' => ∃ x, e = .returned (.tuple #[.agg x, .int .i64 0]) ∧ Arr w' x (fun _ => ((3 : Nat) : Int)) 1 false 3 (fun j => elC 3 (fun _ => 0) 32 (rtG (fun _ => ((3 : Nat) : Int)) 1 (-1) 0 1 (fun _ => 1) j)) aw1 (fun j => elQ 3 (fun _ => 1) (rtG (fun _ => ((3 : Nat) : Int)) 1 (-1) 0 1 (fun _ => 1) j)) ∧ Below wz.heap.size wz w') := Lib.hid (fun cs0 cs wz h0 h =>
    (rotate_any cs0 (fun _ => 0) 0 false 1 (fun _ => 0) (fun _ => 1) (fun _ => 1) cs (fun _ => ((3 : Nat) : Int)) 1 false 3 (fun _ => 0) (lt [5, 6, 7]) (fun _ => 1) (-1) wz h0 h (by omega) (fun _ _ _ => Nat.one_pos) (by omega) rfl (fun j _ => by show -9223372036854775808 ≤ (3 : Int) ∧ (3 : Int) ≤ 9223372036854775807; omega) (by decide) rfl).mono (fun _ _ q => q.ok (by decide)))
  have RS : Hid (∀ cs0 cs wz, Arr wz cs0 (fun _ => ((2 : Nat) : Int)) 1 false 2 (fun _ => 0) (lt [2, 3]) (fun _ => 1) → Arr wz cs (fun _ => ((2 : Nat) : Int)) 1 false 2 (fun _ => 0) (lt [1, 2]) (fun _ => 1) → Calls Tryz.prog 17 #[.agg cs0, .agg cs] wz fun e w' => ∃ x, e = .returned (.tuple #[.agg x, .int .i64 0]) ∧ Arr w' x (lt [2, 3]) 2 false 6 (fun j => elC 2 (fun _ => 0) 32 (arG 2 j)) aw2P aw2Q ∧ Below wz.heap.size wz w') := Lib.hid (fun cs0 cs wz h0 h =>
    (reshape_any cs0 (fun _ => ((2 : Nat) : Int)) 1 false 2 (fun _ => 0) (lt [2, 3]) (fun _ => 1) cs (fun _ => ((2 : Nat) : Int)) 1 false 2 (fun _ => 0) (lt [1, 2]) (fun _ => 1) wz h0 h (by omega) (fun _ _ _ => Nat.one_pos) (by omega) (by omega)).mono (fun _ _ q => q.ok (by decide)))
  obtain ⟨TS, hTS⟩ : ∃ f : Nat → Int, mnF (lt [2, 3]) (toF (lt [0, 0]) 0) 2 = f := ⟨_, rfl⟩
  obtain ⟨TG, hTG⟩ : ∃ f : Nat → Int, (fun j => elC 6 (fun j => elC 2 (fun _ => 0) 32 (arG 2 j)) 32 (mvG (lt [2, 3]) (toF (lt [0, 0]) 0) 2 1 j)) = f := ⟨_, rfl⟩
  obtain ⟨TP, hTP⟩ : ∃ f : Nat → Int, aw3P = f := ⟨_, rfl⟩
  obtain ⟨TQ, hTQ⟩ : ∃ f : Nat → Nat, (fun j => elQ 6 aw2Q (mvG (lt [2, 3]) (toF (lt [0, 0]) 0) 2 1 j)) = f := ⟨_, rfl⟩
  have TB : Hid (∀ cs0 cs wz, Arr wz cs0 (fun _ => ((2 : Nat) : Int)) 1 false 2 (fun _ => 0) (lt [0, 0]) (fun _ => 1) → Arr wz cs (lt [2, 3]) 2 false 6 (fun j => elC 2 (fun _ => 0) 32 (arG 2 j)) aw2P aw2Q → Calls Tryz.prog 24 #[.agg cs0, .agg cs, .int .i64 0] wz fun e w' => ∃ x, e = .returned (.tuple #[.agg x, .int .i64 0]) ∧ Arr w' x TS 1 false 2 TG TP TQ ∧ Below wz.heap.size wz w') := Lib.hid (fun cs0 cs wz h0 h => by
    have := (transposeBy_any cs0 (fun _ => ((2 : Nat) : Int)) 1 false 2 (fun _ => 0) (lt [0, 0]) (fun _ => 1) cs (lt [2, 3]) 2 false 6 (fun j => elC 2 (fun _ => 0) 32 (arG 2 j)) aw2P aw2Q 0 wz h0 h (by omega) (fun _ _ _ => Nat.one_pos) (by omega) (lt64 (by decide) 2) (by decide) (by omega)).mono (fun _ _ q => q.ok (by decide))
    subst hTS hTG hTP hTQ
    exact this)
  have SO := Lib.hid (fun cs p wz h => showsOk_any cs p wz h)
  obtain ⟨G1, hG1⟩ : ∃ f : Nat → Int, (fun j => elC 3 (fun _ => 0) 32 (rtG (fun _ => ((3 : Nat) : Int)) 1 (-1) 0 1 (fun _ => 1) j)) = f := ⟨_, rfl⟩
  obtain ⟨Q1, hQ1⟩ : ∃ f : Nat → Nat, (fun j => elQ 3 (fun _ => 1) (rtG (fun _ => ((3 : Nat) : Int)) 1 (-1) 0 1 (fun _ => 1) j)) = f := ⟨_, rfl⟩
  obtain ⟨G2, hG2⟩ : ∃ f : Nat → Int, (fun j => elC 2 (fun _ => 0) 32 (arG 2 j)) = f := ⟨_, rfl⟩
  have SH1 : Hid (∀ wz x p, Arr wz x (fun _ => ((3 : Nat) : Int)) 1 false 3 G1 aw1 Q1 → PlJ wz p [6, 7, 5] 3 → Shown wz x p) := Lib.hid (fun wz x p h hp => shownJ h hp (by omega) rfl (by
    subst hQ1
    exact less3 (by decide) (by decide) (by decide)))
  have SH3 : Hid (∀ wz x p, Arr wz x TS 1 false 2 TG TP TQ → PlJ wz p [1, 1] 2 → Shown wz x p) := Lib.hid (fun wz x p h hp => shownJ h hp (by omega) (by subst hTS; decide) (by
    subst hTP hTQ
    exact less2 (by decide) (by decide)))
  have LN := Lib.hid (fun x wz (h : Arr wz x (lt [2, 3]) 2 false 6 G2 aw2P aw2Q) => len8_any x (lt [2, 3]) 2 false 6 G2 aw2P aw2Q wz h)
  rw [hG1, hQ1] at RT
  rw [hG2] at RS TB
  clear hG1 hQ1 hG2 hTS hTG hTP hTQ
  go_enter Tryz.func9, Tryz.ntmps9
  go_wp2_with fail
  go_at_call 28
  (with_reducible refine (I1.out _).mono ?_)
  rintro e wa ⟨xa, rfl, ha, hba⟩
  have BB := Lib.hid (((Bag.start w).go hba).arr (ha (fun _ => 0)))
  clear ha hba
  go_wp2_with fail
  have BB := Lib.hid ((BB.out.alloc (.cells #[.int .i64 5, .int .i64 6, .int .i64 7] 3)).krow (KRow.lits wa [5, 6, 7] 3 (by decide) rfl))
  go_at_call 31
  (refine (IN3.out _ _ _ BB.out.now.1).mono ?_)
  rintro e wb ⟨xb, rfl, hb, hbb⟩
  have BB := Lib.hid ((BB.out.go hbb).arr (hb (fun _ => 0)))
  clear hb hbb
  go_wp2_with fail
  go_at_call 22
  (refine (RT.out _ _ _ BB.out.now.2.2.1 BB.out.now.1).mono ?_)
  rintro e W1 ⟨x1, rfl, h1, hb1⟩
  have HB1 := Lib.hid (BB.out.go hb1).below
  have HA1 := Lib.hid h1
  obtain ⟨n1, m1, d1, u1, v1, y1, hx1, _⟩ := h1.form
  have hx1 : _ = (arrC false 0 (dm (fun _ => ((3 : Nat) : Int)) 1) n1 m1 d1 u1 v1 y1) := hx1
  subst hx1
  clear h1 hb1 BB
  have BB := Lib.hid (((Bag.fresh HB1.out).arr HA1.out).newRow (arrC false 0 (dm (fun _ => ((3 : Nat) : Int)) 1) n1 m1 d1 u1 v1 y1) 34)
  have KA : KRow ((W1.alloc (.cells (arrC false 0 (dm (fun _ => ((3 : Nat) : Int)) 1) n1 m1 d1 u1 v1 y1) 34)).alloc (.cells #[.int .i64 2, .int .i64 3] 3)) .i64 (some ⟨W1.heap.size + 1, 0, none⟩) 2 2 (lt [2, 3]) := by
    have := KRow.lits (W1.alloc (.cells (arrC false 0 (dm (fun _ => ((3 : Nat) : Int)) 1) n1 m1 d1 u1 v1 y1) 34)) [2, 3] 3 (by decide) rfl
    rw [World.size_alloc] at this
    exact this
  have BB := Lib.hid ((BB.out.alloc (.cells #[.int .i64 2, .int .i64 3] 3)).krow KA)
  have HKA := Lib.hid BB.out.now.1
  clear KA
  unfold arrC
  unfold arrC at HKA
  go_wp2_with fail
  go_at_call 31
  (refine (INa.out _ _ _ HKA.out).mono ?_)
  rintro e wc ⟨xc, rfl, hc, hbc⟩
  have BB := Lib.hid ((BB.out.go hbc).arr (hc (fun _ => 0)))
  clear hc hbc HKA
  go_wp2_with fail
  have BB := Lib.hid ((BB.out.alloc (.cells #[.int .i64 1, .int .i64 2] 3)).krow (KRow.lits wc [1, 2] 3 (by decide) rfl))
  go_at_call 31
  (refine (INb.out _ _ _ BB.out.now.1).mono ?_)
  rintro e wd ⟨xd, rfl, hd, hbd⟩
  have BB := Lib.hid ((BB.out.go hbd).arr (hd (fun _ => 0)))
  clear hd hbd
  go_wp2_with fail
  go_at_call 17
  (refine (RS.out _ _ _ BB.out.now.2.2.1 BB.out.now.1).mono ?_)
  rintro e W3 ⟨x2, rfl, h2, hb2⟩
  have B2 := BB.out.go hb2
  have HA2 := Lib.hid h2
  obtain ⟨n2, m2, d2, u2, v2, y2, hx2, _⟩ := h2.form
  have hx2 : _ = (arrC false 1 (dm (lt [2, 3]) 2) n2 m2 d2 u2 v2 y2) := hx2
  subst hx2
  have BB := Lib.hid (((((Bag.fresh B2.below).arr B2.now.2.2.2.2.2.1).row B2.now.2.2.2.2.1).arr HA2.out).newRow (arrC false 1 (dm (lt [2, 3]) 2) n2 m2 d2 u2 v2 y2) 34)
  clear h2 hb2 B2
  unfold arrC
  go_wp2_with fail
  have hWW := BB.out.below
  unfold arrC at hWW
  unfold arrC at BB
  generalize hW : (W3.alloc (.cells _ 34)) = YY at *
  clear hW hWW
  have A1 : Hid (∀ yz, Below YY.heap.size YY yz → Arr yz (arrC false 0 (dm (fun _ => ((3 : Nat) : Int)) 1) n1 m1 d1 u1 v1 y1) (fun _ => ((3 : Nat) : Int)) 1 false 3 G1 aw1 Q1) := Lib.hid (fun yz hb => Arr.below BB.out.now.2.2.2.1 hb)
  have A2 : Hid (∀ yz, Below YY.heap.size YY yz → Arr yz (arrC false 1 (dm (lt [2, 3]) 2) n2 m2 d2 u2 v2 y2) (lt [2, 3]) 2 false 6 G2 aw2P aw2Q) := Lib.hid (fun yz hb => Arr.below BB.out.now.2.1 hb)
  have RW1 : Hid (∀ yz, Below YY.heap.size YY yz → Row yz W1.heap.size 34 (arrC false 0 (dm (fun _ => ((3 : Nat) : Int)) 1) n1 m1 d1 u1 v1 y1)) := Lib.hid (fun yz hb => Row.below BB.out.now.2.2.1 hb)
  have RW2 : Hid (∀ yz, Below YY.heap.size YY yz → Row yz W3.heap.size 34 (arrC false 1 (dm (lt [2, 3]) 2) n2 m2 d2 u2 v2 y2)) := Lib.hid (fun yz hb => Row.below BB.out.now.1 hb)
  have SZ1 : Hid (IsA (arrC false 0 (dm (fun _ => ((3 : Nat) : Int)) 1) n1 m1 d1 u1 v1 y1)) := Lib.hid ⟨_, _, _, _, _, _, _, _, _, rfl⟩
  have SZ2 : Hid (IsA (arrC false 1 (dm (lt [2, 3]) 2) n2 m2 d2 u2 v2 y2)) := Lib.hid ⟨_, _, _, _, _, _, _, _, _, rfl⟩
  have BB := Lib.hid (Bag.fresh BB.out.below)
  generalize (arrC false 0 (dm (fun _ => ((3 : Nat) : Int)) 1) n1 m1 d1 u1 v1 y1) = X1 at A1 RW1 SZ1
  generalize (arrC false 1 (dm (lt [2, 3]) 2) n2 m2 d2 u2 v2 y2) = X2 at A2 RW2 SZ2
  refine wp_region_inv2 ⟨(fun j => ([[23], [24], [25], [26], [22], [27], [28], [5], [5], [6]] : List (List Nat)).getD j []), (fun j => ([[], [0], [], [0, 1, 2], [0, 1, 2, 3], [0, 1, 2, 3, 4], [0, 1, 2, 3, 4], [], [0, 1, 2, 3, 4, 5, 7], [0, 1, 2, 3, 4, 5, 6, 7, 8]] : List (List Nat)).getD j []), [0, 7]⟩ (fun jj vv yy => match jj with | 0 => ∃ (k0 : Nat), vv = [some (.slice (some ⟨k0, 0, none⟩) 2 2)] ∧ KRow yy .i64 (some ⟨k0, 0, none⟩) 2 2 (lt [0, 0]) | 1 => ∃ (x1 : Array Value), vv = [some (.agg x1)] ∧ ArrA yy x1 (fun _ => ((2 : Nat) : Int)) 1 false 2 (lt [0, 0]) (fun _ => 1) ∧ IsA x1 | 2 => vv = [some (.agg X2)] | 3 => ∃ (x3 : Array Value), vv = [some (.tuple #[.agg x3, .int .i64 0])] ∧ Arr yy x3 TS 1 false 2 TG TP TQ ∧ IsA x3 | 4 => ∃ (x3 : Array Value), vv = [some (.tuple #[.agg x3, .int .i64 0])] ∧ Arr yy x3 TS 1 false 2 TG TP TQ ∧ IsA x3 | 5 => ∃ (x3 : Array Value), vv = [some (.agg x3)] ∧ Arr yy x3 TS 1 false 2 TG TP TQ ∧ IsA x3 | 6 => vv = [some (.int .i64 0)] | 7 => ∃ (k7 : Nat), ∃ (z7 : Array Value), vv = [some (.pointer (some ⟨k7, 0, none⟩))] ∧ Row yy k7 34 z7 ∧ IsA z7 ∧ YY.heap.size ≤ k7 | 8 => ∃ (k7 : Nat), ∃ (x3 : Array Value), vv = [some (.pointer (some ⟨k7, 0, none⟩))] ∧ Row yy k7 34 x3 ∧ Arr yy x3 TS 1 false 2 TG TP TQ ∧ IsA x3 | 9 => vv = [some (.int .i64 0)] | _ => True) (Bag YY (fun _ => True)) (by kernel_rfl) (by kernel_rfl) (by kernel_rfl) (Bag.start YY).drew ?_ ?_ ?_
  · intro jj vv yw yw2 hb h
    match jj, h with
    | 0, ⟨k0, e0, g0_0⟩ => exact Exists.intro k0 (And.intro e0 (g0_0.below hb))
    | 1, ⟨x1, e1, g1_0, g1_1⟩ => exact Exists.intro x1 (And.intro e1 (And.intro (g1_0.below hb) g1_1))
    | 2, h => exact h
    | 3, ⟨x3, e3, g3_0, g3_1⟩ => exact Exists.intro x3 (And.intro e3 (And.intro (g3_0.below hb) g3_1))
    | 4, ⟨x3, e4, g4_0, g4_1⟩ => exact Exists.intro x3 (And.intro e4 (And.intro (g4_0.below hb) g4_1))
    | 5, ⟨x3, e5, g5_0, g5_1⟩ => exact Exists.intro x3 (And.intro e5 (And.intro (g5_0.below hb) g5_1))
    | 6, h => exact h
    | 7, ⟨k7, z7, e7, g7_0, g7_1, g7_2⟩ => exact Exists.intro k7 (Exists.intro z7 (And.intro e7 (And.intro (g7_0.below hb) (And.intro g7_1 g7_2))))
    | 8, ⟨k7, x3, e8, g8_0, g8_1, g8_2⟩ => exact Exists.intro k7 (Exists.intro x3 (And.intro e8 (And.intro (g8_0.below hb) (And.intro (g8_1.below hb) g8_2))))
    | 9, h => exact h
    | _ + 10, h => exact h
  · intro ac yw hsz hdf hold hB hp
    obtain ⟨k7, x3, e8, r5, a5, i5⟩ := hp 8 (by decide)
    have t5 : ac.tmps[5]? = some (.pointer (some ⟨k7, 0, none⟩)) := (List.cons.inj e8).1
    have t6 : ac.tmps[6]? = some (.int .i64 0) := (List.cons.inj (hp 9 (by decide))).1
    have t1 : ac.tmps[1]? = some (.pointer (some ⟨W1.heap.size, 0, none⟩)) := hold 1 (by kernel_rfl)
    have t2 : ac.tmps[2]? = some (.int .i64 0) := hold 2 (by kernel_rfl)
    have t3 : ac.tmps[3]? = some (.pointer (some ⟨W3.heap.size, 0, none⟩)) := hold 3 (by kernel_rfl)
    have t4 : ac.tmps[4]? = some (.int .i64 0) := hold 4 (by kernel_rfl)
    have BB := Lib.hid (((BB.out.go hB.below).arr a5).row r5)
    have A1 := Lib.hid (fun yz hb => A1.out yz (hB.below.trans (Below.mono hb hB.below.size)))
    have A2 := Lib.hid (fun yz hb => A2.out yz (hB.below.trans (Below.mono hb hB.below.size)))
    have RW1 := Lib.hid (fun yz hb => RW1.out yz (hB.below.trans (Below.mono hb hB.below.size)))
    have RW2 := Lib.hid (fun yz hb => RW2.out yz (hB.below.trans (Below.mono hb hB.below.size)))
    have A3 := Lib.hid (fun yz (hb : Below yw.heap.size yw yz) => a5.below hb)
    have I3 := Lib.hid i5
    clear hold hp e8 r5 a5 i5 hB
    obtain ⟨TW, hTW⟩ : ∃ TW : Nat → Value, ∀ i, (ac.tmps[i]?).getD undef = TW i := ⟨_, fun _ => rfl⟩
    have f1 := (hTW 1).symm.trans (congrArg (fun x => Option.getD x undef) t1)
    have f2 := (hTW 2).symm.trans (congrArg (fun x => Option.getD x undef) t2)
    have f3 := (hTW 3).symm.trans (congrArg (fun x => Option.getD x undef) t3)
    have f4 := (hTW 4).symm.trans (congrArg (fun x => Option.getD x undef) t4)
    have f5 := (hTW 5).symm.trans (congrArg (fun x => Option.getD x undef) t5)
    have f6 := (hTW 6).symm.trans (congrArg (fun x => Option.getD x undef) t6)
    have hac := act_eq (n := 50) hsz TW hTW
    rw [show ((List.range 50).map TW).toArray = #[TW 0, TW 1, TW 2, TW 3, TW 4, TW 5, TW 6, TW 7, TW 8, TW 9, TW 10, TW 11, TW 12, TW 13, TW 14, TW 15, TW 16, TW 17, TW 18, TW 19, TW 20, TW 21, TW 22, TW 23, TW 24, TW 25, TW 26, TW 27, TW 28, TW 29, TW 30, TW 31, TW 32, TW 33, TW 34, TW 35, TW 36, TW 37, TW 38, TW 39, TW 40, TW 41, TW 42, TW 43, TW 44, TW 45, TW 46, TW 47, TW 48, TW 49] from rfl, f1, f2, f3, f4, f5, f6, hdf] at hac
    simp only [Option.getD_some] at hac
    subst hac
    clear hTW f1 f2 f3 f4 f5 f6
    go_wp2_with fail
    generalize yw = YZ at *
    refine wp_region_inv2 ⟨(fun j => ([[29], [30], [31], [32], [33], [34], [35], [36], [37], [38], [39], [40], [41], [42], [43], [44], [45], [46], [47], [48], [49], [0]] : List (List Nat)).getD j []), (fun j => ([[], [], [], [2], [0, 1, 2, 3], [0, 1, 2, 3, 4], [0, 1, 2, 3, 4, 5], [0, 1, 2, 3, 4, 5, 6], [0, 1, 2, 3, 4, 5, 6, 7], [0, 1, 2, 3, 4, 5, 6, 7, 8], [0, 1, 2, 3, 4, 5, 6, 7, 8, 9], [0, 1, 2, 3, 4, 5, 6, 7, 8, 9, 10], [0, 1, 2, 3, 4, 5, 6, 7, 8, 9, 10, 11], [0, 1, 2, 3, 4, 5, 6, 7, 8, 9, 10, 11, 12], [0, 1, 2, 3, 4, 5, 6, 7, 8, 9, 10, 11, 12, 13], [0, 1, 2, 3, 4, 5, 6, 7, 8, 9, 10, 11, 12, 13, 14], [0, 1, 2, 3, 4, 5, 6, 7, 8, 9, 10, 11, 12, 13, 14], [0, 1, 2, 3, 4, 5, 6, 7, 8, 9, 10, 11, 12, 13, 14], [0, 1, 2, 3, 4, 5, 6, 7, 8, 9, 10, 11, 12, 13, 14, 17], [0, 1, 2, 3, 4, 5, 6, 7, 8, 9, 10, 11, 12, 13, 14, 15, 16, 17, 18], [0, 1, 2, 3, 4, 5, 6, 7, 8, 9, 10, 11, 12, 13, 14, 15, 16, 17, 18, 19], [0, 1, 2, 3, 4, 5, 6, 7, 8, 9, 10, 11, 12, 13, 14, 15, 16, 17, 18, 19, 20]] : List (List Nat)).getD j []), [2, 17]⟩ (fun jj vv yy => match jj with | 0 => vv = [some (.agg X1)] | 1 => vv = [some (.int .i64 0)] | 2 => ∃ (k2 : Nat), vv = [some (.slice (some ⟨k2, 0, none⟩) 3 3)] ∧ KRow yy .i64 (some ⟨k2, 0, none⟩) 3 3 (lt [6, 7, 5]) | 3 => ∃ (x3r : Array Value), vv = [some (.agg x3r)] ∧ PlJ yy x3r [6, 7, 5] 3 | 4 => vv = [some (.bool true)] | 5 => vv = [some (.bool true)] | 6 => vv = [some (.int .i64 0)] | 7 => vv = [some (.bool true)] | 8 => vv = [some (.bool true)] | 9 => vv = [some (.bool true)] | 10 => vv = [some (.agg X2)] | 11 => vv = [some (.int .i64 6)] | 12 => vv = [some (.bool true)] | 13 => vv = [some (.bool true)] | 14 => vv = [some (.bool true)] | 15 => vv = [some (.agg x3)] | 16 => vv = [some (.int .i64 0)] | 17 => ∃ (k17 : Nat), vv = [some (.slice (some ⟨k17, 0, none⟩) 2 2)] ∧ KRow yy .i64 (some ⟨k17, 0, none⟩) 2 2 (lt [1, 1]) | 18 => ∃ (x18 : Array Value), vv = [some (.agg x18)] ∧ PlJ yy x18 [1, 1] 2 | 19 => vv = [some (.bool true)] | 20 => vv = [some (.bool true)] | 21 => vv = [some (.bool true)] | _ => True) (Bag YZ (fun _ => True)) (by kernel_rfl) (by kernel_rfl) (by kernel_rfl) (Bag.start YZ).drew ?_ ?_ ?_
    · intro jj vv yw yw2 hb h
      match jj, h with
      | 0, h => exact h
      | 1, h => exact h
      | 2, ⟨k2, e2, g2_0⟩ => exact Exists.intro k2 (And.intro e2 (g2_0.below hb))
      | 3, ⟨x3r, e3, g3_0⟩ => exact Exists.intro x3r (And.intro e3 (g3_0.below hb))
      | 4, h => exact h
      | 5, h => exact h
      | 6, h => exact h
      | 7, h => exact h
      | 8, h => exact h
      | 9, h => exact h
      | 10, h => exact h
      | 11, h => exact h
      | 12, h => exact h
      | 13, h => exact h
      | 14, h => exact h
      | 15, h => exact h
      | 16, h => exact h
      | 17, ⟨k17, e17, g17_0⟩ => exact Exists.intro k17 (And.intro e17 (g17_0.below hb))
      | 18, ⟨x18, e18, g18_0⟩ => exact Exists.intro x18 (And.intro e18 (g18_0.below hb))
      | 19, h => exact h
      | 20, h => exact h
      | 21, h => exact h
      | _ + 22, h => exact h
    · intro ac yw hsz hdf hold hB hp
      have t0 : ac.tmps[0]? = some (.bool true) := (List.cons.inj (hp 21 (by decide))).1
      have HE := Lib.hid (BB.out.go hB.below).below
      clear hold hp
      obtain ⟨TV, hTV⟩ : ∃ TV : Nat → Value, ∀ i, (ac.tmps[i]?).getD undef = TV i := ⟨_, fun _ => rfl⟩
      have f0 := (hTV 0).symm.trans (congrArg (fun x => Option.getD x undef) t0)
      have hac := act_eq (n := 50) hsz TV hTV
      rw [show ((List.range 50).map TV).toArray = #[TV 0, TV 1, TV 2, TV 3, TV 4, TV 5, TV 6, TV 7, TV 8, TV 9, TV 10, TV 11, TV 12, TV 13, TV 14, TV 15, TV 16, TV 17, TV 18, TV 19, TV 20, TV 21, TV 22, TV 23, TV 24, TV 25, TV 26, TV 27, TV 28, TV 29, TV 30, TV 31, TV 32, TV 33, TV 34, TV 35, TV 36, TV 37, TV 38, TV 39, TV 40, TV 41, TV 42, TV 43, TV 44, TV 45, TV 46, TV 47, TV 48, TV 49] from rfl, f0, hdf] at hac
      simp only [Option.getD_some] at hac
      subst hac
      clear hTV f0
      go_wp2
      go_ret
      exact ⟨rfl, HE.out⟩
    refine Stps2.cons (o := _) ?_ ?_
    · intro ac yw hsz hold hB hp K hK
      have t1 : ac.tmps[1]? = some (.pointer (some ⟨W1.heap.size, 0, none⟩)) := hold 1 (by kernel_rfl)
      clear hold hp hsz
      rw [if_pos (by rfl)]
      refine ld8 1 rfl (W1.heap.size) (X1) t1 (RW1.out _ hB.below) (SZ1.out.size) ?_
      exact hK.out _ _ ⟨hB, rfl, Nat.le_refl _, .inl (Below.refl _ _), fun h => absurd h (by decide)⟩
    refine Stps2.cons (o := _) ?_ ?_
    · intro ac yw hsz hold hB hp K hK
      have t2 : ac.tmps[2]? = some (.int .i64 0) := hold 2 (by kernel_rfl)
      clear hold hp hsz
      go_simp
      exact hK.out _ _ ⟨hB, rfl, Nat.le_refl _, .inl (Below.refl _ _), fun h => absurd h (by decide)⟩
    refine Stps2.cons (o := _) ?_ ?_
    · intro ac yw hsz hold hB hp K hK
      clear hold hp hsz
      have hbz : Below yw.heap.size yw (yw.alloc (.cells #[.int .i64 6, .int .i64 7, .int .i64 5] 3)) ∧ yw.heap.size < (yw.alloc (.cells #[.int .i64 6, .int .i64 7, .int .i64 5] 3)).heap.size := ⟨(Below.refl _ _).alloc (Nat.le_refl _) _, by rw [World.size_alloc]; omega⟩
      have kz : KRow (yw.alloc (.cells #[.int .i64 6, .int .i64 7, .int .i64 5] 3)) .i64 (some ⟨yw.heap.size, 0, none⟩) 3 3 (lt [6, 7, 5]) := KRow.lits yw [6, 7, 5] 3 (by decide) rfl
      go_simp
      exact hK.out _ _ ⟨hB.alloc _, Exists.intro yw.heap.size (And.intro rfl kz), Nat.le_of_lt hbz.2, .inl hbz.1, fun _ => ⟨_, rfl, Nat.le_refl _, hbz.2⟩⟩
    refine Stps2.cons (o := _) ?_ ?_
    · intro ac yw hsz hold hB hp K hK
      obtain ⟨k2_2, e2, g2_0⟩ := hp 2 (by decide)
      have t31 : ac.tmps[31]? = some (.slice (some ⟨k2_2, 0, none⟩) 3 3) := (List.cons.inj e2).1
      clear hold hp hsz e2
      go_simp
      (go_at_call 16; (with_reducible refine (RI3.out _ _ _ g2_0).mono ?_); rintro e wz ⟨x3r, rfl, h3_0, hbz⟩)
      exact hK.out _ _ ⟨hB.go hbz, Exists.intro x3r (And.intro rfl h3_0), hbz.size, .inl hbz, fun h => absurd h (by decide)⟩
    refine Stps2.cons (o := _) ?_ ?_
    · intro ac yw hsz hold hB hp K hK
      have e0 := hp 0 (by decide)
      have t29 : ac.tmps[29]? = some (.agg X1) := (List.cons.inj e0).1
      have e1 := hp 1 (by decide)
      have t30 : ac.tmps[30]? = some (.int .i64 0) := (List.cons.inj e1).1
      obtain ⟨x3r_3, e3, g3_0⟩ := hp 3 (by decide)
      have t32 : ac.tmps[32]? = some (.agg x3r_3) := (List.cons.inj e3).1
      clear hold hp hsz e0 e1 e3
      go_simp
      (go_at_call 19; (with_reducible refine (SO.out _ _ _ (SH1.out _ _ _ (A1.out _ hB.below) g3_0)).mono ?_); rintro e wz ⟨rfl, hbz⟩)
      exact hK.out _ _ ⟨hB.go hbz, rfl, hbz.size, .inl hbz, fun h => absurd h (by decide)⟩
    refine Stps2.cons (o := _) ?_ ?_
    · intro ac yw hsz hold hB hp K hK
      have e4 := hp 4 (by decide)
      have t33 : ac.tmps[33]? = some (.bool true) := (List.cons.inj e4).1
      clear hold hp hsz e4
      go_simp
      exact hK.out _ _ ⟨hB, rfl, Nat.le_refl _, .inl (Below.refl _ _), fun h => absurd h (by decide)⟩
    refine Stps2.cons (o := _) ?_ ?_
    · intro ac yw hsz hold hB hp K hK
      have t34 : ac.tmps[34]? = some (.bool true) := (List.cons.inj (hp 5 (by decide))).1
      rw [if_pos (wanted_pos rfl rfl t34)]
      have t4 : ac.tmps[4]? = some (.int .i64 0) := hold 4 (by kernel_rfl)
      clear hold hp hsz
      go_simp
      exact hK.out _ _ ⟨hB, rfl, Nat.le_refl _, .inl (Below.refl _ _), fun h => absurd h (by decide)⟩
    refine Stps2.cons (o := _) ?_ ?_
    · intro ac yw hsz hold hB hp K hK
      have t34 : ac.tmps[34]? = some (.bool true) := (List.cons.inj (hp 5 (by decide))).1
      rw [if_pos (wanted_pos rfl rfl t34)]
      have e6 := hp 6 (by decide)
      have t35 : ac.tmps[35]? = some (.int .i64 0) := (List.cons.inj e6).1
      clear hold hp hsz e6
      go_simp
      exact hK.out _ _ ⟨hB, rfl, Nat.le_refl _, .inl (Below.refl _ _), fun h => absurd h (by decide)⟩
    refine Stps2.cons (o := _) ?_ ?_
    · intro ac yw hsz hold hB hp K hK
      have e5 := hp 5 (by decide)
      have t34 : ac.tmps[34]? = some (.bool true) := (List.cons.inj e5).1
      have e7 := hp 7 (by decide)
      have t36 : ac.tmps[36]? = some (.bool true) := (List.cons.inj e7).1
      clear hold hp hsz e5 e7
      go_simp
      exact hK.out _ _ ⟨hB, rfl, Nat.le_refl _, .inl (Below.refl _ _), fun h => absurd h (by decide)⟩
    refine Stps2.cons (o := _) ?_ ?_
    · intro ac yw hsz hold hB hp K hK
      have e8 := hp 8 (by decide)
      have t37 : ac.tmps[37]? = some (.bool true) := (List.cons.inj e8).1
      clear hold hp hsz e8
      go_simp
      exact hK.out _ _ ⟨hB, rfl, Nat.le_refl _, .inl (Below.refl _ _), fun h => absurd h (by decide)⟩
    refine Stps2.cons (o := _) ?_ ?_
    · intro ac yw hsz hold hB hp K hK
      have t38 : ac.tmps[38]? = some (.bool true) := (List.cons.inj (hp 9 (by decide))).1
      rw [if_pos (wanted_pos rfl rfl t38)]
      have t3 : ac.tmps[3]? = some (.pointer (some ⟨W3.heap.size, 0, none⟩)) := hold 3 (by kernel_rfl)
      clear hold hp hsz
      refine ld8 3 rfl (W3.heap.size) (X2) t3 (RW2.out _ hB.below) (SZ2.out.size) ?_
      exact hK.out _ _ ⟨hB, rfl, Nat.le_refl _, .inl (Below.refl _ _), fun h => absurd h (by decide)⟩
    refine Stps2.cons (o := _) ?_ ?_
    · intro ac yw hsz hold hB hp K hK
      have t38 : ac.tmps[38]? = some (.bool true) := (List.cons.inj (hp 9 (by decide))).1
      rw [if_pos (wanted_pos rfl rfl t38)]
      have e10 := hp 10 (by decide)
      have t39 : ac.tmps[39]? = some (.agg X2) := (List.cons.inj e10).1
      clear hold hp hsz e10
      go_simp
      (go_at_call 32; (with_reducible refine (LN.out _ _ (A2.out _ hB.below)).mono ?_); rintro e wz ⟨rfl, hbz⟩)
      exact hK.out _ _ ⟨hB.go hbz, rfl, hbz.size, .inl hbz, fun h => absurd h (by decide)⟩
    refine Stps2.cons (o := _) ?_ ?_
    · intro ac yw hsz hold hB hp K hK
      have t38 : ac.tmps[38]? = some (.bool true) := (List.cons.inj (hp 9 (by decide))).1
      rw [if_pos (wanted_pos rfl rfl t38)]
      have e11 := hp 11 (by decide)
      have t40 : ac.tmps[40]? = some (.int .i64 6) := (List.cons.inj e11).1
      clear hold hp hsz e11
      go_simp
      exact hK.out _ _ ⟨hB, rfl, Nat.le_refl _, .inl (Below.refl _ _), fun h => absurd h (by decide)⟩
    refine Stps2.cons (o := _) ?_ ?_
    · intro ac yw hsz hold hB hp K hK
      have e9 := hp 9 (by decide)
      have t38 : ac.tmps[38]? = some (.bool true) := (List.cons.inj e9).1
      have e12 := hp 12 (by decide)
      have t41 : ac.tmps[41]? = some (.bool true) := (List.cons.inj e12).1
      clear hold hp hsz e9 e12
      go_simp
      exact hK.out _ _ ⟨hB, rfl, Nat.le_refl _, .inl (Below.refl _ _), fun h => absurd h (by decide)⟩
    refine Stps2.cons (o := _) ?_ ?_
    · intro ac yw hsz hold hB hp K hK
      have e13 := hp 13 (by decide)
      have t42 : ac.tmps[42]? = some (.bool true) := (List.cons.inj e13).1
      clear hold hp hsz e13
      go_simp
      exact hK.out _ _ ⟨hB, rfl, Nat.le_refl _, .inl (Below.refl _ _), fun h => absurd h (by decide)⟩
    refine Stps2.cons (o := _) ?_ ?_
    · intro ac yw hsz hold hB hp K hK
      have t43 : ac.tmps[43]? = some (.bool true) := (List.cons.inj (hp 14 (by decide))).1
      rw [if_pos (wanted_pos rfl rfl t43)]
      have t5 : ac.tmps[5]? = some (.pointer (some ⟨k7, 0, none⟩)) := hold 5 (by kernel_rfl)
      clear hold hp hsz
      refine ld8 5 rfl (k7) (x3) t5 ((BB.out.go hB.below).now.1) (I3.out.size) ?_
      exact hK.out _ _ ⟨hB, rfl, Nat.le_refl _, .inl (Below.refl _ _), fun h => absurd h (by decide)⟩
    refine Stps2.cons (o := _) ?_ ?_
    · intro ac yw hsz hold hB hp K hK
      have t43 : ac.tmps[43]? = some (.bool true) := (List.cons.inj (hp 14 (by decide))).1
      rw [if_pos (wanted_pos rfl rfl t43)]
      have t6 : ac.tmps[6]? = some (.int .i64 0) := hold 6 (by kernel_rfl)
      clear hold hp hsz
      go_simp
      exact hK.out _ _ ⟨hB, rfl, Nat.le_refl _, .inl (Below.refl _ _), fun h => absurd h (by decide)⟩
    refine Stps2.cons (o := _) ?_ ?_
    · intro ac yw hsz hold hB hp K hK
      have t43 : ac.tmps[43]? = some (.bool true) := (List.cons.inj (hp 14 (by decide))).1
      rw [if_pos (wanted_pos rfl rfl t43)]
      clear hold hp hsz
      have hbz : Below yw.heap.size yw (yw.alloc (.cells #[.int .i64 1, .int .i64 1] 3)) ∧ yw.heap.size < (yw.alloc (.cells #[.int .i64 1, .int .i64 1] 3)).heap.size := ⟨(Below.refl _ _).alloc (Nat.le_refl _) _, by rw [World.size_alloc]; omega⟩
      have kz : KRow (yw.alloc (.cells #[.int .i64 1, .int .i64 1] 3)) .i64 (some ⟨yw.heap.size, 0, none⟩) 2 2 (lt [1, 1]) := KRow.lits yw [1, 1] 3 (by decide) rfl
      go_simp
      exact hK.out _ _ ⟨hB.alloc _, Exists.intro yw.heap.size (And.intro rfl kz), Nat.le_of_lt hbz.2, .inl hbz.1, fun _ => ⟨_, rfl, Nat.le_refl _, hbz.2⟩⟩
    refine Stps2.cons (o := _) ?_ ?_
    · intro ac yw hsz hold hB hp K hK
      have t43 : ac.tmps[43]? = some (.bool true) := (List.cons.inj (hp 14 (by decide))).1
      rw [if_pos (wanted_pos rfl rfl t43)]
      obtain ⟨k17_17, e17, g17_0⟩ := hp 17 (by decide)
      have t46 : ac.tmps[46]? = some (.slice (some ⟨k17_17, 0, none⟩) 2 2) := (List.cons.inj e17).1
      clear hold hp hsz e17
      go_simp
      (go_at_call 16; (with_reducible refine (RI2.out _ _ _ g17_0).mono ?_); rintro e wz ⟨x18, rfl, h18_0, hbz⟩)
      exact hK.out _ _ ⟨hB.go hbz, Exists.intro x18 (And.intro rfl h18_0), hbz.size, .inl hbz, fun h => absurd h (by decide)⟩
    refine Stps2.cons (o := _) ?_ ?_
    · intro ac yw hsz hold hB hp K hK
      have t43 : ac.tmps[43]? = some (.bool true) := (List.cons.inj (hp 14 (by decide))).1
      rw [if_pos (wanted_pos rfl rfl t43)]
      have e15 := hp 15 (by decide)
      have t44 : ac.tmps[44]? = some (.agg x3) := (List.cons.inj e15).1
      have e16 := hp 16 (by decide)
      have t45 : ac.tmps[45]? = some (.int .i64 0) := (List.cons.inj e16).1
      obtain ⟨x18_18, e18, g18_0⟩ := hp 18 (by decide)
      have t47 : ac.tmps[47]? = some (.agg x18_18) := (List.cons.inj e18).1
      clear hold hp hsz e15 e16 e18
      go_simp
      (go_at_call 19; (with_reducible refine (SO.out _ _ _ (SH3.out _ _ _ (A3.out _ hB.below) g18_0)).mono ?_); rintro e wz ⟨rfl, hbz⟩)
      exact hK.out _ _ ⟨hB.go hbz, rfl, hbz.size, .inl hbz, fun h => absurd h (by decide)⟩
    refine Stps2.cons (o := _) ?_ ?_
    · intro ac yw hsz hold hB hp K hK
      have e14 := hp 14 (by decide)
      have t43 : ac.tmps[43]? = some (.bool true) := (List.cons.inj e14).1
      have e19 := hp 19 (by decide)
      have t48 : ac.tmps[48]? = some (.bool true) := (List.cons.inj e19).1
      clear hold hp hsz e14 e19
      go_simp
      exact hK.out _ _ ⟨hB, rfl, Nat.le_refl _, .inl (Below.refl _ _), fun h => absurd h (by decide)⟩
    refine Stps2.cons (o := _) ?_ ?_
    · intro ac yw hsz hold hB hp K hK
      have e20 := hp 20 (by decide)
      have t49 : ac.tmps[49]? = some (.bool true) := (List.cons.inj e20).1
      clear hold hp hsz e20
      go_simp
      exact hK.out _ _ ⟨hB, rfl, Nat.le_refl _, .inl (Below.refl _ _), fun h => absurd h (by decide)⟩
    exact Stps2.nil _
  refine Stps2.cons (o := _) ?_ ?_
  · intro ac yw hsz hold hB hp K hK
    clear hold hp hsz
    have hbz : Below yw.heap.size yw (yw.alloc (.cells #[.int .i64 0, .int .i64 0] 3)) ∧ yw.heap.size < (yw.alloc (.cells #[.int .i64 0, .int .i64 0] 3)).heap.size := ⟨(Below.refl _ _).alloc (Nat.le_refl _) _, by rw [World.size_alloc]; omega⟩
    have kz : KRow (yw.alloc (.cells #[.int .i64 0, .int .i64 0] 3)) .i64 (some ⟨yw.heap.size, 0, none⟩) 2 2 (lt [0, 0]) := KRow.lits yw [0, 0] 3 (by decide) rfl
    go_simp
    exact hK.out _ _ ⟨hB.alloc _, Exists.intro yw.heap.size (And.intro rfl kz), Nat.le_of_lt hbz.2, .inl hbz.1, fun _ => ⟨_, rfl, Nat.le_refl _, hbz.2⟩⟩
  refine Stps2.cons (o := _) ?_ ?_
  · intro ac yw hsz hold hB hp K hK
    obtain ⟨k0_0, e0, g0_0⟩ := hp 0 (by decide)
    have t23 : ac.tmps[23]? = some (.slice (some ⟨k0_0, 0, none⟩) 2 2) := (List.cons.inj e0).1
    clear hold hp hsz e0
    go_simp
    (go_at_call 31; (with_reducible refine (IN2.out _ _ _ g0_0).mono ?_); rintro e wz ⟨x1, rfl, h1_0, hbz⟩)
    exact hK.out _ _ ⟨hB.go hbz, Exists.intro x1 (And.intro rfl (And.intro h1_0 ((h1_0 (fun _ => 0)).isA))), hbz.size, .inl hbz, fun h => absurd h (by decide)⟩
  refine Stps2.cons (o := _) ?_ ?_
  · intro ac yw hsz hold hB hp K hK
    have t3 : ac.tmps[3]? = some (.pointer (some ⟨W3.heap.size, 0, none⟩)) := hold 3 (by kernel_rfl)
    clear hold hp hsz
    rw [if_pos (by rfl)]
    refine ld8 3 rfl (W3.heap.size) (X2) t3 (RW2.out _ hB.below) (SZ2.out.size) ?_
    exact hK.out _ _ ⟨hB, rfl, Nat.le_refl _, .inl (Below.refl _ _), fun h => absurd h (by decide)⟩
  refine Stps2.cons (o := _) ?_ ?_
  · intro ac yw hsz hold hB hp K hK
    obtain ⟨x1_1, e1, g1_0, g1_1⟩ := hp 1 (by decide)
    have t24 : ac.tmps[24]? = some (.agg x1_1) := (List.cons.inj e1).1
    have e2 := hp 2 (by decide)
    have t25 : ac.tmps[25]? = some (.agg X2) := (List.cons.inj e2).1
    clear hold hp hsz e1 e2
    go_simp
    (go_at_call 24; (refine (TB.out _ _ _ (g1_0 _) (A2.out _ hB.below)).mono ?_); rintro e wz ⟨x3, rfl, h3_0, hbz⟩)
    exact hK.out _ _ ⟨hB.go hbz, Exists.intro x3 (And.intro rfl (And.intro h3_0 h3_0.isA)), hbz.size, .inl hbz, fun h => absurd h (by decide)⟩
  refine Stps2.cons (o := _) ?_ ?_
  · intro ac yw hsz hold hB hp K hK
    obtain ⟨x3_3, e3, g3_0, g3_1⟩ := hp 3 (by decide)
    have t26 : ac.tmps[26]? = some (.tuple #[.agg x3_3, .int .i64 0]) := (List.cons.inj e3).1
    clear hold hp hsz e3
    go_simp
    exact hK.out _ _ ⟨hB, Exists.intro x3_3 (And.intro rfl (And.intro g3_0 g3_1)), Nat.le_refl _, .inl (Below.refl _ _), fun h => absurd h (by decide)⟩
  refine Stps2.cons (o := _) ?_ ?_
  · intro ac yw hsz hold hB hp K hK
    obtain ⟨x3_4, e4, g4_0, g4_1⟩ := hp 4 (by decide)
    have t22 : ac.tmps[22]? = some (.tuple #[.agg x3_4, .int .i64 0]) := (List.cons.inj e4).1
    clear hold hp hsz e4
    go_simp
    exact hK.out _ _ ⟨hB, Exists.intro x3_4 (And.intro rfl (And.intro g4_0 g4_1)), Nat.le_refl _, .inl (Below.refl _ _), fun h => absurd h (by decide)⟩
  refine Stps2.cons (o := _) ?_ ?_
  · intro ac yw hsz hold hB hp K hK
    obtain ⟨x3_4, e4, g4_0, g4_1⟩ := hp 4 (by decide)
    have t22 : ac.tmps[22]? = some (.tuple #[.agg x3_4, .int .i64 0]) := (List.cons.inj e4).1
    clear hold hp hsz e4
    go_simp
    exact hK.out _ _ ⟨hB, rfl, Nat.le_refl _, .inl (Below.refl _ _), fun h => absurd h (by decide)⟩
  refine Stps2.cons (o := _) ?_ ?_
  · intro ac yw hsz hold hB hp K hK
    clear hold hp hsz
    have hbz : Below yw.heap.size yw (yw.alloc (.cells zerC 34)) ∧ yw.heap.size < (yw.alloc (.cells zerC 34)).heap.size := ⟨(Below.refl _ _).alloc (Nat.le_refl _) _, by rw [World.size_alloc]; omega⟩
    go_simp
    exact hK.out _ _ ⟨hB.alloc _, Exists.intro yw.heap.size (Exists.intro zerC (And.intro rfl (And.intro ((Row.new yw _ zerC)) (And.intro IsA.zer hB.below.size)))), Nat.le_of_lt hbz.2, .inl hbz.1, fun _ => ⟨_, rfl, Nat.le_refl _, hbz.2⟩⟩
  refine Stps2.cons (o := _) ?_ ?_
  · intro ac yw hsz hold hB hp K hK
    obtain ⟨k7_7, z7_7, e7, g7_0, g7_1, g7_2⟩ := hp 7 (by decide)
    have t5 : ac.tmps[5]? = some (.pointer (some ⟨k7_7, 0, none⟩)) := (List.cons.inj e7).1
    obtain ⟨x3_5, e5, g5_0, g5_1⟩ := hp 5 (by decide)
    have t27 : ac.tmps[27]? = some (.agg x3_5) := (List.cons.inj e5).1
    clear hold hp hsz e7 e5
    rw [if_pos (by rfl)]
    have HB : Bag _ (fun _ => True) (yw.setRow k7_7 x3_5) := ⟨below_put hB.below g7_2 _, fun _ _ _ _ => trivial, trivial⟩
    refine st8 5 27 rfl k7_7 x3_5 t5 t27 _ z7_7 g7_0 g7_1 g5_1 ?_
    refine hK.out undef _ ⟨HB, Exists.intro k7_7 (Exists.intro x3_5 (And.intro (congrArg (fun x => [x]) t5) (And.intro (g7_0.put _) (And.intro (g5_0.store g7_0 g7_1 _) g5_1)))), by simp [World.setRow], .inr ?_, fun h => absurd h (by decide)⟩
    intro jj hj hap h
    match jj, h with
    | 0, ⟨k0, e0, g0_0⟩ =>
      have hne : k0 ≠ k7_7 := fun e => hap 7 (by decide) 0 (by decide) (by decide) (by decide) (by decide) k7_7 ⟨5, _, rfl, t5, rfl⟩ ⟨23, _, rfl, (List.cons.inj e0).1, congrArg some e⟩
      exact Exists.intro k0 (And.intro e0 (g0_0.away (.inr (fun x hx => by obtain rfl := Option.some.inj hx; exact hne)) (Far.setRow _ _ _)))
    | 1, ⟨x1, e1, g1_0, g1_1⟩ =>
      exact Exists.intro x1 (And.intro e1 (And.intro (g1_0.store g7_0 g7_1 _) g1_1))
    | 2, h => exact h
    | 3, ⟨x3, e3, g3_0, g3_1⟩ =>
      exact Exists.intro x3 (And.intro e3 (And.intro (g3_0.store g7_0 g7_1 _) g3_1))
    | 4, ⟨x3, e4, g4_0, g4_1⟩ =>
      exact Exists.intro x3 (And.intro e4 (And.intro (g4_0.store g7_0 g7_1 _) g4_1))
    | 5, ⟨x3, e5, g5_0, g5_1⟩ =>
      exact Exists.intro x3 (And.intro e5 (And.intro (g5_0.store g7_0 g7_1 _) g5_1))
    | 6, h => exact h
    | 7, ⟨k7, z7, e7, g7_0, g7_1, g7_2⟩ =>
      have e9 : k7 = k7_7 := by have := (List.cons.inj e7).1.symm.trans t5; cases this; rfl
      subst e9
      exact Exists.intro _ (Exists.intro _ (And.intro e7 (And.intro (g7_0.put _) (And.intro g5_1 g7_2))))
    | 8, _ => exact absurd rfl hj
    | 9, h => exact h
    | _ + 10, h => exact h
  refine Stps2.cons (o := _) ?_ ?_
  · intro ac yw hsz hold hB hp K hK
    have e6 := hp 6 (by decide)
    have t28 : ac.tmps[28]? = some (.int .i64 0) := (List.cons.inj e6).1
    clear hold hp hsz e6
    go_simp
    exact hK.out _ _ ⟨hB, rfl, Nat.le_refl _, .inl (Below.refl _ _), fun h => absurd h (by decide)⟩
  exact Stps2.nil _
end Go.Proofs.YtkljpofljkgkdaaGreatDoor

namespace Go.Proofs.YtkljpofljkgkdaaGreatDoor
open Go.RowKit
/-- The numbers of a plain array. -/
def gP (fB : Nat → Bool) (fS fT : Nat → ByteArray) : Nat → Int := fun j => ofP (fB j) (fS j) (fT j)
def gQ (fB : Nat → Bool) (fS fT : Nat → ByteArray) : Nat → Nat := fun j => ofQ (fB j) (fS j) (fT j)
/-- A plain array that is light. -/
structure Good (S : Nat → Int) (r : Nat) (ch : Bool) (L : Nat) (fB : Nat → Bool) (fS fT : Nat → ByteArray) : Prop where
  le : L ≤ 250
  rank : r ≤ 8
  sh : shB S r = true
  cnt : itm S r = (L : Nat)
  short : Short fS fT (nnO ch L)
  of : ofB S r ch (tnO ch L) fB fS fT (nnO ch L) = true
theorem good_of {S : Nat → Int} {r : Nat} {ch : Bool} {tn : Nat} {fB : Nat → Bool} {fS fT : Nat → ByteArray} {nn : Nat} (h : (tn : Int) ≤ 250 ∧ (nn : Int) ≤ 250 ∧ r ≤ 8 ∧ Short fS fT nn ∧ ofB S r ch tn fB fS fT nn = true) :
    ∃ L, tn = tnO ch L ∧ nn = nnO ch L ∧ Good S r ch L fB fS fT := by
  obtain ⟨h1, h2, h3, h4, h5⟩ := h
  obtain ⟨q1, q2, q3, q4, q5⟩ := ofB_true h5
  cases ch with
  | true =>
    obtain rfl := q3 rfl
    exact ⟨tn, rfl, rfl, by omega, h3, q1, q2, h4, h5⟩
  | false =>
    obtain rfl := q4 rfl
    exact ⟨nn, rfl, rfl, by omega, h3, q1, q2, h4, h5⟩
theorem Good.num {S : Nat → Int} {r : Nat} {ch : Bool} {L : Nat} {fB : Nat → Bool} {fS fT : Nat → ByteArray} (h : Good S r ch L fB fS fT) : NumOk fB fS fT (gP fB fS fT) (gQ fB fS fT) (nnO ch L) := ofO_num (ofB_true h.of).2.2.2.2 h.short
theorem Good.small {S : Nat → Int} {r : Nat} {ch : Bool} {L : Nat} {fB : Nat → Bool} {fS fT : Nat → ByteArray} (h : Good S r ch L fB fS fT) : Small ch L (gP fB fS fT) (gQ fB fS fT) := fun e => by
  have := ofO_cmp (ofB_true h.of).2.2.2.2 h.short
  subst e
  exact this
theorem Good.told {S : Nat → Int} {r : Nat} {ch : Bool} {L : Nat} {fB : Nat → Bool} {fS fT : Nat → ByteArray} (h : Good S r ch L fB fS fT) : ∀ j, j < nnO ch L → rB (gP fB fS fT j) = fB j ∧ rS (gP fB fS fT j) = fS j ∧ str (dec (gQ fB fS fT j)) = fT j := fun j hj => by
  obtain ⟨e1, e2, e3, _⟩ := h.num j hj
  exact ⟨e1.symm, e2.symm, e3.symm⟩
theorem Good.in64 {S : Nat → Int} {r : Nat} {ch : Bool} {L : Nat} {fB : Nat → Bool} {fS fT : Nat → ByteArray} (h : Good S r ch L fB fS fT) : In64 S r := fun j hj => by
  have h1 := ax_bd (ax_le (show j + 1 ≤ r by omega) (sh_ax h.sh).2)
  have h2 := rm_pos S j
  have h3 : 1 * max (S j) 1 ≤ rm S j * max (S j) 1 := Int.mul_le_mul h2 (Int.le_refl _) (by omega) (by omega)
  have h4 : rm S (j + 1) = rm S j * max (S j) 1 := rfl
  have h5 := ax_nn (sh_ax h.sh).2 hj
  omega
/-- The law's way to the program's array. -/
theorem of8_any (cs : Array Value) (S : Nat → Int) (r : Nat) (ch : Bool) (L : Nat) (g : Nat → Int) (fB : Nat → Bool) (fS fT : Nat → ByteArray) (w : World) (h : Pln w cs S r ch L g fB fS fT) (hg : Good S r ch L fB fS fT) :
    Calls Tryz.prog 11 #[.agg cs] w fun e w' => ∃ a, e = .returned (.agg a) ∧ Arr w' a S r ch L g (gP fB fS fT) (gQ fB fS fT) ∧ Below w.heap.size w w' := by
  have h1 : nnO ch L ≤ 100000 := by have := hg.le; unfold nnO; split <;> omega
  have h2 : tnO ch L ≤ 100000 := by have := hg.le; unfold tnO; split <;> omega
  refine (lof_any cs S r ch g (tnO ch L) fB fS fT (nnO ch L) w h hg.in64 hg.short h1 h2 hg.of).mono ?_
  rintro e w' ⟨na, nc, ta, tc, rfl, k1, k2, k3, k4, hb⟩
  refine ⟨_, rfl, ⟨fun e => ?_, fun e => ?_⟩, hb⟩
  · subst e
    obtain ⟨rfl, rfl⟩ := k4 rfl
    exact ⟨ta, tc, rfl, k2⟩
  · subst e
    obtain ⟨rfl, rfl⟩ := k3 rfl
    exact ⟨na, nc, rfl, k1⟩
/-- What the law does first: is the plain array light? -/
theorem light9_any (cs : Array Value) (S : Nat → Int) (r : Nat) (ch : Bool) (g : Nat → Int) (tn : Nat) (fB : Nat → Bool) (fS fT : Nat → ByteArray) (nn : Nat) (w : World) (h : PlnAt w cs S r ch g tn fB fS fT nn) (hS : In64 S r) (hz : ∀ j, j < nn → (fS j).size ≤ maxLen ∧ (fT j).size ≤ maxLen) :
    Calls Tryz.prog 8 #[.agg cs] w fun e w' => ∃ b, e = .returned (.bool b) ∧ (b = true → ∃ L, tn = tnO ch L ∧ nn = nnO ch L ∧ Good S r ch L fB fS fT) ∧ Below w.heap.size w w' :=
  (light8_any cs S r ch g tn fB fS fT nn w h hS hz).mono fun _ _ ⟨b, he, hb, hw⟩ => ⟨b, he, fun e => good_of (hb e), hw⟩
/-- An array that was made of a plain one, its elements as they were, is that plain one. -/
theorem Good.shown {w : World} {cs p : Array Value} {S : Nat → Int} {r : Nat} {ch : Bool} {L : Nat} {g : Nat → Int} {fB : Nat → Bool} {fS fT : Nat → ByteArray} (h : Good S r ch L fB fS fT) (ha : Arr w cs S r ch L g (gP fB fS fT) (gQ fB fS fT)) (hp : Pln w p S r ch L g fB fS fT) : Shown w cs p :=
  ⟨S, r, ch, L, g, _, _, S, g, fB, fS, fT, ha, hp, h.rank, by have := h.le; omega, h.small, fun _ _ => rfl, fun _ _ => rfl, h.told⟩
end Go.Proofs.YtkljpofljkgkdaaGreatDoor

namespace Go.Proofs.YtkljpofljkgkdaaGreatDoor
open Go.ChangeShapes Go.WideShapes Go.ChangeAt Go.RowKit
theorem in64_of {f : Nat → Int} {n : Nat} (h : ∀ j, j < n → (Lit.int .i64 (f j)).wf = true) : In64 f n := fun j hj => by
  simpa [Lit.wf, IntKind.min, IntKind.max, IntKind.signed, IntKind.bits] using h j hj
section
variable {H : Type} {enc : TypeId × Value → H} {P : Program} {w : World} {base : Nat} {spare : Nat → Bool} {held : Bool}
end
end Go.Proofs.YtkljpofljkgkdaaGreatDoor

namespace Go.Proofs.YtkljpofljkgkdaaGreatDoor
open Go.ChangeShapes Go.WideShapes Go.ChangeAt Go.RowKit Go.WideMaps Go.WideElems Go.Deep
theorem cellsNum : Tryz.prog.cellsOf 65 = 3 := by kernel_rfl
theorem cellsBool : Tryz.prog.cellsOf 4 = 1 := by kernel_rfl
theorem cellsStr : Tryz.prog.cellsOf 9 = 1 := by kernel_rfl
end Go.Proofs.YtkljpofljkgkdaaGreatDoor

namespace Go.Proofs.YtkljpofljkgkdaaGreatDoor
open Go.ChangeShapes Go.WideShapes Go.ChangeAt Go.RowKit Go.WideMaps Go.WideElems Go.Deep Go.Joins
theorem krow_cells {H : Type} {enc : TypeId × Value → H} {P : Program} {w : World} {base : Nat} {t e : TypeId} {ki : IntKind} {cs : List Value} {fuel : Nat} {x : DataW H × List MemPlace} (ht : P.underlying t = some (.slice e)) (he : P.underlying e = some (.int ki)) (hc : P.cellsOf e = 1)
    (h : DataW.trod enc P w base (fun _ => true) true fuel t cs = some x) :
    ∃ a n c f, cs = [.slice a n c] ∧ KRow w ki a n c f ∧ ∀ j, j < n → (Lit.int ki (f j)).wf = true := by
  rcases open_ints ht he hc h with ⟨hcs, _⟩ | ⟨a, len, cap, zs, hcs, _, hl, hmx, hz, _, hcell, hwz⟩
  · exact ⟨none, 0, 0, fun _ => 0, hcs, ⟨Nat.le_refl _, Nat.zero_le _, .inl rfl⟩, fun j hj => absurd hj (Nat.not_lt_zero _)⟩
  · simp only [if_true] at hz
    refine ⟨some a, len, cap, fun j => zs.getD j 0, hcs, ⟨hl, hmx, ?_⟩, fun j hj => ?_⟩
    · rcases Nat.eq_zero_or_pos len with h0 | h0
      · exact .inl h0
      · obtain ⟨b, off, spot⟩ := a
        have hspot : spot = none := by simpa [Addr.add] using World.cell?_spot (hcell 0 (by omega))
        subst hspot
        have h1 : ∀ j, j < zs.length → w.cell? ⟨b, off + j, none⟩ = some (.int ki (zs.getD j 0)) := fun j hj => by rw [← add_plain]; exact hcell j hj
        exact .inr ⟨b, off, rfl, World.block_lt_of_cell? w _ (h1 0 (by omega)), fun j hj => h1 j (by omega)⟩
    · refine hwz _ ?_
      have : zs.getD j 0 = zs[j]'(by omega) := by simp [List.getD, show j < zs.length by omega]
      show zs.getD j 0 ∈ zs
      rw [this]
      exact List.getElem_mem _
set_option maxRecDepth 100000 in
theorem qrow_cells {H : Type} {enc : TypeId × Value → H} {w : World} {base : Nat} {cs : List Value} {fuel : Nat} {x : DataW H × List MemPlace}
    (h : DataW.trod enc Tryz.prog w base (fun _ => true) true fuel 24 cs = some x) :
    ∃ a n c fB fS fT, cs = [.slice a n c] ∧ QRow w a n c fB fS fT ∧ ∀ j, j < n → (fS j).size ≤ maxLen ∧ (fT j).size ≤ maxLen := by
  rcases open_slice Tryz.underlying24 h with ⟨hcs, _⟩ | ⟨a, len, cap, m, n, D, Pl, hcs, hb, hl, hm, hmm, rfl, hx⟩
  · exact ⟨none, 0, 0, fun _ => false, fun _ => ⟨#[]⟩, fun _ => ⟨#[]⟩, hcs, QRow.nought _ _ _ (Nat.zero_le _) _ _ _, fun j hj => absurd hj (Nat.not_lt_zero _)⟩
  · simp only [if_true] at hmm
    subst hmm
    obtain ⟨b, off, spot⟩ := a
    rcases Nat.eq_zero_or_pos len with h0 | h0
    · subst h0
      exact ⟨_, 0, _, fun _ => false, fun _ => ⟨#[]⟩, fun _ => ⟨#[]⟩, hcs, QRow.nought _ _ _ hm _ _ _, fun j hj => absurd hj (Nat.not_lt_zero _)⟩
    have each : ∀ i, i < m → ∃ q : Bool × ByteArray × ByteArray, w.cell? ((⟨b, off, spot⟩ : Addr).add (i * 3)) = some (.bool q.1) ∧ w.cell? ((⟨b, off, spot⟩ : Addr).add (i * 3 + 1)) = some (.string q.2.1) ∧ w.cell? ((⟨b, off, spot⟩ : Addr).add (i * 3 + 2)) = some (.string q.2.2) ∧ q.2.1.size ≤ maxLen ∧ q.2.2.size ≤ maxLen := by
      intro i hi
      obtain ⟨cs', h1, h2⟩ := hx i hi
      rw [cellsNum] at h1
      obtain ⟨_, hlen, hcell⟩ := World.cells?_some h1
      obtain ⟨y0, y1, y2, k, hxx, _, hy0, hy1, hy2⟩ := trod_struct3 Tryz.underlying65 h2
      match cs', hlen with
      | [c0, c1, c2], _ =>
        obtain ⟨u, e0, rfl⟩ := DataW.trod_bool Tryz.underlying4 hy0
        obtain ⟨s, e1, rfl, hs⟩ := DataW.trod_string Tryz.underlying9 hy1
        obtain ⟨t, e2, rfl, ht⟩ := DataW.trod_string Tryz.underlying9 hy2
        simp [cellsBool] at e0
        simp [cellsStr] at e1 e2
        subst e0 e1 e2
        have g0 := hcell 0 (by omega)
        have g1 := hcell 1 (by omega)
        have g2 := hcell 2 (by omega)
        rw [add_add] at g0 g1 g2
        exact ⟨(u, s, t), by simpa using g0, by simpa using g1, by simpa using g2, hs, ht⟩
    obtain ⟨q, hq⟩ := choose_lt each
    have hspot : spot = none := by simpa [Addr.add] using World.cell?_spot (hq 0 (by omega)).1
    subst hspot
    refine ⟨_, _, _, fun j => (q j).1, fun j => (q j).2.1, fun j => (q j).2.2, hcs, ⟨hl, hm, .inr ⟨b, off, rfl, ?_, fun j hj => ?_⟩⟩, fun j hj => ⟨(hq j (by omega)).2.2.2.1, (hq j (by omega)).2.2.2.2⟩⟩
    · exact World.block_lt_of_cell? w ⟨b, off + 0 * 3, none⟩ (by rw [← add_plain]; exact (hq 0 (by omega)).1)
    · have := hq j (by omega)
      simp only [add_plain] at this
      exact ⟨this.1, this.2.1, this.2.2.1⟩
theorem cellsPln : Tryz.prog.cellsOf 26 = 4 := by kernel_rfl
theorem cellsSlI : Tryz.prog.cellsOf 22 = 1 := by kernel_rfl
theorem cellsSlR : Tryz.prog.cellsOf 23 = 1 := by kernel_rfl
theorem cellsSlN : Tryz.prog.cellsOf 24 = 1 := by kernel_rfl
theorem cellsI : Tryz.prog.cellsOf 3 = 1 := by kernel_rfl
theorem cellsC : Tryz.prog.cellsOf 21 = 1 := by kernel_rfl
set_option maxRecDepth 100000 in
theorem open_pln {H : Type} {enc : TypeId × Value → H} {W : World} {r : Reach} {b0 : Nat} {v0 : Value} {d0 : DataW H} {p0 : List MemPlace}
    (hv : Value.okWide Tryz.prog W r b0 26 v0) (h0 : DataW.Trod enc Tryz.prog W 0 (fun _ => true) true 26 v0 d0 p0) :
    ∃ cs S q ch g tn fB fS fT nn, v0 = .agg cs ∧ PlnAt W cs S q ch g tn fB fS fT nn ∧ In64 S q ∧ ∀ j, j < nn → (fS j).size ≤ maxLen ∧ (fT j).size ≤ maxLen := by
  obtain ⟨cs, rfl, hsz⟩ := okWide_struct Tryz.underlying26 hv
  rw [cellsPln] at hsz
  obtain ⟨l⟩ := cs
  match l, hsz with
  | [c0, c1, c2, c3], _ =>
  obtain ⟨fuel, hf⟩ := h0
  obtain ⟨y0, y1, y2, y3, m, hx, _, hy0, hy1, hy2, hy3⟩ := trod_struct4 Tryz.underlying26 hf
  obtain ⟨sa, r, sc, S, e0, k0, w0⟩ := krow_cells (ki := .i64) Tryz.underlying22 Tryz.underlying3 cellsI hy0
  obtain ⟨ch, e1, rfl⟩ := DataW.trod_bool Tryz.underlying4 hy1
  obtain ⟨ta, tn, tc, g, e2, k2, w2⟩ := krow_cells (ki := .i32) Tryz.underlying23 Tryz.underlying21 cellsC hy2
  obtain ⟨na, nn, nc, fB, fS, fT, e3, k3, w3⟩ := qrow_cells hy3
  simp [Value.cells, cellsSlI] at e0
  simp [Value.cells, cellsBool] at e1
  simp [Value.cells, cellsSlR] at e2
  simp [Value.cells, cellsSlN] at e3
  subst e0 e1 e2 e3
  exact ⟨_, S, r, ch, g, tn, fB, fS, fT, nn, rfl, ⟨sa, sc, ta, tc, na, nc, rfl, k0, k2, k3⟩, in64_of w0, w3⟩
end Go.Proofs.YtkljpofljkgkdaaGreatDoor
