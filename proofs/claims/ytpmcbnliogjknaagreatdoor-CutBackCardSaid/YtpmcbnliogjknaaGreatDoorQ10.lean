/-
  Texts of this seat, laid together.
-/
import Derived.Deep.QuietTactic
import Derived.BigQuiet
import Derived.Lib.AppendZeros
import Derived.Deep.RegionHeld3
import Derived.StillTailTactics
import Derived.Test.YtpmcbnliogjknaaGreatDoorQ1
import Derived.Test.YtpmcbnliogjknaaGreatDoorQ2
import Derived.Test.YtpmcbnliogjknaaGreatDoorQ3
import Derived.Test.YtpmcbnliogjknaaGreatDoorQ4
import Derived.Test.YtpmcbnliogjknaaGreatDoorQ5
import Derived.Test.YtpmcbnliogjknaaGreatDoorQ6
import Derived.Test.YtpmcbnliogjknaaGreatDoorQ7
import Derived.Test.YtpmcbnliogjknaaGreatDoorQ8
import Derived.Test.YtpmcbnliogjknaaGreatDoorQ9

namespace Go.Proofs.YtpmcbnliogjknaaGreatDoor
open Go.RowKit
attribute [local go_sem ↓] Go.wp_at_zero Go.wp_at_succ
def cw2S : Nat → Int := lnF (paN false 4097 (fun _ => -2) (paS 1 (fun _ => ((3 : Nat) : Int))))
def cw2G : Nat → Int := fun j => elC 3 (fun _ => 0) 32 (pkG (paS 1 (fun _ => ((3 : Nat) : Int))) (lnF (paN false 4097 (fun _ => -2) (paS 1 (fun _ => ((3 : Nat) : Int))))) 1 (paF false 4097 (fun _ => -2) (paS 1 (fun _ => ((3 : Nat) : Int)))) j)
def cw2P : Nat → Int := fun j => elP 3 (lt [5, 6, 7]) (pkG (paS 1 (fun _ => ((3 : Nat) : Int))) (lnF (paN false 4097 (fun _ => -2) (paS 1 (fun _ => ((3 : Nat) : Int))))) 1 (paF false 4097 (fun _ => -2) (paS 1 (fun _ => ((3 : Nat) : Int)))) j)
def cw2Q : Nat → Nat := fun j => elQ 3 (fun _ => 1) (pkG (paS 1 (fun _ => ((3 : Nat) : Int))) (lnF (paN false 4097 (fun _ => -2) (paS 1 (fun _ => ((3 : Nat) : Int))))) 1 (paF false 4097 (fun _ => -2) (paS 1 (fun _ => ((3 : Nat) : Int)))) j)
def cw4S : Nat → Int := lnF (paN false 4097 (fun _ => 5) (paS 0 (fun _ => 0)))
def cw4G : Nat → Int := fun j => elC 1 (fun _ => 0) 32 (pkG (paS 0 (fun _ => 0)) (lnF (paN false 4097 (fun _ => 5) (paS 0 (fun _ => 0)))) 1 (paF false 4097 (fun _ => 5) (paS 0 (fun _ => 0))) j)
def cw4P : Nat → Int := fun j => elP 1 (fun _ => 1) (pkG (paS 0 (fun _ => 0)) (lnF (paN false 4097 (fun _ => 5) (paS 0 (fun _ => 0)))) 1 (paF false 4097 (fun _ => 5) (paS 0 (fun _ => 0))) j)
def cw4Q : Nat → Nat := fun j => elQ 1 (fun _ => 1) (pkG (paS 0 (fun _ => 0)) (lnF (paN false 4097 (fun _ => 5) (paS 0 (fun _ => 0)))) 1 (paF false 4097 (fun _ => 5) (paS 0 (fun _ => 0))) j)
def cw6S : Nat → Int := lnF (cfN false (lt [1, 0, 1]) 3 1 (-1) (fun _ => ((3 : Nat) : Int)))
def cw6G : Nat → Int := fun j => elC 3 (fun _ => 0) 32 (pkG (cfS 1 (-1) (fun _ => ((3 : Nat) : Int))) (lnF (cfN false (lt [1, 0, 1]) 3 1 (-1) (fun _ => ((3 : Nat) : Int)))) (cfR 1 (-1)) (cfF false (lt [1, 0, 1]) 3 1 (-1) (fun _ => ((3 : Nat) : Int))) j)
def cw6P : Nat → Int := fun j => elP 3 (lt [5, 6, 7]) (pkG (cfS 1 (-1) (fun _ => ((3 : Nat) : Int))) (lnF (cfN false (lt [1, 0, 1]) 3 1 (-1) (fun _ => ((3 : Nat) : Int)))) (cfR 1 (-1)) (cfF false (lt [1, 0, 1]) 3 1 (-1) (fun _ => ((3 : Nat) : Int))) j)
def cw6Q : Nat → Nat := fun j => elQ 3 (fun _ => 1) (pkG (cfS 1 (-1) (fun _ => ((3 : Nat) : Int))) (lnF (cfN false (lt [1, 0, 1]) 3 1 (-1) (fun _ => ((3 : Nat) : Int)))) (cfR 1 (-1)) (cfF false (lt [1, 0, 1]) 3 1 (-1) (fun _ => ((3 : Nat) : Int))) j)
def cw8S : Nat → Int := lnF (cfN true (lt [1, 0, 1]) 3 1 (-1) cw6S)
def cw8G : Nat → Int := fun j => elC 2 cw6G 32 (pkG (cfS 1 (-1) cw6S) (lnF (cfN true (lt [1, 0, 1]) 3 1 (-1) cw6S)) (cfR 1 (-1)) (cfF true (lt [1, 0, 1]) 3 1 (-1) cw6S) j)
def cw8P : Nat → Int := fun j => elP 2 cw6P (pkG (cfS 1 (-1) cw6S) (lnF (cfN true (lt [1, 0, 1]) 3 1 (-1) cw6S)) (cfR 1 (-1)) (cfF true (lt [1, 0, 1]) 3 1 (-1) cw6S) j)
def cw8Q : Nat → Nat := fun j => elQ 2 cw6Q (pkG (cfS 1 (-1) cw6S) (lnF (cfN true (lt [1, 0, 1]) 3 1 (-1) cw6S)) (cfR 1 (-1)) (cfF true (lt [1, 0, 1]) 3 1 (-1) cw6S) j)
theorem in64_one {S : Nat → Int} (h : -9223372036854775808 ≤ S 0 ∧ S 0 ≤ 9223372036854775807) : In64 S 1 := fun j hj => by
  obtain rfl : j = 0 := by omega
  exact h
theorem less5 {p : Nat → Prop} (h0 : p 0) (h1 : p 1) (h2 : p 2) (h3 : p 3) (h4 : p 4) : ∀ j, j < 5 → p j
  | 0, _ => h0
  | 1, _ => h1
  | 2, _ => h2
  | 3, _ => h3
  | 4, _ => h4
  | n + 5, h => absurd h (by omega)
theorem pintsJ {wz : World} {a : Option Addr} {c n : Nat} {l : List Int} (h : KRow wz .i64 a n c (lt l)) (h64 : l.all (fun x => decide (-9223372036854775808 ≤ x ∧ x ≤ 9223372036854775807)) = true) (hn : n ≤ 1000000) :
    Calls Tryz.prog 20 #[.slice a n c] wz fun e w' => ∃ p, e = .returned (.agg p) ∧ PlJ w' p l n ∧ Below wz.heap.size wz w' :=
  (r6Ints_any a n c (lt l) wz h (lt64 h64 n) hn).mono (by
    intro e w' hq
    obtain ⟨p, he, _, hb⟩ := hq (fun _ => 0)
    refine ⟨p, he, fun T => ?_, hb⟩
    obtain ⟨p2, he2, h2, _⟩ := hq T
    rw [he] at he2
    injection he2 with he2
    injection he2 with he2
    rw [he2]
    exact h2)
set_option linter.unusedSimpArgs false in
set_option maxHeartbeats 6400000 in
set_option maxRecDepth 100000 in
theorem awake9_any (w : World) : Calls Tryz.prog 7 #[] w fun e w' => e = .returned (.bool true) ∧ Below w.heap.size w w' := by
  have I2 : Hid (∀ wz, Calls Tryz.prog 17 #[.int .i64 (-2)] wz fun e w' => ∃ x, e = .returned (.agg x) ∧ Arr w' x (fun _ => 0) 0 false 1 (fun _ => 0) (fun _ => -2) (fun _ => 1) ∧ Below wz.heap.size wz w') := Lib.hid (fun wz => (int8_any (-2) wz (by omega)).mono (by
    rintro e w' ⟨x, he, h, hb⟩
    exact ⟨x, he, h _, hb⟩))
  have I5 : Hid (∀ wz, Calls Tryz.prog 17 #[.int .i64 5] wz fun e w' => ∃ x, e = .returned (.agg x) ∧ Arr w' x (fun _ => 0) 0 false 1 (fun _ => 0) (fun _ => 5) (fun _ => 1) ∧ Below wz.heap.size wz w') := Lib.hid (fun wz => (int8_any 5 wz (by omega)).mono (by
    rintro e w' ⟨x, he, h, hb⟩
    exact ⟨x, he, h _, hb⟩))
  have I1 : Hid (∀ wz, Calls Tryz.prog 17 #[.int .i64 1] wz fun e w' => ∃ x, e = .returned (.agg x) ∧ Arr w' x (fun _ => 0) 0 false 1 (fun _ => 0) (fun _ => 1) (fun _ => 1) ∧ Below wz.heap.size wz w') := Lib.hid (fun wz => (int8_any 1 wz (by omega)).mono (by
    rintro e w' ⟨x, he, h, hb⟩
    exact ⟨x, he, h _, hb⟩))
  have INl : Hid (∀ a c wz, KRow wz .i64 a 3 c (lt [5, 6, 7]) → Calls Tryz.prog 16 #[.slice a 3 c] wz fun e w' => ∃ x, e = .returned (.agg x) ∧ Arr w' x (fun _ => ((3 : Nat) : Int)) 1 false 3 (fun _ => 0) (lt [5, 6, 7]) (fun _ => 1) ∧ Below wz.heap.size wz w') := Lib.hid (fun a c wz h => (ints8_any a 3 c (lt [5, 6, 7]) wz h (lt64 (by decide) 3) (by omega)).mono (by
    rintro e w' ⟨x, he, h, hb⟩
    exact ⟨x, he, h _, hb⟩))
  have INk : Hid (∀ a c wz, KRow wz .i64 a 3 c (lt [1, 0, 1]) → Calls Tryz.prog 16 #[.slice a 3 c] wz fun e w' => ∃ x, e = .returned (.agg x) ∧ Arr w' x (fun _ => ((3 : Nat) : Int)) 1 false 3 (fun _ => 0) (lt [1, 0, 1]) (fun _ => 1) ∧ Below wz.heap.size wz w') := Lib.hid (fun a c wz h => (ints8_any a 3 c (lt [1, 0, 1]) wz h (lt64 (by decide) 3) (by omega)).mono (by
    rintro e w' ⟨x, he, h, hb⟩
    exact ⟨x, he, h _, hb⟩))
  have TK1 : Hid (∀ c0 c wz, Arr wz c0 (fun _ => 0) 0 false 1 (fun _ => 0) (fun _ => -2) (fun _ => 1) → Arr wz c (fun _ => ((3 : Nat) : Int)) 1 false 3 (fun _ => 0) (lt [5, 6, 7]) (fun _ => 1) → Calls Tryz.prog 8 #[.agg c0, .agg c] wz fun e w' => ∃ x, e = .returned (.tuple #[.agg x, .int .i64 0]) ∧ Arr w' x cw2S 1 false 2 cw2G cw2P cw2Q ∧ Below wz.heap.size wz w') := Lib.hid (fun c0 c wz h0 h =>
    (take_any c0 (fun _ => 0) 0 false 1 (fun _ => 0) (fun _ => -2) (fun _ => 1) c (fun _ => ((3 : Nat) : Int)) 1 false 3 (fun _ => 0) (lt [5, 6, 7]) (fun _ => 1) wz h0 h (by omega) (fun _ _ _ => Nat.one_pos) (by omega) (in64_one (by decide)) (by decide) (by decide)).mono (fun _ _ q => q.ok (by decide)))
  have TK2 : Hid (∀ c0 c wz, Arr wz c0 (fun _ => 0) 0 false 1 (fun _ => 0) (fun _ => 5) (fun _ => 1) → Arr wz c (fun _ => 0) 0 false 1 (fun _ => 0) (fun _ => 1) (fun _ => 1) → Calls Tryz.prog 8 #[.agg c0, .agg c] wz fun e w' => ∃ x, e = .returned (.tuple #[.agg x, .int .i64 0]) ∧ Arr w' x cw4S 1 false 5 cw4G cw4P cw4Q ∧ Below wz.heap.size wz w') := Lib.hid (fun c0 c wz h0 h =>
    (take_any c0 (fun _ => 0) 0 false 1 (fun _ => 0) (fun _ => 5) (fun _ => 1) c (fun _ => 0) 0 false 1 (fun _ => 0) (fun _ => 1) (fun _ => 1) wz h0 h (by omega) (fun _ _ _ => Nat.one_pos) (by omega) (fun _ h => absurd h (Nat.not_lt_zero _)) (by decide) (by decide)).mono (fun _ _ q => q.ok (by decide)))
  have CP : Hid (∀ c0 c wz, Arr wz c0 (fun _ => ((3 : Nat) : Int)) 1 false 3 (fun _ => 0) (lt [1, 0, 1]) (fun _ => 1) → Arr wz c (fun _ => ((3 : Nat) : Int)) 1 false 3 (fun _ => 0) (lt [5, 6, 7]) (fun _ => 1) → Calls Tryz.prog 13 #[.agg c0, .agg c, .int .i64 (-1)] wz fun e w' => ∃ x, e = .returned (.tuple #[.agg x, .int .i64 0]) ∧ Arr w' x cw6S 1 false 2 cw6G cw6P cw6Q ∧ Below wz.heap.size wz w') := Lib.hid (fun c0 c wz h0 h =>
    (compress_any c0 (fun _ => ((3 : Nat) : Int)) 1 false 3 (fun _ => 0) (lt [1, 0, 1]) (fun _ => 1) c (fun _ => ((3 : Nat) : Int)) 1 false 3 (fun _ => 0) (lt [5, 6, 7]) (fun _ => 1) (-1) wz h0 h (by omega) (fun _ _ _ => Nat.one_pos) (by omega) (in64_one (by decide)) (by decide) (by decide)).mono (fun _ _ q => q.ok (by decide)))
  have EX : Hid (∀ c0 c wz, Arr wz c0 (fun _ => ((3 : Nat) : Int)) 1 false 3 (fun _ => 0) (lt [1, 0, 1]) (fun _ => 1) → Arr wz c cw6S 1 false 2 cw6G cw6P cw6Q → Calls Tryz.prog 15 #[.agg c0, .agg c, .int .i64 (-1)] wz fun e w' => ∃ x, e = .returned (.tuple #[.agg x, .int .i64 0]) ∧ Arr w' x cw8S 1 false 3 cw8G cw8P cw8Q ∧ Below wz.heap.size wz w') := Lib.hid (fun c0 c wz h0 h =>
    (expand_any c0 (fun _ => ((3 : Nat) : Int)) 1 false 3 (fun _ => 0) (lt [1, 0, 1]) (fun _ => 1) c cw6S 1 false 2 cw6G cw6P cw6Q (-1) wz h0 h (by omega) (fun _ _ _ => Nat.one_pos) (by omega) (in64_one (by decide)) (by decide) (by decide)).mono (fun _ _ q => q.ok (by decide)))
  have RIa : Hid (∀ a c wz, KRow wz .i64 a 2 c (lt [6, 7]) → Calls Tryz.prog 20 #[.slice a 2 c] wz fun e w' => ∃ p, e = .returned (.agg p) ∧ PlJ w' p [6, 7] 2 ∧ Below wz.heap.size wz w') := Lib.hid (fun a c wz h => pintsJ h (by decide) (by omega))
  have RIb : Hid (∀ a c wz, KRow wz .i64 a 5 c (lt [1, 0, 0, 0, 0]) → Calls Tryz.prog 20 #[.slice a 5 c] wz fun e w' => ∃ p, e = .returned (.agg p) ∧ PlJ w' p [1, 0, 0, 0, 0] 5 ∧ Below wz.heap.size wz w') := Lib.hid (fun a c wz h => pintsJ h (by decide) (by omega))
  have RIc : Hid (∀ a c wz, KRow wz .i64 a 2 c (lt [5, 7]) → Calls Tryz.prog 20 #[.slice a 2 c] wz fun e w' => ∃ p, e = .returned (.agg p) ∧ PlJ w' p [5, 7] 2 ∧ Below wz.heap.size wz w') := Lib.hid (fun a c wz h => pintsJ h (by decide) (by omega))
  have RId : Hid (∀ a c wz, KRow wz .i64 a 3 c (lt [5, 0, 7]) → Calls Tryz.prog 20 #[.slice a 3 c] wz fun e w' => ∃ p, e = .returned (.agg p) ∧ PlJ w' p [5, 0, 7] 3 ∧ Below wz.heap.size wz w') := Lib.hid (fun a c wz h => pintsJ h (by decide) (by omega))
  have SHa : Hid (∀ wz x p, Arr wz x cw2S 1 false 2 cw2G cw2P cw2Q → PlJ wz p [6, 7] 2 → Shown wz x p) := Lib.hid (fun wz x p h hp => shownJ h hp (by omega) (by decide) (less2 (by decide) (by decide)))
  have SHb : Hid (∀ wz x p, Arr wz x cw4S 1 false 5 cw4G cw4P cw4Q → PlJ wz p [1, 0, 0, 0, 0] 5 → Shown wz x p) := Lib.hid (fun wz x p h hp => shownJ h hp (by omega) (by decide) (less5 (by decide) (by decide) (by decide) (by decide) (by decide)))
  have SHc : Hid (∀ wz x p, Arr wz x cw6S 1 false 2 cw6G cw6P cw6Q → PlJ wz p [5, 7] 2 → Shown wz x p) := Lib.hid (fun wz x p h hp => shownJ h hp (by omega) (by decide) (less2 (by decide) (by decide)))
  have SHd : Hid (∀ wz x p, Arr wz x cw8S 1 false 3 cw8G cw8P cw8Q → PlJ wz p [5, 0, 7] 3 → Shown wz x p) := Lib.hid (fun wz x p h hp => shownJ h hp (by omega) (by decide) (less3 (by decide) (by decide) (by decide)))
  have SO := Lib.hid (fun cs p wz h => showsOkC_any cs p wz h)
  go_enter Tryz.func7, Tryz.ntmps7
  go_wp2_with fail
  have B9 := Lib.hid (((Bag.start w).alloc (.cells #[.int .i64 5, .int .i64 6, .int .i64 7] 3)).krow (KRow.lits w [5, 6, 7] 3 (by decide) rfl))
  go_at_call 16
  (refine (INl.out _ _ _ B9.out.now.1).mono ?_)
  rintro e W1 ⟨x1, rfl, h1, hb1⟩
  have HB1 := Lib.hid (B9.out.go hb1).below
  have HA1 := Lib.hid h1
  obtain ⟨n1, m1, d1, u1, v1, y1, hx1, _⟩ := h1.form
  have hx1 : _ = (arrC false 0 (dm (fun _ => ((3 : Nat) : Int)) 1) n1 m1 d1 u1 v1 y1) := hx1
  subst hx1
  clear h1 hb1 B9
  have BB := Lib.hid (((Bag.fresh HB1.out).arr HA1.out).newRow (arrC false 0 (dm (fun _ => ((3 : Nat) : Int)) 1) n1 m1 d1 u1 v1 y1) 32)
  unfold arrC
  go_wp2_with fail
  have hWW := BB.out.below
  unfold arrC at hWW
  unfold arrC at BB
  generalize hW : (W1.alloc (.cells _ 32)) = YY at *
  clear hW hWW
  have RW1 : Hid (∀ yz, Below YY.heap.size YY yz → Row yz W1.heap.size 32 (arrC false 0 (dm (fun _ => ((3 : Nat) : Int)) 1) n1 m1 d1 u1 v1 y1)) := Lib.hid (fun yz hb => Row.below BB.out.now.1 hb)
  have A1 : Hid (∀ yz, Below YY.heap.size YY yz → Arr yz (arrC false 0 (dm (fun _ => ((3 : Nat) : Int)) 1) n1 m1 d1 u1 v1 y1) (fun _ => ((3 : Nat) : Int)) 1 false 3 (fun _ => 0) (lt [5, 6, 7]) (fun _ => 1)) := Lib.hid (fun yz hb => Arr.below BB.out.now.2.1 hb)
  have SZ1 : Hid (IsA (arrC false 0 (dm (fun _ => ((3 : Nat) : Int)) 1) n1 m1 d1 u1 v1 y1)) := Lib.hid ⟨_, _, _, _, _, _, _, _, _, rfl⟩
  have BB := Lib.hid (Bag.fresh BB.out.below)
  clear HB1 HA1
  generalize (arrC false 0 (dm (fun _ => ((3 : Nat) : Int)) 1) n1 m1 d1 u1 v1 y1) = X1 at RW1 A1 SZ1
  refine wp_region_inv2 ⟨(fun j => ([[13], [14], [15], [12], [16], [17], [2], [2], [3]] : List (List Nat)).getD j []), (fun j => ([[], [], [0, 1], [0, 1, 2], [0, 1, 2, 3], [0, 1, 2, 3], [], [0, 1, 2, 3, 4, 6], [0, 1, 2, 3, 4, 5, 6, 7]] : List (List Nat)).getD j []), [6]⟩ (fun jj vv yy => match jj with | 0 => ∃ (x0 : Array Value), vv = [some (.agg x0)] ∧ Arr yy x0 (fun _ => 0) 0 false 1 (fun _ => 0) (fun _ => -2) (fun _ => 1) | 1 => vv = [some (.agg X1)] | 2 => ∃ (x2 : Array Value), vv = [some (.tuple #[.agg x2, .int .i64 0])] ∧ Arr yy x2 cw2S 1 false 2 cw2G cw2P cw2Q ∧ IsA x2 | 3 => ∃ (x2 : Array Value), vv = [some (.tuple #[.agg x2, .int .i64 0])] ∧ Arr yy x2 cw2S 1 false 2 cw2G cw2P cw2Q ∧ IsA x2 | 4 => ∃ (x2 : Array Value), vv = [some (.agg x2)] ∧ Arr yy x2 cw2S 1 false 2 cw2G cw2P cw2Q ∧ IsA x2 | 5 => vv = [some (.int .i64 0)] | 6 => ∃ (k6 : Nat), ∃ (z6 : Array Value), vv = [some (.pointer (some ⟨k6, 0, none⟩))] ∧ Row yy k6 32 z6 ∧ IsA z6 ∧ YY.heap.size ≤ k6 | 7 => ∃ (k6 : Nat), ∃ (x2 : Array Value), vv = [some (.pointer (some ⟨k6, 0, none⟩))] ∧ Row yy k6 32 x2 ∧ Arr yy x2 cw2S 1 false 2 cw2G cw2P cw2Q ∧ IsA x2 | 8 => vv = [some (.int .i64 0)] | _ => True) (Bag YY (fun _ => True)) (by kernel_rfl) (by kernel_rfl) (by kernel_rfl) (Bag.start YY).drew ?_ ?_ ?_
  · intro jj vv yw yw2 hb h
    match jj, h with
    | 0, ⟨x0, e0, g0_0⟩ => exact Exists.intro x0 (And.intro e0 (g0_0.below hb))
    | 1, h => exact h
    | 2, ⟨x2, e2, g2_0, g2_1⟩ => exact Exists.intro x2 (And.intro e2 (And.intro (g2_0.below hb) g2_1))
    | 3, ⟨x2, e3, g3_0, g3_1⟩ => exact Exists.intro x2 (And.intro e3 (And.intro (g3_0.below hb) g3_1))
    | 4, ⟨x2, e4, g4_0, g4_1⟩ => exact Exists.intro x2 (And.intro e4 (And.intro (g4_0.below hb) g4_1))
    | 5, h => exact h
    | 6, ⟨k6, z6, e6, g6_0, g6_1, g6_2⟩ => exact Exists.intro k6 (Exists.intro z6 (And.intro e6 (And.intro (g6_0.below hb) (And.intro g6_1 g6_2))))
    | 7, ⟨k6, x2, e7, g7_0, g7_1, g7_2⟩ => exact Exists.intro k6 (Exists.intro x2 (And.intro e7 (And.intro (g7_0.below hb) (And.intro (g7_1.below hb) g7_2))))
    | 8, h => exact h
    | _ + 9, h => exact h
  · intro ac yw hsz hdf hold hB hp
    obtain ⟨ka, xa, ea, ra, aa, ia⟩ := hp 7 (by decide)
    have t2 : ac.tmps[2]? = some (.pointer (some ⟨ka, 0, none⟩)) := (List.cons.inj ea).1
    have t3 : ac.tmps[3]? = some (.int .i64 0) := (List.cons.inj (hp 8 (by decide))).1
    have t1 : ac.tmps[1]? = some (.pointer (some ⟨W1.heap.size, 0, none⟩)) := hold 1 (by kernel_rfl)
    have RW1 := Lib.hid (fun yz hb => RW1.out yz (hB.below.trans (Below.mono hb hB.below.size)))
    have A1 := Lib.hid (fun yz hb => A1.out yz (hB.below.trans (Below.mono hb hB.below.size)))
    have RWa := Lib.hid (fun yz (hb : Below yw.heap.size yw yz) => Row.below ra hb)
    have Aa := Lib.hid (fun yz (hb : Below yw.heap.size yw yz) => Arr.below aa hb)
    have SZa := Lib.hid ia
    have BB := Lib.hid (BB.out.go hB.below)
    clear hold hp ea ra aa ia hB
    obtain ⟨TZ, hTZ⟩ : ∃ TZ : Nat → Value, ∀ i, (ac.tmps[i]?).getD undef = TZ i := ⟨_, fun _ => rfl⟩
    have f1 := (hTZ 1).symm.trans (congrArg (fun x => Option.getD x undef) t1)
    have f2 := (hTZ 2).symm.trans (congrArg (fun x => Option.getD x undef) t2)
    have f3 := (hTZ 3).symm.trans (congrArg (fun x => Option.getD x undef) t3)
    have hac := act_eq (n := 64) hsz TZ hTZ
    rw [show ((List.range 64).map TZ).toArray = #[TZ 0, TZ 1, TZ 2, TZ 3, TZ 4, TZ 5, TZ 6, TZ 7, TZ 8, TZ 9, TZ 10, TZ 11, TZ 12, TZ 13, TZ 14, TZ 15, TZ 16, TZ 17, TZ 18, TZ 19, TZ 20, TZ 21, TZ 22, TZ 23, TZ 24, TZ 25, TZ 26, TZ 27, TZ 28, TZ 29, TZ 30, TZ 31, TZ 32, TZ 33, TZ 34, TZ 35, TZ 36, TZ 37, TZ 38, TZ 39, TZ 40, TZ 41, TZ 42, TZ 43, TZ 44, TZ 45, TZ 46, TZ 47, TZ 48, TZ 49, TZ 50, TZ 51, TZ 52, TZ 53, TZ 54, TZ 55, TZ 56, TZ 57, TZ 58, TZ 59, TZ 60, TZ 61, TZ 62, TZ 63] from rfl, f1, f2, f3, hdf] at hac
    simp only [Option.getD_some] at hac
    subst hac
    clear hTZ f1 f2 f3
    generalize yw = Y3 at *
    go_wp2_with fail
    go_at_call 17
    (with_reducible refine (I5.out _).mono ?_)
    rintro e wb ⟨xb, rfl, hb9, hbb⟩
    have B9 := Lib.hid (((Bag.start Y3).go hbb).arr hb9)
    clear hb9 hbb
    go_wp2_with fail
    go_at_call 17
    (with_reducible refine (I1.out _).mono ?_)
    rintro e wc ⟨x9, rfl, hc9, hbc⟩
    have B9 := Lib.hid ((B9.out.go hbc).arr hc9)
    clear hc9 hbc
    go_wp2_with fail
    go_at_call 8
    (refine (TK2.out _ _ _ B9.out.now.2.1 B9.out.now.1).mono ?_)
    rintro e W4 ⟨x4, rfl, h4, hb4⟩
    have HB3 := Lib.hid (B9.out.go hb4).below
    have HA4 := Lib.hid h4
    obtain ⟨n4, m4, d4, u4, v4, y4, hx4, _⟩ := h4.form
    have hx4 : _ = (arrC false 0 (dm cw4S 1) n4 m4 d4 u4 v4 y4) := hx4
    subst hx4
    clear h4 hb4 B9
    have B9 := Lib.hid (((Bag.fresh HB3.out).arr HA4.out).newRow (arrC false 0 (dm cw4S 1) n4 m4 d4 u4 v4 y4) 32)
    unfold arrC
    go_wp2_with fail
    have hWW := B9.out.below
    unfold arrC at hWW
    unfold arrC at B9
    generalize hW : (W4.alloc (.cells _ 32)) = Y4 at *
    clear hW
    have BB := Lib.hid (BB.out.go hWW)
    have RW1 := Lib.hid (fun yz hb => RW1.out yz (hWW.trans (Below.mono hb hWW.size)))
    have A1 := Lib.hid (fun yz hb => A1.out yz (hWW.trans (Below.mono hb hWW.size)))
    have RWa := Lib.hid (fun yz hb => RWa.out yz (hWW.trans (Below.mono hb hWW.size)))
    have Aa := Lib.hid (fun yz hb => Aa.out yz (hWW.trans (Below.mono hb hWW.size)))
    have RWb : Hid (∀ yz, Below Y4.heap.size Y4 yz → Row yz W4.heap.size 32 (arrC false 0 (dm cw4S 1) n4 m4 d4 u4 v4 y4)) := Lib.hid (fun yz hb => Row.below B9.out.now.1 hb)
    have Ab : Hid (∀ yz, Below Y4.heap.size Y4 yz → Arr yz (arrC false 0 (dm cw4S 1) n4 m4 d4 u4 v4 y4) cw4S 1 false 5 cw4G cw4P cw4Q) := Lib.hid (fun yz hb => Arr.below B9.out.now.2.1 hb)
    have SZb : Hid (IsA (arrC false 0 (dm cw4S 1) n4 m4 d4 u4 v4 y4)) := Lib.hid ⟨_, _, _, _, _, _, _, _, _, rfl⟩
    clear hWW B9 HB3 HA4
    generalize (arrC false 0 (dm cw4S 1) n4 m4 d4 u4 v4 y4) = X4 at RWb Ab SZb
    refine wp_region_inv2 ⟨(fun j => ([[25], [26], [27], [28], [24], [29], [30], [6], [6], [7]] : List (List Nat)).getD j []), (fun j => ([[], [0], [], [0, 1, 2], [0, 1, 2, 3], [0, 1, 2, 3, 4], [0, 1, 2, 3, 4], [], [0, 1, 2, 3, 4, 5, 7], [0, 1, 2, 3, 4, 5, 6, 7, 8]] : List (List Nat)).getD j []), [0, 7]⟩ (fun jj vv yy => match jj with | 0 => ∃ (k0 : Nat), vv = [some (.slice (some ⟨k0, 0, none⟩) 3 3)] ∧ KRow yy .i64 (some ⟨k0, 0, none⟩) 3 3 (lt [1, 0, 1]) | 1 => ∃ (x1 : Array Value), vv = [some (.agg x1)] ∧ Arr yy x1 (fun _ => ((3 : Nat) : Int)) 1 false 3 (fun _ => 0) (lt [1, 0, 1]) (fun _ => 1) | 2 => vv = [some (.agg X1)] | 3 => ∃ (x3 : Array Value), vv = [some (.tuple #[.agg x3, .int .i64 0])] ∧ Arr yy x3 cw6S 1 false 2 cw6G cw6P cw6Q ∧ IsA x3 | 4 => ∃ (x3 : Array Value), vv = [some (.tuple #[.agg x3, .int .i64 0])] ∧ Arr yy x3 cw6S 1 false 2 cw6G cw6P cw6Q ∧ IsA x3 | 5 => ∃ (x3 : Array Value), vv = [some (.agg x3)] ∧ Arr yy x3 cw6S 1 false 2 cw6G cw6P cw6Q ∧ IsA x3 | 6 => vv = [some (.int .i64 0)] | 7 => ∃ (k7 : Nat), ∃ (z7 : Array Value), vv = [some (.pointer (some ⟨k7, 0, none⟩))] ∧ Row yy k7 32 z7 ∧ IsA z7 ∧ Y4.heap.size ≤ k7 | 8 => ∃ (k7 : Nat), ∃ (x3 : Array Value), vv = [some (.pointer (some ⟨k7, 0, none⟩))] ∧ Row yy k7 32 x3 ∧ Arr yy x3 cw6S 1 false 2 cw6G cw6P cw6Q ∧ IsA x3 | 9 => vv = [some (.int .i64 0)] | _ => True) (Bag Y4 (fun _ => True)) (by kernel_rfl) (by kernel_rfl) (by kernel_rfl) (Bag.start Y4).drew ?_ ?_ ?_
    · intro jj vv yw yw2 hb h
      match jj, h with
      | 0, ⟨k0, e0, g0_0⟩ => exact Exists.intro k0 (And.intro e0 (g0_0.below hb))
      | 1, ⟨x1, e1, g1_0⟩ => exact Exists.intro x1 (And.intro e1 (g1_0.below hb))
      | 2, h => exact h
      | 3, ⟨x3, e3, g3_0, g3_1⟩ => exact Exists.intro x3 (And.intro e3 (And.intro (g3_0.below hb) g3_1))
      | 4, ⟨x3, e4, g4_0, g4_1⟩ => exact Exists.intro x3 (And.intro e4 (And.intro (g4_0.below hb) g4_1))
      | 5, ⟨x3, e5, g5_0, g5_1⟩ => exact Exists.intro x3 (And.intro e5 (And.intro (g5_0.below hb) g5_1))
      | 6, h => exact h
      | 7, ⟨k7, z7, e7, g7_0, g7_1, g7_2⟩ => exact Exists.intro k7 (Exists.intro z7 (And.intro e7 (And.intro (g7_0.below hb) (And.intro g7_1 g7_2))))
      | 8, ⟨k7, x3, e8, g8_0, g8_1, g8_2⟩ => exact Exists.intro k7 (Exists.intro x3 (And.intro e8 (And.intro (g8_0.below hb) (And.intro (g8_1.below hb) g8_2))))
      | 9, h => exact h
      | _ + 10, h => exact h
    · intro ac yw hsz hdf hold hB hp
      obtain ⟨kc, xc, ec, rc, ac9, ic⟩ := hp 8 (by decide)
      have t6 : ac.tmps[6]? = some (.pointer (some ⟨kc, 0, none⟩)) := (List.cons.inj ec).1
      have t7 : ac.tmps[7]? = some (.int .i64 0) := (List.cons.inj (hp 9 (by decide))).1
      have t2 : ac.tmps[2]? = some (.pointer (some ⟨ka, 0, none⟩)) := hold 2 (by kernel_rfl)
      have t3 : ac.tmps[3]? = some (.int .i64 0) := hold 3 (by kernel_rfl)
      have t4 : ac.tmps[4]? = some (.pointer (some ⟨W4.heap.size, 0, none⟩)) := hold 4 (by kernel_rfl)
      have t5 : ac.tmps[5]? = some (.int .i64 0) := hold 5 (by kernel_rfl)
      have RWa := Lib.hid (fun yz hb => RWa.out yz (hB.below.trans (Below.mono hb hB.below.size)))
      have Aa := Lib.hid (fun yz hb => Aa.out yz (hB.below.trans (Below.mono hb hB.below.size)))
      have RWb := Lib.hid (fun yz hb => RWb.out yz (hB.below.trans (Below.mono hb hB.below.size)))
      have Ab := Lib.hid (fun yz hb => Ab.out yz (hB.below.trans (Below.mono hb hB.below.size)))
      have RWc := Lib.hid (fun yz (hb : Below yw.heap.size yw yz) => Row.below rc hb)
      have Ac := Lib.hid (fun yz (hb : Below yw.heap.size yw yz) => Arr.below ac9 hb)
      have SZc := Lib.hid ic
      have BB := Lib.hid (BB.out.go hB.below)
      clear hold hp ec rc ac9 ic hB RW1 A1 SZ1
      obtain ⟨TY, hTY⟩ : ∃ TY : Nat → Value, ∀ i, (ac.tmps[i]?).getD undef = TY i := ⟨_, fun _ => rfl⟩
      have f2 := (hTY 2).symm.trans (congrArg (fun x => Option.getD x undef) t2)
      have f3 := (hTY 3).symm.trans (congrArg (fun x => Option.getD x undef) t3)
      have f4 := (hTY 4).symm.trans (congrArg (fun x => Option.getD x undef) t4)
      have f5 := (hTY 5).symm.trans (congrArg (fun x => Option.getD x undef) t5)
      have f6 := (hTY 6).symm.trans (congrArg (fun x => Option.getD x undef) t6)
      have f7 := (hTY 7).symm.trans (congrArg (fun x => Option.getD x undef) t7)
      have hac := act_eq (n := 64) hsz TY hTY
      rw [show ((List.range 64).map TY).toArray = #[TY 0, TY 1, TY 2, TY 3, TY 4, TY 5, TY 6, TY 7, TY 8, TY 9, TY 10, TY 11, TY 12, TY 13, TY 14, TY 15, TY 16, TY 17, TY 18, TY 19, TY 20, TY 21, TY 22, TY 23, TY 24, TY 25, TY 26, TY 27, TY 28, TY 29, TY 30, TY 31, TY 32, TY 33, TY 34, TY 35, TY 36, TY 37, TY 38, TY 39, TY 40, TY 41, TY 42, TY 43, TY 44, TY 45, TY 46, TY 47, TY 48, TY 49, TY 50, TY 51, TY 52, TY 53, TY 54, TY 55, TY 56, TY 57, TY 58, TY 59, TY 60, TY 61, TY 62, TY 63] from rfl, f2, f3, f4, f5, f6, f7, hdf] at hac
      simp only [Option.getD_some] at hac
      subst hac
      clear hTY f2 f3 f4 f5 f6 f7
      go_wp2_with fail
      generalize yw = Y5 at *
      refine wp_region_inv2 ⟨(fun j => ([[32], [33], [34], [35], [31], [36], [37], [8], [8], [9]] : List (List Nat)).getD j []), (fun j => ([[], [0], [], [0, 1, 2], [0, 1, 2, 3], [0, 1, 2, 3, 4], [0, 1, 2, 3, 4], [], [0, 1, 2, 3, 4, 5, 7], [0, 1, 2, 3, 4, 5, 6, 7, 8]] : List (List Nat)).getD j []), [0, 7]⟩ (fun jj vv yy => match jj with | 0 => ∃ (k0 : Nat), vv = [some (.slice (some ⟨k0, 0, none⟩) 3 3)] ∧ KRow yy .i64 (some ⟨k0, 0, none⟩) 3 3 (lt [1, 0, 1]) | 1 => ∃ (x1 : Array Value), vv = [some (.agg x1)] ∧ Arr yy x1 (fun _ => ((3 : Nat) : Int)) 1 false 3 (fun _ => 0) (lt [1, 0, 1]) (fun _ => 1) | 2 => vv = [some (.agg xc)] | 3 => ∃ (x3 : Array Value), vv = [some (.tuple #[.agg x3, .int .i64 0])] ∧ Arr yy x3 cw8S 1 false 3 cw8G cw8P cw8Q ∧ IsA x3 | 4 => ∃ (x3 : Array Value), vv = [some (.tuple #[.agg x3, .int .i64 0])] ∧ Arr yy x3 cw8S 1 false 3 cw8G cw8P cw8Q ∧ IsA x3 | 5 => ∃ (x3 : Array Value), vv = [some (.agg x3)] ∧ Arr yy x3 cw8S 1 false 3 cw8G cw8P cw8Q ∧ IsA x3 | 6 => vv = [some (.int .i64 0)] | 7 => ∃ (k7 : Nat), ∃ (z7 : Array Value), vv = [some (.pointer (some ⟨k7, 0, none⟩))] ∧ Row yy k7 32 z7 ∧ IsA z7 ∧ Y5.heap.size ≤ k7 | 8 => ∃ (k7 : Nat), ∃ (x3 : Array Value), vv = [some (.pointer (some ⟨k7, 0, none⟩))] ∧ Row yy k7 32 x3 ∧ Arr yy x3 cw8S 1 false 3 cw8G cw8P cw8Q ∧ IsA x3 | 9 => vv = [some (.int .i64 0)] | _ => True) (Bag Y5 (fun _ => True)) (by kernel_rfl) (by kernel_rfl) (by kernel_rfl) (Bag.start Y5).drew ?_ ?_ ?_
      · intro jj vv yw yw2 hb h
        match jj, h with
        | 0, ⟨k0, e0, g0_0⟩ => exact Exists.intro k0 (And.intro e0 (g0_0.below hb))
        | 1, ⟨x1, e1, g1_0⟩ => exact Exists.intro x1 (And.intro e1 (g1_0.below hb))
        | 2, h => exact h
        | 3, ⟨x3, e3, g3_0, g3_1⟩ => exact Exists.intro x3 (And.intro e3 (And.intro (g3_0.below hb) g3_1))
        | 4, ⟨x3, e4, g4_0, g4_1⟩ => exact Exists.intro x3 (And.intro e4 (And.intro (g4_0.below hb) g4_1))
        | 5, ⟨x3, e5, g5_0, g5_1⟩ => exact Exists.intro x3 (And.intro e5 (And.intro (g5_0.below hb) g5_1))
        | 6, h => exact h
        | 7, ⟨k7, z7, e7, g7_0, g7_1, g7_2⟩ => exact Exists.intro k7 (Exists.intro z7 (And.intro e7 (And.intro (g7_0.below hb) (And.intro g7_1 g7_2))))
        | 8, ⟨k7, x3, e8, g8_0, g8_1, g8_2⟩ => exact Exists.intro k7 (Exists.intro x3 (And.intro e8 (And.intro (g8_0.below hb) (And.intro (g8_1.below hb) g8_2))))
        | 9, h => exact h
        | _ + 10, h => exact h
      · intro ac yw hsz hdf hold hB hp
        obtain ⟨kd, xd, ed, rd, ad, id⟩ := hp 8 (by decide)
        have t8 : ac.tmps[8]? = some (.pointer (some ⟨kd, 0, none⟩)) := (List.cons.inj ed).1
        have t9 : ac.tmps[9]? = some (.int .i64 0) := (List.cons.inj (hp 9 (by decide))).1
        have t2 : ac.tmps[2]? = some (.pointer (some ⟨ka, 0, none⟩)) := hold 2 (by kernel_rfl)
        have t3 : ac.tmps[3]? = some (.int .i64 0) := hold 3 (by kernel_rfl)
        have t4 : ac.tmps[4]? = some (.pointer (some ⟨W4.heap.size, 0, none⟩)) := hold 4 (by kernel_rfl)
        have t5 : ac.tmps[5]? = some (.int .i64 0) := hold 5 (by kernel_rfl)
        have t6 : ac.tmps[6]? = some (.pointer (some ⟨kc, 0, none⟩)) := hold 6 (by kernel_rfl)
        have t7 : ac.tmps[7]? = some (.int .i64 0) := hold 7 (by kernel_rfl)
        have RWa := Lib.hid (fun yz hb => RWa.out yz (hB.below.trans (Below.mono hb hB.below.size)))
        have Aa := Lib.hid (fun yz hb => Aa.out yz (hB.below.trans (Below.mono hb hB.below.size)))
        have RWb := Lib.hid (fun yz hb => RWb.out yz (hB.below.trans (Below.mono hb hB.below.size)))
        have Ab := Lib.hid (fun yz hb => Ab.out yz (hB.below.trans (Below.mono hb hB.below.size)))
        have RWc := Lib.hid (fun yz hb => RWc.out yz (hB.below.trans (Below.mono hb hB.below.size)))
        have Ac := Lib.hid (fun yz hb => Ac.out yz (hB.below.trans (Below.mono hb hB.below.size)))
        have RWd := Lib.hid (fun yz (hb : Below yw.heap.size yw yz) => Row.below rd hb)
        have Ad := Lib.hid (fun yz (hb : Below yw.heap.size yw yz) => Arr.below ad hb)
        have SZd := Lib.hid id
        have BB := Lib.hid (BB.out.go hB.below)
        clear hold hp ed rd ad id hB
        obtain ⟨TX, hTX⟩ : ∃ TX : Nat → Value, ∀ i, (ac.tmps[i]?).getD undef = TX i := ⟨_, fun _ => rfl⟩
        have f2 := (hTX 2).symm.trans (congrArg (fun x => Option.getD x undef) t2)
        have f3 := (hTX 3).symm.trans (congrArg (fun x => Option.getD x undef) t3)
        have f4 := (hTX 4).symm.trans (congrArg (fun x => Option.getD x undef) t4)
        have f5 := (hTX 5).symm.trans (congrArg (fun x => Option.getD x undef) t5)
        have f6 := (hTX 6).symm.trans (congrArg (fun x => Option.getD x undef) t6)
        have f7 := (hTX 7).symm.trans (congrArg (fun x => Option.getD x undef) t7)
        have f8 := (hTX 8).symm.trans (congrArg (fun x => Option.getD x undef) t8)
        have f9 := (hTX 9).symm.trans (congrArg (fun x => Option.getD x undef) t9)
        have hac := act_eq (n := 64) hsz TX hTX
        rw [show ((List.range 64).map TX).toArray = #[TX 0, TX 1, TX 2, TX 3, TX 4, TX 5, TX 6, TX 7, TX 8, TX 9, TX 10, TX 11, TX 12, TX 13, TX 14, TX 15, TX 16, TX 17, TX 18, TX 19, TX 20, TX 21, TX 22, TX 23, TX 24, TX 25, TX 26, TX 27, TX 28, TX 29, TX 30, TX 31, TX 32, TX 33, TX 34, TX 35, TX 36, TX 37, TX 38, TX 39, TX 40, TX 41, TX 42, TX 43, TX 44, TX 45, TX 46, TX 47, TX 48, TX 49, TX 50, TX 51, TX 52, TX 53, TX 54, TX 55, TX 56, TX 57, TX 58, TX 59, TX 60, TX 61, TX 62, TX 63] from rfl, f2, f3, f4, f5, f6, f7, f8, f9, hdf] at hac
        simp only [Option.getD_some] at hac
        subst hac
        clear hTX f2 f3 f4 f5 f6 f7 f8 f9
        go_wp2_with fail
        generalize yw = Y6 at *
        refine wp_region_inv2 ⟨(fun j => ([[38], [39], [40], [41], [42], [43], [44], [45], [46], [47], [48], [49], [50], [51], [52], [53], [54], [55], [56], [57], [58], [59], [60], [61], [62], [63], [0]] : List (List Nat)).getD j []), (fun j => ([[], [], [], [2], [0, 1, 2, 3], [0, 1, 2, 3, 4], [0, 1, 2, 3, 4, 5], [0, 1, 2, 3, 4, 5], [0, 1, 2, 3, 4, 5], [0, 1, 2, 3, 4, 5, 8], [0, 1, 2, 3, 4, 5, 6, 7, 8, 9], [0, 1, 2, 3, 4, 5, 6, 7, 8, 9, 10], [0, 1, 2, 3, 4, 5, 6, 7, 8, 9, 10, 11], [0, 1, 2, 3, 4, 5, 6, 7, 8, 9, 10, 11, 12], [0, 1, 2, 3, 4, 5, 6, 7, 8, 9, 10, 11, 12], [0, 1, 2, 3, 4, 5, 6, 7, 8, 9, 10, 11, 12], [0, 1, 2, 3, 4, 5, 6, 7, 8, 9, 10, 11, 12, 15], [0, 1, 2, 3, 4, 5, 6, 7, 8, 9, 10, 11, 12, 13, 14, 15, 16], [0, 1, 2, 3, 4, 5, 6, 7, 8, 9, 10, 11, 12, 13, 14, 15, 16, 17], [0, 1, 2, 3, 4, 5, 6, 7, 8, 9, 10, 11, 12, 13, 14, 15, 16, 17, 18], [0, 1, 2, 3, 4, 5, 6, 7, 8, 9, 10, 11, 12, 13, 14, 15, 16, 17, 18, 19], [0, 1, 2, 3, 4, 5, 6, 7, 8, 9, 10, 11, 12, 13, 14, 15, 16, 17, 18, 19], [0, 1, 2, 3, 4, 5, 6, 7, 8, 9, 10, 11, 12, 13, 14, 15, 16, 17, 18, 19], [0, 1, 2, 3, 4, 5, 6, 7, 8, 9, 10, 11, 12, 13, 14, 15, 16, 17, 18, 19, 22], [0, 1, 2, 3, 4, 5, 6, 7, 8, 9, 10, 11, 12, 13, 14, 15, 16, 17, 18, 19, 20, 21, 22, 23], [0, 1, 2, 3, 4, 5, 6, 7, 8, 9, 10, 11, 12, 13, 14, 15, 16, 17, 18, 19, 20, 21, 22, 23, 24], [0, 1, 2, 3, 4, 5, 6, 7, 8, 9, 10, 11, 12, 13, 14, 15, 16, 17, 18, 19, 20, 21, 22, 23, 24, 25]] : List (List Nat)).getD j []), [2, 8, 15, 22]⟩ (fun jj vv yy => match jj with | 0 => vv = [some (.agg xa)] | 1 => vv = [some (.int .i64 0)] | 2 => ∃ (k2 : Nat), vv = [some (.slice (some ⟨k2, 0, none⟩) 2 2)] ∧ KRow yy .i64 (some ⟨k2, 0, none⟩) 2 2 (lt [6, 7]) | 3 => ∃ (x3 : Array Value), vv = [some (.agg x3)] ∧ PlJ yy x3 [6, 7] 2 | 4 => vv = [some (.bool true)] | 5 => vv = [some (.bool true)] | 6 => vv = [some (.agg X4)] | 7 => vv = [some (.int .i64 0)] | 8 => ∃ (k8 : Nat), vv = [some (.slice (some ⟨k8, 0, none⟩) 5 5)] ∧ KRow yy .i64 (some ⟨k8, 0, none⟩) 5 5 (lt [1, 0, 0, 0, 0]) | 9 => ∃ (x9 : Array Value), vv = [some (.agg x9)] ∧ PlJ yy x9 [1, 0, 0, 0, 0] 5 | 10 => vv = [some (.bool true)] | 11 => vv = [some (.bool true)] | 12 => vv = [some (.bool true)] | 13 => vv = [some (.agg xc)] | 14 => vv = [some (.int .i64 0)] | 15 => ∃ (k15 : Nat), vv = [some (.slice (some ⟨k15, 0, none⟩) 2 2)] ∧ KRow yy .i64 (some ⟨k15, 0, none⟩) 2 2 (lt [5, 7]) | 16 => ∃ (x16 : Array Value), vv = [some (.agg x16)] ∧ PlJ yy x16 [5, 7] 2 | 17 => vv = [some (.bool true)] | 18 => vv = [some (.bool true)] | 19 => vv = [some (.bool true)] | 20 => vv = [some (.agg xd)] | 21 => vv = [some (.int .i64 0)] | 22 => ∃ (k22 : Nat), vv = [some (.slice (some ⟨k22, 0, none⟩) 3 3)] ∧ KRow yy .i64 (some ⟨k22, 0, none⟩) 3 3 (lt [5, 0, 7]) | 23 => ∃ (x23 : Array Value), vv = [some (.agg x23)] ∧ PlJ yy x23 [5, 0, 7] 3 | 24 => vv = [some (.bool true)] | 25 => vv = [some (.bool true)] | 26 => vv = [some (.bool true)] | _ => True) (Bag Y6 (fun _ => True)) (by kernel_rfl) (by kernel_rfl) (by kernel_rfl) (Bag.start Y6).drew ?_ ?_ ?_
        · intro jj vv yw yw2 hb h
          match jj, h with
          | 0, h => exact h
          | 1, h => exact h
          | 2, ⟨k2, e2, g2_0⟩ => exact Exists.intro k2 (And.intro e2 (g2_0.below hb))
          | 3, ⟨x3, e3, g3_0⟩ => exact Exists.intro x3 (And.intro e3 (g3_0.below hb))
          | 4, h => exact h
          | 5, h => exact h
          | 6, h => exact h
          | 7, h => exact h
          | 8, ⟨k8, e8, g8_0⟩ => exact Exists.intro k8 (And.intro e8 (g8_0.below hb))
          | 9, ⟨x9, e9, g9_0⟩ => exact Exists.intro x9 (And.intro e9 (g9_0.below hb))
          | 10, h => exact h
          | 11, h => exact h
          | 12, h => exact h
          | 13, h => exact h
          | 14, h => exact h
          | 15, ⟨k15, e15, g15_0⟩ => exact Exists.intro k15 (And.intro e15 (g15_0.below hb))
          | 16, ⟨x16, e16, g16_0⟩ => exact Exists.intro x16 (And.intro e16 (g16_0.below hb))
          | 17, h => exact h
          | 18, h => exact h
          | 19, h => exact h
          | 20, h => exact h
          | 21, h => exact h
          | 22, ⟨k22, e22, g22_0⟩ => exact Exists.intro k22 (And.intro e22 (g22_0.below hb))
          | 23, ⟨x23, e23, g23_0⟩ => exact Exists.intro x23 (And.intro e23 (g23_0.below hb))
          | 24, h => exact h
          | 25, h => exact h
          | 26, h => exact h
          | _ + 27, h => exact h
        · intro ac yw hsz hdf hold hB hp
          have t0 : ac.tmps[0]? = some (.bool true) := (List.cons.inj (hp 26 (by decide))).1
          have HE := Lib.hid (BB.out.go hB.below).below
          clear hold hp
          obtain ⟨TV, hTV⟩ : ∃ TV : Nat → Value, ∀ i, (ac.tmps[i]?).getD undef = TV i := ⟨_, fun _ => rfl⟩
          have f0 := (hTV 0).symm.trans (congrArg (fun x => Option.getD x undef) t0)
          have hac := act_eq (n := 64) hsz TV hTV
          rw [show ((List.range 64).map TV).toArray = #[TV 0, TV 1, TV 2, TV 3, TV 4, TV 5, TV 6, TV 7, TV 8, TV 9, TV 10, TV 11, TV 12, TV 13, TV 14, TV 15, TV 16, TV 17, TV 18, TV 19, TV 20, TV 21, TV 22, TV 23, TV 24, TV 25, TV 26, TV 27, TV 28, TV 29, TV 30, TV 31, TV 32, TV 33, TV 34, TV 35, TV 36, TV 37, TV 38, TV 39, TV 40, TV 41, TV 42, TV 43, TV 44, TV 45, TV 46, TV 47, TV 48, TV 49, TV 50, TV 51, TV 52, TV 53, TV 54, TV 55, TV 56, TV 57, TV 58, TV 59, TV 60, TV 61, TV 62, TV 63] from rfl, f0, hdf] at hac
          simp only [Option.getD_some] at hac
          subst hac
          clear hTV f0
          go_wp2
          go_ret
          exact ⟨rfl, HE.out⟩
        refine Stps2.cons (o := _) ?_ ?_
        · intro ac yw hsz hold hB hp K hK
          have t2 : ac.tmps[2]? = some (.pointer (some ⟨ka, 0, none⟩)) := hold 2 (by kernel_rfl)
          clear hold hp hsz
          rw [if_pos (by rfl)]
          refine ld8 2 rfl (ka) (xa) t2 (RWa.out _ hB.below) (SZa.out.size) ?_
          exact hK.out _ _ ⟨hB, rfl, Nat.le_refl _, .inl (Below.refl _ _), fun h => absurd h (by decide)⟩
        refine Stps2.cons (o := _) ?_ ?_
        · intro ac yw hsz hold hB hp K hK
          have t3 : ac.tmps[3]? = some (.int .i64 0) := hold 3 (by kernel_rfl)
          clear hold hp hsz
          go_simp
          exact hK.out _ _ ⟨hB, rfl, Nat.le_refl _, .inl (Below.refl _ _), fun h => absurd h (by decide)⟩
        refine Stps2.cons (o := _) ?_ ?_
        · intro ac yw hsz hold hB hp K hK
          clear hold hp hsz
          have hbz : Below yw.heap.size yw (yw.alloc (.cells #[.int .i64 6, .int .i64 7] 3)) ∧ yw.heap.size < (yw.alloc (.cells #[.int .i64 6, .int .i64 7] 3)).heap.size := ⟨(Below.refl _ _).alloc (Nat.le_refl _) _, by rw [World.size_alloc]; omega⟩
          have kz : KRow (yw.alloc (.cells #[.int .i64 6, .int .i64 7] 3)) .i64 (some ⟨yw.heap.size, 0, none⟩) 2 2 (lt [6, 7]) := KRow.lits yw [6, 7] 3 (by decide) rfl
          go_simp
          exact hK.out _ _ ⟨hB.alloc _, Exists.intro yw.heap.size (And.intro rfl kz), Nat.le_of_lt hbz.2, .inl hbz.1, fun _ => ⟨_, rfl, Nat.le_refl _, hbz.2⟩⟩
        refine Stps2.cons (o := _) ?_ ?_
        · intro ac yw hsz hold hB hp K hK
          obtain ⟨k2_2, e2, g2_0⟩ := hp 2 (by decide)
          have t40 : ac.tmps[40]? = some (.slice (some ⟨k2_2, 0, none⟩) 2 2) := (List.cons.inj e2).1
          clear hold hp hsz e2
          go_simp
          (go_at_call 20; (with_reducible refine (RIa.out _ _ _ g2_0).mono ?_); rintro e wz ⟨x3, rfl, h3_0, hbz⟩)
          exact hK.out _ _ ⟨hB.go hbz, Exists.intro x3 (And.intro rfl h3_0), hbz.size, .inl hbz, fun h => absurd h (by decide)⟩
        refine Stps2.cons (o := _) ?_ ?_
        · intro ac yw hsz hold hB hp K hK
          have e0 := hp 0 (by decide)
          have t38 : ac.tmps[38]? = some (.agg xa) := (List.cons.inj e0).1
          have e1 := hp 1 (by decide)
          have t39 : ac.tmps[39]? = some (.int .i64 0) := (List.cons.inj e1).1
          obtain ⟨x3_3, e3, g3_0⟩ := hp 3 (by decide)
          have t41 : ac.tmps[41]? = some (.agg x3_3) := (List.cons.inj e3).1
          clear hold hp hsz e0 e1 e3
          go_simp
          (go_at_call 12; (with_reducible refine (SO.out _ _ _ (SHa.out _ _ _ (Aa.out _ hB.below) g3_0)).mono ?_); rintro e wz ⟨rfl, hbz⟩)
          exact hK.out _ _ ⟨hB.go hbz, rfl, hbz.size, .inl hbz, fun h => absurd h (by decide)⟩
        refine Stps2.cons (o := _) ?_ ?_
        · intro ac yw hsz hold hB hp K hK
          have e4 := hp 4 (by decide)
          have t42 : ac.tmps[42]? = some (.bool true) := (List.cons.inj e4).1
          clear hold hp hsz e4
          go_simp
          exact hK.out _ _ ⟨hB, rfl, Nat.le_refl _, .inl (Below.refl _ _), fun h => absurd h (by decide)⟩
        refine Stps2.cons (o := _) ?_ ?_
        · intro ac yw hsz hold hB hp K hK
          have t43 : ac.tmps[43]? = some (.bool true) := (List.cons.inj (hp 5 (by decide))).1
          rw [if_pos (wanted_pos rfl rfl t43)]
          have t4 : ac.tmps[4]? = some (.pointer (some ⟨W4.heap.size, 0, none⟩)) := hold 4 (by kernel_rfl)
          clear hold hp hsz
          refine ld8 4 rfl (W4.heap.size) (X4) t4 (RWb.out _ hB.below) (SZb.out.size) ?_
          exact hK.out _ _ ⟨hB, rfl, Nat.le_refl _, .inl (Below.refl _ _), fun h => absurd h (by decide)⟩
        refine Stps2.cons (o := _) ?_ ?_
        · intro ac yw hsz hold hB hp K hK
          have t43 : ac.tmps[43]? = some (.bool true) := (List.cons.inj (hp 5 (by decide))).1
          rw [if_pos (wanted_pos rfl rfl t43)]
          have t5 : ac.tmps[5]? = some (.int .i64 0) := hold 5 (by kernel_rfl)
          clear hold hp hsz
          go_simp
          exact hK.out _ _ ⟨hB, rfl, Nat.le_refl _, .inl (Below.refl _ _), fun h => absurd h (by decide)⟩
        refine Stps2.cons (o := _) ?_ ?_
        · intro ac yw hsz hold hB hp K hK
          have t43 : ac.tmps[43]? = some (.bool true) := (List.cons.inj (hp 5 (by decide))).1
          rw [if_pos (wanted_pos rfl rfl t43)]
          clear hold hp hsz
          have hbz : Below yw.heap.size yw (yw.alloc (.cells #[.int .i64 1, .int .i64 0, .int .i64 0, .int .i64 0, .int .i64 0] 3)) ∧ yw.heap.size < (yw.alloc (.cells #[.int .i64 1, .int .i64 0, .int .i64 0, .int .i64 0, .int .i64 0] 3)).heap.size := ⟨(Below.refl _ _).alloc (Nat.le_refl _) _, by rw [World.size_alloc]; omega⟩
          have kz : KRow (yw.alloc (.cells #[.int .i64 1, .int .i64 0, .int .i64 0, .int .i64 0, .int .i64 0] 3)) .i64 (some ⟨yw.heap.size, 0, none⟩) 5 5 (lt [1, 0, 0, 0, 0]) := KRow.lits yw [1, 0, 0, 0, 0] 3 (by decide) rfl
          go_simp
          exact hK.out _ _ ⟨hB.alloc _, Exists.intro yw.heap.size (And.intro rfl kz), Nat.le_of_lt hbz.2, .inl hbz.1, fun _ => ⟨_, rfl, Nat.le_refl _, hbz.2⟩⟩
        refine Stps2.cons (o := _) ?_ ?_
        · intro ac yw hsz hold hB hp K hK
          have t43 : ac.tmps[43]? = some (.bool true) := (List.cons.inj (hp 5 (by decide))).1
          rw [if_pos (wanted_pos rfl rfl t43)]
          obtain ⟨k8_8, e8, g8_0⟩ := hp 8 (by decide)
          have t46 : ac.tmps[46]? = some (.slice (some ⟨k8_8, 0, none⟩) 5 5) := (List.cons.inj e8).1
          clear hold hp hsz e8
          go_simp
          (go_at_call 20; (with_reducible refine (RIb.out _ _ _ g8_0).mono ?_); rintro e wz ⟨x9, rfl, h9_0, hbz⟩)
          exact hK.out _ _ ⟨hB.go hbz, Exists.intro x9 (And.intro rfl h9_0), hbz.size, .inl hbz, fun h => absurd h (by decide)⟩
        refine Stps2.cons (o := _) ?_ ?_
        · intro ac yw hsz hold hB hp K hK
          have t43 : ac.tmps[43]? = some (.bool true) := (List.cons.inj (hp 5 (by decide))).1
          rw [if_pos (wanted_pos rfl rfl t43)]
          have e6 := hp 6 (by decide)
          have t44 : ac.tmps[44]? = some (.agg X4) := (List.cons.inj e6).1
          have e7 := hp 7 (by decide)
          have t45 : ac.tmps[45]? = some (.int .i64 0) := (List.cons.inj e7).1
          obtain ⟨x9_9, e9, g9_0⟩ := hp 9 (by decide)
          have t47 : ac.tmps[47]? = some (.agg x9_9) := (List.cons.inj e9).1
          clear hold hp hsz e6 e7 e9
          go_simp
          (go_at_call 12; (with_reducible refine (SO.out _ _ _ (SHb.out _ _ _ (Ab.out _ hB.below) g9_0)).mono ?_); rintro e wz ⟨rfl, hbz⟩)
          exact hK.out _ _ ⟨hB.go hbz, rfl, hbz.size, .inl hbz, fun h => absurd h (by decide)⟩
        refine Stps2.cons (o := _) ?_ ?_
        · intro ac yw hsz hold hB hp K hK
          have e5 := hp 5 (by decide)
          have t43 : ac.tmps[43]? = some (.bool true) := (List.cons.inj e5).1
          have e10 := hp 10 (by decide)
          have t48 : ac.tmps[48]? = some (.bool true) := (List.cons.inj e10).1
          clear hold hp hsz e5 e10
          go_simp
          exact hK.out _ _ ⟨hB, rfl, Nat.le_refl _, .inl (Below.refl _ _), fun h => absurd h (by decide)⟩
        refine Stps2.cons (o := _) ?_ ?_
        · intro ac yw hsz hold hB hp K hK
          have e11 := hp 11 (by decide)
          have t49 : ac.tmps[49]? = some (.bool true) := (List.cons.inj e11).1
          clear hold hp hsz e11
          go_simp
          exact hK.out _ _ ⟨hB, rfl, Nat.le_refl _, .inl (Below.refl _ _), fun h => absurd h (by decide)⟩
        refine Stps2.cons (o := _) ?_ ?_
        · intro ac yw hsz hold hB hp K hK
          have t50 : ac.tmps[50]? = some (.bool true) := (List.cons.inj (hp 12 (by decide))).1
          rw [if_pos (wanted_pos rfl rfl t50)]
          have t6 : ac.tmps[6]? = some (.pointer (some ⟨kc, 0, none⟩)) := hold 6 (by kernel_rfl)
          clear hold hp hsz
          refine ld8 6 rfl (kc) (xc) t6 (RWc.out _ hB.below) (SZc.out.size) ?_
          exact hK.out _ _ ⟨hB, rfl, Nat.le_refl _, .inl (Below.refl _ _), fun h => absurd h (by decide)⟩
        refine Stps2.cons (o := _) ?_ ?_
        · intro ac yw hsz hold hB hp K hK
          have t50 : ac.tmps[50]? = some (.bool true) := (List.cons.inj (hp 12 (by decide))).1
          rw [if_pos (wanted_pos rfl rfl t50)]
          have t7 : ac.tmps[7]? = some (.int .i64 0) := hold 7 (by kernel_rfl)
          clear hold hp hsz
          go_simp
          exact hK.out _ _ ⟨hB, rfl, Nat.le_refl _, .inl (Below.refl _ _), fun h => absurd h (by decide)⟩
        refine Stps2.cons (o := _) ?_ ?_
        · intro ac yw hsz hold hB hp K hK
          have t50 : ac.tmps[50]? = some (.bool true) := (List.cons.inj (hp 12 (by decide))).1
          rw [if_pos (wanted_pos rfl rfl t50)]
          clear hold hp hsz
          have hbz : Below yw.heap.size yw (yw.alloc (.cells #[.int .i64 5, .int .i64 7] 3)) ∧ yw.heap.size < (yw.alloc (.cells #[.int .i64 5, .int .i64 7] 3)).heap.size := ⟨(Below.refl _ _).alloc (Nat.le_refl _) _, by rw [World.size_alloc]; omega⟩
          have kz : KRow (yw.alloc (.cells #[.int .i64 5, .int .i64 7] 3)) .i64 (some ⟨yw.heap.size, 0, none⟩) 2 2 (lt [5, 7]) := KRow.lits yw [5, 7] 3 (by decide) rfl
          go_simp
          exact hK.out _ _ ⟨hB.alloc _, Exists.intro yw.heap.size (And.intro rfl kz), Nat.le_of_lt hbz.2, .inl hbz.1, fun _ => ⟨_, rfl, Nat.le_refl _, hbz.2⟩⟩
        refine Stps2.cons (o := _) ?_ ?_
        · intro ac yw hsz hold hB hp K hK
          have t50 : ac.tmps[50]? = some (.bool true) := (List.cons.inj (hp 12 (by decide))).1
          rw [if_pos (wanted_pos rfl rfl t50)]
          obtain ⟨k15_15, e15, g15_0⟩ := hp 15 (by decide)
          have t53 : ac.tmps[53]? = some (.slice (some ⟨k15_15, 0, none⟩) 2 2) := (List.cons.inj e15).1
          clear hold hp hsz e15
          go_simp
          (go_at_call 20; (with_reducible refine (RIc.out _ _ _ g15_0).mono ?_); rintro e wz ⟨x16, rfl, h16_0, hbz⟩)
          exact hK.out _ _ ⟨hB.go hbz, Exists.intro x16 (And.intro rfl h16_0), hbz.size, .inl hbz, fun h => absurd h (by decide)⟩
        refine Stps2.cons (o := _) ?_ ?_
        · intro ac yw hsz hold hB hp K hK
          have t50 : ac.tmps[50]? = some (.bool true) := (List.cons.inj (hp 12 (by decide))).1
          rw [if_pos (wanted_pos rfl rfl t50)]
          have e13 := hp 13 (by decide)
          have t51 : ac.tmps[51]? = some (.agg xc) := (List.cons.inj e13).1
          have e14 := hp 14 (by decide)
          have t52 : ac.tmps[52]? = some (.int .i64 0) := (List.cons.inj e14).1
          obtain ⟨x16_16, e16, g16_0⟩ := hp 16 (by decide)
          have t54 : ac.tmps[54]? = some (.agg x16_16) := (List.cons.inj e16).1
          clear hold hp hsz e13 e14 e16
          go_simp
          (go_at_call 12; (with_reducible refine (SO.out _ _ _ (SHc.out _ _ _ (Ac.out _ hB.below) g16_0)).mono ?_); rintro e wz ⟨rfl, hbz⟩)
          exact hK.out _ _ ⟨hB.go hbz, rfl, hbz.size, .inl hbz, fun h => absurd h (by decide)⟩
        refine Stps2.cons (o := _) ?_ ?_
        · intro ac yw hsz hold hB hp K hK
          have e12 := hp 12 (by decide)
          have t50 : ac.tmps[50]? = some (.bool true) := (List.cons.inj e12).1
          have e17 := hp 17 (by decide)
          have t55 : ac.tmps[55]? = some (.bool true) := (List.cons.inj e17).1
          clear hold hp hsz e12 e17
          go_simp
          exact hK.out _ _ ⟨hB, rfl, Nat.le_refl _, .inl (Below.refl _ _), fun h => absurd h (by decide)⟩
        refine Stps2.cons (o := _) ?_ ?_
        · intro ac yw hsz hold hB hp K hK
          have e18 := hp 18 (by decide)
          have t56 : ac.tmps[56]? = some (.bool true) := (List.cons.inj e18).1
          clear hold hp hsz e18
          go_simp
          exact hK.out _ _ ⟨hB, rfl, Nat.le_refl _, .inl (Below.refl _ _), fun h => absurd h (by decide)⟩
        refine Stps2.cons (o := _) ?_ ?_
        · intro ac yw hsz hold hB hp K hK
          have t57 : ac.tmps[57]? = some (.bool true) := (List.cons.inj (hp 19 (by decide))).1
          rw [if_pos (wanted_pos rfl rfl t57)]
          have t8 : ac.tmps[8]? = some (.pointer (some ⟨kd, 0, none⟩)) := hold 8 (by kernel_rfl)
          clear hold hp hsz
          refine ld8 8 rfl (kd) (xd) t8 (RWd.out _ hB.below) (SZd.out.size) ?_
          exact hK.out _ _ ⟨hB, rfl, Nat.le_refl _, .inl (Below.refl _ _), fun h => absurd h (by decide)⟩
        refine Stps2.cons (o := _) ?_ ?_
        · intro ac yw hsz hold hB hp K hK
          have t57 : ac.tmps[57]? = some (.bool true) := (List.cons.inj (hp 19 (by decide))).1
          rw [if_pos (wanted_pos rfl rfl t57)]
          have t9 : ac.tmps[9]? = some (.int .i64 0) := hold 9 (by kernel_rfl)
          clear hold hp hsz
          go_simp
          exact hK.out _ _ ⟨hB, rfl, Nat.le_refl _, .inl (Below.refl _ _), fun h => absurd h (by decide)⟩
        refine Stps2.cons (o := _) ?_ ?_
        · intro ac yw hsz hold hB hp K hK
          have t57 : ac.tmps[57]? = some (.bool true) := (List.cons.inj (hp 19 (by decide))).1
          rw [if_pos (wanted_pos rfl rfl t57)]
          clear hold hp hsz
          have hbz : Below yw.heap.size yw (yw.alloc (.cells #[.int .i64 5, .int .i64 0, .int .i64 7] 3)) ∧ yw.heap.size < (yw.alloc (.cells #[.int .i64 5, .int .i64 0, .int .i64 7] 3)).heap.size := ⟨(Below.refl _ _).alloc (Nat.le_refl _) _, by rw [World.size_alloc]; omega⟩
          have kz : KRow (yw.alloc (.cells #[.int .i64 5, .int .i64 0, .int .i64 7] 3)) .i64 (some ⟨yw.heap.size, 0, none⟩) 3 3 (lt [5, 0, 7]) := KRow.lits yw [5, 0, 7] 3 (by decide) rfl
          go_simp
          exact hK.out _ _ ⟨hB.alloc _, Exists.intro yw.heap.size (And.intro rfl kz), Nat.le_of_lt hbz.2, .inl hbz.1, fun _ => ⟨_, rfl, Nat.le_refl _, hbz.2⟩⟩
        refine Stps2.cons (o := _) ?_ ?_
        · intro ac yw hsz hold hB hp K hK
          have t57 : ac.tmps[57]? = some (.bool true) := (List.cons.inj (hp 19 (by decide))).1
          rw [if_pos (wanted_pos rfl rfl t57)]
          obtain ⟨k22_22, e22, g22_0⟩ := hp 22 (by decide)
          have t60 : ac.tmps[60]? = some (.slice (some ⟨k22_22, 0, none⟩) 3 3) := (List.cons.inj e22).1
          clear hold hp hsz e22
          go_simp
          (go_at_call 20; (with_reducible refine (RId.out _ _ _ g22_0).mono ?_); rintro e wz ⟨x23, rfl, h23_0, hbz⟩)
          exact hK.out _ _ ⟨hB.go hbz, Exists.intro x23 (And.intro rfl h23_0), hbz.size, .inl hbz, fun h => absurd h (by decide)⟩
        refine Stps2.cons (o := _) ?_ ?_
        · intro ac yw hsz hold hB hp K hK
          have t57 : ac.tmps[57]? = some (.bool true) := (List.cons.inj (hp 19 (by decide))).1
          rw [if_pos (wanted_pos rfl rfl t57)]
          have e20 := hp 20 (by decide)
          have t58 : ac.tmps[58]? = some (.agg xd) := (List.cons.inj e20).1
          have e21 := hp 21 (by decide)
          have t59 : ac.tmps[59]? = some (.int .i64 0) := (List.cons.inj e21).1
          obtain ⟨x23_23, e23, g23_0⟩ := hp 23 (by decide)
          have t61 : ac.tmps[61]? = some (.agg x23_23) := (List.cons.inj e23).1
          clear hold hp hsz e20 e21 e23
          go_simp
          (go_at_call 12; (with_reducible refine (SO.out _ _ _ (SHd.out _ _ _ (Ad.out _ hB.below) g23_0)).mono ?_); rintro e wz ⟨rfl, hbz⟩)
          exact hK.out _ _ ⟨hB.go hbz, rfl, hbz.size, .inl hbz, fun h => absurd h (by decide)⟩
        refine Stps2.cons (o := _) ?_ ?_
        · intro ac yw hsz hold hB hp K hK
          have e19 := hp 19 (by decide)
          have t57 : ac.tmps[57]? = some (.bool true) := (List.cons.inj e19).1
          have e24 := hp 24 (by decide)
          have t62 : ac.tmps[62]? = some (.bool true) := (List.cons.inj e24).1
          clear hold hp hsz e19 e24
          go_simp
          exact hK.out _ _ ⟨hB, rfl, Nat.le_refl _, .inl (Below.refl _ _), fun h => absurd h (by decide)⟩
        refine Stps2.cons (o := _) ?_ ?_
        · intro ac yw hsz hold hB hp K hK
          have e25 := hp 25 (by decide)
          have t63 : ac.tmps[63]? = some (.bool true) := (List.cons.inj e25).1
          clear hold hp hsz e25
          go_simp
          exact hK.out _ _ ⟨hB, rfl, Nat.le_refl _, .inl (Below.refl _ _), fun h => absurd h (by decide)⟩
        exact Stps2.nil _
      refine Stps2.cons (o := _) ?_ ?_
      · intro ac yw hsz hold hB hp K hK
        clear hold hp hsz
        have hbz : Below yw.heap.size yw (yw.alloc (.cells #[.int .i64 1, .int .i64 0, .int .i64 1] 3)) ∧ yw.heap.size < (yw.alloc (.cells #[.int .i64 1, .int .i64 0, .int .i64 1] 3)).heap.size := ⟨(Below.refl _ _).alloc (Nat.le_refl _) _, by rw [World.size_alloc]; omega⟩
        have kz : KRow (yw.alloc (.cells #[.int .i64 1, .int .i64 0, .int .i64 1] 3)) .i64 (some ⟨yw.heap.size, 0, none⟩) 3 3 (lt [1, 0, 1]) := KRow.lits yw [1, 0, 1] 3 (by decide) rfl
        go_simp
        exact hK.out _ _ ⟨hB.alloc _, Exists.intro yw.heap.size (And.intro rfl kz), Nat.le_of_lt hbz.2, .inl hbz.1, fun _ => ⟨_, rfl, Nat.le_refl _, hbz.2⟩⟩
      refine Stps2.cons (o := _) ?_ ?_
      · intro ac yw hsz hold hB hp K hK
        obtain ⟨k0_0, e0, g0_0⟩ := hp 0 (by decide)
        have t32 : ac.tmps[32]? = some (.slice (some ⟨k0_0, 0, none⟩) 3 3) := (List.cons.inj e0).1
        clear hold hp hsz e0
        go_simp
        (go_at_call 16; (refine (INk.out _ _ _ g0_0).mono ?_); rintro e wz ⟨x1, rfl, h1_0, hbz⟩)
        exact hK.out _ _ ⟨hB.go hbz, Exists.intro x1 (And.intro rfl h1_0), hbz.size, .inl hbz, fun h => absurd h (by decide)⟩
      refine Stps2.cons (o := _) ?_ ?_
      · intro ac yw hsz hold hB hp K hK
        have t6 : ac.tmps[6]? = some (.pointer (some ⟨kc, 0, none⟩)) := hold 6 (by kernel_rfl)
        clear hold hp hsz
        rw [if_pos (by rfl)]
        refine ld8 6 rfl (kc) (xc) t6 (RWc.out _ hB.below) (SZc.out.size) ?_
        exact hK.out _ _ ⟨hB, rfl, Nat.le_refl _, .inl (Below.refl _ _), fun h => absurd h (by decide)⟩
      refine Stps2.cons (o := _) ?_ ?_
      · intro ac yw hsz hold hB hp K hK
        obtain ⟨x1_1, e1, g1_0⟩ := hp 1 (by decide)
        have t33 : ac.tmps[33]? = some (.agg x1_1) := (List.cons.inj e1).1
        have e2 := hp 2 (by decide)
        have t34 : ac.tmps[34]? = some (.agg xc) := (List.cons.inj e2).1
        clear hold hp hsz e1 e2
        go_simp
        (go_at_call 15; (refine (EX.out _ _ _ g1_0 (Ac.out _ hB.below)).mono ?_); rintro e wz ⟨x3, rfl, h3_0, hbz⟩)
        exact hK.out _ _ ⟨hB.go hbz, Exists.intro x3 (And.intro rfl (And.intro h3_0 h3_0.isA)), hbz.size, .inl hbz, fun h => absurd h (by decide)⟩
      refine Stps2.cons (o := _) ?_ ?_
      · intro ac yw hsz hold hB hp K hK
        obtain ⟨x3_3, e3, g3_0, g3_1⟩ := hp 3 (by decide)
        have t35 : ac.tmps[35]? = some (.tuple #[.agg x3_3, .int .i64 0]) := (List.cons.inj e3).1
        clear hold hp hsz e3
        go_simp
        exact hK.out _ _ ⟨hB, Exists.intro x3_3 (And.intro rfl (And.intro g3_0 g3_1)), Nat.le_refl _, .inl (Below.refl _ _), fun h => absurd h (by decide)⟩
      refine Stps2.cons (o := _) ?_ ?_
      · intro ac yw hsz hold hB hp K hK
        obtain ⟨x3_4, e4, g4_0, g4_1⟩ := hp 4 (by decide)
        have t31 : ac.tmps[31]? = some (.tuple #[.agg x3_4, .int .i64 0]) := (List.cons.inj e4).1
        clear hold hp hsz e4
        go_simp
        exact hK.out _ _ ⟨hB, Exists.intro x3_4 (And.intro rfl (And.intro g4_0 g4_1)), Nat.le_refl _, .inl (Below.refl _ _), fun h => absurd h (by decide)⟩
      refine Stps2.cons (o := _) ?_ ?_
      · intro ac yw hsz hold hB hp K hK
        obtain ⟨x3_4, e4, g4_0, g4_1⟩ := hp 4 (by decide)
        have t31 : ac.tmps[31]? = some (.tuple #[.agg x3_4, .int .i64 0]) := (List.cons.inj e4).1
        clear hold hp hsz e4
        go_simp
        exact hK.out _ _ ⟨hB, rfl, Nat.le_refl _, .inl (Below.refl _ _), fun h => absurd h (by decide)⟩
      refine Stps2.cons (o := _) ?_ ?_
      · intro ac yw hsz hold hB hp K hK
        clear hold hp hsz
        have hbz : Below yw.heap.size yw (yw.alloc (.cells zerC 32)) ∧ yw.heap.size < (yw.alloc (.cells zerC 32)).heap.size := ⟨(Below.refl _ _).alloc (Nat.le_refl _) _, by rw [World.size_alloc]; omega⟩
        go_simp
        exact hK.out _ _ ⟨hB.alloc _, Exists.intro yw.heap.size (Exists.intro zerC (And.intro rfl (And.intro ((Row.new yw _ zerC)) (And.intro IsA.zer hB.below.size)))), Nat.le_of_lt hbz.2, .inl hbz.1, fun _ => ⟨_, rfl, Nat.le_refl _, hbz.2⟩⟩
      refine Stps2.cons (o := _) ?_ ?_
      · intro ac yw hsz hold hB hp K hK
        obtain ⟨k7_7, z7_7, e7, g7_0, g7_1, g7_2⟩ := hp 7 (by decide)
        have t8 : ac.tmps[8]? = some (.pointer (some ⟨k7_7, 0, none⟩)) := (List.cons.inj e7).1
        obtain ⟨x3_5, e5, g5_0, g5_1⟩ := hp 5 (by decide)
        have t36 : ac.tmps[36]? = some (.agg x3_5) := (List.cons.inj e5).1
        clear hold hp hsz e7 e5
        rw [if_pos (by rfl)]
        have HB : Bag _ (fun _ => True) (yw.setRow k7_7 x3_5) := ⟨below_put hB.below g7_2 _, fun _ _ _ _ => trivial, trivial⟩
        refine st8 8 36 rfl k7_7 x3_5 t8 t36 _ z7_7 g7_0 g7_1 g5_1 ?_
        refine hK.out undef _ ⟨HB, Exists.intro k7_7 (Exists.intro x3_5 (And.intro (congrArg (fun x => [x]) t8) (And.intro (g7_0.put _) (And.intro (g5_0.store g7_0 g7_1 _) g5_1)))), by simp [World.setRow], .inr ?_, fun h => absurd h (by decide)⟩
        intro jj hj hap h
        match jj, h with
        | 0, ⟨k0, e0, g0_0⟩ =>
          have hne : k0 ≠ k7_7 := fun e => hap 7 (by decide) 0 (by decide) (by decide) (by decide) (by decide) k7_7 ⟨8, _, rfl, t8, rfl⟩ ⟨32, _, rfl, (List.cons.inj e0).1, congrArg some e⟩
          exact Exists.intro k0 (And.intro e0 (g0_0.away (.inr (fun x hx => by obtain rfl := Option.some.inj hx; exact hne)) (Far.setRow _ _ _)))
        | 1, ⟨x1, e1, g1_0⟩ =>
          exact Exists.intro x1 (And.intro e1 (g1_0.store g7_0 g7_1 _))
        | 2, h => exact h
        | 3, ⟨x3, e3, g3_0, g3_1⟩ =>
          exact Exists.intro x3 (And.intro e3 (And.intro (g3_0.store g7_0 g7_1 _) g3_1))
        | 4, ⟨x3, e4, g4_0, g4_1⟩ =>
          exact Exists.intro x3 (And.intro e4 (And.intro (g4_0.store g7_0 g7_1 _) g4_1))
        | 5, ⟨x3, e5, g5_0, g5_1⟩ =>
          exact Exists.intro x3 (And.intro e5 (And.intro (g5_0.store g7_0 g7_1 _) g5_1))
        | 6, h => exact h
        | 7, ⟨k7, z7, e7, g7_0, g7_1, g7_2⟩ =>
          have e9 : k7 = k7_7 := by have := (List.cons.inj e7).1.symm.trans t8; cases this; rfl
          subst e9
          exact Exists.intro _ (Exists.intro _ (And.intro e7 (And.intro (g7_0.put _) (And.intro g5_1 g7_2))))
        | 8, _ => exact absurd rfl hj
        | 9, h => exact h
        | _ + 10, h => exact h
      refine Stps2.cons (o := _) ?_ ?_
      · intro ac yw hsz hold hB hp K hK
        have e6 := hp 6 (by decide)
        have t37 : ac.tmps[37]? = some (.int .i64 0) := (List.cons.inj e6).1
        clear hold hp hsz e6
        go_simp
        exact hK.out _ _ ⟨hB, rfl, Nat.le_refl _, .inl (Below.refl _ _), fun h => absurd h (by decide)⟩
      exact Stps2.nil _
    refine Stps2.cons (o := _) ?_ ?_
    · intro ac yw hsz hold hB hp K hK
      clear hold hp hsz
      have hbz : Below yw.heap.size yw (yw.alloc (.cells #[.int .i64 1, .int .i64 0, .int .i64 1] 3)) ∧ yw.heap.size < (yw.alloc (.cells #[.int .i64 1, .int .i64 0, .int .i64 1] 3)).heap.size := ⟨(Below.refl _ _).alloc (Nat.le_refl _) _, by rw [World.size_alloc]; omega⟩
      have kz : KRow (yw.alloc (.cells #[.int .i64 1, .int .i64 0, .int .i64 1] 3)) .i64 (some ⟨yw.heap.size, 0, none⟩) 3 3 (lt [1, 0, 1]) := KRow.lits yw [1, 0, 1] 3 (by decide) rfl
      go_simp
      exact hK.out _ _ ⟨hB.alloc _, Exists.intro yw.heap.size (And.intro rfl kz), Nat.le_of_lt hbz.2, .inl hbz.1, fun _ => ⟨_, rfl, Nat.le_refl _, hbz.2⟩⟩
    refine Stps2.cons (o := _) ?_ ?_
    · intro ac yw hsz hold hB hp K hK
      obtain ⟨k0_0, e0, g0_0⟩ := hp 0 (by decide)
      have t25 : ac.tmps[25]? = some (.slice (some ⟨k0_0, 0, none⟩) 3 3) := (List.cons.inj e0).1
      clear hold hp hsz e0
      go_simp
      (go_at_call 16; (refine (INk.out _ _ _ g0_0).mono ?_); rintro e wz ⟨x1, rfl, h1_0, hbz⟩)
      exact hK.out _ _ ⟨hB.go hbz, Exists.intro x1 (And.intro rfl h1_0), hbz.size, .inl hbz, fun h => absurd h (by decide)⟩
    refine Stps2.cons (o := _) ?_ ?_
    · intro ac yw hsz hold hB hp K hK
      have t1 : ac.tmps[1]? = some (.pointer (some ⟨W1.heap.size, 0, none⟩)) := hold 1 (by kernel_rfl)
      clear hold hp hsz
      rw [if_pos (by rfl)]
      refine ld8 1 rfl (W1.heap.size) (X1) t1 (RW1.out _ hB.below) (SZ1.out.size) ?_
      exact hK.out _ _ ⟨hB, rfl, Nat.le_refl _, .inl (Below.refl _ _), fun h => absurd h (by decide)⟩
    refine Stps2.cons (o := _) ?_ ?_
    · intro ac yw hsz hold hB hp K hK
      obtain ⟨x1_1, e1, g1_0⟩ := hp 1 (by decide)
      have t26 : ac.tmps[26]? = some (.agg x1_1) := (List.cons.inj e1).1
      have e2 := hp 2 (by decide)
      have t27 : ac.tmps[27]? = some (.agg X1) := (List.cons.inj e2).1
      clear hold hp hsz e1 e2
      go_simp
      (go_at_call 13; (refine (CP.out _ _ _ g1_0 (A1.out _ hB.below)).mono ?_); rintro e wz ⟨x3, rfl, h3_0, hbz⟩)
      exact hK.out _ _ ⟨hB.go hbz, Exists.intro x3 (And.intro rfl (And.intro h3_0 h3_0.isA)), hbz.size, .inl hbz, fun h => absurd h (by decide)⟩
    refine Stps2.cons (o := _) ?_ ?_
    · intro ac yw hsz hold hB hp K hK
      obtain ⟨x3_3, e3, g3_0, g3_1⟩ := hp 3 (by decide)
      have t28 : ac.tmps[28]? = some (.tuple #[.agg x3_3, .int .i64 0]) := (List.cons.inj e3).1
      clear hold hp hsz e3
      go_simp
      exact hK.out _ _ ⟨hB, Exists.intro x3_3 (And.intro rfl (And.intro g3_0 g3_1)), Nat.le_refl _, .inl (Below.refl _ _), fun h => absurd h (by decide)⟩
    refine Stps2.cons (o := _) ?_ ?_
    · intro ac yw hsz hold hB hp K hK
      obtain ⟨x3_4, e4, g4_0, g4_1⟩ := hp 4 (by decide)
      have t24 : ac.tmps[24]? = some (.tuple #[.agg x3_4, .int .i64 0]) := (List.cons.inj e4).1
      clear hold hp hsz e4
      go_simp
      exact hK.out _ _ ⟨hB, Exists.intro x3_4 (And.intro rfl (And.intro g4_0 g4_1)), Nat.le_refl _, .inl (Below.refl _ _), fun h => absurd h (by decide)⟩
    refine Stps2.cons (o := _) ?_ ?_
    · intro ac yw hsz hold hB hp K hK
      obtain ⟨x3_4, e4, g4_0, g4_1⟩ := hp 4 (by decide)
      have t24 : ac.tmps[24]? = some (.tuple #[.agg x3_4, .int .i64 0]) := (List.cons.inj e4).1
      clear hold hp hsz e4
      go_simp
      exact hK.out _ _ ⟨hB, rfl, Nat.le_refl _, .inl (Below.refl _ _), fun h => absurd h (by decide)⟩
    refine Stps2.cons (o := _) ?_ ?_
    · intro ac yw hsz hold hB hp K hK
      clear hold hp hsz
      have hbz : Below yw.heap.size yw (yw.alloc (.cells zerC 32)) ∧ yw.heap.size < (yw.alloc (.cells zerC 32)).heap.size := ⟨(Below.refl _ _).alloc (Nat.le_refl _) _, by rw [World.size_alloc]; omega⟩
      go_simp
      exact hK.out _ _ ⟨hB.alloc _, Exists.intro yw.heap.size (Exists.intro zerC (And.intro rfl (And.intro ((Row.new yw _ zerC)) (And.intro IsA.zer hB.below.size)))), Nat.le_of_lt hbz.2, .inl hbz.1, fun _ => ⟨_, rfl, Nat.le_refl _, hbz.2⟩⟩
    refine Stps2.cons (o := _) ?_ ?_
    · intro ac yw hsz hold hB hp K hK
      obtain ⟨k7_7, z7_7, e7, g7_0, g7_1, g7_2⟩ := hp 7 (by decide)
      have t6 : ac.tmps[6]? = some (.pointer (some ⟨k7_7, 0, none⟩)) := (List.cons.inj e7).1
      obtain ⟨x3_5, e5, g5_0, g5_1⟩ := hp 5 (by decide)
      have t29 : ac.tmps[29]? = some (.agg x3_5) := (List.cons.inj e5).1
      clear hold hp hsz e7 e5
      rw [if_pos (by rfl)]
      have HB : Bag _ (fun _ => True) (yw.setRow k7_7 x3_5) := ⟨below_put hB.below g7_2 _, fun _ _ _ _ => trivial, trivial⟩
      refine st8 6 29 rfl k7_7 x3_5 t6 t29 _ z7_7 g7_0 g7_1 g5_1 ?_
      refine hK.out undef _ ⟨HB, Exists.intro k7_7 (Exists.intro x3_5 (And.intro (congrArg (fun x => [x]) t6) (And.intro (g7_0.put _) (And.intro (g5_0.store g7_0 g7_1 _) g5_1)))), by simp [World.setRow], .inr ?_, fun h => absurd h (by decide)⟩
      intro jj hj hap h
      match jj, h with
      | 0, ⟨k0, e0, g0_0⟩ =>
        have hne : k0 ≠ k7_7 := fun e => hap 7 (by decide) 0 (by decide) (by decide) (by decide) (by decide) k7_7 ⟨6, _, rfl, t6, rfl⟩ ⟨25, _, rfl, (List.cons.inj e0).1, congrArg some e⟩
        exact Exists.intro k0 (And.intro e0 (g0_0.away (.inr (fun x hx => by obtain rfl := Option.some.inj hx; exact hne)) (Far.setRow _ _ _)))
      | 1, ⟨x1, e1, g1_0⟩ =>
        exact Exists.intro x1 (And.intro e1 (g1_0.store g7_0 g7_1 _))
      | 2, h => exact h
      | 3, ⟨x3, e3, g3_0, g3_1⟩ =>
        exact Exists.intro x3 (And.intro e3 (And.intro (g3_0.store g7_0 g7_1 _) g3_1))
      | 4, ⟨x3, e4, g4_0, g4_1⟩ =>
        exact Exists.intro x3 (And.intro e4 (And.intro (g4_0.store g7_0 g7_1 _) g4_1))
      | 5, ⟨x3, e5, g5_0, g5_1⟩ =>
        exact Exists.intro x3 (And.intro e5 (And.intro (g5_0.store g7_0 g7_1 _) g5_1))
      | 6, h => exact h
      | 7, ⟨k7, z7, e7, g7_0, g7_1, g7_2⟩ =>
        have e9 : k7 = k7_7 := by have := (List.cons.inj e7).1.symm.trans t6; cases this; rfl
        subst e9
        exact Exists.intro _ (Exists.intro _ (And.intro e7 (And.intro (g7_0.put _) (And.intro g5_1 g7_2))))
      | 8, _ => exact absurd rfl hj
      | 9, h => exact h
      | _ + 10, h => exact h
    refine Stps2.cons (o := _) ?_ ?_
    · intro ac yw hsz hold hB hp K hK
      have e6 := hp 6 (by decide)
      have t30 : ac.tmps[30]? = some (.int .i64 0) := (List.cons.inj e6).1
      clear hold hp hsz e6
      go_simp
      exact hK.out _ _ ⟨hB, rfl, Nat.le_refl _, .inl (Below.refl _ _), fun h => absurd h (by decide)⟩
    exact Stps2.nil _
  refine Stps2.cons (o := _) ?_ ?_
  · intro ac yw hsz hold hB hp K hK
    clear hold hp hsz
    go_simp
    (go_at_call 17; (with_reducible refine (I2.out _).mono ?_); rintro e wz ⟨x0, rfl, h0_0, hbz⟩)
    exact hK.out _ _ ⟨hB.go hbz, Exists.intro x0 (And.intro rfl h0_0), hbz.size, .inl hbz, fun h => absurd h (by decide)⟩
  refine Stps2.cons (o := _) ?_ ?_
  · intro ac yw hsz hold hB hp K hK
    have t1 : ac.tmps[1]? = some (.pointer (some ⟨W1.heap.size, 0, none⟩)) := hold 1 (by kernel_rfl)
    clear hold hp hsz
    rw [if_pos (by rfl)]
    refine ld8 1 rfl (W1.heap.size) (X1) t1 (RW1.out _ hB.below) (SZ1.out.size) ?_
    exact hK.out _ _ ⟨hB, rfl, Nat.le_refl _, .inl (Below.refl _ _), fun h => absurd h (by decide)⟩
  refine Stps2.cons (o := _) ?_ ?_
  · intro ac yw hsz hold hB hp K hK
    obtain ⟨x0_0, e0, g0_0⟩ := hp 0 (by decide)
    have t13 : ac.tmps[13]? = some (.agg x0_0) := (List.cons.inj e0).1
    have e1 := hp 1 (by decide)
    have t14 : ac.tmps[14]? = some (.agg X1) := (List.cons.inj e1).1
    clear hold hp hsz e0 e1
    go_simp
    (go_at_call 8; (refine (TK1.out _ _ _ g0_0 (A1.out _ hB.below)).mono ?_); rintro e wz ⟨x2, rfl, h2_0, hbz⟩)
    exact hK.out _ _ ⟨hB.go hbz, Exists.intro x2 (And.intro rfl (And.intro h2_0 h2_0.isA)), hbz.size, .inl hbz, fun h => absurd h (by decide)⟩
  refine Stps2.cons (o := _) ?_ ?_
  · intro ac yw hsz hold hB hp K hK
    obtain ⟨x2_2, e2, g2_0, g2_1⟩ := hp 2 (by decide)
    have t15 : ac.tmps[15]? = some (.tuple #[.agg x2_2, .int .i64 0]) := (List.cons.inj e2).1
    clear hold hp hsz e2
    go_simp
    exact hK.out _ _ ⟨hB, Exists.intro x2_2 (And.intro rfl (And.intro g2_0 g2_1)), Nat.le_refl _, .inl (Below.refl _ _), fun h => absurd h (by decide)⟩
  refine Stps2.cons (o := _) ?_ ?_
  · intro ac yw hsz hold hB hp K hK
    obtain ⟨x2_3, e3, g3_0, g3_1⟩ := hp 3 (by decide)
    have t12 : ac.tmps[12]? = some (.tuple #[.agg x2_3, .int .i64 0]) := (List.cons.inj e3).1
    clear hold hp hsz e3
    go_simp
    exact hK.out _ _ ⟨hB, Exists.intro x2_3 (And.intro rfl (And.intro g3_0 g3_1)), Nat.le_refl _, .inl (Below.refl _ _), fun h => absurd h (by decide)⟩
  refine Stps2.cons (o := _) ?_ ?_
  · intro ac yw hsz hold hB hp K hK
    obtain ⟨x2_3, e3, g3_0, g3_1⟩ := hp 3 (by decide)
    have t12 : ac.tmps[12]? = some (.tuple #[.agg x2_3, .int .i64 0]) := (List.cons.inj e3).1
    clear hold hp hsz e3
    go_simp
    exact hK.out _ _ ⟨hB, rfl, Nat.le_refl _, .inl (Below.refl _ _), fun h => absurd h (by decide)⟩
  refine Stps2.cons (o := _) ?_ ?_
  · intro ac yw hsz hold hB hp K hK
    clear hold hp hsz
    have hbz : Below yw.heap.size yw (yw.alloc (.cells zerC 32)) ∧ yw.heap.size < (yw.alloc (.cells zerC 32)).heap.size := ⟨(Below.refl _ _).alloc (Nat.le_refl _) _, by rw [World.size_alloc]; omega⟩
    go_simp
    exact hK.out _ _ ⟨hB.alloc _, Exists.intro yw.heap.size (Exists.intro zerC (And.intro rfl (And.intro ((Row.new yw _ zerC)) (And.intro IsA.zer hB.below.size)))), Nat.le_of_lt hbz.2, .inl hbz.1, fun _ => ⟨_, rfl, Nat.le_refl _, hbz.2⟩⟩
  refine Stps2.cons (o := _) ?_ ?_
  · intro ac yw hsz hold hB hp K hK
    obtain ⟨k6_6, z6_6, e6, g6_0, g6_1, g6_2⟩ := hp 6 (by decide)
    have t2 : ac.tmps[2]? = some (.pointer (some ⟨k6_6, 0, none⟩)) := (List.cons.inj e6).1
    obtain ⟨x2_4, e4, g4_0, g4_1⟩ := hp 4 (by decide)
    have t16 : ac.tmps[16]? = some (.agg x2_4) := (List.cons.inj e4).1
    clear hold hp hsz e6 e4
    rw [if_pos (by rfl)]
    have HB : Bag _ (fun _ => True) (yw.setRow k6_6 x2_4) := ⟨below_put hB.below g6_2 _, fun _ _ _ _ => trivial, trivial⟩
    refine st8 2 16 rfl k6_6 x2_4 t2 t16 _ z6_6 g6_0 g6_1 g4_1 ?_
    refine hK.out undef _ ⟨HB, Exists.intro k6_6 (Exists.intro x2_4 (And.intro (congrArg (fun x => [x]) t2) (And.intro (g6_0.put _) (And.intro (g4_0.store g6_0 g6_1 _) g4_1)))), by simp [World.setRow], .inr ?_, fun h => absurd h (by decide)⟩
    intro jj hj hap h
    match jj, h with
    | 0, ⟨x0, e0, g0_0⟩ =>
      exact Exists.intro x0 (And.intro e0 (g0_0.store g6_0 g6_1 _))
    | 1, h => exact h
    | 2, ⟨x2, e2, g2_0, g2_1⟩ =>
      exact Exists.intro x2 (And.intro e2 (And.intro (g2_0.store g6_0 g6_1 _) g2_1))
    | 3, ⟨x2, e3, g3_0, g3_1⟩ =>
      exact Exists.intro x2 (And.intro e3 (And.intro (g3_0.store g6_0 g6_1 _) g3_1))
    | 4, ⟨x2, e4, g4_0, g4_1⟩ =>
      exact Exists.intro x2 (And.intro e4 (And.intro (g4_0.store g6_0 g6_1 _) g4_1))
    | 5, h => exact h
    | 6, ⟨k6, z6, e6, g6_0, g6_1, g6_2⟩ =>
      have e9 : k6 = k6_6 := by have := (List.cons.inj e6).1.symm.trans t2; cases this; rfl
      subst e9
      exact Exists.intro _ (Exists.intro _ (And.intro e6 (And.intro (g6_0.put _) (And.intro g4_1 g6_2))))
    | 7, _ => exact absurd rfl hj
    | 8, h => exact h
    | _ + 9, h => exact h
  refine Stps2.cons (o := _) ?_ ?_
  · intro ac yw hsz hold hB hp K hK
    have e5 := hp 5 (by decide)
    have t17 : ac.tmps[17]? = some (.int .i64 0) := (List.cons.inj e5).1
    clear hold hp hsz e5
    go_simp
    exact hK.out _ _ ⟨hB, rfl, Nat.le_refl _, .inl (Below.refl _ _), fun h => absurd h (by decide)⟩
  exact Stps2.nil _
end Go.Proofs.YtpmcbnliogjknaaGreatDoor

namespace Go.Proofs.YtpmcbnliogjknaaGreatDoor
open Go.RowKit
set_option maxHeartbeats 1600000 in
set_option maxRecDepth 100000 in
theorem rAxis_any (cs : Array Value) (S : Nat → Int) (r : Nat) (ch : Bool) (L : Nat) (g : Nat → Int) (fB : Nat → Bool) (fS fT : Nat → ByteArray) (i : Int) (w : World) (h : Pln w cs S r ch L g fB fS fT) (hr : r ≤ 1000000) :
    Calls Tryz.prog 33 #[.agg cs, .int .i64 i] w fun e w' => e = .returned (.tuple #[.int .i64 (axI r i), .bool (axQ r i)]) ∧ Below w.heap.size w w' := by
  obtain ⟨sa, sc, ta, tc, na, nc, rfl, hk⟩ := h.form
  have BB := Lib.hid ((Bag.start w).newRow (plC sa r sc ch ta (tnO ch L) tc na (nnO ch L) nc) 26)
  have HE := Lib.hid BB.out.below
  have w1 := IntWalk.i64_in ((r : Int) - 1) (by omega)
  unfold plC at BB HE
  unfold plC
  obtain ⟨x0, x1, x2, x3⟩ := pl_cells BB.out.now.1
  clear h hk
  by_cases hn : i < 0
  · have hx : axI r i = (r : Int) - 1 := by unfold axI; rw [if_pos hn]
    by_cases d1 : 0 ≤ (r : Int) - 1
    · have hq : axQ r i = true := by unfold axQ; rw [hx, decide_eq_true d1, decide_eq_true (show (r : Int) - 1 < r by omega)]; rfl
      rw [hq, hx]
      have d2 : (r : Int) - 1 < r := by omega
      have dz : decide ((1 : Int) ≤ (r : Int)) = true := decide_eq_true (by omega)
      clear hx hq
      go_enter Tryz.func33, Tryz.ntmps33
      go_wp2_with fail
      go_quiet (fail)
      have HE := Lib.hid (below_drewN HE.out nq)
      go_wp2
      exact bodyPost_ret (v := .tuple #[.int .i64 ((r : Int) - 1), .bool true]) (by simp [results, Tryz.results33, go_sem]) rfl ⟨rfl, HE.out⟩
    · have hq : axQ r i = false := by unfold axQ; rw [hx, decide_eq_false d1]; rfl
      rw [hq, hx]
      have dz : decide ((1 : Int) ≤ (r : Int)) = false := decide_eq_false (by omega)
      clear hx hq
      go_enter Tryz.func33, Tryz.ntmps33
      go_wp2_with fail
      go_quiet (fail)
      have HE := Lib.hid (below_drewN HE.out nq)
      go_wp2
      exact bodyPost_ret (v := .tuple #[.int .i64 ((r : Int) - 1), .bool false]) (by simp [results, Tryz.results33, go_sem]) rfl ⟨rfl, HE.out⟩
  · have hx : axI r i = i := by unfold axI; rw [if_neg hn]
    have d1 : 0 ≤ i := by omega
    have hq : axQ r i = decide (i < (r : Int)) := by unfold axQ; rw [hx, decide_eq_true d1]; rfl
    rw [hq, hx]
    clear hx hq w1
    obtain ⟨b, hb⟩ : ∃ b, decide (i < (r : Int)) = b := ⟨_, rfl⟩
    rw [hb]
    go_enter Tryz.func33, Tryz.ntmps33
    go_wp2_with fail
    go_quiet (fail)
    have HE := Lib.hid (below_drewN HE.out nq)
    go_wp2
    exact bodyPost_ret (v := .tuple #[.int .i64 i, .bool b]) (by simp [results, Tryz.results33, go_sem]) rfl ⟨rfl, HE.out⟩
end Go.Proofs.YtpmcbnliogjknaaGreatDoor

namespace Go.Proofs.YtpmcbnliogjknaaGreatDoor
open Go.RowKit
theorem tn_nn (ch : Bool) (L : Nat) : tnO ch L + nnO ch L = L := by unfold tnO nnO; cases ch <;> simp
theorem Pln.len {cs : Array Value} {S : Nat → Int} {r : Nat} {ch : Bool} {L : Nat} {g : Nat → Int} {fB : Nat → Bool} {fS fT : Nat → ByteArray} (wz : World) (h : Pln wz cs S r ch L g fB fS fT) (hL : L ≤ 1000000) :
    Calls Tryz.prog 85 #[.agg cs] wz fun e w' => e = .returned (.int .i64 (L : Nat)) ∧ Below wz.heap.size wz w' := by
  have := r6Len_any cs S r ch g (tnO ch L) fB fS fT (nnO ch L) wz h (by have := nnO_le ch L; omega) (by have := nnO_le ch L; omega)
  rw [tn_nn] at this
  exact this
end Go.Proofs.YtpmcbnliogjknaaGreatDoor

namespace Go.Proofs.YtpmcbnliogjknaaGreatDoor
open Go.RowKit
theorem Pln.on {w : World} {cs : Array Value} {S : Nat → Int} {r : Nat} {ch : Bool} {L : Nat} {g g' : Nat → Int} {fB fB' : Nat → Bool} {fS fT fS' fT' : Nat → ByteArray} (h : Pln w cs S r ch L g fB fS fT) (e0 : ∀ j, j < L → g j = g' j) (e1 : ∀ j, j < L → fB j = fB' j) (e2 : ∀ j, j < L → fS j = fS' j) (e3 : ∀ j, j < L → fT j = fT' j) : Pln w cs S r ch L g' fB' fS' fT' := by
  obtain ⟨sa, sc, ta, tc, na, nc, e, h1, h2, h3⟩ := h
  have hn := nnO_le ch L
  exact ⟨sa, sc, ta, tc, na, nc, e, h1, h2.congr (fun j hj => e0 j (by omega)), h3.congr (fun j hj => ⟨e1 j (by omega), e2 j (by omega), e3 j (by omega)⟩)⟩
/-- An index copied to a block of its own. -/
theorem idx_new {wr : World} {a : Option Addr} {c m : Nat} {f : Nat → Int} (h : KRow wr .i64 a m c f) (hn : a = none → c = 0) (hm : 0 < m) (hm2 : m ≤ 1000000) :
    ∃ b c' y1, (Builtin.append_ #[22, 22] 22 #[.slice (some ⟨wr.heap.size, 0, none⟩) 0 0, .slice a m c]).run Tryz.prog (wr.alloc (.cells #[] 3)) = .ok (.slice (some ⟨b, 0, none⟩) m c') y1 ∧ wr.heap.size ≤ b ∧ IBox y1 b m f ∧ m ≤ c' ∧ c' ≤ maxLen ∧ Below wr.heap.size wr y1 := by
  have hb : Below wr.heap.size wr (wr.alloc (.cells #[] 3)) := (Below.refl _ _).alloc (Nat.le_refl _) _
  have hown : (wr.alloc (.cells #[] 3)).ownsRow wr.heap.size 3 1 (.slice (some ⟨wr.heap.size, 0, none⟩) 0 0) 0 [] := ⟨rfl, .inr ⟨wr.heap.size, 0, #[], rfl, Nat.le_refl _, heap_alloc_new wr _, Nat.le_refl _, Nat.zero_le _, rfl, rfl⟩⟩
  obtain ⟨v', w', e1, e2, e3⟩ := run_append_krow 22 wr.heap.size _ 0 [] hown a m c f (h.below hb) hn (by omega) (by rw [World.size_alloc]; omega)
  rw [List.nil_append, Nat.zero_add] at e2
  have e4 := e2
  rcases e2.2 with ⟨_, e⟩ | ⟨g, cap, cur, rfl, hg, hh, h1, h2, _, _⟩
  · omega
  · refine ⟨g, cap, w', e1, hg, ⟨Row.lt (t := 3) hh, fun o => Row.free (t := 3) hh o, fun j hj => ?_⟩, h1, h2, ?_⟩
    · have := e4.cells (g := g) rfl j _ (kcs_get .i64 f m j hj)
      rwa [show (⟨g, 0, none⟩ : Addr).add j = ⟨g, j, none⟩ by unfold Addr.add; split <;> simp_all] at this
    · refine hb.trans ⟨e3.os, e3.tape, e3.output, e3.size, fun j hj => e3.block j (Nat.lt_of_lt_of_le hj (by rw [World.size_alloc]; omega)) (fun e => ?_)⟩
      have e' : j = wr.heap.size := by simpa [Value.ownBlock] using e
      omega
theorem IBox.krow2 {w : World} {g n c : Nat} {h : Nat → Int} (q : IBox w g n h) (hn : n ≤ c) (hc : c ≤ maxLen) : KRow w .i64 (some ⟨g, 0, none⟩) n c h :=
  ⟨hn, hc, .inr ⟨g, 0, rfl, q.1, fun j hj => by rw [Nat.zero_add]; exact q.2.2 j hj⟩⟩
end Go.Proofs.YtpmcbnliogjknaaGreatDoor

namespace Go.Proofs.YtpmcbnliogjknaaGreatDoor
open Go.RowKit
/-- The document's place of an index, or -1. -/
theorem rplk_any (a : Option Addr) (n c : Nat) (f : Nat → Int) (a2 : Option Addr) (c2 : Nat) (g : Nat → Int) (w : World) (h : KRow w .i64 a n c f) (h2 : KRow w .i64 a2 n c2 g) (hax : axB f n = true) :
    Calls Tryz.prog 56 #[.slice a n c, .slice a2 n c2] w fun e w' => e = .returned (.int .i64 (if inB f g n then plc f g n else -1)) ∧ Below w.heap.size w w' :=
  (r6Place_any a n c f a2 n c2 g w h h2).mono (by
    rintro e w' ⟨x, rfl, h0, h1, hb⟩
    rw [Nat.min_self] at h0 h1
    refine ⟨?_, hb⟩
    cases hq : inB f g n with
    | true => rw [h1 hax hq, if_pos rfl]
    | false => rw [h0 hq, if_neg (by decide)])
end Go.Proofs.YtpmcbnliogjknaaGreatDoor

namespace Go.Proofs.YtpmcbnliogjknaaGreatDoor
open Go.RowKit
/-- The lengths with another one along an axis, and the places along it. -/
def gaT (S : Nat → Int) (k m : Nat) : Nat → Int := wiF S (k : Nat) (m : Nat)
def gaF (k : Nat) (H : Nat → Int) : Nat → Nat → Int := fun j q => if j = k then H q else (q : Int)
set_option linter.unusedSimpArgs false in
set_option linter.unusedVariables false in
set_option maxHeartbeats 6400000 in
set_option maxRecDepth 100000 in
theorem rGather_any (cs : Array Value) (S : Nat → Int) (r : Nat) (ch : Bool) (L : Nat) (g : Nat → Int) (fB : Nat → Bool) (fS fT : Nat → ByteArray) (k : Nat) (aH : Option Addr) (m cH : Nat) (H : Nat → Int) (w : World)
    (h : Pln w cs S r ch L g fB fS fT) (hk : k < r) (hsh : shB S r = true) (hH : KRow w .i64 aH m cH H) (hm : m ≤ 5000) (hL : L ≤ 1000000) :
    Calls Tryz.prog 35 #[.agg cs, .int .i64 k, .slice aH m cH] w fun e w' => PoTold (pkE (gaT S k m) r) (gaT S k m) r ch (itm (gaT S k m) r).toNat (fun j => elC L g 32 (pkG S (gaT S k m) r (gaF k H) j)) (fun j => elB L fB (pkG S (gaT S k m) r (gaF k H) j)) (fun j => elS L fS (rS 0) (pkG S (gaT S k m) r (gaF k H) j)) (fun j => elS L fT (str (dec 1)) (pkG S (gaT S k m) r (gaF k H) j)) w w' e := by
  obtain ⟨sa, sc, ta, tc, na, nc, hcs, hks⟩ := h.form
  subst hcs
  obtain ⟨h8, hax⟩ := sh_ax hsh
  have HP := Lib.hid h
  have hl := hH.len
  obtain ⟨bs, os, hsa, hbs, hcs⟩ := hks.get hk
  subst hsa
  have hSX : ∀ j, j < r → 0 ≤ S j ∧ S j ≤ 4096 := fun j hj => ax_le4 hsh hj
  obtain ⟨T, hT⟩ : ∃ f, gaT S k m = f := ⟨_, rfl⟩
  have hTj : ∀ j, T j = if j = k then (m : Int) else S j := fun j => by
    rw [← hT]
    unfold gaT wiF
    by_cases e : j = k
    · rw [if_pos e, if_pos (by omega)]
    · rw [if_neg e, if_neg (by omega)]
  have T64 : In64 T r := fun j hj => by
    have := hSX j hj
    rw [hTj]
    split <;> omega
  have WT := Lib.hid (fun wz (q : KRow wz .i64 (some ⟨bs, os, none⟩) r sc S) => r7With_any (some ⟨bs, os, none⟩) r sc S (k : Nat) (m : Nat) wz q (by omega))
  rw [show wiF S ((k : Nat) : Int) ((m : Nat) : Int) = T from hT] at WT
  have CN := Lib.hid (fun a c wz (q : KRow wz .i64 a r c T) => r6Count_any a r c T wz q T64)
  unfold CntTold at CN
  have BB := Lib.hid (((((Bag.start w).krow hH).krow hks).newRow (plC (some ⟨bs, os, none⟩) r sc ch ta (tnO ch L) tc na (nnO ch L) nc) 26).newRow plZer 26)
  simp only [World.size_alloc] at BB
  rw [hT]
  obtain ⟨G, hG⟩ : ∃ f, pkG S T r (gaF k H) = f := ⟨_, rfl⟩
  rw [hG]
  obtain ⟨EE, hEE⟩ : ∃ E, pkE T r = E := ⟨_, rfl⟩
  rw [hEE]
  obtain ⟨eC, heC⟩ : ∃ f : Nat → Int, (fun j => elC L g 32 (G j)) = f := ⟨_, rfl⟩
  obtain ⟨eB, heB⟩ : ∃ f : Nat → Bool, (fun j => elB L fB (G j)) = f := ⟨_, rfl⟩
  obtain ⟨eS, heS⟩ : ∃ f : Nat → ByteArray, (fun j => elS L fS (rS 0) (G j)) = f := ⟨_, rfl⟩
  obtain ⟨eT, heT⟩ : ∃ f : Nat → ByteArray, (fun j => elS L fT (str (dec 1)) (G j)) = f := ⟨_, rfl⟩
  obtain ⟨MM, hMM⟩ : ∃ E, (itm T r).toNat = E := ⟨_, rfl⟩
  rw [heC, heB, heS, heT, hMM]
  have x0 : ((w.alloc (.cells (plC (some ⟨bs, os, none⟩) r sc ch ta (tnO ch L) tc na (nnO ch L) nc) 26)).alloc (.cells plZer 26)).cell? ⟨w.heap.size, 0, none⟩ = some (.slice (some ⟨bs, os, none⟩) r sc) := BB.out.now.2.1.cell 0
  have hrn : (0 : Int) ≤ (k : Nat) := by omega
  have hkr : ((k : Nat) : Int) < (r : Nat) := by omega
  unfold plC at x0
  cases hts : shB T r with
  | false =>
    have hE : EE = 26 := by rw [← hEE]; unfold pkE; rw [hts]; rfl
    subst hE
    rw [hts] at CN
    generalize cntI T r = ci at *
    clear h hH hk hsh hEE hG heC heB heS heT hMM hts hTj T64 hSX hax hT
    unfold plC
    go_enter Tryz.func35, Tryz.ntmps35
    go_wp2_with fail
    go_at_call 65
    (with_reducible refine (WT.out _ ?_).mono ?_)
    · exact BB.out.now.2.2.1
    rintro e w2 ⟨a2, c2, rfl, hk2, hb2⟩
    have BB := Lib.hid ((BB.out.go hb2).krow hk2)
    clear hb2 hk2 x0
    go_wp2_with fail
    go_at_call 54
    (with_reducible refine (CN.out _ _ _ ?_).mono ?_)
    · exact BB.out.now.1
    rintro e w3 ⟨rfl, rfl⟩
    have HZ := Lib.hid BB.out.now.2.1
    have HE := Lib.hid (PoTold.no (S := T) (r := r) (ch := ch) (L := MM) (g := eC) (fB := eB) (fS := eS) (fT := eT) (E := 26) (by decide) (below_put BB.out.below (show w.heap.size ≤ w.heap.size + 1 by omega) plZer))
    go_wp2_with (refine st_pln rfl (.tmp 6) (.tmp 28) rfl (w.heap.size + 1) rfl none 0 0 false none 0 0 none 0 0 rfl HZ.out rfl ?_)
    exact bodyPost_ret (res_pln2 Tryz.results35 rfl rfl (HZ.out.put _) rfl) rfl HE.out
  | true =>
    have hE : EE = 0 := by rw [← hEE]; unfold pkE; rw [hts]; rfl
    subst hE
    obtain ⟨_, haxT⟩ := sh_ax hts
    have hbd := ax_bd haxT
    obtain ⟨M, hM⟩ : ∃ M : Nat, itm T r = (M : Nat) := ⟨(itm T r).toNat, by omega⟩
    have hMM2 : M = MM := by rw [← hMM, hM]; rfl
    subst hMM2
    rw [hts] at CN
    generalize cntI T r = ci at *
    have hM4 : M ≤ 4096 := by omega
    have ALL := Lib.hid (fun a c wz (q : KRow wz .i64 a r c T) => r6All_any a r c T M wz q hts hM)
    have PLC := Lib.hid (fun a2 c2 f wz (k1 : KRow wz .i64 (some ⟨bs, os, none⟩) r sc S) (k2 : KRow wz .i64 a2 r c2 f) => rplk_any (some ⟨bs, os, none⟩) r sc S a2 c2 f wz k1 k2 hax)
    have HD : Hid (∀ j, j < M → 0 ≤ dgs T r (j : Nat) k ∧ (dgs T r (j : Nat) k).toNat < m ∧ ∀ F, (∀ a, a < r → F a = if a = k then H (dgs T r (j : Nat) k).toNat else dgs T r (j : Nat) a) → (if inB S F r then plc S F r else -1) = G j) := Lib.hid (fun j hj => by
      have h1 := itm_pos haxT (show (0 : Int) ≤ (j : Nat) by omega) (show ((j : Nat) : Int) < itm T r by omega)
      obtain ⟨h2, _⟩ := dgs_in h1 (show (0 : Int) ≤ (j : Nat) by omega) (show ((j : Nat) : Int) < itm T r by omega)
      have h3 := inB_at h2 hk
      rw [hTj, if_pos rfl] at h3
      refine ⟨h3.1, by omega, fun F hF => ?_⟩
      have e := pkI_congr (F := fun a _ => F a) (F' := gaF k H) (d := dgs T r (j : Nat)) (S := S) (r := r) (fun a ha => by
        show F a = if a = k then H (dgs T r (j : Nat) a).toNat else ((dgs T r (j : Nat) a).toNat : Int)
        rw [hF a ha]
        have h4 := inB_at h2 ha
        by_cases e : a = k
        · rw [if_pos e, if_pos e, e]
        · rw [if_neg e, if_neg e]; omega)
      have e0 : pkI (fun a _ => F a) (dgs T r (j : Nat)) = F := rfl
      rw [e0] at e
      rw [e.1, e.2, ← hG]
      rfl)
    have RP := Lib.hid (fun a1 c1 a2 c2 wz (p : Pln wz (plC (some ⟨bs, os, none⟩) r sc ch ta (tnO ch L) tc na (nnO ch L) nc) S r ch L g fB fS fT) (k1 : KRow wz .i64 a1 r c1 T) (k2 : KRow wz .i64 a2 M c2 G) => rpick8_any (plC (some ⟨bs, os, none⟩) r sc ch ta (tnO ch L) tc na (nnO ch L) nc) S r ch L g fB fS fT a1 r c1 T a2 M c2 G wz p k1 k2 (by omega) hL)
    rw [heC, heB, heS, heT] at RP
    have hr8 : r ≤ 1000000 := by omega
    have hrp : 0 < r := by omega
    have HKK := Lib.hid hk
    clear h hH hsh hEE hG heC heB heS heT hMM hts hTj T64 hSX hax hT haxT hbd hM
    unfold plC
    go_enter Tryz.func35, Tryz.ntmps35
    go_wp2_with fail
    go_at_call 65
    (with_reducible refine (WT.out _ ?_).mono ?_)
    · exact BB.out.now.2.2.1
    rintro e w2 ⟨aT, cT, rfl, hk2, hb2⟩
    have BB := Lib.hid ((BB.out.go hb2).krow hk2)
    clear hb2 hk2 x0
    go_wp2_with fail
    go_at_call 54
    (with_reducible refine (CN.out _ _ _ ?_).mono ?_)
    · exact BB.out.now.1
    rintro e w3 ⟨rfl, rfl⟩
    go_wp2_with fail
    go_at_call 55
    (with_reducible refine (ALL.out _ _ _ ?_).mono ?_)
    · exact BB.out.now.1
    rintro e y4 ⟨a8, c8, A, CC, rfl, hlr, hb3⟩
    have BB := Lib.hid (BB.out.go hb3)
    have HLR := Lib.hid hlr
    have hl8 := hlr.1
    have hl9 := hlr.2.1
    unfold maxLen at hl9
    clear hb3 hlr
    go_wp2_with fail
    go_loopw [12, 13, 14] (fun s ii v wr => ∃ (j : Nat) (a : Option Addr) (c : Nat), j ≤ M ∧ s = .slice a j c ∧ ii = .int .i64 j ∧ (∃ v6, v6 = v) ∧ Hid (OwnI y4 wr a j c G)) (fun _ ii _ _ => M - (intOf ii).toNat)
    case atStart => exact ⟨0, none, 0, by omega, rfl, rfl, ⟨_, rfl⟩, OwnI.nil _ _⟩
    case round =>
      obtain ⟨j, a, c, hj, rfl, rfl, ⟨v6, rfl⟩, ho⟩ := hrel
      have BW := Lib.hid (BB.out.go ho.out.1)
      by_cases hlt : j < M
      · obtain ⟨b, off, rfl, hb, hc, hrow, hnone⟩ := (HLR.out.below ho.out.1).get hlt
        obtain ⟨g2, c2, y1, hr, hg2, hbox, hm1, hm2, hbw⟩ := idx_new hrow hnone hrp hr8
        have hj0 : (0 : Int) ≤ j := by omega
        have hj1 : (j : Int) < M := by omega
        obtain ⟨hd0, hd1, hGj⟩ := HD.out j hlt
        have BY := Lib.hid (BW.out.go hbw)
        obtain ⟨q, hq⟩ : ∃ q : Nat, dgs T r (j : Nat) k = q := ⟨(dgs T r (j : Nat) k).toNat, by omega⟩
        have hqm : q < m := by rw [hq] at hd1; exact hd1
        obtain ⟨bh, oh, hah, hbh, hch⟩ := BY.out.now.2.2.2.2.1.get hqm
        cases hah
        have hbox1 : IBox y1 g2 r (dgs T r (j : Nat)) := hbox
        have BX := hbox1.set HKK.out (H q)
        have xi := hbox1.2.2 k HKK.out
        rw [hq] at xi
        have xf := hbox1.2.1 k
        have xh : y1.cell? ⟨bh, oh + q, none⟩ = some (.int .i64 (H q)) := hch
        have hbx : Below wr.heap.size wr (y1.setCell ⟨g2, k, none⟩ (.int .i64 (H q))) := hbw.setCell (p := ⟨g2, k, none⟩) hg2 _
        have KIX := Lib.hid (BX.krow2 hm1 hm2)
        have HGJ : Hid ((if inB S (fun a => if a = k then H q else dgs T r (j : Nat) a) r then plc S (fun a => if a = k then H q else dgs T r (j : Nat) a) r else -1) = G j) := Lib.hid (hGj _ (fun a _ => by rw [hq]; rfl))
        have HBX := Lib.hid hbx
        have BZ := Lib.hid (BW.out.go hbx)
        have z0 : (y1.setCell ⟨g2, k, none⟩ (.int .i64 (H q))).cell? ⟨w.heap.size, 0, none⟩ = some (.slice (some ⟨bs, os, none⟩) r sc) := BZ.out.now.2.2.1.cell 0
        have hq0 : (0 : Int) ≤ q := by omega
        have hq1 : (q : Int) < m := by omega
        clear BX hbx hGj hbox hrow hnone hd0 hd1 hq hbox1 hch
        generalize (fun a => if a = k then H q else dgs T r (j : Nat) a) = WF at *
        generalize H q = hq9 at *
        generalize A j = aj at *
        generalize CC j = cj at *
        go_wp2_with (at_builtin; refine Lib.wpList_append_run _ rfl _ _ _ _ rfl _ _ rfl rfl _ _ hr ?_)
        have PLCj := Lib.hid (PLC.out _ _ WF _ (BZ.out.now.2.2.2.1) KIX.out)
        rw [HGJ.out] at PLCj
        obtain ⟨x, hx⟩ : ∃ x, G j = x := ⟨_, rfl⟩
        rw [hx] at PLCj
        have hx2 : x = G j := hx.symm
        clear hx
        go_at_call 56
        (refine (PLCj.out).mono ?_)
        rintro e w5 ⟨rfl, hb5⟩
        obtain ⟨a', c', y3, hr3, ho'⟩ := app1_step (ho.out.go (HBX.out.trans (hb5.mono HBX.out.size))) hx2 (by omega)
        have HO' := Lib.hid ho'
        clear ho' hb5 z0 hx2
        go_wp2_with (at_builtin; refine Lib.wpList_append_run _ rfl _ _ _ _ rfl _ _ rfl rfl _ _ hr3 ?_)
        go_roundw
        case rel => exact ⟨j + 1, a', c', by omega, rfl, by go_num, ⟨_, rfl⟩, HO'⟩
        case measure => simp [intOf]; omega
      · have hjM : j = M := by omega
        subst j
        have HK9 := Lib.hid ho.out.krow
        have HR3 := Lib.hid BW.out.now.2.2.1
        clear hj hlt ho
        go_wp2_with (refine ld_pln rfl (.tmp 3) rfl w.heap.size rfl HR3.out ?_)
        go_at_call 57
        (with_reducible refine (RP.out _ _ _ _ _ (HP.out.below BW.out.below) BW.out.now.1 HK9.out).mono ?_)
        rintro e w9 ⟨cs', rfl, hq9, hb9⟩
        have BW := Lib.hid (BW.out.go hb9)
        obtain ⟨sq, scq, tq, tcq, nq, ncq, rfl, _⟩ := hq9.form
        have HZ := Lib.hid BW.out.now.2.1
        have HE := Lib.hid (PoTold.yes (hq9.put HZ.out (plC sq r scq ch tq (tnO ch M) tcq nq (nnO ch M) ncq)) (below_put BW.out.below (show w.heap.size ≤ w.heap.size + 1 by omega) (plC sq r scq ch tq (tnO ch M) tcq nq (nnO ch M) ncq)))
        clear hq9 hb9
        go_wp2_with (refine st_pln rfl (.tmp 6) (.tmp 63) rfl (w.heap.size + 1) rfl _ _ _ _ _ _ _ _ _ _ rfl HZ.out rfl ?_)
        exact bodyPost_ret (res_pln2 Tryz.results35 rfl rfl (HZ.out.put _) rfl) rfl HE.out
end Go.Proofs.YtpmcbnliogjknaaGreatDoor

namespace Go.Proofs.YtpmcbnliogjknaaGreatDoor
open Go.RowKit
theorem PoTold.res2 {E : Int} {S : Nat → Int} {r : Nat} {ch : Bool} {L : Nat} {g : Nat → Int} {fB : Nat → Bool} {fS fT : Nat → ByteArray} {w w' : World} {e : Ending} (h : PoTold E S r ch L g fB fS fT w w' e) :
    ∃ x, e = .returned (.tuple #[.agg x, .int .i64 E]) ∧ IsP x ∧ (E = 0 → Pln w' x S r ch L g fB fS fT) ∧ (E ≠ 0 → x = plZer) ∧ Below w.heap.size w w' := by
  obtain ⟨x, he, h1, h2, hb⟩ := h
  refine ⟨x, he, ?_, h1, h2, hb⟩
  by_cases hE : E = 0
  · obtain ⟨_, _, _, _, _, _, e, _⟩ := (h1 hE).form
    exact ⟨_, _, _, _, _, _, _, _, _, _, e⟩
  · rw [h2 hE]
    exact ⟨_, _, _, _, _, _, _, _, _, _, rfl⟩
/-- Two rows that grow, apart from one another. -/
def OwnII (y0 w : World) (a : Option Addr) (c : Nat) (f : Nat → Int) (a2 : Option Addr) (c2 : Nat) (f2 : Nat → Int) (k : Nat) : Prop :=
  OwnI y0 w a k c f ∧ OwnI y0 w a2 k c2 f2 ∧ ∀ b, (Value.slice a k c).ownBlock = some b → (Value.slice a2 k c2).ownBlock ≠ some b
theorem OwnII.nil (y0 : World) (f f2 : Nat → Int) : OwnII y0 y0 none 0 f none 0 f2 0 := ⟨OwnI.nil _ _, OwnI.nil _ _, fun b h => by cases h⟩
theorem OwnII.left {y0 w : World} {a a2 : Option Addr} {k c c2 : Nat} {f f2 : Nat → Int} (h : OwnII y0 w a c f a2 c2 f2 k) : KRow w .i64 a k c f := h.1.krow
end Go.Proofs.YtpmcbnliogjknaaGreatDoor
