/-
  Proved: the law CutBack of package typeballlaw09 returns true for every list of small integers, number and list of truths, under the row's own conditions.
-/
import Derived.Test.YtpmcbnliogjknaaGreatDoorQ1
import Derived.Test.YtpmcbnliogjknaaGreatDoorQ2
import Derived.Test.YtpmcbnliogjknaaGreatDoorQ3
import Derived.Test.YtpmcbnliogjknaaGreatDoorQ4
import Derived.Test.YtpmcbnliogjknaaGreatDoorQ5
import Derived.Test.YtpmcbnliogjknaaGreatDoorQ6
import Derived.Test.YtpmcbnliogjknaaGreatDoorQ7
import Derived.Test.YtpmcbnliogjknaaGreatDoorQ8
import Derived.Test.YtpmcbnliogjknaaGreatDoorQ9
import Derived.Test.YtpmcbnliogjknaaGreatDoorQ10
import Derived.Test.YtpmcbnliogjknaaGreatDoorB1
import Derived.SizedLaws
import Derived.Test.YtpmcbnliogjknaaGreatDoorCards
import Derived.Test.YtpmcbnliogjknaaGreatDoorTie
import Derived.LaidMore
import Derived.Lay
import Derived.SevenTiedAt
import Derived.Stop.Joined
namespace Go.Proofs.YtpmcbnliogjknaaGreatDoor
open Go.ChangeShapes Go.WideShapes Go.ChangeAt Go.RowKit Go.WideMaps Go.WideElems
attribute [local go_sem ↓] Go.wp_at_zero Go.wp_at_succ

theorem wholeL {w : World} {x : Array Value} {n : Nat} {f : Nat → Int} (h : LArr w x n f) (h64 : In64 f n) (hn : n ≤ 1000000) :
    Calls Tryz.prog 18 #[.agg x] w fun e w' => ∃ a c, e = .returned (.tuple #[.slice a n c, .bool true]) ∧ KRow w' .i64 a n c f ∧ Below w.heap.size w w' := by
  refine (whole8_any x (fun _ => (n : Int)) 1 false n (fun _ => 0) f (fun _ => 1) w h (fun _ _ _ => Nat.one_pos) hn).mono ?_
  rw [wh_list h64]
  rintro e w' ⟨a, m, c, rfl, ⟨rfl, hk⟩, hb⟩
  exact ⟨a, c, rfl, hk, hb⟩
/-- A plain list of these numbers. -/
def PlF (w : World) (p : Array Value) (n : Nat) (f : Nat → Int) : Prop := ∀ T, Pln w p (fun _ => (n : Int)) 1 false n T (fun j => rB (f j)) (fun j => rS (f j)) (fun _ => str (dec 1))
theorem PlF.below {w w' : World} {p : Array Value} {n : Nat} {f : Nat → Int} (h : PlF w p n f) (hb : Below w.heap.size w w') : PlF w' p n f := fun T => (h T).below hb

set_option linter.unusedSimpArgs false in
set_option linter.unusedVariables false in
set_option maxHeartbeats 6400000 in
set_option maxRecDepth 100000 in
theorem cutBack_walk (a0 : Option Addr) (n0 c0 : Nat) (f0 : Nat → Int) (X : Nat) (a2 : Option Addr) (n2 c2 : Nat) (f2 : Nat → Bool) (w : World) (k0 : KRow w .i8 a0 n0 c0 f0) (hf0 : ∀ j, j < n0 → -128 ≤ f0 j ∧ f0 j ≤ 127) (hX : X ≤ 255) (k2 : BRow w a2 n2 c2 f2) :
    Calls Tryz.prog 5 #[.slice a0 n0 c0, .int .u8 (X : Nat), .slice a2 n2 c2] w fun e w' => e = .returned (.bool true) ∧ Below w.heap.size w w' := by
  have AW := Lib.hid (fun wz => awake9_any wz)
  have BB := Lib.hid (((Bag.start w).add (fun _ _ hb q => KRow.below q hb) k0).add (fun _ _ hb q => BRow.below q hb) k2)
  have hl0 := k0.len
  have hl2 := k2.len
  have HF0 := Lib.hid hf0
  clear k0 k2 hf0
  by_cases h1 : (200 : Int) < n0
  · go_enter Tryz.func5, Tryz.ntmps5
    go_wp2_with fail
    go_at_call 7
    (with_reducible refine (AW.out _).mono ?_)
    rintro e w9 ⟨rfl, hb9⟩
    have HE := Lib.hid (BB.out.go hb9).below
    clear hb9
    go_wp2
    go_ret
    exact ⟨rfl, HE.out⟩
  · by_cases h2 : (200 : Int) < n2
    · go_enter Tryz.func5, Tryz.ntmps5
      go_wp2_with fail
      go_at_call 7
      (with_reducible refine (AW.out _).mono ?_)
      rintro e w9 ⟨rfl, hb9⟩
      have HE := Lib.hid (BB.out.go hb9).below
      clear hb9
      go_wp2
      go_ret
      exact ⟨rfl, HE.out⟩
    · obtain ⟨kk, hkk⟩ : ∃ k : Nat, X % (n0 + 1) = k := ⟨_, rfl⟩
      have hk2 : kk ≤ n0 := by
        have := Nat.mod_lt X (show 0 < n0 + 1 by omega)
        omega
      have hkt : Int.tmod (X : Int) ((n0 : Int) + 1) = (kk : Nat) := by
        rw [Int.tmod_eq_emod_of_nonneg (by omega), ← hkk]
        exact (Int.natCast_emod X (n0 + 1)).symm
      have HKN : Hid (kk + (n0 - kk) = n0) := Lib.hid (by omega)
      obtain ⟨PP, hPP⟩ : ∃ f, ctP f2 n0 = f := ⟨_, rfl⟩
      have HPP := Lib.hid hPP
      obtain ⟨GG, hGG⟩ : ∃ f : Nat → Int, (fun j => if PP j = 1 then f0 (kpN PP j) else 0) = f := ⟨_, rfl⟩
      have hbit : ∀ j, j < n2 → PP j = 0 ∨ PP j = 1 := fun j _ => by rw [← hPP]; exact ctP_bit f2 n0 j
      have hct : kpN PP n2 = ctN f2 n0 n2 := by rw [← hPP]; exact kpN_ct f2 n0 n2
      have hin : ∀ q, q ≤ n0 → In64 f0 q := fun q hq j hj => by have := HF0.out j (by omega); omega
      have IK : Hid (∀ wz, Calls Tryz.prog 17 #[.int .i64 (kk : Nat)] wz fun e w' => ∃ x, e = .returned (.agg x) ∧ Arr w' x (fun _ => 0) 0 false 1 (fun _ => 0) (fun _ => (kk : Int)) (fun _ => 1) ∧ Below wz.heap.size wz w') := Lib.hid (fun wz => (int8_any (kk : Int) wz (by omega)).mono (by
        rintro e w' ⟨x, he, h, hb⟩
        exact ⟨x, he, h _, hb⟩))
      have IWA : Hid (∀ q a c wz, q ≤ n0 → KRow wz .i64 a q c f0 → Calls Tryz.prog 16 #[.slice a q c] wz fun e w' => ∃ x, e = .returned (.agg x) ∧ LArr w' x q f0 ∧ Below wz.heap.size wz w') := Lib.hid (fun q a c wz hq h => (ints8_any a q c f0 wz h (hin q hq) (by omega)).mono (by
        rintro e w' ⟨x, he, h, hb⟩
        exact ⟨x, he, h _, hb⟩))
      have ITA : Hid (∀ a c wz, KRow wz .i64 a n2 c PP → Calls Tryz.prog 16 #[.slice a n2 c] wz fun e w' => ∃ x, e = .returned (.agg x) ∧ LArr w' x n2 PP ∧ Below wz.heap.size wz w') := Lib.hid (fun a c wz h => (ints8_any a n2 c PP wz h (fun j hj => by have := hbit j hj; omega) (by omega)).mono (by
        rintro e w' ⟨x, he, h, hb⟩
        exact ⟨x, he, h _, hb⟩))
      have PIA : Hid (∀ q a c wz, q ≤ n0 → KRow wz .i64 a q c f0 → Calls Tryz.prog 20 #[.slice a q c] wz fun e w' => ∃ p, e = .returned (.agg p) ∧ PlF w' p q f0 ∧ Below wz.heap.size wz w') := Lib.hid (fun q a c wz hq h => pints_any a q c f0 wz h (hin q hq) (by omega))
      have TK := Lib.hid (fun x0 x wz h0 (h : LArr wz x n0 f0) => takeL x0 x kk n0 f0 wz h0 h hk2 (by omega))
      have DR := Lib.hid (fun x0 x wz h0 (h : LArr wz x n0 f0) => dropL x0 x kk n0 f0 wz h0 h hk2 (by omega))
      have EXA : Hid (∀ q, ctN f2 n0 n2 = q → ∀ x0 x wz, LArr wz x0 n2 PP → LArr wz x q f0 → Calls Tryz.prog 15 #[.agg x0, .agg x, .int .i64 (-1)] wz fun e w' => ∃ x, e = .returned (.tuple #[.agg x, .int .i64 0]) ∧ LArr w' x n2 GG ∧ Below wz.heap.size wz w') := Lib.hid (fun q hq x0 x wz h0 h => by
        subst hGG hq
        rw [← hct] at h
        exact expandL x0 x n2 PP f0 wz h0 h hbit (by omega))
      have CPA : Hid (∀ q, ctN f2 n0 n2 = q → ∀ x0 x wz, LArr wz x0 n2 PP → LArr wz x n2 GG → Calls Tryz.prog 13 #[.agg x0, .agg x, .int .i64 (-1)] wz fun e w' => ∃ x, e = .returned (.tuple #[.agg x, .int .i64 0]) ∧ LArr w' x q f0 ∧ Below wz.heap.size wz w') := Lib.hid (fun q hq x0 x wz h0 h => by
        subst hq
        rw [← hct]
        exact compressL x0 x n2 PP f0 GG wz h0 h hbit (by omega) (fun t _ e => by rw [← hGG]; show (if PP t = 1 then f0 (kpN PP t) else 0) = _; rw [if_pos e]))
      have WA : Hid (∀ x wz, LArr wz x kk f0 → Calls Tryz.prog 18 #[.agg x] wz fun e w' => ∃ a c, e = .returned (.tuple #[.slice a kk c, .bool true]) ∧ KRow w' .i64 a kk c f0 ∧ Below wz.heap.size wz w') := Lib.hid (fun x wz h => wholeL h (hin kk hk2) (by omega))
      have WB : Hid (∀ x wz, LArr wz x (n0 - kk) (fun j => f0 (kk + j)) → Calls Tryz.prog 18 #[.agg x] wz fun e w' => ∃ a c, e = .returned (.tuple #[.slice a (n0 - kk) c, .bool true]) ∧ KRow w' .i64 a (n0 - kk) c (fun j => f0 (kk + j)) ∧ Below wz.heap.size wz w') := Lib.hid (fun x wz h => wholeL h (fun j hj => hin n0 (Nat.le_refl _) (kk + j) (by omega)) (by omega))
      have SM : Hid (∀ a c a2 c2 wz, KRow wz .i64 a n0 c f0 → KRow wz .i64 a2 n0 c2 f0 → Calls Tryz.prog 19 #[.slice a n0 c, .slice a2 n0 c2] wz fun e w' => e = .returned (.bool true) ∧ Below wz.heap.size wz w') := Lib.hid (fun a c a2 c2 wz h h2 => by
        have := r6Same_any a n0 c f0 a2 n0 c2 f0 wz h h2
        rw [decide_eq_true rfl, sameB_iff.2 (fun _ _ => rfl)] at this
        exact this)
      have SOA : Hid (∀ q, q ≤ n0 → ∀ x p wz, LArr wz x q f0 → PlF wz p q f0 → Calls Tryz.prog 12 #[.agg x, .int .i64 0, .agg p, .int .i64 0] wz fun e w' => e = .returned (.bool true) ∧ Below wz.heap.size wz w') := Lib.hid (fun q hq x p wz h hp => showsOkC_any x p wz (shownL h hp (by omega) (fun j hj => by have := HF0.out j (by omega); omega)))
      clear hPP hGG hbit hct hin hkk
      go_enter Tryz.func5, Tryz.ntmps5
      have IN := Lib.hid (fun a c wz (h : KRow wz .i64 a n0 c f0) => IWA.out n0 a c wz (Nat.le_refl _) h)
      go_wp2_with fail
      go_loopw [7, 10] (fun s i wr => ∃ (q : Nat) (a : Option Addr) (c : Nat), q ≤ n0 ∧ s = .slice a q c ∧ i = .int .i64 q ∧ Hid (OwnI w wr a q c f0)) (fun _ i _ => n0 - (intOf i).toNat)
      case atStart => exact ⟨0, none, 0, by omega, rfl, rfl, OwnI.nil _ _⟩
      case round =>
        obtain ⟨q, ai, ci, hq, rfl, rfl, ho⟩ := hrel
        have BW := Lib.hid (BB.out.go ho.out.1)
        by_cases hlt : q < n0
        · obtain ⟨b, off, hab, hb, hc⟩ := BW.out.now.2.1.get hlt
          cases hab
          have hq0 : (0 : Int) ≤ q := by omega
          have hq1 : (q : Int) < n0 := by omega
          obtain ⟨a', c', y3, hr3, ho'⟩ := app1_step ho.out (x := f0 q) rfl (by omega)
          have HO' := Lib.hid ho'
          have hf := HF0.out q hlt
          have w1 := IntWalk.i64_in (f0 q) (by omega)
          clear ho ho'
          generalize f0 q = fq at *
          go_wp2_with (at_builtin; refine Lib.wpList_append_run _ rfl _ _ _ _ rfl _ _ rfl rfl _ _ hr3 ?_)
          go_roundw
          case rel => exact ⟨q + 1, a', c', by omega, rfl, by go_num, HO'⟩
          case measure => simp [intOf]; omega
        · have hqm : q = n0 := by omega
          subst q
          have HK := Lib.hid ho.out.krow
          have BB := BW
          have hlk := ho.out.krow.len
          clear ho hlt hq BW
          go_wp2_with fail
          go_at_call 16
          (refine (IN.out _ _ _ HK.out).mono ?_)
          rintro e W1 ⟨x1, rfl, h1, hb1⟩
          have HB1 := Lib.hid (BB.out.go hb1)
          have HK := Lib.hid (HK.out.below hb1)
          have HA1 := Lib.hid h1
          obtain ⟨n1, m1, d1, u1, v1, y1, hx1, _⟩ := Arr.form h1
          have hx1 : _ = (arrC false 0 (dm (fun _ => (n0 : Int)) 1) n1 m1 d1 u1 v1 y1) := hx1
          subst hx1
          clear h1 hb1 BB
          have BB := Lib.hid (((HB1.out.add (fun _ _ hb q => KRow.below q hb) HK.out).arr HA1.out).newRow (arrC false 0 (dm (fun _ => (n0 : Int)) 1) n1 m1 d1 u1 v1 y1) 32)
          unfold arrC
          go_wp2_with fail
          have hWW := BB.out.below
          unfold arrC at hWW
          unfold arrC at BB
          generalize hW : (W1.alloc (.cells _ 32)) = Y1 at *
          clear hW hWW
          have RW1 : Hid (∀ yz, Below Y1.heap.size Y1 yz → Row yz W1.heap.size 32 (arrC false 0 (dm (fun _ => (n0 : Int)) 1) n1 m1 d1 u1 v1 y1)) := Lib.hid (fun yz hb => Row.below BB.out.now.1 hb)
          have A1 : Hid (∀ yz, Below Y1.heap.size Y1 yz → LArr yz (arrC false 0 (dm (fun _ => (n0 : Int)) 1) n1 m1 d1 u1 v1 y1) n0 f0) := Lib.hid (fun yz hb => Arr.below BB.out.now.2.1 hb)
          have KI : Hid (∀ yz, Below Y1.heap.size Y1 yz → KRow yz .i64 ai n0 ci f0) := Lib.hid (fun yz hb => KRow.below BB.out.now.2.2.1 hb)
          have MK : Hid (∀ yz, Below Y1.heap.size Y1 yz → BRow yz a2 n2 c2 f2) := Lib.hid (fun yz hb => BRow.below BB.out.now.2.2.2.1 hb)
          have SZ1 : Hid (IsA (arrC false 0 (dm (fun _ => (n0 : Int)) 1) n1 m1 d1 u1 v1 y1)) := Lib.hid ⟨_, _, _, _, _, _, _, _, _, rfl⟩
          have BB := Lib.hid (Bag.fresh BB.out.below)
          clear HB1 HA1 HK
          generalize (arrC false 0 (dm (fun _ => (n0 : Int)) 1) n1 m1 d1 u1 v1 y1) = X1 at RW1 A1 SZ1
          refine wp_region_inv2 ⟨(fun j => ([[59], [60], [61], [62], [58], [63], [64], [13], [13], [14]] : List (List Nat)).getD j []), (fun j => ([[], [0], [], [0, 1, 2], [0, 1, 2, 3], [0, 1, 2, 3, 4], [0, 1, 2, 3, 4], [], [0, 1, 2, 3, 4, 5, 7], [0, 1, 2, 3, 4, 5, 6, 7, 8]] : List (List Nat)).getD j []), [7]⟩ (fun jj vv yy => match jj with | 0 => vv = [some (.int .i64 (kk : Nat))] | 1 => ∃ (x1 : Array Value), vv = [some (.agg x1)] ∧ Arr yy x1 (fun _ => 0) 0 false 1 (fun _ => 0) (fun _ => (kk : Int)) (fun _ => 1) | 2 => vv = [some (.agg X1)] | 3 => ∃ (x3 : Array Value), vv = [some (.tuple #[.agg x3, .int .i64 0])] ∧ LArr yy x3 kk f0 ∧ IsA x3 | 4 => ∃ (x3 : Array Value), vv = [some (.tuple #[.agg x3, .int .i64 0])] ∧ LArr yy x3 kk f0 ∧ IsA x3 | 5 => ∃ (x3 : Array Value), vv = [some (.agg x3)] ∧ LArr yy x3 kk f0 ∧ IsA x3 | 6 => vv = [some (.int .i64 0)] | 7 => ∃ (k7 : Nat), ∃ (z7 : Array Value), vv = [some (.pointer (some ⟨k7, 0, none⟩))] ∧ Row yy k7 32 z7 ∧ IsA z7 ∧ Y1.heap.size ≤ k7 | 8 => ∃ (k7 : Nat), ∃ (x3 : Array Value), vv = [some (.pointer (some ⟨k7, 0, none⟩))] ∧ Row yy k7 32 x3 ∧ LArr yy x3 kk f0 ∧ IsA x3 | 9 => vv = [some (.int .i64 0)] | _ => True) (Bag Y1 (fun _ => True)) (by kernel_rfl) (by kernel_rfl) (by kernel_rfl) (Bag.start Y1).drew ?_ ?_ ?_
          · intro jj vv yw yw2 hb h
            match jj, h with
            | 0, h => exact h
            | 1, ⟨x1, e1, g1_0⟩ => exact Exists.intro x1 (And.intro e1 (g1_0.below hb))
            | 2, h => exact h
            | 3, ⟨x3, e3, g3_0, g3_1⟩ => exact Exists.intro x3 (And.intro e3 (And.intro (g3_0.below hb) g3_1))
            | 4, ⟨x3, e4, g4_0, g4_1⟩ => exact Exists.intro x3 (And.intro e4 (And.intro (g4_0.below hb) g4_1))
            | 5, ⟨x3, e5, g5_0, g5_1⟩ => exact Exists.intro x3 (And.intro e5 (And.intro (g5_0.below hb) g5_1))
            | 6, h => exact h
            | 7, ⟨k7, z7, e7, g7_0, g7_1, g7_2⟩ => exact Exists.intro k7 (Exists.intro z7 (And.intro e7 (And.intro (g7_0.below hb) (And.intro g7_1 g7_2))))
            | 8, ⟨k7, x3, e8, g8_0, g8_1, g8_2⟩ => exact Exists.intro k7 (Exists.intro x3 (And.intro e8 (And.intro (g8_0.below hb) (And.intro (g8_1.below hb) g8_2))))
            | 9, h => exact h
            | _ + 10, h => exact h
          · intro ac yw hsz hdf hold hB hp
            obtain ⟨ka, xa, es, rs, ms, zs⟩ := hp 8 (by decide)
            have t13 : ac.tmps[13]? = some (.pointer (some ⟨ka, 0, none⟩)) := (List.cons.inj es).1
            have t14 : ac.tmps[14]? = some (.int .i64 0) := (List.cons.inj (hp 9 (by decide))).1
            have t11 : ac.tmps[11]? = some (.int .i64 (kk : Nat)) := hold 11 (by kernel_rfl)
            have t12 : ac.tmps[12]? = some (.pointer (some ⟨W1.heap.size, 0, none⟩)) := hold 12 (by kernel_rfl)
            have t2 : ac.tmps[2]? = some (.slice a2 n2 c2) := hold 2 (by kernel_rfl)
            have t7 : ac.tmps[7]? = some (.slice ai n0 ci) := hold 7 (by kernel_rfl)
            have t8 : ac.tmps[8]? = some (.slice none 0 0) := hold 8 (by kernel_rfl)
            have t9 : ac.tmps[9]? = some (.slice none 0 0) := hold 9 (by kernel_rfl)
            have RW1 := Lib.hid (fun yz hb => RW1.out yz (hB.below.trans (Below.mono hb hB.below.size)))
            have A1 := Lib.hid (fun yz hb => A1.out yz (hB.below.trans (Below.mono hb hB.below.size)))
            have MK := Lib.hid (fun yz hb => MK.out yz (hB.below.trans (Below.mono hb hB.below.size)))
            have KI := Lib.hid (fun yz hb => KI.out yz (hB.below.trans (Below.mono hb hB.below.size)))
            have RWa := Lib.hid (fun yz (hb : Below yw.heap.size yw yz) => Row.below rs hb)
            have Aa := Lib.hid (fun yz (hb : Below yw.heap.size yw yz) => LArr.below ms hb)
            have SZa := Lib.hid zs
            have BB := Lib.hid (BB.out.go hB.below)
            clear hold hp es rs ms zs hB
            obtain ⟨TX, hTX⟩ : ∃ TX : Nat → Value, ∀ i, (ac.tmps[i]?).getD undef = TX i := ⟨_, fun _ => rfl⟩
            have f2 := (hTX 2).symm.trans (congrArg (fun x => Option.getD x undef) t2)
            have f7 := (hTX 7).symm.trans (congrArg (fun x => Option.getD x undef) t7)
            have f8 := (hTX 8).symm.trans (congrArg (fun x => Option.getD x undef) t8)
            have f9 := (hTX 9).symm.trans (congrArg (fun x => Option.getD x undef) t9)
            have f11 := (hTX 11).symm.trans (congrArg (fun x => Option.getD x undef) t11)
            have f12 := (hTX 12).symm.trans (congrArg (fun x => Option.getD x undef) t12)
            have f13 := (hTX 13).symm.trans (congrArg (fun x => Option.getD x undef) t13)
            have f14 := (hTX 14).symm.trans (congrArg (fun x => Option.getD x undef) t14)
            have hac := act_eq (n := 171) hsz TX hTX
            rw [show ((List.range 171).map TX).toArray = #[TX 0, TX 1, TX 2, TX 3, TX 4, TX 5, TX 6, TX 7, TX 8, TX 9, TX 10, TX 11, TX 12, TX 13, TX 14, TX 15, TX 16, TX 17, TX 18, TX 19, TX 20, TX 21, TX 22, TX 23, TX 24, TX 25, TX 26, TX 27, TX 28, TX 29, TX 30, TX 31, TX 32, TX 33, TX 34, TX 35, TX 36, TX 37, TX 38, TX 39, TX 40, TX 41, TX 42, TX 43, TX 44, TX 45, TX 46, TX 47, TX 48, TX 49, TX 50, TX 51, TX 52, TX 53, TX 54, TX 55, TX 56, TX 57, TX 58, TX 59, TX 60, TX 61, TX 62, TX 63, TX 64, TX 65, TX 66, TX 67, TX 68, TX 69, TX 70, TX 71, TX 72, TX 73, TX 74, TX 75, TX 76, TX 77, TX 78, TX 79, TX 80, TX 81, TX 82, TX 83, TX 84, TX 85, TX 86, TX 87, TX 88, TX 89, TX 90, TX 91, TX 92, TX 93, TX 94, TX 95, TX 96, TX 97, TX 98, TX 99, TX 100, TX 101, TX 102, TX 103, TX 104, TX 105, TX 106, TX 107, TX 108, TX 109, TX 110, TX 111, TX 112, TX 113, TX 114, TX 115, TX 116, TX 117, TX 118, TX 119, TX 120, TX 121, TX 122, TX 123, TX 124, TX 125, TX 126, TX 127, TX 128, TX 129, TX 130, TX 131, TX 132, TX 133, TX 134, TX 135, TX 136, TX 137, TX 138, TX 139, TX 140, TX 141, TX 142, TX 143, TX 144, TX 145, TX 146, TX 147, TX 148, TX 149, TX 150, TX 151, TX 152, TX 153, TX 154, TX 155, TX 156, TX 157, TX 158, TX 159, TX 160, TX 161, TX 162, TX 163, TX 164, TX 165, TX 166, TX 167, TX 168, TX 169, TX 170] from rfl, f2, f7, f8, f9, f11, f12, f13, f14, hdf] at hac
            simp only [Option.getD_some] at hac
            subst hac
            clear hTX f2 f7 f8 f9 f11 f12 f13 f14
            go_wp2_with fail
            generalize yw = Y2 at *
            refine wp_region_inv2 ⟨(fun j => ([[66], [67], [68], [69], [65], [70], [71], [15], [15], [16]] : List (List Nat)).getD j []), (fun j => ([[], [0], [], [0, 1, 2], [0, 1, 2, 3], [0, 1, 2, 3, 4], [0, 1, 2, 3, 4], [], [0, 1, 2, 3, 4, 5, 7], [0, 1, 2, 3, 4, 5, 6, 7, 8]] : List (List Nat)).getD j []), [7]⟩ (fun jj vv yy => match jj with | 0 => vv = [some (.int .i64 (kk : Nat))] | 1 => ∃ (x1 : Array Value), vv = [some (.agg x1)] ∧ Arr yy x1 (fun _ => 0) 0 false 1 (fun _ => 0) (fun _ => (kk : Int)) (fun _ => 1) | 2 => vv = [some (.agg X1)] | 3 => ∃ (x3 : Array Value), vv = [some (.tuple #[.agg x3, .int .i64 0])] ∧ LArr yy x3 (n0 - kk) (fun j => f0 (kk + j)) ∧ IsA x3 | 4 => ∃ (x3 : Array Value), vv = [some (.tuple #[.agg x3, .int .i64 0])] ∧ LArr yy x3 (n0 - kk) (fun j => f0 (kk + j)) ∧ IsA x3 | 5 => ∃ (x3 : Array Value), vv = [some (.agg x3)] ∧ LArr yy x3 (n0 - kk) (fun j => f0 (kk + j)) ∧ IsA x3 | 6 => vv = [some (.int .i64 0)] | 7 => ∃ (k7 : Nat), ∃ (z7 : Array Value), vv = [some (.pointer (some ⟨k7, 0, none⟩))] ∧ Row yy k7 32 z7 ∧ IsA z7 ∧ Y2.heap.size ≤ k7 | 8 => ∃ (k7 : Nat), ∃ (x3 : Array Value), vv = [some (.pointer (some ⟨k7, 0, none⟩))] ∧ Row yy k7 32 x3 ∧ LArr yy x3 (n0 - kk) (fun j => f0 (kk + j)) ∧ IsA x3 | 9 => vv = [some (.int .i64 0)] | _ => True) (Bag Y2 (fun _ => True)) (by kernel_rfl) (by kernel_rfl) (by kernel_rfl) (Bag.start Y2).drew ?_ ?_ ?_
            · intro jj vv yw yw2 hb h
              match jj, h with
              | 0, h => exact h
              | 1, ⟨x1, e1, g1_0⟩ => exact Exists.intro x1 (And.intro e1 (g1_0.below hb))
              | 2, h => exact h
              | 3, ⟨x3, e3, g3_0, g3_1⟩ => exact Exists.intro x3 (And.intro e3 (And.intro (g3_0.below hb) g3_1))
              | 4, ⟨x3, e4, g4_0, g4_1⟩ => exact Exists.intro x3 (And.intro e4 (And.intro (g4_0.below hb) g4_1))
              | 5, ⟨x3, e5, g5_0, g5_1⟩ => exact Exists.intro x3 (And.intro e5 (And.intro (g5_0.below hb) g5_1))
              | 6, h => exact h
              | 7, ⟨k7, z7, e7, g7_0, g7_1, g7_2⟩ => exact Exists.intro k7 (Exists.intro z7 (And.intro e7 (And.intro (g7_0.below hb) (And.intro g7_1 g7_2))))
              | 8, ⟨k7, x3, e8, g8_0, g8_1, g8_2⟩ => exact Exists.intro k7 (Exists.intro x3 (And.intro e8 (And.intro (g8_0.below hb) (And.intro (g8_1.below hb) g8_2))))
              | 9, h => exact h
              | _ + 10, h => exact h
            · intro ac yw hsz hdf hold hB hp
              obtain ⟨kb, xb, es, rs, ms, zs⟩ := hp 8 (by decide)
              have t15 : ac.tmps[15]? = some (.pointer (some ⟨kb, 0, none⟩)) := (List.cons.inj es).1
              have t16 : ac.tmps[16]? = some (.int .i64 0) := (List.cons.inj (hp 9 (by decide))).1
              have t13 : ac.tmps[13]? = some (.pointer (some ⟨ka, 0, none⟩)) := hold 13 (by kernel_rfl)
              have t14 : ac.tmps[14]? = some (.int .i64 0) := hold 14 (by kernel_rfl)
              have t2 : ac.tmps[2]? = some (.slice a2 n2 c2) := hold 2 (by kernel_rfl)
              have t7 : ac.tmps[7]? = some (.slice ai n0 ci) := hold 7 (by kernel_rfl)
              have t8 : ac.tmps[8]? = some (.slice none 0 0) := hold 8 (by kernel_rfl)
              have t9 : ac.tmps[9]? = some (.slice none 0 0) := hold 9 (by kernel_rfl)
              have HRa := Lib.hid (RWa.out _ hB.below)
              have HAa := Lib.hid (Aa.out _ hB.below)
              have HRb := Lib.hid rs
              have HAb := Lib.hid ms
              have SZb := Lib.hid zs
              have MK := Lib.hid (fun yz hb => MK.out yz (hB.below.trans (Below.mono hb hB.below.size)))
              have KI := Lib.hid (fun yz hb => KI.out yz (hB.below.trans (Below.mono hb hB.below.size)))
              have BB := Lib.hid (BB.out.go hB.below)
              clear hold hp es rs ms zs hB RWa Aa RW1 A1 SZ1
              obtain ⟨TW, hTW⟩ : ∃ TW : Nat → Value, ∀ i, (ac.tmps[i]?).getD undef = TW i := ⟨_, fun _ => rfl⟩
              have f2 := (hTW 2).symm.trans (congrArg (fun x => Option.getD x undef) t2)
              have f7 := (hTW 7).symm.trans (congrArg (fun x => Option.getD x undef) t7)
              have f8 := (hTW 8).symm.trans (congrArg (fun x => Option.getD x undef) t8)
              have f9 := (hTW 9).symm.trans (congrArg (fun x => Option.getD x undef) t9)
              have f13 := (hTW 13).symm.trans (congrArg (fun x => Option.getD x undef) t13)
              have f14 := (hTW 14).symm.trans (congrArg (fun x => Option.getD x undef) t14)
              have f15 := (hTW 15).symm.trans (congrArg (fun x => Option.getD x undef) t15)
              have f16 := (hTW 16).symm.trans (congrArg (fun x => Option.getD x undef) t16)
              have hac := act_eq (n := 171) hsz TW hTW
              rw [show ((List.range 171).map TW).toArray = #[TW 0, TW 1, TW 2, TW 3, TW 4, TW 5, TW 6, TW 7, TW 8, TW 9, TW 10, TW 11, TW 12, TW 13, TW 14, TW 15, TW 16, TW 17, TW 18, TW 19, TW 20, TW 21, TW 22, TW 23, TW 24, TW 25, TW 26, TW 27, TW 28, TW 29, TW 30, TW 31, TW 32, TW 33, TW 34, TW 35, TW 36, TW 37, TW 38, TW 39, TW 40, TW 41, TW 42, TW 43, TW 44, TW 45, TW 46, TW 47, TW 48, TW 49, TW 50, TW 51, TW 52, TW 53, TW 54, TW 55, TW 56, TW 57, TW 58, TW 59, TW 60, TW 61, TW 62, TW 63, TW 64, TW 65, TW 66, TW 67, TW 68, TW 69, TW 70, TW 71, TW 72, TW 73, TW 74, TW 75, TW 76, TW 77, TW 78, TW 79, TW 80, TW 81, TW 82, TW 83, TW 84, TW 85, TW 86, TW 87, TW 88, TW 89, TW 90, TW 91, TW 92, TW 93, TW 94, TW 95, TW 96, TW 97, TW 98, TW 99, TW 100, TW 101, TW 102, TW 103, TW 104, TW 105, TW 106, TW 107, TW 108, TW 109, TW 110, TW 111, TW 112, TW 113, TW 114, TW 115, TW 116, TW 117, TW 118, TW 119, TW 120, TW 121, TW 122, TW 123, TW 124, TW 125, TW 126, TW 127, TW 128, TW 129, TW 130, TW 131, TW 132, TW 133, TW 134, TW 135, TW 136, TW 137, TW 138, TW 139, TW 140, TW 141, TW 142, TW 143, TW 144, TW 145, TW 146, TW 147, TW 148, TW 149, TW 150, TW 151, TW 152, TW 153, TW 154, TW 155, TW 156, TW 157, TW 158, TW 159, TW 160, TW 161, TW 162, TW 163, TW 164, TW 165, TW 166, TW 167, TW 168, TW 169, TW 170] from rfl, f2, f7, f8, f9, f13, f14, f15, f16, hdf] at hac
              simp only [Option.getD_some] at hac
              subst hac
              clear hTW f2 f7 f8 f9 f13 f14 f15 f16
              generalize yw = Y3 at *
              go_wp2_with (refine ld8G (by rfl) 13 rfl ka xa (by rfl) HRa.out SZa.out.size ?_)
              go_at_call 18
              (refine (WA.out _ _ HAa.out).mono ?_)
              rintro e w3 ⟨ax, cx, rfl, hkx, hb3⟩
              have HRb := Lib.hid (HRb.out.below hb3)
              have HAb := Lib.hid (HAb.out.below hb3)
              have HB3 := Lib.hid hb3
              have HKX := Lib.hid hkx
              clear hkx hb3 HRa HAa
              go_wp2_with (refine ld8G (by rfl) 15 rfl kb xb (by rfl) HRb.out SZb.out.size ?_)
              go_at_call 18
              (refine (WB.out _ _ HAb.out).mono ?_)
              rintro e w4 ⟨ay, cy, rfl, hky, hb4⟩
              have hkx := HKX.out.below hb4
              have HB4 := Lib.hid (HB3.out.trans (hb4.mono HB3.out.size))
              obtain ⟨a5, c5, y5, hr5, ho5⟩ := own_new hkx (by omega)
              obtain ⟨a6, c6, y6, hr6, ho6⟩ := own_more ho5 (hky.below ho5.1) HKN.out (by omega) (F := f0) (fun _ _ => rfl) (fun _ _ => rfl)
              have HB6 := Lib.hid (HB4.out.trans (ho6.1.mono HB4.out.size))
              have HK6 := Lib.hid ho6.krow
              have MK := Lib.hid (fun yz hb => MK.out yz (HB6.out.trans (Below.mono hb HB6.out.size)))
              have KI := Lib.hid (fun yz hb => KI.out yz (HB6.out.trans (Below.mono hb HB6.out.size)))
              have BB := Lib.hid (BB.out.go HB6.out)
              clear hkx hky hb4 ho5 ho6 HRb HAb HKX HB3 HB4
              go_wp2_with (first | (at_builtin; refine wpAppG _ (by rfl) _ _ _ _ rfl _ _ rfl rfl _ _ hr5 ?_) | (at_builtin; refine wpAppG _ (by rfl) _ _ _ _ rfl _ _ rfl rfl _ _ hr6 ?_))
              go_at_call 19
              (refine (SM.out _ _ _ _ _ HK6.out (KI.out _ (Below.refl _ _))).mono ?_)
              rintro e y4 ⟨rfl, hb9⟩
              have MK := Lib.hid (fun yz hb => MK.out yz (hb9.trans (Below.mono hb hb9.size)))
              have KI := Lib.hid (fun yz hb => KI.out yz (hb9.trans (Below.mono hb hb9.size)))
              have BB := Lib.hid (BB.out.go hb9)
              clear hb9 HK6 HB6
              go_wp2_with fail
              go_loopw [8, 9, 21, 22] (fun st sw i tt wr => ∃ (q : Nat) (at1 aw : Option Addr) (ct cw : Nat), q ≤ n2 ∧ st = .slice at1 q ct ∧ sw = .slice aw (ctN f2 n0 q) cw ∧ i = .int .i64 q ∧ (∃ v, v = tt) ∧ Hid (OwnIJ y4 wr at1 q ct PP aw (ctN f2 n0 q) cw f0)) (fun _ _ i _ _ => n2 - (intOf i).toNat)
              case atStart => exact ⟨0, none, none, 0, 0, by omega, rfl, rfl, rfl, ⟨_, rfl⟩, OwnIJ.nil _ _ _⟩
              case round =>
                obtain ⟨q, at1, aw, ct, cw, hq, rfl, rfl, rfl, ⟨v22, rfl⟩, ho⟩ := hrel
                have hcl := ctN_le f2 n0 q
                by_cases hlt : q < n2
                · obtain ⟨b2, o2, hab, hb2, hc2⟩ := (MK.out _ ho.out.1.1).get hlt
                  cases hab
                  have hq0 : (0 : Int) ≤ q := by omega
                  have hq1 : (q : Int) < n2 := by omega
                  by_cases hy : f2 q = true ∧ ctN f2 n0 q < n0
                  · obtain ⟨h1, h2⟩ := hy
                    have hcn : ctN f2 n0 (q + 1) = ctN f2 n0 q + 1 := by show (if f2 q = true ∧ ctN f2 n0 q < n0 then _ else _) = _; rw [if_pos ⟨h1, h2⟩]
                    have hpp : (1 : Int) = PP q := by rw [← HPP.out]; unfold ctP; rw [if_pos ⟨h1, h2⟩]
                    rw [h1] at hc2
                    obtain ⟨b3, o3, hab, hb3, hc3⟩ := (KI.out _ ho.out.1.1).get h2
                    cases hab
                    obtain ⟨aw', cw', y5, hr5, ho5⟩ := appL_step ho.out.symm (x := f0 (ctN f2 n0 q)) rfl (by omega)
                    obtain ⟨at1', ct', y6, hr6, ho6⟩ := appL_step ho5.symm hpp (by omega)
                    have HO6 := Lib.hid ho6
                    have HCN := Lib.hid hcn
                    have hk0 : (0 : Int) ≤ (ctN f2 n0 q : Nat) := by omega
                    have hk1 : ((ctN f2 n0 q : Nat) : Int) < (n0 : Nat) := by omega
                    clear ho ho5 ho6 hcn hpp h1 h2 hcl
                    generalize ctN f2 n0 q = z at *
                    generalize f0 z = fz at *
                    go_wp2_with (first | (at_builtin; refine Lib.wpList_append_run _ rfl _ _ _ _ rfl _ _ rfl rfl _ _ hr5 ?_) | (at_builtin; refine Lib.wpList_append_run _ rfl _ _ _ _ rfl _ _ rfl rfl _ _ hr6 ?_))
                    go_roundw
                    case rel => exact ⟨q + 1, at1', aw', ct', cw', by omega, rfl, by rw [HCN.out], by go_num, ⟨_, rfl⟩, by rw [HCN.out]; exact HO6⟩
                    case measure => simp [intOf]; omega
                  · have hcn : ctN f2 n0 (q + 1) = ctN f2 n0 q := by show (if f2 q = true ∧ ctN f2 n0 q < n0 then _ else _) = _; rw [if_neg hy]
                    have hpp : (0 : Int) = PP q := by rw [← HPP.out]; unfold ctP; rw [if_neg hy]
                    obtain ⟨at1', ct', y6, hr6, ho6⟩ := appL_step ho.out hpp (by omega)
                    have HO6 := Lib.hid ho6
                    have HCN := Lib.hid hcn
                    have hd : f2 q = false ∨ (f2 q = true ∧ ¬ ((ctN f2 n0 q : Nat) : Int) < (n0 : Nat)) := by
                      cases e : f2 q with
                      | false => exact .inl rfl
                      | true => exact .inr ⟨rfl, fun h => hy ⟨e, by omega⟩⟩
                    clear ho ho6 hcn hpp hy hcl
                    generalize ctN f2 n0 q = z at *
                    rcases hd with h1 | ⟨h1, h2⟩
                    all_goals
                      rw [h1] at hc2
                      clear h1
                      go_wp2_with (at_builtin; refine Lib.wpList_append_run _ rfl _ _ _ _ rfl _ _ rfl rfl _ _ hr6 ?_)
                      go_roundw
                      case rel => exact ⟨q + 1, at1', aw, ct', cw, by omega, rfl, by rw [HCN.out], by go_num, ⟨_, rfl⟩, by rw [HCN.out]; exact HO6⟩
                      case measure => simp [intOf]; omega
                · have hqm : q = n2 := by omega
                  subst q
                  have KT : Hid (∀ yz, Below wr.heap.size wr yz → KRow yz .i64 at1 n2 ct PP) := Lib.hid (fun yz hb => ho.out.1.krow.below hb)
                  have KW : Hid (∀ yz, Below wr.heap.size wr yz → KRow yz .i64 aw (ctN f2 n0 n2) cw f0) := Lib.hid (fun yz hb => ho.out.2.1.krow.below hb)
                  have BB := Lib.hid (BB.out.go ho.out.1.1)
                  obtain ⟨qq, hqq⟩ : ∃ q, ctN f2 n0 n2 = q := ⟨_, rfl⟩
                  rw [hqq] at hcl KW
                  have HQQ := Lib.hid hqq
                  have hlw := (KW.out _ (Below.refl _ _)).len
                  have hlt2 := (KT.out _ (Below.refl _ _)).len
                  clear ho hlt hq MK KI
                  rw [hqq]
                  clear hqq
                  by_cases e1 : qq = 1
                  · have d1 : (((qq : Nat) : Int) == 1) = true := beq_iff_eq.2 (by omega)
                    clear e1
                    go_wp2_with fail
                    go_at_call 7
                    (with_reducible refine (AW.out _).mono ?_)
                    rintro e w9 ⟨rfl, hb9⟩
                    have HE := Lib.hid (BB.out.go hb9).below
                    clear hb9
                    go_wp2
                    go_ret
                    exact ⟨rfl, HE.out⟩
                  · have d1 : (((qq : Nat) : Int) == 1) = false := beq_eq_false_iff_ne.2 (by omega)
                    clear e1
                    by_cases e2 : n2 = 1
                    · have d2 : (((n2 : Nat) : Int) == 1) = true := beq_iff_eq.2 (by omega)
                      clear e2
                      go_wp2_with fail
                      go_at_call 7
                      (with_reducible refine (AW.out _).mono ?_)
                      rintro e w9 ⟨rfl, hb9⟩
                      have HE := Lib.hid (BB.out.go hb9).below
                      clear hb9
                      go_wp2
                      go_ret
                      exact ⟨rfl, HE.out⟩
                    · have d2 : (((n2 : Nat) : Int) == 1) = false := beq_eq_false_iff_ne.2 (by omega)
                      clear e2
                      have IT := Lib.hid (fun wz (h : KRow wz .i64 at1 n2 ct PP) => ITA.out at1 ct wz h)
                      have IW := Lib.hid (fun wz (h : KRow wz .i64 aw qq cw f0) => IWA.out qq aw cw wz (by have := HQQ.out; have := ctN_le f2 n0 n2; omega) h)
                      have PI := Lib.hid (fun wz (h : KRow wz .i64 aw qq cw f0) => PIA.out qq aw cw wz (by have := HQQ.out; have := ctN_le f2 n0 n2; omega) h)
                      have EX := Lib.hid (EXA.out qq HQQ.out)
                      have CP := Lib.hid (CPA.out qq HQQ.out)
                      have SO := Lib.hid (SOA.out qq (by have := HQQ.out; have := ctN_le f2 n0 n2; omega))
                      obtain ⟨y5, hy5⟩ : ∃ y5, y5 = wr := ⟨_, rfl⟩
                      subst hy5
                      go_wp2_with fail
                      go_at_call 16
                      (refine (IT.out _ (KT.out _ (Below.refl _ _))).mono ?_)
                      rintro e wa ⟨xa1, rfl, ha1, hba⟩
                      have B9 := Lib.hid (((Bag.start y5).go hba).add (fun _ _ hb q => LArr.below q hb) ha1)
                      clear ha1 hba
                      go_wp2_with fail
                      go_at_call 16
                      (refine (IW.out _ (KW.out _ B9.out.below)).mono ?_)
                      rintro e wb ⟨xb1, rfl, hb1, hbb⟩
                      have B9 := Lib.hid ((B9.out.go hbb).add (fun _ _ hb q => LArr.below q hb) hb1)
                      clear hb1 hbb
                      go_wp2_with fail
                      go_at_call 15
                      (refine (EX.out _ _ _ B9.out.now.2.1 B9.out.now.1).mono ?_)
                      rintro e W7 ⟨x7, rfl, h7, hb7⟩
                      have HB7 := Lib.hid (B9.out.go hb7).below
                      have HA7 := Lib.hid h7
                      obtain ⟨n7, m7, d7, u7, v7, y7, hx7, _⟩ := Arr.form h7
                      have hx7 : _ = (arrC false 0 (dm (fun _ => (n2 : Int)) 1) n7 m7 d7 u7 v7 y7) := hx7
                      subst hx7
                      clear h7 hb7 B9
                      have B9 := Lib.hid (((Bag.fresh HB7.out).arr HA7.out).newRow (arrC false 0 (dm (fun _ => (n2 : Int)) 1) n7 m7 d7 u7 v7 y7) 32)
                      unfold arrC
                      go_wp2_with fail
                      have hWW := B9.out.below
                      unfold arrC at hWW
                      unfold arrC at B9
                      generalize hW : (W7.alloc (.cells _ 32)) = Y7 at *
                      clear hW
                      have BB := Lib.hid (BB.out.go hWW)
                      have KT := Lib.hid (fun yz hb => KT.out yz (hWW.trans (Below.mono hb hWW.size)))
                      have KW := Lib.hid (fun yz hb => KW.out yz (hWW.trans (Below.mono hb hWW.size)))
                      have RW7 : Hid (∀ yz, Below Y7.heap.size Y7 yz → Row yz W7.heap.size 32 (arrC false 0 (dm (fun _ => (n2 : Int)) 1) n7 m7 d7 u7 v7 y7)) := Lib.hid (fun yz hb => Row.below B9.out.now.1 hb)
                      have A7 : Hid (∀ yz, Below Y7.heap.size Y7 yz → LArr yz (arrC false 0 (dm (fun _ => (n2 : Int)) 1) n7 m7 d7 u7 v7 y7) n2 GG) := Lib.hid (fun yz hb => Arr.below B9.out.now.2.1 hb)
                      have SZ7 : Hid (IsA (arrC false 0 (dm (fun _ => (n2 : Int)) 1) n7 m7 d7 u7 v7 y7)) := Lib.hid ⟨_, _, _, _, _, _, _, _, _, rfl⟩
                      clear hWW B9 HB7 HA7
                      generalize (arrC false 0 (dm (fun _ => (n2 : Int)) 1) n7 m7 d7 u7 v7 y7) = X7 at RW7 A7 SZ7
                      refine wp_region_inv2 ⟨(fun j => ([[153], [154], [155], [156], [152], [157], [158], [25], [25], [26]] : List (List Nat)).getD j []), (fun j => ([[], [0], [], [0, 1, 2], [0, 1, 2, 3], [0, 1, 2, 3, 4], [0, 1, 2, 3, 4], [], [0, 1, 2, 3, 4, 5, 7], [0, 1, 2, 3, 4, 5, 6, 7, 8]] : List (List Nat)).getD j []), [7]⟩ (fun jj vv yy => match jj with | 0 => vv = [some (.slice at1 n2 ct)] | 1 => ∃ (x1 : Array Value), vv = [some (.agg x1)] ∧ LArr yy x1 n2 PP | 2 => vv = [some (.agg X7)] | 3 => ∃ (x3 : Array Value), vv = [some (.tuple #[.agg x3, .int .i64 0])] ∧ LArr yy x3 qq f0 ∧ IsA x3 | 4 => ∃ (x3 : Array Value), vv = [some (.tuple #[.agg x3, .int .i64 0])] ∧ LArr yy x3 qq f0 ∧ IsA x3 | 5 => ∃ (x3 : Array Value), vv = [some (.agg x3)] ∧ LArr yy x3 qq f0 ∧ IsA x3 | 6 => vv = [some (.int .i64 0)] | 7 => ∃ (k7 : Nat), ∃ (z7 : Array Value), vv = [some (.pointer (some ⟨k7, 0, none⟩))] ∧ Row yy k7 32 z7 ∧ IsA z7 ∧ Y7.heap.size ≤ k7 | 8 => ∃ (k7 : Nat), ∃ (x3 : Array Value), vv = [some (.pointer (some ⟨k7, 0, none⟩))] ∧ Row yy k7 32 x3 ∧ LArr yy x3 qq f0 ∧ IsA x3 | 9 => vv = [some (.int .i64 0)] | _ => True) (Bag Y7 (fun _ => True)) (by kernel_rfl) (by kernel_rfl) (by kernel_rfl) (Bag.start Y7).drew ?_ ?_ ?_
                      · intro jj vv yw yw2 hb h
                        match jj, h with
                        | 0, h => exact h
                        | 1, ⟨x1, e1, g1_0⟩ => exact Exists.intro x1 (And.intro e1 (g1_0.below hb))
                        | 2, h => exact h
                        | 3, ⟨x3, e3, g3_0, g3_1⟩ => exact Exists.intro x3 (And.intro e3 (And.intro (g3_0.below hb) g3_1))
                        | 4, ⟨x3, e4, g4_0, g4_1⟩ => exact Exists.intro x3 (And.intro e4 (And.intro (g4_0.below hb) g4_1))
                        | 5, ⟨x3, e5, g5_0, g5_1⟩ => exact Exists.intro x3 (And.intro e5 (And.intro (g5_0.below hb) g5_1))
                        | 6, h => exact h
                        | 7, ⟨k7, z7, e7, g7_0, g7_1, g7_2⟩ => exact Exists.intro k7 (Exists.intro z7 (And.intro e7 (And.intro (g7_0.below hb) (And.intro g7_1 g7_2))))
                        | 8, ⟨k7, x3, e8, g8_0, g8_1, g8_2⟩ => exact Exists.intro k7 (Exists.intro x3 (And.intro e8 (And.intro (g8_0.below hb) (And.intro (g8_1.below hb) g8_2))))
                        | 9, h => exact h
                        | _ + 10, h => exact h
                      · intro ac yw hsz hdf hold hB hp
                        obtain ⟨kd, xd, es, rs, ms, zs⟩ := hp 8 (by decide)
                        have t25 : ac.tmps[25]? = some (.pointer (some ⟨kd, 0, none⟩)) := (List.cons.inj es).1
                        have t26 : ac.tmps[26]? = some (.int .i64 0) := (List.cons.inj (hp 9 (by decide))).1
                        have t24 : ac.tmps[24]? = some (.int .i64 0) := hold 24 (by kernel_rfl)
                        have t9 : ac.tmps[9]? = some (.slice aw qq cw) := hold 9 (by kernel_rfl)
                        have KW := Lib.hid (fun yz hb => KW.out yz (hB.below.trans (Below.mono hb hB.below.size)))
                        have RWd := Lib.hid (fun yz (hb : Below yw.heap.size yw yz) => Row.below rs hb)
                        have Ad := Lib.hid (fun yz (hb : Below yw.heap.size yw yz) => LArr.below ms hb)
                        have SZd := Lib.hid zs
                        have BB := Lib.hid (BB.out.go hB.below)
                        clear hold hp es rs ms zs hB
                        obtain ⟨TU, hTU⟩ : ∃ TU : Nat → Value, ∀ i, (ac.tmps[i]?).getD undef = TU i := ⟨_, fun _ => rfl⟩
                        have f9 := (hTU 9).symm.trans (congrArg (fun x => Option.getD x undef) t9)
                        have f24 := (hTU 24).symm.trans (congrArg (fun x => Option.getD x undef) t24)
                        have f25 := (hTU 25).symm.trans (congrArg (fun x => Option.getD x undef) t25)
                        have f26 := (hTU 26).symm.trans (congrArg (fun x => Option.getD x undef) t26)
                        have hac := act_eq (n := 171) hsz TU hTU
                        rw [show ((List.range 171).map TU).toArray = #[TU 0, TU 1, TU 2, TU 3, TU 4, TU 5, TU 6, TU 7, TU 8, TU 9, TU 10, TU 11, TU 12, TU 13, TU 14, TU 15, TU 16, TU 17, TU 18, TU 19, TU 20, TU 21, TU 22, TU 23, TU 24, TU 25, TU 26, TU 27, TU 28, TU 29, TU 30, TU 31, TU 32, TU 33, TU 34, TU 35, TU 36, TU 37, TU 38, TU 39, TU 40, TU 41, TU 42, TU 43, TU 44, TU 45, TU 46, TU 47, TU 48, TU 49, TU 50, TU 51, TU 52, TU 53, TU 54, TU 55, TU 56, TU 57, TU 58, TU 59, TU 60, TU 61, TU 62, TU 63, TU 64, TU 65, TU 66, TU 67, TU 68, TU 69, TU 70, TU 71, TU 72, TU 73, TU 74, TU 75, TU 76, TU 77, TU 78, TU 79, TU 80, TU 81, TU 82, TU 83, TU 84, TU 85, TU 86, TU 87, TU 88, TU 89, TU 90, TU 91, TU 92, TU 93, TU 94, TU 95, TU 96, TU 97, TU 98, TU 99, TU 100, TU 101, TU 102, TU 103, TU 104, TU 105, TU 106, TU 107, TU 108, TU 109, TU 110, TU 111, TU 112, TU 113, TU 114, TU 115, TU 116, TU 117, TU 118, TU 119, TU 120, TU 121, TU 122, TU 123, TU 124, TU 125, TU 126, TU 127, TU 128, TU 129, TU 130, TU 131, TU 132, TU 133, TU 134, TU 135, TU 136, TU 137, TU 138, TU 139, TU 140, TU 141, TU 142, TU 143, TU 144, TU 145, TU 146, TU 147, TU 148, TU 149, TU 150, TU 151, TU 152, TU 153, TU 154, TU 155, TU 156, TU 157, TU 158, TU 159, TU 160, TU 161, TU 162, TU 163, TU 164, TU 165, TU 166, TU 167, TU 168, TU 169, TU 170] from rfl, f9, f24, f25, f26, hdf] at hac
                        simp only [Option.getD_some] at hac
                        subst hac
                        clear hTU f9 f24 f25 f26
                        go_wp2_with fail
                        generalize yw = Y8 at *
                        refine wp_region_inv2 ⟨(fun j => ([[159], [160], [161], [162], [163], [164], [165], [166], [167], [168], [169], [170], [6]] : List (List Nat)).getD j []), (fun j => ([[], [0], [0, 1], [0, 1, 2], [0, 1, 2], [0, 1, 2], [0, 1, 2, 5], [0, 1, 2, 3, 4, 5, 6], [0, 1, 2, 3, 4, 5, 6, 7], [0, 1, 2, 3, 4, 5, 6, 7, 8], [0, 1, 2, 3, 4, 5, 6, 7, 8, 9], [0, 1, 2, 3, 4, 5, 6, 7, 8, 9, 10], [0, 1, 2, 3, 4, 5, 6, 7, 8, 9, 10, 11]] : List (List Nat)).getD j []), []⟩ (fun jj vv yy => match jj with | 0 => vv = [some (.int .i64 0)] | 1 => vv = [some (.bool true)] | 2 => vv = [some (.bool true)] | 3 => vv = [some (.agg xd)] | 4 => vv = [some (.int .i64 0)] | 5 => vv = [some (.slice aw qq cw)] | 6 => ∃ (x6 : Array Value), vv = [some (.agg x6)] ∧ PlF yy x6 qq f0 | 7 => vv = [some (.bool true)] | 8 => vv = [some (.bool true)] | 9 => vv = [some (.bool true)] | 10 => vv = [some (.bool true)] | 11 => vv = [some (.bool true)] | 12 => vv = [some (.bool true)] | _ => True) (Bag Y8 (fun _ => True)) (by kernel_rfl) (by kernel_rfl) (by kernel_rfl) (Bag.start Y8).drew ?_ ?_ ?_
                        · intro jj vv yw yw2 hb h
                          match jj, h with
                          | 0, h => exact h
                          | 1, h => exact h
                          | 2, h => exact h
                          | 3, h => exact h
                          | 4, h => exact h
                          | 5, h => exact h
                          | 6, ⟨x6, e6, g6_0⟩ => exact Exists.intro x6 (And.intro e6 (g6_0.below hb))
                          | 7, h => exact h
                          | 8, h => exact h
                          | 9, h => exact h
                          | 10, h => exact h
                          | 11, h => exact h
                          | 12, h => exact h
                          | _ + 13, h => exact h
                        · intro ac yw hsz hdf hold hB hp
                          have t6 : ac.tmps[6]? = some (.bool true) := (List.cons.inj (hp 12 (by decide))).1
                          have HE := Lib.hid (BB.out.go hB.below).below
                          clear hold hp
                          obtain ⟨TV, hTV⟩ : ∃ TV : Nat → Value, ∀ i, (ac.tmps[i]?).getD undef = TV i := ⟨_, fun _ => rfl⟩
                          have f6 := (hTV 6).symm.trans (congrArg (fun x => Option.getD x undef) t6)
                          have hac := act_eq (n := 171) hsz TV hTV
                          rw [show ((List.range 171).map TV).toArray = #[TV 0, TV 1, TV 2, TV 3, TV 4, TV 5, TV 6, TV 7, TV 8, TV 9, TV 10, TV 11, TV 12, TV 13, TV 14, TV 15, TV 16, TV 17, TV 18, TV 19, TV 20, TV 21, TV 22, TV 23, TV 24, TV 25, TV 26, TV 27, TV 28, TV 29, TV 30, TV 31, TV 32, TV 33, TV 34, TV 35, TV 36, TV 37, TV 38, TV 39, TV 40, TV 41, TV 42, TV 43, TV 44, TV 45, TV 46, TV 47, TV 48, TV 49, TV 50, TV 51, TV 52, TV 53, TV 54, TV 55, TV 56, TV 57, TV 58, TV 59, TV 60, TV 61, TV 62, TV 63, TV 64, TV 65, TV 66, TV 67, TV 68, TV 69, TV 70, TV 71, TV 72, TV 73, TV 74, TV 75, TV 76, TV 77, TV 78, TV 79, TV 80, TV 81, TV 82, TV 83, TV 84, TV 85, TV 86, TV 87, TV 88, TV 89, TV 90, TV 91, TV 92, TV 93, TV 94, TV 95, TV 96, TV 97, TV 98, TV 99, TV 100, TV 101, TV 102, TV 103, TV 104, TV 105, TV 106, TV 107, TV 108, TV 109, TV 110, TV 111, TV 112, TV 113, TV 114, TV 115, TV 116, TV 117, TV 118, TV 119, TV 120, TV 121, TV 122, TV 123, TV 124, TV 125, TV 126, TV 127, TV 128, TV 129, TV 130, TV 131, TV 132, TV 133, TV 134, TV 135, TV 136, TV 137, TV 138, TV 139, TV 140, TV 141, TV 142, TV 143, TV 144, TV 145, TV 146, TV 147, TV 148, TV 149, TV 150, TV 151, TV 152, TV 153, TV 154, TV 155, TV 156, TV 157, TV 158, TV 159, TV 160, TV 161, TV 162, TV 163, TV 164, TV 165, TV 166, TV 167, TV 168, TV 169, TV 170] from rfl, f6, hdf] at hac
                          simp only [Option.getD_some] at hac
                          subst hac
                          clear hTV f6
                          go_wp2
                          go_ret
                          exact ⟨rfl, HE.out⟩
                        refine Stps2.cons (o := _) ?_ ?_
                        · intro ac yw hsz hold hB hp K hK
                          have t24 : ac.tmps[24]? = some (.int .i64 0) := hold 24 (by kernel_rfl)
                          clear hold hp hsz
                          go_simp
                          exact hK.out _ _ ⟨hB, rfl, Nat.le_refl _, .inl (Below.refl _ _), fun h => absurd h (by decide)⟩
                        refine Stps2.cons (o := _) ?_ ?_
                        · intro ac yw hsz hold hB hp K hK
                          have e0 := hp 0 (by decide)
                          have t159 : ac.tmps[159]? = some (.int .i64 0) := (List.cons.inj e0).1
                          clear hold hp hsz e0
                          go_simp
                          exact hK.out _ _ ⟨hB, rfl, Nat.le_refl _, .inl (Below.refl _ _), fun h => absurd h (by decide)⟩
                        refine Stps2.cons (o := _) ?_ ?_
                        · intro ac yw hsz hold hB hp K hK
                          have e1 := hp 1 (by decide)
                          have t160 : ac.tmps[160]? = some (.bool true) := (List.cons.inj e1).1
                          clear hold hp hsz e1
                          go_simp
                          exact hK.out _ _ ⟨hB, rfl, Nat.le_refl _, .inl (Below.refl _ _), fun h => absurd h (by decide)⟩
                        refine Stps2.cons (o := _) ?_ ?_
                        · intro ac yw hsz hold hB hp K hK
                          have t161 : ac.tmps[161]? = some (.bool true) := (List.cons.inj (hp 2 (by decide))).1
                          rw [if_pos (wanted_pos rfl rfl t161)]
                          have t25 : ac.tmps[25]? = some (.pointer (some ⟨kd, 0, none⟩)) := hold 25 (by kernel_rfl)
                          clear hold hp hsz
                          refine ld8 25 rfl (kd) (xd) t25 (RWd.out _ hB.below) (SZd.out.size) ?_
                          exact hK.out _ _ ⟨hB, rfl, Nat.le_refl _, .inl (Below.refl _ _), fun h => absurd h (by decide)⟩
                        refine Stps2.cons (o := _) ?_ ?_
                        · intro ac yw hsz hold hB hp K hK
                          have t161 : ac.tmps[161]? = some (.bool true) := (List.cons.inj (hp 2 (by decide))).1
                          rw [if_pos (wanted_pos rfl rfl t161)]
                          have t26 : ac.tmps[26]? = some (.int .i64 0) := hold 26 (by kernel_rfl)
                          clear hold hp hsz
                          go_simp
                          exact hK.out _ _ ⟨hB, rfl, Nat.le_refl _, .inl (Below.refl _ _), fun h => absurd h (by decide)⟩
                        refine Stps2.cons (o := _) ?_ ?_
                        · intro ac yw hsz hold hB hp K hK
                          have t161 : ac.tmps[161]? = some (.bool true) := (List.cons.inj (hp 2 (by decide))).1
                          rw [if_pos (wanted_pos rfl rfl t161)]
                          have t9 : ac.tmps[9]? = some (.slice aw qq cw) := hold 9 (by kernel_rfl)
                          clear hold hp hsz
                          go_simp
                          exact hK.out _ _ ⟨hB, rfl, Nat.le_refl _, .inl (Below.refl _ _), fun h => absurd h (by decide)⟩
                        refine Stps2.cons (o := _) ?_ ?_
                        · intro ac yw hsz hold hB hp K hK
                          have t161 : ac.tmps[161]? = some (.bool true) := (List.cons.inj (hp 2 (by decide))).1
                          rw [if_pos (wanted_pos rfl rfl t161)]
                          have e5 := hp 5 (by decide)
                          have t164 : ac.tmps[164]? = some (.slice aw qq cw) := (List.cons.inj e5).1
                          clear hold hp hsz e5
                          go_simp
                          (go_at_call 20; (with_reducible refine (PI.out _ (KW.out _ hB.below)).mono ?_); rintro e wz ⟨x6, rfl, h6_0, hbz⟩)
                          exact hK.out _ _ ⟨hB.go hbz, Exists.intro x6 (And.intro rfl h6_0), hbz.size, .inl hbz, fun h => absurd h (by decide)⟩
                        refine Stps2.cons (o := _) ?_ ?_
                        · intro ac yw hsz hold hB hp K hK
                          have t161 : ac.tmps[161]? = some (.bool true) := (List.cons.inj (hp 2 (by decide))).1
                          rw [if_pos (wanted_pos rfl rfl t161)]
                          have e3 := hp 3 (by decide)
                          have t162 : ac.tmps[162]? = some (.agg xd) := (List.cons.inj e3).1
                          have e4 := hp 4 (by decide)
                          have t163 : ac.tmps[163]? = some (.int .i64 0) := (List.cons.inj e4).1
                          obtain ⟨x6_6, e6, g6_0⟩ := hp 6 (by decide)
                          have t165 : ac.tmps[165]? = some (.agg x6_6) := (List.cons.inj e6).1
                          clear hold hp hsz e3 e4 e6
                          go_simp
                          (go_at_call 12; (with_reducible refine (SO.out _ _ _ (Ad.out _ hB.below) g6_0).mono ?_); rintro e wz ⟨rfl, hbz⟩)
                          exact hK.out _ _ ⟨hB.go hbz, rfl, hbz.size, .inl hbz, fun h => absurd h (by decide)⟩
                        refine Stps2.cons (o := _) ?_ ?_
                        · intro ac yw hsz hold hB hp K hK
                          have e2 := hp 2 (by decide)
                          have t161 : ac.tmps[161]? = some (.bool true) := (List.cons.inj e2).1
                          have e7 := hp 7 (by decide)
                          have t166 : ac.tmps[166]? = some (.bool true) := (List.cons.inj e7).1
                          clear hold hp hsz e2 e7
                          go_simp
                          exact hK.out _ _ ⟨hB, rfl, Nat.le_refl _, .inl (Below.refl _ _), fun h => absurd h (by decide)⟩
                        refine Stps2.cons (o := _) ?_ ?_
                        · intro ac yw hsz hold hB hp K hK
                          have e8 := hp 8 (by decide)
                          have t167 : ac.tmps[167]? = some (.bool true) := (List.cons.inj e8).1
                          clear hold hp hsz e8
                          go_simp
                          exact hK.out _ _ ⟨hB, rfl, Nat.le_refl _, .inl (Below.refl _ _), fun h => absurd h (by decide)⟩
                        refine Stps2.cons (o := _) ?_ ?_
                        · intro ac yw hsz hold hB hp K hK
                          have t168 : ac.tmps[168]? = some (.bool true) := (List.cons.inj (hp 9 (by decide))).1
                          rw [if_pos (wanted_pos rfl rfl t168)]
                          clear hold hp hsz
                          go_simp
                          (go_at_call 7; (with_reducible refine (AW.out _).mono ?_); rintro e wz ⟨rfl, hbz⟩)
                          exact hK.out _ _ ⟨hB.go hbz, rfl, hbz.size, .inl hbz, fun h => absurd h (by decide)⟩
                        refine Stps2.cons (o := _) ?_ ?_
                        · intro ac yw hsz hold hB hp K hK
                          have e9 := hp 9 (by decide)
                          have t168 : ac.tmps[168]? = some (.bool true) := (List.cons.inj e9).1
                          have e10 := hp 10 (by decide)
                          have t169 : ac.tmps[169]? = some (.bool true) := (List.cons.inj e10).1
                          clear hold hp hsz e9 e10
                          go_simp
                          exact hK.out _ _ ⟨hB, rfl, Nat.le_refl _, .inl (Below.refl _ _), fun h => absurd h (by decide)⟩
                        refine Stps2.cons (o := _) ?_ ?_
                        · intro ac yw hsz hold hB hp K hK
                          have e11 := hp 11 (by decide)
                          have t170 : ac.tmps[170]? = some (.bool true) := (List.cons.inj e11).1
                          clear hold hp hsz e11
                          go_simp
                          exact hK.out _ _ ⟨hB, rfl, Nat.le_refl _, .inl (Below.refl _ _), fun h => absurd h (by decide)⟩
                        exact Stps2.nil _
                      refine Stps2.cons (o := _) ?_ ?_
                      · intro ac yw hsz hold hB hp K hK
                        have t8 : ac.tmps[8]? = some (.slice at1 n2 ct) := hold 8 (by kernel_rfl)
                        clear hold hp hsz
                        go_simp
                        exact hK.out _ _ ⟨hB, rfl, Nat.le_refl _, .inl (Below.refl _ _), fun h => absurd h (by decide)⟩
                      refine Stps2.cons (o := _) ?_ ?_
                      · intro ac yw hsz hold hB hp K hK
                        have e0 := hp 0 (by decide)
                        have t153 : ac.tmps[153]? = some (.slice at1 n2 ct) := (List.cons.inj e0).1
                        clear hold hp hsz e0
                        go_simp
                        (go_at_call 16; (refine (IT.out _ (KT.out _ hB.below)).mono ?_); rintro e wz ⟨x1, rfl, h1_0, hbz⟩)
                        exact hK.out _ _ ⟨hB.go hbz, Exists.intro x1 (And.intro rfl h1_0), hbz.size, .inl hbz, fun h => absurd h (by decide)⟩
                      refine Stps2.cons (o := _) ?_ ?_
                      · intro ac yw hsz hold hB hp K hK
                        have t23 : ac.tmps[23]? = some (.pointer (some ⟨W7.heap.size, 0, none⟩)) := hold 23 (by kernel_rfl)
                        clear hold hp hsz
                        rw [if_pos (by rfl)]
                        refine ld8 23 rfl (W7.heap.size) (X7) t23 (RW7.out _ hB.below) (SZ7.out.size) ?_
                        exact hK.out _ _ ⟨hB, rfl, Nat.le_refl _, .inl (Below.refl _ _), fun h => absurd h (by decide)⟩
                      refine Stps2.cons (o := _) ?_ ?_
                      · intro ac yw hsz hold hB hp K hK
                        obtain ⟨x1_1, e1, g1_0⟩ := hp 1 (by decide)
                        have t154 : ac.tmps[154]? = some (.agg x1_1) := (List.cons.inj e1).1
                        have e2 := hp 2 (by decide)
                        have t155 : ac.tmps[155]? = some (.agg X7) := (List.cons.inj e2).1
                        clear hold hp hsz e1 e2
                        go_simp
                        (go_at_call 13; (refine (CP.out _ _ _ g1_0 (A7.out _ hB.below)).mono ?_); rintro e wz ⟨x3, rfl, h3_0, hbz⟩)
                        exact hK.out _ _ ⟨hB.go hbz, Exists.intro x3 (And.intro rfl (And.intro h3_0 h3_0.isA)), hbz.size, .inl hbz, fun h => absurd h (by decide)⟩
                      refine Stps2.cons (o := _) ?_ ?_
                      · intro ac yw hsz hold hB hp K hK
                        obtain ⟨x3_3, e3, g3_0, g3_1⟩ := hp 3 (by decide)
                        have t156 : ac.tmps[156]? = some (.tuple #[.agg x3_3, .int .i64 0]) := (List.cons.inj e3).1
                        clear hold hp hsz e3
                        go_simp
                        exact hK.out _ _ ⟨hB, Exists.intro x3_3 (And.intro rfl (And.intro g3_0 g3_1)), Nat.le_refl _, .inl (Below.refl _ _), fun h => absurd h (by decide)⟩
                      refine Stps2.cons (o := _) ?_ ?_
                      · intro ac yw hsz hold hB hp K hK
                        obtain ⟨x3_4, e4, g4_0, g4_1⟩ := hp 4 (by decide)
                        have t152 : ac.tmps[152]? = some (.tuple #[.agg x3_4, .int .i64 0]) := (List.cons.inj e4).1
                        clear hold hp hsz e4
                        go_simp
                        exact hK.out _ _ ⟨hB, Exists.intro x3_4 (And.intro rfl (And.intro g4_0 g4_1)), Nat.le_refl _, .inl (Below.refl _ _), fun h => absurd h (by decide)⟩
                      refine Stps2.cons (o := _) ?_ ?_
                      · intro ac yw hsz hold hB hp K hK
                        obtain ⟨x3_4, e4, g4_0, g4_1⟩ := hp 4 (by decide)
                        have t152 : ac.tmps[152]? = some (.tuple #[.agg x3_4, .int .i64 0]) := (List.cons.inj e4).1
                        clear hold hp hsz e4
                        go_simp
                        exact hK.out _ _ ⟨hB, rfl, Nat.le_refl _, .inl (Below.refl _ _), fun h => absurd h (by decide)⟩
                      refine Stps2.cons (o := _) ?_ ?_
                      · intro ac yw hsz hold hB hp K hK
                        clear hold hp hsz
                        have hbz : Below yw.heap.size yw (yw.alloc (.cells zerC 32)) ∧ yw.heap.size < (yw.alloc (.cells zerC 32)).heap.size := ⟨(Below.refl _ _).alloc (Nat.le_refl _) _, by rw [World.size_alloc]; omega⟩
                        go_simp
                        exact hK.out _ _ ⟨hB.alloc _, Exists.intro yw.heap.size (Exists.intro zerC (And.intro rfl (And.intro ((Row.new yw _ zerC)) (And.intro IsA.zer hB.below.size)))), Nat.le_of_lt hbz.2, .inl hbz.1, fun _ => ⟨_, rfl, Nat.le_refl _, hbz.2⟩⟩
                      refine Stps2.cons (o := _) ?_ ?_
                      · intro ac yw hsz hold hB hp K hK
                        obtain ⟨k7_7, z7_7, e7, g7_0, g7_1, g7_2⟩ := hp 7 (by decide)
                        have t25 : ac.tmps[25]? = some (.pointer (some ⟨k7_7, 0, none⟩)) := (List.cons.inj e7).1
                        obtain ⟨x3_5, e5, g5_0, g5_1⟩ := hp 5 (by decide)
                        have t157 : ac.tmps[157]? = some (.agg x3_5) := (List.cons.inj e5).1
                        clear hold hp hsz e7 e5
                        rw [if_pos (by rfl)]
                        have HB : Bag _ (fun _ => True) (yw.setRow k7_7 x3_5) := ⟨below_put hB.below g7_2 _, fun _ _ _ _ => trivial, trivial⟩
                        refine st8 25 157 rfl k7_7 x3_5 t25 t157 _ z7_7 g7_0 g7_1 g5_1 ?_
                        refine hK.out undef _ ⟨HB, Exists.intro k7_7 (Exists.intro x3_5 (And.intro (congrArg (fun x => [x]) t25) (And.intro (g7_0.put _) (And.intro (Arr.store g5_0 g7_0 g7_1 _) g5_1)))), by simp [World.setRow], .inr ?_, fun h => absurd h (by decide)⟩
                        intro jj hj hap h
                        match jj, h with
                        | 0, h => exact h
                        | 1, ⟨x1, e1, g1_0⟩ =>
                          exact Exists.intro x1 (And.intro e1 (Arr.store g1_0 g7_0 g7_1 _))
                        | 2, h => exact h
                        | 3, ⟨x3, e3, g3_0, g3_1⟩ =>
                          exact Exists.intro x3 (And.intro e3 (And.intro (Arr.store g3_0 g7_0 g7_1 _) g3_1))
                        | 4, ⟨x3, e4, g4_0, g4_1⟩ =>
                          exact Exists.intro x3 (And.intro e4 (And.intro (Arr.store g4_0 g7_0 g7_1 _) g4_1))
                        | 5, ⟨x3, e5, g5_0, g5_1⟩ =>
                          exact Exists.intro x3 (And.intro e5 (And.intro (Arr.store g5_0 g7_0 g7_1 _) g5_1))
                        | 6, h => exact h
                        | 7, ⟨k7, z7, e7, g7_0, g7_1, g7_2⟩ =>
                          have e9 : k7 = k7_7 := by have := (List.cons.inj e7).1.symm.trans t25; cases this; rfl
                          subst e9
                          exact Exists.intro _ (Exists.intro _ (And.intro e7 (And.intro (g7_0.put _) (And.intro g5_1 g7_2))))
                        | 8, _ => exact absurd rfl hj
                        | 9, h => exact h
                        | _ + 10, h => exact h
                      refine Stps2.cons (o := _) ?_ ?_
                      · intro ac yw hsz hold hB hp K hK
                        have e6 := hp 6 (by decide)
                        have t158 : ac.tmps[158]? = some (.int .i64 0) := (List.cons.inj e6).1
                        clear hold hp hsz e6
                        go_simp
                        exact hK.out _ _ ⟨hB, rfl, Nat.le_refl _, .inl (Below.refl _ _), fun h => absurd h (by decide)⟩
                      exact Stps2.nil _
            refine Stps2.cons (o := _) ?_ ?_
            · intro ac yw hsz hold hB hp K hK
              have t11 : ac.tmps[11]? = some (.int .i64 (kk : Nat)) := hold 11 (by kernel_rfl)
              clear hold hp hsz
              go_simp
              exact hK.out _ _ ⟨hB, rfl, Nat.le_refl _, .inl (Below.refl _ _), fun h => absurd h (by decide)⟩
            refine Stps2.cons (o := _) ?_ ?_
            · intro ac yw hsz hold hB hp K hK
              have e0 := hp 0 (by decide)
              have t66 : ac.tmps[66]? = some (.int .i64 (kk : Nat)) := (List.cons.inj e0).1
              clear hold hp hsz e0
              go_simp
              (go_at_call 17; (with_reducible refine (IK.out _).mono ?_); rintro e wz ⟨x1, rfl, h1_0, hbz⟩)
              exact hK.out _ _ ⟨hB.go hbz, Exists.intro x1 (And.intro rfl h1_0), hbz.size, .inl hbz, fun h => absurd h (by decide)⟩
            refine Stps2.cons (o := _) ?_ ?_
            · intro ac yw hsz hold hB hp K hK
              have t12 : ac.tmps[12]? = some (.pointer (some ⟨W1.heap.size, 0, none⟩)) := hold 12 (by kernel_rfl)
              clear hold hp hsz
              rw [if_pos (by rfl)]
              refine ld8 12 rfl (W1.heap.size) (X1) t12 (RW1.out _ hB.below) (SZ1.out.size) ?_
              exact hK.out _ _ ⟨hB, rfl, Nat.le_refl _, .inl (Below.refl _ _), fun h => absurd h (by decide)⟩
            refine Stps2.cons (o := _) ?_ ?_
            · intro ac yw hsz hold hB hp K hK
              obtain ⟨x1_1, e1, g1_0⟩ := hp 1 (by decide)
              have t67 : ac.tmps[67]? = some (.agg x1_1) := (List.cons.inj e1).1
              have e2 := hp 2 (by decide)
              have t68 : ac.tmps[68]? = some (.agg X1) := (List.cons.inj e2).1
              clear hold hp hsz e1 e2
              go_simp
              (go_at_call 11; (refine (DR.out _ _ _ g1_0 (A1.out _ hB.below)).mono ?_); rintro e wz ⟨x3, rfl, h3_0, hbz⟩)
              exact hK.out _ _ ⟨hB.go hbz, Exists.intro x3 (And.intro rfl (And.intro h3_0 h3_0.isA)), hbz.size, .inl hbz, fun h => absurd h (by decide)⟩
            refine Stps2.cons (o := _) ?_ ?_
            · intro ac yw hsz hold hB hp K hK
              obtain ⟨x3_3, e3, g3_0, g3_1⟩ := hp 3 (by decide)
              have t69 : ac.tmps[69]? = some (.tuple #[.agg x3_3, .int .i64 0]) := (List.cons.inj e3).1
              clear hold hp hsz e3
              go_simp
              exact hK.out _ _ ⟨hB, Exists.intro x3_3 (And.intro rfl (And.intro g3_0 g3_1)), Nat.le_refl _, .inl (Below.refl _ _), fun h => absurd h (by decide)⟩
            refine Stps2.cons (o := _) ?_ ?_
            · intro ac yw hsz hold hB hp K hK
              obtain ⟨x3_4, e4, g4_0, g4_1⟩ := hp 4 (by decide)
              have t65 : ac.tmps[65]? = some (.tuple #[.agg x3_4, .int .i64 0]) := (List.cons.inj e4).1
              clear hold hp hsz e4
              go_simp
              exact hK.out _ _ ⟨hB, Exists.intro x3_4 (And.intro rfl (And.intro g4_0 g4_1)), Nat.le_refl _, .inl (Below.refl _ _), fun h => absurd h (by decide)⟩
            refine Stps2.cons (o := _) ?_ ?_
            · intro ac yw hsz hold hB hp K hK
              obtain ⟨x3_4, e4, g4_0, g4_1⟩ := hp 4 (by decide)
              have t65 : ac.tmps[65]? = some (.tuple #[.agg x3_4, .int .i64 0]) := (List.cons.inj e4).1
              clear hold hp hsz e4
              go_simp
              exact hK.out _ _ ⟨hB, rfl, Nat.le_refl _, .inl (Below.refl _ _), fun h => absurd h (by decide)⟩
            refine Stps2.cons (o := _) ?_ ?_
            · intro ac yw hsz hold hB hp K hK
              clear hold hp hsz
              have hbz : Below yw.heap.size yw (yw.alloc (.cells zerC 32)) ∧ yw.heap.size < (yw.alloc (.cells zerC 32)).heap.size := ⟨(Below.refl _ _).alloc (Nat.le_refl _) _, by rw [World.size_alloc]; omega⟩
              go_simp
              exact hK.out _ _ ⟨hB.alloc _, Exists.intro yw.heap.size (Exists.intro zerC (And.intro rfl (And.intro ((Row.new yw _ zerC)) (And.intro IsA.zer hB.below.size)))), Nat.le_of_lt hbz.2, .inl hbz.1, fun _ => ⟨_, rfl, Nat.le_refl _, hbz.2⟩⟩
            refine Stps2.cons (o := _) ?_ ?_
            · intro ac yw hsz hold hB hp K hK
              obtain ⟨k7_7, z7_7, e7, g7_0, g7_1, g7_2⟩ := hp 7 (by decide)
              have t15 : ac.tmps[15]? = some (.pointer (some ⟨k7_7, 0, none⟩)) := (List.cons.inj e7).1
              obtain ⟨x3_5, e5, g5_0, g5_1⟩ := hp 5 (by decide)
              have t70 : ac.tmps[70]? = some (.agg x3_5) := (List.cons.inj e5).1
              clear hold hp hsz e7 e5
              rw [if_pos (by rfl)]
              have HB : Bag _ (fun _ => True) (yw.setRow k7_7 x3_5) := ⟨below_put hB.below g7_2 _, fun _ _ _ _ => trivial, trivial⟩
              refine st8 15 70 rfl k7_7 x3_5 t15 t70 _ z7_7 g7_0 g7_1 g5_1 ?_
              refine hK.out undef _ ⟨HB, Exists.intro k7_7 (Exists.intro x3_5 (And.intro (congrArg (fun x => [x]) t15) (And.intro (g7_0.put _) (And.intro (Arr.store g5_0 g7_0 g7_1 _) g5_1)))), by simp [World.setRow], .inr ?_, fun h => absurd h (by decide)⟩
              intro jj hj hap h
              match jj, h with
              | 0, h => exact h
              | 1, ⟨x1, e1, g1_0⟩ =>
                exact Exists.intro x1 (And.intro e1 (g1_0.store g7_0 g7_1 _))
              | 2, h => exact h
              | 3, ⟨x3, e3, g3_0, g3_1⟩ =>
                exact Exists.intro x3 (And.intro e3 (And.intro (Arr.store g3_0 g7_0 g7_1 _) g3_1))
              | 4, ⟨x3, e4, g4_0, g4_1⟩ =>
                exact Exists.intro x3 (And.intro e4 (And.intro (Arr.store g4_0 g7_0 g7_1 _) g4_1))
              | 5, ⟨x3, e5, g5_0, g5_1⟩ =>
                exact Exists.intro x3 (And.intro e5 (And.intro (Arr.store g5_0 g7_0 g7_1 _) g5_1))
              | 6, h => exact h
              | 7, ⟨k7, z7, e7, g7_0, g7_1, g7_2⟩ =>
                have e9 : k7 = k7_7 := by have := (List.cons.inj e7).1.symm.trans t15; cases this; rfl
                subst e9
                exact Exists.intro _ (Exists.intro _ (And.intro e7 (And.intro (g7_0.put _) (And.intro g5_1 g7_2))))
              | 8, _ => exact absurd rfl hj
              | 9, h => exact h
              | _ + 10, h => exact h
            refine Stps2.cons (o := _) ?_ ?_
            · intro ac yw hsz hold hB hp K hK
              have e6 := hp 6 (by decide)
              have t71 : ac.tmps[71]? = some (.int .i64 0) := (List.cons.inj e6).1
              clear hold hp hsz e6
              go_simp
              exact hK.out _ _ ⟨hB, rfl, Nat.le_refl _, .inl (Below.refl _ _), fun h => absurd h (by decide)⟩
            exact Stps2.nil _
          refine Stps2.cons (o := _) ?_ ?_
          · intro ac yw hsz hold hB hp K hK
            have t11 : ac.tmps[11]? = some (.int .i64 (kk : Nat)) := hold 11 (by kernel_rfl)
            clear hold hp hsz
            go_simp
            exact hK.out _ _ ⟨hB, rfl, Nat.le_refl _, .inl (Below.refl _ _), fun h => absurd h (by decide)⟩
          refine Stps2.cons (o := _) ?_ ?_
          · intro ac yw hsz hold hB hp K hK
            have e0 := hp 0 (by decide)
            have t59 : ac.tmps[59]? = some (.int .i64 (kk : Nat)) := (List.cons.inj e0).1
            clear hold hp hsz e0
            go_simp
            (go_at_call 17; (with_reducible refine (IK.out _).mono ?_); rintro e wz ⟨x1, rfl, h1_0, hbz⟩)
            exact hK.out _ _ ⟨hB.go hbz, Exists.intro x1 (And.intro rfl h1_0), hbz.size, .inl hbz, fun h => absurd h (by decide)⟩
          refine Stps2.cons (o := _) ?_ ?_
          · intro ac yw hsz hold hB hp K hK
            have t12 : ac.tmps[12]? = some (.pointer (some ⟨W1.heap.size, 0, none⟩)) := hold 12 (by kernel_rfl)
            clear hold hp hsz
            rw [if_pos (by rfl)]
            refine ld8 12 rfl (W1.heap.size) (X1) t12 (RW1.out _ hB.below) (SZ1.out.size) ?_
            exact hK.out _ _ ⟨hB, rfl, Nat.le_refl _, .inl (Below.refl _ _), fun h => absurd h (by decide)⟩
          refine Stps2.cons (o := _) ?_ ?_
          · intro ac yw hsz hold hB hp K hK
            obtain ⟨x1_1, e1, g1_0⟩ := hp 1 (by decide)
            have t60 : ac.tmps[60]? = some (.agg x1_1) := (List.cons.inj e1).1
            have e2 := hp 2 (by decide)
            have t61 : ac.tmps[61]? = some (.agg X1) := (List.cons.inj e2).1
            clear hold hp hsz e1 e2
            go_simp
            (go_at_call 8; (refine (TK.out _ _ _ g1_0 (A1.out _ hB.below)).mono ?_); rintro e wz ⟨x3, rfl, h3_0, hbz⟩)
            exact hK.out _ _ ⟨hB.go hbz, Exists.intro x3 (And.intro rfl (And.intro h3_0 h3_0.isA)), hbz.size, .inl hbz, fun h => absurd h (by decide)⟩
          refine Stps2.cons (o := _) ?_ ?_
          · intro ac yw hsz hold hB hp K hK
            obtain ⟨x3_3, e3, g3_0, g3_1⟩ := hp 3 (by decide)
            have t62 : ac.tmps[62]? = some (.tuple #[.agg x3_3, .int .i64 0]) := (List.cons.inj e3).1
            clear hold hp hsz e3
            go_simp
            exact hK.out _ _ ⟨hB, Exists.intro x3_3 (And.intro rfl (And.intro g3_0 g3_1)), Nat.le_refl _, .inl (Below.refl _ _), fun h => absurd h (by decide)⟩
          refine Stps2.cons (o := _) ?_ ?_
          · intro ac yw hsz hold hB hp K hK
            obtain ⟨x3_4, e4, g4_0, g4_1⟩ := hp 4 (by decide)
            have t58 : ac.tmps[58]? = some (.tuple #[.agg x3_4, .int .i64 0]) := (List.cons.inj e4).1
            clear hold hp hsz e4
            go_simp
            exact hK.out _ _ ⟨hB, Exists.intro x3_4 (And.intro rfl (And.intro g4_0 g4_1)), Nat.le_refl _, .inl (Below.refl _ _), fun h => absurd h (by decide)⟩
          refine Stps2.cons (o := _) ?_ ?_
          · intro ac yw hsz hold hB hp K hK
            obtain ⟨x3_4, e4, g4_0, g4_1⟩ := hp 4 (by decide)
            have t58 : ac.tmps[58]? = some (.tuple #[.agg x3_4, .int .i64 0]) := (List.cons.inj e4).1
            clear hold hp hsz e4
            go_simp
            exact hK.out _ _ ⟨hB, rfl, Nat.le_refl _, .inl (Below.refl _ _), fun h => absurd h (by decide)⟩
          refine Stps2.cons (o := _) ?_ ?_
          · intro ac yw hsz hold hB hp K hK
            clear hold hp hsz
            have hbz : Below yw.heap.size yw (yw.alloc (.cells zerC 32)) ∧ yw.heap.size < (yw.alloc (.cells zerC 32)).heap.size := ⟨(Below.refl _ _).alloc (Nat.le_refl _) _, by rw [World.size_alloc]; omega⟩
            go_simp
            exact hK.out _ _ ⟨hB.alloc _, Exists.intro yw.heap.size (Exists.intro zerC (And.intro rfl (And.intro ((Row.new yw _ zerC)) (And.intro IsA.zer hB.below.size)))), Nat.le_of_lt hbz.2, .inl hbz.1, fun _ => ⟨_, rfl, Nat.le_refl _, hbz.2⟩⟩
          refine Stps2.cons (o := _) ?_ ?_
          · intro ac yw hsz hold hB hp K hK
            obtain ⟨k7_7, z7_7, e7, g7_0, g7_1, g7_2⟩ := hp 7 (by decide)
            have t13 : ac.tmps[13]? = some (.pointer (some ⟨k7_7, 0, none⟩)) := (List.cons.inj e7).1
            obtain ⟨x3_5, e5, g5_0, g5_1⟩ := hp 5 (by decide)
            have t63 : ac.tmps[63]? = some (.agg x3_5) := (List.cons.inj e5).1
            clear hold hp hsz e7 e5
            rw [if_pos (by rfl)]
            have HB : Bag _ (fun _ => True) (yw.setRow k7_7 x3_5) := ⟨below_put hB.below g7_2 _, fun _ _ _ _ => trivial, trivial⟩
            refine st8 13 63 rfl k7_7 x3_5 t13 t63 _ z7_7 g7_0 g7_1 g5_1 ?_
            refine hK.out undef _ ⟨HB, Exists.intro k7_7 (Exists.intro x3_5 (And.intro (congrArg (fun x => [x]) t13) (And.intro (g7_0.put _) (And.intro (Arr.store g5_0 g7_0 g7_1 _) g5_1)))), by simp [World.setRow], .inr ?_, fun h => absurd h (by decide)⟩
            intro jj hj hap h
            match jj, h with
            | 0, h => exact h
            | 1, ⟨x1, e1, g1_0⟩ =>
              exact Exists.intro x1 (And.intro e1 (g1_0.store g7_0 g7_1 _))
            | 2, h => exact h
            | 3, ⟨x3, e3, g3_0, g3_1⟩ =>
              exact Exists.intro x3 (And.intro e3 (And.intro (Arr.store g3_0 g7_0 g7_1 _) g3_1))
            | 4, ⟨x3, e4, g4_0, g4_1⟩ =>
              exact Exists.intro x3 (And.intro e4 (And.intro (Arr.store g4_0 g7_0 g7_1 _) g4_1))
            | 5, ⟨x3, e5, g5_0, g5_1⟩ =>
              exact Exists.intro x3 (And.intro e5 (And.intro (Arr.store g5_0 g7_0 g7_1 _) g5_1))
            | 6, h => exact h
            | 7, ⟨k7, z7, e7, g7_0, g7_1, g7_2⟩ =>
              have e9 : k7 = k7_7 := by have := (List.cons.inj e7).1.symm.trans t13; cases this; rfl
              subst e9
              exact Exists.intro _ (Exists.intro _ (And.intro e7 (And.intro (g7_0.put _) (And.intro g5_1 g7_2))))
            | 8, _ => exact absurd rfl hj
            | 9, h => exact h
            | _ + 10, h => exact h
          refine Stps2.cons (o := _) ?_ ?_
          · intro ac yw hsz hold hB hp K hK
            have e6 := hp 6 (by decide)
            have t64 : ac.tmps[64]? = some (.int .i64 0) := (List.cons.inj e6).1
            clear hold hp hsz e6
            go_simp
            exact hK.out _ _ ⟨hB, rfl, Nat.le_refl _, .inl (Below.refl _ _), fun h => absurd h (by decide)⟩
          exact Stps2.nil _

theorem own : ownKnob Tryz.prog.godebug = none := by kernel_rfl
theorem laidOut : laidOutB Tryz.prog = true := by kernel_rfl

set_option maxRecDepth 100000 in
theorem cutBack_lifted (os : Os) (started : os.Started) (H : Type) (enc : TypeId × Value → H) :
    ReturnsInHanded {} Tryz.checked os 5 .any (fun w args => (Rows.cutBackSpec.pre enc Tryz.prog Tryz.f5 [] false w args ∧ laidMetH Tryz.prog Rows.cutBackRow.laid w) ∧ sizedMet enc Tryz.prog Tryz.f5 (OpenSpec.ofChange Rows.cutBackSpec) false w args)
      (Rows.cutBackSpec.post enc Tryz.prog Tryz.f5 false true false false) := by
  refine returnsInHanded_of_change_and (C := Tryz.checked) (X := fun w _ => laidMetH Tryz.prog Rows.cutBackRow.laid w) (fun _ _ _ hh h => h.of_heap hh) own started (by kernel_rfl) Tryz.func5
    (ChangeSpec.witness_shaped (enc := enc) (C := Tryz.checked) (os := os) (X := fun w _ => laidMetH Tryz.prog Rows.cutBackRow.laid w) false (World.laidAll Tryz.prog os Rows.cutBackRow.laid) #[.slice none 0 0, .int .u8 0, .slice none 0 0] 8 (World.laidAll_os _ _ _)
      (World.shaped_of_ZipB (by kernel_rfl) (by kernel_rfl)) (by kernel_rfl) (by kernel_rfl) (by kernel_rfl)
      (by rw [MakeChecks.laidMetH_plain _ _ _ (by kernel_rfl)]; exact laidMet_laidAll _ (by kernel_rfl) (by kernel_rfl))) ?_
  intro W base args ds gs before hval0 hW _ _ _ _
  have hval : ∀ (j : Nat) t v, Tryz.f5.params[j]? = some t → args[j]? = some v → Value.okWide Tryz.prog W .any base t v := hval0
  have hW' := hW
  obtain ⟨p, q, hA0, hV, rfl, _, _⟩ := hW
  have hA : DataW.TrodAll enc Tryz.prog W 0 (fun _ => true) true Tryz.f5.params.toList args.toList ds p := hA0
  rw [Tryz.params5] at hA hval
  obtain ⟨v0, v1, v2, d0, d1, d2, p0, p1, p2, rfl, rfl, rfl, h0, h1, h2⟩ := trodAll_three hA
  obtain ⟨rfl, rfl⟩ := trodVars_none hV
  obtain ⟨a0, n0, c0, f0, rfl, k0, w0⟩ := open_krow (ki := .i8) Tryz.underlying44 Tryz.underlying46 (by kernel_rfl) (hval 0 44 v0 rfl rfl) h0
  obtain ⟨x1, rfl, rfl, rfl, w1⟩ := open_int Tryz.underlying5 (hval 1 5 v1 rfl rfl) h1
  have b1 : 0 ≤ x1 ∧ x1 ≤ 255 := by simpa [Lit.wf, IntKind.min, IntKind.max, IntKind.signed, IntKind.bits] using w1
  obtain ⟨x1, rfl⟩ : ∃ X : Nat, x1 = X := ⟨x1.toNat, by omega⟩
  obtain ⟨a2, n2, c2, f2, rfl, k2⟩ := open_brow Tryz.underlying45 Tryz.underlying4 (by kernel_rfl) (hval 2 45 v2 rfl rfl) h2
  have hlt : ∀ y ∈ p0 ++ ([] ++ (p2)), y.block < W.heap.size := fun y hy => by simpa using hW'.lt y (by simpa using hy)
  simp only [List.append_nil] at hW'
  refine (cutBack_walk a0 n0 c0 f0 x1 a2 n2 c2 f2 W k0 (in8_of w0) (by omega) k2).mono fun e W' ⟨he, hb⟩ => ?_
  subst he
  exact ⟨_, rfl, _, _, _, [], _, [], hW', trodAll_mk1 (shut_bool Tryz.underlying4 _), trodAll_mk3 (Below.trod laidOut (by kernel_rfl) (of_decide_eq_true (by kernel_rfl)) h0 hb (fun y hy => hlt y (by simp [hy]))) (shut_int Tryz.underlying5 w1) (Below.trod laidOut (by kernel_rfl) (of_decide_eq_true (by kernel_rfl)) h2 hb (fun y hy => hlt y (by simp [hy]))), rfl, hb.frame _, fun h => by cases h⟩

theorem cutBack_row : Rows.CutBackSaid :=
  OpenClaim.holds_of_wide 5 Tryz.f5 rfl rfl rfl rfl rfl rfl rfl ⟨rfl, rfl, rfl, rfl, rfl⟩ rfl rfl rfl rfl rfl (by kernel_rfl) Tryz.func5 (by kernel_rfl)
    (of_decide_eq_true (by kernel_rfl)) (by unfold Func.isWrapper; first | (rw [if_pos (by decide +kernel)]; kernel_rfl) | (rw [if_neg (by decide +kernel)]; exact ⟨rfl, rfl⟩))
    (fun os started H enc _ => cutBack_lifted os started H enc)

theorem cutBack_holds : Rows.CutBackCardSaid :=
  Claim7.holds_tied_plain_at .later [] [.data, .pinned] true Rows.cutBackCard.stood.harness Rows.cutBackCard.stood.looks cutBack_row (fun _ h => by cases h) (by kernel_rfl) (fun _ h => by cases h) cutBack_row_tie rfl ⟨rfl, rfl⟩ (by kernel_rfl) rfl
    (fun f fn hf hfn => by
      obtain rfl : f = 5 := Option.some.inj ((show Tryz.prog.funcNamed "typeball/typeballlaw09.CutBack" = some 5 by kernel_rfl).symm.trans hf) |>.symm
      obtain rfl : fn = Tryz.f5 := (Option.some.inj (Tryz.func5.symm.trans hfn)).symm
      exact ⟨by kernel_rfl, fun j t ht => by
        rw [Tryz.params5] at ht
        have hm : t ∈ [44, 5, 45] := by simpa using Array.mem_of_getElem? ht
        have hall : ([44, 5, 45].all fun u => !Tryz.prog.wantsStandIn u) = true := by kernel_rfl
        exact (show Tryz.prog.wantsStandIn t = false by simpa using List.all_eq_true.1 hall t hm)⟩)
    (by kernel_rfl)
#print axioms cutBack_holds
end Go.Proofs.YtpmcbnliogjknaaGreatDoor
