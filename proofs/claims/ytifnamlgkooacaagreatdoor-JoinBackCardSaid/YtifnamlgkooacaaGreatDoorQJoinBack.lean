/-
  Proved: the law JoinBack of package typeballlaw10 returns true for every three lists of small integers, under the row's own conditions.
-/
import Derived.Test.YtifnamlgkooacaaGreatDoorQ1
import Derived.Test.YtifnamlgkooacaaGreatDoorQ2
import Derived.Test.YtifnamlgkooacaaGreatDoorQ3
import Derived.Test.YtifnamlgkooacaaGreatDoorQ4
import Derived.Test.YtifnamlgkooacaaGreatDoorQ5
import Derived.Test.YtifnamlgkooacaaGreatDoorQ6
import Derived.Test.YtifnamlgkooacaaGreatDoorQ7
import Derived.Test.YtifnamlgkooacaaGreatDoorQ8
import Derived.Test.YtifnamlgkooacaaGreatDoorQ9
import Derived.SizedLaws
import Derived.Test.YtifnamlgkooacaaGreatDoorCards
import Derived.Test.YtifnamlgkooacaaGreatDoorTie
import Derived.LaidMore
import Derived.Lay
import Derived.SevenTiedAt
import Derived.Stop.Joined
namespace Go.Proofs.YtifnamlgkooacaaGreatDoor
open Go.ChangeShapes Go.WideShapes Go.ChangeAt Go.RowKit Go.WideMaps Go.WideElems
attribute [local go_sem ↓] Go.wp_at_zero Go.wp_at_succ

/-- A plain list of these numbers. -/
def PlK (w : World) (p : Array Value) (n : Nat) (f : Nat → Int) : Prop := ∀ T, Pln w p (fun _ => (n : Int)) 1 false n T (fun j => rB (f j)) (fun j => rS (f j)) (fun _ => str (dec 1))
theorem PlK.below {w w' : World} {p : Array Value} {n : Nat} {f : Nat → Int} (h : PlK w p n f) (hb : Below w.heap.size w w') : PlK w' p n f := fun T => (h T).below hb

set_option linter.unusedSimpArgs false in
set_option linter.unusedVariables false in
set_option maxHeartbeats 6400000 in
set_option maxRecDepth 100000 in
theorem joinBack_walk (a0 : Option Addr) (n0 c0 : Nat) (f0 : Nat → Int) (a1 : Option Addr) (n1 c1 : Nat) (f1 : Nat → Int) (a2 : Option Addr) (n2 c2 : Nat) (f2 : Nat → Int) (w : World) (k0 : KRow w .i8 a0 n0 c0 f0) (hf0 : ∀ j, j < n0 → -128 ≤ f0 j ∧ f0 j ≤ 127) (k1 : KRow w .i8 a1 n1 c1 f1) (hf1 : ∀ j, j < n1 → -128 ≤ f1 j ∧ f1 j ≤ 127) (k2 : KRow w .i8 a2 n2 c2 f2) (hf2 : ∀ j, j < n2 → -128 ≤ f2 j ∧ f2 j ≤ 127) :
    Calls Tryz.prog 5 #[.slice a0 n0 c0, .slice a1 n1 c1, .slice a2 n2 c2] w fun e w' => e = .returned (.bool true) ∧ Below w.heap.size w w' := by
  have AW := Lib.hid (fun wz => awake10_any wz)
  have BB0 := Lib.hid ((((Bag.start w).krow k0).krow k1).krow k2)
  have BB := Lib.hid (show Bag w (fun y => True ∧ True ∧ KRow y .i8 a0 n0 c0 f0 ∧ KRow y .i8 a1 n1 c1 f1 ∧ KRow y .i8 a2 n2 c2 f2 ∧ True) w from ⟨BB0.out.below, fun a b hb ⟨_, _, q1, q2, q3, _⟩ => ⟨trivial, trivial, q1.below hb, q2.below hb, q3.below hb, trivial⟩, trivial, trivial, k0, k1, k2, trivial⟩)
  have hl0 := k0.len
  have hl1 := k1.len
  have hl2 := k2.len
  have HF0 := Lib.hid hf0
  have HF1 := Lib.hid hf1
  have HF2 := Lib.hid hf2
  clear k0 k1 k2 hf0 hf1 hf2 BB0
  by_cases h1 : (200 : Int) < n0
  · go_enter Tryz.func5, Tryz.ntmps5
    go_wp2_with fail
    go_at_call 7
    (with_reducible refine (AW.out _).mono ?_)
    rintro e w9 ⟨rfl, hb9⟩
    have HE := Lib.hid (BB.out.go hb9).below
    clear hb9
    go_wp2
    go_ret
    exact ⟨rfl, HE.out⟩
  · by_cases h2 : (200 : Int) < n1
    · go_enter Tryz.func5, Tryz.ntmps5
      go_wp2_with fail
      go_at_call 7
      (with_reducible refine (AW.out _).mono ?_)
      rintro e w9 ⟨rfl, hb9⟩
      have HE := Lib.hid (BB.out.go hb9).below
      clear hb9
      go_wp2
      go_ret
      exact ⟨rfl, HE.out⟩
    · by_cases h3 : (200 : Int) < n2
      · go_enter Tryz.func5, Tryz.ntmps5
        go_wp2_with fail
        go_at_call 7
        (with_reducible refine (AW.out _).mono ?_)
        rintro e w9 ⟨rfl, hb9⟩
        have HE := Lib.hid (BB.out.go hb9).below
        clear hb9
        go_wp2
        go_ret
        exact ⟨rfl, HE.out⟩
      · have in0 : In64 f0 n0 := fun j hj => by have := HF0.out j hj; omega
        have in1 : In64 f1 n1 := fun j hj => by have := HF1.out j hj; omega
        have in2 : In64 f2 n2 := fun j hj => by have := HF2.out j hj; omega
        obtain ⟨N01, hN01⟩ : ∃ n, n0 + n1 = n := ⟨_, rfl⟩
        obtain ⟨F01, hF01⟩ : ∃ f, app f0 n0 f1 = f := ⟨_, rfl⟩
        obtain ⟨N12, hN12⟩ : ∃ n, n1 + n2 = n := ⟨_, rfl⟩
        obtain ⟨F12, hF12⟩ : ∃ f, app f1 n1 f2 = f := ⟨_, rfl⟩
        obtain ⟨NN, hNN⟩ : ∃ n, N01 + n2 = n := ⟨_, rfl⟩
        obtain ⟨FF, hFF⟩ : ∃ f, app F01 N01 f2 = f := ⟨_, rfl⟩
        have IX : Hid (∀ a c wz, KRow wz .i64 a n0 c f0 → Calls Tryz.prog 14 #[.slice a n0 c] wz fun e w' => ∃ x, e = .returned (.agg x) ∧ LArr w' x n0 f0 ∧ Below wz.heap.size wz w') := Lib.hid (fun a c wz h => (ints8_any a n0 c f0 wz h in0 (by omega)).mono (by
          rintro e w' ⟨x, he, h, hb⟩
          exact ⟨x, he, h _, hb⟩))
        have IY : Hid (∀ a c wz, KRow wz .i64 a n1 c f1 → Calls Tryz.prog 14 #[.slice a n1 c] wz fun e w' => ∃ x, e = .returned (.agg x) ∧ LArr w' x n1 f1 ∧ Below wz.heap.size wz w') := Lib.hid (fun a c wz h => (ints8_any a n1 c f1 wz h in1 (by omega)).mono (by
          rintro e w' ⟨x, he, h, hb⟩
          exact ⟨x, he, h _, hb⟩))
        have IZ : Hid (∀ a c wz, KRow wz .i64 a n2 c f2 → Calls Tryz.prog 14 #[.slice a n2 c] wz fun e w' => ∃ x, e = .returned (.agg x) ∧ LArr w' x n2 f2 ∧ Below wz.heap.size wz w') := Lib.hid (fun a c wz h => (ints8_any a n2 c f2 wz h in2 (by omega)).mono (by
          rintro e w' ⟨x, he, h, hb⟩
          exact ⟨x, he, h _, hb⟩))
        have IK : Hid (∀ wz, Calls Tryz.prog 16 #[.int .i64 (n0 : Nat)] wz fun e w' => ∃ x, e = .returned (.agg x) ∧ Arr w' x (fun _ => 0) 0 false 1 (fun _ => 0) (fun _ => (n0 : Int)) (fun _ => 1) ∧ Below wz.heap.size wz w') := Lib.hid (fun wz => (int8_any (n0 : Int) wz (by omega)).mono (by
          rintro e w' ⟨x, he, h, hb⟩
          exact ⟨x, he, h _, hb⟩))
        have C1 : Hid (∀ x y wz, LArr wz x n0 f0 → LArr wz y n1 f1 → Calls Tryz.prog 8 #[.agg x, .agg y, .int .i64 (-1)] wz fun e w' => ∃ z, e = .returned (.tuple #[.agg z, .int .i64 0]) ∧ LArr w' z N01 F01 ∧ Below wz.heap.size wz w') := Lib.hid (fun x y wz h h2 => by
          rw [← hN01, ← hF01]
          exact catL x y n0 n1 f0 f1 (-1) (.inl rfl) wz h h2 (by omega))
        have C2 : Hid (∀ x y wz, LArr wz x N01 F01 → LArr wz y n2 f2 → Calls Tryz.prog 8 #[.agg x, .agg y, .int .i64 (-1)] wz fun e w' => ∃ z, e = .returned (.tuple #[.agg z, .int .i64 0]) ∧ LArr w' z NN FF ∧ Below wz.heap.size wz w') := Lib.hid (fun x y wz h h2 => by
          rw [← hNN, ← hFF]
          exact catL x y N01 n2 F01 f2 (-1) (.inl rfl) wz h h2 (by omega))
        have C3 : Hid (∀ x y wz, LArr wz x n1 f1 → LArr wz y n2 f2 → Calls Tryz.prog 8 #[.agg x, .agg y, .int .i64 0] wz fun e w' => ∃ z, e = .returned (.tuple #[.agg z, .int .i64 0]) ∧ LArr w' z N12 F12 ∧ Below wz.heap.size wz w') := Lib.hid (fun x y wz h h2 => by
          rw [← hN12, ← hF12]
          exact catL x y n1 n2 f1 f2 0 (.inr rfl) wz h h2 (by omega))
        have C4 : Hid (∀ x y wz, LArr wz x n0 f0 → LArr wz y N12 F12 → Calls Tryz.prog 8 #[.agg x, .agg y, .int .i64 0] wz fun e w' => ∃ z, e = .returned (.tuple #[.agg z, .int .i64 0]) ∧ LArr w' z NN FF ∧ Below wz.heap.size wz w') := Lib.hid (fun x y wz h h2 => (catL x y n0 N12 f0 F12 0 (.inr rfl) wz h h2 (by omega)).mono (by
          rintro e w' ⟨z, he, hz, hb⟩
          refine ⟨z, he, ?_, hb⟩
          rw [show n0 + N12 = NN by omega] at hz
          refine hz.on (fun j hj => ?_)
          rw [← hFF, ← hF01, ← hF12]
          unfold app
          by_cases q1 : j < n0
          · rw [if_pos q1, if_pos (by omega), if_pos q1]
          · rw [if_neg q1]
            by_cases q2 : j < N01
            · rw [if_pos (by omega), if_pos q2, if_neg q1]
            · rw [if_neg (by omega), if_neg q2]; congr 1; omega))
        have TK : Hid (∀ x0 x wz, Arr wz x0 (fun _ => 0) 0 false 1 (fun _ => 0) (fun _ => (n0 : Int)) (fun _ => 1) → LArr wz x N01 F01 → Calls Tryz.prog 15 #[.agg x0, .agg x] wz fun e w' => ∃ z, e = .returned (.tuple #[.agg z, .int .i64 0]) ∧ LArr w' z n0 f0 ∧ Below wz.heap.size wz w') := Lib.hid (fun x0 x wz h0 h => (takeL x0 x n0 N01 F01 wz h0 h (by omega) (by omega)).mono (by
          rintro e w' ⟨z, he, hz, hb⟩
          exact ⟨z, he, hz.on (fun j hj => by rw [← hF01]; unfold app; rw [if_pos hj]), hb⟩))
        have DR : Hid (∀ x0 x wz, Arr wz x0 (fun _ => 0) 0 false 1 (fun _ => 0) (fun _ => (n0 : Int)) (fun _ => 1) → LArr wz x N01 F01 → Calls Tryz.prog 17 #[.agg x0, .agg x] wz fun e w' => ∃ z, e = .returned (.tuple #[.agg z, .int .i64 0]) ∧ LArr w' z n1 f1 ∧ Below wz.heap.size wz w') := Lib.hid (fun x0 x wz h0 h => (dropL x0 x n0 N01 F01 wz h0 h (by omega) (by omega)).mono (by
          rintro e w' ⟨z, he, hz, hb⟩
          refine ⟨z, he, ?_, hb⟩
          rw [show N01 - n0 = n1 by omega] at hz
          exact hz.on (fun j hj => by
            rw [← hF01]
            show app f0 n0 f1 (n0 + j) = f1 j
            unfold app
            rw [if_neg (by omega), Nat.add_sub_cancel_left])))
        have hFb : ∀ j, j < NN → (FF j).natAbs ≤ 1000 := fun j hj => by
          rw [← hFF, ← hF01]
          unfold app
          by_cases q2 : j < N01
          · rw [if_pos q2]
            by_cases q1 : j < n0
            · rw [if_pos q1]; have := HF0.out j q1; omega
            · rw [if_neg q1]; have := HF1.out (j - n0) (by omega); omega
          · rw [if_neg q2]; have := HF2.out (j - N01) (by omega); omega
        have SM := Lib.hid (fun x y wz (h : LArr wz x NN FF) (h2 : LArr wz y NN FF) => sameL h h2 hFb)
        have LN : Hid (∀ x wz, LArr wz x NN FF → Calls Tryz.prog 19 #[.agg x] wz fun e w' => e = .returned (.int .i64 (NN : Nat)) ∧ Below wz.heap.size wz w') := Lib.hid (fun x wz h => len8_any x (fun _ => (NN : Int)) 1 false NN (fun _ => 0) FF (fun _ => 1) wz h)
        have PX : Hid (∀ a c wz, KRow wz .i64 a n0 c f0 → Calls Tryz.prog 20 #[.slice a n0 c] wz fun e w' => ∃ p, e = .returned (.agg p) ∧ PlK w' p n0 f0 ∧ Below wz.heap.size wz w') := Lib.hid (fun a c wz h => pints_any a n0 c f0 wz h in0 (by omega))
        have PY : Hid (∀ a c wz, KRow wz .i64 a n1 c f1 → Calls Tryz.prog 20 #[.slice a n1 c] wz fun e w' => ∃ p, e = .returned (.agg p) ∧ PlK w' p n1 f1 ∧ Below wz.heap.size wz w') := Lib.hid (fun a c wz h => pints_any a n1 c f1 wz h in1 (by omega))
        have SOX : Hid (∀ x p wz, LArr wz x n0 f0 → PlK wz p n0 f0 → Calls Tryz.prog 11 #[.agg x, .int .i64 0, .agg p, .int .i64 0] wz fun e w' => e = .returned (.bool true) ∧ Below wz.heap.size wz w') := Lib.hid (fun x p wz h hp => showsOkJ_any x p wz (shownL h hp (by omega) (fun j hj => by have := HF0.out j hj; omega)))
        have SOY : Hid (∀ x p wz, LArr wz x n1 f1 → PlK wz p n1 f1 → Calls Tryz.prog 11 #[.agg x, .int .i64 0, .agg p, .int .i64 0] wz fun e w' => e = .returned (.bool true) ∧ Below wz.heap.size wz w') := Lib.hid (fun x p wz h hp => showsOkJ_any x p wz (shownL h hp (by omega) (fun j hj => by have := HF1.out j hj; omega)))
        have wA := IntWalk.i64_in ((n0 : Int) + (n1 : Int)) (by omega)
        have wB := IntWalk.i64_in ((n0 : Int) + (n1 : Int) + (n2 : Int)) (by omega)
        have dN : ((NN : Int) != ((n0 : Int) + (n1 : Int) + (n2 : Int))) = false := by
          rw [show (n0 : Int) + (n1 : Int) + (n2 : Int) = (NN : Int) by omega]; exact bne_self_eq_false _
        clear hFb in0 in1 in2 hN01 hF01 hN12 hF12 hNN hFF
        go_enter Tryz.func5, Tryz.ntmps5
        go_wp2_with fail
        go_loopw [7, 10] (fun s i wr => ∃ (q : Nat) (a : Option Addr) (c : Nat), q ≤ n0 ∧ s = .slice a q c ∧ i = .int .i64 q ∧ Hid (OwnI w wr a q c f0)) (fun _ i _ => n0 - (intOf i).toNat)
        case atStart => exact ⟨0, none, 0, by omega, rfl, rfl, OwnI.nil _ _⟩
        case round =>
          obtain ⟨q, ai, ci, hq, rfl, rfl, ho⟩ := hrel
          have BW := Lib.hid (BB.out.go ho.out.1)
          by_cases hlt : q < n0
          · obtain ⟨b, off, hab, hb, hc⟩ := BW.out.now.2.2.1.get hlt
            cases hab
            have hq0 : (0 : Int) ≤ q := by omega
            have hq1 : (q : Int) < n0 := by omega
            obtain ⟨a', c', y3, hr3, ho'⟩ := app1_step ho.out (x := f0 q) rfl (by omega)
            have HO' := Lib.hid ho'
            have hf := HF0.out q hlt
            have w1 := IntWalk.i64_in (f0 q) (by omega)
            clear ho ho'
            generalize f0 q = fq at *
            go_wp2_with (at_builtin; refine Lib.wpList_append_run _ rfl _ _ _ _ rfl _ _ rfl rfl _ _ hr3 ?_)
            go_roundw
            case rel => exact ⟨q + 1, a', c', by omega, rfl, by go_num, HO'⟩
            case measure => simp [intOf]; omega
          · have hqm : q = n0 := by omega
            subst q
            obtain ⟨ax, hax⟩ : ∃ x, x = ai := ⟨_, rfl⟩
            obtain ⟨cx, hcx⟩ : ∃ x, x = ci := ⟨_, rfl⟩
            subst hax hcx
            have hlx := ho.out.krow.len
            have BB := Lib.hid (BW.out.krow ho.out.krow)
            obtain ⟨y1, hy1⟩ : ∃ y, y = wr := ⟨_, rfl⟩
            subst hy1
            clear ho hlt hq BW
            go_wp2_with fail
            go_loopw [8, 11] (fun s i wr => ∃ (q : Nat) (a : Option Addr) (c : Nat), q ≤ n1 ∧ s = .slice a q c ∧ i = .int .i64 q ∧ Hid (OwnI y1 wr a q c f1)) (fun _ i _ => n1 - (intOf i).toNat)
            case atStart => exact ⟨0, none, 0, by omega, rfl, rfl, OwnI.nil _ _⟩
            case round =>
              obtain ⟨q, ai, ci, hq, rfl, rfl, ho⟩ := hrel
              have BW := Lib.hid (BB.out.go ho.out.1)
              by_cases hlt : q < n1
              · obtain ⟨b, off, hab, hb, hc⟩ := BW.out.now.2.2.2.2.1.get hlt
                cases hab
                have hq0 : (0 : Int) ≤ q := by omega
                have hq1 : (q : Int) < n1 := by omega
                obtain ⟨a', c', y3, hr3, ho'⟩ := app1_step ho.out (x := f1 q) rfl (by omega)
                have HO' := Lib.hid ho'
                have hf := HF1.out q hlt
                have w1 := IntWalk.i64_in (f1 q) (by omega)
                clear ho ho'
                generalize f1 q = fq at *
                go_wp2_with (at_builtin; refine Lib.wpList_append_run _ rfl _ _ _ _ rfl _ _ rfl rfl _ _ hr3 ?_)
                go_roundw
                case rel => exact ⟨q + 1, a', c', by omega, rfl, by go_num, HO'⟩
                case measure => simp [intOf]; omega
              · have hqm : q = n1 := by omega
                subst q
                obtain ⟨ay, hay⟩ : ∃ x, x = ai := ⟨_, rfl⟩
                obtain ⟨cy, hcy⟩ : ∃ x, x = ci := ⟨_, rfl⟩
                subst hay hcy
                have hly := ho.out.krow.len
                have BB := Lib.hid (BW.out.krow ho.out.krow)
                obtain ⟨y2, hy2⟩ : ∃ y, y = wr := ⟨_, rfl⟩
                subst hy2
                clear ho hlt hq BW
                go_wp2_with fail
                go_loopw [9, 12] (fun s i wr => ∃ (q : Nat) (a : Option Addr) (c : Nat), q ≤ n2 ∧ s = .slice a q c ∧ i = .int .i64 q ∧ Hid (OwnI y2 wr a q c f2)) (fun _ i _ => n2 - (intOf i).toNat)
                case atStart => exact ⟨0, none, 0, by omega, rfl, rfl, OwnI.nil _ _⟩
                case round =>
                  obtain ⟨q, ai, ci, hq, rfl, rfl, ho⟩ := hrel
                  have BW := Lib.hid (BB.out.go ho.out.1)
                  by_cases hlt : q < n2
                  · obtain ⟨b, off, hab, hb, hc⟩ := BW.out.now.2.2.2.2.2.2.1.get hlt
                    cases hab
                    have hq0 : (0 : Int) ≤ q := by omega
                    have hq1 : (q : Int) < n2 := by omega
                    obtain ⟨a', c', y3, hr3, ho'⟩ := app1_step ho.out (x := f2 q) rfl (by omega)
                    have HO' := Lib.hid ho'
                    have hf := HF2.out q hlt
                    have w1 := IntWalk.i64_in (f2 q) (by omega)
                    clear ho ho'
                    generalize f2 q = fq at *
                    go_wp2_with (at_builtin; refine Lib.wpList_append_run _ rfl _ _ _ _ rfl _ _ rfl rfl _ _ hr3 ?_)
                    go_roundw
                    case rel => exact ⟨q + 1, a', c', by omega, rfl, by go_num, HO'⟩
                    case measure => simp [intOf]; omega
                  · have hqm : q = n2 := by omega
                    subst q
                    obtain ⟨az, haz⟩ : ∃ x, x = ai := ⟨_, rfl⟩
                    obtain ⟨cz, hcz⟩ : ∃ x, x = ci := ⟨_, rfl⟩
                    subst haz hcz
                    have hlz := ho.out.krow.len
                    have KZ : Hid (∀ yz, Below wr.heap.size wr yz → KRow yz .i64 az n2 cz f2) := Lib.hid (fun yz hb => ho.out.krow.below hb)
                    have KX : Hid (∀ yz, Below wr.heap.size wr yz → KRow yz .i64 ax n0 cx f0) := Lib.hid (fun yz hb => KRow.below BW.out.now.2.1 hb)
                    have KY : Hid (∀ yz, Below wr.heap.size wr yz → KRow yz .i64 ay n1 cy f1) := Lib.hid (fun yz hb => KRow.below BW.out.now.1 hb)
                    have BB := Lib.hid (Bag.fresh BW.out.below)
                    obtain ⟨y16, hy16⟩ : ∃ y, y = wr := ⟨_, rfl⟩
                    subst hy16
                    clear ho hlt hq BW
                    go_wp2_with fail
                    go_at_call 14
                    (refine (IX.out _ _ _ (KX.out _ (Below.refl _ _))).mono ?_)
                    rintro e wa ⟨xa0, rfl, ha1, hba⟩
                    have B9 := Lib.hid (((Bag.start y16).go hba).add (fun _ _ hb q => LArr.below q hb) ha1)
                    clear ha1 hba
                    go_wp2_with fail
                    go_at_call 14
                    (refine (IY.out _ _ _ (KY.out _ B9.out.below)).mono ?_)
                    rintro e wb ⟨xb0, rfl, hb1, hbb⟩
                    have B9 := Lib.hid ((B9.out.go hbb).add (fun _ _ hb q => LArr.below q hb) hb1)
                    clear hb1 hbb
                    go_wp2_with fail
                    go_at_call 8
                    (refine (C1.out _ _ _ B9.out.now.2.1 B9.out.now.1).mono ?_)
                    rintro e W13 ⟨x5, rfl, h1, hb1⟩
                    have HB1 := Lib.hid (B9.out.go hb1).below
                    have HA1 := Lib.hid h1
                    obtain ⟨n5, m5, d5, u5, v5, y5, hx1, _⟩ := Arr.form h1
                    have hx1 : _ = (arrC false 0 (dm (fun _ => (N01 : Int)) 1) n5 m5 d5 u5 v5 y5) := hx1
                    subst hx1
                    clear h1 hb1 B9
                    have B9 := Lib.hid (((Bag.fresh HB1.out).arr HA1.out).newRow (arrC false 0 (dm (fun _ => (N01 : Int)) 1) n5 m5 d5 u5 v5 y5) 32)
                    unfold arrC
                    go_wp2_with fail
                    have hWW := B9.out.below
                    unfold arrC at hWW
                    unfold arrC at B9
                    generalize hW : (W13.alloc (.cells _ 32)) = Y17 at *
                    clear hW
                    have KX := Lib.hid (fun yz hb => KX.out yz (hWW.trans (Below.mono hb hWW.size)))
                    have KY := Lib.hid (fun yz hb => KY.out yz (hWW.trans (Below.mono hb hWW.size)))
                    have KZ := Lib.hid (fun yz hb => KZ.out yz (hWW.trans (Below.mono hb hWW.size)))
                    have BB := Lib.hid (BB.out.go hWW)
                    have RWa : Hid (∀ yz, Below Y17.heap.size Y17 yz → Row yz W13.heap.size 32 (arrC false 0 (dm (fun _ => (N01 : Int)) 1) n5 m5 d5 u5 v5 y5)) := Lib.hid (fun yz hb => Row.below B9.out.now.1 hb)
                    have Aa : Hid (∀ yz, Below Y17.heap.size Y17 yz → LArr yz (arrC false 0 (dm (fun _ => (N01 : Int)) 1) n5 m5 d5 u5 v5 y5) N01 F01) := Lib.hid (fun yz hb => Arr.below B9.out.now.2.1 hb)
                    have SZa : Hid (IsA (arrC false 0 (dm (fun _ => (N01 : Int)) 1) n5 m5 d5 u5 v5 y5)) := Lib.hid ⟨_, _, _, _, _, _, _, _, _, rfl⟩
                    clear hWW B9 HB1 HA1
                    generalize W13.heap.size = k13 at *
                    generalize (arrC false 0 (dm (fun _ => (N01 : Int)) 1) n5 m5 d5 u5 v5 y5) = Xa at RWa Aa SZa
                    go_wp2_with fail
                    refine wp_region_inv2 ⟨(fun j => ([[90], [91], [92], [93], [89], [94], [95], [15], [15], [16]] : List (List Nat)).getD j []), (fun j => ([[], [], [1], [0, 1, 2], [0, 1, 2, 3], [0, 1, 2, 3, 4], [0, 1, 2, 3, 4], [], [0, 1, 2, 3, 4, 5, 7], [0, 1, 2, 3, 4, 5, 6, 7, 8]] : List (List Nat)).getD j []), [7]⟩ (fun jj vv yy => match jj with | 0 => vv = [some (.agg Xa)] | 1 => vv = [some (.slice az n2 cz)] | 2 => ∃ (x2 : Array Value), vv = [some (.agg x2)] ∧ LArr yy x2 n2 f2 | 3 => ∃ (x3 : Array Value), vv = [some (.tuple #[.agg x3, .int .i64 0])] ∧ LArr yy x3 NN FF ∧ IsA x3 | 4 => ∃ (x3 : Array Value), vv = [some (.tuple #[.agg x3, .int .i64 0])] ∧ LArr yy x3 NN FF ∧ IsA x3 | 5 => ∃ (x3 : Array Value), vv = [some (.agg x3)] ∧ LArr yy x3 NN FF ∧ IsA x3 | 6 => vv = [some (.int .i64 0)] | 7 => ∃ (k7 : Nat), ∃ (z7 : Array Value), vv = [some (.pointer (some ⟨k7, 0, none⟩))] ∧ Row yy k7 32 z7 ∧ IsA z7 ∧ Y17.heap.size ≤ k7 | 8 => ∃ (k7 : Nat), ∃ (x3 : Array Value), vv = [some (.pointer (some ⟨k7, 0, none⟩))] ∧ Row yy k7 32 x3 ∧ LArr yy x3 NN FF ∧ IsA x3 | 9 => vv = [some (.int .i64 0)] | _ => True) (Bag Y17 (fun _ => True)) (by kernel_rfl) (by kernel_rfl) (by kernel_rfl) (Bag.start Y17).drew ?_ ?_ ?_
                    · intro jj vv yw yw2 hb h
                      match jj, h with
                      | 0, h => exact h
                      | 1, h => exact h
                      | 2, ⟨x2, e2, g2_0⟩ => exact Exists.intro x2 (And.intro e2 (g2_0.below hb))
                      | 3, ⟨x3, e3, g3_0, g3_1⟩ => exact Exists.intro x3 (And.intro e3 (And.intro (g3_0.below hb) g3_1))
                      | 4, ⟨x3, e4, g4_0, g4_1⟩ => exact Exists.intro x3 (And.intro e4 (And.intro (g4_0.below hb) g4_1))
                      | 5, ⟨x3, e5, g5_0, g5_1⟩ => exact Exists.intro x3 (And.intro e5 (And.intro (g5_0.below hb) g5_1))
                      | 6, h => exact h
                      | 7, ⟨k7, z7, e7, g7_0, g7_1, g7_2⟩ => exact Exists.intro k7 (Exists.intro z7 (And.intro e7 (And.intro (g7_0.below hb) (And.intro g7_1 g7_2))))
                      | 8, ⟨k7, x3, e8, g8_0, g8_1, g8_2⟩ => exact Exists.intro k7 (Exists.intro x3 (And.intro e8 (And.intro (g8_0.below hb) (And.intro (g8_1.below hb) g8_2))))
                      | 9, h => exact h
                      | _ + 10, h => exact h
                    · intro ac yw hsz hdf hold hB hp
                      obtain ⟨k15, x15, es, rs, ms, zs⟩ := hp 8 (by decide)
                      have t15 : ac.tmps[15]? = some (.pointer (some ⟨k15, 0, none⟩)) := (List.cons.inj es).1
                      have t16 : ac.tmps[16]? = some (.int .i64 0) := (List.cons.inj (hp 9 (by decide))).1
                      have t7 : ac.tmps[7]? = some (.slice ax n0 cx) := hold 7 (by kernel_rfl)
                      have t8 : ac.tmps[8]? = some (.slice ay n1 cy) := hold 8 (by kernel_rfl)
                      have t9 : ac.tmps[9]? = some (.slice az n2 cz) := hold 9 (by kernel_rfl)
                      have t13 : ac.tmps[13]? = some (.pointer (some ⟨k13, 0, none⟩)) := hold 13 (by kernel_rfl)
                      have t14 : ac.tmps[14]? = some (.int .i64 0) := hold 14 (by kernel_rfl)
                      have KX := Lib.hid (fun yz hb => KX.out yz (hB.below.trans (Below.mono hb hB.below.size)))
                      have KY := Lib.hid (fun yz hb => KY.out yz (hB.below.trans (Below.mono hb hB.below.size)))
                      have KZ := Lib.hid (fun yz hb => KZ.out yz (hB.below.trans (Below.mono hb hB.below.size)))
                      have RWa := Lib.hid (fun yz hb => RWa.out yz (hB.below.trans (Below.mono hb hB.below.size)))
                      have Aa := Lib.hid (fun yz hb => Aa.out yz (hB.below.trans (Below.mono hb hB.below.size)))
                      have RWb := Lib.hid (fun yz (hb : Below yw.heap.size yw yz) => Row.below rs hb)
                      have Ab := Lib.hid (fun yz (hb : Below yw.heap.size yw yz) => LArr.below ms hb)
                      have SZb := Lib.hid zs
                      have BB := Lib.hid (BB.out.go hB.below)
                      clear hold hp es rs ms zs hB
                      obtain ⟨TZ, hTZ⟩ : ∃ TZ : Nat → Value, ∀ i, (ac.tmps[i]?).getD undef = TZ i := ⟨_, fun _ => rfl⟩
                      have f7 := (hTZ 7).symm.trans (congrArg (fun x => Option.getD x undef) t7)
                      have f8 := (hTZ 8).symm.trans (congrArg (fun x => Option.getD x undef) t8)
                      have f9 := (hTZ 9).symm.trans (congrArg (fun x => Option.getD x undef) t9)
                      have f13 := (hTZ 13).symm.trans (congrArg (fun x => Option.getD x undef) t13)
                      have f14 := (hTZ 14).symm.trans (congrArg (fun x => Option.getD x undef) t14)
                      have f15 := (hTZ 15).symm.trans (congrArg (fun x => Option.getD x undef) t15)
                      have f16 := (hTZ 16).symm.trans (congrArg (fun x => Option.getD x undef) t16)
                      have hac := act_eq (n := 175) hsz TZ hTZ
                      rw [show ((List.range 175).map TZ).toArray = #[TZ 0, TZ 1, TZ 2, TZ 3, TZ 4, TZ 5, TZ 6, TZ 7, TZ 8, TZ 9, TZ 10, TZ 11, TZ 12, TZ 13, TZ 14, TZ 15, TZ 16, TZ 17, TZ 18, TZ 19, TZ 20, TZ 21, TZ 22, TZ 23, TZ 24, TZ 25, TZ 26, TZ 27, TZ 28, TZ 29, TZ 30, TZ 31, TZ 32, TZ 33, TZ 34, TZ 35, TZ 36, TZ 37, TZ 38, TZ 39, TZ 40, TZ 41, TZ 42, TZ 43, TZ 44, TZ 45, TZ 46, TZ 47, TZ 48, TZ 49, TZ 50, TZ 51, TZ 52, TZ 53, TZ 54, TZ 55, TZ 56, TZ 57, TZ 58, TZ 59, TZ 60, TZ 61, TZ 62, TZ 63, TZ 64, TZ 65, TZ 66, TZ 67, TZ 68, TZ 69, TZ 70, TZ 71, TZ 72, TZ 73, TZ 74, TZ 75, TZ 76, TZ 77, TZ 78, TZ 79, TZ 80, TZ 81, TZ 82, TZ 83, TZ 84, TZ 85, TZ 86, TZ 87, TZ 88, TZ 89, TZ 90, TZ 91, TZ 92, TZ 93, TZ 94, TZ 95, TZ 96, TZ 97, TZ 98, TZ 99, TZ 100, TZ 101, TZ 102, TZ 103, TZ 104, TZ 105, TZ 106, TZ 107, TZ 108, TZ 109, TZ 110, TZ 111, TZ 112, TZ 113, TZ 114, TZ 115, TZ 116, TZ 117, TZ 118, TZ 119, TZ 120, TZ 121, TZ 122, TZ 123, TZ 124, TZ 125, TZ 126, TZ 127, TZ 128, TZ 129, TZ 130, TZ 131, TZ 132, TZ 133, TZ 134, TZ 135, TZ 136, TZ 137, TZ 138, TZ 139, TZ 140, TZ 141, TZ 142, TZ 143, TZ 144, TZ 145, TZ 146, TZ 147, TZ 148, TZ 149, TZ 150, TZ 151, TZ 152, TZ 153, TZ 154, TZ 155, TZ 156, TZ 157, TZ 158, TZ 159, TZ 160, TZ 161, TZ 162, TZ 163, TZ 164, TZ 165, TZ 166, TZ 167, TZ 168, TZ 169, TZ 170, TZ 171, TZ 172, TZ 173, TZ 174] from rfl, f7, f8, f9, f13, f14, f15, f16, hdf] at hac
                      simp only [Option.getD_some] at hac
                      subst hac
                      clear hTZ f7 f8 f9 f13 f14 f15 f16
                      obtain ⟨y18, hy18⟩ : ∃ y, y = yw := ⟨_, rfl⟩
                      subst hy18
                      go_wp2_with fail
                      go_at_call 14
                      (refine (IY.out _ _ _ (KY.out _ (Below.refl _ _))).mono ?_)
                      rintro e wa ⟨xa1, rfl, ha1, hba⟩
                      have B9 := Lib.hid (((Bag.start y18).go hba).add (fun _ _ hb q => LArr.below q hb) ha1)
                      clear ha1 hba
                      go_wp2_with fail
                      go_at_call 14
                      (refine (IZ.out _ _ _ (KZ.out _ B9.out.below)).mono ?_)
                      rintro e wb ⟨xb1, rfl, hb1, hbb⟩
                      have B9 := Lib.hid ((B9.out.go hbb).add (fun _ _ hb q => LArr.below q hb) hb1)
                      clear hb1 hbb
                      go_wp2_with fail
                      go_at_call 8
                      (refine (C3.out _ _ _ B9.out.now.2.1 B9.out.now.1).mono ?_)
                      rintro e W17 ⟨x7, rfl, h1, hb1⟩
                      have HB1 := Lib.hid (B9.out.go hb1).below
                      have HA1 := Lib.hid h1
                      obtain ⟨n7, m7, d7, u7, v7, y7, hx1, _⟩ := Arr.form h1
                      have hx1 : _ = (arrC false 0 (dm (fun _ => (N12 : Int)) 1) n7 m7 d7 u7 v7 y7) := hx1
                      subst hx1
                      clear h1 hb1 B9
                      have B9 := Lib.hid (((Bag.fresh HB1.out).arr HA1.out).newRow (arrC false 0 (dm (fun _ => (N12 : Int)) 1) n7 m7 d7 u7 v7 y7) 32)
                      unfold arrC
                      go_wp2_with fail
                      have hWW := B9.out.below
                      unfold arrC at hWW
                      unfold arrC at B9
                      generalize hW : (W17.alloc (.cells _ 32)) = Y19 at *
                      clear hW
                      have KX := Lib.hid (fun yz hb => KX.out yz (hWW.trans (Below.mono hb hWW.size)))
                      have KY := Lib.hid (fun yz hb => KY.out yz (hWW.trans (Below.mono hb hWW.size)))
                      have KZ := Lib.hid (fun yz hb => KZ.out yz (hWW.trans (Below.mono hb hWW.size)))
                      have RWa := Lib.hid (fun yz hb => RWa.out yz (hWW.trans (Below.mono hb hWW.size)))
                      have Aa := Lib.hid (fun yz hb => Aa.out yz (hWW.trans (Below.mono hb hWW.size)))
                      have RWb := Lib.hid (fun yz hb => RWb.out yz (hWW.trans (Below.mono hb hWW.size)))
                      have Ab := Lib.hid (fun yz hb => Ab.out yz (hWW.trans (Below.mono hb hWW.size)))
                      have BB := Lib.hid (BB.out.go hWW)
                      have RWc : Hid (∀ yz, Below Y19.heap.size Y19 yz → Row yz W17.heap.size 32 (arrC false 0 (dm (fun _ => (N12 : Int)) 1) n7 m7 d7 u7 v7 y7)) := Lib.hid (fun yz hb => Row.below B9.out.now.1 hb)
                      have Ac : Hid (∀ yz, Below Y19.heap.size Y19 yz → LArr yz (arrC false 0 (dm (fun _ => (N12 : Int)) 1) n7 m7 d7 u7 v7 y7) N12 F12) := Lib.hid (fun yz hb => Arr.below B9.out.now.2.1 hb)
                      have SZc : Hid (IsA (arrC false 0 (dm (fun _ => (N12 : Int)) 1) n7 m7 d7 u7 v7 y7)) := Lib.hid ⟨_, _, _, _, _, _, _, _, _, rfl⟩
                      clear hWW B9 HB1 HA1
                      generalize W17.heap.size = k17 at *
                      generalize (arrC false 0 (dm (fun _ => (N12 : Int)) 1) n7 m7 d7 u7 v7 y7) = Xc at RWc Ac SZc
                      go_wp2_with fail
                      refine wp_region_inv2 ⟨(fun j => ([[105], [106], [107], [108], [104], [109], [110], [19], [19], [20]] : List (List Nat)).getD j []), (fun j => ([[], [0], [], [0, 1, 2], [0, 1, 2, 3], [0, 1, 2, 3, 4], [0, 1, 2, 3, 4], [], [0, 1, 2, 3, 4, 5, 7], [0, 1, 2, 3, 4, 5, 6, 7, 8]] : List (List Nat)).getD j []), [7]⟩ (fun jj vv yy => match jj with | 0 => vv = [some (.slice ax n0 cx)] | 1 => ∃ (x1 : Array Value), vv = [some (.agg x1)] ∧ LArr yy x1 n0 f0 | 2 => vv = [some (.agg Xc)] | 3 => ∃ (x3 : Array Value), vv = [some (.tuple #[.agg x3, .int .i64 0])] ∧ LArr yy x3 NN FF ∧ IsA x3 | 4 => ∃ (x3 : Array Value), vv = [some (.tuple #[.agg x3, .int .i64 0])] ∧ LArr yy x3 NN FF ∧ IsA x3 | 5 => ∃ (x3 : Array Value), vv = [some (.agg x3)] ∧ LArr yy x3 NN FF ∧ IsA x3 | 6 => vv = [some (.int .i64 0)] | 7 => ∃ (k7 : Nat), ∃ (z7 : Array Value), vv = [some (.pointer (some ⟨k7, 0, none⟩))] ∧ Row yy k7 32 z7 ∧ IsA z7 ∧ Y19.heap.size ≤ k7 | 8 => ∃ (k7 : Nat), ∃ (x3 : Array Value), vv = [some (.pointer (some ⟨k7, 0, none⟩))] ∧ Row yy k7 32 x3 ∧ LArr yy x3 NN FF ∧ IsA x3 | 9 => vv = [some (.int .i64 0)] | _ => True) (Bag Y19 (fun _ => True)) (by kernel_rfl) (by kernel_rfl) (by kernel_rfl) (Bag.start Y19).drew ?_ ?_ ?_
                      · intro jj vv yw yw2 hb h
                        match jj, h with
                        | 0, h => exact h
                        | 1, ⟨x1, e1, g1_0⟩ => exact Exists.intro x1 (And.intro e1 (g1_0.below hb))
                        | 2, h => exact h
                        | 3, ⟨x3, e3, g3_0, g3_1⟩ => exact Exists.intro x3 (And.intro e3 (And.intro (g3_0.below hb) g3_1))
                        | 4, ⟨x3, e4, g4_0, g4_1⟩ => exact Exists.intro x3 (And.intro e4 (And.intro (g4_0.below hb) g4_1))
                        | 5, ⟨x3, e5, g5_0, g5_1⟩ => exact Exists.intro x3 (And.intro e5 (And.intro (g5_0.below hb) g5_1))
                        | 6, h => exact h
                        | 7, ⟨k7, z7, e7, g7_0, g7_1, g7_2⟩ => exact Exists.intro k7 (Exists.intro z7 (And.intro e7 (And.intro (g7_0.below hb) (And.intro g7_1 g7_2))))
                        | 8, ⟨k7, x3, e8, g8_0, g8_1, g8_2⟩ => exact Exists.intro k7 (Exists.intro x3 (And.intro e8 (And.intro (g8_0.below hb) (And.intro (g8_1.below hb) g8_2))))
                        | 9, h => exact h
                        | _ + 10, h => exact h
                      · intro ac yw hsz hdf hold hB hp
                        obtain ⟨k19, x19, es, rs, ms, zs⟩ := hp 8 (by decide)
                        have t19 : ac.tmps[19]? = some (.pointer (some ⟨k19, 0, none⟩)) := (List.cons.inj es).1
                        have t20 : ac.tmps[20]? = some (.int .i64 0) := (List.cons.inj (hp 9 (by decide))).1
                        have t7 : ac.tmps[7]? = some (.slice ax n0 cx) := hold 7 (by kernel_rfl)
                        have t8 : ac.tmps[8]? = some (.slice ay n1 cy) := hold 8 (by kernel_rfl)
                        have t9 : ac.tmps[9]? = some (.slice az n2 cz) := hold 9 (by kernel_rfl)
                        have t13 : ac.tmps[13]? = some (.pointer (some ⟨k13, 0, none⟩)) := hold 13 (by kernel_rfl)
                        have t14 : ac.tmps[14]? = some (.int .i64 0) := hold 14 (by kernel_rfl)
                        have t15 : ac.tmps[15]? = some (.pointer (some ⟨k15, 0, none⟩)) := hold 15 (by kernel_rfl)
                        have t16 : ac.tmps[16]? = some (.int .i64 0) := hold 16 (by kernel_rfl)
                        have t17 : ac.tmps[17]? = some (.pointer (some ⟨k17, 0, none⟩)) := hold 17 (by kernel_rfl)
                        have t18 : ac.tmps[18]? = some (.int .i64 0) := hold 18 (by kernel_rfl)
                        have KX := Lib.hid (fun yz hb => KX.out yz (hB.below.trans (Below.mono hb hB.below.size)))
                        have KY := Lib.hid (fun yz hb => KY.out yz (hB.below.trans (Below.mono hb hB.below.size)))
                        have RWa := Lib.hid (fun yz hb => RWa.out yz (hB.below.trans (Below.mono hb hB.below.size)))
                        have Aa := Lib.hid (fun yz hb => Aa.out yz (hB.below.trans (Below.mono hb hB.below.size)))
                        have RWb := Lib.hid (fun yz hb => RWb.out yz (hB.below.trans (Below.mono hb hB.below.size)))
                        have Ab := Lib.hid (fun yz hb => Ab.out yz (hB.below.trans (Below.mono hb hB.below.size)))
                        have RWd := Lib.hid (fun yz (hb : Below yw.heap.size yw yz) => Row.below rs hb)
                        have Ad := Lib.hid (fun yz (hb : Below yw.heap.size yw yz) => LArr.below ms hb)
                        have SZd := Lib.hid zs
                        have BB := Lib.hid (BB.out.go hB.below)
                        clear hold hp es rs ms zs hB RWc Ac SZc
                        obtain ⟨TY, hTY⟩ : ∃ TY : Nat → Value, ∀ i, (ac.tmps[i]?).getD undef = TY i := ⟨_, fun _ => rfl⟩
                        have f7 := (hTY 7).symm.trans (congrArg (fun x => Option.getD x undef) t7)
                        have f8 := (hTY 8).symm.trans (congrArg (fun x => Option.getD x undef) t8)
                        have f9 := (hTY 9).symm.trans (congrArg (fun x => Option.getD x undef) t9)
                        have f13 := (hTY 13).symm.trans (congrArg (fun x => Option.getD x undef) t13)
                        have f14 := (hTY 14).symm.trans (congrArg (fun x => Option.getD x undef) t14)
                        have f15 := (hTY 15).symm.trans (congrArg (fun x => Option.getD x undef) t15)
                        have f16 := (hTY 16).symm.trans (congrArg (fun x => Option.getD x undef) t16)
                        have f17 := (hTY 17).symm.trans (congrArg (fun x => Option.getD x undef) t17)
                        have f18 := (hTY 18).symm.trans (congrArg (fun x => Option.getD x undef) t18)
                        have f19 := (hTY 19).symm.trans (congrArg (fun x => Option.getD x undef) t19)
                        have f20 := (hTY 20).symm.trans (congrArg (fun x => Option.getD x undef) t20)
                        have hac := act_eq (n := 175) hsz TY hTY
                        rw [show ((List.range 175).map TY).toArray = #[TY 0, TY 1, TY 2, TY 3, TY 4, TY 5, TY 6, TY 7, TY 8, TY 9, TY 10, TY 11, TY 12, TY 13, TY 14, TY 15, TY 16, TY 17, TY 18, TY 19, TY 20, TY 21, TY 22, TY 23, TY 24, TY 25, TY 26, TY 27, TY 28, TY 29, TY 30, TY 31, TY 32, TY 33, TY 34, TY 35, TY 36, TY 37, TY 38, TY 39, TY 40, TY 41, TY 42, TY 43, TY 44, TY 45, TY 46, TY 47, TY 48, TY 49, TY 50, TY 51, TY 52, TY 53, TY 54, TY 55, TY 56, TY 57, TY 58, TY 59, TY 60, TY 61, TY 62, TY 63, TY 64, TY 65, TY 66, TY 67, TY 68, TY 69, TY 70, TY 71, TY 72, TY 73, TY 74, TY 75, TY 76, TY 77, TY 78, TY 79, TY 80, TY 81, TY 82, TY 83, TY 84, TY 85, TY 86, TY 87, TY 88, TY 89, TY 90, TY 91, TY 92, TY 93, TY 94, TY 95, TY 96, TY 97, TY 98, TY 99, TY 100, TY 101, TY 102, TY 103, TY 104, TY 105, TY 106, TY 107, TY 108, TY 109, TY 110, TY 111, TY 112, TY 113, TY 114, TY 115, TY 116, TY 117, TY 118, TY 119, TY 120, TY 121, TY 122, TY 123, TY 124, TY 125, TY 126, TY 127, TY 128, TY 129, TY 130, TY 131, TY 132, TY 133, TY 134, TY 135, TY 136, TY 137, TY 138, TY 139, TY 140, TY 141, TY 142, TY 143, TY 144, TY 145, TY 146, TY 147, TY 148, TY 149, TY 150, TY 151, TY 152, TY 153, TY 154, TY 155, TY 156, TY 157, TY 158, TY 159, TY 160, TY 161, TY 162, TY 163, TY 164, TY 165, TY 166, TY 167, TY 168, TY 169, TY 170, TY 171, TY 172, TY 173, TY 174] from rfl, f7, f8, f9, f13, f14, f15, f16, f17, f18, f19, f20, hdf] at hac
                        simp only [Option.getD_some] at hac
                        subst hac
                        clear hTY f7 f8 f9 f13 f14 f15 f16 f17 f18 f19 f20
                        go_wp2_with fail
                        generalize yw = Y20 at *
                        refine wp_region_inv2 ⟨(fun j => ([[112], [113], [114], [115], [116], [111], [117], [118], [21], [21], [22]] : List (List Nat)).getD j []), (fun j => ([[], [0], [0, 1], [], [0, 1, 2, 3], [0, 1, 2, 3, 4], [0, 1, 2, 3, 4, 5], [0, 1, 2, 3, 4, 5], [], [0, 1, 2, 3, 4, 5, 6, 8], [0, 1, 2, 3, 4, 5, 6, 7, 8, 9]] : List (List Nat)).getD j []), [8]⟩ (fun jj vv yy => match jj with | 0 => vv = [some (.slice ax n0 cx)] | 1 => vv = [some (.int .i64 (n0 : Nat))] | 2 => ∃ (x2 : Array Value), vv = [some (.agg x2)] ∧ Arr yy x2 (fun _ => 0) 0 false 1 (fun _ => 0) (fun _ => (n0 : Int)) (fun _ => 1) | 3 => vv = [some (.agg Xa)] | 4 => ∃ (x4 : Array Value), vv = [some (.tuple #[.agg x4, .int .i64 0])] ∧ LArr yy x4 n0 f0 ∧ IsA x4 | 5 => ∃ (x4 : Array Value), vv = [some (.tuple #[.agg x4, .int .i64 0])] ∧ LArr yy x4 n0 f0 ∧ IsA x4 | 6 => ∃ (x4 : Array Value), vv = [some (.agg x4)] ∧ LArr yy x4 n0 f0 ∧ IsA x4 | 7 => vv = [some (.int .i64 0)] | 8 => ∃ (k8 : Nat), ∃ (z8 : Array Value), vv = [some (.pointer (some ⟨k8, 0, none⟩))] ∧ Row yy k8 32 z8 ∧ IsA z8 ∧ Y20.heap.size ≤ k8 | 9 => ∃ (k8 : Nat), ∃ (x4 : Array Value), vv = [some (.pointer (some ⟨k8, 0, none⟩))] ∧ Row yy k8 32 x4 ∧ LArr yy x4 n0 f0 ∧ IsA x4 | 10 => vv = [some (.int .i64 0)] | _ => True) (Bag Y20 (fun _ => True)) (by kernel_rfl) (by kernel_rfl) (by kernel_rfl) (Bag.start Y20).drew ?_ ?_ ?_
                        · intro jj vv yw yw2 hb h
                          match jj, h with
                          | 0, h => exact h
                          | 1, h => exact h
                          | 2, ⟨x2, e2, g2_0⟩ => exact Exists.intro x2 (And.intro e2 (g2_0.below hb))
                          | 3, h => exact h
                          | 4, ⟨x4, e4, g4_0, g4_1⟩ => exact Exists.intro x4 (And.intro e4 (And.intro (g4_0.below hb) g4_1))
                          | 5, ⟨x4, e5, g5_0, g5_1⟩ => exact Exists.intro x4 (And.intro e5 (And.intro (g5_0.below hb) g5_1))
                          | 6, ⟨x4, e6, g6_0, g6_1⟩ => exact Exists.intro x4 (And.intro e6 (And.intro (g6_0.below hb) g6_1))
                          | 7, h => exact h
                          | 8, ⟨k8, z8, e8, g8_0, g8_1, g8_2⟩ => exact Exists.intro k8 (Exists.intro z8 (And.intro e8 (And.intro (g8_0.below hb) (And.intro g8_1 g8_2))))
                          | 9, ⟨k8, x4, e9, g9_0, g9_1, g9_2⟩ => exact Exists.intro k8 (Exists.intro x4 (And.intro e9 (And.intro (g9_0.below hb) (And.intro (g9_1.below hb) g9_2))))
                          | 10, h => exact h
                          | _ + 11, h => exact h
                        · intro ac yw hsz hdf hold hB hp
                          obtain ⟨k21, x21, es, rs, ms, zs⟩ := hp 9 (by decide)
                          have t21 : ac.tmps[21]? = some (.pointer (some ⟨k21, 0, none⟩)) := (List.cons.inj es).1
                          have t22 : ac.tmps[22]? = some (.int .i64 0) := (List.cons.inj (hp 10 (by decide))).1
                          have t7 : ac.tmps[7]? = some (.slice ax n0 cx) := hold 7 (by kernel_rfl)
                          have t8 : ac.tmps[8]? = some (.slice ay n1 cy) := hold 8 (by kernel_rfl)
                          have t9 : ac.tmps[9]? = some (.slice az n2 cz) := hold 9 (by kernel_rfl)
                          have t13 : ac.tmps[13]? = some (.pointer (some ⟨k13, 0, none⟩)) := hold 13 (by kernel_rfl)
                          have t14 : ac.tmps[14]? = some (.int .i64 0) := hold 14 (by kernel_rfl)
                          have t15 : ac.tmps[15]? = some (.pointer (some ⟨k15, 0, none⟩)) := hold 15 (by kernel_rfl)
                          have t16 : ac.tmps[16]? = some (.int .i64 0) := hold 16 (by kernel_rfl)
                          have t17 : ac.tmps[17]? = some (.pointer (some ⟨k17, 0, none⟩)) := hold 17 (by kernel_rfl)
                          have t18 : ac.tmps[18]? = some (.int .i64 0) := hold 18 (by kernel_rfl)
                          have t19 : ac.tmps[19]? = some (.pointer (some ⟨k19, 0, none⟩)) := hold 19 (by kernel_rfl)
                          have t20 : ac.tmps[20]? = some (.int .i64 0) := hold 20 (by kernel_rfl)
                          have KX := Lib.hid (fun yz hb => KX.out yz (hB.below.trans (Below.mono hb hB.below.size)))
                          have KY := Lib.hid (fun yz hb => KY.out yz (hB.below.trans (Below.mono hb hB.below.size)))
                          have RWa := Lib.hid (fun yz hb => RWa.out yz (hB.below.trans (Below.mono hb hB.below.size)))
                          have Aa := Lib.hid (fun yz hb => Aa.out yz (hB.below.trans (Below.mono hb hB.below.size)))
                          have RWb := Lib.hid (fun yz hb => RWb.out yz (hB.below.trans (Below.mono hb hB.below.size)))
                          have Ab := Lib.hid (fun yz hb => Ab.out yz (hB.below.trans (Below.mono hb hB.below.size)))
                          have RWd := Lib.hid (fun yz hb => RWd.out yz (hB.below.trans (Below.mono hb hB.below.size)))
                          have Ad := Lib.hid (fun yz hb => Ad.out yz (hB.below.trans (Below.mono hb hB.below.size)))
                          have RWu := Lib.hid (fun yz (hb : Below yw.heap.size yw yz) => Row.below rs hb)
                          have Au := Lib.hid (fun yz (hb : Below yw.heap.size yw yz) => LArr.below ms hb)
                          have SZu := Lib.hid zs
                          have BB := Lib.hid (BB.out.go hB.below)
                          clear hold hp es rs ms zs hB
                          obtain ⟨TX, hTX⟩ : ∃ TX : Nat → Value, ∀ i, (ac.tmps[i]?).getD undef = TX i := ⟨_, fun _ => rfl⟩
                          have f7 := (hTX 7).symm.trans (congrArg (fun x => Option.getD x undef) t7)
                          have f8 := (hTX 8).symm.trans (congrArg (fun x => Option.getD x undef) t8)
                          have f9 := (hTX 9).symm.trans (congrArg (fun x => Option.getD x undef) t9)
                          have f13 := (hTX 13).symm.trans (congrArg (fun x => Option.getD x undef) t13)
                          have f14 := (hTX 14).symm.trans (congrArg (fun x => Option.getD x undef) t14)
                          have f15 := (hTX 15).symm.trans (congrArg (fun x => Option.getD x undef) t15)
                          have f16 := (hTX 16).symm.trans (congrArg (fun x => Option.getD x undef) t16)
                          have f17 := (hTX 17).symm.trans (congrArg (fun x => Option.getD x undef) t17)
                          have f18 := (hTX 18).symm.trans (congrArg (fun x => Option.getD x undef) t18)
                          have f19 := (hTX 19).symm.trans (congrArg (fun x => Option.getD x undef) t19)
                          have f20 := (hTX 20).symm.trans (congrArg (fun x => Option.getD x undef) t20)
                          have f21 := (hTX 21).symm.trans (congrArg (fun x => Option.getD x undef) t21)
                          have f22 := (hTX 22).symm.trans (congrArg (fun x => Option.getD x undef) t22)
                          have hac := act_eq (n := 175) hsz TX hTX
                          rw [show ((List.range 175).map TX).toArray = #[TX 0, TX 1, TX 2, TX 3, TX 4, TX 5, TX 6, TX 7, TX 8, TX 9, TX 10, TX 11, TX 12, TX 13, TX 14, TX 15, TX 16, TX 17, TX 18, TX 19, TX 20, TX 21, TX 22, TX 23, TX 24, TX 25, TX 26, TX 27, TX 28, TX 29, TX 30, TX 31, TX 32, TX 33, TX 34, TX 35, TX 36, TX 37, TX 38, TX 39, TX 40, TX 41, TX 42, TX 43, TX 44, TX 45, TX 46, TX 47, TX 48, TX 49, TX 50, TX 51, TX 52, TX 53, TX 54, TX 55, TX 56, TX 57, TX 58, TX 59, TX 60, TX 61, TX 62, TX 63, TX 64, TX 65, TX 66, TX 67, TX 68, TX 69, TX 70, TX 71, TX 72, TX 73, TX 74, TX 75, TX 76, TX 77, TX 78, TX 79, TX 80, TX 81, TX 82, TX 83, TX 84, TX 85, TX 86, TX 87, TX 88, TX 89, TX 90, TX 91, TX 92, TX 93, TX 94, TX 95, TX 96, TX 97, TX 98, TX 99, TX 100, TX 101, TX 102, TX 103, TX 104, TX 105, TX 106, TX 107, TX 108, TX 109, TX 110, TX 111, TX 112, TX 113, TX 114, TX 115, TX 116, TX 117, TX 118, TX 119, TX 120, TX 121, TX 122, TX 123, TX 124, TX 125, TX 126, TX 127, TX 128, TX 129, TX 130, TX 131, TX 132, TX 133, TX 134, TX 135, TX 136, TX 137, TX 138, TX 139, TX 140, TX 141, TX 142, TX 143, TX 144, TX 145, TX 146, TX 147, TX 148, TX 149, TX 150, TX 151, TX 152, TX 153, TX 154, TX 155, TX 156, TX 157, TX 158, TX 159, TX 160, TX 161, TX 162, TX 163, TX 164, TX 165, TX 166, TX 167, TX 168, TX 169, TX 170, TX 171, TX 172, TX 173, TX 174] from rfl, f7, f8, f9, f13, f14, f15, f16, f17, f18, f19, f20, f21, f22, hdf] at hac
                          simp only [Option.getD_some] at hac
                          subst hac
                          clear hTX f7 f8 f9 f13 f14 f15 f16 f17 f18 f19 f20 f21 f22
                          go_wp2_with fail
                          generalize yw = Y21 at *
                          refine wp_region_inv2 ⟨(fun j => ([[120], [121], [122], [123], [124], [119], [125], [126], [23], [23], [24]] : List (List Nat)).getD j []), (fun j => ([[], [0], [0, 1], [], [0, 1, 2, 3], [0, 1, 2, 3, 4], [0, 1, 2, 3, 4, 5], [0, 1, 2, 3, 4, 5], [], [0, 1, 2, 3, 4, 5, 6, 8], [0, 1, 2, 3, 4, 5, 6, 7, 8, 9]] : List (List Nat)).getD j []), [8]⟩ (fun jj vv yy => match jj with | 0 => vv = [some (.slice ax n0 cx)] | 1 => vv = [some (.int .i64 (n0 : Nat))] | 2 => ∃ (x2 : Array Value), vv = [some (.agg x2)] ∧ Arr yy x2 (fun _ => 0) 0 false 1 (fun _ => 0) (fun _ => (n0 : Int)) (fun _ => 1) | 3 => vv = [some (.agg Xa)] | 4 => ∃ (x4 : Array Value), vv = [some (.tuple #[.agg x4, .int .i64 0])] ∧ LArr yy x4 n1 f1 ∧ IsA x4 | 5 => ∃ (x4 : Array Value), vv = [some (.tuple #[.agg x4, .int .i64 0])] ∧ LArr yy x4 n1 f1 ∧ IsA x4 | 6 => ∃ (x4 : Array Value), vv = [some (.agg x4)] ∧ LArr yy x4 n1 f1 ∧ IsA x4 | 7 => vv = [some (.int .i64 0)] | 8 => ∃ (k8 : Nat), ∃ (z8 : Array Value), vv = [some (.pointer (some ⟨k8, 0, none⟩))] ∧ Row yy k8 32 z8 ∧ IsA z8 ∧ Y21.heap.size ≤ k8 | 9 => ∃ (k8 : Nat), ∃ (x4 : Array Value), vv = [some (.pointer (some ⟨k8, 0, none⟩))] ∧ Row yy k8 32 x4 ∧ LArr yy x4 n1 f1 ∧ IsA x4 | 10 => vv = [some (.int .i64 0)] | _ => True) (Bag Y21 (fun _ => True)) (by kernel_rfl) (by kernel_rfl) (by kernel_rfl) (Bag.start Y21).drew ?_ ?_ ?_
                          · intro jj vv yw yw2 hb h
                            match jj, h with
                            | 0, h => exact h
                            | 1, h => exact h
                            | 2, ⟨x2, e2, g2_0⟩ => exact Exists.intro x2 (And.intro e2 (g2_0.below hb))
                            | 3, h => exact h
                            | 4, ⟨x4, e4, g4_0, g4_1⟩ => exact Exists.intro x4 (And.intro e4 (And.intro (g4_0.below hb) g4_1))
                            | 5, ⟨x4, e5, g5_0, g5_1⟩ => exact Exists.intro x4 (And.intro e5 (And.intro (g5_0.below hb) g5_1))
                            | 6, ⟨x4, e6, g6_0, g6_1⟩ => exact Exists.intro x4 (And.intro e6 (And.intro (g6_0.below hb) g6_1))
                            | 7, h => exact h
                            | 8, ⟨k8, z8, e8, g8_0, g8_1, g8_2⟩ => exact Exists.intro k8 (Exists.intro z8 (And.intro e8 (And.intro (g8_0.below hb) (And.intro g8_1 g8_2))))
                            | 9, ⟨k8, x4, e9, g9_0, g9_1, g9_2⟩ => exact Exists.intro k8 (Exists.intro x4 (And.intro e9 (And.intro (g9_0.below hb) (And.intro (g9_1.below hb) g9_2))))
                            | 10, h => exact h
                            | _ + 11, h => exact h
                          · intro ac yw hsz hdf hold hB hp
                            obtain ⟨k23, x23, es, rs, ms, zs⟩ := hp 9 (by decide)
                            have t23 : ac.tmps[23]? = some (.pointer (some ⟨k23, 0, none⟩)) := (List.cons.inj es).1
                            have t24 : ac.tmps[24]? = some (.int .i64 0) := (List.cons.inj (hp 10 (by decide))).1
                            have t7 : ac.tmps[7]? = some (.slice ax n0 cx) := hold 7 (by kernel_rfl)
                            have t8 : ac.tmps[8]? = some (.slice ay n1 cy) := hold 8 (by kernel_rfl)
                            have t9 : ac.tmps[9]? = some (.slice az n2 cz) := hold 9 (by kernel_rfl)
                            have t13 : ac.tmps[13]? = some (.pointer (some ⟨k13, 0, none⟩)) := hold 13 (by kernel_rfl)
                            have t14 : ac.tmps[14]? = some (.int .i64 0) := hold 14 (by kernel_rfl)
                            have t15 : ac.tmps[15]? = some (.pointer (some ⟨k15, 0, none⟩)) := hold 15 (by kernel_rfl)
                            have t16 : ac.tmps[16]? = some (.int .i64 0) := hold 16 (by kernel_rfl)
                            have t17 : ac.tmps[17]? = some (.pointer (some ⟨k17, 0, none⟩)) := hold 17 (by kernel_rfl)
                            have t18 : ac.tmps[18]? = some (.int .i64 0) := hold 18 (by kernel_rfl)
                            have t19 : ac.tmps[19]? = some (.pointer (some ⟨k19, 0, none⟩)) := hold 19 (by kernel_rfl)
                            have t20 : ac.tmps[20]? = some (.int .i64 0) := hold 20 (by kernel_rfl)
                            have t21 : ac.tmps[21]? = some (.pointer (some ⟨k21, 0, none⟩)) := hold 21 (by kernel_rfl)
                            have t22 : ac.tmps[22]? = some (.int .i64 0) := hold 22 (by kernel_rfl)
                            have KX := Lib.hid (fun yz hb => KX.out yz (hB.below.trans (Below.mono hb hB.below.size)))
                            have KY := Lib.hid (fun yz hb => KY.out yz (hB.below.trans (Below.mono hb hB.below.size)))
                            have RWu := Lib.hid (fun yz hb => RWu.out yz (hB.below.trans (Below.mono hb hB.below.size)))
                            have Au := Lib.hid (fun yz hb => Au.out yz (hB.below.trans (Below.mono hb hB.below.size)))
                            have RWv := Lib.hid (fun yz (hb : Below yw.heap.size yw yz) => Row.below rs hb)
                            have Av := Lib.hid (fun yz (hb : Below yw.heap.size yw yz) => LArr.below ms hb)
                            have SZv := Lib.hid zs
                            have HRb := Lib.hid (RWb.out _ hB.below)
                            have HAb := Lib.hid (Ab.out _ hB.below)
                            have HRd := Lib.hid (RWd.out _ hB.below)
                            have HAd := Lib.hid (Ad.out _ hB.below)
                            have BB := Lib.hid (BB.out.go hB.below)
                            clear hold hp es rs ms zs hB RWa Aa RWb Ab RWd Ad
                            obtain ⟨TW, hTW⟩ : ∃ TW : Nat → Value, ∀ i, (ac.tmps[i]?).getD undef = TW i := ⟨_, fun _ => rfl⟩
                            have f7 := (hTW 7).symm.trans (congrArg (fun x => Option.getD x undef) t7)
                            have f8 := (hTW 8).symm.trans (congrArg (fun x => Option.getD x undef) t8)
                            have f9 := (hTW 9).symm.trans (congrArg (fun x => Option.getD x undef) t9)
                            have f13 := (hTW 13).symm.trans (congrArg (fun x => Option.getD x undef) t13)
                            have f14 := (hTW 14).symm.trans (congrArg (fun x => Option.getD x undef) t14)
                            have f15 := (hTW 15).symm.trans (congrArg (fun x => Option.getD x undef) t15)
                            have f16 := (hTW 16).symm.trans (congrArg (fun x => Option.getD x undef) t16)
                            have f17 := (hTW 17).symm.trans (congrArg (fun x => Option.getD x undef) t17)
                            have f18 := (hTW 18).symm.trans (congrArg (fun x => Option.getD x undef) t18)
                            have f19 := (hTW 19).symm.trans (congrArg (fun x => Option.getD x undef) t19)
                            have f20 := (hTW 20).symm.trans (congrArg (fun x => Option.getD x undef) t20)
                            have f21 := (hTW 21).symm.trans (congrArg (fun x => Option.getD x undef) t21)
                            have f22 := (hTW 22).symm.trans (congrArg (fun x => Option.getD x undef) t22)
                            have f23 := (hTW 23).symm.trans (congrArg (fun x => Option.getD x undef) t23)
                            have f24 := (hTW 24).symm.trans (congrArg (fun x => Option.getD x undef) t24)
                            have hac := act_eq (n := 175) hsz TW hTW
                            rw [show ((List.range 175).map TW).toArray = #[TW 0, TW 1, TW 2, TW 3, TW 4, TW 5, TW 6, TW 7, TW 8, TW 9, TW 10, TW 11, TW 12, TW 13, TW 14, TW 15, TW 16, TW 17, TW 18, TW 19, TW 20, TW 21, TW 22, TW 23, TW 24, TW 25, TW 26, TW 27, TW 28, TW 29, TW 30, TW 31, TW 32, TW 33, TW 34, TW 35, TW 36, TW 37, TW 38, TW 39, TW 40, TW 41, TW 42, TW 43, TW 44, TW 45, TW 46, TW 47, TW 48, TW 49, TW 50, TW 51, TW 52, TW 53, TW 54, TW 55, TW 56, TW 57, TW 58, TW 59, TW 60, TW 61, TW 62, TW 63, TW 64, TW 65, TW 66, TW 67, TW 68, TW 69, TW 70, TW 71, TW 72, TW 73, TW 74, TW 75, TW 76, TW 77, TW 78, TW 79, TW 80, TW 81, TW 82, TW 83, TW 84, TW 85, TW 86, TW 87, TW 88, TW 89, TW 90, TW 91, TW 92, TW 93, TW 94, TW 95, TW 96, TW 97, TW 98, TW 99, TW 100, TW 101, TW 102, TW 103, TW 104, TW 105, TW 106, TW 107, TW 108, TW 109, TW 110, TW 111, TW 112, TW 113, TW 114, TW 115, TW 116, TW 117, TW 118, TW 119, TW 120, TW 121, TW 122, TW 123, TW 124, TW 125, TW 126, TW 127, TW 128, TW 129, TW 130, TW 131, TW 132, TW 133, TW 134, TW 135, TW 136, TW 137, TW 138, TW 139, TW 140, TW 141, TW 142, TW 143, TW 144, TW 145, TW 146, TW 147, TW 148, TW 149, TW 150, TW 151, TW 152, TW 153, TW 154, TW 155, TW 156, TW 157, TW 158, TW 159, TW 160, TW 161, TW 162, TW 163, TW 164, TW 165, TW 166, TW 167, TW 168, TW 169, TW 170, TW 171, TW 172, TW 173, TW 174] from rfl, f7, f8, f9, f13, f14, f15, f16, f17, f18, f19, f20, f21, f22, f23, f24, hdf] at hac
                            simp only [Option.getD_some] at hac
                            subst hac
                            clear hTW f7 f8 f9 f13 f14 f15 f16 f17 f18 f19 f20 f21 f22 f23 f24
                            go_wp2_with (first
                              | (refine ld8G (by rfl) 15 rfl k15 x15 (by rfl) HRb.out SZb.out.size ?_)
                              | (refine ld8G (by rfl) 19 rfl k19 x19 (by rfl) HRd.out SZd.out.size ?_))
                            go_at_call 18
                            (refine (SM.out _ _ _ HAb.out HAd.out).mono ?_)
                            rintro e w5 ⟨rfl, hb5⟩
                            have HRb := Lib.hid (HRb.out.below hb5)
                            have HAb := Lib.hid (HAb.out.below hb5)
                            go_wp2_with (refine ld8G (by rfl) 15 rfl k15 x15 (by rfl) HRb.out SZb.out.size ?_)
                            go_at_call 19
                            (refine (LN.out _ _ HAb.out).mono ?_)
                            rintro e w6 ⟨rfl, hb6⟩
                            have HB6 := Lib.hid (hb5.trans (hb6.mono hb5.size))
                            have KX := Lib.hid (fun yz hb => KX.out yz (HB6.out.trans (Below.mono hb HB6.out.size)))
                            have KY := Lib.hid (fun yz hb => KY.out yz (HB6.out.trans (Below.mono hb HB6.out.size)))
                            have RWu := Lib.hid (fun yz hb => RWu.out yz (HB6.out.trans (Below.mono hb HB6.out.size)))
                            have Au := Lib.hid (fun yz hb => Au.out yz (HB6.out.trans (Below.mono hb HB6.out.size)))
                            have RWv := Lib.hid (fun yz hb => RWv.out yz (HB6.out.trans (Below.mono hb HB6.out.size)))
                            have Av := Lib.hid (fun yz hb => Av.out yz (HB6.out.trans (Below.mono hb HB6.out.size)))
                            have BB := Lib.hid (BB.out.go HB6.out)
                            clear hb5 hb6 HRb HRd HAb HAd HB6
                            go_wp2_with fail
                            generalize w6 = Y24 at *
                            refine wp_region_inv2 ⟨(fun j => ([[160], [161], [162], [163], [164], [165], [166], [167], [168], [169], [170], [171], [172], [173], [174], [6]] : List (List Nat)).getD j []), (fun j => ([[], [], [], [2], [0, 1, 2, 3], [0, 1, 2, 3, 4], [0, 1, 2, 3, 4, 5], [0, 1, 2, 3, 4, 5], [0, 1, 2, 3, 4, 5], [0, 1, 2, 3, 4, 5, 8], [0, 1, 2, 3, 4, 5, 6, 7, 8, 9], [0, 1, 2, 3, 4, 5, 6, 7, 8, 9, 10], [0, 1, 2, 3, 4, 5, 6, 7, 8, 9, 10, 11], [0, 1, 2, 3, 4, 5, 6, 7, 8, 9, 10, 11, 12], [0, 1, 2, 3, 4, 5, 6, 7, 8, 9, 10, 11, 12, 13], [0, 1, 2, 3, 4, 5, 6, 7, 8, 9, 10, 11, 12, 13, 14]] : List (List Nat)).getD j []), []⟩ (fun jj vv yy => match jj with | 0 => vv = [some (.agg x21)] | 1 => vv = [some (.int .i64 0)] | 2 => vv = [some (.slice ax n0 cx)] | 3 => ∃ (x3 : Array Value), vv = [some (.agg x3)] ∧ PlK yy x3 n0 f0 | 4 => vv = [some (.bool true)] | 5 => vv = [some (.bool true)] | 6 => vv = [some (.agg x23)] | 7 => vv = [some (.int .i64 0)] | 8 => vv = [some (.slice ay n1 cy)] | 9 => ∃ (x9 : Array Value), vv = [some (.agg x9)] ∧ PlK yy x9 n1 f1 | 10 => vv = [some (.bool true)] | 11 => vv = [some (.bool true)] | 12 => vv = [some (.bool true)] | 13 => vv = [some (.bool true)] | 14 => vv = [some (.bool true)] | 15 => vv = [some (.bool true)] | _ => True) (Bag Y24 (fun _ => True)) (by kernel_rfl) (by kernel_rfl) (by kernel_rfl) (Bag.start Y24).drew ?_ ?_ ?_
                            · intro jj vv yw yw2 hb h
                              match jj, h with
                              | 0, h => exact h
                              | 1, h => exact h
                              | 2, h => exact h
                              | 3, ⟨x3, e3, g3_0⟩ => exact Exists.intro x3 (And.intro e3 (g3_0.below hb))
                              | 4, h => exact h
                              | 5, h => exact h
                              | 6, h => exact h
                              | 7, h => exact h
                              | 8, h => exact h
                              | 9, ⟨x9, e9, g9_0⟩ => exact Exists.intro x9 (And.intro e9 (g9_0.below hb))
                              | 10, h => exact h
                              | 11, h => exact h
                              | 12, h => exact h
                              | 13, h => exact h
                              | 14, h => exact h
                              | 15, h => exact h
                              | _ + 16, h => exact h
                            · intro ac yw hsz hdf hold hB hp
                              have t6 : ac.tmps[6]? = some (.bool true) := (List.cons.inj (hp 15 (by decide))).1
                              have HE := Lib.hid (BB.out.go hB.below).below
                              clear hold hp
                              obtain ⟨TV, hTV⟩ : ∃ TV : Nat → Value, ∀ i, (ac.tmps[i]?).getD undef = TV i := ⟨_, fun _ => rfl⟩
                              have f6 := (hTV 6).symm.trans (congrArg (fun x => Option.getD x undef) t6)
                              have hac := act_eq (n := 175) hsz TV hTV
                              rw [show ((List.range 175).map TV).toArray = #[TV 0, TV 1, TV 2, TV 3, TV 4, TV 5, TV 6, TV 7, TV 8, TV 9, TV 10, TV 11, TV 12, TV 13, TV 14, TV 15, TV 16, TV 17, TV 18, TV 19, TV 20, TV 21, TV 22, TV 23, TV 24, TV 25, TV 26, TV 27, TV 28, TV 29, TV 30, TV 31, TV 32, TV 33, TV 34, TV 35, TV 36, TV 37, TV 38, TV 39, TV 40, TV 41, TV 42, TV 43, TV 44, TV 45, TV 46, TV 47, TV 48, TV 49, TV 50, TV 51, TV 52, TV 53, TV 54, TV 55, TV 56, TV 57, TV 58, TV 59, TV 60, TV 61, TV 62, TV 63, TV 64, TV 65, TV 66, TV 67, TV 68, TV 69, TV 70, TV 71, TV 72, TV 73, TV 74, TV 75, TV 76, TV 77, TV 78, TV 79, TV 80, TV 81, TV 82, TV 83, TV 84, TV 85, TV 86, TV 87, TV 88, TV 89, TV 90, TV 91, TV 92, TV 93, TV 94, TV 95, TV 96, TV 97, TV 98, TV 99, TV 100, TV 101, TV 102, TV 103, TV 104, TV 105, TV 106, TV 107, TV 108, TV 109, TV 110, TV 111, TV 112, TV 113, TV 114, TV 115, TV 116, TV 117, TV 118, TV 119, TV 120, TV 121, TV 122, TV 123, TV 124, TV 125, TV 126, TV 127, TV 128, TV 129, TV 130, TV 131, TV 132, TV 133, TV 134, TV 135, TV 136, TV 137, TV 138, TV 139, TV 140, TV 141, TV 142, TV 143, TV 144, TV 145, TV 146, TV 147, TV 148, TV 149, TV 150, TV 151, TV 152, TV 153, TV 154, TV 155, TV 156, TV 157, TV 158, TV 159, TV 160, TV 161, TV 162, TV 163, TV 164, TV 165, TV 166, TV 167, TV 168, TV 169, TV 170, TV 171, TV 172, TV 173, TV 174] from rfl, f6, hdf] at hac
                              simp only [Option.getD_some] at hac
                              subst hac
                              clear hTV f6
                              go_wp2
                              go_ret
                              exact ⟨rfl, HE.out⟩
                            refine Stps2.cons (o := _) ?_ ?_
                            · intro ac yw hsz hold hB hp K hK
                              have t21 : ac.tmps[21]? = some (.pointer (some ⟨k21, 0, none⟩)) := hold 21 (by kernel_rfl)
                              clear hold hp hsz
                              rw [if_pos (by rfl)]
                              refine ld8 21 rfl (k21) (x21) t21 (RWu.out _ hB.below) (SZu.out.size) ?_
                              exact hK.out _ _ ⟨hB, rfl, Nat.le_refl _, .inl (Below.refl _ _), fun h => absurd h (by decide)⟩
                            refine Stps2.cons (o := _) ?_ ?_
                            · intro ac yw hsz hold hB hp K hK
                              have t22 : ac.tmps[22]? = some (.int .i64 0) := hold 22 (by kernel_rfl)
                              clear hold hp hsz
                              go_simp
                              exact hK.out _ _ ⟨hB, rfl, Nat.le_refl _, .inl (Below.refl _ _), fun h => absurd h (by decide)⟩
                            refine Stps2.cons (o := _) ?_ ?_
                            · intro ac yw hsz hold hB hp K hK
                              have t7 : ac.tmps[7]? = some (.slice ax n0 cx) := hold 7 (by kernel_rfl)
                              clear hold hp hsz
                              go_simp
                              exact hK.out _ _ ⟨hB, rfl, Nat.le_refl _, .inl (Below.refl _ _), fun h => absurd h (by decide)⟩
                            refine Stps2.cons (o := _) ?_ ?_
                            · intro ac yw hsz hold hB hp K hK
                              have e2 := hp 2 (by decide)
                              have t162 : ac.tmps[162]? = some (.slice ax n0 cx) := (List.cons.inj e2).1
                              clear hold hp hsz e2
                              go_simp
                              (go_at_call 20; (with_reducible refine (PX.out _ _ _ (KX.out _ hB.below)).mono ?_); rintro e wz ⟨x3, rfl, h3_0, hbz⟩)
                              exact hK.out _ _ ⟨hB.go hbz, Exists.intro x3 (And.intro rfl h3_0), hbz.size, .inl hbz, fun h => absurd h (by decide)⟩
                            refine Stps2.cons (o := _) ?_ ?_
                            · intro ac yw hsz hold hB hp K hK
                              have e0 := hp 0 (by decide)
                              have t160 : ac.tmps[160]? = some (.agg x21) := (List.cons.inj e0).1
                              have e1 := hp 1 (by decide)
                              have t161 : ac.tmps[161]? = some (.int .i64 0) := (List.cons.inj e1).1
                              obtain ⟨x3_3, e3, g3_0⟩ := hp 3 (by decide)
                              have t163 : ac.tmps[163]? = some (.agg x3_3) := (List.cons.inj e3).1
                              clear hold hp hsz e0 e1 e3
                              go_simp
                              (go_at_call 11; (with_reducible refine (SOX.out _ _ _ (Au.out _ hB.below) g3_0).mono ?_); rintro e wz ⟨rfl, hbz⟩)
                              exact hK.out _ _ ⟨hB.go hbz, rfl, hbz.size, .inl hbz, fun h => absurd h (by decide)⟩
                            refine Stps2.cons (o := _) ?_ ?_
                            · intro ac yw hsz hold hB hp K hK
                              have e4 := hp 4 (by decide)
                              have t164 : ac.tmps[164]? = some (.bool true) := (List.cons.inj e4).1
                              clear hold hp hsz e4
                              go_simp
                              exact hK.out _ _ ⟨hB, rfl, Nat.le_refl _, .inl (Below.refl _ _), fun h => absurd h (by decide)⟩
                            refine Stps2.cons (o := _) ?_ ?_
                            · intro ac yw hsz hold hB hp K hK
                              have t165 : ac.tmps[165]? = some (.bool true) := (List.cons.inj (hp 5 (by decide))).1
                              rw [if_pos (wanted_pos rfl rfl t165)]
                              have t23 : ac.tmps[23]? = some (.pointer (some ⟨k23, 0, none⟩)) := hold 23 (by kernel_rfl)
                              clear hold hp hsz
                              refine ld8 23 rfl (k23) (x23) t23 (RWv.out _ hB.below) (SZv.out.size) ?_
                              exact hK.out _ _ ⟨hB, rfl, Nat.le_refl _, .inl (Below.refl _ _), fun h => absurd h (by decide)⟩
                            refine Stps2.cons (o := _) ?_ ?_
                            · intro ac yw hsz hold hB hp K hK
                              have t165 : ac.tmps[165]? = some (.bool true) := (List.cons.inj (hp 5 (by decide))).1
                              rw [if_pos (wanted_pos rfl rfl t165)]
                              have t24 : ac.tmps[24]? = some (.int .i64 0) := hold 24 (by kernel_rfl)
                              clear hold hp hsz
                              go_simp
                              exact hK.out _ _ ⟨hB, rfl, Nat.le_refl _, .inl (Below.refl _ _), fun h => absurd h (by decide)⟩
                            refine Stps2.cons (o := _) ?_ ?_
                            · intro ac yw hsz hold hB hp K hK
                              have t165 : ac.tmps[165]? = some (.bool true) := (List.cons.inj (hp 5 (by decide))).1
                              rw [if_pos (wanted_pos rfl rfl t165)]
                              have t8 : ac.tmps[8]? = some (.slice ay n1 cy) := hold 8 (by kernel_rfl)
                              clear hold hp hsz
                              go_simp
                              exact hK.out _ _ ⟨hB, rfl, Nat.le_refl _, .inl (Below.refl _ _), fun h => absurd h (by decide)⟩
                            refine Stps2.cons (o := _) ?_ ?_
                            · intro ac yw hsz hold hB hp K hK
                              have t165 : ac.tmps[165]? = some (.bool true) := (List.cons.inj (hp 5 (by decide))).1
                              rw [if_pos (wanted_pos rfl rfl t165)]
                              have e8 := hp 8 (by decide)
                              have t168 : ac.tmps[168]? = some (.slice ay n1 cy) := (List.cons.inj e8).1
                              clear hold hp hsz e8
                              go_simp
                              (go_at_call 20; (with_reducible refine (PY.out _ _ _ (KY.out _ hB.below)).mono ?_); rintro e wz ⟨x9, rfl, h9_0, hbz⟩)
                              exact hK.out _ _ ⟨hB.go hbz, Exists.intro x9 (And.intro rfl h9_0), hbz.size, .inl hbz, fun h => absurd h (by decide)⟩
                            refine Stps2.cons (o := _) ?_ ?_
                            · intro ac yw hsz hold hB hp K hK
                              have t165 : ac.tmps[165]? = some (.bool true) := (List.cons.inj (hp 5 (by decide))).1
                              rw [if_pos (wanted_pos rfl rfl t165)]
                              have e6 := hp 6 (by decide)
                              have t166 : ac.tmps[166]? = some (.agg x23) := (List.cons.inj e6).1
                              have e7 := hp 7 (by decide)
                              have t167 : ac.tmps[167]? = some (.int .i64 0) := (List.cons.inj e7).1
                              obtain ⟨x9_9, e9, g9_0⟩ := hp 9 (by decide)
                              have t169 : ac.tmps[169]? = some (.agg x9_9) := (List.cons.inj e9).1
                              clear hold hp hsz e6 e7 e9
                              go_simp
                              (go_at_call 11; (with_reducible refine (SOY.out _ _ _ (Av.out _ hB.below) g9_0).mono ?_); rintro e wz ⟨rfl, hbz⟩)
                              exact hK.out _ _ ⟨hB.go hbz, rfl, hbz.size, .inl hbz, fun h => absurd h (by decide)⟩
                            refine Stps2.cons (o := _) ?_ ?_
                            · intro ac yw hsz hold hB hp K hK
                              have e5 := hp 5 (by decide)
                              have t165 : ac.tmps[165]? = some (.bool true) := (List.cons.inj e5).1
                              have e10 := hp 10 (by decide)
                              have t170 : ac.tmps[170]? = some (.bool true) := (List.cons.inj e10).1
                              clear hold hp hsz e5 e10
                              go_simp
                              exact hK.out _ _ ⟨hB, rfl, Nat.le_refl _, .inl (Below.refl _ _), fun h => absurd h (by decide)⟩
                            refine Stps2.cons (o := _) ?_ ?_
                            · intro ac yw hsz hold hB hp K hK
                              have e11 := hp 11 (by decide)
                              have t171 : ac.tmps[171]? = some (.bool true) := (List.cons.inj e11).1
                              clear hold hp hsz e11
                              go_simp
                              exact hK.out _ _ ⟨hB, rfl, Nat.le_refl _, .inl (Below.refl _ _), fun h => absurd h (by decide)⟩
                            refine Stps2.cons (o := _) ?_ ?_
                            · intro ac yw hsz hold hB hp K hK
                              have t172 : ac.tmps[172]? = some (.bool true) := (List.cons.inj (hp 12 (by decide))).1
                              rw [if_pos (wanted_pos rfl rfl t172)]
                              clear hold hp hsz
                              go_simp
                              (go_at_call 7; (with_reducible refine (AW.out _).mono ?_); rintro e wz ⟨rfl, hbz⟩)
                              exact hK.out _ _ ⟨hB.go hbz, rfl, hbz.size, .inl hbz, fun h => absurd h (by decide)⟩
                            refine Stps2.cons (o := _) ?_ ?_
                            · intro ac yw hsz hold hB hp K hK
                              have e12 := hp 12 (by decide)
                              have t172 : ac.tmps[172]? = some (.bool true) := (List.cons.inj e12).1
                              have e13 := hp 13 (by decide)
                              have t173 : ac.tmps[173]? = some (.bool true) := (List.cons.inj e13).1
                              clear hold hp hsz e12 e13
                              go_simp
                              exact hK.out _ _ ⟨hB, rfl, Nat.le_refl _, .inl (Below.refl _ _), fun h => absurd h (by decide)⟩
                            refine Stps2.cons (o := _) ?_ ?_
                            · intro ac yw hsz hold hB hp K hK
                              have e14 := hp 14 (by decide)
                              have t174 : ac.tmps[174]? = some (.bool true) := (List.cons.inj e14).1
                              clear hold hp hsz e14
                              go_simp
                              exact hK.out _ _ ⟨hB, rfl, Nat.le_refl _, .inl (Below.refl _ _), fun h => absurd h (by decide)⟩
                            exact Stps2.nil _
                          refine Stps2.cons (o := _) ?_ ?_
                          · intro ac yw hsz hold hB hp K hK
                            have t7 : ac.tmps[7]? = some (.slice ax n0 cx) := hold 7 (by kernel_rfl)
                            clear hold hp hsz
                            go_simp
                            exact hK.out _ _ ⟨hB, rfl, Nat.le_refl _, .inl (Below.refl _ _), fun h => absurd h (by decide)⟩
                          refine Stps2.cons (o := _) ?_ ?_
                          · intro ac yw hsz hold hB hp K hK
                            have e0 := hp 0 (by decide)
                            have t120 : ac.tmps[120]? = some (.slice ax n0 cx) := (List.cons.inj e0).1
                            clear hold hp hsz e0
                            go_simp
                            exact hK.out _ _ ⟨hB, rfl, Nat.le_refl _, .inl (Below.refl _ _), fun h => absurd h (by decide)⟩
                          refine Stps2.cons (o := _) ?_ ?_
                          · intro ac yw hsz hold hB hp K hK
                            have e1 := hp 1 (by decide)
                            have t121 : ac.tmps[121]? = some (.int .i64 (n0 : Nat)) := (List.cons.inj e1).1
                            clear hold hp hsz e1
                            go_simp
                            (go_at_call 16; (with_reducible refine (IK.out _).mono ?_); rintro e wz ⟨x2, rfl, h2_0, hbz⟩)
                            exact hK.out _ _ ⟨hB.go hbz, Exists.intro x2 (And.intro rfl h2_0), hbz.size, .inl hbz, fun h => absurd h (by decide)⟩
                          refine Stps2.cons (o := _) ?_ ?_
                          · intro ac yw hsz hold hB hp K hK
                            have t13 : ac.tmps[13]? = some (.pointer (some ⟨k13, 0, none⟩)) := hold 13 (by kernel_rfl)
                            clear hold hp hsz
                            rw [if_pos (by rfl)]
                            refine ld8 13 rfl (k13) (Xa) t13 (RWa.out _ hB.below) (SZa.out.size) ?_
                            exact hK.out _ _ ⟨hB, rfl, Nat.le_refl _, .inl (Below.refl _ _), fun h => absurd h (by decide)⟩
                          refine Stps2.cons (o := _) ?_ ?_
                          · intro ac yw hsz hold hB hp K hK
                            obtain ⟨x2_2, e2, g2_0⟩ := hp 2 (by decide)
                            have t122 : ac.tmps[122]? = some (.agg x2_2) := (List.cons.inj e2).1
                            have e3 := hp 3 (by decide)
                            have t123 : ac.tmps[123]? = some (.agg Xa) := (List.cons.inj e3).1
                            clear hold hp hsz e2 e3
                            go_simp
                            (go_at_call 17; (refine (DR.out _ _ _ g2_0 (Aa.out _ hB.below)).mono ?_); rintro e wz ⟨x4, rfl, h4_0, hbz⟩)
                            exact hK.out _ _ ⟨hB.go hbz, Exists.intro x4 (And.intro rfl (And.intro h4_0 h4_0.isA)), hbz.size, .inl hbz, fun h => absurd h (by decide)⟩
                          refine Stps2.cons (o := _) ?_ ?_
                          · intro ac yw hsz hold hB hp K hK
                            obtain ⟨x4_4, e4, g4_0, g4_1⟩ := hp 4 (by decide)
                            have t124 : ac.tmps[124]? = some (.tuple #[.agg x4_4, .int .i64 0]) := (List.cons.inj e4).1
                            clear hold hp hsz e4
                            go_simp
                            exact hK.out _ _ ⟨hB, Exists.intro x4_4 (And.intro rfl (And.intro g4_0 g4_1)), Nat.le_refl _, .inl (Below.refl _ _), fun h => absurd h (by decide)⟩
                          refine Stps2.cons (o := _) ?_ ?_
                          · intro ac yw hsz hold hB hp K hK
                            obtain ⟨x4_5, e5, g5_0, g5_1⟩ := hp 5 (by decide)
                            have t119 : ac.tmps[119]? = some (.tuple #[.agg x4_5, .int .i64 0]) := (List.cons.inj e5).1
                            clear hold hp hsz e5
                            go_simp
                            exact hK.out _ _ ⟨hB, Exists.intro x4_5 (And.intro rfl (And.intro g5_0 g5_1)), Nat.le_refl _, .inl (Below.refl _ _), fun h => absurd h (by decide)⟩
                          refine Stps2.cons (o := _) ?_ ?_
                          · intro ac yw hsz hold hB hp K hK
                            obtain ⟨x4_5, e5, g5_0, g5_1⟩ := hp 5 (by decide)
                            have t119 : ac.tmps[119]? = some (.tuple #[.agg x4_5, .int .i64 0]) := (List.cons.inj e5).1
                            clear hold hp hsz e5
                            go_simp
                            exact hK.out _ _ ⟨hB, rfl, Nat.le_refl _, .inl (Below.refl _ _), fun h => absurd h (by decide)⟩
                          refine Stps2.cons (o := _) ?_ ?_
                          · intro ac yw hsz hold hB hp K hK
                            clear hold hp hsz
                            have hbz : Below yw.heap.size yw (yw.alloc (.cells zerC 32)) ∧ yw.heap.size < (yw.alloc (.cells zerC 32)).heap.size := ⟨(Below.refl _ _).alloc (Nat.le_refl _) _, by rw [World.size_alloc]; omega⟩
                            go_simp
                            exact hK.out _ _ ⟨hB.alloc _, Exists.intro yw.heap.size (Exists.intro zerC (And.intro rfl (And.intro ((Row.new yw _ zerC)) (And.intro IsA.zer hB.below.size)))), Nat.le_of_lt hbz.2, .inl hbz.1, fun _ => ⟨_, rfl, Nat.le_refl _, hbz.2⟩⟩
                          refine Stps2.cons (o := _) ?_ ?_
                          · intro ac yw hsz hold hB hp K hK
                            obtain ⟨k8_8, z8_8, e8, g8_0, g8_1, g8_2⟩ := hp 8 (by decide)
                            have t23 : ac.tmps[23]? = some (.pointer (some ⟨k8_8, 0, none⟩)) := (List.cons.inj e8).1
                            obtain ⟨x4_6, e6, g6_0, g6_1⟩ := hp 6 (by decide)
                            have t125 : ac.tmps[125]? = some (.agg x4_6) := (List.cons.inj e6).1
                            clear hold hp hsz e8 e6
                            rw [if_pos (by rfl)]
                            have HB : Bag _ (fun _ => True) (yw.setRow k8_8 x4_6) := ⟨below_put hB.below g8_2 _, fun _ _ _ _ => trivial, trivial⟩
                            refine st8 23 125 rfl k8_8 x4_6 t23 t125 _ z8_8 g8_0 g8_1 g6_1 ?_
                            refine hK.out undef _ ⟨HB, Exists.intro k8_8 (Exists.intro x4_6 (And.intro (congrArg (fun x => [x]) t23) (And.intro (g8_0.put _) (And.intro (Arr.store g6_0 g8_0 g8_1 _) g6_1)))), by simp [World.setRow], .inr ?_, fun h => absurd h (by decide)⟩
                            intro jj hj hap h
                            match jj, h with
                            | 0, h => exact h
                            | 1, h => exact h
                            | 2, ⟨x2, e2, g2_0⟩ =>
                              exact Exists.intro x2 (And.intro e2 (g2_0.store g8_0 g8_1 _))
                            | 3, h => exact h
                            | 4, ⟨x4, e4, g4_0, g4_1⟩ =>
                              exact Exists.intro x4 (And.intro e4 (And.intro (Arr.store g4_0 g8_0 g8_1 _) g4_1))
                            | 5, ⟨x4, e5, g5_0, g5_1⟩ =>
                              exact Exists.intro x4 (And.intro e5 (And.intro (Arr.store g5_0 g8_0 g8_1 _) g5_1))
                            | 6, ⟨x4, e6, g6_0, g6_1⟩ =>
                              exact Exists.intro x4 (And.intro e6 (And.intro (Arr.store g6_0 g8_0 g8_1 _) g6_1))
                            | 7, h => exact h
                            | 8, ⟨k8, z8, e8, g8_0, g8_1, g8_2⟩ =>
                              have e9 : k8 = k8_8 := by have := (List.cons.inj e8).1.symm.trans t23; cases this; rfl
                              subst e9
                              exact Exists.intro _ (Exists.intro _ (And.intro e8 (And.intro (g8_0.put _) (And.intro g6_1 g8_2))))
                            | 9, _ => exact absurd rfl hj
                            | 10, h => exact h
                            | _ + 11, h => exact h
                          refine Stps2.cons (o := _) ?_ ?_
                          · intro ac yw hsz hold hB hp K hK
                            have e7 := hp 7 (by decide)
                            have t126 : ac.tmps[126]? = some (.int .i64 0) := (List.cons.inj e7).1
                            clear hold hp hsz e7
                            go_simp
                            exact hK.out _ _ ⟨hB, rfl, Nat.le_refl _, .inl (Below.refl _ _), fun h => absurd h (by decide)⟩
                          exact Stps2.nil _
                        refine Stps2.cons (o := _) ?_ ?_
                        · intro ac yw hsz hold hB hp K hK
                          have t7 : ac.tmps[7]? = some (.slice ax n0 cx) := hold 7 (by kernel_rfl)
                          clear hold hp hsz
                          go_simp
                          exact hK.out _ _ ⟨hB, rfl, Nat.le_refl _, .inl (Below.refl _ _), fun h => absurd h (by decide)⟩
                        refine Stps2.cons (o := _) ?_ ?_
                        · intro ac yw hsz hold hB hp K hK
                          have e0 := hp 0 (by decide)
                          have t112 : ac.tmps[112]? = some (.slice ax n0 cx) := (List.cons.inj e0).1
                          clear hold hp hsz e0
                          go_simp
                          exact hK.out _ _ ⟨hB, rfl, Nat.le_refl _, .inl (Below.refl _ _), fun h => absurd h (by decide)⟩
                        refine Stps2.cons (o := _) ?_ ?_
                        · intro ac yw hsz hold hB hp K hK
                          have e1 := hp 1 (by decide)
                          have t113 : ac.tmps[113]? = some (.int .i64 (n0 : Nat)) := (List.cons.inj e1).1
                          clear hold hp hsz e1
                          go_simp
                          (go_at_call 16; (with_reducible refine (IK.out _).mono ?_); rintro e wz ⟨x2, rfl, h2_0, hbz⟩)
                          exact hK.out _ _ ⟨hB.go hbz, Exists.intro x2 (And.intro rfl h2_0), hbz.size, .inl hbz, fun h => absurd h (by decide)⟩
                        refine Stps2.cons (o := _) ?_ ?_
                        · intro ac yw hsz hold hB hp K hK
                          have t13 : ac.tmps[13]? = some (.pointer (some ⟨k13, 0, none⟩)) := hold 13 (by kernel_rfl)
                          clear hold hp hsz
                          rw [if_pos (by rfl)]
                          refine ld8 13 rfl (k13) (Xa) t13 (RWa.out _ hB.below) (SZa.out.size) ?_
                          exact hK.out _ _ ⟨hB, rfl, Nat.le_refl _, .inl (Below.refl _ _), fun h => absurd h (by decide)⟩
                        refine Stps2.cons (o := _) ?_ ?_
                        · intro ac yw hsz hold hB hp K hK
                          obtain ⟨x2_2, e2, g2_0⟩ := hp 2 (by decide)
                          have t114 : ac.tmps[114]? = some (.agg x2_2) := (List.cons.inj e2).1
                          have e3 := hp 3 (by decide)
                          have t115 : ac.tmps[115]? = some (.agg Xa) := (List.cons.inj e3).1
                          clear hold hp hsz e2 e3
                          go_simp
                          (go_at_call 15; (refine (TK.out _ _ _ g2_0 (Aa.out _ hB.below)).mono ?_); rintro e wz ⟨x4, rfl, h4_0, hbz⟩)
                          exact hK.out _ _ ⟨hB.go hbz, Exists.intro x4 (And.intro rfl (And.intro h4_0 h4_0.isA)), hbz.size, .inl hbz, fun h => absurd h (by decide)⟩
                        refine Stps2.cons (o := _) ?_ ?_
                        · intro ac yw hsz hold hB hp K hK
                          obtain ⟨x4_4, e4, g4_0, g4_1⟩ := hp 4 (by decide)
                          have t116 : ac.tmps[116]? = some (.tuple #[.agg x4_4, .int .i64 0]) := (List.cons.inj e4).1
                          clear hold hp hsz e4
                          go_simp
                          exact hK.out _ _ ⟨hB, Exists.intro x4_4 (And.intro rfl (And.intro g4_0 g4_1)), Nat.le_refl _, .inl (Below.refl _ _), fun h => absurd h (by decide)⟩
                        refine Stps2.cons (o := _) ?_ ?_
                        · intro ac yw hsz hold hB hp K hK
                          obtain ⟨x4_5, e5, g5_0, g5_1⟩ := hp 5 (by decide)
                          have t111 : ac.tmps[111]? = some (.tuple #[.agg x4_5, .int .i64 0]) := (List.cons.inj e5).1
                          clear hold hp hsz e5
                          go_simp
                          exact hK.out _ _ ⟨hB, Exists.intro x4_5 (And.intro rfl (And.intro g5_0 g5_1)), Nat.le_refl _, .inl (Below.refl _ _), fun h => absurd h (by decide)⟩
                        refine Stps2.cons (o := _) ?_ ?_
                        · intro ac yw hsz hold hB hp K hK
                          obtain ⟨x4_5, e5, g5_0, g5_1⟩ := hp 5 (by decide)
                          have t111 : ac.tmps[111]? = some (.tuple #[.agg x4_5, .int .i64 0]) := (List.cons.inj e5).1
                          clear hold hp hsz e5
                          go_simp
                          exact hK.out _ _ ⟨hB, rfl, Nat.le_refl _, .inl (Below.refl _ _), fun h => absurd h (by decide)⟩
                        refine Stps2.cons (o := _) ?_ ?_
                        · intro ac yw hsz hold hB hp K hK
                          clear hold hp hsz
                          have hbz : Below yw.heap.size yw (yw.alloc (.cells zerC 32)) ∧ yw.heap.size < (yw.alloc (.cells zerC 32)).heap.size := ⟨(Below.refl _ _).alloc (Nat.le_refl _) _, by rw [World.size_alloc]; omega⟩
                          go_simp
                          exact hK.out _ _ ⟨hB.alloc _, Exists.intro yw.heap.size (Exists.intro zerC (And.intro rfl (And.intro ((Row.new yw _ zerC)) (And.intro IsA.zer hB.below.size)))), Nat.le_of_lt hbz.2, .inl hbz.1, fun _ => ⟨_, rfl, Nat.le_refl _, hbz.2⟩⟩
                        refine Stps2.cons (o := _) ?_ ?_
                        · intro ac yw hsz hold hB hp K hK
                          obtain ⟨k8_8, z8_8, e8, g8_0, g8_1, g8_2⟩ := hp 8 (by decide)
                          have t21 : ac.tmps[21]? = some (.pointer (some ⟨k8_8, 0, none⟩)) := (List.cons.inj e8).1
                          obtain ⟨x4_6, e6, g6_0, g6_1⟩ := hp 6 (by decide)
                          have t117 : ac.tmps[117]? = some (.agg x4_6) := (List.cons.inj e6).1
                          clear hold hp hsz e8 e6
                          rw [if_pos (by rfl)]
                          have HB : Bag _ (fun _ => True) (yw.setRow k8_8 x4_6) := ⟨below_put hB.below g8_2 _, fun _ _ _ _ => trivial, trivial⟩
                          refine st8 21 117 rfl k8_8 x4_6 t21 t117 _ z8_8 g8_0 g8_1 g6_1 ?_
                          refine hK.out undef _ ⟨HB, Exists.intro k8_8 (Exists.intro x4_6 (And.intro (congrArg (fun x => [x]) t21) (And.intro (g8_0.put _) (And.intro (Arr.store g6_0 g8_0 g8_1 _) g6_1)))), by simp [World.setRow], .inr ?_, fun h => absurd h (by decide)⟩
                          intro jj hj hap h
                          match jj, h with
                          | 0, h => exact h
                          | 1, h => exact h
                          | 2, ⟨x2, e2, g2_0⟩ =>
                            exact Exists.intro x2 (And.intro e2 (g2_0.store g8_0 g8_1 _))
                          | 3, h => exact h
                          | 4, ⟨x4, e4, g4_0, g4_1⟩ =>
                            exact Exists.intro x4 (And.intro e4 (And.intro (Arr.store g4_0 g8_0 g8_1 _) g4_1))
                          | 5, ⟨x4, e5, g5_0, g5_1⟩ =>
                            exact Exists.intro x4 (And.intro e5 (And.intro (Arr.store g5_0 g8_0 g8_1 _) g5_1))
                          | 6, ⟨x4, e6, g6_0, g6_1⟩ =>
                            exact Exists.intro x4 (And.intro e6 (And.intro (Arr.store g6_0 g8_0 g8_1 _) g6_1))
                          | 7, h => exact h
                          | 8, ⟨k8, z8, e8, g8_0, g8_1, g8_2⟩ =>
                            have e9 : k8 = k8_8 := by have := (List.cons.inj e8).1.symm.trans t21; cases this; rfl
                            subst e9
                            exact Exists.intro _ (Exists.intro _ (And.intro e8 (And.intro (g8_0.put _) (And.intro g6_1 g8_2))))
                          | 9, _ => exact absurd rfl hj
                          | 10, h => exact h
                          | _ + 11, h => exact h
                        refine Stps2.cons (o := _) ?_ ?_
                        · intro ac yw hsz hold hB hp K hK
                          have e7 := hp 7 (by decide)
                          have t118 : ac.tmps[118]? = some (.int .i64 0) := (List.cons.inj e7).1
                          clear hold hp hsz e7
                          go_simp
                          exact hK.out _ _ ⟨hB, rfl, Nat.le_refl _, .inl (Below.refl _ _), fun h => absurd h (by decide)⟩
                        exact Stps2.nil _
                      refine Stps2.cons (o := _) ?_ ?_
                      · intro ac yw hsz hold hB hp K hK
                        have t7 : ac.tmps[7]? = some (.slice ax n0 cx) := hold 7 (by kernel_rfl)
                        clear hold hp hsz
                        go_simp
                        exact hK.out _ _ ⟨hB, rfl, Nat.le_refl _, .inl (Below.refl _ _), fun h => absurd h (by decide)⟩
                      refine Stps2.cons (o := _) ?_ ?_
                      · intro ac yw hsz hold hB hp K hK
                        have e0 := hp 0 (by decide)
                        have t105 : ac.tmps[105]? = some (.slice ax n0 cx) := (List.cons.inj e0).1
                        clear hold hp hsz e0
                        go_simp
                        (go_at_call 14; (refine (IX.out _ _ _ (KX.out _ hB.below)).mono ?_); rintro e wz ⟨x1, rfl, h1_0, hbz⟩)
                        exact hK.out _ _ ⟨hB.go hbz, Exists.intro x1 (And.intro rfl h1_0), hbz.size, .inl hbz, fun h => absurd h (by decide)⟩
                      refine Stps2.cons (o := _) ?_ ?_
                      · intro ac yw hsz hold hB hp K hK
                        have t17 : ac.tmps[17]? = some (.pointer (some ⟨k17, 0, none⟩)) := hold 17 (by kernel_rfl)
                        clear hold hp hsz
                        rw [if_pos (by rfl)]
                        refine ld8 17 rfl (k17) (Xc) t17 (RWc.out _ hB.below) (SZc.out.size) ?_
                        exact hK.out _ _ ⟨hB, rfl, Nat.le_refl _, .inl (Below.refl _ _), fun h => absurd h (by decide)⟩
                      refine Stps2.cons (o := _) ?_ ?_
                      · intro ac yw hsz hold hB hp K hK
                        obtain ⟨x1_1, e1, g1_0⟩ := hp 1 (by decide)
                        have t106 : ac.tmps[106]? = some (.agg x1_1) := (List.cons.inj e1).1
                        have e2 := hp 2 (by decide)
                        have t107 : ac.tmps[107]? = some (.agg Xc) := (List.cons.inj e2).1
                        clear hold hp hsz e1 e2
                        go_simp
                        (go_at_call 8; (refine (C4.out _ _ _ g1_0 (Ac.out _ hB.below)).mono ?_); rintro e wz ⟨x3, rfl, h3_0, hbz⟩)
                        exact hK.out _ _ ⟨hB.go hbz, Exists.intro x3 (And.intro rfl (And.intro h3_0 h3_0.isA)), hbz.size, .inl hbz, fun h => absurd h (by decide)⟩
                      refine Stps2.cons (o := _) ?_ ?_
                      · intro ac yw hsz hold hB hp K hK
                        obtain ⟨x3_3, e3, g3_0, g3_1⟩ := hp 3 (by decide)
                        have t108 : ac.tmps[108]? = some (.tuple #[.agg x3_3, .int .i64 0]) := (List.cons.inj e3).1
                        clear hold hp hsz e3
                        go_simp
                        exact hK.out _ _ ⟨hB, Exists.intro x3_3 (And.intro rfl (And.intro g3_0 g3_1)), Nat.le_refl _, .inl (Below.refl _ _), fun h => absurd h (by decide)⟩
                      refine Stps2.cons (o := _) ?_ ?_
                      · intro ac yw hsz hold hB hp K hK
                        obtain ⟨x3_4, e4, g4_0, g4_1⟩ := hp 4 (by decide)
                        have t104 : ac.tmps[104]? = some (.tuple #[.agg x3_4, .int .i64 0]) := (List.cons.inj e4).1
                        clear hold hp hsz e4
                        go_simp
                        exact hK.out _ _ ⟨hB, Exists.intro x3_4 (And.intro rfl (And.intro g4_0 g4_1)), Nat.le_refl _, .inl (Below.refl _ _), fun h => absurd h (by decide)⟩
                      refine Stps2.cons (o := _) ?_ ?_
                      · intro ac yw hsz hold hB hp K hK
                        obtain ⟨x3_4, e4, g4_0, g4_1⟩ := hp 4 (by decide)
                        have t104 : ac.tmps[104]? = some (.tuple #[.agg x3_4, .int .i64 0]) := (List.cons.inj e4).1
                        clear hold hp hsz e4
                        go_simp
                        exact hK.out _ _ ⟨hB, rfl, Nat.le_refl _, .inl (Below.refl _ _), fun h => absurd h (by decide)⟩
                      refine Stps2.cons (o := _) ?_ ?_
                      · intro ac yw hsz hold hB hp K hK
                        clear hold hp hsz
                        have hbz : Below yw.heap.size yw (yw.alloc (.cells zerC 32)) ∧ yw.heap.size < (yw.alloc (.cells zerC 32)).heap.size := ⟨(Below.refl _ _).alloc (Nat.le_refl _) _, by rw [World.size_alloc]; omega⟩
                        go_simp
                        exact hK.out _ _ ⟨hB.alloc _, Exists.intro yw.heap.size (Exists.intro zerC (And.intro rfl (And.intro ((Row.new yw _ zerC)) (And.intro IsA.zer hB.below.size)))), Nat.le_of_lt hbz.2, .inl hbz.1, fun _ => ⟨_, rfl, Nat.le_refl _, hbz.2⟩⟩
                      refine Stps2.cons (o := _) ?_ ?_
                      · intro ac yw hsz hold hB hp K hK
                        obtain ⟨k7_7, z7_7, e7, g7_0, g7_1, g7_2⟩ := hp 7 (by decide)
                        have t19 : ac.tmps[19]? = some (.pointer (some ⟨k7_7, 0, none⟩)) := (List.cons.inj e7).1
                        obtain ⟨x3_5, e5, g5_0, g5_1⟩ := hp 5 (by decide)
                        have t109 : ac.tmps[109]? = some (.agg x3_5) := (List.cons.inj e5).1
                        clear hold hp hsz e7 e5
                        rw [if_pos (by rfl)]
                        have HB : Bag _ (fun _ => True) (yw.setRow k7_7 x3_5) := ⟨below_put hB.below g7_2 _, fun _ _ _ _ => trivial, trivial⟩
                        refine st8 19 109 rfl k7_7 x3_5 t19 t109 _ z7_7 g7_0 g7_1 g5_1 ?_
                        refine hK.out undef _ ⟨HB, Exists.intro k7_7 (Exists.intro x3_5 (And.intro (congrArg (fun x => [x]) t19) (And.intro (g7_0.put _) (And.intro (Arr.store g5_0 g7_0 g7_1 _) g5_1)))), by simp [World.setRow], .inr ?_, fun h => absurd h (by decide)⟩
                        intro jj hj hap h
                        match jj, h with
                        | 0, h => exact h
                        | 1, ⟨x1, e1, g1_0⟩ =>
                          exact Exists.intro x1 (And.intro e1 (Arr.store g1_0 g7_0 g7_1 _))
                        | 2, h => exact h
                        | 3, ⟨x3, e3, g3_0, g3_1⟩ =>
                          exact Exists.intro x3 (And.intro e3 (And.intro (Arr.store g3_0 g7_0 g7_1 _) g3_1))
                        | 4, ⟨x3, e4, g4_0, g4_1⟩ =>
                          exact Exists.intro x3 (And.intro e4 (And.intro (Arr.store g4_0 g7_0 g7_1 _) g4_1))
                        | 5, ⟨x3, e5, g5_0, g5_1⟩ =>
                          exact Exists.intro x3 (And.intro e5 (And.intro (Arr.store g5_0 g7_0 g7_1 _) g5_1))
                        | 6, h => exact h
                        | 7, ⟨k7, z7, e7, g7_0, g7_1, g7_2⟩ =>
                          have e9 : k7 = k7_7 := by have := (List.cons.inj e7).1.symm.trans t19; cases this; rfl
                          subst e9
                          exact Exists.intro _ (Exists.intro _ (And.intro e7 (And.intro (g7_0.put _) (And.intro g5_1 g7_2))))
                        | 8, _ => exact absurd rfl hj
                        | 9, h => exact h
                        | _ + 10, h => exact h
                      refine Stps2.cons (o := _) ?_ ?_
                      · intro ac yw hsz hold hB hp K hK
                        have e6 := hp 6 (by decide)
                        have t110 : ac.tmps[110]? = some (.int .i64 0) := (List.cons.inj e6).1
                        clear hold hp hsz e6
                        go_simp
                        exact hK.out _ _ ⟨hB, rfl, Nat.le_refl _, .inl (Below.refl _ _), fun h => absurd h (by decide)⟩
                      exact Stps2.nil _
                    refine Stps2.cons (o := _) ?_ ?_
                    · intro ac yw hsz hold hB hp K hK
                      have t13 : ac.tmps[13]? = some (.pointer (some ⟨k13, 0, none⟩)) := hold 13 (by kernel_rfl)
                      clear hold hp hsz
                      rw [if_pos (by rfl)]
                      refine ld8 13 rfl (k13) (Xa) t13 (RWa.out _ hB.below) (SZa.out.size) ?_
                      exact hK.out _ _ ⟨hB, rfl, Nat.le_refl _, .inl (Below.refl _ _), fun h => absurd h (by decide)⟩
                    refine Stps2.cons (o := _) ?_ ?_
                    · intro ac yw hsz hold hB hp K hK
                      have t9 : ac.tmps[9]? = some (.slice az n2 cz) := hold 9 (by kernel_rfl)
                      clear hold hp hsz
                      go_simp
                      exact hK.out _ _ ⟨hB, rfl, Nat.le_refl _, .inl (Below.refl _ _), fun h => absurd h (by decide)⟩
                    refine Stps2.cons (o := _) ?_ ?_
                    · intro ac yw hsz hold hB hp K hK
                      have e1 := hp 1 (by decide)
                      have t91 : ac.tmps[91]? = some (.slice az n2 cz) := (List.cons.inj e1).1
                      clear hold hp hsz e1
                      go_simp
                      (go_at_call 14; (refine (IZ.out _ _ _ (KZ.out _ hB.below)).mono ?_); rintro e wz ⟨x2, rfl, h2_0, hbz⟩)
                      exact hK.out _ _ ⟨hB.go hbz, Exists.intro x2 (And.intro rfl h2_0), hbz.size, .inl hbz, fun h => absurd h (by decide)⟩
                    refine Stps2.cons (o := _) ?_ ?_
                    · intro ac yw hsz hold hB hp K hK
                      have e0 := hp 0 (by decide)
                      have t90 : ac.tmps[90]? = some (.agg Xa) := (List.cons.inj e0).1
                      obtain ⟨x2_2, e2, g2_0⟩ := hp 2 (by decide)
                      have t92 : ac.tmps[92]? = some (.agg x2_2) := (List.cons.inj e2).1
                      clear hold hp hsz e0 e2
                      go_simp
                      (go_at_call 8; (refine (C2.out _ _ _ (Aa.out _ hB.below) g2_0).mono ?_); rintro e wz ⟨x3, rfl, h3_0, hbz⟩)
                      exact hK.out _ _ ⟨hB.go hbz, Exists.intro x3 (And.intro rfl (And.intro h3_0 h3_0.isA)), hbz.size, .inl hbz, fun h => absurd h (by decide)⟩
                    refine Stps2.cons (o := _) ?_ ?_
                    · intro ac yw hsz hold hB hp K hK
                      obtain ⟨x3_3, e3, g3_0, g3_1⟩ := hp 3 (by decide)
                      have t93 : ac.tmps[93]? = some (.tuple #[.agg x3_3, .int .i64 0]) := (List.cons.inj e3).1
                      clear hold hp hsz e3
                      go_simp
                      exact hK.out _ _ ⟨hB, Exists.intro x3_3 (And.intro rfl (And.intro g3_0 g3_1)), Nat.le_refl _, .inl (Below.refl _ _), fun h => absurd h (by decide)⟩
                    refine Stps2.cons (o := _) ?_ ?_
                    · intro ac yw hsz hold hB hp K hK
                      obtain ⟨x3_4, e4, g4_0, g4_1⟩ := hp 4 (by decide)
                      have t89 : ac.tmps[89]? = some (.tuple #[.agg x3_4, .int .i64 0]) := (List.cons.inj e4).1
                      clear hold hp hsz e4
                      go_simp
                      exact hK.out _ _ ⟨hB, Exists.intro x3_4 (And.intro rfl (And.intro g4_0 g4_1)), Nat.le_refl _, .inl (Below.refl _ _), fun h => absurd h (by decide)⟩
                    refine Stps2.cons (o := _) ?_ ?_
                    · intro ac yw hsz hold hB hp K hK
                      obtain ⟨x3_4, e4, g4_0, g4_1⟩ := hp 4 (by decide)
                      have t89 : ac.tmps[89]? = some (.tuple #[.agg x3_4, .int .i64 0]) := (List.cons.inj e4).1
                      clear hold hp hsz e4
                      go_simp
                      exact hK.out _ _ ⟨hB, rfl, Nat.le_refl _, .inl (Below.refl _ _), fun h => absurd h (by decide)⟩
                    refine Stps2.cons (o := _) ?_ ?_
                    · intro ac yw hsz hold hB hp K hK
                      clear hold hp hsz
                      have hbz : Below yw.heap.size yw (yw.alloc (.cells zerC 32)) ∧ yw.heap.size < (yw.alloc (.cells zerC 32)).heap.size := ⟨(Below.refl _ _).alloc (Nat.le_refl _) _, by rw [World.size_alloc]; omega⟩
                      go_simp
                      exact hK.out _ _ ⟨hB.alloc _, Exists.intro yw.heap.size (Exists.intro zerC (And.intro rfl (And.intro ((Row.new yw _ zerC)) (And.intro IsA.zer hB.below.size)))), Nat.le_of_lt hbz.2, .inl hbz.1, fun _ => ⟨_, rfl, Nat.le_refl _, hbz.2⟩⟩
                    refine Stps2.cons (o := _) ?_ ?_
                    · intro ac yw hsz hold hB hp K hK
                      obtain ⟨k7_7, z7_7, e7, g7_0, g7_1, g7_2⟩ := hp 7 (by decide)
                      have t15 : ac.tmps[15]? = some (.pointer (some ⟨k7_7, 0, none⟩)) := (List.cons.inj e7).1
                      obtain ⟨x3_5, e5, g5_0, g5_1⟩ := hp 5 (by decide)
                      have t94 : ac.tmps[94]? = some (.agg x3_5) := (List.cons.inj e5).1
                      clear hold hp hsz e7 e5
                      rw [if_pos (by rfl)]
                      have HB : Bag _ (fun _ => True) (yw.setRow k7_7 x3_5) := ⟨below_put hB.below g7_2 _, fun _ _ _ _ => trivial, trivial⟩
                      refine st8 15 94 rfl k7_7 x3_5 t15 t94 _ z7_7 g7_0 g7_1 g5_1 ?_
                      refine hK.out undef _ ⟨HB, Exists.intro k7_7 (Exists.intro x3_5 (And.intro (congrArg (fun x => [x]) t15) (And.intro (g7_0.put _) (And.intro (Arr.store g5_0 g7_0 g7_1 _) g5_1)))), by simp [World.setRow], .inr ?_, fun h => absurd h (by decide)⟩
                      intro jj hj hap h
                      match jj, h with
                      | 0, h => exact h
                      | 1, h => exact h
                      | 2, ⟨x2, e2, g2_0⟩ =>
                        exact Exists.intro x2 (And.intro e2 (Arr.store g2_0 g7_0 g7_1 _))
                      | 3, ⟨x3, e3, g3_0, g3_1⟩ =>
                        exact Exists.intro x3 (And.intro e3 (And.intro (Arr.store g3_0 g7_0 g7_1 _) g3_1))
                      | 4, ⟨x3, e4, g4_0, g4_1⟩ =>
                        exact Exists.intro x3 (And.intro e4 (And.intro (Arr.store g4_0 g7_0 g7_1 _) g4_1))
                      | 5, ⟨x3, e5, g5_0, g5_1⟩ =>
                        exact Exists.intro x3 (And.intro e5 (And.intro (Arr.store g5_0 g7_0 g7_1 _) g5_1))
                      | 6, h => exact h
                      | 7, ⟨k7, z7, e7, g7_0, g7_1, g7_2⟩ =>
                        have e9 : k7 = k7_7 := by have := (List.cons.inj e7).1.symm.trans t15; cases this; rfl
                        subst e9
                        exact Exists.intro _ (Exists.intro _ (And.intro e7 (And.intro (g7_0.put _) (And.intro g5_1 g7_2))))
                      | 8, _ => exact absurd rfl hj
                      | 9, h => exact h
                      | _ + 10, h => exact h
                    refine Stps2.cons (o := _) ?_ ?_
                    · intro ac yw hsz hold hB hp K hK
                      have e6 := hp 6 (by decide)
                      have t95 : ac.tmps[95]? = some (.int .i64 0) := (List.cons.inj e6).1
                      clear hold hp hsz e6
                      go_simp
                      exact hK.out _ _ ⟨hB, rfl, Nat.le_refl _, .inl (Below.refl _ _), fun h => absurd h (by decide)⟩
                    exact Stps2.nil _

theorem own : ownKnob Tryz.prog.godebug = none := by kernel_rfl
theorem laidOut : laidOutB Tryz.prog = true := by kernel_rfl

set_option maxRecDepth 100000 in
theorem joinBack_lifted (os : Os) (started : os.Started) (H : Type) (enc : TypeId × Value → H) :
    ReturnsInHanded {} Tryz.checked os 5 .any (fun w args => (Rows.joinBackSpec.pre enc Tryz.prog Tryz.f5 [] false w args ∧ laidMetH Tryz.prog Rows.joinBackRow.laid w) ∧ sizedMet enc Tryz.prog Tryz.f5 (OpenSpec.ofChange Rows.joinBackSpec) false w args)
      (Rows.joinBackSpec.post enc Tryz.prog Tryz.f5 false true false false) := by
  refine returnsInHanded_of_change_and (C := Tryz.checked) (X := fun w _ => laidMetH Tryz.prog Rows.joinBackRow.laid w) (fun _ _ _ hh h => h.of_heap hh) own started (by kernel_rfl) Tryz.func5
    (ChangeSpec.witness_shaped (enc := enc) (C := Tryz.checked) (os := os) (X := fun w _ => laidMetH Tryz.prog Rows.joinBackRow.laid w) false (World.laidAll Tryz.prog os Rows.joinBackRow.laid) #[.slice none 0 0, .slice none 0 0, .slice none 0 0] 8 (World.laidAll_os _ _ _)
      (World.shaped_of_ZipB (by kernel_rfl) (by kernel_rfl)) (by kernel_rfl) (by kernel_rfl) (by kernel_rfl)
      (by rw [MakeChecks.laidMetH_plain _ _ _ (by kernel_rfl)]; exact laidMet_laidAll _ (by kernel_rfl) (by kernel_rfl))) ?_
  intro W base args ds gs before hval0 hW _ _ _ _
  have hval : ∀ (j : Nat) t v, Tryz.f5.params[j]? = some t → args[j]? = some v → Value.okWide Tryz.prog W .any base t v := hval0
  have hW' := hW
  obtain ⟨p, q, hA0, hV, rfl, _, _⟩ := hW
  have hA : DataW.TrodAll enc Tryz.prog W 0 (fun _ => true) true Tryz.f5.params.toList args.toList ds p := hA0
  rw [Tryz.params5] at hA hval
  obtain ⟨v0, v1, v2, d0, d1, d2, p0, p1, p2, rfl, rfl, rfl, h0, h1, h2⟩ := trodAll_three hA
  obtain ⟨rfl, rfl⟩ := trodVars_none hV
  obtain ⟨a0, n0, c0, f0, rfl, k0, w0⟩ := open_krow (ki := .i8) Tryz.underlying41 Tryz.underlying42 (by kernel_rfl) (hval 0 41 v0 rfl rfl) h0
  obtain ⟨a1, n1, c1, f1, rfl, k1, w1⟩ := open_krow (ki := .i8) Tryz.underlying41 Tryz.underlying42 (by kernel_rfl) (hval 1 41 v1 rfl rfl) h1
  obtain ⟨a2, n2, c2, f2, rfl, k2, w2⟩ := open_krow (ki := .i8) Tryz.underlying41 Tryz.underlying42 (by kernel_rfl) (hval 2 41 v2 rfl rfl) h2
  have hlt : ∀ y ∈ p0 ++ (p1 ++ (p2)), y.block < W.heap.size := fun y hy => by simpa using hW'.lt y (by simpa using hy)
  simp only [List.append_nil] at hW'
  refine (joinBack_walk a0 n0 c0 f0 a1 n1 c1 f1 a2 n2 c2 f2 W k0 (in8_of w0) k1 (in8_of w1) k2 (in8_of w2)).mono fun e W' ⟨he, hb⟩ => ?_
  subst he
  exact ⟨_, rfl, _, _, _, [], _, [], hW', trodAll_mk1 (shut_bool Tryz.underlying4 _), trodAll_mk3 (Below.trod laidOut (by kernel_rfl) (of_decide_eq_true (by kernel_rfl)) h0 hb (fun y hy => hlt y (by simp [hy]))) (Below.trod laidOut (by kernel_rfl) (of_decide_eq_true (by kernel_rfl)) h1 hb (fun y hy => hlt y (by simp [hy]))) (Below.trod laidOut (by kernel_rfl) (of_decide_eq_true (by kernel_rfl)) h2 hb (fun y hy => hlt y (by simp [hy]))), rfl, hb.frame _, fun h => by cases h⟩

theorem joinBack_row : Rows.JoinBackSaid :=
  OpenClaim.holds_of_wide 5 Tryz.f5 rfl rfl rfl rfl rfl rfl rfl ⟨rfl, rfl, rfl, rfl, rfl⟩ rfl rfl rfl rfl rfl (by kernel_rfl) Tryz.func5 (by kernel_rfl)
    (of_decide_eq_true (by kernel_rfl)) (by unfold Func.isWrapper; first | (rw [if_pos (by decide +kernel)]; kernel_rfl) | (rw [if_neg (by decide +kernel)]; exact ⟨rfl, rfl⟩))
    (fun os started H enc _ => joinBack_lifted os started H enc)

theorem joinBack_holds : Rows.JoinBackCardSaid :=
  Claim7.holds_tied_plain_at .later [] [.data, .pinned] true Rows.joinBackCard.stood.harness Rows.joinBackCard.stood.looks joinBack_row (fun _ h => by cases h) (by kernel_rfl) (fun _ h => by cases h) joinBack_row_tie rfl ⟨rfl, rfl⟩ (by kernel_rfl) rfl
    (fun f fn hf hfn => by
      obtain rfl : f = 5 := Option.some.inj ((show Tryz.prog.funcNamed "typeball/typeballlaw10.JoinBack" = some 5 by kernel_rfl).symm.trans hf) |>.symm
      obtain rfl : fn = Tryz.f5 := (Option.some.inj (Tryz.func5.symm.trans hfn)).symm
      exact ⟨by kernel_rfl, fun j t ht => by
        rw [Tryz.params5] at ht
        have hm : t ∈ [41] := by simpa using Array.mem_of_getElem? ht
        have hall : ([41].all fun u => !Tryz.prog.wantsStandIn u) = true := by kernel_rfl
        exact (show Tryz.prog.wantsStandIn t = false by simpa using List.all_eq_true.1 hall t hm)⟩)
    (by kernel_rfl)
#print axioms joinBack_holds
end Go.Proofs.YtifnamlgkooacaaGreatDoor
