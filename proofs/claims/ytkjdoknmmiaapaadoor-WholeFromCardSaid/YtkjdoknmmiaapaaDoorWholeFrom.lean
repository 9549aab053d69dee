/-
  Proved: the law WholeFrom of package typeballlaw02 returns true for every number of 64 bits (statement WholeFromCardSaid), under the row's own conditions.
-/
import Derived.Test.YtkjdoknmmiaapaaDoorWl1
import Derived.Test.YtkjdoknmmiaapaaDoorCards
import Derived.Test.YtkjdoknmmiaapaaDoorTie
import Derived.ProofKit
import Derived.OpenShut
import Derived.LaidMore
import Derived.Lay
import Derived.SevenTiedAt
import Derived.Stop.Joined
namespace Go.Proofs.YtkjdoknmmiaapaaDoor
open Go.ChangeShapes Go.WideShapes Go.ChangeAt Go.RowKit
attribute [local go_sem ↓] Go.wp_at_zero Go.wp_at_succ

set_option maxHeartbeats 3200000 in
set_option maxRecDepth 100000 in
theorem wholeFrom_walk (X : Int) (w : World) (hX : -9223372036854775808 ≤ X ∧ X ≤ 9223372036854775807) :
    Calls Tryd.prog 11 #[.int .i64 X] w fun e w' => e = .returned (.bool true) ∧ Below w.heap.size w w' := by
  have FR := Lib.hid (fun wz => from_any X wz hX)
  have hfit : fitB X = true ∧ fitI X = X := by
    have : fitB X = true := decide_eq_true hX
    exact ⟨this, by unfold fitI; rw [this]; rfl⟩
  have IN := Lib.hid (fun a n c m wz (h : IntAt wz a n c m X) => int_any a n c m X wz h)
  rw [hfit.1, hfit.2] at IN
  have hNl : X.natAbs < 4294967296 ^ 2 := by
    have e : (4294967296 : Nat) ^ 2 = 18446744073709551616 := by decide
    omega
  have hdl : dl X.natAbs ≤ 20 := dl_le _ 20 (by omega) (by omega)
  have DG := Lib.hid (fun a n c m wz (h : IntAt wz a n c m X) => digits_any a n c m X ⟨#[45]⟩ wz h 2 (by omega) hNl (by decide) (by omega))
  have RF := Lib.hid (fun wz => rFrom_any X wz hX)
  have RD := Lib.hid (fun wz => rDigits_any X ⟨#[45]⟩ wz (by omega) (by decide))
  have MN := Lib.hid (fun a n c m wz (h : IntAt wz a n c m X) => minus_any a n c m X wz h)
  have MM := Lib.hid (fun a n c m wz (h : IntAt wz a n c m (-X)) => minus_any a n c m (-X) wz h)
  rw [Int.neg_neg] at MM
  have CM := Lib.hid (fun a n c m a2 n2 c2 m2 wz (h : IntAt wz a n c m X) (g : IntAt wz a2 n2 c2 m2 X) => icmp_any a n c m X a2 n2 c2 m2 X wz h g)
  rw [show cmpZ X X = 0 by unfold cmpZ; rw [if_neg (by omega), if_pos rfl]] at CM
  unfold RTold at RF
  obtain ⟨t, ht⟩ : ∃ t, digS X ⟨#[45]⟩ = t := ⟨_, rfl⟩
  rw [ht] at DG RD
  have hqq : (t.toList == t.toList) = true := by simp
  have hxx : (X == X) = true := by simp
  generalize rB X = b at *
  generalize rS X = s at *
  clear ht hfit hNl hdl hX
  go_enter Tryd.func11, Tryd.ntmps11
  go_wp2_with fail
  go_at_call 61
  (with_reducible refine (FR.out _).mono ?_)
  rintro e w1 ⟨a, n, c, m, rfl, hi1, hb1⟩
  have BB := Lib.hid ((((Bag.start w).go hb1).int hi1).box2 (.slice a n c) (.bool m) 60)
  clear hi1 hb1
  have q0 := BB.out.now.1.cell
  have q1 := BB.out.now.1.cell1
  go_wp2_with fail
  go_at_call 51
  (with_reducible refine (IN.out a n c m _ BB.out.now.2.1).mono ?_)
  rintro e w2 ⟨rfl, hb2⟩
  have BB := Lib.hid (BB.out.go hb2)
  clear hb2 q0 q1
  go_wp2_with fail
  go_region_held3 (fun y => (y.cell? ⟨w1.heap.size, 0, none⟩ = some (.slice a n c) ∧ y.cell? ⟨w1.heap.size, 1, none⟩ = some (.bool m)) ∧ Bag w (fun y => Slot2 y w1.heap.size (.slice a n c) (.bool m) ∧ IntAt y a n c m X ∧ True) y)
    (first
      | (have B9 := BB.out.drew; exact ⟨⟨B9.now.1.cell, B9.now.1.cell1⟩, B9⟩)
      | (have B9 := Bag.go (show Bag w (fun y => Slot2 y w1.heap.size (.slice a n c) (.bool m) ∧ IntAt y a n c m X ∧ True) _ from by go_split_ands; assumption) hb2; exact ⟨⟨B9.now.1.cell, B9.now.1.cell1⟩, B9⟩))
    (first
      | (go_at_call 58; (with_reducible refine (DG.out a n c m _ ?_).mono ?_); exact (show Bag w (fun y => Slot2 y w1.heap.size (.slice a n c) (.bool m) ∧ IntAt y a n c m X ∧ True) _ from by go_split_ands; assumption).now.2.1; rintro e w2 ⟨rfl, hb2⟩)
      | (go_at_call 62; (with_reducible refine (RF.out _).mono ?_); rintro e w2 ⟨rfl, hb2⟩)
      | (go_at_call 59; (with_reducible refine (RD.out _).mono ?_); rintro e w2 ⟨rfl, hb2⟩)
      | (go_at_call 57; (with_reducible refine (MN.out a n c m _ ?_).mono ?_); exact (show Bag w (fun y => Slot2 y w1.heap.size (.slice a n c) (.bool m) ∧ IntAt y a n c m X ∧ True) _ from by go_split_ands; assumption).now.2.1; rintro e w2 ⟨a3, n3, c3, m3, rfl, hi3, hb2⟩)
      | (go_at_call 57; (with_reducible refine (MM.out a3 n3 c3 m3 _ hi3).mono ?_); rintro e w2 ⟨a4, n4, c4, m4, rfl, hi4, hb2⟩)
      | (go_at_call 63; (with_reducible refine (CM.out a4 n4 c4 m4 a n c m _ hi4 ?_).mono ?_); exact (show Bag w (fun y => Slot2 y w1.heap.size (.slice a n c) (.bool m) ∧ IntAt y a n c m X ∧ True) _ from by go_split_ands; assumption).now.2.1; rintro e w2 ⟨rfl, hb2⟩)
      | (go_at_call 50; refine (awake2_any _).mono ?_; rintro e w2 ⟨rfl, hb2⟩))
  have B3 := Lib.hid (show Bag w (fun y => Slot2 y w1.heap.size (.slice a n c) (.bool m) ∧ IntAt y a n c m X ∧ True) _ from by go_split_ands; assumption)
  go_wp2
  go_ret
  exact ⟨rfl, B3.out.below⟩

theorem own : ownKnob Tryd.prog.godebug = none := by kernel_rfl

set_option maxRecDepth 100000 in
theorem wholeFrom_lifted (os : Os) (started : os.Started) (H : Type) (enc : TypeId × Value → H) :
    ReturnsInHanded {} Tryd.checked os 11 .any (fun w args => (Rows.wholeFromSpec.pre enc Tryd.prog Tryd.f11 [] false w args ∧ laidMetH Tryd.prog Rows.wholeFromRow.laid w) ∧ sizedMet enc Tryd.prog Tryd.f11 (OpenSpec.ofChange Rows.wholeFromSpec) false w args)
      (Rows.wholeFromSpec.post enc Tryd.prog Tryd.f11 false true false false) := by
  refine returnsInHanded_of_change_and (C := Tryd.checked) (X := fun w _ => laidMetH Tryd.prog Rows.wholeFromRow.laid w) (fun _ _ _ hh h => h.of_heap hh) own started (by kernel_rfl) Tryd.func11
    (ChangeSpec.witness_shaped (enc := enc) (C := Tryd.checked) (os := os) (X := fun w _ => laidMetH Tryd.prog Rows.wholeFromRow.laid w) false (World.laidAll Tryd.prog os Rows.wholeFromRow.laid) #[.int .i64 0] 8 (World.laidAll_os _ _ _)
      (World.shaped_of_ZipB (by kernel_rfl) (by kernel_rfl)) (by kernel_rfl) (by kernel_rfl) (by kernel_rfl)
      (by rw [MakeChecks.laidMetH_plain _ _ _ (by kernel_rfl)]; exact laidMet_laidAll _ (by kernel_rfl) (by kernel_rfl))) ?_
  intro W base args ds gs before hval0 hW _ _ _ _
  have hval : ∀ (j : Nat) t v, Tryd.f11.params[j]? = some t → args[j]? = some v → Value.okWide Tryd.prog W .any base t v := hval0
  have hW' := hW
  obtain ⟨p, q, hA0, hV, rfl, _, _⟩ := hW
  have hA : DataW.TrodAll enc Tryd.prog W 0 (fun _ => true) true Tryd.f11.params.toList args.toList ds p := hA0
  rw [Tryd.params11] at hA hval
  obtain ⟨v0, d0, rfl, rfl, h0⟩ := trodAll_one hA
  obtain ⟨rfl, rfl⟩ := trodVars_none hV
  obtain ⟨x0, rfl, rfl, rfl, w0⟩ := open_int Tryd.underlying3 (hval 0 3 v0 rfl rfl) h0
  have b0 : -9223372036854775808 ≤ x0 ∧ x0 ≤ 9223372036854775807 := by simpa [Lit.wf, IntKind.min, IntKind.max, IntKind.signed, IntKind.bits] using w0
  simp only [List.append_nil] at hW'
  refine (wholeFrom_walk x0 W b0).mono fun e W' ⟨he, hb⟩ => ?_
  subst he
  exact ⟨_, rfl, _, _, _, [], [], [], hW', trodAll_mk1 (shut_bool Tryd.underlying4 _), trodAll_mk1 (shut_int Tryd.underlying3 w0), rfl, hb.frame _, fun h => by cases h⟩

theorem wholeFrom_row : Rows.WholeFromSaid :=
  OpenClaim.holds_of_wide 11 Tryd.f11 rfl rfl rfl rfl rfl rfl rfl ⟨rfl, rfl, rfl, rfl, rfl⟩ rfl rfl rfl rfl rfl (by kernel_rfl) Tryd.func11 (by kernel_rfl)
    (of_decide_eq_true (by kernel_rfl)) (by unfold Func.isWrapper; first | (rw [if_pos (by decide +kernel)]; kernel_rfl) | (rw [if_neg (by decide +kernel)]; exact ⟨rfl, rfl⟩))
    (fun os started H enc _ => wholeFrom_lifted os started H enc)

theorem wholeFrom_holds : Rows.WholeFromCardSaid :=
  Claim7.holds_tied_plain_at .later [] [.data, .pinned] true Rows.wholeFromCard.stood.harness false wholeFrom_row (fun _ h => by cases h) (by kernel_rfl) (fun _ h => by cases h) wholeFrom_row_tie rfl ⟨rfl, rfl⟩ (by kernel_rfl) rfl
    (fun f fn hf hfn => by
      obtain rfl : f = 11 := Option.some.inj ((show Tryd.prog.funcNamed "typeball/typeballlaw02.WholeFrom" = some 11 by kernel_rfl).symm.trans hf) |>.symm
      obtain rfl : fn = Tryd.f11 := (Option.some.inj (Tryd.func11.symm.trans hfn)).symm
      exact ⟨by kernel_rfl, fun j t ht => by
        rw [Tryd.params11] at ht
        have hm : t ∈ [3] := by simpa using Array.mem_of_getElem? ht
        have hall : ([3].all fun u => !Tryd.prog.wantsStandIn u) = true := by kernel_rfl
        exact (show Tryd.prog.wantsStandIn t = false by simpa using List.all_eq_true.1 hall t hm)⟩)
    (by kernel_rfl)
#print axioms wholeFrom_holds
end Go.Proofs.YtkjdoknmmiaapaaDoor
