/-
  Proved: the law NatOf of package typeballlaw01 returns true for every number of 64 bits (statement NatOfCardSaid), under the row's own condition that the two listed tables of unicode/utf8 start as the program's text lays them.
-/
import Derived.Test.YtimihhnnhpejcaaDoorLaw0
import Derived.Test.YtimihhnnhpejcaaDoorCards
import Derived.Test.YtimihhnnhpejcaaDoorTie
import Derived.ProofKit
import Derived.OpenShut
import Derived.LaidMore
import Derived.Lay
import Derived.SevenTiedAt
import Derived.Stop.Joined
namespace Go.Proofs.YtimihhnnhpejcaaDoor
open Go.ChangeShapes Go.WideShapes Go.ChangeAt Go.RowKit

set_option maxHeartbeats 1600000 in
set_option maxRecDepth 100000 in
theorem natOf_walk (X : Nat) (w : World) (hX : X < 18446744073709551616) : Calls Tryd.prog 4 #[.int .u64 X] w fun e w' => e = .returned (.bool true) ∧ Below w.heap.size w w' := by
  have P1 := of_told X w hX
  have PR := Lib.hid (fun wz => rof_any X wz hX)
  have PT := Lib.hid (fun v wz (h : NatIs wz v X) => text_any v X wz h 2 (by omega) (by omega))
  have PU : Hid (∀ v wz, NatIs wz v X → Calls Tryd.prog 14 #[v] wz fun e w' => e = .returned (.tuple #[.int .u64 X, .bool true]) ∧ Below wz.heap.size wz w') := fun v wz h =>
    (uint_any v X wz h).mono fun e w' ⟨he, hb⟩ => ⟨by rw [he, if_pos hX, decide_eq_true hX], hb⟩
  have hee : ((X : Int) == (X : Int)) = true := by simp
  clear hX
  obtain ⟨D, hD⟩ : ∃ D, str (dec X) = D := ⟨_, rfl⟩
  rw [hD] at PR PT
  clear hD
  have hdd : (D.data.toList == D.data.toList) = true := by simp
  have P1' := Lib.hid P1
  clear P1
  go_enter Tryd.func4, Tryd.ntmps4
  go_wp2_with fail
  go_at_call 24
  refine P1'.out.mono ?_
  rintro e w1 ⟨a, n, c, rfl, hi1, hb1⟩
  have HI1 := Lib.hid (hi1.alloc (.cells #[.slice a n c] 25))
  have S1 := Lib.hid (Slot.new w1 (.slice a n c) 25)
  have HB1 := Lib.hid (hb1.alloc hb1.size (.cells #[.slice a n c] 25))
  clear hi1 hb1
  have q1 := S1.out.cell
  go_wp2_with fail
  go_at_call 14
  refine (PU.out _ _ HI1.out).mono ?_
  rintro e w2 ⟨rfl, hb2⟩
  clear q1
  have HI2 := Lib.hid (HI1.out.below hb2)
  have S2 := Lib.hid (S1.out.below hb2)
  have HB2 := Lib.hid (HB1.out.trans (hb2.mono HB1.out.size))
  clear hb2
  have q2 := S2.out.cell
  go_wp2_with fail
  go_at_call 16
  refine (PT.out _ _ HI2.out).mono ?_
  rintro e w3 ⟨rfl, hb3⟩
  clear q2
  have HB3 := Lib.hid (HB2.out.trans (hb3.mono HB2.out.size))
  clear hb3
  go_wp2_with fail
  go_at_call 25
  refine (PR.out _).mono ?_
  rintro e w4 ⟨rfl, hb4⟩
  have HB4 := Lib.hid (HB3.out.trans (hb4.mono HB3.out.size))
  clear hb4
  go_wp2_with fail
  go_at_call 10
  refine (awake_any _).mono ?_
  rintro e w5 ⟨rfl, hb5⟩
  have HB5 := Lib.hid (HB4.out.trans (hb5.mono HB4.out.size))
  clear hb5
  go_wp2
  go_ret
  exact ⟨rfl, HB5.out⟩

theorem own : ownKnob Tryd.prog.godebug = none := by kernel_rfl

set_option maxRecDepth 100000 in
theorem natOf_lifted (os : Os) (started : os.Started) (H : Type) (enc : TypeId × Value → H) :
    ReturnsInHanded {} Tryd.checked os 4 .any (fun w args => (Rows.natOfSpec.pre enc Tryd.prog Tryd.f4 [] false w args ∧ laidMetH Tryd.prog Rows.natOfRow.laid w) ∧ sizedMet enc Tryd.prog Tryd.f4 (OpenSpec.ofChange Rows.natOfSpec) false w args)
      (Rows.natOfSpec.post enc Tryd.prog Tryd.f4 false true false false) := by
  refine returnsInHanded_of_change_and (C := Tryd.checked) (X := fun w _ => laidMetH Tryd.prog Rows.natOfRow.laid w) (fun _ _ _ hh h => h.of_heap hh) own started (by kernel_rfl) Tryd.func4
    (ChangeSpec.witness_shaped (enc := enc) (C := Tryd.checked) (os := os) (X := fun w _ => laidMetH Tryd.prog Rows.natOfRow.laid w) false (World.laidAll Tryd.prog os Rows.natOfRow.laid) #[.int .u64 0] 8 (World.laidAll_os _ _ _)
      (World.shaped_of_ZipB (by kernel_rfl) (by kernel_rfl)) (by kernel_rfl) (by kernel_rfl) (by kernel_rfl)
      (by rw [MakeChecks.laidMetH_plain _ _ _ (by kernel_rfl)]; exact laidMet_laidAll _ (by kernel_rfl) (by kernel_rfl))) ?_
  intro W base args ds gs before hval0 hW _ _ _ _
  have hval : ∀ (j : Nat) t v, Tryd.f4.params[j]? = some t → args[j]? = some v → Value.okWide Tryd.prog W .any base t v := hval0
  have hW' := hW
  obtain ⟨p, q, hA0, hV, rfl, _, _⟩ := hW
  have hA : DataW.TrodAll enc Tryd.prog W 0 (fun _ => true) true Tryd.f4.params.toList args.toList ds p := hA0
  rw [Tryd.params4] at hA hval
  obtain ⟨v0, d0, rfl, rfl, h0⟩ := trodAll_one hA
  obtain ⟨rfl, rfl⟩ := trodVars_none hV
  obtain ⟨x, rfl, rfl, rfl, wx⟩ := open_int Tryd.underlying30 (hval 0 30 v0 rfl rfl) h0
  simp only [List.append_nil] at hW'
  have hx : 0 ≤ x ∧ x ≤ 18446744073709551615 := by simpa [Lit.wf, IntKind.min, IntKind.max, IntKind.signed, IntKind.bits] using wx
  obtain ⟨X, rfl⟩ : ∃ X : Nat, x = X := ⟨x.toNat, by omega⟩
  refine (natOf_walk X W (by omega)).mono fun e W' ⟨he, hb⟩ => ?_
  subst he
  exact ⟨_, rfl, _, _, _, [], [], [], hW', trodAll_mk1 (shut_bool Tryd.underlying4 _), trodAll_mk1 (shut_int Tryd.underlying30 wx), rfl, hb.frame _, fun h => by cases h⟩

theorem natOf_row : Rows.NatOfSaid :=
  OpenClaim.holds_of_wide 4 Tryd.f4 rfl rfl rfl rfl rfl rfl rfl ⟨rfl, rfl, rfl, rfl, rfl⟩ rfl rfl rfl rfl rfl (by kernel_rfl) Tryd.func4 (by kernel_rfl)
    (of_decide_eq_true (by kernel_rfl)) (by unfold Func.isWrapper; first | (rw [if_pos (by decide +kernel)]; kernel_rfl) | (rw [if_neg (by decide +kernel)]; exact ⟨rfl, rfl⟩))
    (fun os started H enc _ => natOf_lifted os started H enc)

theorem natOf_holds : Rows.NatOfCardSaid :=
  Claim7.holds_tied_plain_at .later [] [.data, .pinned] true Rows.natOfCard.stood.harness false natOf_row (fun _ h => by cases h) (by kernel_rfl) (fun _ h => by cases h) natOf_row_tie rfl ⟨rfl, rfl⟩ (by kernel_rfl) rfl
    (fun f fn hf hfn => by
      obtain rfl : f = 4 := Option.some.inj ((show Tryd.prog.funcNamed "typeball/typeballlaw01.NatOf" = some 4 by kernel_rfl).symm.trans hf) |>.symm
      obtain rfl : fn = Tryd.f4 := (Option.some.inj (Tryd.func4.symm.trans hfn)).symm
      exact ⟨by kernel_rfl, fun j t ht => by
        rw [Tryd.params4] at ht
        have hm : t ∈ [30] := by simpa using Array.mem_of_getElem? ht
        have hall : ([30].all fun u => !Tryd.prog.wantsStandIn u) = true := by kernel_rfl
        exact (show Tryd.prog.wantsStandIn t = false by simpa using List.all_eq_true.1 hall t hm)⟩)
    (by kernel_rfl)
#print axioms natOf_holds
end Go.Proofs.YtimihhnnhpejcaaDoor
