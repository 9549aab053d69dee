/-
  Proved: the law DyadOrders of package typeballlaw13 returns true for every rune and every int, under the row's own conditions.
-/
import Derived.Test.YtpdcdebnkbnogaaGreatDoorQ1
import Derived.Test.YtpdcdebnkbnogaaGreatDoorQ2
import Derived.Test.YtpdcdebnkbnogaaGreatDoorQ3
import Derived.Test.YtpdcdebnkbnogaaGreatDoorQ4
import Derived.Test.YtpdcdebnkbnogaaGreatDoorQ5
import Derived.Test.YtpdcdebnkbnogaaGreatDoorQ6
import Derived.Test.YtpdcdebnkbnogaaGreatDoorQ7
import Derived.Test.YtpdcdebnkbnogaaGreatDoorQ8
import Derived.Test.YtpdcdebnkbnogaaGreatDoorQ9
import Derived.Test.YtpdcdebnkbnogaaGreatDoorQ10
import Derived.Test.YtpdcdebnkbnogaaGreatDoorCards
import Derived.Test.YtpdcdebnkbnogaaGreatDoorTie
import Derived.Deep.Strs
import Derived.ProofKit
import Derived.OpenShut
import Derived.LaidMore
import Derived.Lay
import Derived.SevenTiedAt
import Derived.Stop.Joined
import Derived.Laws.StructEq
set_option maxHeartbeats 12800000
set_option maxRecDepth 100000
set_option linter.unusedSimpArgs false
set_option linter.unusedVariables false
namespace Go.Proofs.YtpdcdebnkbnogaaGreatDoor
open Go.ChangeShapes Go.WideShapes Go.ChangeAt Go.RowKit Go.WideMaps Go.WideElems
open Go.ChangeMaps (open_string shut_string)
attribute [local go_sem ↓] Go.wp_at_zero Go.wp_at_succ
set_option linter.unusedVariables false
set_option linter.unusedSimpArgs false
theorem dyadOrders_walk (c0 n : Int) (w : World) (_ : -9223372036854775808 <= n /\ n <= 9223372036854775807) :
    Calls Tryz.prog 5 #[.int .i32 c0, .int .i64 n] w fun e w' => e = .returned (.bool true) /\ Below w.heap.size w w' := by
 have CP := Lib.hid (fun wz => dcompare_any c0 n wz)
 have RP := Lib.hid (fun wz => rcompare13_any c0 n wz)
 have AW := Lib.hid (fun wz => awake13_any wz)
 generalize cmpB c0 n = z at *
 have BB := Lib.hid (Bag.start w)
 go_enter Tryz.func5, Tryz.ntmps5
 go_wp2_with fail
 go_at_call 22
 (with_reducible refine (CP.out _).mono ?_)
 rintro e w1 ⟨rfl, hb1⟩
 have BB := Lib.hid (BB.out.go hb1)
 clear hb1
 go_wp2_with fail
 go_at_call 23
 (with_reducible refine (RP.out _).mono ?_)
 rintro e w2 ⟨rfl, hb2⟩
 have BB := Lib.hid (BB.out.go hb2)
 clear hb2
 go_wp2_with fail
 go_at_call 16
 (with_reducible refine (AW.out _).mono ?_)
 rintro e w3 ⟨rfl, hb3⟩
 have BB := Lib.hid (BB.out.go hb3)
 clear hb3
 go_wp2
 go_ret
 exact ⟨rfl, BB.out.below⟩
theorem own : ownKnob Tryz.prog.godebug = none := by kernel_rfl
theorem dyadOrders_lifted (os : Os) (started : os.Started) (H : Type) (enc : TypeId × Value -> H) :
    ReturnsInHanded {} Tryz.checked os 5 .any (fun w args => (Rows.dyadOrdersSpec.pre enc Tryz.prog Tryz.f5 [] false w args /\ laidMetH Tryz.prog Rows.dyadOrdersRow.laid w) /\ sizedMet enc Tryz.prog Tryz.f5 (OpenSpec.ofChange Rows.dyadOrdersSpec) false w args)
     (Rows.dyadOrdersSpec.post enc Tryz.prog Tryz.f5 false true false false) := by
 refine returnsInHanded_of_change_and (C := Tryz.checked) (X := fun w _ => laidMetH Tryz.prog Rows.dyadOrdersRow.laid w) (fun _ _ _ hh h => h.of_heap hh) own started (by kernel_rfl) Tryz.func5
  (ChangeSpec.witness_shaped (enc := enc) (C := Tryz.checked) (os := os) (X := fun w _ => laidMetH Tryz.prog Rows.dyadOrdersRow.laid w) false (World.laidAll Tryz.prog os Rows.dyadOrdersRow.laid) #[.int .i32 0, .int .i64 0] 8 (World.laidAll_os _ _ _)
    (World.shaped_of_ZipB (by kernel_rfl) (by kernel_rfl)) (by kernel_rfl) (by kernel_rfl) (by kernel_rfl)
    (by rw [MakeChecks.laidMetH_plain _ _ _ (by kernel_rfl)]; exact laidMet_laidAll _ (by kernel_rfl) (by kernel_rfl))) ?_
 intro W base args ds gs before hval0 hW _ _ _ _
 have hval : ∀ (j : Nat) t v, Tryz.f5.params[j]? = some t -> args[j]? = some v -> Value.okWide Tryz.prog W .any base t v := hval0
 have hW' := hW
 obtain ⟨p, q, hA0, hV, rfl, _, _⟩ := hW
 have hA : DataW.TrodAll enc Tryz.prog W 0 (fun _ => true) true Tryz.f5.params.toList args.toList ds p := hA0
 rw [Tryz.params5] at hA hval
 obtain ⟨v0, v1, d0, d1, p0, p1, rfl, rfl, rfl, h0, h1⟩ := trodAll_two hA
 obtain ⟨rfl, rfl⟩ := trodVars_none hV
 obtain ⟨x0, rfl, rfl, rfl, w0⟩ := open_int Tryz.underlying21 (hval 0 21 v0 rfl rfl) h0
 obtain ⟨x1, rfl, rfl, rfl, w1⟩ := open_int Tryz.underlying3 (hval 1 3 v1 rfl rfl) h1
 have b1 : -9223372036854775808 <= x1 /\ x1 <= 9223372036854775807 := by simpa [Lit.wf, IntKind.min, IntKind.max, IntKind.signed, IntKind.bits] using w1
 simp only [List.append_nil] at hW'
 refine (dyadOrders_walk x0 x1 W b1).mono fun e W' ⟨he, hb⟩ => ?_
 subst he
 exact ⟨_, rfl, _, _, _, [], [], [], hW', trodAll_mk1 (shut_bool Tryz.underlying4 _), trodAll_mk2 (shut_int Tryz.underlying21 w0) (shut_int Tryz.underlying3 w1), rfl, hb.frame _, fun h => by cases h⟩
theorem dyadOrders_row : Rows.DyadOrdersSaid :=
 OpenClaim.holds_of_wide 5 Tryz.f5 rfl rfl rfl rfl rfl rfl rfl ⟨rfl, rfl, rfl, rfl, rfl⟩ rfl rfl rfl rfl rfl (by kernel_rfl) Tryz.func5 (by kernel_rfl)
  (of_decide_eq_true (by kernel_rfl)) (by unfold Func.isWrapper; first | (rw [if_pos (by decide +kernel)]; kernel_rfl) | (rw [if_neg (by decide +kernel)]; exact ⟨rfl, rfl⟩))
  (fun os started H enc _ => dyadOrders_lifted os started H enc)
theorem dyadOrders_holds : Rows.DyadOrdersCardSaid :=
 Claim7.holds_tied_plain_at .later [] [.data, .pinned] true Rows.dyadOrdersCard.stood.harness Rows.dyadOrdersCard.stood.looks dyadOrders_row (fun _ h => by cases h) (by kernel_rfl) (fun _ h => by cases h) dyadOrders_row_tie rfl ⟨rfl, rfl⟩ (by kernel_rfl) rfl
  (fun f fn hf hfn => by
    obtain rfl : f = 5 := Option.some.inj ((show Tryz.prog.funcNamed "typeball/typeballlaw13.DyadOrders" = some 5 by kernel_rfl).symm.trans hf) |>.symm
    obtain rfl : fn = Tryz.f5 := (Option.some.inj (Tryz.func5.symm.trans hfn)).symm
    exact ⟨by kernel_rfl, fun j t ht => by
     rw [Tryz.params5] at ht
     have hm : t ∈ [21, 3] := by simpa using Array.mem_of_getElem? ht
     have hall : ([21, 3].all fun u => !Tryz.prog.wantsStandIn u) = true := by kernel_rfl
     exact (show Tryz.prog.wantsStandIn t = false by simpa using List.all_eq_true.1 hall t hm)⟩)
  (by kernel_rfl)
#print axioms dyadOrders_holds
end Go.Proofs.YtpdcdebnkbnogaaGreatDoor
