/-
  Proved: the law DeciBack of package typeballlaw04 returns true for every number and every number of digits (statement DeciBackCardSaid), under the row's own conditions.
-/
import Derived.Test.YtgpcfncolhmgfaaGreatDoorDb5
import Derived.Test.YtgpcfncolhmgfaaGreatDoorDb9
import Derived.Test.YtgpcfncolhmgfaaGreatDoorCards
import Derived.Test.YtgpcfncolhmgfaaGreatDoorTie
import Derived.Test.YtgpcfncolhmgfaaGreatDoorNum3
import Derived.LaidMore
import Derived.Lay
import Derived.SevenTiedAt
import Derived.Stop.Joined
import Derived.Laws.StructEq
namespace Go.Proofs.YtgpcfncolhmgfaaGreatDoor
open Go.ChangeShapes Go.WideShapes Go.ChangeAt Go.RowKit Go.WideMaps Go.WideElems
open Go.ChangeMaps (open_string shut_string)
attribute [local go_sem ↓] Go.wp_at_zero Go.wp_at_succ

set_option maxHeartbeats 6400000 in
set_option maxRecDepth 100000 in
theorem deciBack_no (b : Bool) (s t : ByteArray) (many : Int) (w : World) (_ : -9223372036854775808 ≤ many ∧ many ≤ 9223372036854775807) (h : rd4 b s t = false) :
    Calls Tryz.prog 4 #[.agg #[.bool b, .string s, .string t], .int .i64 many] w fun e w' => e = .returned (.bool true) ∧ Below w.heap.size w w' := by
  have BB := Lib.hid ((Bag.start w).box3 (.bool b) (.string s) (.string t) 34)
  have R1 := Lib.hid (fun wz => read4_no b s t wz h)
  unfold RatTold3 at R1
  have q0 := BB.out.now.1.cell
  have q1 := BB.out.now.1.cell1
  have q2 := BB.out.now.1.cell2
  clear h
  go_enter Tryz.func4, Tryz.ntmps4
  go_wp2_with fail
  go_at_call 11
  (with_reducible refine (R1.out _).mono ?_)
  rintro e w1 ⟨a, n, c, m, a2, n2, c2, rfl, hr1, hb1⟩
  have BB := Lib.hid ((BB.out.go hb1).alloc (.cells #[.slice a n c, .bool m, .slice a2 n2 c2] 30))
  clear hr1 hb1 q0 q1 q2
  go_wp2_with fail
  go_at_call 5
  refine (awake4_any _).mono ?_
  rintro e w3 ⟨rfl, hb3⟩
  have BB := Lib.hid (BB.out.go hb3)
  go_wp2
  go_ret
  exact ⟨rfl, BB.out.below⟩

set_option maxHeartbeats 6400000 in
set_option maxRecDepth 100000 in
theorem deciBack_low (b : Bool) (s t : ByteArray) (many : Int) (w : World) (_ : -9223372036854775808 ≤ many ∧ many ≤ 9223372036854775807) (h : rd4 b s t = true) (hf : many < 1) :
    Calls Tryz.prog 4 #[.agg #[.bool b, .string s, .string t], .int .i64 many] w fun e w' => e = .returned (.bool true) ∧ Below w.heap.size w w' := by
  have BB := Lib.hid ((Bag.start w).box3 (.bool b) (.string s) (.string t) 34)
  have R1 := Lib.hid (fun wz => read4_yes b s t wz h)
  unfold RatTold3 at R1
  have d1 : decide (many < 1) = true := decide_eq_true hf
  have q0 := BB.out.now.1.cell
  have q1 := BB.out.now.1.cell1
  have q2 := BB.out.now.1.cell2
  clear h
  go_enter Tryz.func4, Tryz.ntmps4
  go_wp2_with fail
  go_at_call 11
  (with_reducible refine (R1.out _).mono ?_)
  rintro e w1 ⟨a, n, c, m, a2, n2, c2, rfl, hr1, hb1⟩
  have BB := Lib.hid ((BB.out.go hb1).alloc (.cells #[.slice a n c, .bool m, .slice a2 n2 c2] 30))
  clear hr1 hb1 q0 q1 q2
  go_wp2_with fail
  go_at_call 5
  refine (awake4_any _).mono ?_
  rintro e w3 ⟨rfl, hb3⟩
  have BB := Lib.hid (BB.out.go hb3)
  go_wp2
  go_ret
  exact ⟨rfl, BB.out.below⟩

set_option maxHeartbeats 6400000 in
set_option maxRecDepth 100000 in
theorem deciBack_far (b : Bool) (s t : ByteArray) (many : Int) (w : World) (_ : -9223372036854775808 ≤ many ∧ many ≤ 9223372036854775807) (h : rd4 b s t = true) (hf : 40 < many) :
    Calls Tryz.prog 4 #[.agg #[.bool b, .string s, .string t], .int .i64 many] w fun e w' => e = .returned (.bool true) ∧ Below w.heap.size w w' := by
  have BB := Lib.hid ((Bag.start w).box3 (.bool b) (.string s) (.string t) 34)
  have R1 := Lib.hid (fun wz => read4_yes b s t wz h)
  unfold RatTold3 at R1
  have d1 : decide (many < 1) = false := decide_eq_false (by omega)
  have d2 : decide (40 < many) = true := decide_eq_true hf
  have q0 := BB.out.now.1.cell
  have q1 := BB.out.now.1.cell1
  have q2 := BB.out.now.1.cell2
  clear h
  go_enter Tryz.func4, Tryz.ntmps4
  go_wp2_with fail
  go_at_call 11
  (with_reducible refine (R1.out _).mono ?_)
  rintro e w1 ⟨a, n, c, m, a2, n2, c2, rfl, hr1, hb1⟩
  have BB := Lib.hid ((BB.out.go hb1).alloc (.cells #[.slice a n c, .bool m, .slice a2 n2 c2] 30))
  clear hr1 hb1 q0 q1 q2
  go_wp2_with fail
  go_at_call 5
  refine (awake4_any _).mono ?_
  rintro e w3 ⟨rfl, hb3⟩
  have BB := Lib.hid (BB.out.go hb3)
  go_wp2
  go_ret
  exact ⟨rfl, BB.out.below⟩

theorem deciBack_walk (b : Bool) (s t : ByteArray) (many : Int) (w : World) (_ : s.size ≤ maxLen) (_ : t.size ≤ maxLen) (hm : -9223372036854775808 ≤ many ∧ many ≤ 9223372036854775807) :
    Calls Tryz.prog 4 #[.agg #[.bool b, .string s, .string t], .int .i64 many] w fun e w' => e = .returned (.bool true) ∧ Below w.heap.size w w' := by
  cases h : rd4 b s t with
  | false => exact deciBack_no b s t many w hm h
  | true =>
    by_cases h1 : many < 1
    · exact deciBack_low b s t many w hm h h1
    · by_cases h2 : 40 < many
      · exact deciBack_far b s t many w hm h h2
      · obtain ⟨_, _, _, hQ, _, hd1, hd2, _, _⟩ := rd4_spec h
        have ST := Lib.hid (fun wz => short_any (ofP b s t) (ofQ b s t) many wz hQ hd1 hd2 (by omega))
        cases hs : shrt (ofP b s t) (ofQ b s t) many with
        | true => exact deciBack_yes1 b s t many w h (by omega) hs ST
        | false => exact deciBack_yes0 b s t many w h (by omega) hs ST

theorem own : ownKnob Tryz.prog.godebug = none := by kernel_rfl

set_option maxRecDepth 100000 in
theorem deciBack_lifted (os : Os) (started : os.Started) (H : Type) (enc : TypeId × Value → H) :
    ReturnsInHanded {} Tryz.checked os 4 .any (fun w args => (Rows.deciBackSpec.pre enc Tryz.prog Tryz.f4 [] false w args ∧ laidMetH Tryz.prog Rows.deciBackRow.laid w) ∧ sizedMet enc Tryz.prog Tryz.f4 (OpenSpec.ofChange Rows.deciBackSpec) false w args)
      (Rows.deciBackSpec.post enc Tryz.prog Tryz.f4 false true false false) := by
  refine returnsInHanded_of_change_and (C := Tryz.checked) (X := fun w _ => laidMetH Tryz.prog Rows.deciBackRow.laid w) (fun _ _ _ hh h => h.of_heap hh) own started (by kernel_rfl) Tryz.func4
    (ChangeSpec.witness_shaped (enc := enc) (C := Tryz.checked) (os := os) (X := fun w _ => laidMetH Tryz.prog Rows.deciBackRow.laid w) false (World.laidAll Tryz.prog os Rows.deciBackRow.laid) #[.agg #[.bool false, .string ⟨#[]⟩, .string ⟨#[]⟩], .int .i64 0] 8 (World.laidAll_os _ _ _)
      (World.shaped_of_ZipB (by kernel_rfl) (by kernel_rfl)) (by kernel_rfl) (by kernel_rfl) (by kernel_rfl)
      (by rw [MakeChecks.laidMetH_plain _ _ _ (by kernel_rfl)]; exact laidMet_laidAll _ (by kernel_rfl) (by kernel_rfl))) ?_
  intro W base args ds gs before hval0 hW _ _ _ _
  have hval : ∀ (j : Nat) t v, Tryz.f4.params[j]? = some t → args[j]? = some v → Value.okWide Tryz.prog W .any base t v := hval0
  have hW' := hW
  obtain ⟨p, q, hA0, hV, rfl, _, _⟩ := hW
  have hA : DataW.TrodAll enc Tryz.prog W 0 (fun _ => true) true Tryz.f4.params.toList args.toList ds p := hA0
  rw [Tryz.params4] at hA hval
  obtain ⟨v0, v1, d0, d1, p0, p1, rfl, rfl, rfl, h0, h1⟩ := trodAll_two hA
  obtain ⟨rfl, rfl⟩ := trodVars_none hV
  obtain ⟨x0, y0, z0, rfl, rfl, rfl, b0, c0⟩ := open_num (hval 0 34 v0 rfl rfl) h0
  obtain ⟨x1, rfl, rfl, rfl, w1⟩ := open_int Tryz.underlying3 (hval 1 3 v1 rfl rfl) h1
  have b1 : -9223372036854775808 ≤ x1 ∧ x1 ≤ 9223372036854775807 := by simpa [Lit.wf, IntKind.min, IntKind.max, IntKind.signed, IntKind.bits] using w1
  simp only [List.append_nil] at hW'
  refine (deciBack_walk x0 y0 z0 x1 W b0 c0 b1).mono fun e W' ⟨he, hb⟩ => ?_
  subst he
  exact ⟨_, rfl, _, _, _, [], [], [], hW', trodAll_mk1 (shut_bool Tryz.underlying4 _), trodAll_mk2 (shut_num b0 c0) (shut_int Tryz.underlying3 w1), rfl, hb.frame _, fun h => by cases h⟩

theorem deciBack_row : Rows.DeciBackSaid :=
  OpenClaim.holds_of_wide 4 Tryz.f4 rfl rfl rfl rfl rfl rfl rfl ⟨rfl, rfl, rfl, rfl, rfl⟩ rfl rfl rfl rfl rfl (by kernel_rfl) Tryz.func4 (by kernel_rfl)
    (of_decide_eq_true (by kernel_rfl)) (by unfold Func.isWrapper; first | (rw [if_pos (by decide +kernel)]; kernel_rfl) | (rw [if_neg (by decide +kernel)]; exact ⟨rfl, rfl⟩))
    (fun os started H enc _ => deciBack_lifted os started H enc)

theorem deciBack_holds : Rows.DeciBackCardSaid :=
  Claim7.holds_tied_plain_at .later [] [.data, .data, .data, .data, .sentinel, .sentinel, .pinned] true Rows.deciBackCard.stood.harness Rows.deciBackCard.stood.looks deciBack_row (fun _ h => by cases h) (by kernel_rfl) (fun _ h => by cases h) deciBack_row_tie rfl ⟨rfl, rfl⟩ (by kernel_rfl) rfl
    (fun f fn hf hfn => by
      obtain rfl : f = 4 := Option.some.inj ((show Tryz.prog.funcNamed "typeball/typeballlaw04.DeciBack" = some 4 by kernel_rfl).symm.trans hf) |>.symm
      obtain rfl : fn = Tryz.f4 := (Option.some.inj (Tryz.func4.symm.trans hfn)).symm
      exact ⟨by kernel_rfl, fun j t ht => by
        rw [Tryz.params4] at ht
        have hm : t ∈ [34, 3] := by simpa using Array.mem_of_getElem? ht
        have hall : ([34, 3].all fun u => !Tryz.prog.wantsStandIn u) = true := by kernel_rfl
        exact (show Tryz.prog.wantsStandIn t = false by simpa using List.all_eq_true.1 hall t hm)⟩)
    (by kernel_rfl)
#print axioms deciBack_holds
end Go.Proofs.YtgpcfncolhmgfaaGreatDoor
