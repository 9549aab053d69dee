/-
  Proved: the law WholeProducts of package typeballlaw02 returns true for every three texts (statement WholeProductsCardSaid), under the row's own conditions.
-/
import Derived.Test.YtageaamioljocaaDoorWl8
import Derived.Test.YtageaamioljocaaDoorCards
import Derived.Test.YtageaamioljocaaDoorTie
import Derived.ProofKit
import Derived.OpenShut
import Derived.LaidMore
import Derived.Lay
import Derived.SevenTiedAt
import Derived.Stop.Joined
namespace Go.Proofs.YtageaamioljocaaDoor
open Go.ChangeShapes Go.WideShapes Go.ChangeAt Go.RowKit Go.WideMaps Go.WideElems
open Go.ChangeMaps (open_string shut_string)
attribute [local go_sem ↓] Go.wp_at_zero Go.wp_at_succ

set_option maxHeartbeats 6400000 in
set_option maxRecDepth 100000 in
theorem wholeProducts_no (s t u : ByteArray) (w : World) (hs : s.size ≤ maxLen) (ht : t.size ≤ maxLen) (hu : u.size ≤ maxLen) (h : (rdK s && rdK t && rdK u) = false) :
    Calls Tryd.prog 3 #[.string s, .string t, .string u] w fun e w' => e = .returned (.bool true) ∧ Below w.heap.size w w' := by
  have RS := Lib.hid (fun wz => lread_any s wz hs)
  have RT := Lib.hid (fun wz => lread_any t wz ht)
  have RU := Lib.hid (fun wz => lread_any u wz hu)
  obtain ⟨g1, hg1⟩ : ∃ g, rdK s = g := ⟨_, rfl⟩
  obtain ⟨g2, hg2⟩ : ∃ g, rdK t = g := ⟨_, rfl⟩
  obtain ⟨g3, hg3⟩ : ∃ g, rdK u = g := ⟨_, rfl⟩
  rw [hg1] at RS h
  rw [hg2] at RT h
  rw [hg3] at RU h
  clear hg1 hg2 hg3 hs ht hu
  generalize rdZ s.data.toList = Z at *
  generalize rdZ t.data.toList = Y at *
  generalize rdZ u.data.toList = X at *
  unfold ReadW at RS RT RU
  generalize rB Z = b at *
  generalize rS Z = d at *
  generalize rB Y = b2 at *
  generalize rS Y = d2 at *
  generalize rB X = b3 at *
  generalize rS X = d3 at *
  cases g1 <;> cases g2 <;> cases g3
  all_goals
    first
      | (exact absurd h (by decide))
      | (clear h
         go_enter Tryd.func3, Tryd.ntmps3
         go_wp2_with fail
         go_at_call 5
         (with_reducible refine (RS.out _).mono ?_)
         rintro e w1 ⟨a, n, c, m, rfl, _, hb1⟩
         have BB := Lib.hid ((((Bag.start w).go hb1).alloc (.cells #[.slice a n c, .bool m] 26)).alloc (.cells #[.bool b, .string d] 28))
         clear hb1
         go_wp2_with fail
         go_at_call 5
         (with_reducible refine (RT.out _).mono ?_)
         rintro e w2 ⟨a2, n2, c2, m2, rfl, _, hb2⟩
         have BB := Lib.hid (((BB.out.go hb2).alloc (.cells #[.slice a2 n2 c2, .bool m2] 26)).alloc (.cells #[.bool b2, .string d2] 28))
         clear hb2
         go_wp2_with fail
         go_at_call 5
         (with_reducible refine (RU.out _).mono ?_)
         rintro e w3 ⟨a3, n3, c3, m3, rfl, _, hb3⟩
         have BB := Lib.hid (((BB.out.go hb3).alloc (.cells #[.slice a3 n3 c3, .bool m3] 26)).alloc (.cells #[.bool b3, .string d3] 28))
         clear hb3
         go_wp2_with fail
         go_at_call 6
         refine (awake2_any _).mono ?_
         rintro e w4 ⟨rfl, hb4⟩
         have BB := Lib.hid (BB.out.go hb4)
         clear hb4
         go_wp2
         go_ret
         exact ⟨rfl, BB.out.below⟩)

theorem wholeProducts_walk (s t u : ByteArray) (w : World) (hs : s.size ≤ maxLen) (ht : t.size ≤ maxLen) (hu : u.size ≤ maxLen) :
    Calls Tryd.prog 3 #[.string s, .string t, .string u] w fun e w' => e = .returned (.bool true) ∧ Below w.heap.size w w' := by
  cases h : (rdK s && rdK t && rdK u) with
  | false => exact wholeProducts_no s t u w hs ht hu h
  | true =>
    rw [Bool.and_eq_true, Bool.and_eq_true] at h
    exact wholeProducts_yes s t u w hs ht hu h.1.1 h.1.2 h.2

theorem own : ownKnob Tryd.prog.godebug = none := by kernel_rfl

set_option maxRecDepth 100000 in
theorem wholeProducts_lifted (os : Os) (started : os.Started) (H : Type) (enc : TypeId × Value → H) :
    ReturnsInHanded {} Tryd.checked os 3 .any (fun w args => (Rows.wholeProductsSpec.pre enc Tryd.prog Tryd.f3 [] false w args ∧ laidMetH Tryd.prog Rows.wholeProductsRow.laid w) ∧ sizedMet enc Tryd.prog Tryd.f3 (OpenSpec.ofChange Rows.wholeProductsSpec) false w args)
      (Rows.wholeProductsSpec.post enc Tryd.prog Tryd.f3 false true false false) := by
  refine returnsInHanded_of_change_and (C := Tryd.checked) (X := fun w _ => laidMetH Tryd.prog Rows.wholeProductsRow.laid w) (fun _ _ _ hh h => h.of_heap hh) own started (by kernel_rfl) Tryd.func3
    (ChangeSpec.witness_shaped (enc := enc) (C := Tryd.checked) (os := os) (X := fun w _ => laidMetH Tryd.prog Rows.wholeProductsRow.laid w) false (World.laidAll Tryd.prog os Rows.wholeProductsRow.laid) #[.string ⟨#[]⟩, .string ⟨#[]⟩, .string ⟨#[]⟩] 8 (World.laidAll_os _ _ _)
      (World.shaped_of_ZipB (by kernel_rfl) (by kernel_rfl)) (by kernel_rfl) (by kernel_rfl) (by kernel_rfl)
      (by rw [MakeChecks.laidMetH_plain _ _ _ (by kernel_rfl)]; exact laidMet_laidAll _ (by kernel_rfl) (by kernel_rfl))) ?_
  intro W base args ds gs before hval0 hW _ _ _ _
  have hval : ∀ (j : Nat) t v, Tryd.f3.params[j]? = some t → args[j]? = some v → Value.okWide Tryd.prog W .any base t v := hval0
  have hW' := hW
  obtain ⟨p, q, hA0, hV, rfl, _, _⟩ := hW
  have hA : DataW.TrodAll enc Tryd.prog W 0 (fun _ => true) true Tryd.f3.params.toList args.toList ds p := hA0
  rw [Tryd.params3] at hA hval
  obtain ⟨v0, v1, v2, d0, d1, d2, p0, p1, p2, rfl, rfl, rfl, h0, h1, h2⟩ := trodAll_three hA
  obtain ⟨rfl, rfl⟩ := trodVars_none hV
  obtain ⟨x0, rfl, rfl, rfl, b0⟩ := open_string Tryd.underlying9 (hval 0 9 v0 rfl rfl) h0
  obtain ⟨x1, rfl, rfl, rfl, b1⟩ := open_string Tryd.underlying9 (hval 1 9 v1 rfl rfl) h1
  obtain ⟨x2, rfl, rfl, rfl, b2⟩ := open_string Tryd.underlying9 (hval 2 9 v2 rfl rfl) h2
  simp only [List.append_nil] at hW'
  refine (wholeProducts_walk x0 x1 x2 W b0 b1 b2).mono fun e W' ⟨he, hb⟩ => ?_
  subst he
  exact ⟨_, rfl, _, _, _, [], [], [], hW', trodAll_mk1 (shut_bool Tryd.underlying4 _), trodAll_mk3 (shut_string Tryd.underlying9 b0) (shut_string Tryd.underlying9 b1) (shut_string Tryd.underlying9 b2), rfl, hb.frame _, fun h => by cases h⟩

theorem wholeProducts_row : Rows.WholeProductsSaid :=
  OpenClaim.holds_of_wide 3 Tryd.f3 rfl rfl rfl rfl rfl rfl rfl ⟨rfl, rfl, rfl, rfl, rfl⟩ rfl rfl rfl rfl rfl (by kernel_rfl) Tryd.func3 (by kernel_rfl)
    (of_decide_eq_true (by kernel_rfl)) (by unfold Func.isWrapper; first | (rw [if_pos (by decide +kernel)]; kernel_rfl) | (rw [if_neg (by decide +kernel)]; exact ⟨rfl, rfl⟩))
    (fun os started H enc _ => wholeProducts_lifted os started H enc)

theorem wholeProducts_holds : Rows.WholeProductsCardSaid :=
  Claim7.holds_tied_plain_at .later [] [.data, .pinned] true Rows.wholeProductsCard.stood.harness false wholeProducts_row (fun _ h => by cases h) (by kernel_rfl) (fun _ h => by cases h) wholeProducts_row_tie rfl ⟨rfl, rfl⟩ (by kernel_rfl) rfl
    (fun f fn hf hfn => by
      obtain rfl : f = 3 := Option.some.inj ((show Tryd.prog.funcNamed "typeball/typeballlaw02.WholeProducts" = some 3 by kernel_rfl).symm.trans hf) |>.symm
      obtain rfl : fn = Tryd.f3 := (Option.some.inj (Tryd.func3.symm.trans hfn)).symm
      exact ⟨by kernel_rfl, fun j t ht => by
        rw [Tryd.params3] at ht
        have hm : t ∈ [9] := by simpa using Array.mem_of_getElem? ht
        have hall : ([9].all fun u => !Tryd.prog.wantsStandIn u) = true := by kernel_rfl
        exact (show Tryd.prog.wantsStandIn t = false by simpa using List.all_eq_true.1 hall t hm)⟩)
    (by kernel_rfl)
#print axioms wholeProducts_holds
end Go.Proofs.YtageaamioljocaaDoor
