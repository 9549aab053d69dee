/-
  Proved: the law ArraySames of package typeballlaw06 returns true for every two plain arrays, under the row's own conditions.
-/
import Derived.Test.YtdnbpkbapmlfaaaGreatDoorAr18
import Derived.Test.YtdnbpkbapmlfaaaGreatDoorOp0
import Derived.Test.YtdnbpkbapmlfaaaGreatDoorPl0
import Derived.SizedLaws
import Derived.Test.YtdnbpkbapmlfaaaGreatDoorCards
import Derived.Test.YtdnbpkbapmlfaaaGreatDoorTie
import Derived.LaidMore
import Derived.Lay
import Derived.SevenTiedAt
import Derived.Stop.Joined
namespace Go.Proofs.YtdnbpkbapmlfaaaGreatDoor
open Go.ChangeShapes Go.WideShapes Go.ChangeAt Go.RowKit Go.WideMaps Go.WideElems

set_option linter.unusedSimpArgs false in
set_option maxHeartbeats 6400000 in
set_option maxRecDepth 100000 in
theorem arraySames_walk (cs : Array Value) (S : Nat → Int) (r : Nat) (ch : Bool) (g : Nat → Int) (tn : Nat) (fB : Nat → Bool) (fS fT : Nat → ByteArray) (nn : Nat) (cs' : Array Value) (S' : Nat → Int) (r' : Nat) (ch' : Bool) (g' : Nat → Int) (tn' : Nat) (gB : Nat → Bool) (gS gT : Nat → ByteArray) (nn' : Nat)
    (w : World) (h : PlnAt w cs S r ch g tn fB fS fT nn) (hS : In64 S r) (hz : ∀ j, j < nn → (fS j).size ≤ maxLen ∧ (fT j).size ≤ maxLen) (h' : PlnAt w cs' S' r' ch' g' tn' gB gS gT nn') (hS' : In64 S' r') (hz' : ∀ j, j < nn' → (gS j).size ≤ maxLen ∧ (gT j).size ≤ maxLen) :
    Calls Tryz.prog 7 #[.agg cs, .agg cs'] w fun e w' => e = .returned (.bool true) ∧ Below w.heap.size w w' := by
  obtain ⟨sa, sc, ta, tc, na, nc, rfl, h1, h2, h3⟩ := h
  obtain ⟨sa', sc', ta', tc', na', nc', rfl, h1', h2', h3'⟩ := h'
  have LP := Lib.hid (fun wz a b c => light_any 300 (plC sa r sc ch ta tn tc na nn nc) S r ch g tn fB fS fT nn wz ⟨sa, sc, ta, tc, na, nc, rfl, a, b, c⟩ hS hz)
  have LQ := Lib.hid (fun wz a b c => light_any 300 (plC sa' r' sc' ch' ta' tn' tc' na' nn' nc') S' r' ch' g' tn' gB gS gT nn' wz ⟨sa', sc', ta', tc', na', nc', rfl, a, b, c⟩ hS' hz')
  have OP := Lib.hid (fun wz a b c hs hn ht ho => lof_any (plC sa r sc ch ta tn tc na nn nc) S r ch g tn fB fS fT nn wz ⟨sa, sc, ta, tc, na, nc, rfl, a, b, c⟩ hS hs hn ht ho)
  have OQ := Lib.hid (fun wz a b c hs hn ht ho => lof_any (plC sa' r' sc' ch' ta' tn' tc' na' nn' nc') S' r' ch' g' tn' gB gS gT nn' wz ⟨sa', sc', ta', tc', na', nc', rfl, a, b, c⟩ hS' hs hn ht ho)
  have PS := Lib.hid (fun wz a b c d e f => r6PSame_any (plC sa r sc ch ta tn tc na nn nc) (plC sa' r' sc' ch' ta' tn' tc' na' nn' nc') S r ch g tn fB fS fT nn S' r' ch' g' tn' gB gS gT nn' wz ⟨sa, sc, ta, tc, na, nc, rfl, a, b, c⟩ ⟨sa', sc', ta', tc', na', nc', rfl, d, e, f⟩)
  have AW := Lib.hid (fun wz => awake6_any wz)
  have BB := Lib.hid ((((((((Bag.start w).krow h1).krow h2).qrow h3).krow h1').krow h2').qrow h3').newRow (plC sa r sc ch ta tn tc na nn nc) 46 |>.newRow (plC sa' r' sc' ch' ta' tn' tc' na' nn' nc') 46)
  simp only [World.size_alloc] at BB
  unfold LightTold at LP LQ
  unfold LOfTold at OP OQ
  unfold SameTold at PS
  unfold plC at LP LQ OP OQ PS
  unfold plC at BB
  unfold plC
  clear h1 h2 h3 h1' h2' h3' hS hS' hz hz'
  go_enter Tryz.func7, Tryz.ntmps7
  go_wp2_with fail
  go_at_call 40
  (with_reducible refine (LP.out _ BB.out.now.2.2.2.2.2.2.2.1 BB.out.now.2.2.2.2.2.2.1 BB.out.now.2.2.2.2.2.1).mono ?_)
  rintro e w2 ⟨b, rfl, hb, hb2⟩
  have BB := Lib.hid (BB.out.go hb2)
  clear hb2
  cases b with
  | false =>
    clear hb
    go_wp2_with fail
    go_at_call 17
    (with_reducible refine (AW.out _).mono ?_)
    rintro e w3 ⟨rfl, hb3⟩
    have HE := Lib.hid (BB.out.go hb3).below
    clear hb3
    go_wp2
    go_ret
    exact ⟨rfl, HE.out⟩
  | true =>
    obtain ⟨m1, m2, m3, m4, m5⟩ := hb rfl
    clear hb
    obtain ⟨y0, y1, y2, y3⟩ := pl_cells BB.out.now.1
    go_wp2_with fail
    go_at_call 40
    (with_reducible refine (LQ.out _ BB.out.now.2.2.2.2.1 BB.out.now.2.2.2.1 BB.out.now.2.2.1).mono ?_)
    rintro e w3 ⟨b, rfl, hb, hb3⟩
    have BB := Lib.hid (BB.out.go hb3)
    clear hb3 y0 y1 y2 y3
    cases b with
    | false =>
      clear hb
      go_wp2_with fail
      go_at_call 17
      (with_reducible refine (AW.out _).mono ?_)
      rintro e w4 ⟨rfl, hb4⟩
      have HE := Lib.hid (BB.out.go hb4).below
      clear hb4
      go_wp2
      go_ret
      exact ⟨rfl, HE.out⟩
    | true =>
      obtain ⟨m1', m2', m3', m4', m5'⟩ := hb rfl
      clear hb
      have OP := Lib.hid (fun wz a b c => OP.out wz a b c m4 (by omega) (by omega) m5)
      have OQ := Lib.hid (fun wz a b c => OQ.out wz a b c m4' (by omega) (by omega) m5')
      have c1 := ofO_cmp (ofB_true m5).2.2.2.2 m4
      have c2 := ofO_cmp (ofB_true m5').2.2.2.2 m4'
      have A1 := Lib.hid (fun na nc ta tc na' nc' ta' tc' wz a b c d => aSame_any ch ((r : Int) - 1) (dm S r) na nn nc ta tn tc _ _ g ch' ((r' : Int) - 1) (dm S' r') na' nn' nc' ta' tn' tc' _ _ g' wz a b c d 7 (by omega) c1 c2)
      have A2 := Lib.hid (fun na nc ta tc na' nc' ta' tc' wz a b c d => aSame_any ch ((r : Int) - 1) (dm S r) na nn nc ta tn tc _ _ g ch ((r : Int) - 1) (dm S r) na' nn nc' ta' tn tc' _ _ g wz a b c d 7 (by omega) c1 c1)
      have A3 := Lib.hid (fun wz => aSame_any false 0 (fun _ => 0) none 0 0 none 0 0 (fun _ => 0) (fun _ => 1) (fun _ => 0) false 0 (fun _ => 0) none 0 0 none 0 0 (fun _ => 0) (fun _ => 1) (fun _ => 0) wz (RRow.nought _ _ _ (Nat.zero_le _) _ _) (KRow.nought _ _ _ _ (Nat.zero_le _) _) (RRow.nought _ _ _ (Nat.zero_le _) _ _) (KRow.nought _ _ _ _ (Nat.zero_le _) _) 7 (by omega) (fun j hj => absurd hj (Nat.not_lt_zero _)) (fun j hj => absurd hj (Nat.not_lt_zero _)))
      have NO := Lib.hid (fun wz => arrNone_any false wz)
      rw [as_pl m5 m5'] at A1
      rw [as_pl m5 m5, plB_self] at A2
      rw [show asB false false 0 0 (fun _ => 0) (fun _ => 0) 0 0 (fun _ => 0) (fun _ => 0) 0 0 (fun _ => 0) (fun _ => 1) (fun _ => 0) (fun _ => 1) = true by decide] at A3
      unfold SameTold at A1 A2 A3
      generalize plB ch ch' r r' S S' tn tn' g g' nn nn' fB fS fT gB gS gT = bb at *
      generalize (fun j => ofP (fB j) (fS j) (fT j)) = P at *
      generalize (fun j => ofQ (fB j) (fS j) (fT j)) = Q at *
      generalize (fun j => ofP (gB j) (gS j) (gT j)) = P' at *
      generalize (fun j => ofQ (gB j) (gS j) (gT j)) = Q' at *
      generalize ((r : Int) - 1) = more at *
      generalize ((r' : Int) - 1) = more' at *
      generalize dm S r = d at *
      generalize dm S' r' = d' at *
      unfold arrC at OP OQ A1 A2 A3 NO
      clear m1 m2 m3 m4 m5 m1' m2' m3' m4' m5' c1 c2 LP LQ
      cases bb
      all_goals
        go_wp2_with fail
        have BB := Lib.hid BB.out.drew
        go_region_held3 (fun y => y.cell? ⟨w.heap.size, 0, none⟩ = some (.slice sa r sc) ∧ y.cell? ⟨w.heap.size, 1, none⟩ = some (.bool ch) ∧ y.cell? ⟨w.heap.size, 2, none⟩ = some (.slice ta tn tc) ∧ y.cell? ⟨w.heap.size, 3, none⟩ = some (.slice na nn nc) ∧ y.cell? ⟨w.heap.size + 1, 0, none⟩ = some (.slice sa' r' sc') ∧ y.cell? ⟨w.heap.size + 1, 1, none⟩ = some (.bool ch') ∧ y.cell? ⟨w.heap.size + 1, 2, none⟩ = some (.slice ta' tn' tc') ∧ y.cell? ⟨w.heap.size + 1, 3, none⟩ = some (.slice na' nn' nc'))
          (first | (exact two_cells BB.out.now.1 BB.out.now.2.1) | (exact two_cells BB.out.now.2.2.1 BB.out.now.2.2.2.1) | (exact two_cells BB.out.now.2.2.2.2.1 BB.out.now.2.2.2.2.2.1) | (exact two_cells BB.out.now.2.2.2.2.2.2.1 BB.out.now.2.2.2.2.2.2.2.1) | (exact two_cells BB.out.now.2.2.2.2.2.2.2.2.1 BB.out.now.2.2.2.2.2.2.2.2.2.1))
          (first
            | (go_at_call 41; (with_reducible refine (OP.out _ ?_ ?_ ?_).mono ?_); (have B9 := BB.out.now; go_split_ands; assumption); (have B9 := BB.out.now; go_split_ands; assumption); (have B9 := BB.out.now; go_split_ands; assumption); rintro e w5 ⟨a5, n5, x5, y5, rfl, hr5, ht5, _, _, hb5⟩; have BB := Lib.hid (((BB.out.go hb5).rrow hr5).krow ht5))
            | (go_at_call 41; (with_reducible refine (OQ.out _ ?_ ?_ ?_).mono ?_); (have B9 := BB.out.now; go_split_ands; assumption); (have B9 := BB.out.now; go_split_ands; assumption); (have B9 := BB.out.now; go_split_ands; assumption); rintro e w6 ⟨a6, n6, x6, y6, rfl, hr6, ht6, _, _, hb6⟩; have BB := Lib.hid (((BB.out.go hb6).rrow hr6).krow ht6))
            | (go_at_call 46; (with_reducible refine (A3.out _).mono ?_); rintro e w7 ⟨rfl, hb7⟩; have BB := Lib.hid (BB.out.go hb7))
            | (go_at_call 46; (with_reducible refine (A1.out _ _ _ _ _ _ _ _ _ BB.out.now.2.2.2.1 BB.out.now.2.2.1 BB.out.now.2.1 BB.out.now.1).mono ?_); rintro e w7 ⟨rfl, hb7⟩; have BB := Lib.hid (BB.out.go hb7))
            | (go_at_call 46; (with_reducible refine (A2.out _ _ _ _ _ _ _ _ _ BB.out.now.2.2.2.1 BB.out.now.2.2.1 BB.out.now.2.1 BB.out.now.1).mono ?_); rintro e w7 ⟨rfl, hb7⟩; have BB := Lib.hid (BB.out.go hb7))
            | (go_at_call 23; (with_reducible refine (PS.out _ ?_ ?_ ?_ ?_ ?_ ?_).mono ?_); (have B9 := BB.out.now; go_split_ands; assumption); (have B9 := BB.out.now; go_split_ands; assumption); (have B9 := BB.out.now; go_split_ands; assumption); (have B9 := BB.out.now; go_split_ands; assumption); (have B9 := BB.out.now; go_split_ands; assumption); (have B9 := BB.out.now; go_split_ands; assumption); rintro e w8 ⟨rfl, hb8⟩; have BB := Lib.hid (BB.out.go hb8))
            | (go_at_call 47; (with_reducible refine (NO.out _).mono ?_); rintro e w9 ⟨rfl, hb9⟩; have BB := Lib.hid (BB.out.go hb9))
            | (go_at_call 17; (with_reducible refine (AW.out _).mono ?_); rintro e w10 ⟨rfl, hb10⟩; have BB := Lib.hid (BB.out.go hb10)))
        have HE := Lib.hid BB.out.below
        go_wp2
        go_ret
        exact ⟨rfl, HE.out⟩

theorem own : ownKnob Tryz.prog.godebug = none := by kernel_rfl
theorem laidOut : laidOutB Tryz.prog = true := by kernel_rfl

set_option maxRecDepth 100000 in
theorem arraySames_lifted (os : Os) (started : os.Started) (H : Type) (enc : TypeId × Value → H) :
    ReturnsInHanded {} Tryz.checked os 7 .any (fun w args => (Rows.arraySamesSpec.pre enc Tryz.prog Tryz.f7 [] false w args ∧ laidMetH Tryz.prog Rows.arraySamesRow.laid w) ∧ sizedMet enc Tryz.prog Tryz.f7 (OpenSpec.ofChange Rows.arraySamesSpec) false w args)
      (Rows.arraySamesSpec.post enc Tryz.prog Tryz.f7 false true false false) := by
  refine returnsInHanded_of_change_and (C := Tryz.checked) (X := fun w _ => laidMetH Tryz.prog Rows.arraySamesRow.laid w) (fun _ _ _ hh h => h.of_heap hh) own started (by kernel_rfl) Tryz.func7
    (ChangeSpec.witness_shaped (enc := enc) (C := Tryz.checked) (os := os) (X := fun w _ => laidMetH Tryz.prog Rows.arraySamesRow.laid w) false (World.laidAll Tryz.prog os Rows.arraySamesRow.laid) #[.agg #[.slice none 0 0, .bool false, .slice none 0 0, .slice none 0 0], .agg #[.slice none 0 0, .bool false, .slice none 0 0, .slice none 0 0]] 8 (World.laidAll_os _ _ _)
      (World.shaped_of_ZipB (by kernel_rfl) (by kernel_rfl)) (by kernel_rfl) (by kernel_rfl) (by kernel_rfl)
      (by rw [MakeChecks.laidMetH_plain _ _ _ (by kernel_rfl)]; exact laidMet_laidAll _ (by kernel_rfl) (by kernel_rfl))) ?_
  intro W base args ds gs before hval0 hW _ _ _ _
  have hval : ∀ (j : Nat) t v, Tryz.f7.params[j]? = some t → args[j]? = some v → Value.okWide Tryz.prog W .any base t v := hval0
  have hW' := hW
  obtain ⟨p, q, hA0, hV, rfl, _, _⟩ := hW
  have hA : DataW.TrodAll enc Tryz.prog W 0 (fun _ => true) true Tryz.f7.params.toList args.toList ds p := hA0
  rw [Tryz.params7] at hA hval
  obtain ⟨v0, v1, d0, d1, p0, p1, rfl, rfl, rfl, h0, h1⟩ := trodAll_two hA
  obtain ⟨rfl, rfl⟩ := trodVars_none hV
  obtain ⟨cs0, S0, q0, ch0, g0, tn0, fB0, fS0, fT0, nn0, rfl, k0, w0, z0⟩ := open_pln (hval 0 46 v0 rfl rfl) h0
  obtain ⟨cs1, S1, q1, ch1, g1, tn1, fB1, fS1, fT1, nn1, rfl, k1, w1, z1⟩ := open_pln (hval 1 46 v1 rfl rfl) h1
  have hlt : ∀ y ∈ p0 ++ (p1), y.block < W.heap.size := fun y hy => by simpa using hW'.lt y (by simpa using hy)
  simp only [List.append_nil] at hW'
  refine (arraySames_walk cs0 S0 q0 ch0 g0 tn0 fB0 fS0 fT0 nn0 cs1 S1 q1 ch1 g1 tn1 fB1 fS1 fT1 nn1 W k0 w0 z0 k1 w1 z1).mono fun e W' ⟨he, hb⟩ => ?_
  subst he
  exact ⟨_, rfl, _, _, _, [], _, [], hW', trodAll_mk1 (shut_bool Tryz.underlying4 _), trodAll_mk2 (Below.trod laidOut (by kernel_rfl) (of_decide_eq_true (by kernel_rfl)) h0 hb (fun y hy => hlt y (by simp [hy]))) (Below.trod laidOut (by kernel_rfl) (of_decide_eq_true (by kernel_rfl)) h1 hb (fun y hy => hlt y (by simp [hy]))), rfl, hb.frame _, fun h => by cases h⟩

theorem arraySames_row : Rows.ArraySamesSaid :=
  OpenClaim.holds_of_wide 7 Tryz.f7 rfl rfl rfl rfl rfl rfl rfl ⟨rfl, rfl, rfl, rfl, rfl⟩ rfl rfl rfl rfl rfl (by kernel_rfl) Tryz.func7 (by kernel_rfl)
    (of_decide_eq_true (by kernel_rfl)) (by unfold Func.isWrapper; first | (rw [if_pos (by decide +kernel)]; kernel_rfl) | (rw [if_neg (by decide +kernel)]; exact ⟨rfl, rfl⟩))
    (fun os started H enc _ => arraySames_lifted os started H enc)

theorem arraySames_holds : Rows.ArraySamesCardSaid :=
  Claim7.holds_tied_plain_at .later [] [.data, .pinned] true Rows.arraySamesCard.stood.harness Rows.arraySamesCard.stood.looks arraySames_row (fun _ h => by cases h) (by kernel_rfl) (fun _ h => by cases h) arraySames_row_tie rfl ⟨rfl, rfl⟩ (by kernel_rfl) rfl
    (fun f fn hf hfn => by
      obtain rfl : f = 7 := Option.some.inj ((show Tryz.prog.funcNamed "typeball/typeballlaw06.ArraySames" = some 7 by kernel_rfl).symm.trans hf) |>.symm
      obtain rfl : fn = Tryz.f7 := (Option.some.inj (Tryz.func7.symm.trans hfn)).symm
      exact ⟨by kernel_rfl, fun j t ht => by
        rw [Tryz.params7] at ht
        have hm : t ∈ [46] := by simpa using Array.mem_of_getElem? ht
        have hall : ([46].all fun u => !Tryz.prog.wantsStandIn u) = true := by kernel_rfl
        exact (show Tryz.prog.wantsStandIn t = false by simpa using List.all_eq_true.1 hall t hm)⟩)
    (by kernel_rfl)
#print axioms arraySames_holds
end Go.Proofs.YtdnbpkbapmlfaaaGreatDoor
