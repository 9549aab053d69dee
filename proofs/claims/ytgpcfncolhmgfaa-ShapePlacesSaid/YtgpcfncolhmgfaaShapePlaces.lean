/-
  Proved: the law ShapePlaces of package typeballlaw07 returns true for every list of integers (statement ShapePlacesSaid), under the row's own conditions.
-/
import Derived.Test.YtgpcfncolhmgfaaSh7
import Derived.Test.YtgpcfncolhmgfaaSha
import Derived.Test.YtgpcfncolhmgfaaShb
import Derived.Test.YtgpcfncolhmgfaaOp0
import Derived.SizedLaws
namespace Go.Proofs.Ytgpcfncolhmgfaa
open Go.ChangeShapes Go.WideShapes Go.ChangeAt Go.RowKit

set_option maxHeartbeats 6400000 in
set_option maxRecDepth 100000 in
theorem shapePlaces_walk (a : Option Addr) (n c : Nat) (f : Nat → Int) (w : World) (h : KRow w .i64 a n c f) (hf : In64 f n) (_ : a = none → c = 0) :
    Calls Try.prog 3 #[.slice a n c] w fun e w' => e = .returned (.bool true) ∧ Below w.heap.size w w' := by
  have hl := h.len
  have AW := Lib.hid (fun wz => awake7_any wz)
  have hmf : ∀ (fn : Fn) (first cap : Array Value) (w : World), (Instr.makeFunc fn first cap).run Try.prog w = .ok (.func fn first cap) w := fun _ _ _ _ => rfl
  have BB := Lib.hid (((Bag.start w).krow h).newRow #[.slice a n c] 22)
  have hc0 := BB.out.now.1.cell 0
  have hw0 : w.heap.size < (w.alloc (.cells #[.slice a n c] 22)).heap.size := by rw [World.size_alloc]; omega
  by_cases h60 : n ≤ 60
  · have d1 : ¬ ((60 : Int) < n) := by omega
    have CN := Lib.hid (fun wz (h : KRow wz .i64 a n c f) => r6Count_any a n c f wz h hf)
    have IX := Lib.hid (fun wz i (h : KRow wz .i64 a n c f) => index_any a n c f i wz h hf)
    unfold CntTold at CN
    unfold IxTold at IX
    cases hs : shB f n with
    | false =>
      have hq : ixB f n 0 = false := by unfold ixB; rw [hs]; rfl
      have IX0 : Hid (∀ wz, KRow wz .i64 a n c f → Calls Try.prog 8 #[.slice a n c, .int .i64 0] wz fun e w' => (∃ a5 m5 c5, e = .returned (.tuple #[.slice a5 m5 c5, .bool false])) ∧ Below wz.heap.size wz w') := Lib.hid (fun wz h => (IX.out wz 0 h).mono (by
        rintro e w' ⟨a5, m5, c5, rfl, _, hb⟩
        rw [hq]
        exact ⟨⟨_, _, _, rfl⟩, hb⟩))
      have PL := Lib.hid (fun v wz (h : KRow wz .i64 a n c f) => places_no a n c f v wz h hf hs)
      rw [hs] at CN
      generalize cntI f n = cn at *
      clear h hf h60 hs hq IX
      go_enter Try.func3, Try.ntmps3
      go_wp2_with fail
      go_at_call 7
      (with_reducible refine (CN.out _ BB.out.now.2.1).mono ?_)
      rintro e w1 ⟨rfl, rfl⟩
      go_wp2_with fail
      go_at_call 8
      (with_reducible refine (IX0.out _ BB.out.now.2.1).mono ?_)
      rintro e w2 ⟨⟨a5, m5, c5, rfl⟩, hb1⟩
      have BB := Lib.hid (BB.out.go hb1)
      have hc0 := BB.out.now.1.cell 0
      clear hb1
      go_wp2_with fail
      go_at_call 9
      (refine (PL.out _ _ BB.out.now.2.1).mono ?_)
      rintro e w3 ⟨rfl, rfl⟩
      go_wp2_with fail
      go_at_call 6
      refine (AW.out _).mono ?_
      rintro e w16 ⟨rfl, hb1⟩
      have HE := Lib.hid (BB.out.go hb1).below
      clear hb1
      go_wp2
      go_ret
      exact ⟨rfl, HE.out⟩
    | true =>
      obtain ⟨h8, hax⟩ := sh_ax hs
      have hbd := ax_bd hax
      obtain ⟨M, hM⟩ : ∃ M : Nat, itm f n = M := ⟨(itm f n).toNat, by omega⟩
      have hcn : cntI f n = (M : Nat) := by unfold cntI; rw [hs, if_pos rfl, hM]
      rw [hs, hcn] at CN
      by_cases h400 : 400 < M
      · have d2 : (400 : Int) < M := by omega
        have IX0 : Hid (∀ wz, KRow wz .i64 a n c f → Calls Try.prog 8 #[.slice a n c, .int .i64 0] wz fun e w' => (∃ a5 m5 c5 b5, e = .returned (.tuple #[.slice a5 m5 c5, .bool b5])) ∧ Below wz.heap.size wz w') := Lib.hid (fun wz h => (IX.out wz 0 h).mono (by
          rintro e w' ⟨a5, m5, c5, rfl, _, hb⟩
          exact ⟨⟨_, _, _, _, rfl⟩, hb⟩))
        clear h hf h60 hs IX hax hbd hM hcn h400
        go_enter Try.func3, Try.ntmps3
        go_wp2_with fail
        go_at_call 7
        (with_reducible refine (CN.out _ BB.out.now.2.1).mono ?_)
        rintro e w1 ⟨rfl, rfl⟩
        go_wp2_with fail
        go_at_call 8
        (with_reducible refine (IX0.out _ BB.out.now.2.1).mono ?_)
        rintro e w2 ⟨⟨a5, m5, c5, b5, rfl⟩, hb1⟩
        have BB := Lib.hid (BB.out.go hb1)
        have hc0 := BB.out.now.1.cell 0
        clear hb1
        go_wp2_with fail
        go_at_call 6
        refine (AW.out _).mono ?_
        rintro e w16 ⟨rfl, hb1⟩
        have HE := Lib.hid (BB.out.go hb1).below
        clear hb1
        go_wp2
        go_ret
        exact ⟨rfl, HE.out⟩
      · have d2 : ¬ ((400 : Int) < M) := by omega
        have AL := Lib.hid (fun wz (h : KRow wz .i64 a n c f) => r6All_any a n c f M wz h hs hM)
        have PL := Lib.hid (fun wz g0 (hg : wz.cell? ⟨g0, 0, none⟩ = some (.slice a n c)) (hgl : g0 < wz.heap.size) (h : KRow wz .i64 a n c f) => places_yes g0 a n c f M wz hg hgl h hf hs hM)
        have ST : Hid (∀ wz, KRow wz .i64 a n c f → Calls Try.prog 15 #[.slice a n c] wz fun e w' => ∃ a' c', e = .returned (.slice a' n c') ∧ KRow w' .i64 a' n c' (stF f n) ∧ Below wz.heap.size wz w') := Lib.hid (fun wz h => (strides_any a n c f wz h hf).mono (by
          rintro e w' ⟨a5, m5, c5, rfl, hk, hb⟩
          rw [hs, if_pos rfl] at hk
          obtain ⟨rfl, hk⟩ := hk
          exact ⟨_, _, rfl, hk, hb⟩))
        have RS := Lib.hid (fun wz (h : KRow wz .i64 a n c f) => r7Strides_any a n c f wz h hs)
        have IQ : Hid (∀ (wz : World) (a3 a4 : Option Addr) (c3 c4 : Nat) (f3 : Nat → Int), KRow wz .i64 a3 n c3 f3 → KRow wz .i64 a4 n c4 f3 → Calls Try.prog 14 #[.slice a3 n c3, .slice a4 n c4] wz fun e w' => e = .returned (.bool true) ∧ Below wz.heap.size wz w') := Lib.hid (fun wz a3 a4 c3 c4 f3 h3 h4 => (r6Same_any a3 n c3 f3 a4 n c4 f3 wz h3 h4).mono (by
          rintro e w' ⟨rfl, hb⟩
          rw [decide_eq_true rfl, sameB_iff.2 (fun _ _ => rfl)]
          exact ⟨rfl, hb⟩))
        have HD := Lib.hid (fun (k : Nat) (hk : k < M) => dgs_in (itm_pos hax (show (0 : Int) ≤ k by omega) (show (k : Int) < itm f n by omega)) (show (0 : Int) ≤ k by omega) (show (k : Int) < itm f n by omega))
        have PC : Hid (∀ (k : Nat), k < M → ∀ wz a3 c3, KRow wz .i64 a n c f → KRow wz .i64 a3 n c3 (dgs f n (k : Nat)) → Calls Try.prog 17 #[.slice a n c, .slice a3 n c3] wz fun e w' => e = .returned (.tuple #[.int .i64 (k : Nat), .bool true]) ∧ Below wz.heap.size wz w') := Lib.hid (fun k hk wz a3 c3 h h3 => by
          obtain ⟨hin, hpl⟩ := HD.out k hk
          refine (place_any a n c f a3 n c3 _ wz h hf h3 (fun j hj => ?_)).mono ?_
          · have := inB_at hin hj
            have hfj := hf j hj
            omega
          · rintro e w' ⟨rfl, hb⟩
            have hB : plB f n (dgs f n (k : Nat)) n = true := by unfold plB; rw [hs, hin, decide_eq_true rfl]; rfl
            have hI : plI f n (dgs f n (k : Nat)) n = (k : Nat) := by unfold plI; rw [hB, if_pos rfl, hpl]
            rw [hB, hI]
            exact ⟨rfl, hb⟩)
        have IXK : Hid (∀ (k : Nat), k < M → ∀ wz, KRow wz .i64 a n c f → Calls Try.prog 8 #[.slice a n c, .int .i64 (k : Nat)] wz fun e w' => ∃ a' c', e = .returned (.tuple #[.slice a' n c', .bool true]) ∧ KRow w' .i64 a' n c' (dgs f n (k : Nat)) ∧ Below wz.heap.size wz w') := Lib.hid (fun k hk wz h => (IX.out wz k h).mono (by
          rintro e w' ⟨a5, m5, c5, rfl, hk5, hb⟩
          have hB : ixB f n (k : Nat) = true := by unfold ixB; rw [hs, decide_eq_true (show (0 : Int) ≤ (k : Nat) by omega), decide_eq_true (show ((k : Nat) : Int) < itm f n by omega)]; rfl
          rw [hB, if_pos rfl] at hk5
          obtain ⟨rfl, hk5⟩ := hk5
          rw [hB]
          exact ⟨_, _, rfl, hk5, hb⟩))
        have dM : ((M : Int) != M) = false := bne_self_eq_false _
        clear h hf h60 hs IX hax hbd hM hcn
        go_enter Try.func3, Try.ntmps3
        go_wp2_with fail
        go_at_call 7
        (with_reducible refine (CN.out _ BB.out.now.2.1).mono ?_)
        rintro e w1 ⟨rfl, rfl⟩
        go_wp2_with fail
        go_at_call 11
        (with_reducible refine (AL.out _ BB.out.now.2.1).mono ?_)
        rintro e w2 ⟨la, lc, A, C, rfl, hL, hb1⟩
        have BB := Lib.hid ((BB.out.go hb1).add (fun _ _ hb q => LRow.below q hb) hL)
        have hc0 := BB.out.now.2.1.cell 0
        have hlt0 := BB.out.now.2.1.lt
        clear hb1 hL
        go_wp2_with fail
        go_at_call 9
        (refine (PL.out _ _ hc0 hlt0 BB.out.now.2.2.1).mono ?_)
        rintro e w3 ⟨pc, rfl, hk3, hb1⟩
        have BB := Lib.hid ((BB.out.go hb1).krow hk3)
        clear hb1 hk3
        generalize w2.heap.size = pb at *
        go_wp2_with fail
        have BB := Lib.hid BB.out.drew
        go_region_held3 (fun y => y.cell? ⟨w.heap.size, 0, none⟩ = some (.slice a n c))
          (first | exact BB.out.now.2.2.1.cell 0 | exact BB.out.now.2.2.2.1.cell 0 | exact BB.out.now.2.2.2.2.1.cell 0)
          (first
            | (go_at_call 15; (with_reducible refine (ST.out _ BB.out.now.2.2.2.1).mono ?_); rintro e w4 ⟨a4, c4, rfl, hk4, hb4⟩; have BB := Lib.hid ((BB.out.go hb4).krow hk4))
            | (go_at_call 16; (with_reducible refine (RS.out _ BB.out.now.2.2.2.2.1).mono ?_); rintro e w5 ⟨a5, c5, rfl, hk5, hb5⟩; have BB := Lib.hid ((BB.out.go hb5).krow hk5))
            | (go_at_call 14; (with_reducible refine (IQ.out _ _ _ _ _ _ BB.out.now.2.1 BB.out.now.1).mono ?_); rintro e w6 ⟨rfl, hb6⟩; have BB := Lib.hid (BB.out.go hb6)))
        have HBW := Lib.hid BB.out.below
        have BC := Lib.hid (((((Bag.start w6).krow BB.out.now.2.2.1).add (fun _ _ hb q => LRow.below q hb) BB.out.now.2.2.2.1).row BB.out.now.2.2.2.2.1).krow BB.out.now.2.2.2.2.2.1)
        clear BB
        go_wp2_with fail
        go_loopw [9] (fun i wr => ∃ k : Nat, k ≤ M ∧ i = .int .i64 k ∧ Hid (Below w6.heap.size w6 wr)) (fun i _ => M - (intOf i).toNat)
        case atStart => exact ⟨0, by omega, rfl, Below.refl _ _⟩
        case round =>
          obtain ⟨k, hk, rfl, hrel⟩ := hrel
          have hwr := hrel.out.size
          by_cases hlt : k < M
          · have BD := Lib.hid (((((Bag.start wr).krow (BC.out.go hrel.out).now.2.2.2.1).add (fun _ _ hb q => LRow.below q hb) (BC.out.go hrel.out).now.2.2.1).row (BC.out.go hrel.out).now.2.1).krow (BC.out.go hrel.out).now.1)
            have HBL := Lib.hid hrel.out
            obtain ⟨b, off, hlab, hb, hcl, hkr, hnn⟩ := BD.out.now.2.2.1.get hlt
            subst hlab
            have hc0 := BD.out.now.2.1.cell 0
            have PCk := Lib.hid (PC.out k hlt)
            have IXk := Lib.hid (IXK.out k hlt)
            have HL2 : Hid (∀ y, Below wr.heap.size wr y → y.cell? ⟨b, off + k, none⟩ = some (.slice (A k) n (C k))) := Lib.hid (fun y hy => (hy.cell (p := ⟨b, off + k, none⟩) hb).trans hcl)
            have HL3 : Hid (∀ y, Below wr.heap.size wr y → KRow y .i64 (A k) n (C k) (dgs f n (k : Nat))) := Lib.hid (fun y hy => hkr.below hy)
            obtain ⟨b2, off2, e2, hb2, hcp⟩ := BD.out.now.2.2.2.1.get hlt
            cases e2
            rw [Nat.zero_add] at hcp
            have HL4 : Hid (∀ y, Below wr.heap.size wr y → y.cell? ⟨pb, k, none⟩ = some (.int .i64 (k : Nat))) := Lib.hid (fun y hy => (hy.cell (p := ⟨pb, k, none⟩) hb2).trans hcp)
            have HEND : Hid (∀ y, Below wr.heap.size wr y → Below w6.heap.size w6 y) := Lib.hid (fun y hy => HBL.out.trans (hy.mono hwr))
            have dk : ((k : Int) != k) = false := bne_self_eq_false _
            have hk0 : (0 : Int) ≤ k := by omega
            have hk1 : (k : Int) < M := by omega
            clear hrel hcl hkr hnn hcp
            generalize A k = ak at *
            generalize C k = ck at *
            go_wp2_with fail
            have BD := Lib.hid BD.out.drew
            go_region_held3 (fun y => y.cell? ⟨w.heap.size, 0, none⟩ = some (.slice a n c) ∧ y.cell? ⟨b, off + k, none⟩ = some (.slice ak n ck))
              (exact ⟨BD.out.now.2.1.cell 0, HL2.out _ BD.out.below⟩)
              ((go_at_call 17; (with_reducible refine (PCk.out _ _ _ BD.out.now.1 (HL3.out _ BD.out.below)).mono ?_); rintro e w7 ⟨rfl, hb7⟩; have BD := Lib.hid (BD.out.go hb7)))
            have hc0 := BD.out.now.2.1.cell 0
            go_wp2_with fail
            go_at_call 8
            (with_reducible refine (IXk.out _ BD.out.now.1).mono ?_)
            rintro e w8 ⟨a8, c8, rfl, hk8, hb8⟩
            have BD := Lib.hid ((BD.out.go hb8).krow hk8)
            have hcl := HL2.out _ BD.out.below
            clear hb8 hk8
            go_wp2_with fail
            go_at_call 14
            (with_reducible refine (IQ.out _ _ _ _ _ _ BD.out.now.1 (HL3.out _ BD.out.below)).mono ?_)
            rintro e w9 ⟨rfl, hb9⟩
            have BD := Lib.hid (BD.out.go hb9)
            have hcp := HL4.out _ BD.out.below
            have HN := Lib.hid (HEND.out _ BD.out.below)
            clear hb9
            go_wp2
            go_roundw
            case rel => exact ⟨k + 1, by omega, by go_num, HN.out⟩
            case measure => simp [intOf]; omega
          · obtain rfl : k = M := by omega
            have HBL := Lib.hid (HBW.out.trans (hrel.out.mono HBW.out.size))
            clear hrel
            go_wp2_with fail
            go_at_call 6
            refine (AW.out _).mono ?_
            rintro e w16 ⟨rfl, hb1⟩
            have HE := Lib.hid (HBL.out.trans (hb1.mono HBL.out.size))
            clear hb1
            go_wp2
            go_ret
            exact ⟨rfl, HE.out⟩
  · have d1 : (60 : Int) < n := by omega
    clear h hf h60
    go_enter Try.func3, Try.ntmps3
    go_wp2_with fail
    go_at_call 6
    refine (AW.out _).mono ?_
    rintro e w16 ⟨rfl, hb1⟩
    have HE := Lib.hid (BB.out.go hb1).below
    clear hb1
    go_wp2
    go_ret
    exact ⟨rfl, HE.out⟩

theorem own : ownKnob Try.prog.godebug = none := by kernel_rfl
theorem laidOut : laidOutB Try.prog = true := by kernel_rfl

set_option maxHeartbeats 800000 in
set_option maxRecDepth 100000 in
theorem shapePlaces_lifted (os : Os) (started : os.Started) (H : Type) (enc : TypeId × Value → H) :
    ReturnsInHanded {} Try.checked os 3 .any (Rows.shapePlacesSpec.pre6 enc Try.prog Try.f3 Rows.shapePlacesRow.domain false) (Rows.shapePlacesSpec.post enc Try.prog Try.f3 false true false false) := by
  refine returnsInHanded_of_change_sized (C := Try.checked) own started (by kernel_rfl) Try.func3
    (ChangeSpec.witness6 (enc := enc) (C := Try.checked) false ⟨#[], #[.slice none 0 0], []⟩ 8 (by kernel_rfl) (by kernel_rfl) (by kernel_rfl) (by kernel_rfl)) ?_
  intro W base args ds gs before hval0 hW _ _ _
  have hval : ∀ (j : Nat) t v, Try.f3.params[j]? = some t → args[j]? = some v → Value.okWide Try.prog W .any base t v := hval0
  have hW' := hW
  obtain ⟨p, q, hA0, hV, rfl, _, _⟩ := hW
  have hA : DataW.TrodAll enc Try.prog W 0 (fun _ => true) true Try.f3.params.toList args.toList ds p := hA0
  rw [Try.params3] at hA hval
  obtain ⟨v0, d0, rfl, rfl, h0⟩ := trodAll_one hA
  obtain ⟨rfl, rfl⟩ := trodVars_none hV
  simp only [List.append_nil] at hW'
  have hlt : ∀ y ∈ p, y.block < W.heap.size := fun y hy => by simpa using hW'.lt y (by simp [hy])
  obtain ⟨a0, n0, c0, f0, rfl, k0, w0, z0⟩ := open_krowN Try.underlying22 Try.underlying3 (by kernel_rfl) (hval 0 22 v0 rfl rfl) h0
  refine (shapePlaces_walk a0 n0 c0 f0 W k0 (in64_of w0) z0).mono fun e W' ⟨he, hb⟩ => ?_
  subst he
  exact ⟨_, rfl, _, _, _, [], _, [], hW', trodAll_mk1 (shut_bool Try.underlying4 _), trodAll_mk1 (Below.trod laidOut (by kernel_rfl) (of_decide_eq_true (by kernel_rfl)) h0 hb hlt), rfl, hb.frame _, fun h => by cases h⟩

theorem shapePlaces_holds : Rows.ShapePlacesSaid :=
  OpenClaim.holds_of_wide 3 Try.f3 rfl rfl rfl rfl rfl rfl rfl ⟨rfl, rfl, rfl, rfl, rfl⟩ rfl rfl rfl rfl rfl (by kernel_rfl) Try.func3 (by kernel_rfl)
    (of_decide_eq_true (by kernel_rfl)) (by unfold Func.isWrapper; first | (rw [if_pos (by decide +kernel)]; kernel_rfl) | (rw [if_neg (by decide +kernel)]; exact ⟨rfl, rfl⟩))
    (fun os started H enc _ => shapePlaces_lifted os started H enc)

#print axioms shapePlaces_holds
end Go.Proofs.Ytgpcfncolhmgfaa
