/-
  Proved: the law ShapeMisses of package typeballlaw07 returns true for every two lists of integers and every integer (statement ShapeMissesSaid), under the row's own conditions.
-/
import Derived.Test.YtgpcfncolhmgfaaSh7
import Derived.Test.YtgpcfncolhmgfaaOp0
import Derived.SizedLaws
namespace Go.Proofs.Ytgpcfncolhmgfaa
open Go.ChangeShapes Go.WideShapes Go.ChangeAt Go.RowKit

set_option maxHeartbeats 3200000 in
set_option maxRecDepth 100000 in
theorem shapeMisses_walk (a : Option Addr) (n c : Nat) (f : Nat → Int) (a2 : Option Addr) (m c2 : Nat) (g : Nat → Int) (i : Int) (w : World) (h : KRow w .i64 a n c f) (hf : In64 f n) (_ : a = none → c = 0) (h2 : KRow w .i64 a2 m c2 g) (hg : In64 g m) (_ : a2 = none → c2 = 0)
    (_ : -9223372036854775808 ≤ i ∧ i ≤ 9223372036854775807) :
    Calls Try.prog 4 #[.slice a n c, .slice a2 m c2, .int .i64 i] w fun e w' => e = .returned (.bool true) ∧ Below w.heap.size w w' := by
  have hl := h.len
  have hl2 := h2.len
  by_cases h60 : n ≤ 60 ∧ m ≤ 60
  · have d1 : ¬ ((60 : Int) < n) := by omega
    have d2 : ¬ ((60 : Int) < m) := by omega
    have BB := Lib.hid ((((Bag.start w).krow h2).krow h))
    have PL := Lib.hid (fun wz (h : KRow wz .i64 a n c f) (h2 : KRow wz .i64 a2 m c2 g) => place_any a n c f a2 m c2 g wz h hf h2 hg)
    have RL := Lib.hid (fun wz (h : KRow wz .i64 a n c f) (h2 : KRow wz .i64 a2 m c2 g) => r7Place_any a n c f a2 m c2 g wz h hf h2)
    have IX := Lib.hid (fun wz (h : KRow wz .i64 a n c f) => index_any a n c f i wz h hf)
    have CN := Lib.hid (fun wz (h : KRow wz .i64 a n c f) => r6Count_any a n c f wz h hf)
    unfold PlTold at PL RL
    unfold IxTold at IX
    unfold CntTold at CN
    obtain ⟨x, hx⟩ : ∃ x, plI f n g m = x := ⟨_, rfl⟩
    obtain ⟨b, hb⟩ : ∃ b, plB f n g m = b := ⟨_, rfl⟩
    obtain ⟨q, hq⟩ : ∃ q, ixB f n i = q := ⟨_, rfl⟩
    rw [hx, hb] at PL RL
    rw [hq] at IX
    have hcq : q = (shB f n && (decide (0 ≤ i) && decide (i < cntI f n))) := by
      rw [← hq]
      unfold ixB cntI
      cases shB f n <;> rfl
    have HCQ := Lib.hid hcq
    generalize cntI f n = cn at *
    generalize shB f n = sb at *
    clear h h2 hf hg hx hb hq h60 hcq
    have AW := Lib.hid (fun wz => awake7_any wz)
    go_enter Try.func4, Try.ntmps4
    go_wp2_with fail
    go_at_call 17
    (with_reducible refine (PL.out _ ?_ ?_).mono ?_)
    · exact BB.out.now.1
    · exact BB.out.now.2.1
    rintro e w1 ⟨rfl, hb1⟩
    have BB := Lib.hid (BB.out.go hb1)
    clear hb1
    go_wp2_with fail
    go_at_call 18
    (with_reducible refine (RL.out _ ?_ ?_).mono ?_)
    · exact BB.out.now.1
    · exact BB.out.now.2.1
    rintro e w1 ⟨rfl, hb1⟩
    have BB := Lib.hid (BB.out.go hb1)
    clear hb1
    go_wp2_with fail
    go_at_call 8
    (with_reducible refine (IX.out _ ?_).mono ?_)
    · exact BB.out.now.1
    rintro e w1 ⟨a5, m5, c5, rfl, hk5, hb1⟩
    have BB := Lib.hid (BB.out.go hb1)
    clear hb1
    have hm5 : q = false → m5 = 0 := fun e => by
      rw [e, if_neg (by decide)] at hk5
      exact hk5.2.1
    have HM5 := Lib.hid hm5
    clear hk5 hm5
    go_wp2_with fail
    go_at_call 7
    (with_reducible refine (CN.out _ ?_).mono ?_)
    · exact BB.out.now.1
    rintro e w1 ⟨rfl, rfl⟩
    have hcq := HCQ.out
    have e1 : (x == x) = true := beq_self_eq_true x
    have e2 : (b == b) = true := beq_self_eq_true b
    have HEND : Hid (∀ w9, Below w1.heap.size w1 w9 → Below w.heap.size w w9) := Lib.hid (fun w9 h => (BB.out.go h).below)
    by_cases h0 : 0 ≤ i
    · by_cases h1 : i < cn
      · rw [decide_eq_true h0, decide_eq_true h1] at hcq
        cases sb with
        | false =>
          have hz := HM5.out hcq
          subst hz
          subst hcq
          clear HCQ
          go_wp2_with fail
          go_at_call 6
          refine (AW.out _).mono ?_
          rintro e w3 ⟨rfl, hb3⟩
          have HB := Lib.hid (HEND.out _ hb3)
          clear hb3
          go_wp2
          go_ret
          exact ⟨rfl, HB.out⟩
        | true =>
          subst hcq
          clear HCQ
          go_wp2_with fail
          go_at_call 6
          refine (AW.out _).mono ?_
          rintro e w3 ⟨rfl, hb3⟩
          have HB := Lib.hid (HEND.out _ hb3)
          clear hb3
          go_wp2
          go_ret
          exact ⟨rfl, HB.out⟩
      · have h1d : decide (i < cn) = false := decide_eq_false h1
        rw [h1d, Bool.and_false, Bool.and_false] at hcq
        have hz := HM5.out hcq
        subst hz
        subst hcq
        clear HCQ
        cases sb with
        | false =>
          go_wp2_with fail
          go_at_call 6
          refine (AW.out _).mono ?_
          rintro e w3 ⟨rfl, hb3⟩
          have HB := Lib.hid (HEND.out _ hb3)
          clear hb3
          go_wp2
          go_ret
          exact ⟨rfl, HB.out⟩
        | true =>
          go_wp2_with fail
          go_at_call 6
          refine (AW.out _).mono ?_
          rintro e w3 ⟨rfl, hb3⟩
          have HB := Lib.hid (HEND.out _ hb3)
          clear hb3
          go_wp2
          go_ret
          exact ⟨by simp, HB.out⟩
    · rw [decide_eq_false h0, Bool.false_and, Bool.and_false] at hcq
      have hz := HM5.out hcq
      subst hz
      subst hcq
      clear HCQ
      cases sb with
      | false =>
        go_wp2_with fail
        go_at_call 6
        refine (AW.out _).mono ?_
        rintro e w3 ⟨rfl, hb3⟩
        have HB := Lib.hid (HEND.out _ hb3)
        clear hb3
        go_wp2
        go_ret
        exact ⟨rfl, HB.out⟩
      | true =>
        go_wp2_with fail
        go_at_call 6
        refine (AW.out _).mono ?_
        rintro e w3 ⟨rfl, hb3⟩
        have HB := Lib.hid (HEND.out _ hb3)
        clear hb3
        go_wp2
        go_ret
        exact ⟨rfl, HB.out⟩
  · have AW := Lib.hid (fun wz => awake7_any wz)
    have HEND : Hid (∀ w9, Below w.heap.size w w9 → Below w.heap.size w w9) := Lib.hid (fun _ h => h)
    clear h h2 hf hg
    by_cases hn : n ≤ 60
    · have d1 : ¬ ((60 : Int) < n) := by omega
      have d2 : (60 : Int) < m := by omega
      clear h60
      go_enter Try.func4, Try.ntmps4
      go_wp2_with fail
      go_at_call 6
      refine (AW.out _).mono ?_
      rintro e w3 ⟨rfl, hb3⟩
      have HB := Lib.hid (HEND.out _ hb3)
      clear hb3
      go_wp2
      go_ret
      exact ⟨rfl, HB.out⟩
    · have d1 : (60 : Int) < n := by omega
      clear h60
      go_enter Try.func4, Try.ntmps4
      go_wp2_with fail
      go_at_call 6
      refine (AW.out _).mono ?_
      rintro e w3 ⟨rfl, hb3⟩
      have HB := Lib.hid (HEND.out _ hb3)
      clear hb3
      go_wp2
      go_ret
      exact ⟨rfl, HB.out⟩

theorem own : ownKnob Try.prog.godebug = none := by kernel_rfl
theorem laidOut : laidOutB Try.prog = true := by kernel_rfl

set_option maxHeartbeats 800000 in
set_option maxRecDepth 100000 in
theorem shapeMisses_lifted (os : Os) (started : os.Started) (H : Type) (enc : TypeId × Value → H) :
    ReturnsInHanded {} Try.checked os 4 .any (Rows.shapeMissesSpec.pre6 enc Try.prog Try.f4 Rows.shapeMissesRow.domain false) (Rows.shapeMissesSpec.post enc Try.prog Try.f4 false true false false) := by
  refine returnsInHanded_of_change_sized (C := Try.checked) own started (by kernel_rfl) Try.func4
    (ChangeSpec.witness6 (enc := enc) (C := Try.checked) false ⟨#[], #[.slice none 0 0, .slice none 0 0, .int .i64 0], []⟩ 8 (by kernel_rfl) (by kernel_rfl) (by kernel_rfl) (by kernel_rfl)) ?_
  intro W base args ds gs before hval0 hW _ _ _
  have hval : ∀ (j : Nat) t v, Try.f4.params[j]? = some t → args[j]? = some v → Value.okWide Try.prog W .any base t v := hval0
  have hW' := hW
  obtain ⟨p, q, hA0, hV, rfl, _, _⟩ := hW
  have hA : DataW.TrodAll enc Try.prog W 0 (fun _ => true) true Try.f4.params.toList args.toList ds p := hA0
  rw [Try.params4] at hA hval
  obtain ⟨v0, v1, v2, d0, d1, d2, p0, p1, p2, rfl, rfl, rfl, h0, h1, h2⟩ := trodAll_three hA
  obtain ⟨rfl, rfl⟩ := trodVars_none hV
  obtain ⟨a0, n0, c0, f0, rfl, k0, w0, z0⟩ := open_krowN Try.underlying22 Try.underlying3 (by kernel_rfl) (hval 0 22 v0 rfl rfl) h0
  obtain ⟨a1, n1, c1, f1, rfl, k1, w1, z1⟩ := open_krowN Try.underlying22 Try.underlying3 (by kernel_rfl) (hval 1 22 v1 rfl rfl) h1
  obtain ⟨x2, rfl, rfl, rfl, w2⟩ := open_int Try.underlying3 (hval 2 3 v2 rfl rfl) h2
  have b2 : -9223372036854775808 ≤ x2 ∧ x2 ≤ 9223372036854775807 := by simpa [Lit.wf, IntKind.min, IntKind.max, IntKind.signed, IntKind.bits] using w2
  have hlt : ∀ y ∈ p0 ++ (p1 ++ ([])), y.block < W.heap.size := fun y hy => by simpa using hW'.lt y (by simpa using hy)
  simp only [List.append_nil] at hW'
  refine (shapeMisses_walk a0 n0 c0 f0 a1 n1 c1 f1 x2 W k0 (in64_of w0) z0 k1 (in64_of w1) z1 b2).mono fun e W' ⟨he, hb⟩ => ?_
  subst he
  exact ⟨_, rfl, _, _, _, [], _, [], hW', trodAll_mk1 (shut_bool Try.underlying4 _), trodAll_mk3 (Below.trod laidOut (by kernel_rfl) (of_decide_eq_true (by kernel_rfl)) h0 hb (fun y hy => hlt y (by simp [hy]))) (Below.trod laidOut (by kernel_rfl) (of_decide_eq_true (by kernel_rfl)) h1 hb (fun y hy => hlt y (by simp [hy]))) (shut_int Try.underlying3 w2), rfl, hb.frame _, fun h => by cases h⟩

theorem shapeMisses_holds : Rows.ShapeMissesSaid :=
  OpenClaim.holds_of_wide 4 Try.f4 rfl rfl rfl rfl rfl rfl rfl ⟨rfl, rfl, rfl, rfl, rfl⟩ rfl rfl rfl rfl rfl (by kernel_rfl) Try.func4 (by kernel_rfl)
    (of_decide_eq_true (by kernel_rfl)) (by unfold Func.isWrapper; first | (rw [if_pos (by decide +kernel)]; kernel_rfl) | (rw [if_neg (by decide +kernel)]; exact ⟨rfl, rfl⟩))
    (fun os started H enc _ => shapeMisses_lifted os started H enc)

#print axioms shapeMisses_holds
end Go.Proofs.Ytgpcfncolhmgfaa
