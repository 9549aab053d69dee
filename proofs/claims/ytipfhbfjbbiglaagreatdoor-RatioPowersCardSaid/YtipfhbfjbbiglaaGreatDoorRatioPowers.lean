/-
  Proved: the law RatioPowers of package typeballlaw03 returns true for every number and every two ints (statement RatioPowersCardSaid), under the row's own conditions.
-/
import Derived.Test.YtipfhbfjbbiglaaGreatDoorLa2
import Derived.Test.YtipfhbfjbbiglaaGreatDoorRp4
import Derived.Test.YtipfhbfjbbiglaaGreatDoorCards
import Derived.Test.YtipfhbfjbbiglaaGreatDoorTie
import Derived.Test.YtipfhbfjbbiglaaGreatDoorNum3
import Derived.LaidMore
import Derived.Lay
import Derived.SevenTiedAt
import Derived.Stop.Joined
import Derived.Laws.StructEq
namespace Go.Proofs.YtipfhbfjbbiglaaGreatDoor
open Go.ChangeShapes Go.WideShapes Go.ChangeAt Go.RowKit Go.WideMaps Go.WideElems
open Go.ChangeMaps (open_string shut_string)
attribute [local go_sem ↓] Go.wp_at_zero Go.wp_at_succ

theorem powN_lim (X : Nat) (n : Int) {most : Int} (hm : most ≤ 12) : (powN X n most).1 < 4294967296 ^ 12 := by
  obtain ⟨m0, hm0⟩ : ∃ m : Nat, m = 12 := ⟨_, rfl⟩
  have hb : 1 < 4294967296 ^ m0 := Nat.one_lt_pow (by omega) (by omega)
  rw [← hm0]
  unfold powN
  split
  · exact hb
  · split
    · exact Nat.pow_pos (by omega)
    · split
      · rename_i h1 h2 h3
        have h4 : lb (X ^ n.toNat) ≤ m0 := by omega
        rw [lb_le, Nat.pow_mul] at h4
        exact h4
      · exact Nat.pow_pos (by omega)
theorem ra_lim (P : Int) {Q : Nat} (hQ : 0 < Q) (n : Int) {most : Int} (hm : most ≤ 12) : (raP P Q n most).natAbs < 4294967296 ^ 12 ∧ 0 < raQ P Q n most ∧ raQ P Q n most < 4294967296 ^ 12 := by
  unfold raP raQ
  by_cases h : raO P Q n most = true
  · rw [if_pos h, if_pos h, sgn_abs]
    have ho := h
    unfold raO at ho
    rw [Bool.and_eq_true] at ho
    exact ⟨powN_lim _ _ hm, powN_pos hQ n most ho.2, powN_lim _ _ hm⟩
  · rw [if_neg h, if_neg h]
    exact ⟨Nat.pow_pos (by omega), by omega, Nat.one_lt_pow (by omega) (by omega)⟩
theorem po_lim2 {P : Int} {Q : Nat} (hQ : 0 < Q) (N : Int) {most : Int} (hm : most ≤ 12) : (poP P Q N most).natAbs < 4294967296 ^ 12 ∧ 0 < poQ P Q N most ∧ poQ P Q N most < 4294967296 ^ 12 := by
  unfold poP poQ
  by_cases h0 : 0 ≤ N
  · rw [if_pos h0, if_pos h0]; exact ra_lim P hQ N hm
  · rw [if_neg h0, if_neg h0]
    by_cases hP : P = 0
    · rw [if_pos hP, if_pos hP]; exact ⟨Nat.pow_pos (by omega), by omega, Nat.one_lt_pow (by omega) (by omega)⟩
    · rw [if_neg hP, if_neg hP]
      have hi := inQ_pos Q hP
      by_cases hm2 : N = -9223372036854775808
      · rw [if_pos hm2, if_pos hm2]; exact ra_lim _ (tmQ_pos _ _ hi hi) _ hm
      · rw [if_neg hm2, if_neg hm2]; exact ra_lim _ hi _ hm

set_option maxHeartbeats 6400000 in
set_option maxRecDepth 100000 in
theorem ratioPowers_no (b : Bool) (s t : ByteArray) (N most : Int) (w : World) (h : (rd3 b s t && (decide (s.size ≤ 20) && (decide (t.size ≤ 20) && decide (most ≤ 12)))) = false) :
    Calls Tryz.prog 8 #[.agg #[.bool b, .string s, .string t], .int .i64 N, .int .i64 most] w fun e w' => e = .returned (.bool true) ∧ Below w.heap.size w w' := by
  have BB := Lib.hid ((Bag.start w).box3 (.bool b) (.string s) (.string t) 23)
  have R1 := Lib.hid (fun wz => read3_weak b s t wz)
  unfold Read3w at R1
  generalize rd3 b s t = k1 at *
  obtain ⟨g1, l1⟩ : ∃ g, decide ((20 : Int) < s.size) = g := ⟨_, rfl⟩
  obtain ⟨g2, l2⟩ : ∃ g, decide ((20 : Int) < t.size) = g := ⟨_, rfl⟩
  obtain ⟨g3, l3⟩ : ∃ g, decide (12 < most) = g := ⟨_, rfl⟩
  have e1 : decide (s.size ≤ 20) = !g1 := by rw [← l1, ← decide_not]; exact decide_eq_decide.2 (by omega)
  have e2 : decide (t.size ≤ 20) = !g2 := by rw [← l2, ← decide_not]; exact decide_eq_decide.2 (by omega)
  have e3 : decide (most ≤ 12) = !g3 := by rw [← l3, ← decide_not]; exact decide_eq_decide.2 (by omega)
  rw [e1, e2, e3] at h
  have q0 := BB.out.now.1.cell
  have q1 := BB.out.now.1.cell1
  have q2 := BB.out.now.1.cell2
  clear e1 e2 e3
  cases k1 <;> cases g1 <;> cases g2 <;> cases g3
  all_goals
    first
      | (cases h; done)
      | skip
  all_goals
    clear h
    go_enter Tryz.func8, Tryz.ntmps8
    go_wp2_with fail
    go_at_call 23
    (with_reducible refine (R1.out _).mono ?_)
    rintro e w1 ⟨a, n, c, m, a2, n2, c2, rfl, hb1⟩
    have BB := Lib.hid ((BB.out.go hb1).alloc (.cells #[.slice a n c, .bool m, .slice a2 n2 c2] 37))
    clear hb1 q0 q1 q2
    have q0 := BB.out.now.1.cell
    have q1 := BB.out.now.1.cell1
    have q2 := BB.out.now.1.cell2
    go_wp2_with fail
    go_at_call 12
    refine (awake3_any _).mono ?_
    rintro e w3 ⟨rfl, hb3⟩
    have BB := Lib.hid (BB.out.go hb3)
    go_wp2
    go_ret
    exact ⟨rfl, BB.out.below⟩

set_option linter.unusedSimpArgs false in
set_option maxHeartbeats 6400000 in
set_option maxRecDepth 100000 in
theorem ratioPowers_yes (b : Bool) (s t : ByteArray) (N most : Int) (w : World) (hN : -9223372036854775808 ≤ N ∧ N ≤ 9223372036854775807) (hm0 : -9223372036854775808 ≤ most) (h : rd3 b s t = true) (hs : s.size ≤ 20) (ht : t.size ≤ 20) (hm : most ≤ 12) :
    Calls Tryz.prog 8 #[.agg #[.bool b, .string s, .string t], .int .i64 N, .int .i64 most] w fun e w' => e = .returned (.bool true) ∧ Below w.heap.size w w' := by
  have R1 := Lib.hid (fun wz => read3_yes b s t wz h)
  unfold RatTold3 at R1
  obtain ⟨e1, e2, e3, hQ, hc, _, _, _, _⟩ := rd3_spec h
  have hd1 : dl (ofP b s t).natAbs ≤ 20 := by have := congrArg ByteArray.size e2; unfold rS at this; rw [size_dl] at this; omega
  have hd2 : dl (ofQ b s t) ≤ 20 := by have := congrArg ByteArray.size e3; rw [size_dl] at this; omega
  have l1 : decide ((20 : Int) < s.size) = false := decide_eq_false (by omega)
  have l2 : decide ((20 : Int) < t.size) = false := decide_eq_false (by omega)
  have l3 : decide (12 < most) = false := decide_eq_false (by omega)
  clear h hs ht
  generalize ofP b s t = P at *
  generalize ofQ b s t = Q at *
  have BB := Lib.hid ((Bag.start w).box3 (.bool b) (.string s) (.string t) 23)
  have PW := Lib.hid (fun a n c m a2 n2 c2 wz hz => ratPow_any a n c m a2 n2 c2 P Q N most wz hz hQ hd1 hd2 hN.1 hN.2 hm hm0)
  have RP := Lib.hid (fun wz => r3Pow_any P Q N most wz hQ hc hN.1 hN.2 hm (by omega) (by omega))
  rw [e1, e2, e3] at RP
  obtain ⟨g1, g2, g3⟩ := po_lim2 (P := P) hQ N hm
  have NM := Lib.hid (fun a n c m a2 n2 c2 wz hz => num_any a n c m a2 n2 c2 (poP P Q N most) (poQ P Q N most) wz hz g2 12 (by omega) g1 g3)
  have hdl : dl (poP P Q N most).natAbs ≤ 120 := dl_le _ 120 (by omega) (Nat.lt_trans g1 (by decide))
  have hok : okB (rS (poP P Q N most)).data.toList = true := dec_okB (by omega)
  have RT := Lib.hid (fun wz => right_any (rS (poP P Q N most)) wz (by unfold rS maxLen; rw [size_dl]; omega))
  rw [hok] at RT
  generalize poP P Q N most = X1 at *
  generalize poQ P Q N most = X2 at *
  generalize poO P Q N most = ok at *
  unfold RatTold3 at PW
  unfold NumTold3 at RP
  unfold NumTold at NM
  clear e1 e2 e3 hQ hc hd1 hd2 g1 g2 g3 hdl hok hN hm hm0
  generalize rB X1 = x1 at *
  generalize rS X1 = x2 at *
  generalize str (dec X2) = x3 at *
  have hfd : ∀ wz : World, (Instr.field 23 (.agg #[.bool x1, .string x2, .string x3]) 1).run Tryz.prog wz = .ok (.string x2) wz := fun _ => by kernel_rfl
  have q0 := BB.out.now.1.cell
  have q1 := BB.out.now.1.cell1
  have q2 := BB.out.now.1.cell2
  go_enter Tryz.func8, Tryz.ntmps8
  go_wp2_with fail
  go_at_call 23
  (with_reducible refine (R1.out _).mono ?_)
  rintro e w1 ⟨a, n, c, m, a2, n2, c2, rfl, hr1, hb1⟩
  have BB := Lib.hid (((BB.out.go hb1).rat hr1).box3 (.slice a n c) (.bool m) (.slice a2 n2 c2) 37)
  clear hr1 hb1 q0 q1 q2
  have q0 := BB.out.now.2.2.1.cell
  have q1 := BB.out.now.2.2.1.cell1
  have q2 := BB.out.now.2.2.1.cell2
  have r0 := BB.out.now.1.cell
  have r1 := BB.out.now.1.cell1
  have r2 := BB.out.now.1.cell2
  go_wp2_with fail
  go_at_call 57
  (with_reducible refine (PW.out _ _ _ _ _ _ _ _ BB.out.now.2.1).mono ?_)
  rintro e w2 ⟨a3, n3, c3, m3, a4, n4, c4, rfl, hr2, hb2⟩
  have BB := Lib.hid (((BB.out.go hb2).rat hr2).box3 (.slice a3 n3 c3) (.bool m3) (.slice a4 n4 c4) 37)
  clear hr2 hb2 q0 q1 q2 r0 r1 r2
  have q0 := BB.out.now.2.2.2.2.1.cell
  have q1 := BB.out.now.2.2.2.2.1.cell1
  have q2 := BB.out.now.2.2.2.2.1.cell2
  go_wp2_with fail
  go_at_call 58
  (with_reducible refine (RP.out _).mono ?_)
  rintro e w3 ⟨rfl, hb3⟩
  have BB := Lib.hid ((BB.out.go hb3).box3 (.bool x1) (.string x2) (.string x3) 23)
  clear hb3 q0 q1 q2 R1 PW RP
  go_wp2_with fail
  have BB := Lib.hid BB.out.drew
  go_region_held3 (fun y => (y.cell? ⟨w2.heap.size, 0, none⟩ = some (.slice a3 n3 c3) ∧ y.cell? ⟨w2.heap.size, 1, none⟩ = some (.bool m3) ∧ y.cell? ⟨w2.heap.size, 2, none⟩ = some (.slice a4 n4 c4)) ∧ (y.cell? ⟨w3.heap.size, 0, none⟩ = some (.bool x1) ∧ y.cell? ⟨w3.heap.size, 1, none⟩ = some (.string x2) ∧ y.cell? ⟨w3.heap.size, 2, none⟩ = some (.string x3)))
    (exact ⟨⟨BB.out.now.2.1.cell, BB.out.now.2.1.cell1, BB.out.now.2.1.cell2⟩, ⟨BB.out.now.1.cell, BB.out.now.1.cell1, BB.out.now.1.cell2⟩⟩)
    (first
      | (go_at_call 20; (with_reducible refine (NM.out _ _ _ _ _ _ _ _ BB.out.now.2.2.1).mono ?_); rintro e w4 ⟨rfl, hb4⟩; have BB := Lib.hid (BB.out.go hb4))
      | (go_at_call 59; (with_reducible refine (RT.out _).mono ?_); rintro e w5 ⟨rfl, rfl⟩)
      | (go_at_call 12; refine (awake3_any _).mono ?_; rintro e w6 ⟨rfl, hb6⟩; have BB := Lib.hid (BB.out.go hb6)))
  go_wp2
  go_ret
  exact ⟨rfl, BB.out.below⟩

theorem ratioPowers_walk (b : Bool) (s t : ByteArray) (N most : Int) (w : World) (_ : s.size ≤ maxLen) (_ : t.size ≤ maxLen) (hN : -9223372036854775808 ≤ N ∧ N ≤ 9223372036854775807) (hm : -9223372036854775808 ≤ most ∧ most ≤ 9223372036854775807) :
    Calls Tryz.prog 8 #[.agg #[.bool b, .string s, .string t], .int .i64 N, .int .i64 most] w fun e w' => e = .returned (.bool true) ∧ Below w.heap.size w w' := by
  cases h : (rd3 b s t && (decide (s.size ≤ 20) && (decide (t.size ≤ 20) && decide (most ≤ 12)))) with
  | false => exact ratioPowers_no b s t N most w h
  | true =>
    rw [Bool.and_eq_true, Bool.and_eq_true, Bool.and_eq_true, decide_eq_true_eq, decide_eq_true_eq, decide_eq_true_eq] at h
    exact ratioPowers_yes b s t N most w hN hm.1 h.1 h.2.1 h.2.2.1 h.2.2.2

theorem own : ownKnob Tryz.prog.godebug = none := by kernel_rfl

set_option maxRecDepth 100000 in
theorem ratioPowers_lifted (os : Os) (started : os.Started) (H : Type) (enc : TypeId × Value → H) :
    ReturnsInHanded {} Tryz.checked os 8 .any (fun w args => (Rows.ratioPowersSpec.pre enc Tryz.prog Tryz.f8 [] false w args ∧ laidMetH Tryz.prog Rows.ratioPowersRow.laid w) ∧ sizedMet enc Tryz.prog Tryz.f8 (OpenSpec.ofChange Rows.ratioPowersSpec) false w args)
      (Rows.ratioPowersSpec.post enc Tryz.prog Tryz.f8 false true false false) := by
  refine returnsInHanded_of_change_and (C := Tryz.checked) (X := fun w _ => laidMetH Tryz.prog Rows.ratioPowersRow.laid w) (fun _ _ _ hh h => h.of_heap hh) own started (by kernel_rfl) Tryz.func8
    (ChangeSpec.witness_shaped (enc := enc) (C := Tryz.checked) (os := os) (X := fun w _ => laidMetH Tryz.prog Rows.ratioPowersRow.laid w) false (World.laidAll Tryz.prog os Rows.ratioPowersRow.laid) #[.agg #[.bool false, .string ⟨#[]⟩, .string ⟨#[]⟩], .int .i64 0, .int .i64 0] 8 (World.laidAll_os _ _ _)
      (World.shaped_of_ZipB (by kernel_rfl) (by kernel_rfl)) (by kernel_rfl) (by kernel_rfl) (by kernel_rfl)
      (by rw [MakeChecks.laidMetH_plain _ _ _ (by kernel_rfl)]; exact laidMet_laidAll _ (by kernel_rfl) (by kernel_rfl))) ?_
  intro W base args ds gs before hval0 hW _ _ _ _
  have hval : ∀ (j : Nat) t v, Tryz.f8.params[j]? = some t → args[j]? = some v → Value.okWide Tryz.prog W .any base t v := hval0
  have hW' := hW
  obtain ⟨p, q, hA0, hV, rfl, _, _⟩ := hW
  have hA : DataW.TrodAll enc Tryz.prog W 0 (fun _ => true) true Tryz.f8.params.toList args.toList ds p := hA0
  rw [Tryz.params8] at hA hval
  obtain ⟨v0, v1, v2, d0, d1, d2, p0, p1, p2, rfl, rfl, rfl, h0, h1, h2⟩ := trodAll_three hA
  obtain ⟨rfl, rfl⟩ := trodVars_none hV
  obtain ⟨x0, y0, z0, rfl, rfl, rfl, b0, c0⟩ := open_num (hval 0 23 v0 rfl rfl) h0
  obtain ⟨x1, rfl, rfl, rfl, w1⟩ := open_int Tryz.underlying3 (hval 1 3 v1 rfl rfl) h1
  have b1 : -9223372036854775808 ≤ x1 ∧ x1 ≤ 9223372036854775807 := by simpa [Lit.wf, IntKind.min, IntKind.max, IntKind.signed, IntKind.bits] using w1
  obtain ⟨x2, rfl, rfl, rfl, w2⟩ := open_int Tryz.underlying3 (hval 2 3 v2 rfl rfl) h2
  have b2 : -9223372036854775808 ≤ x2 ∧ x2 ≤ 9223372036854775807 := by simpa [Lit.wf, IntKind.min, IntKind.max, IntKind.signed, IntKind.bits] using w2
  simp only [List.append_nil] at hW'
  refine (ratioPowers_walk x0 y0 z0 x1 x2 W b0 c0 b1 b2).mono fun e W' ⟨he, hb⟩ => ?_
  subst he
  exact ⟨_, rfl, _, _, _, [], [], [], hW', trodAll_mk1 (shut_bool Tryz.underlying4 _), trodAll_mk3 (shut_num b0 c0) (shut_int Tryz.underlying3 w1) (shut_int Tryz.underlying3 w2), rfl, hb.frame _, fun h => by cases h⟩

theorem ratioPowers_row : Rows.RatioPowersSaid :=
  OpenClaim.holds_of_wide 8 Tryz.f8 rfl rfl rfl rfl rfl rfl rfl ⟨rfl, rfl, rfl, rfl, rfl⟩ rfl rfl rfl rfl rfl (by kernel_rfl) Tryz.func8 (by kernel_rfl)
    (of_decide_eq_true (by kernel_rfl)) (by unfold Func.isWrapper; first | (rw [if_pos (by decide +kernel)]; kernel_rfl) | (rw [if_neg (by decide +kernel)]; exact ⟨rfl, rfl⟩))
    (fun os started H enc _ => ratioPowers_lifted os started H enc)

theorem ratioPowers_holds : Rows.RatioPowersCardSaid :=
  Claim7.holds_tied_plain_at .later [] [.data, .pinned] true Rows.ratioPowersCard.stood.harness Rows.ratioPowersCard.stood.looks ratioPowers_row (fun _ h => by cases h) (by kernel_rfl) (fun _ h => by cases h) ratioPowers_row_tie rfl ⟨rfl, rfl⟩ (by kernel_rfl) rfl
    (fun f fn hf hfn => by
      obtain rfl : f = 8 := Option.some.inj ((show Tryz.prog.funcNamed "typeball/typeballlaw03.RatioPowers" = some 8 by kernel_rfl).symm.trans hf) |>.symm
      obtain rfl : fn = Tryz.f8 := (Option.some.inj (Tryz.func8.symm.trans hfn)).symm
      exact ⟨by kernel_rfl, fun j t ht => by
        rw [Tryz.params8] at ht
        have hm : t ∈ [23, 3] := by simpa using Array.mem_of_getElem? ht
        have hall : ([23, 3].all fun u => !Tryz.prog.wantsStandIn u) = true := by kernel_rfl
        exact (show Tryz.prog.wantsStandIn t = false by simpa using List.all_eq_true.1 hall t hm)⟩)
    (by kernel_rfl)
#print axioms ratioPowers_holds
end Go.Proofs.YtipfhbfjbbiglaaGreatDoor
