/-
  Proved: the law MonoOnes of package typeballlaw12 returns true for every rune, every number and every int, under the row's own conditions.
-/
import Derived.Test.YtnpoakaffafdiaaGreatDoorM1
import Derived.Test.YtnpoakaffafdiaaGreatDoorM2
import Derived.Test.YtnpoakaffafdiaaGreatDoorM3
import Derived.Test.YtnpoakaffafdiaaGreatDoorM4
import Derived.Test.YtnpoakaffafdiaaGreatDoorM5
import Derived.Test.YtnpoakaffafdiaaGreatDoorM6
import Derived.Test.YtnpoakaffafdiaaGreatDoorM7
import Derived.Test.YtnpoakaffafdiaaGreatDoorM8
import Derived.Test.YtnpoakaffafdiaaGreatDoorCards
import Derived.Test.YtnpoakaffafdiaaGreatDoorTie
import Derived.LaidMore
import Derived.Lay
import Derived.SevenTiedAt
import Derived.Stop.Joined
import Derived.Laws.StructEq
namespace Go.Proofs.YtnpoakaffafdiaaGreatDoor
open Go.ChangeShapes Go.WideShapes Go.ChangeAt Go.RowKit Go.WideMaps Go.WideElems
open Go.ChangeMaps (open_string shut_string)
attribute [local go_sem ↓] Go.wp_at_zero Go.wp_at_succ
set_option linter.unusedVariables false
set_option linter.unusedSimpArgs false

/-- What One answers is not too long. -/
theorem mone_bd {c0 P : Int} {Q : Nat} {l : Int} (hQ : 0 < Q) (h1 : dl P.natAbs ≤ 60) (h2 : dl Q ≤ 60) (hl : l ≤ 64) : 0 < oQ c0 P Q l ∧ (oP c0 P Q l).natAbs < 4294967296 ^ 64 ∧ oQ c0 P Q l < 4294967296 ^ 64 := by
  have one : 0 < (1 : Nat) ∧ (0 : Int).natAbs < 4294967296 ^ 64 ∧ (1 : Nat) < 4294967296 ^ 64 := ⟨by omega, Nat.pow_pos (by omega), Nat.one_lt_pow (by omega) (by omega)⟩
  unfold oP oQ
  by_cases hE : oE c0 P Q l = 0
  · rw [if_pos hE, if_pos hE]
    unfold oE at hE
    by_cases hc : hasB c0 = false
    · rw [if_pos hc] at hE
      omega
    rw [if_neg hc] at hE
    by_cases h126 : c0 = 126
    · rw [if_pos h126] at hE
      rw [if_pos h126, if_pos h126]
      by_cases hq : Q = 1 ∧ (P = 0 ∨ P = 1)
      · have : (1 - P).natAbs ≤ 1 := by omega
        exact ⟨one.1, Nat.lt_of_le_of_lt this one.2.2, one.2.2⟩
      · rw [if_neg hq] at hE
        omega
    · rw [if_neg h126] at hE
      rw [if_neg h126, if_neg h126]
      by_cases ha : aN c0 P Q = false
      · rw [if_pos ha] at hE
        omega
      rw [if_neg ha] at hE
      by_cases hlt : l < limZ (aP c0 P Q) (aQ c0 P Q)
      · rw [if_pos hlt] at hE
        omega
      · unfold limZ at hlt
        refine ⟨?_, lbs_le32.1 (by omega), lbs_le32.1 (by omega)⟩
        have ha2 : aN c0 P Q = true := by simpa using ha
        unfold aN at ha2
        unfold aQ
        repeat' split
        all_goals first
          | exact hQ
          | omega
          | (simp_all <;> omega)
  · rw [if_neg hE, if_neg hE]
    exact one

set_option maxHeartbeats 6400000 in
set_option maxRecDepth 100000 in
theorem monoOnes_no (c0 : Int) (b : Bool) (s t : ByteArray) (l : Int) (w : World) (h : rd12 b s t = false) :
    Calls Tryz.prog 6 #[.int .i32 c0, .agg #[.bool b, .string s, .string t], .int .i64 l] w fun e w' => e = .returned (.bool true) ∧ Below w.heap.size w w' := by
  have BB := Lib.hid ((Bag.start w).box3 (.bool b) (.string s) (.string t) 53)
  have AW := Lib.hid (fun wz => awake12_any wz)
  have RD := Lib.hid (fun wz => read12_no b s t wz h)
  unfold RatTold3 at RD
  have q0 := BB.out.now.1.cell
  have q1 := BB.out.now.1.cell1
  have q2 := BB.out.now.1.cell2
  clear h
  go_enter Tryz.func6, Tryz.ntmps6
  go_wp2_with fail
  go_at_call 23
  (with_reducible refine (RD.out _).mono ?_)
  rintro e w1 ⟨a1, n1, c1, m1, d1, i1, j1, rfl, hr1, hb1⟩
  have BB := Lib.hid (((BB.out.go hb1).rat hr1).box3 (.slice a1 n1 c1) (.bool m1) (.slice d1 i1 j1) 60)
  clear hb1 hr1 q0 q1 q2
  go_wp2_with fail
  go_at_call 24
  (with_reducible refine (AW.out _).mono ?_)
  rintro e w9 ⟨rfl, hb9⟩
  have BB := Lib.hid (BB.out.go hb9)
  clear hb9
  go_wp2
  go_ret
  exact ⟨rfl, BB.out.below⟩

set_option maxHeartbeats 6400000 in
set_option maxRecDepth 100000 in
theorem monoOnes_big (c0 : Int) (b : Bool) (s t : ByteArray) (l : Int) (w : World) (h : rd12 b s t = true) (hl : 64 < l) :
    Calls Tryz.prog 6 #[.int .i32 c0, .agg #[.bool b, .string s, .string t], .int .i64 l] w fun e w' => e = .returned (.bool true) ∧ Below w.heap.size w w' := by
  have BB := Lib.hid ((Bag.start w).box3 (.bool b) (.string s) (.string t) 53)
  have AW := Lib.hid (fun wz => awake12_any wz)
  have RD := Lib.hid (fun wz => read12_yes b s t wz h)
  unfold RatTold3 at RD
  have q0 := BB.out.now.1.cell
  have q1 := BB.out.now.1.cell1
  have q2 := BB.out.now.1.cell2
  clear h
  go_enter Tryz.func6, Tryz.ntmps6
  go_wp2_with fail
  go_at_call 23
  (with_reducible refine (RD.out _).mono ?_)
  rintro e w1 ⟨a1, n1, c1, m1, d1, i1, j1, rfl, hr1, hb1⟩
  have BB := Lib.hid (((BB.out.go hb1).rat hr1).box3 (.slice a1 n1 c1) (.bool m1) (.slice d1 i1 j1) 60)
  clear hb1 hr1 q0 q1 q2
  go_wp2_with fail
  go_at_call 24
  (with_reducible refine (AW.out _).mono ?_)
  rintro e w9 ⟨rfl, hb9⟩
  have BB := Lib.hid (BB.out.go hb9)
  clear hb9
  go_wp2
  go_ret
  exact ⟨rfl, BB.out.below⟩

set_option maxHeartbeats 6400000 in
set_option maxRecDepth 100000 in
theorem monoOnes_yes (c0 : Int) (b : Bool) (s t : ByteArray) (l : Int) (w : World) (h : rd12 b s t = true) (hl : l ≤ 64) :
    Calls Tryz.prog 6 #[.int .i32 c0, .agg #[.bool b, .string s, .string t], .int .i64 l] w fun e w' => e = .returned (.bool true) ∧ Below w.heap.size w w' := by
  obtain ⟨h1, h2, h3, hQ, hg, d1, d2, g1, g2⟩ := rd12_spec h
  have RD := Lib.hid (fun wz => read12_yes b s t wz h)
  unfold RatTold3 at RD
  generalize ofP b s t = P at *
  generalize ofQ b s t = Q at *
  have NT := mone_bd (c0 := c0) (l := l) hQ d1 d2 hl
  have MO := Lib.hid (fun a n c m a2 n2 c2 wz q => mone_any c0 a n c m a2 n2 c2 P Q l wz q hQ hg 7 (by omega) g1 g2 hl)
  have RO := Lib.hid (fun wz => rone_any c0 P Q l wz hQ d1 d2 hl)
  rw [h1, h2, h3] at RO
  have NM := Lib.hid (fun a n c m a2 n2 c2 wz q => num_any a n c m a2 n2 c2 (oP c0 P Q l) (oQ c0 P Q l) wz q NT.1 64 (by omega) NT.2.1 NT.2.2)
  unfold RatTold4 at MO
  unfold NumTold4 at RO
  unfold NumTold at NM
  have H1 := Lib.hid (fun wz => mhas_any c0 wz)
  have H2 := Lib.hid (fun wz => rhas12_any c0 wz)
  generalize hasB c0 = hb at *
  generalize oP c0 P Q l = P1 at *
  generalize oQ c0 P Q l = Q1 at *
  generalize oE c0 P Q l = E1 at *
  generalize rB P1 = b1 at *
  generalize rS P1 = s1 at *
  generalize str (dec Q1) = q9 at *
  have hl2 : ¬ 64 < l := by omega
  have BB := Lib.hid ((Bag.start w).box3 (.bool b) (.string s) (.string t) 53)
  have AW := Lib.hid (fun wz => awake12_any wz)
  have q0 := BB.out.now.1.cell
  have q1 := BB.out.now.1.cell1
  have q2 := BB.out.now.1.cell2
  clear h h1 h2 h3 hQ hg d1 d2 g1 g2 NT hl
  go_enter Tryz.func6, Tryz.ntmps6
  go_wp2_with fail
  go_at_call 23
  (with_reducible refine (RD.out _).mono ?_)
  rintro e w1 ⟨a1, n1, c1, m1, d1, i1, j1, rfl, hr1, hb1⟩
  have BB := Lib.hid (((BB.out.go hb1).rat hr1).box3 (.slice a1 n1 c1) (.bool m1) (.slice d1 i1 j1) 60)
  clear hb1 hr1 q0 q1 q2
  have q0 := BB.out.now.1.cell
  have q1 := BB.out.now.1.cell1
  have q2 := BB.out.now.1.cell2
  go_wp2_with fail
  go_at_call 25
  (with_reducible refine (MO.out _ _ _ _ _ _ _ _ BB.out.now.2.1).mono ?_)
  rintro e w2 ⟨a2, n2, c2, m2, d2, i2, j2, rfl, hr2, hb2⟩
  have BB := Lib.hid (((BB.out.go hb2).rat hr2).box3 (.slice a2 n2 c2) (.bool m2) (.slice d2 i2 j2) 60)
  clear hb2 hr2 q0 q1 q2
  have q0 := BB.out.now.2.2.2.2.1.cell
  have q1 := BB.out.now.2.2.2.2.1.cell1
  have q2 := BB.out.now.2.2.2.2.1.cell2
  go_wp2_with fail
  go_at_call 26
  (with_reducible refine (RO.out _).mono ?_)
  rintro e w3 ⟨rfl, hb3⟩
  have BB := Lib.hid ((BB.out.go hb3).box3 (.bool b1) (.string s1) (.string q9) 53)
  clear hb3 q0 q1 q2
  go_wp2_with fail
  have BB := Lib.hid BB.out.drew
  go_region_held3 (fun y => (y.cell? ⟨w2.heap.size, 0, none⟩ = some (.slice a2 n2 c2) ∧ y.cell? ⟨w2.heap.size, 1, none⟩ = some (.bool m2) ∧ y.cell? ⟨w2.heap.size, 2, none⟩ = some (.slice d2 i2 j2)) ∧ y.cell? ⟨w3.heap.size, 0, none⟩ = some (.bool b1) ∧ y.cell? ⟨w3.heap.size, 1, none⟩ = some (.string s1) ∧ y.cell? ⟨w3.heap.size, 2, none⟩ = some (.string q9))
    (exact ⟨⟨BB.out.now.2.1.cell, BB.out.now.2.1.cell1, BB.out.now.2.1.cell2⟩, BB.out.now.1.cell, BB.out.now.1.cell1, BB.out.now.1.cell2⟩)
    (first
      | (go_at_call 27; (with_reducible refine (H1.out _).mono ?_); rintro e w4 ⟨rfl, hb4⟩; have BB := Lib.hid (BB.out.go hb4))
      | (go_at_call 28; (with_reducible refine (H2.out _).mono ?_); rintro e w5 ⟨rfl, hb5⟩; have BB := Lib.hid (BB.out.go hb5))
      | (go_at_call 22; (with_reducible refine (NM.out _ _ _ _ _ _ _ _ BB.out.now.2.2.1).mono ?_); rintro e w6 ⟨rfl, hb6⟩; have BB := Lib.hid (BB.out.go hb6))
      | (go_at_call 24; (with_reducible refine (AW.out _).mono ?_); rintro e w7 ⟨rfl, hb7⟩; have BB := Lib.hid (BB.out.go hb7)))
  go_wp2
  go_ret
  exact ⟨rfl, BB.out.below⟩

theorem monoOnes_walk (c0 : Int) (b : Bool) (s t : ByteArray) (l : Int) (w : World) (_ : s.size ≤ maxLen) (_ : t.size ≤ maxLen) (_ : -9223372036854775808 ≤ l ∧ l ≤ 9223372036854775807) :
    Calls Tryz.prog 6 #[.int .i32 c0, .agg #[.bool b, .string s, .string t], .int .i64 l] w fun e w' => e = .returned (.bool true) ∧ Below w.heap.size w w' := by
  cases h : rd12 b s t with
  | false => exact monoOnes_no c0 b s t l w h
  | true =>
    by_cases hl : 64 < l
    · exact monoOnes_big c0 b s t l w h hl
    · exact monoOnes_yes c0 b s t l w h (by omega)

theorem own : ownKnob Tryz.prog.godebug = none := by kernel_rfl

set_option maxRecDepth 100000 in
theorem monoOnes_lifted (os : Os) (started : os.Started) (H : Type) (enc : TypeId × Value → H) :
    ReturnsInHanded {} Tryz.checked os 6 .any (fun w args => (Rows.monoOnesSpec.pre enc Tryz.prog Tryz.f6 [] false w args ∧ laidMetH Tryz.prog Rows.monoOnesRow.laid w) ∧ sizedMet enc Tryz.prog Tryz.f6 (OpenSpec.ofChange Rows.monoOnesSpec) false w args)
      (Rows.monoOnesSpec.post enc Tryz.prog Tryz.f6 false true false false) := by
  refine returnsInHanded_of_change_and (C := Tryz.checked) (X := fun w _ => laidMetH Tryz.prog Rows.monoOnesRow.laid w) (fun _ _ _ hh h => h.of_heap hh) own started (by kernel_rfl) Tryz.func6
    (ChangeSpec.witness_shaped (enc := enc) (C := Tryz.checked) (os := os) (X := fun w _ => laidMetH Tryz.prog Rows.monoOnesRow.laid w) false (World.laidAll Tryz.prog os Rows.monoOnesRow.laid) #[.int .i32 0, .agg #[.bool false, .string ⟨#[]⟩, .string ⟨#[]⟩], .int .i64 0] 8 (World.laidAll_os _ _ _)
      (World.shaped_of_ZipB (by kernel_rfl) (by kernel_rfl)) (by kernel_rfl) (by kernel_rfl) (by kernel_rfl)
      (by rw [MakeChecks.laidMetH_plain _ _ _ (by kernel_rfl)]; exact laidMet_laidAll _ (by kernel_rfl) (by kernel_rfl))) ?_
  intro W base args ds gs before hval0 hW _ _ _ _
  have hval : ∀ (j : Nat) t v, Tryz.f6.params[j]? = some t → args[j]? = some v → Value.okWide Tryz.prog W .any base t v := hval0
  have hW' := hW
  obtain ⟨p, q, hA0, hV, rfl, _, _⟩ := hW
  have hA : DataW.TrodAll enc Tryz.prog W 0 (fun _ => true) true Tryz.f6.params.toList args.toList ds p := hA0
  rw [Tryz.params6] at hA hval
  obtain ⟨v0, v1, v2, d0, d1, d2, p0, p1, p2, rfl, rfl, rfl, h0, h1, h2⟩ := trodAll_three hA
  obtain ⟨rfl, rfl⟩ := trodVars_none hV
  obtain ⟨x0, rfl, rfl, rfl, w0⟩ := open_int Tryz.underlying21 (hval 0 21 v0 rfl rfl) h0
  obtain ⟨x1, y1, z1, rfl, rfl, rfl, b1, c1⟩ := open_num (hval 1 53 v1 rfl rfl) h1
  obtain ⟨x2, rfl, rfl, rfl, w2⟩ := open_int Tryz.underlying3 (hval 2 3 v2 rfl rfl) h2
  have b2 : -9223372036854775808 ≤ x2 ∧ x2 ≤ 9223372036854775807 := by simpa [Lit.wf, IntKind.min, IntKind.max, IntKind.signed, IntKind.bits] using w2
  simp only [List.append_nil] at hW'
  refine (monoOnes_walk x0 x1 y1 z1 x2 W b1 c1 b2).mono fun e W' ⟨he, hb⟩ => ?_
  subst he
  exact ⟨_, rfl, _, _, _, [], [], [], hW', trodAll_mk1 (shut_bool Tryz.underlying4 _), trodAll_mk3 (shut_int Tryz.underlying21 w0) (shut_num b1 c1) (shut_int Tryz.underlying3 w2), rfl, hb.frame _, fun h => by cases h⟩

theorem monoOnes_row : Rows.MonoOnesSaid :=
  OpenClaim.holds_of_wide 6 Tryz.f6 rfl rfl rfl rfl rfl rfl rfl ⟨rfl, rfl, rfl, rfl, rfl⟩ rfl rfl rfl rfl rfl (by kernel_rfl) Tryz.func6 (by kernel_rfl)
    (of_decide_eq_true (by kernel_rfl)) (by unfold Func.isWrapper; first | (rw [if_pos (by decide +kernel)]; kernel_rfl) | (rw [if_neg (by decide +kernel)]; exact ⟨rfl, rfl⟩))
    (fun os started H enc _ => monoOnes_lifted os started H enc)

theorem monoOnes_holds : Rows.MonoOnesCardSaid :=
  Claim7.holds_tied_plain_at .later [] [.data, .pinned] true Rows.monoOnesCard.stood.harness Rows.monoOnesCard.stood.looks monoOnes_row (fun _ h => by cases h) (by kernel_rfl) (fun _ h => by cases h) monoOnes_row_tie rfl ⟨rfl, rfl⟩ (by kernel_rfl) rfl
    (fun f fn hf hfn => by
      obtain rfl : f = 6 := Option.some.inj ((show Tryz.prog.funcNamed "typeball/typeballlaw12.MonoOnes" = some 6 by kernel_rfl).symm.trans hf) |>.symm
      obtain rfl : fn = Tryz.f6 := (Option.some.inj (Tryz.func6.symm.trans hfn)).symm
      exact ⟨by kernel_rfl, fun j t ht => by
        rw [Tryz.params6] at ht
        have hm : t ∈ [21, 53, 3] := by simpa using Array.mem_of_getElem? ht
        have hall : ([21, 53, 3].all fun u => !Tryz.prog.wantsStandIn u) = true := by kernel_rfl
        exact (show Tryz.prog.wantsStandIn t = false by simpa using List.all_eq_true.1 hall t hm)⟩)
    (by kernel_rfl)
#print axioms monoOnes_holds
end Go.Proofs.YtnpoakaffafdiaaGreatDoor
