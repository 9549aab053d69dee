/-
  Proved: the law NatPowers of package typeballlaw01 returns true for every text and every two numbers (statement NatPowersCardSaid), under the row's own condition that the two listed tables of unicode/utf8 start as the program's text lays them.
-/
import Derived.ProofKit
import Derived.OpenShut
import Derived.LaidMore
import Derived.Lay
import Derived.SevenTiedAt
import Derived.Stop.Joined
import Derived.Test.YtimihhnnhpejcaaDoorCards
import Derived.Test.YtimihhnnhpejcaaDoorTie
import Derived.Test.YtimihhnnhpejcaaDoorPow3
namespace Go.Proofs.YtimihhnnhpejcaaDoor
open Go.ChangeShapes Go.WideShapes Go.ChangeAt Go.RowKit Go.WideMaps Go.WideElems
open Go.ChangeMaps (open_string shut_string)

theorem pow_any (v : Value) (X : Nat) (n most : Int) (w : World) (h : NatIs w v X) (hXl : dl X ≤ 30) (hn : n ≤ 9223372036854775807) (hm : most ≤ 12) (hm0 : -9223372036854775808 ≤ most) :
    Calls Tryd.prog 42 #[v, .int .i64 n, .int .i64 most] w fun e w' => PowTold w w' e (powN X n most).1 (powN X n most).2 := by
  by_cases h1 : n ≤ 0 ∨ X = 1
  · have hE : powN X n most = (1, true) := by unfold powN; rw [if_pos h1]
    rw [hE]; exact pow_one v X n most w h h1
  · by_cases h2 : X = 0
    · have hE : powN X n most = (0, true) := by unfold powN; rw [if_neg h1, if_pos h2]
      subst h2
      rw [hE]; exact pow_zero v n most w h (by omega)
    · obtain ⟨m, rfl⟩ : ∃ m : Nat, n = (m : Int) := ⟨n.toNat, by omega⟩
      exact pow_main v X m most w h (by omega) hXl (by omega) (by omega) hm hm0

theorem powN_lt (X : Nat) (n most : Int) (hm : most ≤ 12) : (powN X n most).1 < 4294967296 ^ 12 := by
  have h0 : 1 < 4294967296 ^ 12 := by decide
  unfold powN
  split
  · exact h0
  · split
    · exact Nat.lt_trans (by omega) h0
    · split
      · show X ^ n.toNat < _
        exact lb_lt (by omega)
      · exact Nat.lt_trans (by omega) h0

set_option maxRecDepth 100000 in
theorem natPowers_no (s : ByteArray) (n most : Int) (w : World) (hs : s.size ≤ maxLen) (h : 120 < s.size ∨ okB s.data.toList = false) :
    Calls Tryd.prog 9 #[.string s, .int .i64 n, .int .i64 most] w fun e w' => e = .returned (.bool true) ∧ Below w.heap.size w w' := by
  have HR := Lib.hid (fun wz => read_no s wz hs h)
  clear h
  go_enter Tryd.func9, Tryd.ntmps9
  go_wp2_with fail
  go_at_call 26
  refine (HR.out _).mono ?_
  rintro e w1 ⟨rfl, hb1⟩
  have HB1 := Lib.hid (hb1.alloc hb1.size (.cells #[.slice none 0 0] 25))
  clear hb1
  go_wp2_with fail
  go_at_call 10
  refine (awake_any _).mono ?_
  rintro e w2 ⟨rfl, hb2⟩
  have HB2 := Lib.hid (HB1.out.trans (hb2.mono HB1.out.size))
  clear hb2
  go_wp2
  go_ret
  exact ⟨rfl, HB2.out⟩

set_option maxRecDepth 100000 in
theorem natPowers_yes (s : ByteArray) (n most : Int) (w : World) (hs : s.size ≤ 120) (h : okB s.data.toList = true) (hn : -9223372036854775808 ≤ n ∧ n ≤ 9223372036854775807) (hm : -9223372036854775808 ≤ most ∧ most ≤ 9223372036854775807) :
    Calls Tryd.prog 9 #[.string s, .int .i64 n, .int .i64 most] w fun e w' => e = .returned (.bool true) ∧ Below w.heap.size w w' := by
  have RS := Lib.hid (fun wz => read_yes s wz hs h)
  have HDL := (read_bound hs h).2
  generalize numOf s.data.toList = X at *
  unfold ReadYes at RS
  have hsz : (str (dec X)).size = dl X := by rw [str_size]; exact sdig_length _ _
  have hPW := fun v wz hv (h1 : dl X ≤ 30) (h2 : most ≤ 12) => pow_any v X n most wz hv h1 hn.2 h2 hm.1
  have hRP := fun wz (h1 : dl X ≤ 30) (h2 : most ≤ 12) => rpow_any X n most wz h1 h2 hn.2 hn.1
  have hLT := powN_lt X n most
  generalize powN X n most = pb at *
  obtain ⟨P, b⟩ := pb
  have hTX := fun v wz (hv : NatIs wz v P) (h2 : most ≤ 12) => text_any v P wz hv 12 (by omega) (hLT h2)
  obtain ⟨D, hD⟩ : ∃ D, str (dec X) = D := ⟨_, rfl⟩
  obtain ⟨q, hq⟩ : ∃ q, str (dec P) = q := ⟨_, rfl⟩
  simp only at hPW hRP
  rw [hD] at RS hRP hsz
  rw [hq] at hRP hTX
  have PW := Lib.hid hPW
  have RP := Lib.hid hRP
  have TX := Lib.hid hTX
  have hqq : (q.toList == q.toList) = true := by simp
  have hDl : D.size ≤ 120 := by
    have := HDL
    omega
  clear hPW hRP hTX hLT hD hq h hn
  by_cases c1 : dl X ≤ 30 ∧ most ≤ 12
  · have d1 : decide ((30 : Int) < (D.size : Int)) = false := decide_eq_false (by omega)
    have d2 : decide ((12 : Int) < most) = false := decide_eq_false (by omega)
    have hbb : (b == b) = true := by simp
    go_enter Tryd.func9, Tryd.ntmps9
    go_wp2_with fail
    go_at_call 26
    refine (RS.out _).mono ?_
    rintro e w1 ⟨a1, n1, c2, rfl, hn1, hb1⟩
    have HB1 := Lib.hid (hb1.alloc hb1.size (.cells #[.slice a1 n1 c2] 25))
    have HN1 := Lib.hid (hn1.alloc (.cells #[.slice a1 n1 c2] 25))
    clear hb1 hn1
    go_wp2_with fail
    go_at_call 42
    refine (PW.out _ _ HN1.out c1.1 c1.2).mono ?_
    rintro e w2 ⟨a3, n3, c3, rfl, hn3, hb3⟩
    have hx := HB1.out.trans (hb3.mono HB1.out.size)
    have HB3 := Lib.hid (hx.alloc hx.size (.cells #[.slice a3 n3 c3] 25))
    have HN3 := Lib.hid (hn3.alloc (.cells #[.slice a3 n3 c3] 25))
    have S3 := Slot.new w2 (.slice a3 n3 c3) 25
    clear hb3 hn3 hx
    go_wp2_with fail
    go_at_call 43
    refine (RP.out _ c1.1 c1.2).mono ?_
    rintro e w4 ⟨rfl, hb4⟩
    have HB4 := Lib.hid (HB3.out.trans (hb4.mono HB3.out.size))
    have HN4 := Lib.hid (HN3.out.below hb4)
    have hc4 := (S3.below hb4).cell
    clear hb4 S3
    go_wp2_with fail
    go_at_call 16
    refine (TX.out _ _ HN4.out c1.2).mono ?_
    rintro e w5 ⟨rfl, hb5⟩
    have HB5 := Lib.hid (HB4.out.trans (hb5.mono HB4.out.size))
    clear hb5 hc4
    go_wp2_with fail
    go_at_call 10
    refine (awake_any _).mono ?_
    rintro e w6 ⟨rfl, hb6⟩
    have HB6 := Lib.hid (HB5.out.trans (hb6.mono HB5.out.size))
    clear hb6
    go_wp2
    go_ret
    exact ⟨rfl, HB6.out⟩
  · by_cases c2 : 30 < D.size
    all_goals
      first
        | have d1 : decide ((30 : Int) < (D.size : Int)) = true := decide_eq_true (by omega)
        | (have d1 : decide ((30 : Int) < (D.size : Int)) = false := decide_eq_false (by omega)
           have d2 : decide ((12 : Int) < most) = true := decide_eq_true (by omega))
      go_enter Tryd.func9, Tryd.ntmps9
      go_wp2_with fail
      go_at_call 26
      refine (RS.out _).mono ?_
      rintro e w1 ⟨a1, n1, c2, rfl, hn1, hb1⟩
      have HB1 := Lib.hid (hb1.alloc hb1.size (.cells #[.slice a1 n1 c2] 25))
      clear hb1 hn1
      go_wp2_with fail
      go_at_call 10
      refine (awake_any _).mono ?_
      rintro e w2 ⟨rfl, hb2⟩
      have HB2 := Lib.hid (HB1.out.trans (hb2.mono HB1.out.size))
      clear hb2
      go_wp2
      go_ret
      exact ⟨rfl, HB2.out⟩

theorem natPowers_walk (s : ByteArray) (n most : Int) (w : World) (hs : s.size ≤ maxLen) (hn : -9223372036854775808 ≤ n ∧ n ≤ 9223372036854775807) (hm : -9223372036854775808 ≤ most ∧ most ≤ 9223372036854775807) :
    Calls Tryd.prog 9 #[.string s, .int .i64 n, .int .i64 most] w fun e w' => e = .returned (.bool true) ∧ Below w.heap.size w w' := by
  rcases Nat.lt_or_ge 120 s.size with h | h
  · exact natPowers_no s n most w hs (.inl h)
  · cases ho : okB s.data.toList with
    | false => exact natPowers_no s n most w hs (.inr ho)
    | true => exact natPowers_yes s n most w h ho hn hm


set_option maxRecDepth 100000 in
theorem natPowers_lifted (os : Os) (started : os.Started) (H : Type) (enc : TypeId × Value → H) :
    ReturnsInHanded {} Tryd.checked os 9 .any (fun w args => (Rows.natPowersSpec.pre enc Tryd.prog Tryd.f9 [] false w args ∧ laidMetH Tryd.prog Rows.natPowersRow.laid w) ∧ sizedMet enc Tryd.prog Tryd.f9 (OpenSpec.ofChange Rows.natPowersSpec) false w args)
      (Rows.natPowersSpec.post enc Tryd.prog Tryd.f9 false true false false) := by
  refine returnsInHanded_of_change_and (C := Tryd.checked) (X := fun w _ => laidMetH Tryd.prog Rows.natPowersRow.laid w) (fun _ _ _ hh h => h.of_heap hh) own started (by kernel_rfl) Tryd.func9
    (ChangeSpec.witness_shaped (enc := enc) (C := Tryd.checked) (os := os) (X := fun w _ => laidMetH Tryd.prog Rows.natPowersRow.laid w) false (World.laidAll Tryd.prog os Rows.natPowersRow.laid) #[.string ⟨#[]⟩, .int .i64 0, .int .i64 0] 8 (World.laidAll_os _ _ _)
      (World.shaped_of_ZipB (by kernel_rfl) (by kernel_rfl)) (by kernel_rfl) (by kernel_rfl) (by kernel_rfl)
      (by rw [MakeChecks.laidMetH_plain _ _ _ (by kernel_rfl)]; exact laidMet_laidAll _ (by kernel_rfl) (by kernel_rfl))) ?_
  intro W base args ds gs before hval0 hW _ _ _ _
  have hval : ∀ (j : Nat) t v, Tryd.f9.params[j]? = some t → args[j]? = some v → Value.okWide Tryd.prog W .any base t v := hval0
  have hW' := hW
  obtain ⟨p, q, hA0, hV, rfl, _, _⟩ := hW
  have hA : DataW.TrodAll enc Tryd.prog W 0 (fun _ => true) true Tryd.f9.params.toList args.toList ds p := hA0
  rw [Tryd.params9] at hA hval
  obtain ⟨v0, v1, v2, d0, d1, d2, p0, p1, p2, rfl, rfl, rfl, h0, h1, h2⟩ := trodAll_three hA
  obtain ⟨rfl, rfl⟩ := trodVars_none hV
  obtain ⟨x0, rfl, rfl, rfl, b0⟩ := open_string Tryd.underlying9 (hval 0 9 v0 rfl rfl) h0
  obtain ⟨x1, rfl, rfl, rfl, w1⟩ := open_int Tryd.underlying3 (hval 1 3 v1 rfl rfl) h1
  have b1 : -9223372036854775808 ≤ x1 ∧ x1 ≤ 9223372036854775807 := by simpa [Lit.wf, IntKind.min, IntKind.max, IntKind.signed, IntKind.bits] using w1
  obtain ⟨x2, rfl, rfl, rfl, w2⟩ := open_int Tryd.underlying3 (hval 2 3 v2 rfl rfl) h2
  have b2 : -9223372036854775808 ≤ x2 ∧ x2 ≤ 9223372036854775807 := by simpa [Lit.wf, IntKind.min, IntKind.max, IntKind.signed, IntKind.bits] using w2
  simp only [List.append_nil] at hW'
  refine (natPowers_walk x0 x1 x2 W b0 b1 b2).mono fun e W' ⟨he, hb⟩ => ?_
  subst he
  exact ⟨_, rfl, _, _, _, [], [], [], hW', trodAll_mk1 (shut_bool Tryd.underlying4 _), trodAll_mk3 (shut_string Tryd.underlying9 b0) (shut_int Tryd.underlying3 w1) (shut_int Tryd.underlying3 w2), rfl, hb.frame _, fun h => by cases h⟩

theorem natPowers_row : Rows.NatPowersSaid :=
  OpenClaim.holds_of_wide 9 Tryd.f9 rfl rfl rfl rfl rfl rfl rfl ⟨rfl, rfl, rfl, rfl, rfl⟩ rfl rfl rfl rfl rfl (by kernel_rfl) Tryd.func9 (by kernel_rfl)
    (of_decide_eq_true (by kernel_rfl)) (by unfold Func.isWrapper; first | (rw [if_pos (by decide +kernel)]; kernel_rfl) | (rw [if_neg (by decide +kernel)]; exact ⟨rfl, rfl⟩))
    (fun os started H enc _ => natPowers_lifted os started H enc)

theorem natPowers_holds : Rows.NatPowersCardSaid :=
  Claim7.holds_tied_plain_at .later [] [.data, .pinned] true Rows.natPowersCard.stood.harness false natPowers_row (fun _ h => by cases h) (by kernel_rfl) (fun _ h => by cases h) natPowers_row_tie rfl ⟨rfl, rfl⟩ (by kernel_rfl) rfl
    (fun f fn hf hfn => by
      obtain rfl : f = 9 := Option.some.inj ((show Tryd.prog.funcNamed "typeball/typeballlaw01.NatPowers" = some 9 by kernel_rfl).symm.trans hf) |>.symm
      obtain rfl : fn = Tryd.f9 := (Option.some.inj (Tryd.func9.symm.trans hfn)).symm
      exact ⟨by kernel_rfl, fun j t ht => by
        rw [Tryd.params9] at ht
        have hm : t ∈ [9, 3] := by simpa using Array.mem_of_getElem? ht
        have hall : ([9, 3].all fun u => !Tryd.prog.wantsStandIn u) = true := by kernel_rfl
        exact (show Tryd.prog.wantsStandIn t = false by simpa using List.all_eq_true.1 hall t hm)⟩)
    (by kernel_rfl)
#print axioms natPowers_holds
end Go.Proofs.YtimihhnnhpejcaaDoor
