/-
  Proved: the law WholeTells of package typeballlaw02 returns true for every two texts (statement WholeTellsCardSaid), under the row's own conditions.
-/
import Derived.Test.YtkjdoknmmiaapaaDoorWl1
import Derived.Test.YtkjdoknmmiaapaaDoorWl2
import Derived.Test.YtkjdoknmmiaapaaDoorCards
import Derived.Test.YtkjdoknmmiaapaaDoorTie
import Derived.ProofKit
import Derived.OpenShut
import Derived.LaidMore
import Derived.Lay
import Derived.SevenTiedAt
import Derived.Stop.Joined
namespace Go.Proofs.YtkjdoknmmiaapaaDoor
open Go.ChangeShapes Go.WideShapes Go.ChangeAt Go.RowKit Go.WideMaps Go.WideElems
open Go.ChangeMaps (open_string shut_string)
attribute [local go_sem ↓] Go.wp_at_zero Go.wp_at_succ

theorem lim100 {N : Nat} (h : N < 10 ^ 100) : N < 4294967296 ^ 11 := Nat.lt_trans h (by decide)

set_option maxHeartbeats 1600000 in
set_option maxRecDepth 100000 in
theorem wholeTells_no (s t : ByteArray) (w : World) (hs : s.size ≤ maxLen) (ht : t.size ≤ maxLen) (h : rdK s = false ∨ 20 < t.size) :
    Calls Tryd.prog 10 #[.string s, .string t] w fun e w' => e = .returned (.bool true) ∧ Below w.heap.size w w' := by
  have RD := Lib.hid (fun wz => lread_any s wz hs)
  obtain ⟨g, hg⟩ : ∃ g, rdK s = g := ⟨_, rfl⟩
  rw [hg] at RD h
  unfold maxLen at hs ht
  clear hg
  have fin : ∀ g, (g = false ∨ 20 < t.size) → Hid (∀ wz, Calls Tryd.prog 49 #[.string s] wz fun e w' => ReadW wz w' e (rdZ s.data.toList) g) → Calls Tryd.prog 10 #[.string s, .string t] w fun e w' => e = .returned (.bool true) ∧ Below w.heap.size w w' := by
    intro g h RD
    cases g
    all_goals
      first
        | (have hh : 20 < t.size := by rcases h with h | h; (· cases h); (· exact h)
           have d1 : decide ((20 : Int) < (t.size : Int)) = true := decide_eq_true (by omega))
        | skip
      clear h
      go_enter Tryd.func10, Tryd.ntmps10
      go_wp2_with fail
      go_at_call 49
      (with_reducible refine (RD.out _).mono ?_)
      rintro e w1 ⟨a, n, c, m, rfl, hi1, hb1⟩
      have BB := Lib.hid ((((Bag.start w).go hb1).box2 (.slice a n c) (.bool m) 60).box2 (.bool (rB (rdZ s.data.toList))) (.string (rS (rdZ s.data.toList))) 62)
      clear hi1 hb1
      go_wp2_with fail
      go_at_call 50
      refine (awake2_any _).mono ?_
      rintro e w2 ⟨rfl, hb2⟩
      have BB := Lib.hid (BB.out.go hb2)
      clear hb2
      go_wp2
      go_ret
      exact ⟨rfl, BB.out.below⟩
  exact fin g h RD

set_option maxHeartbeats 6400000 in
set_option maxRecDepth 100000 in
theorem wholeTells_yes (s t : ByteArray) (w : World) (hs : s.size ≤ maxLen) (hk : rdK s = true) (ht : t.size ≤ 20) :
    Calls Tryd.prog 10 #[.string s, .string t] w fun e w' => e = .returned (.bool true) ∧ Below w.heap.size w w' := by
  have RR := Lib.hid (fun wz => lread_any s wz hs)
  have hZ := rdZ_small hk
  rw [hk] at RR
  obtain ⟨Z, hZe⟩ : ∃ Z, rdZ s.data.toList = Z := ⟨_, rfl⟩
  rw [hZe] at RR hZ
  have hdl : dl Z.natAbs ≤ 100 := dl_le _ 100 (by omega) hZ
  have hN := lim100 hZ
  have IN := Lib.hid (fun a n c m wz (h : IntAt wz a n c m Z) => int_any a n c m Z wz h)
  have SM := Lib.hid (fun wz => rSmall_any Z wz (by omega))
  have NG := Lib.hid (fun a n c m wz (h : IntAt wz a n c m Z) => neg_any a n c m Z wz h)
  have SZ := Lib.hid (fun a n c m wz (h : IntAt wz a n c m Z) => size_any a n c m Z wz h)
  have TX : Hid (∀ a n c wz, NatIs wz (.agg #[.slice a n c]) Z.natAbs → Calls Tryd.prog 21 #[.agg #[.slice a n c]] wz fun e w' => e = .returned (.string (rS Z)) ∧ Below wz.heap.size wz w') := fun a n c wz h => text_any _ _ wz h 11 (by omega) hN
  have SG := Lib.hid (fun a n c m wz (h : IntAt wz a n c m Z) => sign_any a n c m Z wz h)
  have RG := Lib.hid (fun wz => rSign_any Z wz)
  have MN := Lib.hid (fun a n c m wz (h : IntAt wz a n c m Z) => minus_any a n c m Z wz h)
  have RM := Lib.hid (fun wz => rMinus_any Z wz (by omega))
  have DG := Lib.hid (fun a n c m wz (h : IntAt wz a n c m (-Z)) => digits_any a n c m (-Z) ⟨#[45]⟩ wz h 11 (by omega) (by rw [Int.natAbs_neg]; exact hN) (by decide) (by rw [Int.natAbs_neg]; omega))
  have RD := Lib.hid (fun wz => rDigits_any (-Z) ⟨#[45]⟩ wz (by rw [Int.natAbs_neg]; omega) (by decide))
  have DS := Lib.hid (fun a n c m wz (h : IntAt wz a n c m Z) => digits_any a n c m Z t wz h 11 (by omega) hN (by omega) (by omega))
  have RS' := Lib.hid (fun wz => rDigits_any Z t wz (by omega) (by omega))
  unfold RTold at RM
  obtain ⟨t1, ht1⟩ : ∃ t1, digS (-Z) ⟨#[45]⟩ = t1 := ⟨_, rfl⟩
  obtain ⟨t2, ht2⟩ : ∃ t2, digS Z t = t2 := ⟨_, rfl⟩
  rw [ht1] at DG RD
  rw [ht2] at DS RS'
  obtain ⟨x, hx⟩ : ∃ x, fitI Z = x := ⟨_, rfl⟩
  obtain ⟨g, hg⟩ : ∃ g, fitB Z = g := ⟨_, rfl⟩
  obtain ⟨y, hy⟩ : ∃ y, sgnI Z = y := ⟨_, rfl⟩
  rw [hx, hg] at IN SM
  rw [hy] at SG RG
  generalize rB (-Z) = b2 at *
  generalize rS (-Z) = d2 at *
  obtain ⟨b, hb⟩ : ∃ b, rB Z = b := ⟨_, rfl⟩
  rw [hb] at RG RM RS' SM
  have HMB : Hid (∀ wz a n c m, IntAt wz a n c m Z → m = b) := fun wz a n c m h => h.1.trans hb
  unfold ReadW at RR
  rw [hb] at RR
  generalize rS Z = d at *
  have z1 : (b == b) = true := by simp
  have z2 : (d.toList == d.toList) = true := by simp
  have z3 : (y == y) = true := by simp
  have z4 : (t1.toList == t1.toList) = true := by simp
  have z5 : (x == x) = true := by simp
  have z6 : (g == g) = true := by simp
  have z7 : (t2.toList == t2.toList) = true := by simp
  have d1 : decide ((20 : Int) < (t.size : Int)) = false := decide_eq_false (by omega)
  clear ht1 ht2 hx hg hy hb hZe hZ hdl hN hk hs
  go_enter Tryd.func10, Tryd.ntmps10
  go_wp2_with fail
  go_at_call 49
  (with_reducible refine (RR.out _).mono ?_)
  rintro e w1 ⟨a, n, c, m, rfl, hi1, hb1⟩
  obtain rfl := HMB.out _ _ _ _ _ hi1
  have B1 := ((((Bag.start w).go hb1).int hi1).box2 (.slice a n c) (.bool m) 60).box2 (.bool m) (.string d) 62
  rw [World.size_alloc] at B1
  have BB := Lib.hid B1
  clear hi1 hb1 B1 HMB
  have q0 := BB.out.now.2.1.cell
  have q1 := BB.out.now.2.1.cell1
  go_wp2_with fail
  go_at_call 51
  (with_reducible refine (IN.out a n c m _ BB.out.now.2.2.1).mono ?_)
  rintro e w2 ⟨rfl, hb2⟩
  have BB := Lib.hid (BB.out.go hb2)
  clear hb2 q0 q1
  have q0 := BB.out.now.1.cell
  have q1 := BB.out.now.1.cell1
  go_wp2_with fail
  go_at_call 52
  (with_reducible refine (SM.out _).mono ?_)
  rintro e w3 ⟨rfl, hb2⟩
  have BB := Lib.hid (BB.out.go hb2)
  clear hb2 q0 q1
  go_wp2_with fail
  go_region_held3 (fun y => (y.cell? ⟨w1.heap.size, 0, none⟩ = some (.slice a n c) ∧ y.cell? ⟨w1.heap.size, 1, none⟩ = some (.bool m) ∧ y.cell? ⟨w1.heap.size + 1, 0, none⟩ = some (.bool m) ∧ y.cell? ⟨w1.heap.size + 1, 1, none⟩ = some (.string d)) ∧ Bag w (fun y => Slot2 y (w1.heap.size + 1) (.bool m) (.string d) ∧ Slot2 y w1.heap.size (.slice a n c) (.bool m) ∧ IntAt y a n c m Z ∧ True) y)
    (first
      | (have B9 := BB.out.drew; exact ⟨⟨B9.now.2.1.cell, B9.now.2.1.cell1, B9.now.1.cell, B9.now.1.cell1⟩, B9⟩)
      | (have B9 := Bag.go (show Bag w (fun y => Slot2 y (w1.heap.size + 1) (.bool m) (.string d) ∧ Slot2 y w1.heap.size (.slice a n c) (.bool m) ∧ IntAt y a n c m Z ∧ True) _ from by go_split_ands; assumption) hb2; exact ⟨⟨B9.now.2.1.cell, B9.now.2.1.cell1, B9.now.1.cell, B9.now.1.cell1⟩, B9⟩))
    (first
      | (go_at_call 53; (with_reducible refine (NG.out a n c m _ ?_).mono ?_); exact (show Bag w (fun y => Slot2 y (w1.heap.size + 1) (.bool m) (.string d) ∧ Slot2 y w1.heap.size (.slice a n c) (.bool m) ∧ IntAt y a n c m Z ∧ True) _ from by go_split_ands; assumption).now.2.2.1; rintro e w2 ⟨rfl, hb2⟩)
      | (go_at_call 54; (with_reducible refine (SZ.out a n c m _ ?_).mono ?_); exact (show Bag w (fun y => Slot2 y (w1.heap.size + 1) (.bool m) (.string d) ∧ Slot2 y w1.heap.size (.slice a n c) (.bool m) ∧ IntAt y a n c m Z ∧ True) _ from by go_split_ands; assumption).now.2.2.1; rintro e w2 ⟨rfl, hi3, hb2⟩)
      | (go_at_call 21; (with_reducible refine (TX.out a n c _ hi3).mono ?_); rintro e w2 ⟨rfl, hb2⟩)
      | (go_at_call 55; (with_reducible refine (SG.out a n c m _ ?_).mono ?_); exact (show Bag w (fun y => Slot2 y (w1.heap.size + 1) (.bool m) (.string d) ∧ Slot2 y w1.heap.size (.slice a n c) (.bool m) ∧ IntAt y a n c m Z ∧ True) _ from by go_split_ands; assumption).now.2.2.1; rintro e w2 ⟨rfl, hb2⟩)
      | (go_at_call 56; (with_reducible refine (RG.out _).mono ?_); rintro e w2 ⟨rfl, hb2⟩)
      | (go_at_call 57; (with_reducible refine (MN.out a n c m _ ?_).mono ?_); exact (show Bag w (fun y => Slot2 y (w1.heap.size + 1) (.bool m) (.string d) ∧ Slot2 y w1.heap.size (.slice a n c) (.bool m) ∧ IntAt y a n c m Z ∧ True) _ from by go_split_ands; assumption).now.2.2.1; rintro e w2 ⟨a5, n5, c5, m5, rfl, hi5, hb2⟩)
      | (go_at_call 58; (with_reducible refine (DG.out a5 n5 c5 m5 _ hi5).mono ?_); rintro e w2 ⟨rfl, hb2⟩)
      | (go_at_call 60; (with_reducible refine (RM.out _).mono ?_); rintro e w2 ⟨rfl, hb2⟩)
      | (go_at_call 59; (with_reducible refine (RD.out _).mono ?_); rintro e w2 ⟨rfl, hb2⟩)
      | (go_at_call 59; (with_reducible refine (RS'.out _).mono ?_); rintro e w2 ⟨rfl, hb2⟩)
      | (go_at_call 58; (with_reducible refine (DS.out a n c m _ ?_).mono ?_); exact (show Bag w (fun y => Slot2 y (w1.heap.size + 1) (.bool m) (.string d) ∧ Slot2 y w1.heap.size (.slice a n c) (.bool m) ∧ IntAt y a n c m Z ∧ True) _ from by go_split_ands; assumption).now.2.2.1; rintro e w2 ⟨rfl, hb2⟩)
      | (go_at_call 50; refine (awake2_any _).mono ?_; rintro e w2 ⟨rfl, hb2⟩))
  have B3 := Lib.hid (show Bag w (fun y => Slot2 y (w1.heap.size + 1) (.bool m) (.string d) ∧ Slot2 y w1.heap.size (.slice a n c) (.bool m) ∧ IntAt y a n c m Z ∧ True) _ from by go_split_ands; assumption)
  go_wp2
  go_ret
  exact ⟨rfl, B3.out.below⟩

theorem wholeTells_walk (s t : ByteArray) (w : World) (hs : s.size ≤ maxLen) (ht : t.size ≤ maxLen) :
    Calls Tryd.prog 10 #[.string s, .string t] w fun e w' => e = .returned (.bool true) ∧ Below w.heap.size w w' := by
  cases hk : rdK s with
  | false => exact wholeTells_no s t w hs ht (.inl hk)
  | true =>
    rcases Nat.lt_or_ge 20 t.size with h | h
    · exact wholeTells_no s t w hs ht (.inr h)
    · exact wholeTells_yes s t w hs hk h

theorem own : ownKnob Tryd.prog.godebug = none := by kernel_rfl

set_option maxRecDepth 100000 in
theorem wholeTells_lifted (os : Os) (started : os.Started) (H : Type) (enc : TypeId × Value → H) :
    ReturnsInHanded {} Tryd.checked os 10 .any (fun w args => (Rows.wholeTellsSpec.pre enc Tryd.prog Tryd.f10 [] false w args ∧ laidMetH Tryd.prog Rows.wholeTellsRow.laid w) ∧ sizedMet enc Tryd.prog Tryd.f10 (OpenSpec.ofChange Rows.wholeTellsSpec) false w args)
      (Rows.wholeTellsSpec.post enc Tryd.prog Tryd.f10 false true false false) := by
  refine returnsInHanded_of_change_and (C := Tryd.checked) (X := fun w _ => laidMetH Tryd.prog Rows.wholeTellsRow.laid w) (fun _ _ _ hh h => h.of_heap hh) own started (by kernel_rfl) Tryd.func10
    (ChangeSpec.witness_shaped (enc := enc) (C := Tryd.checked) (os := os) (X := fun w _ => laidMetH Tryd.prog Rows.wholeTellsRow.laid w) false (World.laidAll Tryd.prog os Rows.wholeTellsRow.laid) #[.string ⟨#[]⟩, .string ⟨#[]⟩] 8 (World.laidAll_os _ _ _)
      (World.shaped_of_ZipB (by kernel_rfl) (by kernel_rfl)) (by kernel_rfl) (by kernel_rfl) (by kernel_rfl)
      (by rw [MakeChecks.laidMetH_plain _ _ _ (by kernel_rfl)]; exact laidMet_laidAll _ (by kernel_rfl) (by kernel_rfl))) ?_
  intro W base args ds gs before hval0 hW _ _ _ _
  have hval : ∀ (j : Nat) t v, Tryd.f10.params[j]? = some t → args[j]? = some v → Value.okWide Tryd.prog W .any base t v := hval0
  have hW' := hW
  obtain ⟨p, q, hA0, hV, rfl, _, _⟩ := hW
  have hA : DataW.TrodAll enc Tryd.prog W 0 (fun _ => true) true Tryd.f10.params.toList args.toList ds p := hA0
  rw [Tryd.params10] at hA hval
  obtain ⟨v0, v1, d0, d1, p0, p1, rfl, rfl, rfl, h0, h1⟩ := trodAll_two hA
  obtain ⟨rfl, rfl⟩ := trodVars_none hV
  obtain ⟨x0, rfl, rfl, rfl, b0⟩ := open_string Tryd.underlying9 (hval 0 9 v0 rfl rfl) h0
  obtain ⟨x1, rfl, rfl, rfl, b1⟩ := open_string Tryd.underlying9 (hval 1 9 v1 rfl rfl) h1
  simp only [List.append_nil] at hW'
  refine (wholeTells_walk x0 x1 W b0 b1).mono fun e W' ⟨he, hb⟩ => ?_
  subst he
  exact ⟨_, rfl, _, _, _, [], [], [], hW', trodAll_mk1 (shut_bool Tryd.underlying4 _), trodAll_mk2 (shut_string Tryd.underlying9 b0) (shut_string Tryd.underlying9 b1), rfl, hb.frame _, fun h => by cases h⟩

theorem wholeTells_row : Rows.WholeTellsSaid :=
  OpenClaim.holds_of_wide 10 Tryd.f10 rfl rfl rfl rfl rfl rfl rfl ⟨rfl, rfl, rfl, rfl, rfl⟩ rfl rfl rfl rfl rfl (by kernel_rfl) Tryd.func10 (by kernel_rfl)
    (of_decide_eq_true (by kernel_rfl)) (by unfold Func.isWrapper; first | (rw [if_pos (by decide +kernel)]; kernel_rfl) | (rw [if_neg (by decide +kernel)]; exact ⟨rfl, rfl⟩))
    (fun os started H enc _ => wholeTells_lifted os started H enc)

theorem wholeTells_holds : Rows.WholeTellsCardSaid :=
  Claim7.holds_tied_plain_at .later [] [.data, .pinned] true Rows.wholeTellsCard.stood.harness false wholeTells_row (fun _ h => by cases h) (by kernel_rfl) (fun _ h => by cases h) wholeTells_row_tie rfl ⟨rfl, rfl⟩ (by kernel_rfl) rfl
    (fun f fn hf hfn => by
      obtain rfl : f = 10 := Option.some.inj ((show Tryd.prog.funcNamed "typeball/typeballlaw02.WholeTells" = some 10 by kernel_rfl).symm.trans hf) |>.symm
      obtain rfl : fn = Tryd.f10 := (Option.some.inj (Tryd.func10.symm.trans hfn)).symm
      exact ⟨by kernel_rfl, fun j t ht => by
        rw [Tryd.params10] at ht
        have hm : t ∈ [9] := by simpa using Array.mem_of_getElem? ht
        have hall : ([9].all fun u => !Tryd.prog.wantsStandIn u) = true := by kernel_rfl
        exact (show Tryd.prog.wantsStandIn t = false by simpa using List.all_eq_true.1 hall t hm)⟩)
    (by kernel_rfl)
#print axioms wholeTells_holds
end Go.Proofs.YtkjdoknmmiaapaaDoor
