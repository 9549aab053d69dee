/-
  The law of WholeFloors where an input is not read.
-/
import Derived.Test.YtageaamioljocaaDoorK9
import Derived.Test.YtageaamioljocaaDoorWr5
namespace Go.Proofs.YtageaamioljocaaDoor
open Go.RowKit
attribute [local go_sem ↓] Go.wp_at_zero Go.wp_at_succ

theorem IntAt.none0 (w : World) : IntAt w none 0 0 false 0 := ⟨rfl, NatIs.zero w⟩

set_option maxHeartbeats 1600000 in
set_option maxRecDepth 100000 in
theorem wholeFloors_no (s t : ByteArray) (w : World) (hs : s.size ≤ maxLen) (ht : t.size ≤ maxLen) (h : (rdK s && rdK t) = false) :
    Calls Tryd.prog 4 #[.string s, .string t] w fun e w' => e = .returned (.bool true) ∧ Below w.heap.size w w' := by
  have RS := Lib.hid (fun wz => lread_any s wz hs)
  have RT := Lib.hid (fun wz => lread_any t wz ht)
  obtain ⟨g, hg⟩ : ∃ g, rdK s = g := ⟨_, rfl⟩
  obtain ⟨k, hk⟩ : ∃ k, rdK t = k := ⟨_, rfl⟩
  rw [hg] at RS h
  rw [hk] at RT h
  clear hg hk hs ht
  generalize rdZ s.data.toList = Z at *
  generalize rdZ t.data.toList = Y at *
  unfold ReadW at RS RT
  generalize rB Z = b at *
  generalize rS Z = d at *
  generalize rB Y = b2 at *
  generalize rS Y = d2 at *
  cases g
  all_goals
    first
      | (have hk : k = false := h
         subst hk)
      | cases k
  all_goals
    clear h
    go_enter Tryd.func4, Tryd.ntmps4
    go_wp2_with fail
    go_at_call 5
    (with_reducible refine (RS.out _).mono ?_)
    rintro e w1 ⟨a, n, c, m, rfl, _, hb1⟩
    have BB := Lib.hid ((((Bag.start w).go hb1).alloc (.cells #[.slice a n c, .bool m] 26)).alloc (.cells #[.bool b, .string d] 28))
    clear hb1
    go_wp2_with fail
    go_at_call 5
    (with_reducible refine (RT.out _).mono ?_)
    rintro e w2 ⟨a2, n2, c2, m2, rfl, _, hb2⟩
    have BB := Lib.hid (((BB.out.go hb2).alloc (.cells #[.slice a2 n2 c2, .bool m2] 26)).alloc (.cells #[.bool b2, .string d2] 28))
    clear hb2
    go_wp2_with fail
    go_at_call 6
    refine (awake2_any _).mono ?_
    rintro e w3 ⟨rfl, hb3⟩
    have BB := Lib.hid (BB.out.go hb3)
    clear hb3
    go_wp2
    go_ret
    exact ⟨rfl, BB.out.below⟩

set_option maxHeartbeats 3200000 in
set_option maxRecDepth 100000 in
theorem wholeFloors_zero (s t : ByteArray) (w : World) (hs : s.size ≤ maxLen) (ht : t.size ≤ maxLen) (hk : rdK s = true) (hk2 : rdK t = true) (h0 : rdZ t.data.toList = 0) :
    Calls Tryd.prog 4 #[.string s, .string t] w fun e w' => e = .returned (.bool true) ∧ Below w.heap.size w w' := by
  have RR1 := Lib.hid (fun wz => lread_any s wz hs)
  have RR2 := Lib.hid (fun wz => lread_any t wz ht)
  have hZ := rdZ_small hk
  have hY := rdZ_small hk2
  rw [hk] at RR1
  rw [hk2] at RR2
  obtain ⟨Z, hZe⟩ : ∃ Z, rdZ s.data.toList = Z := ⟨_, rfl⟩
  obtain ⟨Y, hYe⟩ : ∃ Y, rdZ t.data.toList = Y := ⟨_, rfl⟩
  rw [hZe] at RR1 hZ
  rw [hYe] at RR2 hY
  have hY0 : Y = 0 := hYe.symm.trans h0
  have hN := lim100' hZ
  have FN := Lib.hid (fun a n c m a2 n2 c2 m2 wz (h : IntAt wz a n c m Z) (g : IntAt wz a2 n2 c2 m2 0) => floor_none a n c m Z a2 n2 c2 m2 wz h g 11 (by omega) hN)
  have SG := Lib.hid (fun wz => rSign_any Y wz)
  rw [hY0, show sgnI 0 = 0 from rfl] at SG
  rw [hY0] at RR2
  have SI := Lib.hid (fun a n c m wz (h : IntAt wz a n c m 0) => sign_any a n c m 0 wz h)
  rw [show sgnI 0 = 0 from rfl] at SI
  obtain ⟨b, hb⟩ : ∃ b, rB Z = b := ⟨_, rfl⟩
  obtain ⟨b2, hb2⟩ : ∃ b2, rB 0 = b2 := ⟨_, rfl⟩
  have HM1 : Hid (∀ wz a n c m, IntAt wz a n c m Z → m = b) := fun wz a n c m h => h.1.trans hb
  have HM2 : Hid (∀ wz a n c m, IntAt wz a n c m 0 → m = b2) := fun wz a n c m h => h.1.trans hb2
  unfold ReadW at RR1 RR2
  rw [hb] at RR1
  rw [hb2] at RR2 SG
  generalize rS Z = d at *
  generalize rS 0 = d2 at *
  clear hb hb2 hZe hYe hZ hY hN hk hk2 hs ht h0 hY0
  go_enter Tryd.func4, Tryd.ntmps4
  go_wp2_with fail
  go_at_call 5
  (with_reducible refine (RR1.out _).mono ?_)
  rintro e w1 ⟨a, n, c, m, rfl, hi1, hb1⟩
  obtain rfl := HM1.out _ _ _ _ _ hi1
  have B1 := ((((Bag.start w).go hb1).int hi1).box2 (.slice a n c) (.bool m) 26).box2 (.bool m) (.string d) 28
  rw [World.size_alloc] at B1
  have BB := Lib.hid B1
  clear hi1 hb1 B1 HM1
  go_wp2_with fail
  go_at_call 5
  (with_reducible refine (RR2.out _).mono ?_)
  rintro e w2 ⟨a2, n2, c2, m2, rfl, hi2, hb2⟩
  obtain rfl := HM2.out _ _ _ _ _ hi2
  have B2 := (((BB.out.go hb2).int hi2).box2 (.slice a2 n2 c2) (.bool m2) 26).box2 (.bool m2) (.string d2) 28
  rw [World.size_alloc] at B2
  have BB := Lib.hid B2
  clear hi2 hb2 B2 HM2
  have q0 := BB.out.now.2.2.2.2.1.cell
  have q1 := BB.out.now.2.2.2.2.1.cell1
  have q2 := BB.out.now.2.1.cell
  have q3 := BB.out.now.2.1.cell1
  have q4 := BB.out.now.1.cell
  have q5 := BB.out.now.1.cell1
  go_wp2_with (first
    | (go_at_call 13; (with_reducible refine (FN.out a n c m a2 n2 c2 m2 _ ?_ ?_).mono ?_); exact BB.out.now.2.2.2.2.2.1; exact BB.out.now.2.2.1; rintro e w3 ⟨rfl, hb3⟩; have B3 := ((BB.out.go hb3).box2 (.slice none 0 0) (.bool false) 26).box2 (.slice none 0 0) (.bool false) 26; rw [World.size_alloc] at B3; have BB := Lib.hid B3; clear B3 hb3; have q4 := BB.out.now.2.2.1.cell; have q5 := BB.out.now.2.2.1.cell1; have q6 := BB.out.now.2.1.cell; have q7 := BB.out.now.2.1.cell1; have q8 := BB.out.now.1.cell; have q9 := BB.out.now.1.cell1)
    | (go_at_call 14; (with_reducible refine (SG.out _).mono ?_); rintro e w4 ⟨rfl, hb4⟩; have BB := Lib.hid (BB.out.go hb4); have q6 := BB.out.now.2.1.cell; have q7 := BB.out.now.2.1.cell1; have q8 := BB.out.now.1.cell; have q9 := BB.out.now.1.cell1; clear hb4)
    | (go_at_call 15; (with_reducible refine (SI.out _ _ _ _ _ (IntAt.none0 _)).mono ?_); rintro e w5 ⟨rfl, hb5⟩; have BB := Lib.hid (BB.out.go hb5); have q8 := BB.out.now.1.cell; have q9 := BB.out.now.1.cell1; clear hb5)
    | (go_at_call 6; refine (awake2_any _).mono ?_; rintro e w6 ⟨rfl, hb6⟩; have BB := Lib.hid (BB.out.go hb6); clear hb6))
  go_ret
  exact ⟨rfl, BB.out.below⟩

end Go.Proofs.YtageaamioljocaaDoor
