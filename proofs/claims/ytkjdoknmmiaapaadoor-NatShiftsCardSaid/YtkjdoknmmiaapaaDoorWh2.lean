/-
  Package whole: Neg, Size, Sign, Minus, Digits, by contract.
-/
import Derived.Test.YtkjdoknmmiaapaaDoorWh1
import Derived.Test.YtkjdoknmmiaapaaDoorNat21
namespace Go.Proofs.YtkjdoknmmiaapaaDoor
open Go.RowKit
attribute [local go_sem ↓] Go.wp_at_zero Go.wp_at_succ

theorem Bag.int {w0 w : World} {P : World → Prop} {a : Option Addr} {n c : Nat} {m : Bool} {Z : Int} (h : Bag w0 P w) (q : IntAt w a n c m Z) : Bag w0 (fun y => IntAt y a n c m Z ∧ P y) w := h.add (fun _ _ hb q => q.below hb) q

set_option maxHeartbeats 800000 in
set_option maxRecDepth 100000 in
theorem neg_any (a : Option Addr) (n c : Nat) (m : Bool) (Z : Int) (w : World) (h : IntAt w a n c m Z) :
    Calls Tryd.prog 53 #[.agg #[.slice a n c, .bool m]] w fun e w' => e = .returned (.bool m) ∧ Below w.heap.size w w' := by
  have B0 := ((Bag.start w).nat h.2).box2 (.slice a n c) (.bool m) 60
  have q0 := B0.now.1.cell
  have q1 := B0.now.1.cell1
  have hz := zero_any _ _ _ B0.now.2.1
  have BB := Lib.hid B0
  cases m with
  | false =>
    clear h B0 hz
    go_enter Tryd.func53, Tryd.ntmps53
    go_wp2
    go_ret
    exact ⟨rfl, BB.out.below⟩
  | true =>
    have h0 : decide (Z.natAbs = 0) = false := by
      have := h.1
      rw [decide_eq_false]
      have h2 := of_decide_eq_true this.symm
      omega
    rw [h0] at hz
    have HZ := Lib.hid hz
    clear h B0 h0 hz
    go_enter Tryd.func53, Tryd.ntmps53
    go_wp2_with (go_at_call 22; refine HZ.out.mono ?_; rintro e w2 ⟨rfl, hb2⟩; have HB := Lib.hid (BB.out.go hb2).below; clear hb2)
    go_ret
    exact ⟨rfl, HB.out⟩

set_option maxRecDepth 100000 in
theorem size_any (a : Option Addr) (n c : Nat) (m : Bool) (Z : Int) (w : World) (h : IntAt w a n c m Z) :
    Calls Tryd.prog 54 #[.agg #[.slice a n c, .bool m]] w fun e w' => NatTold2 w w' e (.agg #[.slice a n c]) Z.natAbs := by
  have B0 := (((Bag.start w).nat h.2).box2 (.slice a n c) (.bool m) 60).alloc (.cells #[.slice a n c] 25)
  have HE : Hid (NatTold2 w ((w.alloc (.cells #[.slice a n c, .bool m] 60)).alloc (.cells #[.slice a n c] 25)) (.returned (.agg #[.slice a n c])) (.agg #[.slice a n c]) Z.natAbs) := ⟨rfl, B0.now.2.1, B0.below⟩
  clear h B0
  go_enter Tryd.func54, Tryd.ntmps54
  go_wp2
  exact bodyPost_ret (v := .agg #[.slice a n c]) (by simp [results, Tryd.results54, go_sem]) rfl HE.out

def sgnI (Z : Int) : Int := if Z < 0 then -1 else if Z = 0 then 0 else 1

set_option maxHeartbeats 800000 in
set_option maxRecDepth 100000 in
theorem sign_any (a : Option Addr) (n c : Nat) (m : Bool) (Z : Int) (w : World) (h : IntAt w a n c m Z) :
    Calls Tryd.prog 55 #[.agg #[.slice a n c, .bool m]] w fun e w' => e = .returned (.int .i64 (sgnI Z)) ∧ Below w.heap.size w w' := by
  have B0 := ((Bag.start w).int h).box2 (.slice a n c) (.bool m) 60
  have q0 := B0.now.1.cell
  have q1 := B0.now.1.cell1
  have hz := zero_any _ _ _ B0.now.2.1.2
  have BB := Lib.hid B0
  by_cases h0 : Z = 0
  · have d0 : decide (Z.natAbs = 0) = true := decide_eq_true (by omega)
    rw [d0] at hz
    have HZ := Lib.hid hz
    have HE : Hid (sgnI Z = 0) := by show _ = _; unfold sgnI; rw [if_neg (by omega), if_pos h0]
    clear h B0 h0 d0 hz
    go_enter Tryd.func55, Tryd.ntmps55
    go_wp2_with (go_at_call 22; refine HZ.out.mono ?_; rintro e w2 ⟨rfl, hb2⟩; have HB := Lib.hid (BB.out.go hb2).below; clear hb2)
    go_ret
    exact ⟨ret_int HE.out.symm, HB.out⟩
  · have d0 : decide (Z.natAbs = 0) = false := decide_eq_false (by omega)
    rw [d0] at hz
    have HZ := Lib.hid hz
    have HM := Lib.hid h.1
    have HE : Hid (sgnI Z = if m then -1 else 1) := by
      show _ = _
      rw [h.1]; unfold sgnI
      by_cases h2 : Z < 0
      · rw [if_pos h2, decide_eq_true h2]; rfl
      · rw [if_neg h2, if_neg h0, decide_eq_false h2]; rfl
    clear h B0 h0 d0 hz
    go_enter Tryd.func55, Tryd.ntmps55
    go_wp2_with fail
    go_at_call 22
    refine HZ.out.mono ?_
    rintro e w2 ⟨rfl, hb2⟩
    have B2 := Lib.hid (BB.out.go hb2)
    clear hb2 q0 q1
    have q0 := B2.out.now.1.cell
    have q1 := B2.out.now.1.cell1
    go_wp2_with fail
    go_at_call 53
    refine (neg_any a n c m Z _ B2.out.now.2.1).mono ?_
    rintro e w3 ⟨rfl, hb3⟩
    have B3 := Lib.hid (B2.out.go hb3)
    clear hb3 q0 q1
    cases m
    all_goals
      go_wp2
      go_ret
      exact ⟨ret_int HE.out.symm, B3.out.below⟩

set_option maxHeartbeats 1600000 in
set_option maxRecDepth 100000 in
theorem minus_any (a : Option Addr) (n c : Nat) (m : Bool) (Z : Int) (w : World) (h : IntAt w a n c m Z) :
    Calls Tryd.prog 57 #[.agg #[.slice a n c, .bool m]] w fun e w' => IntTold w w' e (-Z) := by
  have B0 := (((Bag.start w).int h).box2 (.slice a n c) (.bool m) 60).box2 (.slice none 0 0) (.bool false) 60
  rw [World.size_alloc] at B0
  have q0 := B0.now.2.1.cell
  have q1 := B0.now.2.1.cell1
  have BB := Lib.hid B0.drew
  have NG : Hid (∀ wz, IntAt wz a n c m Z → Calls Tryd.prog 53 #[.agg #[.slice a n c, .bool m]] wz fun e w' => e = .returned (.bool m) ∧ Below wz.heap.size wz w') := fun wz hz => neg_any a n c m Z wz hz
  have OF : Hid (∀ wz, IntAt wz a n c m Z → Calls Tryd.prog 92 #[.bool (!m), .agg #[.slice a n c]] wz fun e w' => IntTold wz w' e (-Z)) := by
    intro wz hz
    have h1 := wof_any (!m) a n c _ wz hz.2
    have e : sgn (!m) Z.natAbs = -Z := by
      rw [h.1]
      by_cases h2 : Z < 0
      · rw [decide_eq_true h2]; simp [sgn]; omega
      · rw [decide_eq_false h2]; simp [sgn]; omega
    rw [e] at h1
    exact h1
  clear h B0
  go_enter Tryd.func57, Tryd.ntmps57
  go_wp2_with fail
  go_region_with (first
    | (go_at_call 53; refine (NG.out _ BB.out.now.2.2.1).mono ?_; rintro e w2 ⟨rfl, hb2⟩; have BB := Lib.hid (BB.out.go hb2); have q0 := BB.out.now.2.1.cell; have q1 := BB.out.now.2.1.cell1; clear hb2)
    | (go_at_call 92; refine (OF.out _ BB.out.now.2.2.1).mono ?_; rintro e w2 ⟨a3, n3, c3, m3, rfl, hi3, hb2⟩; have B2 := BB.out.go hb2; have hs2 := B2.now.1; have hc1 := hs2.cell; have hc2 := hs2.cell1; have hf1 := hs2.free; have hf2 := hs2.free1; have HS := hs2.set (.slice a3 n3 c3) (.bool m3); have HE := Lib.hid (IntTold.done B2.below (by omega) hs2 (fun _ _ h => by cases h) hi3); clear hb2 B2 hs2 hi3))
  all_goals
    go_wp2
    exact bodyPost_ret (v := _) (by simp [results, Tryd.results57, go_sem, HS]) rfl HE.out

end Go.Proofs.YtkjdoknmmiaapaaDoor
