/-
  Texts of this seat, laid together.
-/
import Derived.Test.YtnpoakaffafdiaaGreatDoorM1
import Derived.Test.YtnpoakaffafdiaaGreatDoorM2
import Derived.Test.YtnpoakaffafdiaaGreatDoorM3

namespace Go.Proofs.YtnpoakaffafdiaaGreatDoor
open Go.RowKit
attribute [local go_sem ↓] Go.wp_at_zero Go.wp_at_succ
/-- A whole number's fields in the document's answers. -/
def rB (Z : Int) : Bool := decide (Z < 0)
def rS (Z : Int) : ByteArray := str (dec Z.natAbs)
def RTold (w w' : World) (e : Ending) (Z : Int) : Prop := e = .returned (.agg #[.bool (rB Z), .string (rS Z)]) ∧ Below w.heap.size w w'
/-- Two cells of a block stored. -/
def put2 (y : World) (k : Nat) (x z : Value) : World := (y.setCell ⟨k, 0, none⟩ x).setCell ⟨k, 1, none⟩ z
theorem RTold.fin {w w2 : World} {k : Nat} {Y : Int} {b : Bool} {t : ByteArray} (hb : Below w.heap.size w w2) (hk : w.heap.size ≤ k) (h1 : rB Y = b) (h2 : rS Y = t) : RTold w (put2 w2 k (.bool b) (.string t)) (.returned (.agg #[.bool b, .string t])) Y :=
  ⟨by rw [h1, h2], (hb.setCell hk _).setCell hk _⟩
theorem dec_is0 (N : Nat) : ((str (dec N)).toList == [48]) = decide (N = 0) := by
  have e : (str (dec N)).toList = dec N := by rw [ByteArray.toList_eq]; rfl
  rw [e, Bool.eq_iff_iff, beq_iff_eq, decide_eq_true_eq]
  constructor
  · intro h
    have := congrArg numOf h
    unfold dec at this
    rw [numOf_sdig, Nat.mod_eq_of_lt (dl_lt N)] at this
    simpa [numOf] using this
  · intro h; rw [h, dec_zero]
theorem rS_is0 (Z : Int) : ((rS Z).toList == [48]) = decide (Z = 0) := by
  unfold rS; rw [dec_is0]
  by_cases h : Z = 0
  · rw [decide_eq_true h, decide_eq_true (by omega)]
  · rw [decide_eq_false h, decide_eq_false (by omega)]
theorem rsgn_B (b : Bool) (N : Nat) : rB (sgn b N) = (b && !decide (N = 0)) := sgn_neg b N
theorem rsgn_S (b : Bool) (N : Nat) : rS (sgn b N) = str (dec N) := by unfold rS; rw [sgn_abs]
set_option maxRecDepth 100000 in
theorem rOf_any (b : Bool) (N n : Nat) (w : World) (hn : 0 < n) (hN : N < 10 ^ n) (hl : n ≤ 10000000) :
    Calls Tryz.prog 129 #[.bool b, .string (str (sdig N n))] w fun e w' => RTold w w' e (sgn b N) := by
  have TR := Lib.hid (fun wz => trim_any N n wz hn hN hl)
  have h0 := dec_is0 N
  obtain ⟨s, hs⟩ : ∃ s, str (sdig N n) = s := ⟨_, rfl⟩
  obtain ⟨t, ht⟩ : ∃ t, str (dec N) = t := ⟨_, rfl⟩
  have hx := rsgn_B b N
  have hy := rsgn_S b N
  rw [ht] at TR h0 hy
  rw [hs] at TR ⊢
  obtain ⟨z, hz⟩ : ∃ z, decide (N = 0) = z := ⟨_, rfl⟩
  rw [hz] at h0 hx
  have HX := Lib.hid hx
  have HY := Lib.hid hy
  clear hx hy hs ht hz hN hn hl
  cases b
  · have HE : Hid (RTold w (w.alloc (.cells #[.bool false, .string t] 116)) (.returned (.agg #[.bool false, .string t])) (sgn false N)) := ⟨by rw [HX.out, HY.out]; rfl, (Below.refl _ _).alloc (Nat.le_refl _) _⟩
    go_enter Tryz.func129, Tryz.ntmps129
    go_wp2_with (go_at_call 115; refine (TR.out _).mono ?_; rintro e w2 ⟨rfl, rfl⟩)
    exact bodyPost_ret (v := .agg #[.bool false, .string t]) (by simp [results, Tryz.results129, go_sem]) rfl HE.out
  · have HE : Hid (RTold w (w.alloc (.cells #[.bool (!z), .string t] 116)) (.returned (.agg #[.bool (!z), .string t])) (sgn true N)) := ⟨by rw [HX.out, HY.out]; rfl, (Below.refl _ _).alloc (Nat.le_refl _) _⟩
    cases z
    all_goals
      go_enter Tryz.func129, Tryz.ntmps129
      go_wp2_with (go_at_call 115; refine (TR.out _).mono ?_; rintro e w2 ⟨rfl, rfl⟩)
      exact bodyPost_ret (v := _) (by simp [results, Tryz.results129, go_sem]) rfl HE.out
theorem rOf_dec (b : Bool) (N : Nat) (w : World) (hl : dl N ≤ 10000000) :
    Calls Tryz.prog 129 #[.bool b, .string (str (dec N))] w fun e w' => RTold w w' e (sgn b N) := rOf_any b N (dl N) w (dl_pos N) (dl_lt N) hl
set_option maxRecDepth 100000 in
theorem rSign_any (Z : Int) (w : World) : Calls Tryz.prog 71 #[.agg #[.bool (rB Z), .string (rS Z)]] w fun e w' => e = .returned (.int .i64 (sgnI Z)) ∧ Below w.heap.size w w' := by
  have B0 := Lib.hid ((Bag.start w).box2 (.bool (rB Z)) (.string (rS Z)) 116)
  have h0 := rS_is0 Z
  by_cases hz : Z = 0
  · rw [decide_eq_true hz] at h0
    have HE : Hid (sgnI Z = 0) := by show _ = _; unfold sgnI; rw [if_neg (by omega), if_pos hz]
    clear hz
    generalize rB Z = b at *
    generalize rS Z = s at *
    go_enter Tryz.func71, Tryz.ntmps71
    go_wp2
    go_ret
    exact ⟨ret_int HE.out.symm, B0.out.below⟩
  · rw [decide_eq_false hz] at h0
    have HE : Hid (sgnI Z = if rB Z then -1 else 1) := by
      show _ = _; unfold sgnI rB
      by_cases h2 : Z < 0
      · rw [if_pos h2, decide_eq_true h2]; rfl
      · rw [if_neg h2, if_neg hz, decide_eq_false h2]; rfl
    clear hz
    generalize rB Z = b at *
    generalize rS Z = s at *
    cases b
    all_goals
      go_enter Tryz.func71, Tryz.ntmps71
      go_wp2
      go_ret
      exact ⟨ret_int HE.out.symm, B0.out.below⟩
set_option maxRecDepth 100000 in
theorem rMinus_any (Z : Int) (w : World) (hl : dl Z.natAbs ≤ 10000000) : Calls Tryz.prog 130 #[.agg #[.bool (rB Z), .string (rS Z)]] w fun e w' => RTold w w' e (-Z) := by
  have B0 := ((Bag.start w).box2 (.bool (rB Z)) (.string (rS Z)) 116).box2 (.bool false) (.string ⟨#[]⟩) 116
  rw [World.size_alloc] at B0
  have OF : Hid (∀ wz, Calls Tryz.prog 129 #[.bool (!rB Z), .string (rS Z)] wz fun e w' => RTold wz w' e (-Z)) := by
    intro wz
    have h1 := rOf_dec (!rB Z) Z.natAbs wz hl
    have e : sgn (!rB Z) Z.natAbs = -Z := by
      unfold rB
      by_cases h2 : Z < 0
      · rw [decide_eq_true h2]; simp [sgn]; omega
      · rw [decide_eq_false h2]; simp [sgn]; omega
    rw [e] at h1
    exact h1
  have BB := Lib.hid B0
  generalize rB Z = b at *
  generalize rS Z = s at *
  generalize -Z = Y at *
  clear B0 hl
  go_enter Tryz.func130, Tryz.ntmps130
  go_wp2_with fail
  go_at_call 129
  refine (OF.out _).mono ?_
  rintro e w2 ⟨rfl, hb2⟩
  have B2 := BB.out.go hb2
  have hs2 := B2.now.1
  have hc1 := hs2.cell
  have hc2 := hs2.cell1
  have hf1 := hs2.free
  have hf2 := hs2.free1
  have HS := hs2.set (.bool (rB Y)) (.string (rS Y))
  have HE := Lib.hid (RTold.fin (Y := Y) B2.below (show w.heap.size ≤ w.heap.size + 1 by omega) rfl rfl)
  unfold put2 at HE
  clear hb2 B2 hs2
  go_wp2
  exact bodyPost_ret (v := .agg #[.bool (rB Y), .string (rS Y)]) (by simp [results, Tryz.results130, go_sem, HS]) rfl HE.out
set_option maxRecDepth 100000 in
theorem rFrom_any (X : Int) (w : World) (h : -9223372036854775808 ≤ X ∧ X ≤ 9223372036854775807) :
    Calls Tryz.prog 120 #[.int .i64 X] w fun e w' => RTold w w' e X := by
  have BB := Lib.hid ((Bag.start w).box2 (.bool false) (.string ⟨#[]⟩) 116)
  by_cases h0 : X < 0
  · obtain ⟨y, hy⟩ : ∃ y : Nat, (y : Int) = -X := ⟨(-X).toNat, by omega⟩
    obtain ⟨y1, hy1⟩ : ∃ y1 : Nat, (y1 : Int) = -X - 1 := ⟨(-X - 1).toNat, by omega⟩
    obtain ⟨X1, hX1⟩ : ∃ X1, X + 1 = X1 := ⟨_, rfl⟩
    have e2 : 0 - X1 = (y1 : Int) := by omega
    have e3 : (y1 : Int) + 1 = (y : Int) := by omega
    have d0 : decide (X < 0) = true := decide_eq_true h0
    have HB : Hid (rB X = true ∧ rS X = str (dec y)) := ⟨by unfold rB; exact d0, by unfold rS; rw [show X.natAbs = y by omega]⟩
    have HO := Lib.hid (fun wz => rof_any y wz (by omega))
    obtain ⟨t, ht⟩ : ∃ t, str (dec y) = t := ⟨_, rfl⟩
    rw [ht] at HO HB
    have hb1 : -9223372036854775807 ≤ X1 ∧ X1 ≤ 0 := by omega
    have hb3 : (y1 : Int) ≤ 9223372036854775807 := by omega
    have h' := h.1
    clear hy hy1 ht h
    go_enter Tryz.func120, Tryz.ntmps120
    go_wp2_with fail
    go_at_call 159
    refine (HO.out _).mono ?_
    rintro e w2 ⟨rfl, hb2⟩
    have B2 := BB.out.go hb2
    have hs2 := B2.now.1
    have hc1 := hs2.cell
    have hc2 := hs2.cell1
    have hf1 := hs2.free
    have hf2 := hs2.free1
    have HS := hs2.set (.bool true) (.string t)
    have HE := Lib.hid (RTold.fin B2.below (Nat.le_refl _) HB.out.1 HB.out.2)
    unfold put2 at HE
    clear hb2 B2 hs2
    go_wp2
    exact bodyPost_ret (v := .agg #[.bool true, .string t]) (by simp [results, Tryz.results120, go_sem, HS]) rfl HE.out
  · obtain ⟨y, rfl⟩ : ∃ y : Nat, X = (y : Int) := ⟨X.toNat, by omega⟩
    have d0 : decide ((y : Int) < 0) = false := decide_eq_false h0
    have HB : Hid (rB (y : Int) = false ∧ rS (y : Int) = str (dec y)) := ⟨by unfold rB; exact d0, by unfold rS; simp⟩
    have HO := Lib.hid (fun wz => rof_any y wz (by omega))
    obtain ⟨t, ht⟩ : ∃ t, str (dec y) = t := ⟨_, rfl⟩
    rw [ht] at HO HB
    have h' := h.2
    clear ht h
    go_enter Tryz.func120, Tryz.ntmps120
    go_wp2_with fail
    go_at_call 159
    refine (HO.out _).mono ?_
    rintro e w2 ⟨rfl, hb2⟩
    have B2 := BB.out.go hb2
    have hs2 := B2.now.1
    have hc1 := hs2.cell
    have hc2 := hs2.cell1
    have hf1 := hs2.free
    have hf2 := hs2.free1
    have HS := hs2.set (.bool false) (.string t)
    have HE := Lib.hid (RTold.fin B2.below (Nat.le_refl _) HB.out.1 HB.out.2)
    unfold put2 at HE
    clear hb2 B2 hs2
    go_wp2
    exact bodyPost_ret (v := .agg #[.bool false, .string t]) (by simp [results, Tryz.results120, go_sem, HS]) rfl HE.out
theorem cmpZ_sgn {Z Y : Int} (h : sgnI Z ≠ sgnI Y) : cmpZ Z Y = if sgnI Z < sgnI Y then -1 else 1 := by
  unfold cmpZ sgnI at *
  (repeat' split at h) <;> (repeat' split) <;> omega
theorem cmpZ_abs {Z Y : Int} (h : sgnI Z = sgnI Y) : cmpZ Z Y = if rB Z then cmpI Y.natAbs Z.natAbs else cmpI Z.natAbs Y.natAbs := by
  unfold cmpZ sgnI rB cmpI at *
  by_cases h1 : Z < 0
  · rw [decide_eq_true h1]; (repeat' split at h) <;> simp only [if_true] <;> (repeat' split) <;> omega
  · rw [decide_eq_false h1]; (repeat' split at h) <;> simp only [Bool.false_eq_true, if_false] <;> (repeat' split) <;> omega
set_option maxHeartbeats 1600000 in
set_option maxRecDepth 100000 in
theorem rCmp_any (Z Y : Int) (w : World) (hl : dl Z.natAbs ≤ 100000) (hl2 : dl Y.natAbs ≤ 100000) :
    Calls Tryz.prog 164 #[.agg #[.bool (rB Z), .string (rS Z)], .agg #[.bool (rB Y), .string (rS Y)]] w fun e w' => e = .returned (.int .i64 (cmpZ Z Y)) ∧ Below w.heap.size w w' := by
  have B0 := ((Bag.start w).box2 (.bool (rB Z)) (.string (rS Z)) 116).box2 (.bool (rB Y)) (.string (rS Y)) 116
  rw [World.size_alloc] at B0
  have S1 := Lib.hid (fun wz => rSign_any Z wz)
  have S2 := Lib.hid (fun wz => rSign_any Y wz)
  have C1 := Lib.hid (fun wz => rcmp_any Z.natAbs Y.natAbs wz hl hl2)
  have C2 := Lib.hid (fun wz => rcmp_any Y.natAbs Z.natAbs wz hl2 hl)
  have HD := Lib.hid (@cmpZ_sgn Z Y)
  have HS := Lib.hid (@cmpZ_abs Z Y)
  have e1 : str (dec Z.natAbs) = rS Z := rfl
  have e2 : str (dec Y.natAbs) = rS Y := rfl
  rw [e1, e2] at C1 C2
  have BB := Lib.hid B0
  generalize rB Z = b at *
  generalize rS Z = s at *
  generalize rB Y = b2 at *
  generalize rS Y = s2 at *
  obtain ⟨x, hx⟩ : ∃ x, sgnI Z = x := ⟨_, rfl⟩
  obtain ⟨y, hy⟩ : ∃ y, sgnI Y = y := ⟨_, rfl⟩
  rw [hx] at S1 HD HS
  rw [hy] at S2 HD HS
  clear e1 e2 hx hy hl hl2 B0
  by_cases hxy : x = y
  · have hd : (x == y) = true := by rw [hxy]; simp
    have HE := Lib.hid (HS.out hxy)
    clear hxy HD HS
    go_enter Tryz.func164, Tryz.ntmps164
    go_wp2_with fail
    go_region_held3 (fun z => (z.cell? ⟨w.heap.size, 0, none⟩ = some (.bool b) ∧ z.cell? ⟨w.heap.size, 1, none⟩ = some (.string s) ∧ z.cell? ⟨w.heap.size + 1, 0, none⟩ = some (.bool b2) ∧ z.cell? ⟨w.heap.size + 1, 1, none⟩ = some (.string s2)) ∧ Bag w (fun z => Slot2 z (w.heap.size + 1) (.bool b2) (.string s2) ∧ Slot2 z w.heap.size (.bool b) (.string s) ∧ True) z)
      (first
        | (have B9 := BB.out.drew; exact ⟨⟨B9.now.2.1.cell, B9.now.2.1.cell1, B9.now.1.cell, B9.now.1.cell1⟩, B9⟩)
        | (have B9 := Bag.go (show Bag w (fun z => Slot2 z (w.heap.size + 1) (.bool b2) (.string s2) ∧ Slot2 z w.heap.size (.bool b) (.string s) ∧ True) _ from by go_split_ands; assumption) hb2; exact ⟨⟨B9.now.2.1.cell, B9.now.2.1.cell1, B9.now.1.cell, B9.now.1.cell1⟩, B9⟩))
      (first
        | (go_at_call 71; (with_reducible refine (S1.out _).mono ?_); rintro e w2 ⟨rfl, hb2⟩)
        | (go_at_call 71; (with_reducible refine (S2.out _).mono ?_); rintro e w2 ⟨rfl, hb2⟩))
    have BB := Lib.hid (show Bag w (fun z => Slot2 z (w.heap.size + 1) (.bool b2) (.string s2) ∧ Slot2 z w.heap.size (.bool b) (.string s) ∧ True) _ from by go_split_ands; assumption)
    have q0 := BB.out.now.2.1.cell
    have q1 := BB.out.now.2.1.cell1
    have q2 := BB.out.now.1.cell
    have q3 := BB.out.now.1.cell1
    cases b
    · go_wp2_with (go_at_call 179; (with_reducible refine (C1.out _).mono ?_); rintro e w5 ⟨rfl, rfl⟩)
      go_ret
      exact ⟨ret_int HE.out.symm, BB.out.below⟩
    · go_wp2_with (go_at_call 179; (with_reducible refine (C2.out _).mono ?_); rintro e w5 ⟨rfl, rfl⟩)
      go_ret
      exact ⟨ret_int HE.out.symm, BB.out.below⟩
  · have hd : (x == y) = false := by rw [beq_eq_false_iff_ne]; exact hxy
    have HE := Lib.hid (HD.out hxy)
    clear hxy HD HS
    by_cases hlt : x < y
    all_goals
      first
        | have d1 : decide (x < y) = true := decide_eq_true hlt
        | have d1 : decide (x < y) = false := decide_eq_false hlt
      have HF : Hid (cmpZ Z Y = if decide (x < y) then -1 else 1) := by show _ = _; rw [HE.out]; simp
      rw [d1] at HF
      go_enter Tryz.func164, Tryz.ntmps164
      go_wp2_with fail
      go_region_held3 (fun z => (z.cell? ⟨w.heap.size, 0, none⟩ = some (.bool b) ∧ z.cell? ⟨w.heap.size, 1, none⟩ = some (.string s) ∧ z.cell? ⟨w.heap.size + 1, 0, none⟩ = some (.bool b2) ∧ z.cell? ⟨w.heap.size + 1, 1, none⟩ = some (.string s2)) ∧ Bag w (fun z => Slot2 z (w.heap.size + 1) (.bool b2) (.string s2) ∧ Slot2 z w.heap.size (.bool b) (.string s) ∧ True) z)
        (first
          | (have B9 := BB.out.drew; exact ⟨⟨B9.now.2.1.cell, B9.now.2.1.cell1, B9.now.1.cell, B9.now.1.cell1⟩, B9⟩)
          | (have B9 := Bag.go (show Bag w (fun z => Slot2 z (w.heap.size + 1) (.bool b2) (.string s2) ∧ Slot2 z w.heap.size (.bool b) (.string s) ∧ True) _ from by go_split_ands; assumption) hb2; exact ⟨⟨B9.now.2.1.cell, B9.now.2.1.cell1, B9.now.1.cell, B9.now.1.cell1⟩, B9⟩))
        (first
          | (go_at_call 71; (with_reducible refine (S1.out _).mono ?_); rintro e w2 ⟨rfl, hb2⟩)
          | (go_at_call 71; (with_reducible refine (S2.out _).mono ?_); rintro e w2 ⟨rfl, hb2⟩))
      have BB := Lib.hid (show Bag w (fun z => Slot2 z (w.heap.size + 1) (.bool b2) (.string s2) ∧ Slot2 z w.heap.size (.bool b) (.string s) ∧ True) _ from by go_split_ands; assumption)
      go_wp2_with fail
      go_region_held3 (fun z => (z.cell? ⟨w.heap.size, 0, none⟩ = some (.bool b) ∧ z.cell? ⟨w.heap.size, 1, none⟩ = some (.string s) ∧ z.cell? ⟨w.heap.size + 1, 0, none⟩ = some (.bool b2) ∧ z.cell? ⟨w.heap.size + 1, 1, none⟩ = some (.string s2)) ∧ Bag w (fun z => Slot2 z (w.heap.size + 1) (.bool b2) (.string s2) ∧ Slot2 z w.heap.size (.bool b) (.string s) ∧ True) z)
        (first
          | (have B9 := BB.out.drew; exact ⟨⟨B9.now.2.1.cell, B9.now.2.1.cell1, B9.now.1.cell, B9.now.1.cell1⟩, B9⟩)
          | (have B9 := Bag.go (show Bag w (fun z => Slot2 z (w.heap.size + 1) (.bool b2) (.string s2) ∧ Slot2 z w.heap.size (.bool b) (.string s) ∧ True) _ from by go_split_ands; assumption) hb2; exact ⟨⟨B9.now.2.1.cell, B9.now.2.1.cell1, B9.now.1.cell, B9.now.1.cell1⟩, B9⟩))
        (first
          | (go_at_call 71; (with_reducible refine (S1.out _).mono ?_); rintro e w2 ⟨rfl, hb2⟩)
          | (go_at_call 71; (with_reducible refine (S2.out _).mono ?_); rintro e w2 ⟨rfl, hb2⟩))
      have BB := Lib.hid (show Bag w (fun z => Slot2 z (w.heap.size + 1) (.bool b2) (.string s2) ∧ Slot2 z w.heap.size (.bool b) (.string s) ∧ True) _ from by go_split_ands; assumption)
      go_wp2
      go_ret
      exact ⟨ret_int HF.out.symm, BB.out.below⟩
end Go.Proofs.YtnpoakaffafdiaaGreatDoor
namespace Go.Proofs.YtnpoakaffafdiaaGreatDoor
open Go.RowKit
attribute [local go_sem ↓] Go.wp_at_zero Go.wp_at_succ
def RX (y : World) (k : Nat) : Prop := ∃ x z, Slot2 y k x z
theorem RX.below {w w' : World} {k : Nat} (h : RX w k) (hb : Below w.heap.size w w') : RX w' k := by
  obtain ⟨x, z, h1⟩ := h; exact ⟨x, z, h1.below hb⟩
theorem Slot2.put2s {w : World} {k : Nat} {x z : Value} (h : Slot2 w k x z) (u v : Value) : Slot2 (put2 w k u v) k u v :=
  ⟨(h.set u v).1, (h.set u v).2, by simp [put2, h.free], by simp [put2, h.free1], by simpa [put2] using h.lt⟩
theorem Slot2.put2o {w : World} {k j : Nat} {x z : Value} (h1 : Slot2 w j x z) (e : j ≠ k) (u v : Value) : Slot2 (put2 w k u v) j x z := by
  refine ⟨?_, ?_, by simp [put2, h1.free], by simp [put2, h1.free1], by simpa [put2] using h1.lt⟩
  · unfold put2; rw [World.cell?_setCell_other _ _ _ _ (fun e' => by cases e' <;> exact e rfl), World.cell?_setCell_other _ _ _ _ (fun e' => by cases e' <;> exact e rfl)]; exact h1.cell
  · unfold put2; rw [World.cell?_setCell_other _ _ _ _ (fun e' => by cases e' <;> exact e rfl), World.cell?_setCell_other _ _ _ _ (fun e' => by cases e' <;> exact e rfl)]; exact h1.cell1
theorem RX.put2 {w : World} {k j : Nat} (h : RX w j) (u v : Value) : RX (put2 w k u v) j := by
  obtain ⟨x, z, h1⟩ := h
  by_cases e : j = k
  · subst e; exact ⟨_, _, h1.put2s u v⟩
  · exact ⟨_, _, h1.put2o e u v⟩
theorem Bag.put2 {w0 w : World} {P : World → Prop} (h : Bag w0 P w) {k : Nat} (hk : w0.heap.size ≤ k) {u v : Value} (hp : P w → P (put2 w k u v)) : Bag w0 P (put2 w k u v) :=
  ⟨(h.below.setCell hk _).setCell hk _, h.stay, hp h.now⟩
/-- Two numbers' blocks, and the answer's. -/
def BP (k : Nat) (b : Bool) (s : ByteArray) (b2 : Bool) (s2 : ByteArray) (y : World) : Prop := RX y (k + 1 + 1) ∧ Slot2 y (k + 1) (.bool b2) (.string s2) ∧ Slot2 y k (.bool b) (.string s)
theorem BP.stay {k : Nat} {b : Bool} {s : ByteArray} {b2 : Bool} {s2 : ByteArray} : ∀ x y, Below x.heap.size x y → BP k b s b2 s2 x → BP k b s b2 s2 y := fun _ _ hb h => ⟨h.1.below hb, h.2.1.below hb, h.2.2.below hb⟩
theorem BP.put2 {k : Nat} {b : Bool} {s : ByteArray} {b2 : Bool} {s2 : ByteArray} {y : World} (h : BP k b s b2 s2 y) (u v : Value) : BP k b s b2 s2 (put2 y (k + 1 + 1) u v) := ⟨h.1.put2 u v, h.2.1.put2o (by omega) u v, h.2.2.put2o (by omega) u v⟩
theorem BP.start (w : World) (b : Bool) (s : ByteArray) (b2 : Bool) (s2 : ByteArray) : Bag w (BP w.heap.size b s b2 s2) (((w.alloc (.cells #[.bool b, .string s] 116)).alloc (.cells #[.bool b2, .string s2] 116)).alloc (.cells #[.bool false, .string ⟨#[]⟩] 116)) := by
  have B0 := (((Bag.start w).box2 (.bool b) (.string s) 116).box2 (.bool b2) (.string s2) 116).box2 (.bool false) (.string ⟨#[]⟩) 116
  simp only [World.size_alloc] at B0
  exact ⟨B0.below, BP.stay, ⟨_, _, B0.now.1⟩, B0.now.2.1, B0.now.2.2.1⟩
theorem dl_add_le {x y k : Nat} (hx : dl x ≤ k) (hy : dl y ≤ k) : dl (x + y) ≤ k + 1 := by
  refine dl_le _ _ (by omega) ?_
  have h1 := dl_lt x
  have h2 := dl_lt y
  have h3 := Nat.pow_le_pow_right (show 0 < 10 by omega) hx
  have h4 := Nat.pow_le_pow_right (show 0 < 10 by omega) hy
  rw [Nat.pow_succ]; omega
theorem dl_mono {x y : Nat} (h : x ≤ y) : dl x ≤ dl y := dl_le _ _ (dl_pos y) (Nat.lt_of_le_of_lt h (dl_lt y))
theorem dl_mul_le {x y k m : Nat} (hx : dl x ≤ k) (hy : dl y ≤ m) : dl (x * y) ≤ k + m := by
  have h1 := dl_lt x
  have h2 := dl_lt y
  have h3 := Nat.pow_le_pow_right (show 0 < 10 by omega) hx
  have h4 := Nat.pow_le_pow_right (show 0 < 10 by omega) hy
  have := dl_pos x
  refine dl_le _ _ (by omega) ?_
  rw [Nat.pow_add]
  have a1 : x * y ≤ x * 10 ^ m := Nat.mul_le_mul_left _ (by omega)
  have a2 : x * 10 ^ m < 10 ^ k * 10 ^ m := Nat.mul_lt_mul_of_pos_right (by omega) (Nat.pow_pos (by omega))
  omega
set_option maxHeartbeats 1600000 in
set_option maxRecDepth 100000 in
theorem rAdd_same (Z Y : Int) (w : World) (hl : dl Z.natAbs ≤ 1000) (hl2 : dl Y.natAbs ≤ 1000) (hs : rB Z = rB Y) :
    Calls Tryz.prog 166 #[.agg #[.bool (rB Z), .string (rS Z)], .agg #[.bool (rB Y), .string (rS Y)]] w fun e w' => RTold w w' e (Z + Y) := by
  have hd : (rB Z == rB Y) = true := by rw [hs]; simp
  have hv : sgn (rB Z) (Z.natAbs + Y.natAbs) = Z + Y := by
    unfold rB at *
    by_cases h1 : Z < 0
    · rw [decide_eq_true h1] at hs ⊢
      have := of_decide_eq_true hs.symm
      simp [sgn]; omega
    · rw [decide_eq_false h1] at hs ⊢
      have := of_decide_eq_false hs.symm
      simp [sgn]; omega
  have OF : Hid (∀ wz, Calls Tryz.prog 129 #[.bool (rB Z), .string (str (dec (Z.natAbs + Y.natAbs)))] wz fun e w' => RTold wz w' e (Z + Y)) := by
    intro wz
    have h1 := rOf_dec (rB Z) (Z.natAbs + Y.natAbs) wz (by have := dl_add_le hl hl2; omega)
    rw [show sgn (rB Z) (Z.natAbs + Y.natAbs) = Z + Y from hv] at h1
    exact h1
  have C1 : Hid (∀ wz, Calls Tryz.prog 133 #[.string (rS Z), .string (rS Y)] wz fun e w' => e = .returned (.string (str (dec (Z.natAbs + Y.natAbs)))) ∧ Below wz.heap.size wz w') := fun wz => radd_any Z.natAbs (dl Z.natAbs) Y.natAbs (dl Y.natAbs) wz (dl_lt _) (dl_lt _) (by omega) (by omega)
  clear hs
  obtain ⟨V, hV⟩ : ∃ V, Z + Y = V := ⟨_, rfl⟩
  rw [hV] at OF ⊢
  obtain ⟨t, ht⟩ : ∃ t, str (dec (Z.natAbs + Y.natAbs)) = t := ⟨_, rfl⟩
  rw [ht] at OF C1
  clear hV ht hv
  generalize rB Z = b at *
  generalize rS Z = s at *
  generalize rB Y = b2 at *
  generalize rS Y = s2 at *
  clear hl hl2
  have BB := Lib.hid (BP.start w b s b2 s2)
  have q0 := BB.out.now.2.2.cell
  have q1 := BB.out.now.2.2.cell1
  have q2 := BB.out.now.2.1.cell
  have q3 := BB.out.now.2.1.cell1
  go_enter Tryz.func166, Tryz.ntmps166
  go_wp2_with fail
  go_region_held3 (fun y => (y.cell? ⟨w.heap.size, 0, none⟩ = some (.bool b) ∧ y.cell? ⟨w.heap.size, 1, none⟩ = some (.string s) ∧ y.cell? ⟨w.heap.size + 1, 0, none⟩ = some (.bool b2) ∧ y.cell? ⟨w.heap.size + 1, 1, none⟩ = some (.string s2)) ∧ Bag w (BP w.heap.size b s b2 s2) y)
    (first
      | (have B9 := BB.out.drew; exact ⟨⟨B9.now.2.2.cell, B9.now.2.2.cell1, B9.now.2.1.cell, B9.now.2.1.cell1⟩, B9⟩)
      | (have B9 := Bag.go (show Bag w (BP w.heap.size b s b2 s2) _ from by go_split_ands; assumption) hb2; exact ⟨⟨B9.now.2.2.cell, B9.now.2.2.cell1, B9.now.2.1.cell, B9.now.2.1.cell1⟩, B9⟩)
      | (have B9 := Bag.put2 (show Bag w (BP w.heap.size b s b2 s2) _ from by go_split_ands; assumption) (k := w.heap.size + 1 + 1) (u := .bool (rB V)) (v := .string (rS V)) (by omega) (fun h => h.put2 _ _); exact ⟨⟨B9.now.2.2.cell, B9.now.2.2.cell1, B9.now.2.1.cell, B9.now.2.1.cell1⟩, B9⟩))
    (first
      | (go_at_call 133; (with_reducible refine (C1.out _).mono ?_); rintro e w2 ⟨rfl, hb2⟩)
      | (go_at_call 129; (with_reducible refine (OF.out _).mono ?_); rintro e w2 ⟨rfl, hb2⟩; have B7 := Bag.go (show Bag w (BP w.heap.size b s b2 s2) _ from by go_split_ands; assumption) hb2; obtain ⟨x8, z8, hs8⟩ := B7.now.1; have hc1 := hs8.cell; have hc2 := hs8.cell1; have hf1 := hs8.free; have hf2 := hs8.free1; have HS := hs8.set (.bool (rB V)) (.string (rS V)); have HE := Lib.hid (RTold.fin (Y := V) B7.below (show w.heap.size ≤ w.heap.size + 1 + 1 by omega) rfl rfl); unfold put2 at HE; clear hs8 B7))
  go_wp2
  exact bodyPost_ret (v := .agg #[.bool (rB V), .string (rS V)]) (by simp [results, Tryz.results166, go_sem, HS]) rfl HE.out
set_option maxHeartbeats 1600000 in
set_option maxRecDepth 100000 in
theorem rAdd_less (Z Y : Int) (w : World) (hl : dl Z.natAbs ≤ 1000) (hl2 : dl Y.natAbs ≤ 1000) (hs : ¬ rB Z = rB Y) (hle : Y.natAbs ≤ Z.natAbs) :
    Calls Tryz.prog 166 #[.agg #[.bool (rB Z), .string (rS Z)], .agg #[.bool (rB Y), .string (rS Y)]] w fun e w' => RTold w w' e (Z + Y) := by
  have hd : (rB Z == rB Y) = false := by simpa using hs
  have hv : sgn (rB Z) (Z.natAbs - Y.natAbs) = Z + Y := by
    unfold rB at *
    by_cases h1 : Z < 0
    · rw [decide_eq_true h1] at hs
      by_cases h2 : Y < 0
      · rw [decide_eq_true h2] at hs; exact absurd rfl hs
      · first | rw [decide_eq_true h1] | rw [decide_eq_false h2]
        simp [sgn]; omega
    · rw [decide_eq_false h1] at hs
      by_cases h2 : Y < 0
      · first | rw [decide_eq_false h1] | rw [decide_eq_true h2]
        simp [sgn]; omega
      · rw [decide_eq_false h2] at hs; exact absurd rfl hs
  have CM : Hid (∀ wz, Calls Tryz.prog 179 #[.string (rS Z), .string (rS Y)] wz fun e w' => e = .returned (.int .i64 (cmpI Z.natAbs Y.natAbs)) ∧ wz = w') := fun wz => rcmp_any Z.natAbs Y.natAbs wz (by omega) (by omega)
  obtain ⟨cm, hcm⟩ : ∃ cm, cmpI Z.natAbs Y.natAbs = cm := ⟨_, rfl⟩
  rw [hcm] at CM
  have hge : 0 ≤ cm := by
    obtain ⟨k, hk⟩ := cmp_pos hle
    omega
  have d1 : decide (0 ≤ cm) = true := decide_eq_true hge
  have OF : Hid (∀ wz, Calls Tryz.prog 129 #[.bool (rB Z), .string (str (dec (Z.natAbs - Y.natAbs)))] wz fun e w' => RTold wz w' e (Z + Y)) := by
    intro wz
    have h1 := rOf_dec (rB Z) (Z.natAbs - Y.natAbs) wz (by have := dl_mono (Nat.sub_le Z.natAbs Y.natAbs); omega)
    rw [show sgn (rB Z) (Z.natAbs - Y.natAbs) = Z + Y from hv] at h1
    exact h1
  have C1 : Hid (∀ wz, Calls Tryz.prog 180 #[.string (rS Z), .string (rS Y)] wz fun e w' => e = .returned (.string (str (dec (Z.natAbs - Y.natAbs)))) ∧ Below wz.heap.size wz w') := fun wz => rsub_any Z.natAbs (dl Z.natAbs) Y.natAbs (dl Y.natAbs) wz (dl_lt _) (dl_lt _) (by omega) (by omega) hle
  clear hs hcm hle
  obtain ⟨V, hV⟩ : ∃ V, Z + Y = V := ⟨_, rfl⟩
  rw [hV] at OF ⊢
  obtain ⟨t, ht⟩ : ∃ t, str (dec (Z.natAbs - Y.natAbs)) = t := ⟨_, rfl⟩
  rw [ht] at OF C1
  clear hV ht hv
  generalize rB Z = b at *
  generalize rS Z = s at *
  generalize rB Y = b2 at *
  generalize rS Y = s2 at *
  clear hl hl2
  have BB := Lib.hid (BP.start w b s b2 s2)
  have q0 := BB.out.now.2.2.cell
  have q1 := BB.out.now.2.2.cell1
  have q2 := BB.out.now.2.1.cell
  have q3 := BB.out.now.2.1.cell1
  go_enter Tryz.func166, Tryz.ntmps166
  go_wp2_with (go_at_call 179; (with_reducible refine (CM.out _).mono ?_); rintro e w5 ⟨rfl, rfl⟩)
  go_region_held3 (fun y => (y.cell? ⟨w.heap.size, 0, none⟩ = some (.bool b) ∧ y.cell? ⟨w.heap.size, 1, none⟩ = some (.string s) ∧ y.cell? ⟨w.heap.size + 1, 0, none⟩ = some (.bool b2) ∧ y.cell? ⟨w.heap.size + 1, 1, none⟩ = some (.string s2)) ∧ Bag w (BP w.heap.size b s b2 s2) y)
    (first
      | (have B9 := BB.out.drew; exact ⟨⟨B9.now.2.2.cell, B9.now.2.2.cell1, B9.now.2.1.cell, B9.now.2.1.cell1⟩, B9⟩)
      | (have B9 := Bag.go (show Bag w (BP w.heap.size b s b2 s2) _ from by go_split_ands; assumption) hb2; exact ⟨⟨B9.now.2.2.cell, B9.now.2.2.cell1, B9.now.2.1.cell, B9.now.2.1.cell1⟩, B9⟩)
      | (have B9 := Bag.put2 (show Bag w (BP w.heap.size b s b2 s2) _ from by go_split_ands; assumption) (k := w.heap.size + 1 + 1) (u := .bool (rB V)) (v := .string (rS V)) (by omega) (fun h => h.put2 _ _); exact ⟨⟨B9.now.2.2.cell, B9.now.2.2.cell1, B9.now.2.1.cell, B9.now.2.1.cell1⟩, B9⟩))
    (first
      | (go_at_call 180; (with_reducible refine (C1.out _).mono ?_); rintro e w2 ⟨rfl, hb2⟩)
      | (go_at_call 129; (with_reducible refine (OF.out _).mono ?_); rintro e w2 ⟨rfl, hb2⟩; have B7 := Bag.go (show Bag w (BP w.heap.size b s b2 s2) _ from by go_split_ands; assumption) hb2; obtain ⟨x8, z8, hs8⟩ := B7.now.1; have hc1 := hs8.cell; have hc2 := hs8.cell1; have hf1 := hs8.free; have hf2 := hs8.free1; have HS := hs8.set (.bool (rB V)) (.string (rS V)); have HE := Lib.hid (RTold.fin (Y := V) B7.below (show w.heap.size ≤ w.heap.size + 1 + 1 by omega) rfl rfl); unfold put2 at HE; clear hs8 B7))
  go_wp2
  exact bodyPost_ret (v := .agg #[.bool (rB V), .string (rS V)]) (by simp [results, Tryz.results166, go_sem, HS]) rfl HE.out
set_option maxHeartbeats 1600000 in
set_option maxRecDepth 100000 in
theorem rAdd_more (Z Y : Int) (w : World) (hl : dl Z.natAbs ≤ 1000) (hl2 : dl Y.natAbs ≤ 1000) (hs : ¬ rB Z = rB Y) (hle : Z.natAbs < Y.natAbs) :
    Calls Tryz.prog 166 #[.agg #[.bool (rB Z), .string (rS Z)], .agg #[.bool (rB Y), .string (rS Y)]] w fun e w' => RTold w w' e (Z + Y) := by
  have hd : (rB Z == rB Y) = false := by simpa using hs
  have hv : sgn (rB Y) (Y.natAbs - Z.natAbs) = Z + Y := by
    unfold rB at *
    by_cases h1 : Z < 0
    · rw [decide_eq_true h1] at hs
      by_cases h2 : Y < 0
      · rw [decide_eq_true h2] at hs; exact absurd rfl hs
      · first | rw [decide_eq_true h1] | rw [decide_eq_false h2]
        simp [sgn]; omega
    · rw [decide_eq_false h1] at hs
      by_cases h2 : Y < 0
      · first | rw [decide_eq_false h1] | rw [decide_eq_true h2]
        simp [sgn]; omega
      · rw [decide_eq_false h2] at hs; exact absurd rfl hs
  have CM : Hid (∀ wz, Calls Tryz.prog 179 #[.string (rS Z), .string (rS Y)] wz fun e w' => e = .returned (.int .i64 (cmpI Z.natAbs Y.natAbs)) ∧ wz = w') := fun wz => rcmp_any Z.natAbs Y.natAbs wz (by omega) (by omega)
  obtain ⟨cm, hcm⟩ : ∃ cm, cmpI Z.natAbs Y.natAbs = cm := ⟨_, rfl⟩
  rw [hcm] at CM
  have hlt : cm = -1 := by rw [← hcm]; exact cmp_neg hle
  subst hlt
  have OF : Hid (∀ wz, Calls Tryz.prog 129 #[.bool (rB Y), .string (str (dec (Y.natAbs - Z.natAbs)))] wz fun e w' => RTold wz w' e (Z + Y)) := by
    intro wz
    have h1 := rOf_dec (rB Y) (Y.natAbs - Z.natAbs) wz (by have := dl_mono (Nat.sub_le Y.natAbs Z.natAbs); omega)
    rw [show sgn (rB Y) (Y.natAbs - Z.natAbs) = Z + Y from hv] at h1
    exact h1
  have C1 : Hid (∀ wz, Calls Tryz.prog 180 #[.string (rS Y), .string (rS Z)] wz fun e w' => e = .returned (.string (str (dec (Y.natAbs - Z.natAbs)))) ∧ Below wz.heap.size wz w') := fun wz => rsub_any Y.natAbs (dl Y.natAbs) Z.natAbs (dl Z.natAbs) wz (dl_lt _) (dl_lt _) (by omega) (by omega) (by omega)
  clear hs hcm hle
  obtain ⟨V, hV⟩ : ∃ V, Z + Y = V := ⟨_, rfl⟩
  rw [hV] at OF ⊢
  obtain ⟨t, ht⟩ : ∃ t, str (dec (Y.natAbs - Z.natAbs)) = t := ⟨_, rfl⟩
  rw [ht] at OF C1
  clear hV ht hv
  generalize rB Z = b at *
  generalize rS Z = s at *
  generalize rB Y = b2 at *
  generalize rS Y = s2 at *
  clear hl hl2
  have BB := Lib.hid (BP.start w b s b2 s2)
  have q0 := BB.out.now.2.2.cell
  have q1 := BB.out.now.2.2.cell1
  have q2 := BB.out.now.2.1.cell
  have q3 := BB.out.now.2.1.cell1
  go_enter Tryz.func166, Tryz.ntmps166
  go_wp2_with (go_at_call 179; (with_reducible refine (CM.out _).mono ?_); rintro e w5 ⟨rfl, rfl⟩)
  go_region_held3 (fun y => (y.cell? ⟨w.heap.size, 0, none⟩ = some (.bool b) ∧ y.cell? ⟨w.heap.size, 1, none⟩ = some (.string s) ∧ y.cell? ⟨w.heap.size + 1, 0, none⟩ = some (.bool b2) ∧ y.cell? ⟨w.heap.size + 1, 1, none⟩ = some (.string s2)) ∧ Bag w (BP w.heap.size b s b2 s2) y)
    (first
      | (have B9 := BB.out.drew; exact ⟨⟨B9.now.2.2.cell, B9.now.2.2.cell1, B9.now.2.1.cell, B9.now.2.1.cell1⟩, B9⟩)
      | (have B9 := Bag.go (show Bag w (BP w.heap.size b s b2 s2) _ from by go_split_ands; assumption) hb2; exact ⟨⟨B9.now.2.2.cell, B9.now.2.2.cell1, B9.now.2.1.cell, B9.now.2.1.cell1⟩, B9⟩)
      | (have B9 := Bag.put2 (show Bag w (BP w.heap.size b s b2 s2) _ from by go_split_ands; assumption) (k := w.heap.size + 1 + 1) (u := .bool (rB V)) (v := .string (rS V)) (by omega) (fun h => h.put2 _ _); exact ⟨⟨B9.now.2.2.cell, B9.now.2.2.cell1, B9.now.2.1.cell, B9.now.2.1.cell1⟩, B9⟩))
    (first
      | (go_at_call 180; (with_reducible refine (C1.out _).mono ?_); rintro e w2 ⟨rfl, hb2⟩)
      | (go_at_call 129; (with_reducible refine (OF.out _).mono ?_); rintro e w2 ⟨rfl, hb2⟩; have B7 := Bag.go (show Bag w (BP w.heap.size b s b2 s2) _ from by go_split_ands; assumption) hb2; obtain ⟨x8, z8, hs8⟩ := B7.now.1; have hc1 := hs8.cell; have hc2 := hs8.cell1; have hf1 := hs8.free; have hf2 := hs8.free1; have HS := hs8.set (.bool (rB V)) (.string (rS V)); have HE := Lib.hid (RTold.fin (Y := V) B7.below (show w.heap.size ≤ w.heap.size + 1 + 1 by omega) rfl rfl); unfold put2 at HE; clear hs8 B7))
  go_wp2
  exact bodyPost_ret (v := .agg #[.bool (rB V), .string (rS V)]) (by simp [results, Tryz.results166, go_sem, HS]) rfl HE.out
set_option maxHeartbeats 1600000 in
set_option maxRecDepth 100000 in
theorem rMul_any (Z Y : Int) (w : World) (hl : dl Z.natAbs ≤ 1000) (hl2 : dl Y.natAbs ≤ 1000)  :
    Calls Tryz.prog 165 #[.agg #[.bool (rB Z), .string (rS Z)], .agg #[.bool (rB Y), .string (rS Y)]] w fun e w' => RTold w w' e (Z * Y) := by
  have hv : sgn (rB Z != rB Y) (Z.natAbs * Y.natAbs) = Z * Y := sgn_mul Z Y
  have OF : Hid (∀ wz, Calls Tryz.prog 129 #[.bool (rB Z != rB Y), .string (str (dec (Z.natAbs * Y.natAbs)))] wz fun e w' => RTold wz w' e (Z * Y)) := by
    intro wz
    have h1 := rOf_dec (rB Z != rB Y) (Z.natAbs * Y.natAbs) wz (by have := dl_mul_le hl hl2; omega)
    rw [show sgn (rB Z != rB Y) (Z.natAbs * Y.natAbs) = Z * Y from hv] at h1
    exact h1
  have C1 : Hid (∀ wz, Calls Tryz.prog 134 #[.string (rS Z), .string (rS Y)] wz fun e w' => e = .returned (.string (str (dec (Z.natAbs * Y.natAbs)))) ∧ Below wz.heap.size wz w') := fun wz => rmul_any Z.natAbs (dl Z.natAbs) Y.natAbs (dl Y.natAbs) wz (dl_lt _) (dl_lt _) (by omega) (by omega)
  obtain ⟨mm, hmm⟩ : ∃ mm, (!(rB Z == rB Y)) = mm := ⟨_, rfl⟩
  rw [show (rB Z != rB Y) = mm from hmm] at OF
  obtain ⟨V, hV⟩ : ∃ V, Z * Y = V := ⟨_, rfl⟩
  rw [hV] at OF ⊢
  obtain ⟨t, ht⟩ : ∃ t, str (dec (Z.natAbs * Y.natAbs)) = t := ⟨_, rfl⟩
  rw [ht] at OF C1
  clear hV ht hv
  generalize rB Z = b at *
  generalize rS Z = s at *
  generalize rB Y = b2 at *
  generalize rS Y = s2 at *
  clear hl hl2
  have BB := Lib.hid (BP.start w b s b2 s2)
  have q0 := BB.out.now.2.2.cell
  have q1 := BB.out.now.2.2.cell1
  have q2 := BB.out.now.2.1.cell
  have q3 := BB.out.now.2.1.cell1
  go_enter Tryz.func165, Tryz.ntmps165
  go_wp2_with fail
  go_region_held3 (fun y => (y.cell? ⟨w.heap.size, 0, none⟩ = some (.bool b) ∧ y.cell? ⟨w.heap.size, 1, none⟩ = some (.string s) ∧ y.cell? ⟨w.heap.size + 1, 0, none⟩ = some (.bool b2) ∧ y.cell? ⟨w.heap.size + 1, 1, none⟩ = some (.string s2)) ∧ Bag w (BP w.heap.size b s b2 s2) y)
    (first
      | (have B9 := BB.out.drew; exact ⟨⟨B9.now.2.2.cell, B9.now.2.2.cell1, B9.now.2.1.cell, B9.now.2.1.cell1⟩, B9⟩)
      | (have B9 := Bag.go (show Bag w (BP w.heap.size b s b2 s2) _ from by go_split_ands; assumption) hb2; exact ⟨⟨B9.now.2.2.cell, B9.now.2.2.cell1, B9.now.2.1.cell, B9.now.2.1.cell1⟩, B9⟩)
      | (have B9 := Bag.put2 (show Bag w (BP w.heap.size b s b2 s2) _ from by go_split_ands; assumption) (k := w.heap.size + 1 + 1) (u := .bool (rB V)) (v := .string (rS V)) (by omega) (fun h => h.put2 _ _); exact ⟨⟨B9.now.2.2.cell, B9.now.2.2.cell1, B9.now.2.1.cell, B9.now.2.1.cell1⟩, B9⟩))
    (first
      | (go_at_call 134; (with_reducible refine (C1.out _).mono ?_); rintro e w2 ⟨rfl, hb2⟩)
      | (go_at_call 129; (with_reducible refine (OF.out _).mono ?_); rintro e w2 ⟨rfl, hb2⟩; have B7 := Bag.go (show Bag w (BP w.heap.size b s b2 s2) _ from by go_split_ands; assumption) hb2; obtain ⟨x8, z8, hs8⟩ := B7.now.1; have hc1 := hs8.cell; have hc2 := hs8.cell1; have hf1 := hs8.free; have hf2 := hs8.free1; have HS := hs8.set (.bool (rB V)) (.string (rS V)); have HE := Lib.hid (RTold.fin (Y := V) B7.below (show w.heap.size ≤ w.heap.size + 1 + 1 by omega) rfl rfl); unfold put2 at HE; clear hs8 B7))
  go_wp2
  exact bodyPost_ret (v := .agg #[.bool (rB V), .string (rS V)]) (by simp [results, Tryz.results165, go_sem, HS]) rfl HE.out
theorem rAdd_any (Z Y : Int) (w : World) (hl : dl Z.natAbs ≤ 1000) (hl2 : dl Y.natAbs ≤ 1000) :
    Calls Tryz.prog 166 #[.agg #[.bool (rB Z), .string (rS Z)], .agg #[.bool (rB Y), .string (rS Y)]] w fun e w' => RTold w w' e (Z + Y) := by
  by_cases hs : rB Z = rB Y
  · exact rAdd_same Z Y w hl hl2 hs
  · rcases Nat.lt_or_ge Z.natAbs Y.natAbs with h | h
    · exact rAdd_more Z Y w hl hl2 hs h
    · exact rAdd_less Z Y w hl hl2 hs h
end Go.Proofs.YtnpoakaffafdiaaGreatDoor
namespace Go.Proofs.YtnpoakaffafdiaaGreatDoor
open Go.RowKit
attribute [local go_sem ↓] Go.wp_at_zero Go.wp_at_succ
end Go.Proofs.YtnpoakaffafdiaaGreatDoor

namespace Go.Proofs.YtnpoakaffafdiaaGreatDoor
open Go.RowKit
attribute [local go_sem ↓] Go.wp_at_zero Go.wp_at_succ
theorem Slot.set1 {w : World} {k : Nat} {x : Value} (h : Slot w k x) (u : Value) : Slot (w.setCell ⟨k, 0, none⟩ u) k u :=
  ⟨World.cell?_setCell_same _ _ _ h.cell, by simp [h.free], by simpa using h.lt⟩
theorem Slot.other {w : World} {k j : Nat} {x : Value} (h : Slot w j x) (u : Value) (hj : j ≠ k) : Slot (w.setCell ⟨k, 0, none⟩ u) j x :=
  ⟨by rw [World.cell?_setCell_other _ _ _ _ (fun e' => by cases e' <;> exact hj rfl)]; exact h.cell, by simp [h.free], by simpa using h.lt⟩
theorem Slot2.other {w : World} {k j : Nat} {x z : Value} (h : Slot2 w j x z) (u : Value) (hj : j ≠ k) : Slot2 (w.setCell ⟨k, 0, none⟩ u) j x z :=
  ⟨by rw [World.cell?_setCell_other _ _ _ _ (fun e' => by cases e' <;> exact hj rfl)]; exact h.cell, by rw [World.cell?_setCell_other _ _ _ _ (fun e' => by cases e' <;> exact hj rfl)]; exact h.cell1, by simp [h.free], by simp [h.free1], by simpa using h.lt⟩
theorem RS.other {w : World} {k j : Nat} (h : RS w j) (u : Value) (hj : j ≠ k) : RS (w.setCell ⟨k, 0, none⟩ u) j := by
  obtain ⟨x, b, h1, h2⟩ := h; exact ⟨x, b, h1.other u hj, h2⟩
theorem FP.set1 {k j : Nat} {a : Option Addr} {n c : Nat} {m : Bool} {Z : Int} {a2 : Option Addr} {n2 c2 : Nat} {m2 : Bool} {Y : Int} {y : World} (h : FP k a n c m Z a2 n2 c2 m2 Y y) {a3 : Option Addr} {n3 c3 : Nat} (hj : y.cell? ⟨j, 0, none⟩ = some (.slice a3 n3 c3)) (hk : k + 3 < j) (u : Value) : FP k a n c m Z a2 n2 c2 m2 Y (y.setCell ⟨j, 0, none⟩ u) :=
  ⟨h.1.other u (by omega), h.2.1.other u (by omega), h.2.2.1.other u (by omega), h.2.2.2.1.other u (by omega), ⟨h.2.2.2.2.1.1, h.2.2.2.2.1.2.storeAt hj (fun _ _ h => by cases h) u⟩, ⟨h.2.2.2.2.2.1, h.2.2.2.2.2.2.storeAt hj (fun _ _ h => by cases h) u⟩⟩
theorem Bag.drewT {w0 w : World} {P : World → Prop} (h : Bag w0 P w) : Bag w0 P w.drew := h.drew
set_option maxHeartbeats 3200000 in
set_option maxRecDepth 100000 in
theorem floor_odd (a : Option Addr) (n c : Nat) (m : Bool) (Z : Int) (a2 : Option Addr) (n2 c2 : Nat) (m2 : Bool) (Y : Int) (w : World) (h : IntAt w a n c m Z) (g : IntAt w a2 n2 c2 m2 Y) (K : Nat) (hK : K ≤ 800000) (hZ : Z.natAbs < 4294967296 ^ K) (hY : Y ≠ 0)
    (hap : (m != m2) = true) (hr0 : Z.natAbs % Y.natAbs ≠ 0) :
    Calls Tryz.prog 161 #[.agg #[.slice a n c, .bool m], .agg #[.slice a2 n2 c2, .bool m2]] w fun e w' => FloorTold w w' e (flQ Z Y) (flR Z Y) := by
  have hfu : flA Z Y = true ∧ flQ Z Y = sgn true (Z.natAbs / Y.natAbs + 1) ∧ flR Z Y = sgn m2 (Y.natAbs - Z.natAbs % Y.natAbs) := by
    have e1 : flA Z Y = true := by unfold flA; rw [← h.1, ← g.1]; exact hap
    refine ⟨e1, ?_, ?_⟩
    · unfold flQ flU; rw [e1]; simp [hr0]
    · unfold flR flU; rw [e1, ← g.1]; simp [hr0]
  obtain ⟨_, hfq, hfr⟩ := hfu
  have BB := Lib.hid (FP.start h g)
  have q0 := BB.out.now.2.2.2.1.cell
  have q1 := BB.out.now.2.2.2.1.cell1
  have q2 := BB.out.now.2.2.1.cell
  have q3 := BB.out.now.2.2.1.cell1
  have N1 : Hid (∀ wz, FP w.heap.size a n c m Z a2 n2 c2 m2 Y wz → Calls Tryz.prog 136 #[.agg #[.slice a n c, .bool m]] wz fun e w' => e = .returned (.bool m) ∧ Below wz.heap.size wz w') := fun wz hz => neg_any a n c m Z wz hz.2.2.2.2.2
  have N2 : Hid (∀ wz, FP w.heap.size a n c m Z a2 n2 c2 m2 Y wz → Calls Tryz.prog 136 #[.agg #[.slice a2 n2 c2, .bool m2]] wz fun e w' => e = .returned (.bool m2) ∧ Below wz.heap.size wz w') := fun wz hz => neg_any a2 n2 c2 m2 Y wz hz.2.2.2.2.1
  have DM : Hid (∀ wz, FP w.heap.size a n c m Z a2 n2 c2 m2 Y wz → Calls Tryz.prog 157 #[.agg #[.slice a n c], .agg #[.slice a2 n2 c2]] wz fun e w' => DivOf3 wz w' e (Z.natAbs / Y.natAbs) (Z.natAbs % Y.natAbs) true) := fun wz hz => (divMod_any _ _ _ _ wz hz.2.2.2.2.2.2 hz.2.2.2.2.1.2 K (by omega) hZ).mono fun _ _ h => by
    have := h.three (b := true) (by simp; omega)
    unfold modz at this
    rw [if_neg (by omega)] at this
    exact this
  have OF1 : Hid (∀ a3 n3 c3 wz, NatIs wz (.agg #[.slice a3 n3 c3]) (Z.natAbs / Y.natAbs + 1) → Calls Tryz.prog 119 #[.bool true, .agg #[.slice a3 n3 c3]] wz fun e w' => IntTold wz w' e (flQ Z Y)) := by
    intro a3 n3 c3 wz hi
    have := wof_any true a3 n3 c3 _ wz hi
    rw [← hfq] at this; exact this
  have OF2 : Hid (∀ a3 n3 c3 wz, NatIs wz (.agg #[.slice a3 n3 c3]) (Y.natAbs - Z.natAbs % Y.natAbs) → Calls Tryz.prog 119 #[.bool m2, .agg #[.slice a3 n3 c3]] wz fun e w' => IntTold wz w' e (flR Z Y)) := by
    intro a3 n3 c3 wz hi
    have := wof_any m2 a3 n3 c3 _ wz hi
    rw [← hfr] at this; exact this
  obtain ⟨N, hN⟩ : ∃ N, Z.natAbs = N := ⟨_, rfl⟩
  obtain ⟨M, hM⟩ : ∃ M, Y.natAbs = M := ⟨_, rfl⟩
  have hM0 : 0 < M := by omega
  have hgM := g.1
  have hNK : N < 4294967296 ^ K := by omega
  have SB : Hid (∀ a3 n3 c3 wz, FP w.heap.size a n c m Z a2 n2 c2 m2 Y wz → NatIs wz (.agg #[.slice a3 n3 c3]) (N % M) → Calls Tryz.prog 186 #[.agg #[.slice a2 n2 c2], .agg #[.slice a3 n3 c3]] wz fun e w' => SubOf3 wz w' e (M - N % M) true) := fun a3 n3 c3 wz hz hi => (sub_any _ _ M (N % M) wz (by rw [← hM]; exact hz.2.2.2.2.1.2) hi).mono fun _ _ h => h.three (decide_eq_true (Nat.le_of_lt (Nat.mod_lt N hM0)))
  have AD : Hid (∀ a3 n3 c3 a4 n4 c4 wz, NatIs wz (.agg #[.slice a3 n3 c3]) (N / M) → NatIs wz (.agg #[.slice a4 n4 c4]) 1 → Calls Tryz.prog 153 #[.agg #[.slice a3 n3 c3], .agg #[.slice a4 n4 c4]] wz fun e w' => NatOf3 wz w' e (N / M + 1)) := fun a3 n3 c3 a4 n4 c4 wz hi hj => (add_any _ _ _ _ wz hi hj (K + 1) (by omega) (by
      have := Nat.div_le_self N M
      have h2 := pow_mono32 (show K ≤ K + 1 by omega)
      omega) (by
      have := pow_mono32 (show 1 ≤ K + 1 by omega)
      rw [Nat.pow_one] at this
      omega)).mono fun _ _ h => h.three
  rw [hN, hM] at DM OF1 OF2
  have hd : (m == m2) = false := by simpa using hap
  have ZR : Hid (∀ a3 n3 c3 wz, NatIs wz (.agg #[.slice a3 n3 c3]) (N % M) → Calls Tryz.prog 107 #[.agg #[.slice a3 n3 c3]] wz fun e w' => e = .returned (.bool false) ∧ Below wz.heap.size wz w') := by
    intro a3 n3 c3 wz hi
    have h1 := zero_any _ _ wz hi
    rw [show decide (N % M = 0) = false from by rw [← hN, ← hM]; exact decide_eq_false hr0] at h1
    exact h1
  clear hr0
  clear h g hZ hY hfq hfr hap hN hM hgM hNK hM0
  go_enter Tryz.func161, Tryz.ntmps161
  go_wp2_with fail
  go_at_call 157
  (with_reducible refine (DM.out _ BB.out.now).mono ?_)
  rintro e w4 ⟨aq, nq, cq, ar, nr, cr, rfl, hi3, hi4, hb4⟩
  have hk4 : w.heap.size + 1 + 1 + 1 < w4.heap.size := RS.lt (BB.out.go hb4).now.2.1
  have BQ := ((((BB.out.go hb4).nat hi4).nat hi3).box (.slice aq nq cq) 56).box (.slice ar nr cr) 56
  rw [World.size_alloc] at BQ
  have BB : Hid (Bag w (fun y => Slot y w4.heap.size (.slice aq nq cq) ∧ NatIs y (.agg #[.slice aq nq cq]) (N / M) ∧ Slot y (w4.heap.size + 1) (.slice ar nr cr) ∧ NatIs y (.agg #[.slice ar nr cr]) (N % M) ∧ FP w.heap.size a n c m Z a2 n2 c2 m2 Y y) _) := ⟨BQ.below, fun x y hb h => ⟨h.1.below hb, h.2.1.below hb, h.2.2.1.below hb, h.2.2.2.1.below hb, FP.stay x y hb h.2.2.2.2⟩, BQ.now.2.1, BQ.now.2.2.1, BQ.now.1, BQ.now.2.2.2.1, BQ.now.2.2.2.2⟩
  clear hb4 hi3 hi4 q0 q1 q2 q3 BQ
  go_wp2_with fail
  go_region_held3 (fun y => (y.cell? ⟨w.heap.size, 0, none⟩ = some (.slice a n c) ∧ y.cell? ⟨w.heap.size, 1, none⟩ = some (.bool m) ∧ y.cell? ⟨w.heap.size + 1, 0, none⟩ = some (.slice a2 n2 c2) ∧ y.cell? ⟨w.heap.size + 1, 1, none⟩ = some (.bool m2)) ∧ Bag w (fun y => Slot y w4.heap.size (.slice aq nq cq) ∧ NatIs y (.agg #[.slice aq nq cq]) (N / M) ∧ Slot y (w4.heap.size + 1) (.slice ar nr cr) ∧ NatIs y (.agg #[.slice ar nr cr]) (N % M) ∧ FP w.heap.size a n c m Z a2 n2 c2 m2 Y y) y)
    (first | (have B9 := BB.out.drew; exact ⟨⟨B9.now.2.2.2.2.2.2.2.1.cell, B9.now.2.2.2.2.2.2.2.1.cell1, B9.now.2.2.2.2.2.2.1.cell, B9.now.2.2.2.2.2.2.1.cell1⟩, B9⟩) | (have B9 := Bag.go (show Bag w (fun y => Slot y w4.heap.size (.slice aq nq cq) ∧ NatIs y (.agg #[.slice aq nq cq]) (N / M) ∧ Slot y (w4.heap.size + 1) (.slice ar nr cr) ∧ NatIs y (.agg #[.slice ar nr cr]) (N % M) ∧ FP w.heap.size a n c m Z a2 n2 c2 m2 Y y) _ from by go_split_ands; assumption) hb2; exact ⟨⟨B9.now.2.2.2.2.2.2.2.1.cell, B9.now.2.2.2.2.2.2.2.1.cell1, B9.now.2.2.2.2.2.2.1.cell, B9.now.2.2.2.2.2.2.1.cell1⟩, B9⟩))
    (first
      | (go_at_call 136; (with_reducible refine (N1.out _ ?_).mono ?_); exact (show Bag w (fun y => Slot y w4.heap.size (.slice aq nq cq) ∧ NatIs y (.agg #[.slice aq nq cq]) (N / M) ∧ Slot y (w4.heap.size + 1) (.slice ar nr cr) ∧ NatIs y (.agg #[.slice ar nr cr]) (N % M) ∧ FP w.heap.size a n c m Z a2 n2 c2 m2 Y y) _ from by go_split_ands; assumption).now.2.2.2.2; rintro e w2 ⟨rfl, hb2⟩)
      | (go_at_call 136; (with_reducible refine (N2.out _ ?_).mono ?_); exact (show Bag w (fun y => Slot y w4.heap.size (.slice aq nq cq) ∧ NatIs y (.agg #[.slice aq nq cq]) (N / M) ∧ Slot y (w4.heap.size + 1) (.slice ar nr cr) ∧ NatIs y (.agg #[.slice ar nr cr]) (N % M) ∧ FP w.heap.size a n c m Z a2 n2 c2 m2 Y y) _ from by go_split_ands; assumption).now.2.2.2.2; rintro e w2 ⟨rfl, hb2⟩))
  have BB := Lib.hid (show Bag w (fun y => Slot y w4.heap.size (.slice aq nq cq) ∧ NatIs y (.agg #[.slice aq nq cq]) (N / M) ∧ Slot y (w4.heap.size + 1) (.slice ar nr cr) ∧ NatIs y (.agg #[.slice ar nr cr]) (N % M) ∧ FP w.heap.size a n c m Z a2 n2 c2 m2 Y y) _ from by go_split_ands; assumption)
  have q5 := BB.out.now.2.2.1.cell
  go_wp2_with fail
  go_at_call 107
  (with_reducible refine (ZR.out ar nr cr _ BB.out.now.2.2.2.1).mono ?_)
  rintro e w6 ⟨rfl, hb6⟩
  have BB := Lib.hid (BB.out.go hb6)
  clear hb6 q5
  have q5 := BB.out.now.1.cell
  go_wp2_with fail
  go_region_with (first
    | (go_at_call 113; refine (of_pl2 1 _ (by omega)).mono ?_; rintro e w2 ⟨a8, n8, c8, rfl, hi8, hb2⟩; have BB := Lib.hid (Bag.go (BB.out.drewT) hb2); have q5 := BB.out.now.1.cell; clear hb2)
    | (go_at_call 153; (with_reducible refine (AD.out aq nq cq a8 n8 c8 _ BB.out.now.2.1 hi8).mono ?_); rintro e w2 ⟨a9, n9, c9, rfl, hi9, hb2⟩; have B7 := BB.out.go hb2; have hc := B7.now.1.cell; have hf := B7.now.1.free; have B8 : Hid (Bag w (fun y => Slot y w4.heap.size (.slice a9 n9 c9) ∧ NatIs y (.agg #[.slice a9 n9 c9]) (N / M + 1) ∧ Slot y (w4.heap.size + 1) (.slice ar nr cr) ∧ NatIs y (.agg #[.slice ar nr cr]) (N % M) ∧ FP w.heap.size a n c m Z a2 n2 c2 m2 Y y) (w2.setCell ⟨w4.heap.size, 0, none⟩ (.slice a9 n9 c9))) := ⟨B7.below.setCell (show w.heap.size ≤ w4.heap.size by omega) _, fun x y hb h => ⟨h.1.below hb, h.2.1.below hb, h.2.2.1.below hb, h.2.2.2.1.below hb, FP.stay x y hb h.2.2.2.2⟩, B7.now.1.set1 _, hi9.storeAt hc (fun _ _ h => by cases h) _, B7.now.2.2.1.other _ (by omega), B7.now.2.2.2.1.storeAt hc (fun _ _ h => by cases h) _, B7.now.2.2.2.2.set1 hc (by omega) _⟩; clear B7 hb2))
  all_goals
    have q5 := B8.out.now.2.2.1.cell
    have q6 := B8.out.now.2.2.2.2.2.2.1.cell
    go_wp2_with fail
    go_at_call 186
    (with_reducible refine (SB.out ar nr cr _ B8.out.now.2.2.2.2 B8.out.now.2.2.2.1).mono ?_)
    rintro e w7 ⟨a10, n10, c10, rfl, hi10, hb7⟩
    have B7 := B8.out.go hb7
    have hc := B7.now.2.2.1.cell
    have hf := B7.now.2.2.1.free
    have BB : Hid (Bag w (fun y => Slot y w4.heap.size (.slice a9 n9 c9) ∧ NatIs y (.agg #[.slice a9 n9 c9]) (N / M + 1) ∧ Slot y (w4.heap.size + 1) (.slice a10 n10 c10) ∧ NatIs y (.agg #[.slice a10 n10 c10]) (M - N % M) ∧ FP w.heap.size a n c m Z a2 n2 c2 m2 Y y) (w7.setCell ⟨w4.heap.size + 1, 0, none⟩ (.slice a10 n10 c10))) := ⟨B7.below.setCell (show w.heap.size ≤ w4.heap.size + 1 by omega) _, fun x y hb h => ⟨h.1.below hb, h.2.1.below hb, h.2.2.1.below hb, h.2.2.2.1.below hb, FP.stay x y hb h.2.2.2.2⟩, B7.now.1.other _ (by omega), B7.now.2.1.storeAt hc (fun _ _ h => by cases h) _, B7.now.2.2.1.set1 _, hi10.storeAt hc (fun _ _ h => by cases h) _, B7.now.2.2.2.2.set1 hc (by omega) _⟩
    clear B7 hb7 hi10 q5 q6
    go_wp2_with fail
    go_region_held3 (fun y => (y.cell? ⟨w4.heap.size, 0, none⟩ = some (.slice a9 n9 c9) ∧ y.cell? ⟨w4.heap.size + 1, 0, none⟩ = some (.slice a10 n10 c10) ∧ y.cell? ⟨w.heap.size + 1, 0, none⟩ = some (.slice a2 n2 c2) ∧ y.cell? ⟨w.heap.size + 1, 1, none⟩ = some (.bool m2)) ∧ Bag w (fun y => Slot y w4.heap.size (.slice a9 n9 c9) ∧ NatIs y (.agg #[.slice a9 n9 c9]) (N / M + 1) ∧ Slot y (w4.heap.size + 1) (.slice a10 n10 c10) ∧ NatIs y (.agg #[.slice a10 n10 c10]) (M - N % M) ∧ FP w.heap.size a n c m Z a2 n2 c2 m2 Y y) y)
      (first
        | (have B9 := BB.out.drew; exact ⟨⟨B9.now.1.cell, B9.now.2.2.1.cell, B9.now.2.2.2.2.2.2.1.cell, B9.now.2.2.2.2.2.2.1.cell1⟩, B9⟩)
        | (have B9 := Bag.go (show Bag w (fun y => Slot y w4.heap.size (.slice a9 n9 c9) ∧ NatIs y (.agg #[.slice a9 n9 c9]) (N / M + 1) ∧ Slot y (w4.heap.size + 1) (.slice a10 n10 c10) ∧ NatIs y (.agg #[.slice a10 n10 c10]) (M - N % M) ∧ FP w.heap.size a n c m Z a2 n2 c2 m2 Y y) _ from by go_split_ands; assumption) hb2; exact ⟨⟨B9.now.1.cell, B9.now.2.2.1.cell, B9.now.2.2.2.2.2.2.1.cell, B9.now.2.2.2.2.2.2.1.cell1⟩, B9⟩)
        | (have B9 := Bag.put (show Bag w (fun y => Slot y w4.heap.size (.slice a9 n9 c9) ∧ NatIs y (.agg #[.slice a9 n9 c9]) (N / M + 1) ∧ Slot y (w4.heap.size + 1) (.slice a10 n10 c10) ∧ NatIs y (.agg #[.slice a10 n10 c10]) (M - N % M) ∧ FP w.heap.size a n c m Z a2 n2 c2 m2 Y y) _ from by go_split_ands; assumption) (k := w.heap.size + 1 + 1) (a := a5) (n := n5) (c := c5) (b := m5) (by omega) (fun h => ⟨h.1.put (by omega) _ _ _ _, h.2.1.put h.2.2.2.2.1 _ _ _ _, h.2.2.1.put (by omega) _ _ _ _, h.2.2.2.1.put h.2.2.2.2.1 _ _ _ _, h.2.2.2.2.put h.2.2.2.2.1 (by omega) (by omega) _ _ _ _⟩); exact ⟨⟨B9.now.1.cell, B9.now.2.2.1.cell, B9.now.2.2.2.2.2.2.1.cell, B9.now.2.2.2.2.2.2.1.cell1⟩, B9⟩)
        | (have B9 := Bag.put (show Bag w (fun y => Slot y w4.heap.size (.slice a9 n9 c9) ∧ NatIs y (.agg #[.slice a9 n9 c9]) (N / M + 1) ∧ Slot y (w4.heap.size + 1) (.slice a10 n10 c10) ∧ NatIs y (.agg #[.slice a10 n10 c10]) (M - N % M) ∧ FP w.heap.size a n c m Z a2 n2 c2 m2 Y y) _ from by go_split_ands; assumption) (k := w.heap.size + 1 + 1 + 1) (a := a6) (n := n6) (c := c6) (b := m6) (by omega) (fun h => ⟨h.1.put (by omega) _ _ _ _, h.2.1.put h.2.2.2.2.2.1 _ _ _ _, h.2.2.1.put (by omega) _ _ _ _, h.2.2.2.1.put h.2.2.2.2.2.1 _ _ _ _, h.2.2.2.2.put h.2.2.2.2.2.1 (by omega) (by omega) _ _ _ _⟩); exact ⟨⟨B9.now.1.cell, B9.now.2.2.1.cell, B9.now.2.2.2.2.2.2.1.cell, B9.now.2.2.2.2.2.2.1.cell1⟩, B9⟩))
      (first
        | (go_at_call 119; (with_reducible refine (OF1.out a9 n9 c9 _ ?_).mono ?_); exact (show Bag w (fun y => Slot y w4.heap.size (.slice a9 n9 c9) ∧ NatIs y (.agg #[.slice a9 n9 c9]) (N / M + 1) ∧ Slot y (w4.heap.size + 1) (.slice a10 n10 c10) ∧ NatIs y (.agg #[.slice a10 n10 c10]) (M - N % M) ∧ FP w.heap.size a n c m Z a2 n2 c2 m2 Y y) _ from by go_split_ands; assumption).now.2.1; rintro e w2 ⟨a5, n5, c5, m5, rfl, hi5, hb2⟩)
        | (go_at_call 136; (with_reducible refine (N2.out _ ?_).mono ?_); exact (show Bag w (fun y => Slot y w4.heap.size (.slice a9 n9 c9) ∧ NatIs y (.agg #[.slice a9 n9 c9]) (N / M + 1) ∧ Slot y (w4.heap.size + 1) (.slice a10 n10 c10) ∧ NatIs y (.agg #[.slice a10 n10 c10]) (M - N % M) ∧ FP w.heap.size a n c m Z a2 n2 c2 m2 Y y) _ from by go_split_ands; assumption).now.2.2.2.2; rintro e w2 ⟨rfl, hb2⟩; have hi5 := hi5.below hb2)
        | (go_at_call 119; (with_reducible refine (OF2.out a10 n10 c10 _ ?_).mono ?_); exact (show Bag w (fun y => Slot y w4.heap.size (.slice a9 n9 c9) ∧ NatIs y (.agg #[.slice a9 n9 c9]) (N / M + 1) ∧ Slot y (w4.heap.size + 1) (.slice a10 n10 c10) ∧ NatIs y (.agg #[.slice a10 n10 c10]) (M - N % M) ∧ FP w.heap.size a n c m Z a2 n2 c2 m2 Y y) _ from by go_split_ands; assumption).now.2.2.2.1; rintro e w2 ⟨a6, n6, c6, m6, rfl, hi6, hb2⟩; have hi5 := hi5.below hb2;
            have B7 := Bag.go (show Bag w (fun y => Slot y w4.heap.size (.slice a9 n9 c9) ∧ NatIs y (.agg #[.slice a9 n9 c9]) (N / M + 1) ∧ Slot y (w4.heap.size + 1) (.slice a10 n10 c10) ∧ NatIs y (.agg #[.slice a10 n10 c10]) (M - N % M) ∧ FP w.heap.size a n c m Z a2 n2 c2 m2 Y y) _ from by go_split_ands; assumption) hb2;
            obtain ⟨x8, b8, hs8, _⟩ := B7.now.2.2.2.2.1;
            obtain ⟨x9, b9, hs9, _⟩ := B7.now.2.2.2.2.2.1;
            have hc1 := hs8.cell; have hc2 := hs8.cell1; have hc3 := hs9.cell; have hc4 := hs9.cell1; have hf1 := hs8.free; have hf2 := hs8.free1; have hf3 := hs9.free; have hf4 := hs9.free1;
            have HA := Slot2.put (B7.now.2.2.2.2.1.slotted a5 n5 c5 m5) (show w.heap.size + 1 + 1 ≠ w.heap.size + 1 + 1 + 1 by omega) a6 n6 c6 m6;
            have HB := (B7.now.2.2.2.2.2.1.put (k := w.heap.size + 1 + 1) a5 n5 c5 m5).slotted a6 n6 c6 m6;
            have e1 := HA.cell; have e2 := HA.cell1; have e3 := HB.cell; have e4 := HB.cell1;
            have HE : Hid (FloorTold w (putI (putI w2 (w.heap.size + 1 + 1) a5 n5 c5 m5) (w.heap.size + 1 + 1 + 1) a6 n6 c6 m6) (.returned (.tuple #[.agg #[.slice a5 n5 c5, .bool m5], .agg #[.slice a6 n6 c6, .bool m6], .bool true])) (flQ Z Y) (flR Z Y)) := ⟨a5, n5, c5, m5, a6, n6, c6, m6, rfl, (hi5.put B7.now.2.2.2.2.1 _ _ _ _).put (B7.now.2.2.2.2.2.1.put (k := w.heap.size + 1 + 1) a5 n5 c5 m5) _ _ _ _, (hi6.put B7.now.2.2.2.2.1 _ _ _ _).put (B7.now.2.2.2.2.2.1.put (k := w.heap.size + 1 + 1) a5 n5 c5 m5) _ _ _ _, (((B7.below.setCell (show w.heap.size ≤ w.heap.size + 1 + 1 by omega) _).setCell (show w.heap.size ≤ w.heap.size + 1 + 1 by omega) _).setCell (show w.heap.size ≤ w.heap.size + 1 + 1 + 1 by omega) _).setCell (show w.heap.size ≤ w.heap.size + 1 + 1 + 1 by omega) _⟩;
            unfold putI at HE e1 e2 e3 e4; clear hs8 hs9 HA HB B7))
    all_goals
      go_wp2
      exact bodyPost_ret (v := .tuple #[.agg #[.slice a5 n5 c5, .bool m5], .agg #[.slice a6 n6 c6, .bool m6], .bool true]) (by simp [results, Tryz.results161, go_sem, e1, e2, e3, e4]) rfl HE.out
end Go.Proofs.YtnpoakaffafdiaaGreatDoor

namespace Go.Proofs.YtnpoakaffafdiaaGreatDoor
open Go.RowKit
/-- The number whose limbs a cell leads to. -/
def readN (w : World) (k : Nat) : Nat :=
  match w.cell? ⟨k, 0, none⟩ with
  | some (.slice (some ad) n _) => val (fun j => match w.cell? ⟨ad.block, ad.off + j, none⟩ with
    | some (.int _ x) => x.toNat
    | _ => 0) n
  | _ => 0
theorem readN_is {w : World} {k : Nat} {a : Option Addr} {n c N : Nat} (hs : Slot w k (.slice a n c)) (h : NatIs w (.agg #[.slice a n c]) N) : readN w k = N := by
  obtain ⟨a', n', c', f, e, ⟨h1, h2, h3, h4⟩, hv, ht⟩ := h
  cases e
  unfold readN
  rw [hs.cell]
  rcases h4 with ⟨rfl, hc⟩ | ⟨b, off, rfl, hb, hcc⟩
  · have hn : n = 0 := by omega
    subst hn
    simp only []
    rw [← hv]; rfl
  · simp only []
    rw [← hv]
    refine val_congr n (fun j hj => ?_)
    rw [hcc j hj]
    simp
/-- At the head of Gcd's loop. -/
def GI (w wr : World) (A B : Nat) : Prop := Below w.heap.size w wr ∧ ∃ a n c a2 n2 c2, Slot wr w.heap.size (.slice a n c) ∧ NatIs wr (.agg #[.slice a n c]) A ∧ Slot wr (w.heap.size + 1) (.slice a2 n2 c2) ∧ NatIs wr (.agg #[.slice a2 n2 c2]) B ∧ Slot wr (w.heap.size + 1 + 1) (.slice none 0 0)
set_option maxHeartbeats 1600000 in
set_option maxRecDepth 100000 in
theorem gcd_any (a0 : Option Addr) (n0 c0 : Nat) (b0 : Option Addr) (m0 d0 : Nat) (X Y : Nat) (w : World) (h : NatIs w (.agg #[.slice a0 n0 c0]) X) (g : NatIs w (.agg #[.slice b0 m0 d0]) Y)
    (K : Nat) (hK : K ≤ 900000) (hX : X < 4294967296 ^ K) (hY : Y < 4294967296 ^ K) :
    Calls Tryz.prog 156 #[.agg #[.slice a0 n0 c0], .agg #[.slice b0 m0 d0]] w fun e w' => NatOf3 w w' e (Nat.gcd X Y) := by
  have B0 := ((((Bag.start w).nat h).nat g).box (.slice a0 n0 c0) 56).box (.slice b0 m0 d0) 56 |>.box (.slice none 0 0) 56
  simp only [World.size_alloc] at B0
  have H0 : Hid (GI w _ X Y) := ⟨B0.below, a0, n0, c0, b0, m0, d0, B0.now.2.2.1, B0.now.2.2.2.2.1, B0.now.2.1, B0.now.2.2.2.1, B0.now.1⟩
  have HXY : Hid (X < 4294967296 ^ K ∧ Y < 4294967296 ^ K) := ⟨hX, hY⟩
  clear B0 h g hX hY
  go_enter Tryz.func156, Tryz.ntmps156
  go_wp2
  go_loopw [] (fun wr => ∃ A B : Nat, GI w wr A B ∧ Hid (Nat.gcd A B = Nat.gcd X Y ∧ A < 4294967296 ^ K ∧ B < 4294967296 ^ K)) (fun wr => readN wr (w.heap.size + 1))
  case atStart => exact ⟨X, Y, H0.out, rfl, HXY.out.1, HXY.out.2⟩
  case round =>
    obtain ⟨A, B, ⟨hbl, a, n, c, a2, n2, c2, s1, i1, s2, i2, s3⟩, hh⟩ := hrel
    by_cases h0 : B = 0
    · have HZ := Lib.hid (zero_any _ B wr i2)
      rw [decide_eq_true h0] at HZ
      have hAg : A = Nat.gcd X Y := by have := hh.out.1; rw [h0, Nat.gcd_zero_right] at this; exact this
      subst hAg
      have BB := Lib.hid ((((((⟨hbl, fun _ _ _ _ => trivial, trivial⟩ : Bag w (fun _ => True) wr).slot s3).slot s2).slot s1).nat i1))
      have q2 := s2.cell
      clear h0 s1 s2 s3 i1 i2 hbl hh
      go_wp2_with fail
      go_at_call 107
      (with_reducible refine HZ.out.mono ?_)
      rintro e w1 ⟨rfl, hb1⟩
      have B1 := BB.out.go hb1
      have BB := Lib.hid B1
      obtain ⟨_, _, _, f, he, hs, hv, ht⟩ := B1.now.1
      cases he
      have hnl := NatIs.len hs
      have HS := Lib.hid hs
      have HV := Lib.hid hv
      clear hb1 B1 hs hv ht q2
      have q1 := BB.out.now.2.1.cell
      go_wp2_with fail
      go_at_call 108
      refine (copied_own a n c f n w1 HS.out (Nat.le_refl _) hnl).mono ?_
      rintro e w2 ⟨b, rfl, ho, hb2⟩
      have hbb : w.heap.size + 1 + 1 < b := Nat.lt_of_lt_of_le BB.out.now.2.2.2.1.lt ho.ge
      have BB := Lib.hid (BB.out.go hb2)
      obtain ⟨gg, hg, hgv⟩ := ho.slAt hnl
      have HG := Lib.hid hg
      have HGV := Lib.hid (hgv.trans HV.out)
      clear ho hb2 hg hgv q1
      go_wp2_with fail
      go_at_call 110
      refine (trimmed_pl _ n n gg w2 HG.out).mono ?_
      rintro e w3 ⟨a3, n3, c3, f3, rfl, hs3, hv3, ht3, hp3, hb3⟩
      have B3 := BB.out.go hb3
      have hc4 := B3.now.2.2.2.1.cell
      have hf4 := B3.now.2.2.2.1.free
      have HE := Lib.hid (natOut_store (u := .slice a3 n3 c3) (k := w.heap.size + 1 + 1) B3.below (by omega) hs3 (hv3.trans HGV.out) ht3 (by rintro x rfl; rcases hp3 with h | h <;> cases h; simp; omega)).three
      clear hs3 hv3 ht3 hb3 hp3 B3
      go_wp2
      exact bodyPost_ret (v := .agg #[.slice a3 n3 c3]) (by simp [results, Tryz.results156, go_sem, hc4]) rfl HE.out
    · have HZ := Lib.hid (zero_any _ B wr i2)
      rw [decide_eq_false h0] at HZ
      have DM : Hid (∀ wz, NatIs wz (.agg #[.slice a n c]) A → NatIs wz (.agg #[.slice a2 n2 c2]) B → Calls Tryz.prog 157 #[.agg #[.slice a n c], .agg #[.slice a2 n2 c2]] wz fun e w' => DivOf3 wz w' e (A / B) (A % B) true) := fun wz h g => (divMod_any _ _ _ _ wz h g K hK hh.out.2.1).mono fun _ _ h => by
        have := h.three (b := true) (by simp; exact h0)
        unfold modz at this
        rw [if_neg h0] at this
        exact this
      have hlt : A % B < B := Nat.mod_lt _ (Nat.pos_of_ne_zero h0)
      have HH : Hid (Nat.gcd B (A % B) = Nat.gcd X Y ∧ B < 4294967296 ^ K ∧ A % B < 4294967296 ^ K) := ⟨by rw [Nat.gcd_comm B, ← Nat.gcd_rec, Nat.gcd_comm]; exact hh.out.1, hh.out.2.2, by have := hh.out.2.2; omega⟩
      have HR : Hid (readN wr (w.heap.size + 1) = B) := readN_is s2 i2
      have HL := Lib.hid hlt
      have BB := Lib.hid ((((((⟨hbl, fun _ _ _ _ => trivial, trivial⟩ : Bag w (fun _ => True) wr).slot s3).slot s2).slot s1).nat i2).nat i1)
      have q2 := s2.cell
      clear h0 s1 s2 s3 i1 i2 hbl hh hlt
      go_wp2_with fail
      go_at_call 107
      (with_reducible refine HZ.out.mono ?_)
      rintro e w1 ⟨rfl, hb1⟩
      have BB := Lib.hid (BB.out.go hb1)
      clear hb1 q2
      have q1 := BB.out.now.2.2.1.cell
      have q2 := BB.out.now.2.2.2.1.cell
      go_wp2_with fail
      go_at_call 157
      (with_reducible refine (DM.out _ BB.out.now.1 BB.out.now.2.1).mono ?_)
      rintro e w2 ⟨aq, nq, cq, ar, nr, cr, rfl, hiq, hir, hb2⟩
      have hks : w.heap.size + 1 + 1 < w2.heap.size := (BB.out.go hb2).now.2.2.2.2.1.lt
      have B2 := (((BB.out.go hb2).nat hir).box (.slice aq nq cq) 56).box (.slice ar nr cr) 56
      rw [World.size_alloc] at B2
      clear hiq hir hb2 q1 q2
      obtain ⟨t6, t5, ir, ia, ib, t1, t2, t3, _⟩ := B2.now
      have c1 := t1.cell
      have f1 := t1.free
      have c2' := t2.cell
      have f2 := t2.free
      have c6 := t6.cell
      have HN : Hid (GI w (((((w2.alloc (.cells #[.slice aq nq cq] 56)).alloc (.cells #[.slice ar nr cr] 56)).setCell ⟨w.heap.size, 0, none⟩ (.slice a2 n2 c2)).setCell ⟨w.heap.size + 1, 0, none⟩ (.slice ar nr cr)).drew) B (A % B)) := by
        have u1 := t1.set1 (.slice a2 n2 c2)
        have u2 := t2.other (k := w.heap.size) (.slice a2 n2 c2) (by omega)
        have u3 := t3.other (k := w.heap.size) (.slice a2 n2 c2) (by omega)
        have jb := ib.storeAt t1.cell (fun _ _ h => by cases h) (.slice a2 n2 c2)
        have jr := ir.storeAt t1.cell (fun _ _ h => by cases h) (.slice a2 n2 c2)
        exact ⟨((B2.below.setCell (Nat.le_refl _) _).setCell (show w.heap.size ≤ w.heap.size + 1 by omega) _).drew, a2, n2, c2, ar, nr, cr, (u1.other (k := w.heap.size + 1) (.slice ar nr cr) (by omega)).below (Below.refl _ _).drew, (jb.storeAt u2.cell (fun _ _ h => by cases h) _).below (Below.refl _ _).drew, (u2.set1 (.slice ar nr cr)).below (Below.refl _ _).drew, (jr.storeAt u2.cell (fun _ _ h => by cases h) _).below (Below.refl _ _).drew, (u3.other (k := w.heap.size + 1) (.slice ar nr cr) (by omega)).below (Below.refl _ _).drew⟩
      have HM : Hid (readN (((((w2.alloc (.cells #[.slice aq nq cq] 56)).alloc (.cells #[.slice ar nr cr] 56)).setCell ⟨w.heap.size, 0, none⟩ (.slice a2 n2 c2)).setCell ⟨w.heap.size + 1, 0, none⟩ (.slice ar nr cr)).drew) (w.heap.size + 1) < readN wr (w.heap.size + 1)) := by
        show _ < _
        obtain ⟨_, x1, x2, x3, y1, y2, y3, _, _, v1, v2, _⟩ := HN.out
        rw [HR.out, readN_is v1 v2]; exact HL.out
      clear t6 t5 ir ia ib t1 t2 t3 B2
      go_wp2_with fail
      go_region
      all_goals
        go_wp2
        go_roundw
        case rel => exact ⟨B, A % B, HN.out, HH.out⟩
        case measure => exact HM.out
end Go.Proofs.YtnpoakaffafdiaaGreatDoor

namespace Go.Proofs.YtnpoakaffafdiaaGreatDoor
open Go.RowKit
attribute [local go_sem ↓] Go.wp_at_zero Go.wp_at_succ
set_option maxHeartbeats 3200000 in
set_option maxRecDepth 100000 in
theorem floor_same (a : Option Addr) (n c : Nat) (m : Bool) (Z : Int) (a2 : Option Addr) (n2 c2 : Nat) (m2 : Bool) (Y : Int) (w : World) (h : IntAt w a n c m Z) (g : IntAt w a2 n2 c2 m2 Y) (K : Nat) (hK : K ≤ 800000) (hZ : Z.natAbs < 4294967296 ^ K) (hY : Y ≠ 0)
    (hap : (m != m2) = false) :
    Calls Tryz.prog 161 #[.agg #[.slice a n c, .bool m], .agg #[.slice a2 n2 c2, .bool m2]] w fun e w' => FloorTold w w' e (flQ Z Y) (flR Z Y) := by
  have hfu : flA Z Y = false ∧ flQ Z Y = sgn false (Z.natAbs / Y.natAbs) ∧ flR Z Y = sgn m2 (Z.natAbs % Y.natAbs) := by
    have e1 : flA Z Y = false := by unfold flA; rw [← h.1, ← g.1]; exact hap
    refine ⟨e1, ?_, ?_⟩
    · unfold flQ flU; rw [e1]; simp 
    · unfold flR flU; rw [e1, ← g.1]; simp 
  obtain ⟨_, hfq, hfr⟩ := hfu
  have BB := Lib.hid (FP.start h g)
  have q0 := BB.out.now.2.2.2.1.cell
  have q1 := BB.out.now.2.2.2.1.cell1
  have q2 := BB.out.now.2.2.1.cell
  have q3 := BB.out.now.2.2.1.cell1
  have N1 : Hid (∀ wz, FP w.heap.size a n c m Z a2 n2 c2 m2 Y wz → Calls Tryz.prog 136 #[.agg #[.slice a n c, .bool m]] wz fun e w' => e = .returned (.bool m) ∧ Below wz.heap.size wz w') := fun wz hz => neg_any a n c m Z wz hz.2.2.2.2.2
  have N2 : Hid (∀ wz, FP w.heap.size a n c m Z a2 n2 c2 m2 Y wz → Calls Tryz.prog 136 #[.agg #[.slice a2 n2 c2, .bool m2]] wz fun e w' => e = .returned (.bool m2) ∧ Below wz.heap.size wz w') := fun wz hz => neg_any a2 n2 c2 m2 Y wz hz.2.2.2.2.1
  have DM : Hid (∀ wz, FP w.heap.size a n c m Z a2 n2 c2 m2 Y wz → Calls Tryz.prog 157 #[.agg #[.slice a n c], .agg #[.slice a2 n2 c2]] wz fun e w' => DivOf3 wz w' e (Z.natAbs / Y.natAbs) (Z.natAbs % Y.natAbs) true) := fun wz hz => (divMod_any _ _ _ _ wz hz.2.2.2.2.2.2 hz.2.2.2.2.1.2 K (by omega) hZ).mono fun _ _ h => by
    have := h.three (b := true) (by simp; omega)
    unfold modz at this
    rw [if_neg (by omega)] at this
    exact this
  have OF1 : Hid (∀ a3 n3 c3 wz, NatIs wz (.agg #[.slice a3 n3 c3]) (Z.natAbs / Y.natAbs) → Calls Tryz.prog 119 #[.bool false, .agg #[.slice a3 n3 c3]] wz fun e w' => IntTold wz w' e (flQ Z Y)) := by
    intro a3 n3 c3 wz hi
    have := wof_any false a3 n3 c3 _ wz hi
    rw [← hfq] at this; exact this
  have OF2 : Hid (∀ a3 n3 c3 wz, NatIs wz (.agg #[.slice a3 n3 c3]) (Z.natAbs % Y.natAbs) → Calls Tryz.prog 119 #[.bool m2, .agg #[.slice a3 n3 c3]] wz fun e w' => IntTold wz w' e (flR Z Y)) := by
    intro a3 n3 c3 wz hi
    have := wof_any m2 a3 n3 c3 _ wz hi
    rw [← hfr] at this; exact this
  obtain ⟨N, hN⟩ : ∃ N, Z.natAbs = N := ⟨_, rfl⟩
  obtain ⟨M, hM⟩ : ∃ M, Y.natAbs = M := ⟨_, rfl⟩
  have hM0 : 0 < M := by omega
  have hgM := g.1
  have hNK : N < 4294967296 ^ K := by omega
  have SB : Hid (∀ a3 n3 c3 wz, FP w.heap.size a n c m Z a2 n2 c2 m2 Y wz → NatIs wz (.agg #[.slice a3 n3 c3]) (N % M) → Calls Tryz.prog 186 #[.agg #[.slice a2 n2 c2], .agg #[.slice a3 n3 c3]] wz fun e w' => SubOf3 wz w' e (M - N % M) true) := fun a3 n3 c3 wz hz hi => (sub_any _ _ M (N % M) wz (by rw [← hM]; exact hz.2.2.2.2.1.2) hi).mono fun _ _ h => h.three (decide_eq_true (Nat.le_of_lt (Nat.mod_lt N hM0)))
  have AD : Hid (∀ a3 n3 c3 a4 n4 c4 wz, NatIs wz (.agg #[.slice a3 n3 c3]) (N / M) → NatIs wz (.agg #[.slice a4 n4 c4]) 1 → Calls Tryz.prog 153 #[.agg #[.slice a3 n3 c3], .agg #[.slice a4 n4 c4]] wz fun e w' => NatOf3 wz w' e (N / M + 1)) := fun a3 n3 c3 a4 n4 c4 wz hi hj => (add_any _ _ _ _ wz hi hj (K + 1) (by omega) (by
      have := Nat.div_le_self N M
      have h2 := pow_mono32 (show K ≤ K + 1 by omega)
      omega) (by
      have := pow_mono32 (show 1 ≤ K + 1 by omega)
      rw [Nat.pow_one] at this
      omega)).mono fun _ _ h => h.three
  rw [hN, hM] at DM OF1 OF2
  have hd : (m == m2) = true := by simpa using hap
  clear h g hZ hY hfq hfr hap hN hM hgM hNK hM0
  go_enter Tryz.func161, Tryz.ntmps161
  go_wp2_with fail
  go_at_call 157
  (with_reducible refine (DM.out _ BB.out.now).mono ?_)
  rintro e w4 ⟨aq, nq, cq, ar, nr, cr, rfl, hi3, hi4, hb4⟩
  have hk4 : w.heap.size + 1 + 1 + 1 < w4.heap.size := RS.lt (BB.out.go hb4).now.2.1
  have BQ := ((((BB.out.go hb4).nat hi4).nat hi3).box (.slice aq nq cq) 56).box (.slice ar nr cr) 56
  rw [World.size_alloc] at BQ
  have BB : Hid (Bag w (fun y => Slot y w4.heap.size (.slice aq nq cq) ∧ NatIs y (.agg #[.slice aq nq cq]) (N / M) ∧ Slot y (w4.heap.size + 1) (.slice ar nr cr) ∧ NatIs y (.agg #[.slice ar nr cr]) (N % M) ∧ FP w.heap.size a n c m Z a2 n2 c2 m2 Y y) _) := ⟨BQ.below, fun x y hb h => ⟨h.1.below hb, h.2.1.below hb, h.2.2.1.below hb, h.2.2.2.1.below hb, FP.stay x y hb h.2.2.2.2⟩, BQ.now.2.1, BQ.now.2.2.1, BQ.now.1, BQ.now.2.2.2.1, BQ.now.2.2.2.2⟩
  clear hb4 hi3 hi4 q0 q1 q2 q3 BQ
  go_wp2_with fail
  go_region_held3 (fun y => (y.cell? ⟨w.heap.size, 0, none⟩ = some (.slice a n c) ∧ y.cell? ⟨w.heap.size, 1, none⟩ = some (.bool m) ∧ y.cell? ⟨w.heap.size + 1, 0, none⟩ = some (.slice a2 n2 c2) ∧ y.cell? ⟨w.heap.size + 1, 1, none⟩ = some (.bool m2)) ∧ Bag w (fun y => Slot y w4.heap.size (.slice aq nq cq) ∧ NatIs y (.agg #[.slice aq nq cq]) (N / M) ∧ Slot y (w4.heap.size + 1) (.slice ar nr cr) ∧ NatIs y (.agg #[.slice ar nr cr]) (N % M) ∧ FP w.heap.size a n c m Z a2 n2 c2 m2 Y y) y)
    (first | (have B9 := BB.out.drew; exact ⟨⟨B9.now.2.2.2.2.2.2.2.1.cell, B9.now.2.2.2.2.2.2.2.1.cell1, B9.now.2.2.2.2.2.2.1.cell, B9.now.2.2.2.2.2.2.1.cell1⟩, B9⟩) | (have B9 := Bag.go (show Bag w (fun y => Slot y w4.heap.size (.slice aq nq cq) ∧ NatIs y (.agg #[.slice aq nq cq]) (N / M) ∧ Slot y (w4.heap.size + 1) (.slice ar nr cr) ∧ NatIs y (.agg #[.slice ar nr cr]) (N % M) ∧ FP w.heap.size a n c m Z a2 n2 c2 m2 Y y) _ from by go_split_ands; assumption) hb2; exact ⟨⟨B9.now.2.2.2.2.2.2.2.1.cell, B9.now.2.2.2.2.2.2.2.1.cell1, B9.now.2.2.2.2.2.2.1.cell, B9.now.2.2.2.2.2.2.1.cell1⟩, B9⟩))
    (first
      | (go_at_call 136; (with_reducible refine (N1.out _ ?_).mono ?_); exact (show Bag w (fun y => Slot y w4.heap.size (.slice aq nq cq) ∧ NatIs y (.agg #[.slice aq nq cq]) (N / M) ∧ Slot y (w4.heap.size + 1) (.slice ar nr cr) ∧ NatIs y (.agg #[.slice ar nr cr]) (N % M) ∧ FP w.heap.size a n c m Z a2 n2 c2 m2 Y y) _ from by go_split_ands; assumption).now.2.2.2.2; rintro e w2 ⟨rfl, hb2⟩)
      | (go_at_call 136; (with_reducible refine (N2.out _ ?_).mono ?_); exact (show Bag w (fun y => Slot y w4.heap.size (.slice aq nq cq) ∧ NatIs y (.agg #[.slice aq nq cq]) (N / M) ∧ Slot y (w4.heap.size + 1) (.slice ar nr cr) ∧ NatIs y (.agg #[.slice ar nr cr]) (N % M) ∧ FP w.heap.size a n c m Z a2 n2 c2 m2 Y y) _ from by go_split_ands; assumption).now.2.2.2.2; rintro e w2 ⟨rfl, hb2⟩))
  have BB := Lib.hid (show Bag w (fun y => Slot y w4.heap.size (.slice aq nq cq) ∧ NatIs y (.agg #[.slice aq nq cq]) (N / M) ∧ Slot y (w4.heap.size + 1) (.slice ar nr cr) ∧ NatIs y (.agg #[.slice ar nr cr]) (N % M) ∧ FP w.heap.size a n c m Z a2 n2 c2 m2 Y y) _ from by go_split_ands; assumption)
  go_wp2_with fail
  go_region_held3 (fun y => (y.cell? ⟨w4.heap.size, 0, none⟩ = some (.slice aq nq cq) ∧ y.cell? ⟨w4.heap.size + 1, 0, none⟩ = some (.slice ar nr cr) ∧ y.cell? ⟨w.heap.size + 1, 0, none⟩ = some (.slice a2 n2 c2) ∧ y.cell? ⟨w.heap.size + 1, 1, none⟩ = some (.bool m2)) ∧ Bag w (fun y => Slot y w4.heap.size (.slice aq nq cq) ∧ NatIs y (.agg #[.slice aq nq cq]) (N / M) ∧ Slot y (w4.heap.size + 1) (.slice ar nr cr) ∧ NatIs y (.agg #[.slice ar nr cr]) (N % M) ∧ FP w.heap.size a n c m Z a2 n2 c2 m2 Y y) y)
    (first
      | (have B9 := BB.out.drew; exact ⟨⟨B9.now.1.cell, B9.now.2.2.1.cell, B9.now.2.2.2.2.2.2.1.cell, B9.now.2.2.2.2.2.2.1.cell1⟩, B9⟩)
      | (have B9 := Bag.go (show Bag w (fun y => Slot y w4.heap.size (.slice aq nq cq) ∧ NatIs y (.agg #[.slice aq nq cq]) (N / M) ∧ Slot y (w4.heap.size + 1) (.slice ar nr cr) ∧ NatIs y (.agg #[.slice ar nr cr]) (N % M) ∧ FP w.heap.size a n c m Z a2 n2 c2 m2 Y y) _ from by go_split_ands; assumption) hb2; exact ⟨⟨B9.now.1.cell, B9.now.2.2.1.cell, B9.now.2.2.2.2.2.2.1.cell, B9.now.2.2.2.2.2.2.1.cell1⟩, B9⟩)
      | (have B9 := Bag.put (show Bag w (fun y => Slot y w4.heap.size (.slice aq nq cq) ∧ NatIs y (.agg #[.slice aq nq cq]) (N / M) ∧ Slot y (w4.heap.size + 1) (.slice ar nr cr) ∧ NatIs y (.agg #[.slice ar nr cr]) (N % M) ∧ FP w.heap.size a n c m Z a2 n2 c2 m2 Y y) _ from by go_split_ands; assumption) (k := w.heap.size + 1 + 1) (a := a5) (n := n5) (c := c5) (b := m5) (by omega) (fun h => ⟨h.1.put (by omega) _ _ _ _, h.2.1.put h.2.2.2.2.1 _ _ _ _, h.2.2.1.put (by omega) _ _ _ _, h.2.2.2.1.put h.2.2.2.2.1 _ _ _ _, h.2.2.2.2.put h.2.2.2.2.1 (by omega) (by omega) _ _ _ _⟩); exact ⟨⟨B9.now.1.cell, B9.now.2.2.1.cell, B9.now.2.2.2.2.2.2.1.cell, B9.now.2.2.2.2.2.2.1.cell1⟩, B9⟩)
      | (have B9 := Bag.put (show Bag w (fun y => Slot y w4.heap.size (.slice aq nq cq) ∧ NatIs y (.agg #[.slice aq nq cq]) (N / M) ∧ Slot y (w4.heap.size + 1) (.slice ar nr cr) ∧ NatIs y (.agg #[.slice ar nr cr]) (N % M) ∧ FP w.heap.size a n c m Z a2 n2 c2 m2 Y y) _ from by go_split_ands; assumption) (k := w.heap.size + 1 + 1 + 1) (a := a6) (n := n6) (c := c6) (b := m6) (by omega) (fun h => ⟨h.1.put (by omega) _ _ _ _, h.2.1.put h.2.2.2.2.2.1 _ _ _ _, h.2.2.1.put (by omega) _ _ _ _, h.2.2.2.1.put h.2.2.2.2.2.1 _ _ _ _, h.2.2.2.2.put h.2.2.2.2.2.1 (by omega) (by omega) _ _ _ _⟩); exact ⟨⟨B9.now.1.cell, B9.now.2.2.1.cell, B9.now.2.2.2.2.2.2.1.cell, B9.now.2.2.2.2.2.2.1.cell1⟩, B9⟩))
    (first
      | (go_at_call 119; (with_reducible refine (OF1.out aq nq cq _ ?_).mono ?_); exact (show Bag w (fun y => Slot y w4.heap.size (.slice aq nq cq) ∧ NatIs y (.agg #[.slice aq nq cq]) (N / M) ∧ Slot y (w4.heap.size + 1) (.slice ar nr cr) ∧ NatIs y (.agg #[.slice ar nr cr]) (N % M) ∧ FP w.heap.size a n c m Z a2 n2 c2 m2 Y y) _ from by go_split_ands; assumption).now.2.1; rintro e w2 ⟨a5, n5, c5, m5, rfl, hi5, hb2⟩)
      | (go_at_call 136; (with_reducible refine (N2.out _ ?_).mono ?_); exact (show Bag w (fun y => Slot y w4.heap.size (.slice aq nq cq) ∧ NatIs y (.agg #[.slice aq nq cq]) (N / M) ∧ Slot y (w4.heap.size + 1) (.slice ar nr cr) ∧ NatIs y (.agg #[.slice ar nr cr]) (N % M) ∧ FP w.heap.size a n c m Z a2 n2 c2 m2 Y y) _ from by go_split_ands; assumption).now.2.2.2.2; rintro e w2 ⟨rfl, hb2⟩; have hi5 := hi5.below hb2)
      | (go_at_call 119; (with_reducible refine (OF2.out ar nr cr _ ?_).mono ?_); exact (show Bag w (fun y => Slot y w4.heap.size (.slice aq nq cq) ∧ NatIs y (.agg #[.slice aq nq cq]) (N / M) ∧ Slot y (w4.heap.size + 1) (.slice ar nr cr) ∧ NatIs y (.agg #[.slice ar nr cr]) (N % M) ∧ FP w.heap.size a n c m Z a2 n2 c2 m2 Y y) _ from by go_split_ands; assumption).now.2.2.2.1; rintro e w2 ⟨a6, n6, c6, m6, rfl, hi6, hb2⟩; have hi5 := hi5.below hb2;
          have B7 := Bag.go (show Bag w (fun y => Slot y w4.heap.size (.slice aq nq cq) ∧ NatIs y (.agg #[.slice aq nq cq]) (N / M) ∧ Slot y (w4.heap.size + 1) (.slice ar nr cr) ∧ NatIs y (.agg #[.slice ar nr cr]) (N % M) ∧ FP w.heap.size a n c m Z a2 n2 c2 m2 Y y) _ from by go_split_ands; assumption) hb2;
          obtain ⟨x8, b8, hs8, _⟩ := B7.now.2.2.2.2.1;
          obtain ⟨x9, b9, hs9, _⟩ := B7.now.2.2.2.2.2.1;
          have hc1 := hs8.cell; have hc2 := hs8.cell1; have hc3 := hs9.cell; have hc4 := hs9.cell1; have hf1 := hs8.free; have hf2 := hs8.free1; have hf3 := hs9.free; have hf4 := hs9.free1;
          have HA := Slot2.put (B7.now.2.2.2.2.1.slotted a5 n5 c5 m5) (show w.heap.size + 1 + 1 ≠ w.heap.size + 1 + 1 + 1 by omega) a6 n6 c6 m6;
          have HB := (B7.now.2.2.2.2.2.1.put (k := w.heap.size + 1 + 1) a5 n5 c5 m5).slotted a6 n6 c6 m6;
          have e1 := HA.cell; have e2 := HA.cell1; have e3 := HB.cell; have e4 := HB.cell1;
          have HE : Hid (FloorTold w (putI (putI w2 (w.heap.size + 1 + 1) a5 n5 c5 m5) (w.heap.size + 1 + 1 + 1) a6 n6 c6 m6) (.returned (.tuple #[.agg #[.slice a5 n5 c5, .bool m5], .agg #[.slice a6 n6 c6, .bool m6], .bool true])) (flQ Z Y) (flR Z Y)) := ⟨a5, n5, c5, m5, a6, n6, c6, m6, rfl, (hi5.put B7.now.2.2.2.2.1 _ _ _ _).put (B7.now.2.2.2.2.2.1.put (k := w.heap.size + 1 + 1) a5 n5 c5 m5) _ _ _ _, (hi6.put B7.now.2.2.2.2.1 _ _ _ _).put (B7.now.2.2.2.2.2.1.put (k := w.heap.size + 1 + 1) a5 n5 c5 m5) _ _ _ _, (((B7.below.setCell (show w.heap.size ≤ w.heap.size + 1 + 1 by omega) _).setCell (show w.heap.size ≤ w.heap.size + 1 + 1 by omega) _).setCell (show w.heap.size ≤ w.heap.size + 1 + 1 + 1 by omega) _).setCell (show w.heap.size ≤ w.heap.size + 1 + 1 + 1 by omega) _⟩;
          unfold putI at HE e1 e2 e3 e4; clear hs8 hs9 HA HB B7))
  all_goals
    go_wp2
    exact bodyPost_ret (v := .tuple #[.agg #[.slice a5 n5 c5, .bool m5], .agg #[.slice a6 n6 c6, .bool m6], .bool true]) (by simp [results, Tryz.results161, go_sem, e1, e2, e3, e4]) rfl HE.out
end Go.Proofs.YtnpoakaffafdiaaGreatDoor

namespace Go.Proofs.YtnpoakaffafdiaaGreatDoor
open Go.RowKit
attribute [local go_sem ↓] Go.wp_at_zero Go.wp_at_succ
set_option maxHeartbeats 3200000 in
set_option maxRecDepth 100000 in
theorem floor_even (a : Option Addr) (n c : Nat) (m : Bool) (Z : Int) (a2 : Option Addr) (n2 c2 : Nat) (m2 : Bool) (Y : Int) (w : World) (h : IntAt w a n c m Z) (g : IntAt w a2 n2 c2 m2 Y) (K : Nat) (hK : K ≤ 800000) (hZ : Z.natAbs < 4294967296 ^ K) (hY : Y ≠ 0)
    (hap : (m != m2) = true) (hr0 : Z.natAbs % Y.natAbs = 0) :
    Calls Tryz.prog 161 #[.agg #[.slice a n c, .bool m], .agg #[.slice a2 n2 c2, .bool m2]] w fun e w' => FloorTold w w' e (flQ Z Y) (flR Z Y) := by
  have hfu : flA Z Y = true ∧ flQ Z Y = sgn true (Z.natAbs / Y.natAbs) ∧ flR Z Y = sgn m2 (Z.natAbs % Y.natAbs) := by
    have e1 : flA Z Y = true := by unfold flA; rw [← h.1, ← g.1]; exact hap
    refine ⟨e1, ?_, ?_⟩
    · unfold flQ flU; rw [e1]; simp [hr0]
    · unfold flR flU; rw [e1, ← g.1, hr0]; simp
  obtain ⟨_, hfq, hfr⟩ := hfu
  have BB := Lib.hid (FP.start h g)
  have q0 := BB.out.now.2.2.2.1.cell
  have q1 := BB.out.now.2.2.2.1.cell1
  have q2 := BB.out.now.2.2.1.cell
  have q3 := BB.out.now.2.2.1.cell1
  have N1 : Hid (∀ wz, FP w.heap.size a n c m Z a2 n2 c2 m2 Y wz → Calls Tryz.prog 136 #[.agg #[.slice a n c, .bool m]] wz fun e w' => e = .returned (.bool m) ∧ Below wz.heap.size wz w') := fun wz hz => neg_any a n c m Z wz hz.2.2.2.2.2
  have N2 : Hid (∀ wz, FP w.heap.size a n c m Z a2 n2 c2 m2 Y wz → Calls Tryz.prog 136 #[.agg #[.slice a2 n2 c2, .bool m2]] wz fun e w' => e = .returned (.bool m2) ∧ Below wz.heap.size wz w') := fun wz hz => neg_any a2 n2 c2 m2 Y wz hz.2.2.2.2.1
  have DM : Hid (∀ wz, FP w.heap.size a n c m Z a2 n2 c2 m2 Y wz → Calls Tryz.prog 157 #[.agg #[.slice a n c], .agg #[.slice a2 n2 c2]] wz fun e w' => DivOf3 wz w' e (Z.natAbs / Y.natAbs) (Z.natAbs % Y.natAbs) true) := fun wz hz => (divMod_any _ _ _ _ wz hz.2.2.2.2.2.2 hz.2.2.2.2.1.2 K (by omega) hZ).mono fun _ _ h => by
    have := h.three (b := true) (by simp; omega)
    unfold modz at this
    rw [if_neg (by omega)] at this
    exact this
  have OF1 : Hid (∀ a3 n3 c3 wz, NatIs wz (.agg #[.slice a3 n3 c3]) (Z.natAbs / Y.natAbs) → Calls Tryz.prog 119 #[.bool true, .agg #[.slice a3 n3 c3]] wz fun e w' => IntTold wz w' e (flQ Z Y)) := by
    intro a3 n3 c3 wz hi
    have := wof_any true a3 n3 c3 _ wz hi
    rw [← hfq] at this; exact this
  have OF2 : Hid (∀ a3 n3 c3 wz, NatIs wz (.agg #[.slice a3 n3 c3]) (Z.natAbs % Y.natAbs) → Calls Tryz.prog 119 #[.bool m2, .agg #[.slice a3 n3 c3]] wz fun e w' => IntTold wz w' e (flR Z Y)) := by
    intro a3 n3 c3 wz hi
    have := wof_any m2 a3 n3 c3 _ wz hi
    rw [← hfr] at this; exact this
  obtain ⟨N, hN⟩ : ∃ N, Z.natAbs = N := ⟨_, rfl⟩
  obtain ⟨M, hM⟩ : ∃ M, Y.natAbs = M := ⟨_, rfl⟩
  have hM0 : 0 < M := by omega
  have hgM := g.1
  have hNK : N < 4294967296 ^ K := by omega
  have SB : Hid (∀ a3 n3 c3 wz, FP w.heap.size a n c m Z a2 n2 c2 m2 Y wz → NatIs wz (.agg #[.slice a3 n3 c3]) (N % M) → Calls Tryz.prog 186 #[.agg #[.slice a2 n2 c2], .agg #[.slice a3 n3 c3]] wz fun e w' => SubOf3 wz w' e (M - N % M) true) := fun a3 n3 c3 wz hz hi => (sub_any _ _ M (N % M) wz (by rw [← hM]; exact hz.2.2.2.2.1.2) hi).mono fun _ _ h => h.three (decide_eq_true (Nat.le_of_lt (Nat.mod_lt N hM0)))
  have AD : Hid (∀ a3 n3 c3 a4 n4 c4 wz, NatIs wz (.agg #[.slice a3 n3 c3]) (N / M) → NatIs wz (.agg #[.slice a4 n4 c4]) 1 → Calls Tryz.prog 153 #[.agg #[.slice a3 n3 c3], .agg #[.slice a4 n4 c4]] wz fun e w' => NatOf3 wz w' e (N / M + 1)) := fun a3 n3 c3 a4 n4 c4 wz hi hj => (add_any _ _ _ _ wz hi hj (K + 1) (by omega) (by
      have := Nat.div_le_self N M
      have h2 := pow_mono32 (show K ≤ K + 1 by omega)
      omega) (by
      have := pow_mono32 (show 1 ≤ K + 1 by omega)
      rw [Nat.pow_one] at this
      omega)).mono fun _ _ h => h.three
  rw [hN, hM] at DM OF1 OF2
  have hd : (m == m2) = false := by simpa using hap
  have ZR : Hid (∀ a3 n3 c3 wz, NatIs wz (.agg #[.slice a3 n3 c3]) (N % M) → Calls Tryz.prog 107 #[.agg #[.slice a3 n3 c3]] wz fun e w' => e = .returned (.bool true) ∧ Below wz.heap.size wz w') := by
    intro a3 n3 c3 wz hi
    have h1 := zero_any _ _ wz hi
    rw [show decide (N % M = 0) = true from by rw [← hN, ← hM]; exact decide_eq_true hr0] at h1
    exact h1
  clear hr0
  clear h g hZ hY hfq hfr hap hN hM hgM hNK hM0
  go_enter Tryz.func161, Tryz.ntmps161
  go_wp2_with fail
  go_at_call 157
  (with_reducible refine (DM.out _ BB.out.now).mono ?_)
  rintro e w4 ⟨aq, nq, cq, ar, nr, cr, rfl, hi3, hi4, hb4⟩
  have hk4 : w.heap.size + 1 + 1 + 1 < w4.heap.size := RS.lt (BB.out.go hb4).now.2.1
  have BQ := ((((BB.out.go hb4).nat hi4).nat hi3).box (.slice aq nq cq) 56).box (.slice ar nr cr) 56
  rw [World.size_alloc] at BQ
  have BB : Hid (Bag w (fun y => Slot y w4.heap.size (.slice aq nq cq) ∧ NatIs y (.agg #[.slice aq nq cq]) (N / M) ∧ Slot y (w4.heap.size + 1) (.slice ar nr cr) ∧ NatIs y (.agg #[.slice ar nr cr]) (N % M) ∧ FP w.heap.size a n c m Z a2 n2 c2 m2 Y y) _) := ⟨BQ.below, fun x y hb h => ⟨h.1.below hb, h.2.1.below hb, h.2.2.1.below hb, h.2.2.2.1.below hb, FP.stay x y hb h.2.2.2.2⟩, BQ.now.2.1, BQ.now.2.2.1, BQ.now.1, BQ.now.2.2.2.1, BQ.now.2.2.2.2⟩
  clear hb4 hi3 hi4 q0 q1 q2 q3 BQ
  go_wp2_with fail
  go_region_held3 (fun y => (y.cell? ⟨w.heap.size, 0, none⟩ = some (.slice a n c) ∧ y.cell? ⟨w.heap.size, 1, none⟩ = some (.bool m) ∧ y.cell? ⟨w.heap.size + 1, 0, none⟩ = some (.slice a2 n2 c2) ∧ y.cell? ⟨w.heap.size + 1, 1, none⟩ = some (.bool m2)) ∧ Bag w (fun y => Slot y w4.heap.size (.slice aq nq cq) ∧ NatIs y (.agg #[.slice aq nq cq]) (N / M) ∧ Slot y (w4.heap.size + 1) (.slice ar nr cr) ∧ NatIs y (.agg #[.slice ar nr cr]) (N % M) ∧ FP w.heap.size a n c m Z a2 n2 c2 m2 Y y) y)
    (first | (have B9 := BB.out.drew; exact ⟨⟨B9.now.2.2.2.2.2.2.2.1.cell, B9.now.2.2.2.2.2.2.2.1.cell1, B9.now.2.2.2.2.2.2.1.cell, B9.now.2.2.2.2.2.2.1.cell1⟩, B9⟩) | (have B9 := Bag.go (show Bag w (fun y => Slot y w4.heap.size (.slice aq nq cq) ∧ NatIs y (.agg #[.slice aq nq cq]) (N / M) ∧ Slot y (w4.heap.size + 1) (.slice ar nr cr) ∧ NatIs y (.agg #[.slice ar nr cr]) (N % M) ∧ FP w.heap.size a n c m Z a2 n2 c2 m2 Y y) _ from by go_split_ands; assumption) hb2; exact ⟨⟨B9.now.2.2.2.2.2.2.2.1.cell, B9.now.2.2.2.2.2.2.2.1.cell1, B9.now.2.2.2.2.2.2.1.cell, B9.now.2.2.2.2.2.2.1.cell1⟩, B9⟩))
    (first
      | (go_at_call 136; (with_reducible refine (N1.out _ ?_).mono ?_); exact (show Bag w (fun y => Slot y w4.heap.size (.slice aq nq cq) ∧ NatIs y (.agg #[.slice aq nq cq]) (N / M) ∧ Slot y (w4.heap.size + 1) (.slice ar nr cr) ∧ NatIs y (.agg #[.slice ar nr cr]) (N % M) ∧ FP w.heap.size a n c m Z a2 n2 c2 m2 Y y) _ from by go_split_ands; assumption).now.2.2.2.2; rintro e w2 ⟨rfl, hb2⟩)
      | (go_at_call 136; (with_reducible refine (N2.out _ ?_).mono ?_); exact (show Bag w (fun y => Slot y w4.heap.size (.slice aq nq cq) ∧ NatIs y (.agg #[.slice aq nq cq]) (N / M) ∧ Slot y (w4.heap.size + 1) (.slice ar nr cr) ∧ NatIs y (.agg #[.slice ar nr cr]) (N % M) ∧ FP w.heap.size a n c m Z a2 n2 c2 m2 Y y) _ from by go_split_ands; assumption).now.2.2.2.2; rintro e w2 ⟨rfl, hb2⟩))
  have BB := Lib.hid (show Bag w (fun y => Slot y w4.heap.size (.slice aq nq cq) ∧ NatIs y (.agg #[.slice aq nq cq]) (N / M) ∧ Slot y (w4.heap.size + 1) (.slice ar nr cr) ∧ NatIs y (.agg #[.slice ar nr cr]) (N % M) ∧ FP w.heap.size a n c m Z a2 n2 c2 m2 Y y) _ from by go_split_ands; assumption)
  have q5 := BB.out.now.2.2.1.cell
  go_wp2_with fail
  go_at_call 107
  (with_reducible refine (ZR.out ar nr cr _ BB.out.now.2.2.2.1).mono ?_)
  rintro e w6 ⟨rfl, hb6⟩
  have BB := Lib.hid (BB.out.go hb6)
  clear hb6 q5
  go_wp2_with fail
  go_region_held3 (fun y => (y.cell? ⟨w4.heap.size, 0, none⟩ = some (.slice aq nq cq) ∧ y.cell? ⟨w4.heap.size + 1, 0, none⟩ = some (.slice ar nr cr) ∧ y.cell? ⟨w.heap.size + 1, 0, none⟩ = some (.slice a2 n2 c2) ∧ y.cell? ⟨w.heap.size + 1, 1, none⟩ = some (.bool m2)) ∧ Bag w (fun y => Slot y w4.heap.size (.slice aq nq cq) ∧ NatIs y (.agg #[.slice aq nq cq]) (N / M) ∧ Slot y (w4.heap.size + 1) (.slice ar nr cr) ∧ NatIs y (.agg #[.slice ar nr cr]) (N % M) ∧ FP w.heap.size a n c m Z a2 n2 c2 m2 Y y) y)
    (first
      | (have B9 := BB.out.drew; exact ⟨⟨B9.now.1.cell, B9.now.2.2.1.cell, B9.now.2.2.2.2.2.2.1.cell, B9.now.2.2.2.2.2.2.1.cell1⟩, B9⟩)
      | (have B9 := Bag.go (show Bag w (fun y => Slot y w4.heap.size (.slice aq nq cq) ∧ NatIs y (.agg #[.slice aq nq cq]) (N / M) ∧ Slot y (w4.heap.size + 1) (.slice ar nr cr) ∧ NatIs y (.agg #[.slice ar nr cr]) (N % M) ∧ FP w.heap.size a n c m Z a2 n2 c2 m2 Y y) _ from by go_split_ands; assumption) hb2; exact ⟨⟨B9.now.1.cell, B9.now.2.2.1.cell, B9.now.2.2.2.2.2.2.1.cell, B9.now.2.2.2.2.2.2.1.cell1⟩, B9⟩)
      | (have B9 := Bag.put (show Bag w (fun y => Slot y w4.heap.size (.slice aq nq cq) ∧ NatIs y (.agg #[.slice aq nq cq]) (N / M) ∧ Slot y (w4.heap.size + 1) (.slice ar nr cr) ∧ NatIs y (.agg #[.slice ar nr cr]) (N % M) ∧ FP w.heap.size a n c m Z a2 n2 c2 m2 Y y) _ from by go_split_ands; assumption) (k := w.heap.size + 1 + 1) (a := a5) (n := n5) (c := c5) (b := m5) (by omega) (fun h => ⟨h.1.put (by omega) _ _ _ _, h.2.1.put h.2.2.2.2.1 _ _ _ _, h.2.2.1.put (by omega) _ _ _ _, h.2.2.2.1.put h.2.2.2.2.1 _ _ _ _, h.2.2.2.2.put h.2.2.2.2.1 (by omega) (by omega) _ _ _ _⟩); exact ⟨⟨B9.now.1.cell, B9.now.2.2.1.cell, B9.now.2.2.2.2.2.2.1.cell, B9.now.2.2.2.2.2.2.1.cell1⟩, B9⟩)
      | (have B9 := Bag.put (show Bag w (fun y => Slot y w4.heap.size (.slice aq nq cq) ∧ NatIs y (.agg #[.slice aq nq cq]) (N / M) ∧ Slot y (w4.heap.size + 1) (.slice ar nr cr) ∧ NatIs y (.agg #[.slice ar nr cr]) (N % M) ∧ FP w.heap.size a n c m Z a2 n2 c2 m2 Y y) _ from by go_split_ands; assumption) (k := w.heap.size + 1 + 1 + 1) (a := a6) (n := n6) (c := c6) (b := m6) (by omega) (fun h => ⟨h.1.put (by omega) _ _ _ _, h.2.1.put h.2.2.2.2.2.1 _ _ _ _, h.2.2.1.put (by omega) _ _ _ _, h.2.2.2.1.put h.2.2.2.2.2.1 _ _ _ _, h.2.2.2.2.put h.2.2.2.2.2.1 (by omega) (by omega) _ _ _ _⟩); exact ⟨⟨B9.now.1.cell, B9.now.2.2.1.cell, B9.now.2.2.2.2.2.2.1.cell, B9.now.2.2.2.2.2.2.1.cell1⟩, B9⟩))
    (first
      | (go_at_call 119; (with_reducible refine (OF1.out aq nq cq _ ?_).mono ?_); exact (show Bag w (fun y => Slot y w4.heap.size (.slice aq nq cq) ∧ NatIs y (.agg #[.slice aq nq cq]) (N / M) ∧ Slot y (w4.heap.size + 1) (.slice ar nr cr) ∧ NatIs y (.agg #[.slice ar nr cr]) (N % M) ∧ FP w.heap.size a n c m Z a2 n2 c2 m2 Y y) _ from by go_split_ands; assumption).now.2.1; rintro e w2 ⟨a5, n5, c5, m5, rfl, hi5, hb2⟩)
      | (go_at_call 136; (with_reducible refine (N2.out _ ?_).mono ?_); exact (show Bag w (fun y => Slot y w4.heap.size (.slice aq nq cq) ∧ NatIs y (.agg #[.slice aq nq cq]) (N / M) ∧ Slot y (w4.heap.size + 1) (.slice ar nr cr) ∧ NatIs y (.agg #[.slice ar nr cr]) (N % M) ∧ FP w.heap.size a n c m Z a2 n2 c2 m2 Y y) _ from by go_split_ands; assumption).now.2.2.2.2; rintro e w2 ⟨rfl, hb2⟩; have hi5 := hi5.below hb2)
      | (go_at_call 119; (with_reducible refine (OF2.out ar nr cr _ ?_).mono ?_); exact (show Bag w (fun y => Slot y w4.heap.size (.slice aq nq cq) ∧ NatIs y (.agg #[.slice aq nq cq]) (N / M) ∧ Slot y (w4.heap.size + 1) (.slice ar nr cr) ∧ NatIs y (.agg #[.slice ar nr cr]) (N % M) ∧ FP w.heap.size a n c m Z a2 n2 c2 m2 Y y) _ from by go_split_ands; assumption).now.2.2.2.1; rintro e w2 ⟨a6, n6, c6, m6, rfl, hi6, hb2⟩; have hi5 := hi5.below hb2;
          have B7 := Bag.go (show Bag w (fun y => Slot y w4.heap.size (.slice aq nq cq) ∧ NatIs y (.agg #[.slice aq nq cq]) (N / M) ∧ Slot y (w4.heap.size + 1) (.slice ar nr cr) ∧ NatIs y (.agg #[.slice ar nr cr]) (N % M) ∧ FP w.heap.size a n c m Z a2 n2 c2 m2 Y y) _ from by go_split_ands; assumption) hb2;
          obtain ⟨x8, b8, hs8, _⟩ := B7.now.2.2.2.2.1;
          obtain ⟨x9, b9, hs9, _⟩ := B7.now.2.2.2.2.2.1;
          have hc1 := hs8.cell; have hc2 := hs8.cell1; have hc3 := hs9.cell; have hc4 := hs9.cell1; have hf1 := hs8.free; have hf2 := hs8.free1; have hf3 := hs9.free; have hf4 := hs9.free1;
          have HA := Slot2.put (B7.now.2.2.2.2.1.slotted a5 n5 c5 m5) (show w.heap.size + 1 + 1 ≠ w.heap.size + 1 + 1 + 1 by omega) a6 n6 c6 m6;
          have HB := (B7.now.2.2.2.2.2.1.put (k := w.heap.size + 1 + 1) a5 n5 c5 m5).slotted a6 n6 c6 m6;
          have e1 := HA.cell; have e2 := HA.cell1; have e3 := HB.cell; have e4 := HB.cell1;
          have HE : Hid (FloorTold w (putI (putI w2 (w.heap.size + 1 + 1) a5 n5 c5 m5) (w.heap.size + 1 + 1 + 1) a6 n6 c6 m6) (.returned (.tuple #[.agg #[.slice a5 n5 c5, .bool m5], .agg #[.slice a6 n6 c6, .bool m6], .bool true])) (flQ Z Y) (flR Z Y)) := ⟨a5, n5, c5, m5, a6, n6, c6, m6, rfl, (hi5.put B7.now.2.2.2.2.1 _ _ _ _).put (B7.now.2.2.2.2.2.1.put (k := w.heap.size + 1 + 1) a5 n5 c5 m5) _ _ _ _, (hi6.put B7.now.2.2.2.2.1 _ _ _ _).put (B7.now.2.2.2.2.2.1.put (k := w.heap.size + 1 + 1) a5 n5 c5 m5) _ _ _ _, (((B7.below.setCell (show w.heap.size ≤ w.heap.size + 1 + 1 by omega) _).setCell (show w.heap.size ≤ w.heap.size + 1 + 1 by omega) _).setCell (show w.heap.size ≤ w.heap.size + 1 + 1 + 1 by omega) _).setCell (show w.heap.size ≤ w.heap.size + 1 + 1 + 1 by omega) _⟩;
          unfold putI at HE e1 e2 e3 e4; clear hs8 hs9 HA HB B7))
  all_goals
    go_wp2
    exact bodyPost_ret (v := .tuple #[.agg #[.slice a5 n5 c5, .bool m5], .agg #[.slice a6 n6 c6, .bool m6], .bool true]) (by simp [results, Tryz.results161, go_sem, e1, e2, e3, e4]) rfl HE.out
end Go.Proofs.YtnpoakaffafdiaaGreatDoor

namespace Go.Proofs.YtnpoakaffafdiaaGreatDoor
open Go.RowKit
attribute [local go_sem ↓] Go.wp_at_zero Go.wp_at_succ
theorem floor_any (a : Option Addr) (n c : Nat) (m : Bool) (Z : Int) (a2 : Option Addr) (n2 c2 : Nat) (m2 : Bool) (Y : Int) (w : World) (h : IntAt w a n c m Z) (g : IntAt w a2 n2 c2 m2 Y) (K : Nat) (hK : K ≤ 800000) (hZ : Z.natAbs < 4294967296 ^ K) (hY : Y ≠ 0) :
    Calls Tryz.prog 161 #[.agg #[.slice a n c, .bool m], .agg #[.slice a2 n2 c2, .bool m2]] w fun e w' => FloorTold w w' e (flQ Z Y) (flR Z Y) := by
  cases hap : (m != m2) with
  | false => exact floor_same a n c m Z a2 n2 c2 m2 Y w h g K hK hZ hY hap
  | true =>
    by_cases hr : Z.natAbs % Y.natAbs = 0
    · exact floor_even a n c m Z a2 n2 c2 m2 Y w h g K hK hZ hY hap hr
    · exact floor_odd a n c m Z a2 n2 c2 m2 Y w h g K hK hZ hY hap hr
end Go.Proofs.YtnpoakaffafdiaaGreatDoor
namespace Go.Proofs.YtnpoakaffafdiaaGreatDoor
open Go.RowKit
attribute [local go_sem ↓] Go.wp_at_zero Go.wp_at_succ
/-- The block of a whole number of the document's answers. -/
def RT (y : World) (k : Nat) : Prop := ∃ b t, Slot2 y k (.bool b) (.string t)
theorem RT.below {w w' : World} {k : Nat} (h : RT w k) (hb : Below w.heap.size w w') : RT w' k := by
  obtain ⟨x, z, h1⟩ := h; exact ⟨x, z, h1.below hb⟩
theorem RT.put2 {w : World} {k : Nat} (h : RT w k) (b : Bool) (t : ByteArray) : RT (put2 w k (.bool b) (.string t)) k := by
  obtain ⟨x, z, h1⟩ := h; exact ⟨_, _, h1.put2s _ _⟩
theorem RT.putI {w : World} {k j : Nat} (h : RT w j) (e : j ≠ k) (a : Option Addr) (n c : Nat) (b : Bool) : RT (putI w k a n c b) j := by
  obtain ⟨x, z, h1⟩ := h; exact ⟨_, _, h1.put2o e _ _⟩
/-- What read keeps. -/
def LP (k0 k5 k7 : Nat) (b : Bool) (d : ByteArray) (a : Option Addr) (n c N : Nat) (y : World) : Prop := RS y k0 ∧ RT y (k0 + 1) ∧ Slot2 y k5 (.bool b) (.string d) ∧ Slot y k7 (.slice a n c) ∧ NatIs y (.agg #[.slice a n c]) N
theorem LP.stay {k0 k5 k7 : Nat} {b : Bool} {d : ByteArray} {a : Option Addr} {n c N : Nat} : ∀ x y, Below x.heap.size x y → LP k0 k5 k7 b d a n c N x → LP k0 k5 k7 b d a n c N y :=
  fun _ _ hb h => ⟨h.1.below hb, h.2.1.below hb, h.2.2.1.below hb, h.2.2.2.1.below hb, h.2.2.2.2.below hb⟩
theorem Slot.put2o {w : World} {k j : Nat} {x : Value} (h : Slot w j x) (e : j ≠ k) (u v : Value) : Slot (put2 w k u v) j x := by
  refine ⟨?_, by simp [put2, h.free], by simpa [put2] using h.lt⟩
  unfold put2; rw [World.cell?_setCell_other _ _ _ _ (fun e' => by cases e' <;> exact e rfl), World.cell?_setCell_other _ _ _ _ (fun e' => by cases e' <;> exact e rfl)]; exact h.cell
end Go.Proofs.YtnpoakaffafdiaaGreatDoor
namespace Go.Proofs.YtnpoakaffafdiaaGreatDoor
open Go.RowKit
theorem IntsAt.mk1 {w : World} {k : Nat} (hk : w.heap.size = k) {a : Option Addr} {n c : Nat} {m : Bool} {Z : Int} {t : TypeId} (h : IntAt (w.alloc (.cells #[.slice a n c, .bool m] t)) a n c m Z) :
    IntsAt (w.alloc (.cells #[.slice a n c, .bool m] t)) (some ⟨k, 0, none⟩) 1 1 (fun _ => Z) := by
  subst hk
  have hs := Slot2.new w (.slice a n c) (.bool m) t
  refine ⟨Nat.le_refl _, by omega, .inr ⟨_, 0, rfl, by rw [World.size_alloc]; omega, fun j hj => ?_⟩⟩
  obtain rfl : j = 0 := by omega
  exact ⟨a, n, c, m, hs.cell, hs.cell1, h⟩
theorem times1_any (a : Option Addr) (n c : Nat) (m : Bool) (Z : Int) (sa : Option Addr) (Y : Int) (w : World) (h : IntAt w a n c m Z) (g : IntsAt w sa 1 1 (fun _ => Y)) (K : Nat) (hK : K ≤ 400000) (hZ : Z.natAbs < 4294967296 ^ K) (hY : Y.natAbs < 4294967296 ^ K) :
    Calls Tryz.prog 82 #[.agg #[.slice a n c, .bool m], .slice sa 1 1] w fun e w' => IntTold w w' e (Z * Y) :=
  times_any a n c m Z sa 1 1 (fun _ => Y) w h g K hK (fun k hk => by obtain rfl : k = 0 := by omega
                                                                     exact ⟨hZ, hY⟩)
end Go.Proofs.YtnpoakaffafdiaaGreatDoor
namespace Go.Proofs.YtnpoakaffafdiaaGreatDoor
open Go.RowKit
theorem Below.step {w a b : World} (hb : Below a.heap.size a b) (h : Below w.heap.size w a) : Below w.heap.size w b := h.trans (hb.mono h.size)
theorem Below.more {w a : World} (h : Below w.heap.size w a) (o : Obj) : Below w.heap.size w (a.alloc o) := h.alloc h.size o
end Go.Proofs.YtnpoakaffafdiaaGreatDoor
