/-
  The document's answers (package typeballref02): Of, Sign, Cmp, Minus, Digits, From, by contract.
  The document's answers (package typeballref02): Add, Mul, by contract.
  The document's answers (package typeballref02): Small, Read, by contract; package typeballlaw02: read.
-/
import Derived.Test.YtgpcfncolhmgfaaGreatDoorK6
import Derived.Test.YtgpcfncolhmgfaaGreatDoorK4
import Derived.Test.YtgpcfncolhmgfaaGreatDoorWh6
import Derived.Test.YtgpcfncolhmgfaaGreatDoorK5
import Derived.Test.YtgpcfncolhmgfaaGreatDoorK3
namespace Go.Proofs.YtgpcfncolhmgfaaGreatDoor
open Go.RowKit
attribute [local go_sem ↓] Go.wp_at_zero Go.wp_at_succ

/-- A whole number's fields in the document's answers. -/
def rB (Z : Int) : Bool := decide (Z < 0)
def rS (Z : Int) : ByteArray := str (dec Z.natAbs)
def RTold (w w' : World) (e : Ending) (Z : Int) : Prop := e = .returned (.agg #[.bool (rB Z), .string (rS Z)]) ∧ Below w.heap.size w w'

/-- Two cells of a block stored. -/
def put2 (y : World) (k : Nat) (x z : Value) : World := (y.setCell ⟨k, 0, none⟩ x).setCell ⟨k, 1, none⟩ z
theorem RTold.fin {w w2 : World} {k : Nat} {Y : Int} {b : Bool} {t : ByteArray} (hb : Below w.heap.size w w2) (hk : w.heap.size ≤ k) (h1 : rB Y = b) (h2 : rS Y = t) : RTold w (put2 w2 k (.bool b) (.string t)) (.returned (.agg #[.bool b, .string t])) Y :=
  ⟨by rw [h1, h2], (hb.setCell hk _).setCell hk _⟩

theorem rS_size (Z : Int) : (rS Z).size = dl Z.natAbs := by unfold rS; rw [str_size]; exact sdig_length _ _
theorem dec_is0 (N : Nat) : ((str (dec N)).toList == [48]) = decide (N = 0) := by
  have e : (str (dec N)).toList = dec N := by rw [ByteArray.toList_eq]; rfl
  rw [e, Bool.eq_iff_iff, beq_iff_eq, decide_eq_true_eq]
  constructor
  · intro h
    have := congrArg numOf h
    unfold dec at this
    rw [numOf_sdig, Nat.mod_eq_of_lt (dl_lt N)] at this
    simpa [numOf] using this
  · intro h; rw [h, dec_zero]
theorem rS_is0 (Z : Int) : ((rS Z).toList == [48]) = decide (Z = 0) := by
  unfold rS; rw [dec_is0]
  by_cases h : Z = 0
  · rw [decide_eq_true h, decide_eq_true (by omega)]
  · rw [decide_eq_false h, decide_eq_false (by omega)]

theorem rsgn_B (b : Bool) (N : Nat) : rB (sgn b N) = (b && !decide (N = 0)) := sgn_neg b N
theorem rsgn_S (b : Bool) (N : Nat) : rS (sgn b N) = str (dec N) := by unfold rS; rw [sgn_abs]

set_option maxRecDepth 100000 in
theorem rOf_any (b : Bool) (N n : Nat) (w : World) (hn : 0 < n) (hN : N < 10 ^ n) (hl : n ≤ 10000000) :
    Calls Tryz.prog 24 #[.bool b, .string (str (sdig N n))] w fun e w' => RTold w w' e (sgn b N) := by
  have TR := Lib.hid (fun wz => trim_any N n wz hn hN hl)
  have h0 := dec_is0 N
  obtain ⟨s, hs⟩ : ∃ s, str (sdig N n) = s := ⟨_, rfl⟩
  obtain ⟨t, ht⟩ : ∃ t, str (dec N) = t := ⟨_, rfl⟩
  have hx := rsgn_B b N
  have hy := rsgn_S b N
  rw [ht] at TR h0 hy
  rw [hs] at TR ⊢
  obtain ⟨z, hz⟩ : ∃ z, decide (N = 0) = z := ⟨_, rfl⟩
  rw [hz] at h0 hx
  have HX := Lib.hid hx
  have HY := Lib.hid hy
  clear hx hy hs ht hz hN hn hl
  cases b
  · have HE : Hid (RTold w (w.alloc (.cells #[.bool false, .string t] 56)) (.returned (.agg #[.bool false, .string t])) (sgn false N)) := ⟨by rw [HX.out, HY.out]; rfl, (Below.refl _ _).alloc (Nat.le_refl _) _⟩
    go_enter Tryz.func24, Tryz.ntmps24
    go_wp2_with (go_at_call 52; refine (TR.out _).mono ?_; rintro e w2 ⟨rfl, rfl⟩)
    exact bodyPost_ret (v := .agg #[.bool false, .string t]) (by simp [results, Tryz.results24, go_sem]) rfl HE.out
  · have HE : Hid (RTold w (w.alloc (.cells #[.bool (!z), .string t] 56)) (.returned (.agg #[.bool (!z), .string t])) (sgn true N)) := ⟨by rw [HX.out, HY.out]; rfl, (Below.refl _ _).alloc (Nat.le_refl _) _⟩
    cases z
    all_goals
      go_enter Tryz.func24, Tryz.ntmps24
      go_wp2_with (go_at_call 52; refine (TR.out _).mono ?_; rintro e w2 ⟨rfl, rfl⟩)
      exact bodyPost_ret (v := _) (by simp [results, Tryz.results24, go_sem]) rfl HE.out

theorem rOf_dec (b : Bool) (N : Nat) (w : World) (hl : dl N ≤ 10000000) :
    Calls Tryz.prog 24 #[.bool b, .string (str (dec N))] w fun e w' => RTold w w' e (sgn b N) := rOf_any b N (dl N) w (dl_pos N) (dl_lt N) hl

set_option maxRecDepth 100000 in
theorem rSign_any (Z : Int) (w : World) : Calls Tryz.prog 138 #[.agg #[.bool (rB Z), .string (rS Z)]] w fun e w' => e = .returned (.int .i64 (sgnI Z)) ∧ Below w.heap.size w w' := by
  have B0 := Lib.hid ((Bag.start w).box2 (.bool (rB Z)) (.string (rS Z)) 56)
  have h0 := rS_is0 Z
  by_cases hz : Z = 0
  · rw [decide_eq_true hz] at h0
    have HE : Hid (sgnI Z = 0) := by show _ = _; unfold sgnI; rw [if_neg (by omega), if_pos hz]
    clear hz
    generalize rB Z = b at *
    generalize rS Z = s at *
    go_enter Tryz.func138, Tryz.ntmps138
    go_wp2
    go_ret
    exact ⟨ret_int HE.out.symm, B0.out.below⟩
  · rw [decide_eq_false hz] at h0
    have HE : Hid (sgnI Z = if rB Z then -1 else 1) := by
      show _ = _; unfold sgnI rB
      by_cases h2 : Z < 0
      · rw [if_pos h2, decide_eq_true h2]; rfl
      · rw [if_neg h2, if_neg hz, decide_eq_false h2]; rfl
    clear hz
    generalize rB Z = b at *
    generalize rS Z = s at *
    cases b
    all_goals
      go_enter Tryz.func138, Tryz.ntmps138
      go_wp2
      go_ret
      exact ⟨ret_int HE.out.symm, B0.out.below⟩

set_option maxRecDepth 100000 in
theorem rMinus_any (Z : Int) (w : World) (hl : dl Z.natAbs ≤ 10000000) : Calls Tryz.prog 137 #[.agg #[.bool (rB Z), .string (rS Z)]] w fun e w' => RTold w w' e (-Z) := by
  have B0 := ((Bag.start w).box2 (.bool (rB Z)) (.string (rS Z)) 56).box2 (.bool false) (.string ⟨#[]⟩) 56
  rw [World.size_alloc] at B0
  have OF : Hid (∀ wz, Calls Tryz.prog 24 #[.bool (!rB Z), .string (rS Z)] wz fun e w' => RTold wz w' e (-Z)) := by
    intro wz
    have h1 := rOf_dec (!rB Z) Z.natAbs wz hl
    have e : sgn (!rB Z) Z.natAbs = -Z := by
      unfold rB
      by_cases h2 : Z < 0
      · rw [decide_eq_true h2]; simp [sgn]; omega
      · rw [decide_eq_false h2]; simp [sgn]; omega
    rw [e] at h1
    exact h1
  have BB := Lib.hid B0
  generalize rB Z = b at *
  generalize rS Z = s at *
  generalize -Z = Y at *
  clear B0 hl
  go_enter Tryz.func137, Tryz.ntmps137
  go_wp2_with fail
  go_at_call 24
  refine (OF.out _).mono ?_
  rintro e w2 ⟨rfl, hb2⟩
  have B2 := BB.out.go hb2
  have hs2 := B2.now.1
  have hc1 := hs2.cell
  have hc2 := hs2.cell1
  have hf1 := hs2.free
  have hf2 := hs2.free1
  have HS := hs2.set (.bool (rB Y)) (.string (rS Y))
  have HE := Lib.hid (RTold.fin (Y := Y) B2.below (show w.heap.size ≤ w.heap.size + 1 by omega) rfl rfl)
  unfold put2 at HE
  clear hb2 B2 hs2
  go_wp2
  exact bodyPost_ret (v := .agg #[.bool (rB Y), .string (rS Y)]) (by simp [results, Tryz.results137, go_sem, HS]) rfl HE.out

theorem rDig_is (Z : Int) (sg : ByteArray) : digS Z sg = if rB Z then sg ++ rS Z else rS Z := by
  unfold digS rB rS
  by_cases h2 : Z < 0
  · rw [if_pos h2, decide_eq_true h2]; rfl
  · rw [if_neg h2, decide_eq_false h2]; rfl

set_option maxRecDepth 100000 in
theorem rFrom_any (X : Int) (w : World) (h : -9223372036854775808 ≤ X ∧ X ≤ 9223372036854775807) :
    Calls Tryz.prog 109 #[.int .i64 X] w fun e w' => RTold w w' e X := by
  have BB := Lib.hid ((Bag.start w).box2 (.bool false) (.string ⟨#[]⟩) 56)
  by_cases h0 : X < 0
  · obtain ⟨y, hy⟩ : ∃ y : Nat, (y : Int) = -X := ⟨(-X).toNat, by omega⟩
    obtain ⟨y1, hy1⟩ : ∃ y1 : Nat, (y1 : Int) = -X - 1 := ⟨(-X - 1).toNat, by omega⟩
    obtain ⟨X1, hX1⟩ : ∃ X1, X + 1 = X1 := ⟨_, rfl⟩
    have e2 : 0 - X1 = (y1 : Int) := by omega
    have e3 : (y1 : Int) + 1 = (y : Int) := by omega
    have d0 : decide (X < 0) = true := decide_eq_true h0
    have HB : Hid (rB X = true ∧ rS X = str (dec y)) := ⟨by unfold rB; exact d0, by unfold rS; rw [show X.natAbs = y by omega]⟩
    have HO := Lib.hid (fun wz => rof_any y wz (by omega))
    obtain ⟨t, ht⟩ : ∃ t, str (dec y) = t := ⟨_, rfl⟩
    rw [ht] at HO HB
    have hb1 : -9223372036854775807 ≤ X1 ∧ X1 ≤ 0 := by omega
    have hb3 : (y1 : Int) ≤ 9223372036854775807 := by omega
    have h' := h.1
    clear hy hy1 ht h
    go_enter Tryz.func109, Tryz.ntmps109
    go_wp2_with fail
    go_at_call 139
    refine (HO.out _).mono ?_
    rintro e w2 ⟨rfl, hb2⟩
    have B2 := BB.out.go hb2
    have hs2 := B2.now.1
    have hc1 := hs2.cell
    have hc2 := hs2.cell1
    have hf1 := hs2.free
    have hf2 := hs2.free1
    have HS := hs2.set (.bool true) (.string t)
    have HE := Lib.hid (RTold.fin B2.below (Nat.le_refl _) HB.out.1 HB.out.2)
    unfold put2 at HE
    clear hb2 B2 hs2
    go_wp2
    exact bodyPost_ret (v := .agg #[.bool true, .string t]) (by simp [results, Tryz.results109, go_sem, HS]) rfl HE.out
  · obtain ⟨y, rfl⟩ : ∃ y : Nat, X = (y : Int) := ⟨X.toNat, by omega⟩
    have d0 : decide ((y : Int) < 0) = false := decide_eq_false h0
    have HB : Hid (rB (y : Int) = false ∧ rS (y : Int) = str (dec y)) := ⟨by unfold rB; exact d0, by unfold rS; simp⟩
    have HO := Lib.hid (fun wz => rof_any y wz (by omega))
    obtain ⟨t, ht⟩ : ∃ t, str (dec y) = t := ⟨_, rfl⟩
    rw [ht] at HO HB
    have h' := h.2
    clear ht h
    go_enter Tryz.func109, Tryz.ntmps109
    go_wp2_with fail
    go_at_call 139
    refine (HO.out _).mono ?_
    rintro e w2 ⟨rfl, hb2⟩
    have B2 := BB.out.go hb2
    have hs2 := B2.now.1
    have hc1 := hs2.cell
    have hc2 := hs2.cell1
    have hf1 := hs2.free
    have hf2 := hs2.free1
    have HS := hs2.set (.bool false) (.string t)
    have HE := Lib.hid (RTold.fin B2.below (Nat.le_refl _) HB.out.1 HB.out.2)
    unfold put2 at HE
    clear hb2 B2 hs2
    go_wp2
    exact bodyPost_ret (v := .agg #[.bool false, .string t]) (by simp [results, Tryz.results109, go_sem, HS]) rfl HE.out

theorem cmpZ_sgn {Z Y : Int} (h : sgnI Z ≠ sgnI Y) : cmpZ Z Y = if sgnI Z < sgnI Y then -1 else 1 := by
  unfold cmpZ sgnI at *
  (repeat' split at h) <;> (repeat' split) <;> omega
theorem cmpZ_abs {Z Y : Int} (h : sgnI Z = sgnI Y) : cmpZ Z Y = if rB Z then cmpI Y.natAbs Z.natAbs else cmpI Z.natAbs Y.natAbs := by
  unfold cmpZ sgnI rB cmpI at *
  by_cases h1 : Z < 0
  · rw [decide_eq_true h1]; (repeat' split at h) <;> simp only [if_true] <;> (repeat' split) <;> omega
  · rw [decide_eq_false h1]; (repeat' split at h) <;> simp only [Bool.false_eq_true, if_false] <;> (repeat' split) <;> omega

set_option maxHeartbeats 1600000 in
set_option maxRecDepth 100000 in
theorem rCmp_any (Z Y : Int) (w : World) (hl : dl Z.natAbs ≤ 100000) (hl2 : dl Y.natAbs ≤ 100000) :
    Calls Tryz.prog 108 #[.agg #[.bool (rB Z), .string (rS Z)], .agg #[.bool (rB Y), .string (rS Y)]] w fun e w' => e = .returned (.int .i64 (cmpZ Z Y)) ∧ Below w.heap.size w w' := by
  have B0 := ((Bag.start w).box2 (.bool (rB Z)) (.string (rS Z)) 56).box2 (.bool (rB Y)) (.string (rS Y)) 56
  rw [World.size_alloc] at B0
  have S1 := Lib.hid (fun wz => rSign_any Z wz)
  have S2 := Lib.hid (fun wz => rSign_any Y wz)
  have C1 := Lib.hid (fun wz => rcmp_any Z.natAbs Y.natAbs wz hl hl2)
  have C2 := Lib.hid (fun wz => rcmp_any Y.natAbs Z.natAbs wz hl2 hl)
  have HD := Lib.hid (@cmpZ_sgn Z Y)
  have HS := Lib.hid (@cmpZ_abs Z Y)
  have e1 : str (dec Z.natAbs) = rS Z := rfl
  have e2 : str (dec Y.natAbs) = rS Y := rfl
  rw [e1, e2] at C1 C2
  have BB := Lib.hid B0
  generalize rB Z = b at *
  generalize rS Z = s at *
  generalize rB Y = b2 at *
  generalize rS Y = s2 at *
  obtain ⟨x, hx⟩ : ∃ x, sgnI Z = x := ⟨_, rfl⟩
  obtain ⟨y, hy⟩ : ∃ y, sgnI Y = y := ⟨_, rfl⟩
  rw [hx] at S1 HD HS
  rw [hy] at S2 HD HS
  clear e1 e2 hx hy hl hl2 B0
  by_cases hxy : x = y
  · have hd : (x == y) = true := by rw [hxy]; simp
    have HE := Lib.hid (HS.out hxy)
    clear hxy HD HS
    go_enter Tryz.func108, Tryz.ntmps108
    go_wp2_with fail
    go_region_held3 (fun z => (z.cell? ⟨w.heap.size, 0, none⟩ = some (.bool b) ∧ z.cell? ⟨w.heap.size, 1, none⟩ = some (.string s) ∧ z.cell? ⟨w.heap.size + 1, 0, none⟩ = some (.bool b2) ∧ z.cell? ⟨w.heap.size + 1, 1, none⟩ = some (.string s2)) ∧ Bag w (fun z => Slot2 z (w.heap.size + 1) (.bool b2) (.string s2) ∧ Slot2 z w.heap.size (.bool b) (.string s) ∧ True) z)
      (first
        | (have B9 := BB.out.drew; exact ⟨⟨B9.now.2.1.cell, B9.now.2.1.cell1, B9.now.1.cell, B9.now.1.cell1⟩, B9⟩)
        | (have B9 := Bag.go (show Bag w (fun z => Slot2 z (w.heap.size + 1) (.bool b2) (.string s2) ∧ Slot2 z w.heap.size (.bool b) (.string s) ∧ True) _ from by go_split_ands; assumption) hb2; exact ⟨⟨B9.now.2.1.cell, B9.now.2.1.cell1, B9.now.1.cell, B9.now.1.cell1⟩, B9⟩))
      (first
        | (go_at_call 138; (with_reducible refine (S1.out _).mono ?_); rintro e w2 ⟨rfl, hb2⟩)
        | (go_at_call 138; (with_reducible refine (S2.out _).mono ?_); rintro e w2 ⟨rfl, hb2⟩))
    have BB := Lib.hid (show Bag w (fun z => Slot2 z (w.heap.size + 1) (.bool b2) (.string s2) ∧ Slot2 z w.heap.size (.bool b) (.string s) ∧ True) _ from by go_split_ands; assumption)
    have q0 := BB.out.now.2.1.cell
    have q1 := BB.out.now.2.1.cell1
    have q2 := BB.out.now.1.cell
    have q3 := BB.out.now.1.cell1
    cases b
    · go_wp2_with (go_at_call 122; (with_reducible refine (C1.out _).mono ?_); rintro e w5 ⟨rfl, rfl⟩)
      go_ret
      exact ⟨ret_int HE.out.symm, BB.out.below⟩
    · go_wp2_with (go_at_call 122; (with_reducible refine (C2.out _).mono ?_); rintro e w5 ⟨rfl, rfl⟩)
      go_ret
      exact ⟨ret_int HE.out.symm, BB.out.below⟩
  · have hd : (x == y) = false := by rw [beq_eq_false_iff_ne]; exact hxy
    have HE := Lib.hid (HD.out hxy)
    clear hxy HD HS
    by_cases hlt : x < y
    all_goals
      first
        | have d1 : decide (x < y) = true := decide_eq_true hlt
        | have d1 : decide (x < y) = false := decide_eq_false hlt
      have HF : Hid (cmpZ Z Y = if decide (x < y) then -1 else 1) := by show _ = _; rw [HE.out]; simp
      rw [d1] at HF
      go_enter Tryz.func108, Tryz.ntmps108
      go_wp2_with fail
      go_region_held3 (fun z => (z.cell? ⟨w.heap.size, 0, none⟩ = some (.bool b) ∧ z.cell? ⟨w.heap.size, 1, none⟩ = some (.string s) ∧ z.cell? ⟨w.heap.size + 1, 0, none⟩ = some (.bool b2) ∧ z.cell? ⟨w.heap.size + 1, 1, none⟩ = some (.string s2)) ∧ Bag w (fun z => Slot2 z (w.heap.size + 1) (.bool b2) (.string s2) ∧ Slot2 z w.heap.size (.bool b) (.string s) ∧ True) z)
        (first
          | (have B9 := BB.out.drew; exact ⟨⟨B9.now.2.1.cell, B9.now.2.1.cell1, B9.now.1.cell, B9.now.1.cell1⟩, B9⟩)
          | (have B9 := Bag.go (show Bag w (fun z => Slot2 z (w.heap.size + 1) (.bool b2) (.string s2) ∧ Slot2 z w.heap.size (.bool b) (.string s) ∧ True) _ from by go_split_ands; assumption) hb2; exact ⟨⟨B9.now.2.1.cell, B9.now.2.1.cell1, B9.now.1.cell, B9.now.1.cell1⟩, B9⟩))
        (first
          | (go_at_call 138; (with_reducible refine (S1.out _).mono ?_); rintro e w2 ⟨rfl, hb2⟩)
          | (go_at_call 138; (with_reducible refine (S2.out _).mono ?_); rintro e w2 ⟨rfl, hb2⟩))
      have BB := Lib.hid (show Bag w (fun z => Slot2 z (w.heap.size + 1) (.bool b2) (.string s2) ∧ Slot2 z w.heap.size (.bool b) (.string s) ∧ True) _ from by go_split_ands; assumption)
      go_wp2_with fail
      go_region_held3 (fun z => (z.cell? ⟨w.heap.size, 0, none⟩ = some (.bool b) ∧ z.cell? ⟨w.heap.size, 1, none⟩ = some (.string s) ∧ z.cell? ⟨w.heap.size + 1, 0, none⟩ = some (.bool b2) ∧ z.cell? ⟨w.heap.size + 1, 1, none⟩ = some (.string s2)) ∧ Bag w (fun z => Slot2 z (w.heap.size + 1) (.bool b2) (.string s2) ∧ Slot2 z w.heap.size (.bool b) (.string s) ∧ True) z)
        (first
          | (have B9 := BB.out.drew; exact ⟨⟨B9.now.2.1.cell, B9.now.2.1.cell1, B9.now.1.cell, B9.now.1.cell1⟩, B9⟩)
          | (have B9 := Bag.go (show Bag w (fun z => Slot2 z (w.heap.size + 1) (.bool b2) (.string s2) ∧ Slot2 z w.heap.size (.bool b) (.string s) ∧ True) _ from by go_split_ands; assumption) hb2; exact ⟨⟨B9.now.2.1.cell, B9.now.2.1.cell1, B9.now.1.cell, B9.now.1.cell1⟩, B9⟩))
        (first
          | (go_at_call 138; (with_reducible refine (S1.out _).mono ?_); rintro e w2 ⟨rfl, hb2⟩)
          | (go_at_call 138; (with_reducible refine (S2.out _).mono ?_); rintro e w2 ⟨rfl, hb2⟩))
      have BB := Lib.hid (show Bag w (fun z => Slot2 z (w.heap.size + 1) (.bool b2) (.string s2) ∧ Slot2 z w.heap.size (.bool b) (.string s) ∧ True) _ from by go_split_ands; assumption)
      go_wp2
      go_ret
      exact ⟨ret_int HF.out.symm, BB.out.below⟩

end Go.Proofs.YtgpcfncolhmgfaaGreatDoor

namespace Go.Proofs.YtgpcfncolhmgfaaGreatDoor
open Go.RowKit
attribute [local go_sem ↓] Go.wp_at_zero Go.wp_at_succ

def RX (y : World) (k : Nat) : Prop := ∃ x z, Slot2 y k x z
theorem RX.below {w w' : World} {k : Nat} (h : RX w k) (hb : Below w.heap.size w w') : RX w' k := by
  obtain ⟨x, z, h1⟩ := h; exact ⟨x, z, h1.below hb⟩
theorem Slot2.put2s {w : World} {k : Nat} {x z : Value} (h : Slot2 w k x z) (u v : Value) : Slot2 (put2 w k u v) k u v :=
  ⟨(h.set u v).1, (h.set u v).2, by simp [put2, h.free], by simp [put2, h.free1], by simpa [put2] using h.lt⟩
theorem Slot2.put2o {w : World} {k j : Nat} {x z : Value} (h1 : Slot2 w j x z) (e : j ≠ k) (u v : Value) : Slot2 (put2 w k u v) j x z := by
  refine ⟨?_, ?_, by simp [put2, h1.free], by simp [put2, h1.free1], by simpa [put2] using h1.lt⟩
  · unfold put2; rw [World.cell?_setCell_other _ _ _ _ (fun e' => by cases e' <;> exact e rfl), World.cell?_setCell_other _ _ _ _ (fun e' => by cases e' <;> exact e rfl)]; exact h1.cell
  · unfold put2; rw [World.cell?_setCell_other _ _ _ _ (fun e' => by cases e' <;> exact e rfl), World.cell?_setCell_other _ _ _ _ (fun e' => by cases e' <;> exact e rfl)]; exact h1.cell1
theorem RX.put2 {w : World} {k j : Nat} (h : RX w j) (u v : Value) : RX (put2 w k u v) j := by
  obtain ⟨x, z, h1⟩ := h
  by_cases e : j = k
  · subst e; exact ⟨_, _, h1.put2s u v⟩
  · exact ⟨_, _, h1.put2o e u v⟩
theorem Bag.put2 {w0 w : World} {P : World → Prop} (h : Bag w0 P w) {k : Nat} (hk : w0.heap.size ≤ k) {u v : Value} (hp : P w → P (put2 w k u v)) : Bag w0 P (put2 w k u v) :=
  ⟨(h.below.setCell hk _).setCell hk _, h.stay, hp h.now⟩

/-- Two numbers' blocks, and the answer's. -/
def BP (k : Nat) (b : Bool) (s : ByteArray) (b2 : Bool) (s2 : ByteArray) (y : World) : Prop := RX y (k + 1 + 1) ∧ Slot2 y (k + 1) (.bool b2) (.string s2) ∧ Slot2 y k (.bool b) (.string s)
theorem BP.stay {k : Nat} {b : Bool} {s : ByteArray} {b2 : Bool} {s2 : ByteArray} : ∀ x y, Below x.heap.size x y → BP k b s b2 s2 x → BP k b s b2 s2 y := fun _ _ hb h => ⟨h.1.below hb, h.2.1.below hb, h.2.2.below hb⟩
theorem BP.put2 {k : Nat} {b : Bool} {s : ByteArray} {b2 : Bool} {s2 : ByteArray} {y : World} (h : BP k b s b2 s2 y) (u v : Value) : BP k b s b2 s2 (put2 y (k + 1 + 1) u v) := ⟨h.1.put2 u v, h.2.1.put2o (by omega) u v, h.2.2.put2o (by omega) u v⟩
theorem BP.start (w : World) (b : Bool) (s : ByteArray) (b2 : Bool) (s2 : ByteArray) : Bag w (BP w.heap.size b s b2 s2) (((w.alloc (.cells #[.bool b, .string s] 56)).alloc (.cells #[.bool b2, .string s2] 56)).alloc (.cells #[.bool false, .string ⟨#[]⟩] 56)) := by
  have B0 := (((Bag.start w).box2 (.bool b) (.string s) 56).box2 (.bool b2) (.string s2) 56).box2 (.bool false) (.string ⟨#[]⟩) 56
  simp only [World.size_alloc] at B0
  exact ⟨B0.below, BP.stay, ⟨_, _, B0.now.1⟩, B0.now.2.1, B0.now.2.2.1⟩

theorem dl_add_le {x y k : Nat} (hx : dl x ≤ k) (hy : dl y ≤ k) : dl (x + y) ≤ k + 1 := by
  refine dl_le _ _ (by omega) ?_
  have h1 := dl_lt x
  have h2 := dl_lt y
  have h3 := Nat.pow_le_pow_right (show 0 < 10 by omega) hx
  have h4 := Nat.pow_le_pow_right (show 0 < 10 by omega) hy
  rw [Nat.pow_succ]; omega
theorem dl_mono {x y : Nat} (h : x ≤ y) : dl x ≤ dl y := dl_le _ _ (dl_pos y) (Nat.lt_of_le_of_lt h (dl_lt y))
theorem dl_mul_le {x y k m : Nat} (hx : dl x ≤ k) (hy : dl y ≤ m) : dl (x * y) ≤ k + m := by
  have h1 := dl_lt x
  have h2 := dl_lt y
  have h3 := Nat.pow_le_pow_right (show 0 < 10 by omega) hx
  have h4 := Nat.pow_le_pow_right (show 0 < 10 by omega) hy
  have := dl_pos x
  refine dl_le _ _ (by omega) ?_
  rw [Nat.pow_add]
  have a1 : x * y ≤ x * 10 ^ m := Nat.mul_le_mul_left _ (by omega)
  have a2 : x * 10 ^ m < 10 ^ k * 10 ^ m := Nat.mul_lt_mul_of_pos_right (by omega) (Nat.pow_pos (by omega))
  omega

set_option maxHeartbeats 1600000 in
set_option maxRecDepth 100000 in
theorem rAdd_same (Z Y : Int) (w : World) (hl : dl Z.natAbs ≤ 1000) (hl2 : dl Y.natAbs ≤ 1000) (hs : rB Z = rB Y) :
    Calls Tryz.prog 136 #[.agg #[.bool (rB Z), .string (rS Z)], .agg #[.bool (rB Y), .string (rS Y)]] w fun e w' => RTold w w' e (Z + Y) := by
  have hd : (rB Z == rB Y) = true := by rw [hs]; simp
  have hv : sgn (rB Z) (Z.natAbs + Y.natAbs) = Z + Y := by
    unfold rB at *
    by_cases h1 : Z < 0
    · rw [decide_eq_true h1] at hs ⊢
      have := of_decide_eq_true hs.symm
      simp [sgn]; omega
    · rw [decide_eq_false h1] at hs ⊢
      have := of_decide_eq_false hs.symm
      simp [sgn]; omega
  have OF : Hid (∀ wz, Calls Tryz.prog 24 #[.bool (rB Z), .string (str (dec (Z.natAbs + Y.natAbs)))] wz fun e w' => RTold wz w' e (Z + Y)) := by
    intro wz
    have h1 := rOf_dec (rB Z) (Z.natAbs + Y.natAbs) wz (by have := dl_add_le hl hl2; omega)
    rw [show sgn (rB Z) (Z.natAbs + Y.natAbs) = Z + Y from hv] at h1
    exact h1
  have C1 : Hid (∀ wz, Calls Tryz.prog 156 #[.string (rS Z), .string (rS Y)] wz fun e w' => e = .returned (.string (str (dec (Z.natAbs + Y.natAbs)))) ∧ Below wz.heap.size wz w') := fun wz => radd_any Z.natAbs (dl Z.natAbs) Y.natAbs (dl Y.natAbs) wz (dl_lt _) (dl_lt _) (by omega) (by omega)
  clear hs
  obtain ⟨V, hV⟩ : ∃ V, Z + Y = V := ⟨_, rfl⟩
  rw [hV] at OF ⊢
  obtain ⟨t, ht⟩ : ∃ t, str (dec (Z.natAbs + Y.natAbs)) = t := ⟨_, rfl⟩
  rw [ht] at OF C1
  clear hV ht hv
  generalize rB Z = b at *
  generalize rS Z = s at *
  generalize rB Y = b2 at *
  generalize rS Y = s2 at *
  clear hl hl2
  have BB := Lib.hid (BP.start w b s b2 s2)
  have q0 := BB.out.now.2.2.cell
  have q1 := BB.out.now.2.2.cell1
  have q2 := BB.out.now.2.1.cell
  have q3 := BB.out.now.2.1.cell1
  go_enter Tryz.func136, Tryz.ntmps136
  go_wp2_with fail
  go_region_held3 (fun y => (y.cell? ⟨w.heap.size, 0, none⟩ = some (.bool b) ∧ y.cell? ⟨w.heap.size, 1, none⟩ = some (.string s) ∧ y.cell? ⟨w.heap.size + 1, 0, none⟩ = some (.bool b2) ∧ y.cell? ⟨w.heap.size + 1, 1, none⟩ = some (.string s2)) ∧ Bag w (BP w.heap.size b s b2 s2) y)
    (first
      | (have B9 := BB.out.drew; exact ⟨⟨B9.now.2.2.cell, B9.now.2.2.cell1, B9.now.2.1.cell, B9.now.2.1.cell1⟩, B9⟩)
      | (have B9 := Bag.go (show Bag w (BP w.heap.size b s b2 s2) _ from by go_split_ands; assumption) hb2; exact ⟨⟨B9.now.2.2.cell, B9.now.2.2.cell1, B9.now.2.1.cell, B9.now.2.1.cell1⟩, B9⟩)
      | (have B9 := Bag.put2 (show Bag w (BP w.heap.size b s b2 s2) _ from by go_split_ands; assumption) (k := w.heap.size + 1 + 1) (u := .bool (rB V)) (v := .string (rS V)) (by omega) (fun h => h.put2 _ _); exact ⟨⟨B9.now.2.2.cell, B9.now.2.2.cell1, B9.now.2.1.cell, B9.now.2.1.cell1⟩, B9⟩))
    (first
      | (go_at_call 156; (with_reducible refine (C1.out _).mono ?_); rintro e w2 ⟨rfl, hb2⟩)
      | (go_at_call 24; (with_reducible refine (OF.out _).mono ?_); rintro e w2 ⟨rfl, hb2⟩; have B7 := Bag.go (show Bag w (BP w.heap.size b s b2 s2) _ from by go_split_ands; assumption) hb2; obtain ⟨x8, z8, hs8⟩ := B7.now.1; have hc1 := hs8.cell; have hc2 := hs8.cell1; have hf1 := hs8.free; have hf2 := hs8.free1; have HS := hs8.set (.bool (rB V)) (.string (rS V)); have HE := Lib.hid (RTold.fin (Y := V) B7.below (show w.heap.size ≤ w.heap.size + 1 + 1 by omega) rfl rfl); unfold put2 at HE; clear hs8 B7))
  go_wp2
  exact bodyPost_ret (v := .agg #[.bool (rB V), .string (rS V)]) (by simp [results, Tryz.results136, go_sem, HS]) rfl HE.out

set_option maxHeartbeats 1600000 in
set_option maxRecDepth 100000 in
theorem rAdd_less (Z Y : Int) (w : World) (hl : dl Z.natAbs ≤ 1000) (hl2 : dl Y.natAbs ≤ 1000) (hs : ¬ rB Z = rB Y) (hle : Y.natAbs ≤ Z.natAbs) :
    Calls Tryz.prog 136 #[.agg #[.bool (rB Z), .string (rS Z)], .agg #[.bool (rB Y), .string (rS Y)]] w fun e w' => RTold w w' e (Z + Y) := by
  have hd : (rB Z == rB Y) = false := by simpa using hs
  have hv : sgn (rB Z) (Z.natAbs - Y.natAbs) = Z + Y := by
    unfold rB at *
    by_cases h1 : Z < 0
    · rw [decide_eq_true h1] at hs
      by_cases h2 : Y < 0
      · rw [decide_eq_true h2] at hs; exact absurd rfl hs
      · first | rw [decide_eq_true h1] | rw [decide_eq_false h2]
        simp [sgn]; omega
    · rw [decide_eq_false h1] at hs
      by_cases h2 : Y < 0
      · first | rw [decide_eq_false h1] | rw [decide_eq_true h2]
        simp [sgn]; omega
      · rw [decide_eq_false h2] at hs; exact absurd rfl hs
  have CM : Hid (∀ wz, Calls Tryz.prog 122 #[.string (rS Z), .string (rS Y)] wz fun e w' => e = .returned (.int .i64 (cmpI Z.natAbs Y.natAbs)) ∧ wz = w') := fun wz => rcmp_any Z.natAbs Y.natAbs wz (by omega) (by omega)
  obtain ⟨cm, hcm⟩ : ∃ cm, cmpI Z.natAbs Y.natAbs = cm := ⟨_, rfl⟩
  rw [hcm] at CM
  have hge : 0 ≤ cm := by
    obtain ⟨k, hk⟩ := cmp_pos hle
    omega
  have d1 : decide (0 ≤ cm) = true := decide_eq_true hge
  have OF : Hid (∀ wz, Calls Tryz.prog 24 #[.bool (rB Z), .string (str (dec (Z.natAbs - Y.natAbs)))] wz fun e w' => RTold wz w' e (Z + Y)) := by
    intro wz
    have h1 := rOf_dec (rB Z) (Z.natAbs - Y.natAbs) wz (by have := dl_mono (Nat.sub_le Z.natAbs Y.natAbs); omega)
    rw [show sgn (rB Z) (Z.natAbs - Y.natAbs) = Z + Y from hv] at h1
    exact h1
  have C1 : Hid (∀ wz, Calls Tryz.prog 123 #[.string (rS Z), .string (rS Y)] wz fun e w' => e = .returned (.string (str (dec (Z.natAbs - Y.natAbs)))) ∧ Below wz.heap.size wz w') := fun wz => rsub_any Z.natAbs (dl Z.natAbs) Y.natAbs (dl Y.natAbs) wz (dl_lt _) (dl_lt _) (by omega) (by omega) hle
  clear hs hcm hle
  obtain ⟨V, hV⟩ : ∃ V, Z + Y = V := ⟨_, rfl⟩
  rw [hV] at OF ⊢
  obtain ⟨t, ht⟩ : ∃ t, str (dec (Z.natAbs - Y.natAbs)) = t := ⟨_, rfl⟩
  rw [ht] at OF C1
  clear hV ht hv
  generalize rB Z = b at *
  generalize rS Z = s at *
  generalize rB Y = b2 at *
  generalize rS Y = s2 at *
  clear hl hl2
  have BB := Lib.hid (BP.start w b s b2 s2)
  have q0 := BB.out.now.2.2.cell
  have q1 := BB.out.now.2.2.cell1
  have q2 := BB.out.now.2.1.cell
  have q3 := BB.out.now.2.1.cell1
  go_enter Tryz.func136, Tryz.ntmps136
  go_wp2_with (go_at_call 122; (with_reducible refine (CM.out _).mono ?_); rintro e w5 ⟨rfl, rfl⟩)
  go_region_held3 (fun y => (y.cell? ⟨w.heap.size, 0, none⟩ = some (.bool b) ∧ y.cell? ⟨w.heap.size, 1, none⟩ = some (.string s) ∧ y.cell? ⟨w.heap.size + 1, 0, none⟩ = some (.bool b2) ∧ y.cell? ⟨w.heap.size + 1, 1, none⟩ = some (.string s2)) ∧ Bag w (BP w.heap.size b s b2 s2) y)
    (first
      | (have B9 := BB.out.drew; exact ⟨⟨B9.now.2.2.cell, B9.now.2.2.cell1, B9.now.2.1.cell, B9.now.2.1.cell1⟩, B9⟩)
      | (have B9 := Bag.go (show Bag w (BP w.heap.size b s b2 s2) _ from by go_split_ands; assumption) hb2; exact ⟨⟨B9.now.2.2.cell, B9.now.2.2.cell1, B9.now.2.1.cell, B9.now.2.1.cell1⟩, B9⟩)
      | (have B9 := Bag.put2 (show Bag w (BP w.heap.size b s b2 s2) _ from by go_split_ands; assumption) (k := w.heap.size + 1 + 1) (u := .bool (rB V)) (v := .string (rS V)) (by omega) (fun h => h.put2 _ _); exact ⟨⟨B9.now.2.2.cell, B9.now.2.2.cell1, B9.now.2.1.cell, B9.now.2.1.cell1⟩, B9⟩))
    (first
      | (go_at_call 123; (with_reducible refine (C1.out _).mono ?_); rintro e w2 ⟨rfl, hb2⟩)
      | (go_at_call 24; (with_reducible refine (OF.out _).mono ?_); rintro e w2 ⟨rfl, hb2⟩; have B7 := Bag.go (show Bag w (BP w.heap.size b s b2 s2) _ from by go_split_ands; assumption) hb2; obtain ⟨x8, z8, hs8⟩ := B7.now.1; have hc1 := hs8.cell; have hc2 := hs8.cell1; have hf1 := hs8.free; have hf2 := hs8.free1; have HS := hs8.set (.bool (rB V)) (.string (rS V)); have HE := Lib.hid (RTold.fin (Y := V) B7.below (show w.heap.size ≤ w.heap.size + 1 + 1 by omega) rfl rfl); unfold put2 at HE; clear hs8 B7))
  go_wp2
  exact bodyPost_ret (v := .agg #[.bool (rB V), .string (rS V)]) (by simp [results, Tryz.results136, go_sem, HS]) rfl HE.out

set_option maxHeartbeats 1600000 in
set_option maxRecDepth 100000 in
theorem rAdd_more (Z Y : Int) (w : World) (hl : dl Z.natAbs ≤ 1000) (hl2 : dl Y.natAbs ≤ 1000) (hs : ¬ rB Z = rB Y) (hle : Z.natAbs < Y.natAbs) :
    Calls Tryz.prog 136 #[.agg #[.bool (rB Z), .string (rS Z)], .agg #[.bool (rB Y), .string (rS Y)]] w fun e w' => RTold w w' e (Z + Y) := by
  have hd : (rB Z == rB Y) = false := by simpa using hs
  have hv : sgn (rB Y) (Y.natAbs - Z.natAbs) = Z + Y := by
    unfold rB at *
    by_cases h1 : Z < 0
    · rw [decide_eq_true h1] at hs
      by_cases h2 : Y < 0
      · rw [decide_eq_true h2] at hs; exact absurd rfl hs
      · first | rw [decide_eq_true h1] | rw [decide_eq_false h2]
        simp [sgn]; omega
    · rw [decide_eq_false h1] at hs
      by_cases h2 : Y < 0
      · first | rw [decide_eq_false h1] | rw [decide_eq_true h2]
        simp [sgn]; omega
      · rw [decide_eq_false h2] at hs; exact absurd rfl hs
  have CM : Hid (∀ wz, Calls Tryz.prog 122 #[.string (rS Z), .string (rS Y)] wz fun e w' => e = .returned (.int .i64 (cmpI Z.natAbs Y.natAbs)) ∧ wz = w') := fun wz => rcmp_any Z.natAbs Y.natAbs wz (by omega) (by omega)
  obtain ⟨cm, hcm⟩ : ∃ cm, cmpI Z.natAbs Y.natAbs = cm := ⟨_, rfl⟩
  rw [hcm] at CM
  have hlt : cm = -1 := by rw [← hcm]; exact cmp_neg hle
  subst hlt
  have OF : Hid (∀ wz, Calls Tryz.prog 24 #[.bool (rB Y), .string (str (dec (Y.natAbs - Z.natAbs)))] wz fun e w' => RTold wz w' e (Z + Y)) := by
    intro wz
    have h1 := rOf_dec (rB Y) (Y.natAbs - Z.natAbs) wz (by have := dl_mono (Nat.sub_le Y.natAbs Z.natAbs); omega)
    rw [show sgn (rB Y) (Y.natAbs - Z.natAbs) = Z + Y from hv] at h1
    exact h1
  have C1 : Hid (∀ wz, Calls Tryz.prog 123 #[.string (rS Y), .string (rS Z)] wz fun e w' => e = .returned (.string (str (dec (Y.natAbs - Z.natAbs)))) ∧ Below wz.heap.size wz w') := fun wz => rsub_any Y.natAbs (dl Y.natAbs) Z.natAbs (dl Z.natAbs) wz (dl_lt _) (dl_lt _) (by omega) (by omega) (by omega)
  clear hs hcm hle
  obtain ⟨V, hV⟩ : ∃ V, Z + Y = V := ⟨_, rfl⟩
  rw [hV] at OF ⊢
  obtain ⟨t, ht⟩ : ∃ t, str (dec (Y.natAbs - Z.natAbs)) = t := ⟨_, rfl⟩
  rw [ht] at OF C1
  clear hV ht hv
  generalize rB Z = b at *
  generalize rS Z = s at *
  generalize rB Y = b2 at *
  generalize rS Y = s2 at *
  clear hl hl2
  have BB := Lib.hid (BP.start w b s b2 s2)
  have q0 := BB.out.now.2.2.cell
  have q1 := BB.out.now.2.2.cell1
  have q2 := BB.out.now.2.1.cell
  have q3 := BB.out.now.2.1.cell1
  go_enter Tryz.func136, Tryz.ntmps136
  go_wp2_with (go_at_call 122; (with_reducible refine (CM.out _).mono ?_); rintro e w5 ⟨rfl, rfl⟩)
  go_region_held3 (fun y => (y.cell? ⟨w.heap.size, 0, none⟩ = some (.bool b) ∧ y.cell? ⟨w.heap.size, 1, none⟩ = some (.string s) ∧ y.cell? ⟨w.heap.size + 1, 0, none⟩ = some (.bool b2) ∧ y.cell? ⟨w.heap.size + 1, 1, none⟩ = some (.string s2)) ∧ Bag w (BP w.heap.size b s b2 s2) y)
    (first
      | (have B9 := BB.out.drew; exact ⟨⟨B9.now.2.2.cell, B9.now.2.2.cell1, B9.now.2.1.cell, B9.now.2.1.cell1⟩, B9⟩)
      | (have B9 := Bag.go (show Bag w (BP w.heap.size b s b2 s2) _ from by go_split_ands; assumption) hb2; exact ⟨⟨B9.now.2.2.cell, B9.now.2.2.cell1, B9.now.2.1.cell, B9.now.2.1.cell1⟩, B9⟩)
      | (have B9 := Bag.put2 (show Bag w (BP w.heap.size b s b2 s2) _ from by go_split_ands; assumption) (k := w.heap.size + 1 + 1) (u := .bool (rB V)) (v := .string (rS V)) (by omega) (fun h => h.put2 _ _); exact ⟨⟨B9.now.2.2.cell, B9.now.2.2.cell1, B9.now.2.1.cell, B9.now.2.1.cell1⟩, B9⟩))
    (first
      | (go_at_call 123; (with_reducible refine (C1.out _).mono ?_); rintro e w2 ⟨rfl, hb2⟩)
      | (go_at_call 24; (with_reducible refine (OF.out _).mono ?_); rintro e w2 ⟨rfl, hb2⟩; have B7 := Bag.go (show Bag w (BP w.heap.size b s b2 s2) _ from by go_split_ands; assumption) hb2; obtain ⟨x8, z8, hs8⟩ := B7.now.1; have hc1 := hs8.cell; have hc2 := hs8.cell1; have hf1 := hs8.free; have hf2 := hs8.free1; have HS := hs8.set (.bool (rB V)) (.string (rS V)); have HE := Lib.hid (RTold.fin (Y := V) B7.below (show w.heap.size ≤ w.heap.size + 1 + 1 by omega) rfl rfl); unfold put2 at HE; clear hs8 B7))
  go_wp2
  exact bodyPost_ret (v := .agg #[.bool (rB V), .string (rS V)]) (by simp [results, Tryz.results136, go_sem, HS]) rfl HE.out

set_option maxHeartbeats 1600000 in
set_option maxRecDepth 100000 in
theorem rMul_any (Z Y : Int) (w : World) (hl : dl Z.natAbs ≤ 1000) (hl2 : dl Y.natAbs ≤ 1000)  :
    Calls Tryz.prog 86 #[.agg #[.bool (rB Z), .string (rS Z)], .agg #[.bool (rB Y), .string (rS Y)]] w fun e w' => RTold w w' e (Z * Y) := by
  have hv : sgn (rB Z != rB Y) (Z.natAbs * Y.natAbs) = Z * Y := sgn_mul Z Y
  have OF : Hid (∀ wz, Calls Tryz.prog 24 #[.bool (rB Z != rB Y), .string (str (dec (Z.natAbs * Y.natAbs)))] wz fun e w' => RTold wz w' e (Z * Y)) := by
    intro wz
    have h1 := rOf_dec (rB Z != rB Y) (Z.natAbs * Y.natAbs) wz (by have := dl_mul_le hl hl2; omega)
    rw [show sgn (rB Z != rB Y) (Z.natAbs * Y.natAbs) = Z * Y from hv] at h1
    exact h1
  have C1 : Hid (∀ wz, Calls Tryz.prog 118 #[.string (rS Z), .string (rS Y)] wz fun e w' => e = .returned (.string (str (dec (Z.natAbs * Y.natAbs)))) ∧ Below wz.heap.size wz w') := fun wz => rmul_any Z.natAbs (dl Z.natAbs) Y.natAbs (dl Y.natAbs) wz (dl_lt _) (dl_lt _) (by omega) (by omega)
  obtain ⟨mm, hmm⟩ : ∃ mm, (!(rB Z == rB Y)) = mm := ⟨_, rfl⟩
  rw [show (rB Z != rB Y) = mm from hmm] at OF
  obtain ⟨V, hV⟩ : ∃ V, Z * Y = V := ⟨_, rfl⟩
  rw [hV] at OF ⊢
  obtain ⟨t, ht⟩ : ∃ t, str (dec (Z.natAbs * Y.natAbs)) = t := ⟨_, rfl⟩
  rw [ht] at OF C1
  clear hV ht hv
  generalize rB Z = b at *
  generalize rS Z = s at *
  generalize rB Y = b2 at *
  generalize rS Y = s2 at *
  clear hl hl2
  have BB := Lib.hid (BP.start w b s b2 s2)
  have q0 := BB.out.now.2.2.cell
  have q1 := BB.out.now.2.2.cell1
  have q2 := BB.out.now.2.1.cell
  have q3 := BB.out.now.2.1.cell1
  go_enter Tryz.func86, Tryz.ntmps86
  go_wp2_with fail
  go_region_held3 (fun y => (y.cell? ⟨w.heap.size, 0, none⟩ = some (.bool b) ∧ y.cell? ⟨w.heap.size, 1, none⟩ = some (.string s) ∧ y.cell? ⟨w.heap.size + 1, 0, none⟩ = some (.bool b2) ∧ y.cell? ⟨w.heap.size + 1, 1, none⟩ = some (.string s2)) ∧ Bag w (BP w.heap.size b s b2 s2) y)
    (first
      | (have B9 := BB.out.drew; exact ⟨⟨B9.now.2.2.cell, B9.now.2.2.cell1, B9.now.2.1.cell, B9.now.2.1.cell1⟩, B9⟩)
      | (have B9 := Bag.go (show Bag w (BP w.heap.size b s b2 s2) _ from by go_split_ands; assumption) hb2; exact ⟨⟨B9.now.2.2.cell, B9.now.2.2.cell1, B9.now.2.1.cell, B9.now.2.1.cell1⟩, B9⟩)
      | (have B9 := Bag.put2 (show Bag w (BP w.heap.size b s b2 s2) _ from by go_split_ands; assumption) (k := w.heap.size + 1 + 1) (u := .bool (rB V)) (v := .string (rS V)) (by omega) (fun h => h.put2 _ _); exact ⟨⟨B9.now.2.2.cell, B9.now.2.2.cell1, B9.now.2.1.cell, B9.now.2.1.cell1⟩, B9⟩))
    (first
      | (go_at_call 118; (with_reducible refine (C1.out _).mono ?_); rintro e w2 ⟨rfl, hb2⟩)
      | (go_at_call 24; (with_reducible refine (OF.out _).mono ?_); rintro e w2 ⟨rfl, hb2⟩; have B7 := Bag.go (show Bag w (BP w.heap.size b s b2 s2) _ from by go_split_ands; assumption) hb2; obtain ⟨x8, z8, hs8⟩ := B7.now.1; have hc1 := hs8.cell; have hc2 := hs8.cell1; have hf1 := hs8.free; have hf2 := hs8.free1; have HS := hs8.set (.bool (rB V)) (.string (rS V)); have HE := Lib.hid (RTold.fin (Y := V) B7.below (show w.heap.size ≤ w.heap.size + 1 + 1 by omega) rfl rfl); unfold put2 at HE; clear hs8 B7))
  go_wp2
  exact bodyPost_ret (v := .agg #[.bool (rB V), .string (rS V)]) (by simp [results, Tryz.results86, go_sem, HS]) rfl HE.out

theorem rAdd_any (Z Y : Int) (w : World) (hl : dl Z.natAbs ≤ 1000) (hl2 : dl Y.natAbs ≤ 1000) :
    Calls Tryz.prog 136 #[.agg #[.bool (rB Z), .string (rS Z)], .agg #[.bool (rB Y), .string (rS Y)]] w fun e w' => RTold w w' e (Z + Y) := by
  by_cases hs : rB Z = rB Y
  · exact rAdd_same Z Y w hl hl2 hs
  · rcases Nat.lt_or_ge Z.natAbs Y.natAbs with h | h
    · exact rAdd_more Z Y w hl hl2 hs h
    · exact rAdd_less Z Y w hl hl2 hs h

end Go.Proofs.YtgpcfncolhmgfaaGreatDoor

namespace Go.Proofs.YtgpcfncolhmgfaaGreatDoor
open Go.RowKit
attribute [local go_sem ↓] Go.wp_at_zero Go.wp_at_succ

/-- Does a text begin with a hyphen, and what stands behind it. -/
def rdN (l : List UInt8) : Bool := l.head? == some 45
def rdL (l : List UInt8) : List UInt8 := if rdN l then l.tail else l
def rdO (l : List UInt8) : Bool := okB (rdL l)
def rdZ (l : List UInt8) : Int := if rdO l then sgn (rdN l) (numOf (rdL l)) else 0

/-- What Read tells. -/
def ReadR (w w' : World) (e : Ending) (l : List UInt8) : Prop := e = .returned (.tuple #[.agg #[.bool (rB (rdZ l)), .string (rS (rdZ l))], .bool (rdO l)]) ∧ Below w.heap.size w w'

end Go.Proofs.YtgpcfncolhmgfaaGreatDoor

