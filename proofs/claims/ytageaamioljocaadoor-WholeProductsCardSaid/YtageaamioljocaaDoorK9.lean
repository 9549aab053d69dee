/-
  Package typeballlaw02: awake returns true (the chapter's examples).
  Package typeballlaw02: read, by contract.
  Package typeballlaw02: what the laws of two and three numbers have in common.
  Ways between worlds: what lies below is kept through several steps; a row of one or two integers that was made some steps ago.
-/
import Derived.Test.YtageaamioljocaaDoorWh8
import Derived.Test.YtageaamioljocaaDoorWh9
import Derived.Test.YtageaamioljocaaDoorWh10
import Derived.Test.YtageaamioljocaaDoorK8
import Derived.Test.YtageaamioljocaaDoorK6
namespace Go.Proofs.YtageaamioljocaaDoor
open Go.RowKit
attribute [local go_sem ↓] Go.wp_at_zero Go.wp_at_succ

theorem floor_any (a : Option Addr) (n c : Nat) (m : Bool) (Z : Int) (a2 : Option Addr) (n2 c2 : Nat) (m2 : Bool) (Y : Int) (w : World) (h : IntAt w a n c m Z) (g : IntAt w a2 n2 c2 m2 Y) (K : Nat) (hK : K ≤ 800000) (hZ : Z.natAbs < 4294967296 ^ K) (hY : Y ≠ 0) :
    Calls Tryd.prog 13 #[.agg #[.slice a n c, .bool m], .agg #[.slice a2 n2 c2, .bool m2]] w fun e w' => FloorTold w w' e (flQ Z Y) (flR Z Y) := by
  cases hap : (m != m2) with
  | false => exact floor_same a n c m Z a2 n2 c2 m2 Y w h g K hK hZ hY hap
  | true =>
    by_cases hr : Z.natAbs % Y.natAbs = 0
    · exact floor_even a n c m Z a2 n2 c2 m2 Y w h g K hK hZ hY hap hr
    · exact floor_odd a n c m Z a2 n2 c2 m2 Y w h g K hK hZ hY hap hr

theorem fl1 : flQ (-7) 2 = -4 ∧ flR (-7) 2 = 1 ∧ flQ 7 (-2) = -4 ∧ flR 7 (-2) = -1 := by decide
theorem digs4 : digS (-4) ⟨#[45]⟩ = ⟨#[45, 52]⟩ := by
  unfold digS; rw [if_pos (by omega), show (-4 : Int).natAbs = 4 from rfl, dec_small (by omega)]; rfl
theorem digs1 : digS 1 ⟨#[45]⟩ = ⟨#[49]⟩ := by
  unfold digS; rw [if_neg (by omega), show (1 : Int).natAbs = 1 from rfl, dec_small (by omega)]; rfl
theorem digsm1 : digS (-1) ⟨#[45]⟩ = ⟨#[45, 49]⟩ := by
  unfold digS; rw [if_pos (by omega), show (-1 : Int).natAbs = 1 from rfl, dec_small (by omega)]; rfl

theorem digits_small (a : Option Addr) (n c : Nat) (m : Bool) (Z : Int) (t : ByteArray) (w : World) (h : IntAt w a n c m Z) (hz : Z.natAbs < 10) (ht : digS Z ⟨#[45]⟩ = t) :
    Calls Tryd.prog 8 #[.agg #[.slice a n c, .bool m], .string ⟨#[45]⟩] w fun e w' => e = .returned (.string t) ∧ Below w.heap.size w w' := by
  have := digits_any a n c m Z ⟨#[45]⟩ w h 1 (by omega) (by rw [Nat.pow_one]; omega) (by decide) (by have := dl_le Z.natAbs 1 (by omega) (by omega); omega)
  rw [ht] at this; exact this

set_option maxHeartbeats 1600000 in
set_option maxRecDepth 100000 in
theorem awake2_any (w : World) : Calls Tryd.prog 6 #[] w fun e w' => e = .returned (.bool true) ∧ Below w.heap.size w w' := by
  have FR := Lib.hid (fun X wz h => from_any X wz h)
  have FL := Lib.hid (fun a n c m Z a2 n2 c2 m2 Y wz h g hZ hY => floor_any a n c m Z a2 n2 c2 m2 Y wz h g 1 (by omega) hZ hY)
  go_enter Tryd.func6, Tryd.ntmps6
  go_wp2_with fail
  go_at_call 23
  refine (FR.out (-7) _ (by omega)).mono ?_
  rintro e w1 ⟨a1, n1, c1, m1, rfl, hi1, hb1⟩
  have BB := Lib.hid (((Bag.start w).go hb1).int hi1)
  clear hi1 hb1
  go_wp2_with fail
  go_at_call 23
  refine (FR.out 2 _ (by omega)).mono ?_
  rintro e w2 ⟨a2, n2, c2, m2, rfl, hi2, hb2⟩
  have BB := Lib.hid ((BB.out.go hb2).int hi2)
  clear hi2 hb2
  go_wp2_with fail
  go_at_call 13
  refine (FL.out _ _ _ _ (-7) _ _ _ _ 2 _ BB.out.now.2.1 BB.out.now.1 (by rw [Nat.pow_one]; decide) (by decide)).mono ?_
  rintro e w3 ⟨a3, n3, c3, m3, a4, n4, c4, m4, rfl, hi3, hi4, hb3⟩
  rw [fl1.1] at hi3
  rw [fl1.2.1] at hi4
  have B3 := (((((Bag.start w).go (BB.out.go hb3).below).int hi3).int hi4).box2 (.slice a3 n3 c3) (.bool m3) 26).box2 (.slice a4 n4 c4) (.bool m4) 26
  rw [World.size_alloc] at B3
  have BB := Lib.hid B3
  clear hi3 hi4 hb3 B3
  go_wp2_with fail
  go_at_call 23
  refine (FR.out 7 _ (by omega)).mono ?_
  rintro e w4 ⟨a5, n5, c5, m5, rfl, hi5, hb4⟩
  have BB := Lib.hid ((BB.out.go hb4).int hi5)
  clear hi5 hb4
  go_wp2_with fail
  go_at_call 23
  refine (FR.out (-2) _ (by omega)).mono ?_
  rintro e w5 ⟨a6, n6, c6, m6, rfl, hi6, hb5⟩
  have BB := Lib.hid ((BB.out.go hb5).int hi6)
  clear hi6 hb5
  go_wp2_with fail
  go_at_call 13
  refine (FL.out _ _ _ _ 7 _ _ _ _ (-2) _ BB.out.now.2.1 BB.out.now.1 (by rw [Nat.pow_one]; decide) (by decide)).mono ?_
  rintro e w6 ⟨a7, n7, c7, m7, a8, n8, c8, m8, rfl, hi7, hi8, hb6⟩
  rw [fl1.2.2.1] at hi7
  rw [fl1.2.2.2] at hi8
  have B6 := ((((BB.out.go hb6).int hi7).int hi8).box2 (.slice a7 n7 c7) (.bool m7) 26).box2 (.slice a8 n8 c8) (.bool m8) 26
  rw [World.size_alloc] at B6
  have BB := Lib.hid B6
  clear hi7 hi8 hb6 B6
  have q0 := BB.out.now.2.2.2.2.2.2.2.1.cell
  have q1 := BB.out.now.2.2.2.2.2.2.2.1.cell1
  go_wp2_with fail
  go_at_call 8
  refine (digits_small a3 n3 c3 m3 (-4) ⟨#[45, 52]⟩ _ BB.out.now.2.2.2.2.2.2.2.2.2.1 (by decide) digs4).mono ?_
  rintro e w7 ⟨rfl, hb7⟩
  have BB := Lib.hid (BB.out.go hb7)
  clear hb7 q0 q1
  have q0 := BB.out.now.2.2.2.2.2.2.1.cell
  have q1 := BB.out.now.2.2.2.2.2.2.1.cell1
  go_wp2_with fail
  go_at_call 8
  refine (digits_small a4 n4 c4 m4 1 ⟨#[49]⟩ _ BB.out.now.2.2.2.2.2.2.2.2.1 (by decide) digs1).mono ?_
  rintro e w8 ⟨rfl, hb7⟩
  have BB := Lib.hid (BB.out.go hb7)
  clear hb7 q0 q1
  have q0 := BB.out.now.2.1.cell
  have q1 := BB.out.now.2.1.cell1
  go_wp2_with fail
  go_at_call 8
  refine (digits_small a7 n7 c7 m7 (-4) ⟨#[45, 52]⟩ _ BB.out.now.2.2.2.1 (by decide) digs4).mono ?_
  rintro e w9 ⟨rfl, hb7⟩
  have BB := Lib.hid (BB.out.go hb7)
  clear hb7 q0 q1
  have q0 := BB.out.now.1.cell
  have q1 := BB.out.now.1.cell1
  go_wp2_with fail
  go_at_call 8
  refine (digits_small a8 n8 c8 m8 (-1) ⟨#[45, 49]⟩ _ BB.out.now.2.2.1 (by decide) digsm1).mono ?_
  rintro e w10 ⟨rfl, hb7⟩
  have BB := Lib.hid (BB.out.go hb7)
  clear hb7 q0 q1
  go_wp2
  go_ret
  exact ⟨rfl, BB.out.below⟩

end Go.Proofs.YtageaamioljocaaDoor

namespace Go.Proofs.YtageaamioljocaaDoor
open Go.RowKit
attribute [local go_sem ↓] Go.wp_at_zero Go.wp_at_succ

def rdK (s : ByteArray) : Bool := rdO s.data.toList && decide (s.size ≤ 100)
def ReadW (w w' : World) (e : Ending) (Z : Int) (k : Bool) : Prop := ∃ a n c m, e = .returned (.tuple #[.agg #[.slice a n c, .bool m], .agg #[.bool (rB Z), .string (rS Z)], .bool k]) ∧ IntAt w' a n c m Z ∧ Below w.heap.size w w'

theorem rdZ_abs (l : List UInt8) : ∀ k, k = 2000 → (rdZ l).natAbs < 10 ^ k := by
  intro k hk
  unfold rdZ
  cases h : rdO l with
  | false => rw [if_neg (by decide)]; exact Nat.pow_pos (by omega)
  | true =>
    obtain ⟨g1, g2, g3⟩ := okB_digs h
    rw [if_pos rfl, sgn_abs]
    exact Nat.lt_of_lt_of_le (numOf_lt _ g3) (Nat.pow_le_pow_right (by omega) (by omega))
theorem rdZ_small {s : ByteArray} (h : rdK s = true) : (rdZ s.data.toList).natAbs < 10 ^ 100 := by
  unfold rdK at h
  rw [Bool.and_eq_true, decide_eq_true_eq] at h
  unfold rdZ
  obtain ⟨g1, g2, g3⟩ := okB_digs h.1
  rw [h.1, if_pos rfl, sgn_abs]
  refine Nat.lt_of_lt_of_le (numOf_lt _ g3) (Nat.pow_le_pow_right (by omega) ?_)
  have h2 : s.data.toList.length = s.size := rfl
  have h3 : (rdL s.data.toList).length ≤ s.data.toList.length := by
    unfold rdL; split
    · rw [List.length_tail]; omega
    · exact Nat.le_refl _
  omega
theorem dec_okB {N : Nat} (h : dl N ≤ 2000) : okB (dec N) = true := by
  refine okB_mk ?_ ?_ (dec_dig N)
  · unfold dec; rw [sdig_length]; exact dl_pos N
  · unfold dec; rw [sdig_length]; exact h
theorem parse_dec (N : Nat) (w : World) (h : dl N ≤ 2000) : Calls Tryd.prog 21 #[.string (str (dec N))] w fun e w' => SubOf3 w w' e N true := by
  refine (parse_any (str (dec N)) w (by unfold maxLen; rw [str_size]; unfold dec; rw [sdig_length]; omega)).mono ?_
  rintro e w' ⟨a, n, c, rfl, hv, _, hb⟩
  have h1 : okB (str (dec N)).data.toList = true := dec_okB h
  have h2 : numOf (str (dec N)).data.toList = N := numOf_dec N
  rw [h1, if_pos rfl, h2] at hv
  exact ⟨a, n, c, by rw [h1], hv, hb⟩

/-- The block of a whole number of the document's answers. -/
def RT (y : World) (k : Nat) : Prop := ∃ b t, Slot2 y k (.bool b) (.string t)
theorem RT.below {w w' : World} {k : Nat} (h : RT w k) (hb : Below w.heap.size w w') : RT w' k := by
  obtain ⟨x, z, h1⟩ := h; exact ⟨x, z, h1.below hb⟩
theorem RT.put2 {w : World} {k : Nat} (h : RT w k) (b : Bool) (t : ByteArray) : RT (put2 w k (.bool b) (.string t)) k := by
  obtain ⟨x, z, h1⟩ := h; exact ⟨_, _, h1.put2s _ _⟩
theorem RT.putI {w : World} {k j : Nat} (h : RT w j) (e : j ≠ k) (a : Option Addr) (n c : Nat) (b : Bool) : RT (putI w k a n c b) j := by
  obtain ⟨x, z, h1⟩ := h; exact ⟨_, _, h1.put2o e _ _⟩
theorem NatIs.put2r {w : World} {k : Nat} {v : Value} {N : Nat} (q : NatIs w v N) (h : RT w k) (b : Bool) (t : ByteArray) : NatIs (put2 w k (.bool b) (.string t)) v N := by
  obtain ⟨x, z, h1⟩ := h
  refine (q.storeAt h1.cell (fun _ _ h => by cases h) _).storeAt (x := .string z) ?_ (fun _ _ h => by cases h) _
  rw [World.cell?_setCell_other _ _ _ _ (fun e => by cases e)]
  exact h1.cell1

/-- What read keeps. -/
def LP (k0 k5 k7 : Nat) (b : Bool) (d : ByteArray) (a : Option Addr) (n c N : Nat) (y : World) : Prop := RS y k0 ∧ RT y (k0 + 1) ∧ Slot2 y k5 (.bool b) (.string d) ∧ Slot y k7 (.slice a n c) ∧ NatIs y (.agg #[.slice a n c]) N
theorem LP.stay {k0 k5 k7 : Nat} {b : Bool} {d : ByteArray} {a : Option Addr} {n c N : Nat} : ∀ x y, Below x.heap.size x y → LP k0 k5 k7 b d a n c N x → LP k0 k5 k7 b d a n c N y :=
  fun _ _ hb h => ⟨h.1.below hb, h.2.1.below hb, h.2.2.1.below hb, h.2.2.2.1.below hb, h.2.2.2.2.below hb⟩

theorem RS.put2b {w : World} {k j : Nat} (h : RS w j) (e : j ≠ k) (u v : Value) : RS (put2 w k u v) j := by
  obtain ⟨x, b, h1, h2⟩ := h; exact ⟨x, b, h1.put2o e u v, h2⟩
theorem Slot.put2o {w : World} {k j : Nat} {x : Value} (h : Slot w j x) (e : j ≠ k) (u v : Value) : Slot (put2 w k u v) j x := by
  refine ⟨?_, by simp [put2, h.free], by simpa [put2] using h.lt⟩
  unfold put2; rw [World.cell?_setCell_other _ _ _ _ (fun e' => by cases e' <;> exact e rfl), World.cell?_setCell_other _ _ _ _ (fun e' => by cases e' <;> exact e rfl)]; exact h.cell

set_option linter.unusedSimpArgs false in
set_option maxHeartbeats 3200000 in
set_option maxRecDepth 100000 in
theorem lread_any (s : ByteArray) (w : World) (hs : s.size ≤ maxLen) : Calls Tryd.prog 5 #[.string s] w fun e w' => ReadW w w' e (rdZ s.data.toList) (rdK s) := by
  have RR := Lib.hid (fun wz => rRead_any s wz hs)
  obtain ⟨K, hK⟩ : ∃ K, K = 2000 := ⟨_, rfl⟩
  have hZ := rdZ_abs s.data.toList K hK
  unfold ReadR at RR
  obtain ⟨Z, hZe⟩ : ∃ Z, rdZ s.data.toList = Z := ⟨_, rfl⟩
  obtain ⟨o, ho⟩ : ∃ o, rdO s.data.toList = o := ⟨_, rfl⟩
  have hk : rdK s = (o && decide (s.size ≤ 100)) := by unfold rdK; rw [ho]
  rw [hZe] at RR hZ ⊢
  rw [ho] at RR
  rw [hk]
  have hdl : dl Z.natAbs ≤ 2000 := Nat.le_trans (dl_le _ K (by omega) hZ) (by omega)
  have PD : Hid (∀ wz, Calls Tryd.prog 21 #[.string (rS Z)] wz fun e w' => SubOf3 wz w' e Z.natAbs true) := fun wz => parse_dec Z.natAbs wz hdl
  have OF : Hid (∀ a n c wz, NatIs wz (.agg #[.slice a n c]) Z.natAbs → Calls Tryd.prog 22 #[.bool (rB Z), .agg #[.slice a n c]] wz fun e w' => IntTold wz w' e Z) := by
    intro a n c wz hi
    have := wof_any (rB Z) a n c _ wz hi
    rw [show sgn (rB Z) Z.natAbs = Z from sgn_self Z] at this
    exact this
  obtain ⟨N, hN⟩ : ∃ N, Z.natAbs = N := ⟨_, rfl⟩
  rw [hN] at PD OF
  obtain ⟨b, hbz⟩ : ∃ b, rB Z = b := ⟨_, rfl⟩
  obtain ⟨d, hdz⟩ : ∃ d, rS Z = d := ⟨_, rfl⟩
  rw [hbz] at RR OF
  rw [hdz] at RR PD
  have HBZ : Hid (rB Z = b ∧ rS Z = d) := ⟨hbz, hdz⟩
  clear hbz hdz
  unfold maxLen at hs
  have B0 := ((Bag.start w).box2 (.slice none 0 0) (.bool false) 26).box2 (.bool false) (.string ⟨#[]⟩) 28
  rw [World.size_alloc] at B0
  have BB := Lib.hid B0
  clear B0 hZ hZe ho hk hdl hN
  cases o with
  | true =>
    obtain ⟨g, hg⟩ : ∃ g, decide (s.size ≤ 100) = g := ⟨_, rfl⟩
    have hg2 : decide ((s.size : Int) ≤ 100) = g := by rw [← hg]; simp; omega
    rw [Bool.true_and, hg]
    clear hg
    go_enter Tryd.func5, Tryd.ntmps5
    go_wp2_with fail
    go_at_call 20
    (with_reducible refine (RR.out _).mono ?_)
    rintro e w1 ⟨rfl, hb1⟩
    have BB := Lib.hid ((BB.out.go hb1).box2 (.bool b) (.string d) 28)
    have hk5 : w.heap.size + 1 < w1.heap.size := by have := hb1.size; simp at this; omega
    clear hb1
    have q0 := BB.out.now.1.cell
    have q1 := BB.out.now.1.cell1
    go_wp2_with fail
    go_at_call 21
    (with_reducible refine (PD.out _).mono ?_)
    rintro e w2 ⟨a, n, c, rfl, hi2, hb2⟩
    have hk7 : w1.heap.size < w2.heap.size := (BB.out.go hb2).now.1.lt
    have B2 := ((BB.out.go hb2).nat hi2).box (.slice a n c) 24
    have BB : Hid (Bag w (LP w.heap.size w1.heap.size w2.heap.size b d a n c N) _) := ⟨B2.below, LP.stay, B2.now.2.2.2.2.1.rs, ⟨_, _, B2.now.2.2.2.1⟩, B2.now.2.2.1, B2.now.1, B2.now.2.1⟩
    clear hi2 hb2 q0 q1 B2
    go_wp2_with fail
    go_region_held3 (fun y => (y.cell? ⟨w1.heap.size, 0, none⟩ = some (.bool b) ∧ y.cell? ⟨w1.heap.size, 1, none⟩ = some (.string d) ∧ y.cell? ⟨w2.heap.size, 0, none⟩ = some (.slice a n c)) ∧ Bag w (LP w.heap.size w1.heap.size w2.heap.size b d a n c N) y)
      (first
        | (have B9 := BB.out.drew; exact ⟨⟨B9.now.2.2.1.cell, B9.now.2.2.1.cell1, B9.now.2.2.2.1.cell⟩, B9⟩)
        | (have B9 := Bag.go (show Bag w (LP w.heap.size w1.heap.size w2.heap.size b d a n c N) _ from by go_split_ands; assumption) hb2; exact ⟨⟨B9.now.2.2.1.cell, B9.now.2.2.1.cell1, B9.now.2.2.2.1.cell⟩, B9⟩)
        | (have B9 := Bag.put (show Bag w (LP w.heap.size w1.heap.size w2.heap.size b d a n c N) _ from by go_split_ands; assumption) (k := w.heap.size) (a := a5) (n := n5) (c := c5) (b := m5) (Nat.le_refl _) (fun h => ⟨h.1.put _ _ _ _, h.2.1.putI (by omega) _ _ _ _, h.2.2.1.put (by omega) _ _ _ _, h.2.2.2.1.put (by omega) _ _ _ _, h.2.2.2.2.put h.1 _ _ _ _⟩); exact ⟨⟨B9.now.2.2.1.cell, B9.now.2.2.1.cell1, B9.now.2.2.2.1.cell⟩, B9⟩)
        | (exact ⟨⟨B8.out.now.2.2.1.cell, B8.out.now.2.2.1.cell1, B8.out.now.2.2.2.1.cell⟩, B8.out⟩))
      (first
        | (go_at_call 22; (with_reducible refine (OF.out a n c _ ?_).mono ?_); exact (show Bag w (LP w.heap.size w1.heap.size w2.heap.size b d a n c N) _ from by go_split_ands; assumption).now.2.2.2.2; rintro e w3 ⟨a5, n5, c5, m5, rfl, hi5, hb2⟩; have B7 := Bag.go (show Bag w (LP w.heap.size w1.heap.size w2.heap.size b d a n c N) _ from by go_split_ands; assumption) hb2; obtain ⟨x8, b8, hs8, _⟩ := B7.now.1; obtain ⟨x9, z9, hs9⟩ := B7.now.2.1; have hc1 := hs8.cell; have hc2 := hs8.cell1; have hc3 := hs9.cell; have hc4 := hs9.cell1; have hf1 := hs8.free; have hf2 := hs8.free1; have hf3 := hs9.free; have hf4 := hs9.free1; have q0 := B7.now.2.2.1.cell; have q1 := B7.now.2.2.1.cell1; have BA := B7.put (k := w.heap.size) (a := a5) (n := n5) (c := c5) (b := m5) (Nat.le_refl _) (fun h => ⟨h.1.put _ _ _ _, h.2.1.putI (by omega) _ _ _ _, h.2.2.1.put (by omega) _ _ _ _, h.2.2.2.1.put (by omega) _ _ _ _, h.2.2.2.2.put h.1 _ _ _ _⟩); have B8 := Lib.hid (BA.put2 (k := w.heap.size + 1) (u := .bool b) (v := .string d) (by omega) (fun h => ⟨h.1.put2b (by omega) _ _, h.2.1.put2 _ _, h.2.2.1.put2o (by omega) _ _, h.2.2.2.1.put2o (by omega) _ _, h.2.2.2.2.put2r h.2.1 _ _⟩)); have HA := (B7.now.1.slotted a5 n5 c5 m5).put2o (show w.heap.size ≠ w.heap.size + 1 by omega) (.bool b) (.string d); obtain ⟨x7, z7, hs7⟩ := BA.now.2.1; have HB := hs7.put2s (.bool b) (.string d); have hi6 := hi5.put B7.now.1 a5 n5 c5 m5; have HI : Hid (IntAt (put2 (putI w3 w.heap.size a5 n5 c5 m5) (w.heap.size + 1) (.bool b) (.string d)) a5 n5 c5 m5 Z) := ⟨hi6.1, hi6.2.put2r BA.now.2.1 _ _⟩; have HBL := Lib.hid B8.out.below; have e1 := HA.cell; have e2 := HA.cell1; have e3 := HB.cell; have e4 := HB.cell1; unfold put2 putI at e1 e2 e3 e4 HI HBL B8; clear hs8 hs9 HA HB B7 BA hs7 hi6))
    all_goals
      go_wp2
      exact bodyPost_ret (v := .tuple #[.agg #[.slice a5 n5 c5, .bool m5], .agg #[.bool b, .string d], .bool g]) (by simp [results, Tryd.results5, go_sem, e1, e2, e3, e4]) rfl ⟨a5, n5, c5, m5, by rw [HBZ.out.1, HBZ.out.2], HI.out, HBL.out⟩
  | false =>
    rw [Bool.false_and]
    go_enter Tryd.func5, Tryd.ntmps5
    go_wp2_with fail
    go_at_call 20
    (with_reducible refine (RR.out _).mono ?_)
    rintro e w1 ⟨rfl, hb1⟩
    have BB := Lib.hid ((BB.out.go hb1).box2 (.bool b) (.string d) 28)
    have hk5 : w.heap.size + 1 < w1.heap.size := by have := hb1.size; simp at this; omega
    clear hb1
    have q0 := BB.out.now.1.cell
    have q1 := BB.out.now.1.cell1
    go_wp2_with fail
    go_at_call 21
    (with_reducible refine (PD.out _).mono ?_)
    rintro e w2 ⟨a, n, c, rfl, hi2, hb2⟩
    have hk7 : w1.heap.size < w2.heap.size := (BB.out.go hb2).now.1.lt
    have B2 := ((BB.out.go hb2).nat hi2).box (.slice a n c) 24
    have BB : Hid (Bag w (LP w.heap.size w1.heap.size w2.heap.size b d a n c N) _) := ⟨B2.below, LP.stay, B2.now.2.2.2.2.1.rs, ⟨_, _, B2.now.2.2.2.1⟩, B2.now.2.2.1, B2.now.1, B2.now.2.1⟩
    clear hi2 hb2 q0 q1 B2
    go_wp2_with fail
    refine wp_region_noPanic ?_
    refine wp_region_held_drew (S := (fun y => (y.cell? ⟨w1.heap.size, 0, none⟩ = some (.bool b) ∧ y.cell? ⟨w1.heap.size, 1, none⟩ = some (.string d) ∧ y.cell? ⟨w2.heap.size, 0, none⟩ = some (.slice a n c)) ∧ Bag w (LP w.heap.size w1.heap.size w2.heap.size b d a n c N) y)) (by kernel_rfl) ?_ (fun hH => ?_)
    · have B9 := BB.out.drew
      exact ⟨⟨B9.now.2.2.1.cell, B9.now.2.2.1.cell1, B9.now.2.2.2.1.cell⟩, B9⟩
    refine wpAnyH_take (i := 0) (v := ?v1) rfl (by kernel_rfl) (by kernel_rfl) (by kernel_rfl) (fun _ _ _ h => h) (Or.inl ⟨by rfl, ?hy1⟩) hH ?_
    case hy1 =>
      intro y hy
      (try dsimp only at hy)
      go_simp
      try with_reducible rfl
    try simp only [Act.put, List.setIfInBounds_toArray, List.set_cons_zero, List.set_cons_succ]
    refine wpAnyH_take (i := 1) (v := ?v2) rfl (by kernel_rfl) (by kernel_rfl) (by kernel_rfl) (fun _ _ _ h => h) (Or.inl ⟨by rfl, ?hy2⟩) hH ?_
    case hy2 =>
      intro y hy
      (try dsimp only at hy)
      go_simp
      try with_reducible rfl
    try simp only [Act.put, List.setIfInBounds_toArray, List.set_cons_zero, List.set_cons_succ]
    refine wpAnyH_take (i := 2) (v := ?v3) rfl (by kernel_rfl) (by kernel_rfl) (by kernel_rfl) (fun _ _ _ h => h) (Or.inl ⟨by rfl, ?hy3⟩) hH ?_
    case hy3 =>
      intro y hy
      (try dsimp only at hy)
      go_simp
      try with_reducible rfl
    try simp only [Act.put, List.setIfInBounds_toArray, List.set_cons_zero, List.set_cons_succ]
    refine wpAnyH_take (i := 4) (v := ?v4) rfl (by kernel_rfl) (by kernel_rfl) (by kernel_rfl) (fun _ _ _ h => h) (Or.inl ⟨by rfl, ?hy4⟩) hH ?_
    case hy4 =>
      intro y hy
      (try dsimp only at hy)
      go_simp
      try with_reducible rfl
    try simp only [Act.put, List.setIfInBounds_toArray, List.set_cons_zero, List.set_cons_succ]
    refine wpAnyH_take (i := 5) (v := ?v5) rfl (by kernel_rfl) (by kernel_rfl) (by kernel_rfl) (fun _ _ _ h => h) (Or.inl ⟨by rfl, ?hy5⟩) hH ?_
    case hy5 =>
      intro y hy
      (try dsimp only at hy)
      go_simp
      try with_reducible rfl
    try simp only [Act.put, List.setIfInBounds_toArray, List.set_cons_zero, List.set_cons_succ]
    refine wpAnyH_ready (rs := [3]) (by kernel_rfl) (by simp) ?_
    refine AllReadyH.cons rfl (fun K hK => ?_) AllReadyH.nil
    go_simp
    go_at_call 22
    (with_reducible refine (OF.out a n c _ ?_).mono ?_)
    exact (show Bag w (LP w.heap.size w1.heap.size w2.heap.size b d a n c N) _ from hH.2).now.2.2.2.2
    rintro e w3 ⟨a5, n5, c5, m5, rfl, hi5, hb2⟩
    have B7 := Bag.go (show Bag w (LP w.heap.size w1.heap.size w2.heap.size b d a n c N) _ from hH.2) hb2
    obtain ⟨x8, b8, hs8, _⟩ := B7.now.1
    obtain ⟨x9, z9, hs9⟩ := B7.now.2.1
    have hc1 := hs8.cell
    have hc2 := hs8.cell1
    have hc3 := hs9.cell
    have hc4 := hs9.cell1
    have hf1 := hs8.free
    have hf2 := hs8.free1
    have hf3 := hs9.free
    have hf4 := hs9.free1
    have q0 := B7.now.2.2.1.cell
    have q1 := B7.now.2.2.1.cell1
    have BA := B7.put (k := w.heap.size) (a := a5) (n := n5) (c := c5) (b := m5) (Nat.le_refl _) (fun h => ⟨h.1.put _ _ _ _, h.2.1.putI (by omega) _ _ _ _, h.2.2.1.put (by omega) _ _ _ _, h.2.2.2.1.put (by omega) _ _ _ _, h.2.2.2.2.put h.1 _ _ _ _⟩)
    have B8 := Lib.hid (BA.put2 (k := w.heap.size + 1) (u := .bool b) (v := .string d) (by omega) (fun h => ⟨h.1.put2b (by omega) _ _, h.2.1.put2 _ _, h.2.2.1.put2o (by omega) _ _, h.2.2.2.1.put2o (by omega) _ _, h.2.2.2.2.put2r h.2.1 _ _⟩))
    have HA := (B7.now.1.slotted a5 n5 c5 m5).put2o (show w.heap.size ≠ w.heap.size + 1 by omega) (.bool b) (.string d)
    obtain ⟨x7, z7, hs7⟩ := BA.now.2.1
    have HB := hs7.put2s (.bool b) (.string d)
    have hi6 := hi5.put B7.now.1 a5 n5 c5 m5
    have HI : Hid (IntAt (put2 (putI w3 w.heap.size a5 n5 c5 m5) (w.heap.size + 1) (.bool b) (.string d)) a5 n5 c5 m5 Z) := ⟨hi6.1, hi6.2.put2r BA.now.2.1 _ _⟩
    have HBL := Lib.hid B8.out.below
    have e1 := HA.cell
    have e2 := HA.cell1
    have e3 := HB.cell
    have e4 := HB.cell1
    unfold put2 putI at e1 e2 e3 e4 HI HBL B8
    clear hs8 hs9 HA HB B7 BA hs7 hi6
    refine hK.out _ _ ?_ (fun hH => ?_)
    · exact (have B9 := Bag.go (show Bag w (LP w.heap.size w1.heap.size w2.heap.size b d a n c N) _ from hH.2) hb2; ⟨⟨B9.now.2.2.1.cell, B9.now.2.2.1.cell1, B9.now.2.2.2.1.cell⟩, B9⟩)
    clear hK K
    try simp only [Act.put, List.setIfInBounds_toArray, List.set_cons_zero, List.set_cons_succ]
    refine wpAnyH_take (i := 6) (v := ?v6) rfl (by kernel_rfl) (by kernel_rfl) (by kernel_rfl) (fun _ _ _ h => h) (Or.inl ⟨by rfl, ?hy6⟩) hH ?_
    case hy6 =>
      intro y hy
      (try dsimp only at hy)
      go_simp
      try with_reducible rfl
    try simp only [Act.put, List.setIfInBounds_toArray, List.set_cons_zero, List.set_cons_succ]
    refine wpAnyH_take (i := 7) (v := undef) rfl (by kernel_rfl) (by kernel_rfl) (by kernel_rfl) (fun _ _ _ h => h) (Or.inr ⟨by rfl, rfl⟩) hH ?_
    try simp only [Act.put, List.setIfInBounds_toArray, List.set_cons_zero, List.set_cons_succ]
    refine wpAnyH_take (i := 8) (v := ?v7) rfl (by kernel_rfl) (by kernel_rfl) (by kernel_rfl) (fun _ _ _ h => h) (Or.inl ⟨by rfl, ?hy7⟩) hH ?_
    case hy7 =>
      intro y hy
      (try dsimp only at hy)
      go_simp
      try with_reducible rfl
    try simp only [Act.put, List.setIfInBounds_toArray, List.set_cons_zero, List.set_cons_succ]
    refine wpAnyH_take (i := 9) (v := ?v8) rfl (by kernel_rfl) (by kernel_rfl) (by kernel_rfl) (fun _ _ _ h => h) (Or.inl ⟨by rfl, ?hy8⟩) hH ?_
    case hy8 =>
      intro y hy
      (try dsimp only at hy)
      go_simp
      try with_reducible rfl
    try simp only [Act.put, List.setIfInBounds_toArray, List.set_cons_zero, List.set_cons_succ]
    refine wpAnyH_take (i := 10) (v := undef) rfl (by kernel_rfl) (by kernel_rfl) (by kernel_rfl) (fun _ _ _ h => h) (Or.inr ⟨by rfl, rfl⟩) hH ?_
    try simp only [Act.put, List.setIfInBounds_toArray, List.set_cons_zero, List.set_cons_succ]
    refine wpAnyH_take (i := 11) (v := undef) rfl (by kernel_rfl) (by kernel_rfl) (by kernel_rfl) (fun _ _ _ h => h) (Or.inr ⟨by rfl, rfl⟩) hH ?_
    try simp only [Act.put, List.setIfInBounds_toArray, List.set_cons_zero, List.set_cons_succ]
    refine wpAnyH_take (i := 12) (v := undef) rfl (by kernel_rfl) (by kernel_rfl) (by kernel_rfl) (fun _ _ _ h => h) (Or.inr ⟨by rfl, rfl⟩) hH ?_
    try simp only [Act.put, List.setIfInBounds_toArray, List.set_cons_zero, List.set_cons_succ]
    refine wpAnyH_take (i := 13) (v := ?v9) rfl (by kernel_rfl) (by kernel_rfl) (by kernel_rfl) (fun _ _ _ h => h) (Or.inl ⟨by rfl, ?hy9⟩) hH ?_
    case hy9 =>
      intro y hy
      (try dsimp only at hy)
      go_simp
      try with_reducible rfl
    try simp only [Act.put, List.setIfInBounds_toArray, List.set_cons_zero, List.set_cons_succ]
    refine wpAnyH_ready (rs := [14]) (by kernel_rfl) (by simp) ?_
    refine AllReadyH.cons rfl (fun K hK => ?_) AllReadyH.nil
    go_simp
    refine hK.out _ _ ?_ (fun hH => ?_)
    · exact (have B9 := Bag.put (show Bag w (LP w.heap.size w1.heap.size w2.heap.size b d a n c N) _ from hH.2) (k := w.heap.size) (a := a5) (n := n5) (c := c5) (b := m5) (Nat.le_refl _) (fun h => ⟨h.1.put _ _ _ _, h.2.1.putI (by omega) _ _ _ _, h.2.2.1.put (by omega) _ _ _ _, h.2.2.2.1.put (by omega) _ _ _ _, h.2.2.2.2.put h.1 _ _ _ _⟩); ⟨⟨B9.now.2.2.1.cell, B9.now.2.2.1.cell1, B9.now.2.2.2.1.cell⟩, B9⟩)
    clear hK K
    try simp only [Act.put, List.setIfInBounds_toArray, List.set_cons_zero, List.set_cons_succ]
    refine wpAnyH_ready (rs := [15]) (by kernel_rfl) (by simp) ?_
    refine AllReadyH.cons rfl (fun K hK => ?_) AllReadyH.nil
    go_simp
    refine hK.out _ _ ?_ (fun hH => ?_)
    · exact ⟨⟨B8.out.now.2.2.1.cell, B8.out.now.2.2.1.cell1, B8.out.now.2.2.2.1.cell⟩, B8.out⟩
    clear hK K
    try simp only [Act.put, List.setIfInBounds_toArray, List.set_cons_zero, List.set_cons_succ]
    refine wpAnyH_take (i := 16) (oi := ⟨some 4, Op.assign (Operand.tmp 33), _, _, _, none⟩) (v := ?v10) rfl (by kernel_rfl) (by kernel_rfl) (by kernel_rfl) (fun _ _ _ h => h) (Or.inl ⟨by rfl, ?hy10⟩) hH ?_
    case hy10 =>
      intro y hy
      (try dsimp only at hy)
      go_simp
      try with_reducible rfl
    try simp only [Act.put, List.setIfInBounds_toArray, List.set_cons_zero, List.set_cons_succ]
    refine wpAnyH_done (by kernel_rfl) ?_ _
    refine NoPanic.normal ?_
    all_goals
      go_wp2
      exact bodyPost_ret (v := .tuple #[.agg #[.slice a5 n5 c5, .bool m5], .agg #[.bool b, .string d], .bool false]) (by simp [results, Tryd.results5, go_sem, e1, e2, e3, e4]) rfl ⟨a5, n5, c5, m5, by rw [HBZ.out.1, HBZ.out.2], HI.out, HBL.out⟩

end Go.Proofs.YtageaamioljocaaDoor

namespace Go.Proofs.YtageaamioljocaaDoor
open Go.RowKit

theorem lim100' {N : Nat} (h : N < 10 ^ 100) : N < 4294967296 ^ 11 := Nat.lt_trans h (by decide)

theorem IntsAt.nought (w : World) (f : Nat → Int) : IntsAt w none 0 0 f := ⟨Nat.le_refl _, by omega, .inl rfl⟩
theorem IntsAt.mk1 {w : World} {k : Nat} (hk : w.heap.size = k) {a : Option Addr} {n c : Nat} {m : Bool} {Z : Int} {t : TypeId} (h : IntAt (w.alloc (.cells #[.slice a n c, .bool m] t)) a n c m Z) :
    IntsAt (w.alloc (.cells #[.slice a n c, .bool m] t)) (some ⟨k, 0, none⟩) 1 1 (fun _ => Z) := by
  subst hk
  have hs := Slot2.new w (.slice a n c) (.bool m) t
  refine ⟨Nat.le_refl _, by omega, .inr ⟨_, 0, rfl, by rw [World.size_alloc]; omega, fun j hj => ?_⟩⟩
  obtain rfl : j = 0 := by omega
  exact ⟨a, n, c, m, hs.cell, hs.cell1, h⟩
theorem IntsAt.mk2 {w : World} {k : Nat} (hk : w.heap.size = k) {a : Option Addr} {n c : Nat} {m : Bool} {Z : Int} {a2 : Option Addr} {n2 c2 : Nat} {m2 : Bool} {Y : Int} {t : TypeId} (h : IntAt (w.alloc (.cells #[.slice a n c, .bool m, .slice a2 n2 c2, .bool m2] t)) a n c m Z) (g : IntAt (w.alloc (.cells #[.slice a n c, .bool m, .slice a2 n2 c2, .bool m2] t)) a2 n2 c2 m2 Y) :
    IntsAt (w.alloc (.cells #[.slice a n c, .bool m, .slice a2 n2 c2, .bool m2] t)) (some ⟨k, 0, none⟩) 2 2 (fun j => if j = 0 then Z else Y) := by
  subst hk
  refine ⟨Nat.le_refl _, by omega, .inr ⟨_, 0, rfl, by rw [World.size_alloc]; omega, fun j hj => ?_⟩⟩
  match j, hj with
  | 0, _ => exact ⟨a, n, c, m, by rw [World.cell?_alloc_new]; rfl, by rw [World.cell?_alloc_new]; rfl, h⟩
  | 1, _ => exact ⟨a2, n2, c2, m2, by rw [World.cell?_alloc_new]; rfl, by rw [World.cell?_alloc_new]; rfl, g⟩

theorem plus0_any (a : Option Addr) (n c : Nat) (m : Bool) (Z : Int) (w : World) (h : IntAt w a n c m Z) (K : Nat) (hK : K ≤ 900000) (hZ : Z.natAbs < 4294967296 ^ K) :
    Calls Tryd.prog 11 #[.agg #[.slice a n c, .bool m], .slice none 0 0] w fun e w' => IntTold w w' e Z :=
  plus_any a n c m Z none 0 0 (fun _ => 0) w h (IntsAt.nought _ _) K hK (by simp [asum]; exact hZ)
theorem plus1_any (a : Option Addr) (n c : Nat) (m : Bool) (Z : Int) (sa : Option Addr) (Y : Int) (w : World) (h : IntAt w a n c m Z) (g : IntsAt w sa 1 1 (fun _ => Y)) (K : Nat) (hK : K ≤ 900000) (hZ : Z.natAbs + Y.natAbs < 4294967296 ^ K) :
    Calls Tryd.prog 11 #[.agg #[.slice a n c, .bool m], .slice sa 1 1] w fun e w' => IntTold w w' e (Z + Y) :=
  plus_any a n c m Z sa 1 1 (fun _ => Y) w h g K hK (by simp [asum]; exact hZ)
theorem plus2_any (a : Option Addr) (n c : Nat) (m : Bool) (Z : Int) (sa : Option Addr) (Y X : Int) (w : World) (h : IntAt w a n c m Z) (g : IntsAt w sa 2 2 (fun j => if j = 0 then Y else X)) (K : Nat) (hK : K ≤ 900000) (hZ : Z.natAbs + (Y.natAbs + X.natAbs) < 4294967296 ^ K) :
    Calls Tryd.prog 11 #[.agg #[.slice a n c, .bool m], .slice sa 2 2] w fun e w' => IntTold w w' e (Z + Y + X) := by
  have := plus_any a n c m Z sa 2 2 (fun j => if j = 0 then Y else X) w h g K hK (by simp [asum]; exact hZ)
  simpa [psum] using this
theorem times0_any (a : Option Addr) (n c : Nat) (m : Bool) (Z : Int) (w : World) (h : IntAt w a n c m Z) (K : Nat) (hK : K ≤ 400000) :
    Calls Tryd.prog 7 #[.agg #[.slice a n c, .bool m], .slice none 0 0] w fun e w' => IntTold w w' e Z :=
  times_any a n c m Z none 0 0 (fun _ => 0) w h (IntsAt.nought _ _) K hK (fun k hk => by omega)
theorem times1_any (a : Option Addr) (n c : Nat) (m : Bool) (Z : Int) (sa : Option Addr) (Y : Int) (w : World) (h : IntAt w a n c m Z) (g : IntsAt w sa 1 1 (fun _ => Y)) (K : Nat) (hK : K ≤ 400000) (hZ : Z.natAbs < 4294967296 ^ K) (hY : Y.natAbs < 4294967296 ^ K) :
    Calls Tryd.prog 7 #[.agg #[.slice a n c, .bool m], .slice sa 1 1] w fun e w' => IntTold w w' e (Z * Y) :=
  times_any a n c m Z sa 1 1 (fun _ => Y) w h g K hK (fun k hk => by obtain rfl : k = 0 := by omega
                                                                     exact ⟨hZ, hY⟩)

theorem cmpZ_self (Z : Int) : cmpZ Z Z = 0 := by unfold cmpZ; rw [if_neg (by omega), if_pos rfl]
theorem cmpZ_turn (Z Y : Int) : cmpZ Y Z = -cmpZ Z Y := by
  unfold cmpZ
  rcases Int.lt_trichotomy Z Y with h | h | h
  · rw [if_neg (by omega), if_neg (by omega), if_pos h]; rfl
  · subst h; rw [if_neg (by omega), if_pos rfl]; rfl
  · rw [if_pos h, if_neg (by omega), if_neg (by omega)]
theorem cmpZ_bd (Z Y : Int) : -1 ≤ cmpZ Z Y ∧ cmpZ Z Y ≤ 1 := by
  unfold cmpZ; (repeat' split) <;> omega

end Go.Proofs.YtageaamioljocaaDoor

namespace Go.Proofs.YtageaamioljocaaDoor
open Go.RowKit

theorem Below.step {w a b : World} (hb : Below a.heap.size a b) (h : Below w.heap.size w a) : Below w.heap.size w b := h.trans (hb.mono h.size)
theorem Below.more {w a : World} (h : Below w.heap.size w a) (o : Obj) : Below w.heap.size w (a.alloc o) := h.alloc h.size o
/-- A row of one integer, made some steps ago. -/
theorem IntsAt.old1 {wk w : World} {k : Nat} {a : Option Addr} {n c : Nat} {m : Bool} {Z : Int} {t : TypeId} (hb : Below (wk.alloc (.cells #[.slice a n c, .bool m] t)).heap.size (wk.alloc (.cells #[.slice a n c, .bool m] t)) w)
    (hk : wk.heap.size = k) (h : IntAt w a n c m Z) : IntsAt w (some ⟨k, 0, none⟩) 1 1 (fun _ => Z) := by
  subst hk
  have hs := (Slot2.new wk (.slice a n c) (.bool m) t).below hb
  refine ⟨Nat.le_refl _, by omega, .inr ⟨_, 0, rfl, hs.lt, fun j hj => ?_⟩⟩
  obtain rfl : j = 0 := by omega
  exact ⟨a, n, c, m, hs.cell, hs.cell1, h⟩

end Go.Proofs.YtageaamioljocaaDoor

