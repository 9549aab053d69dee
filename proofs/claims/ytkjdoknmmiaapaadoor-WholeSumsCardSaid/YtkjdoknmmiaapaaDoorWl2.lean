/-
  Package typeballlaw02: read, by contract.
-/
import Derived.Test.YtkjdoknmmiaapaaDoorWr3
import Derived.Test.YtkjdoknmmiaapaaDoorWr2
namespace Go.Proofs.YtkjdoknmmiaapaaDoor
open Go.RowKit
attribute [local go_sem ↓] Go.wp_at_zero Go.wp_at_succ

def rdK (s : ByteArray) : Bool := rdO s.data.toList && decide (s.size ≤ 100)
def ReadW (w w' : World) (e : Ending) (Z : Int) (k : Bool) : Prop := ∃ a n c m, e = .returned (.tuple #[.agg #[.slice a n c, .bool m], .agg #[.bool (rB Z), .string (rS Z)], .bool k]) ∧ IntAt w' a n c m Z ∧ Below w.heap.size w w'

theorem rdZ_abs (l : List UInt8) : ∀ k, k = 2000 → (rdZ l).natAbs < 10 ^ k := by
  intro k hk
  unfold rdZ
  cases h : rdO l with
  | false => rw [if_neg (by decide)]; exact Nat.pow_pos (by omega)
  | true =>
    obtain ⟨g1, g2, g3⟩ := okB_digs h
    rw [if_pos rfl, sgn_abs]
    exact Nat.lt_of_lt_of_le (numOf_lt _ g3) (Nat.pow_le_pow_right (by omega) (by omega))
theorem rdZ_small {s : ByteArray} (h : rdK s = true) : (rdZ s.data.toList).natAbs < 10 ^ 100 := by
  unfold rdK at h
  rw [Bool.and_eq_true, decide_eq_true_eq] at h
  unfold rdZ
  obtain ⟨g1, g2, g3⟩ := okB_digs h.1
  rw [h.1, if_pos rfl, sgn_abs]
  refine Nat.lt_of_lt_of_le (numOf_lt _ g3) (Nat.pow_le_pow_right (by omega) ?_)
  have h2 : s.data.toList.length = s.size := rfl
  have h3 : (rdL s.data.toList).length ≤ s.data.toList.length := by
    unfold rdL; split
    · rw [List.length_tail]; omega
    · exact Nat.le_refl _
  omega
theorem dec_okB {N : Nat} (h : dl N ≤ 2000) : okB (dec N) = true := by
  refine okB_mk ?_ ?_ (dec_dig N)
  · unfold dec; rw [sdig_length]; exact dl_pos N
  · unfold dec; rw [sdig_length]; exact h
theorem parse_dec (N : Nat) (w : World) (h : dl N ≤ 2000) : Calls Tryd.prog 16 #[.string (str (dec N))] w fun e w' => SubOf3 w w' e N true := by
  refine (parse_any (str (dec N)) w (by unfold maxLen; rw [str_size]; unfold dec; rw [sdig_length]; omega)).mono ?_
  rintro e w' ⟨a, n, c, rfl, hv, _, hb⟩
  have h1 : okB (str (dec N)).data.toList = true := dec_okB h
  have h2 : numOf (str (dec N)).data.toList = N := numOf_dec N
  rw [h1, if_pos rfl, h2] at hv
  exact ⟨a, n, c, by rw [h1], hv, hb⟩

/-- The block of a whole number of the document's answers. -/
def RT (y : World) (k : Nat) : Prop := ∃ b t, Slot2 y k (.bool b) (.string t)
theorem RT.below {w w' : World} {k : Nat} (h : RT w k) (hb : Below w.heap.size w w') : RT w' k := by
  obtain ⟨x, z, h1⟩ := h; exact ⟨x, z, h1.below hb⟩
theorem RT.put2 {w : World} {k : Nat} (h : RT w k) (b : Bool) (t : ByteArray) : RT (put2 w k (.bool b) (.string t)) k := by
  obtain ⟨x, z, h1⟩ := h; exact ⟨_, _, h1.put2s _ _⟩
theorem RT.putI {w : World} {k j : Nat} (h : RT w j) (e : j ≠ k) (a : Option Addr) (n c : Nat) (b : Bool) : RT (putI w k a n c b) j := by
  obtain ⟨x, z, h1⟩ := h; exact ⟨_, _, h1.put2o e _ _⟩
theorem NatIs.put2r {w : World} {k : Nat} {v : Value} {N : Nat} (q : NatIs w v N) (h : RT w k) (b : Bool) (t : ByteArray) : NatIs (put2 w k (.bool b) (.string t)) v N := by
  obtain ⟨x, z, h1⟩ := h
  refine (q.storeAt h1.cell (fun _ _ h => by cases h) _).storeAt (x := .string z) ?_ (fun _ _ h => by cases h) _
  rw [World.cell?_setCell_other _ _ _ _ (fun e => by cases e)]
  exact h1.cell1

/-- What read keeps. -/
def LP (k0 k5 k7 : Nat) (b : Bool) (d : ByteArray) (a : Option Addr) (n c N : Nat) (y : World) : Prop := RS y k0 ∧ RT y (k0 + 1) ∧ Slot2 y k5 (.bool b) (.string d) ∧ Slot y k7 (.slice a n c) ∧ NatIs y (.agg #[.slice a n c]) N
theorem LP.stay {k0 k5 k7 : Nat} {b : Bool} {d : ByteArray} {a : Option Addr} {n c N : Nat} : ∀ x y, Below x.heap.size x y → LP k0 k5 k7 b d a n c N x → LP k0 k5 k7 b d a n c N y :=
  fun _ _ hb h => ⟨h.1.below hb, h.2.1.below hb, h.2.2.1.below hb, h.2.2.2.1.below hb, h.2.2.2.2.below hb⟩

theorem RS.put2b {w : World} {k j : Nat} (h : RS w j) (e : j ≠ k) (u v : Value) : RS (put2 w k u v) j := by
  obtain ⟨x, b, h1, h2⟩ := h; exact ⟨x, b, h1.put2o e u v, h2⟩
theorem Slot.put2o {w : World} {k j : Nat} {x : Value} (h : Slot w j x) (e : j ≠ k) (u v : Value) : Slot (put2 w k u v) j x := by
  refine ⟨?_, by simp [put2, h.free], by simpa [put2] using h.lt⟩
  unfold put2; rw [World.cell?_setCell_other _ _ _ _ (fun e' => by cases e' <;> exact e rfl), World.cell?_setCell_other _ _ _ _ (fun e' => by cases e' <;> exact e rfl)]; exact h.cell

set_option linter.unusedSimpArgs false in
set_option maxHeartbeats 3200000 in
set_option maxRecDepth 100000 in
theorem lread_any (s : ByteArray) (w : World) (hs : s.size ≤ maxLen) : Calls Tryd.prog 49 #[.string s] w fun e w' => ReadW w w' e (rdZ s.data.toList) (rdK s) := by
  have RR := Lib.hid (fun wz => rRead_any s wz hs)
  obtain ⟨K, hK⟩ : ∃ K, K = 2000 := ⟨_, rfl⟩
  have hZ := rdZ_abs s.data.toList K hK
  unfold ReadR at RR
  obtain ⟨Z, hZe⟩ : ∃ Z, rdZ s.data.toList = Z := ⟨_, rfl⟩
  obtain ⟨o, ho⟩ : ∃ o, rdO s.data.toList = o := ⟨_, rfl⟩
  have hk : rdK s = (o && decide (s.size ≤ 100)) := by unfold rdK; rw [ho]
  rw [hZe] at RR hZ ⊢
  rw [ho] at RR
  rw [hk]
  have hdl : dl Z.natAbs ≤ 2000 := Nat.le_trans (dl_le _ K (by omega) hZ) (by omega)
  have PD : Hid (∀ wz, Calls Tryd.prog 16 #[.string (rS Z)] wz fun e w' => SubOf3 wz w' e Z.natAbs true) := fun wz => parse_dec Z.natAbs wz hdl
  have OF : Hid (∀ a n c wz, NatIs wz (.agg #[.slice a n c]) Z.natAbs → Calls Tryd.prog 92 #[.bool (rB Z), .agg #[.slice a n c]] wz fun e w' => IntTold wz w' e Z) := by
    intro a n c wz hi
    have := wof_any (rB Z) a n c _ wz hi
    rw [show sgn (rB Z) Z.natAbs = Z from sgn_self Z] at this
    exact this
  obtain ⟨N, hN⟩ : ∃ N, Z.natAbs = N := ⟨_, rfl⟩
  rw [hN] at PD OF
  obtain ⟨b, hbz⟩ : ∃ b, rB Z = b := ⟨_, rfl⟩
  obtain ⟨d, hdz⟩ : ∃ d, rS Z = d := ⟨_, rfl⟩
  rw [hbz] at RR OF
  rw [hdz] at RR PD
  have HBZ : Hid (rB Z = b ∧ rS Z = d) := ⟨hbz, hdz⟩
  clear hbz hdz
  unfold maxLen at hs
  have B0 := ((Bag.start w).box2 (.slice none 0 0) (.bool false) 60).box2 (.bool false) (.string ⟨#[]⟩) 62
  rw [World.size_alloc] at B0
  have BB := Lib.hid B0
  clear B0 hZ hZe ho hk hdl hN
  cases o with
  | true =>
    obtain ⟨g, hg⟩ : ∃ g, decide (s.size ≤ 100) = g := ⟨_, rfl⟩
    have hg2 : decide ((s.size : Int) ≤ 100) = g := by rw [← hg]; simp; omega
    rw [Bool.true_and, hg]
    clear hg
    go_enter Tryd.func49, Tryd.ntmps49
    go_wp2_with fail
    go_at_call 91
    (with_reducible refine (RR.out _).mono ?_)
    rintro e w1 ⟨rfl, hb1⟩
    have BB := Lib.hid ((BB.out.go hb1).box2 (.bool b) (.string d) 62)
    have hk5 : w.heap.size + 1 < w1.heap.size := by have := hb1.size; simp at this; omega
    clear hb1
    have q0 := BB.out.now.1.cell
    have q1 := BB.out.now.1.cell1
    go_wp2_with fail
    go_at_call 16
    (with_reducible refine (PD.out _).mono ?_)
    rintro e w2 ⟨a, n, c, rfl, hi2, hb2⟩
    have hk7 : w1.heap.size < w2.heap.size := (BB.out.go hb2).now.1.lt
    have B2 := ((BB.out.go hb2).nat hi2).box (.slice a n c) 25
    have BB : Hid (Bag w (LP w.heap.size w1.heap.size w2.heap.size b d a n c N) _) := ⟨B2.below, LP.stay, B2.now.2.2.2.2.1.rs, ⟨_, _, B2.now.2.2.2.1⟩, B2.now.2.2.1, B2.now.1, B2.now.2.1⟩
    clear hi2 hb2 q0 q1 B2
    go_wp2_with fail
    go_region_held3 (fun y => (y.cell? ⟨w1.heap.size, 0, none⟩ = some (.bool b) ∧ y.cell? ⟨w1.heap.size, 1, none⟩ = some (.string d) ∧ y.cell? ⟨w2.heap.size, 0, none⟩ = some (.slice a n c)) ∧ Bag w (LP w.heap.size w1.heap.size w2.heap.size b d a n c N) y)
      (first
        | (have B9 := BB.out.drew; exact ⟨⟨B9.now.2.2.1.cell, B9.now.2.2.1.cell1, B9.now.2.2.2.1.cell⟩, B9⟩)
        | (have B9 := Bag.go (show Bag w (LP w.heap.size w1.heap.size w2.heap.size b d a n c N) _ from by go_split_ands; assumption) hb2; exact ⟨⟨B9.now.2.2.1.cell, B9.now.2.2.1.cell1, B9.now.2.2.2.1.cell⟩, B9⟩)
        | (have B9 := Bag.put (show Bag w (LP w.heap.size w1.heap.size w2.heap.size b d a n c N) _ from by go_split_ands; assumption) (k := w.heap.size) (a := a5) (n := n5) (c := c5) (b := m5) (Nat.le_refl _) (fun h => ⟨h.1.put _ _ _ _, h.2.1.putI (by omega) _ _ _ _, h.2.2.1.put (by omega) _ _ _ _, h.2.2.2.1.put (by omega) _ _ _ _, h.2.2.2.2.put h.1 _ _ _ _⟩); exact ⟨⟨B9.now.2.2.1.cell, B9.now.2.2.1.cell1, B9.now.2.2.2.1.cell⟩, B9⟩)
        | (exact ⟨⟨B8.out.now.2.2.1.cell, B8.out.now.2.2.1.cell1, B8.out.now.2.2.2.1.cell⟩, B8.out⟩))
      (first
        | (go_at_call 92; (with_reducible refine (OF.out a n c _ ?_).mono ?_); exact (show Bag w (LP w.heap.size w1.heap.size w2.heap.size b d a n c N) _ from by go_split_ands; assumption).now.2.2.2.2; rintro e w3 ⟨a5, n5, c5, m5, rfl, hi5, hb2⟩; have B7 := Bag.go (show Bag w (LP w.heap.size w1.heap.size w2.heap.size b d a n c N) _ from by go_split_ands; assumption) hb2; obtain ⟨x8, b8, hs8, _⟩ := B7.now.1; obtain ⟨x9, z9, hs9⟩ := B7.now.2.1; have hc1 := hs8.cell; have hc2 := hs8.cell1; have hc3 := hs9.cell; have hc4 := hs9.cell1; have hf1 := hs8.free; have hf2 := hs8.free1; have hf3 := hs9.free; have hf4 := hs9.free1; have q0 := B7.now.2.2.1.cell; have q1 := B7.now.2.2.1.cell1; have BA := B7.put (k := w.heap.size) (a := a5) (n := n5) (c := c5) (b := m5) (Nat.le_refl _) (fun h => ⟨h.1.put _ _ _ _, h.2.1.putI (by omega) _ _ _ _, h.2.2.1.put (by omega) _ _ _ _, h.2.2.2.1.put (by omega) _ _ _ _, h.2.2.2.2.put h.1 _ _ _ _⟩); have B8 := Lib.hid (BA.put2 (k := w.heap.size + 1) (u := .bool b) (v := .string d) (by omega) (fun h => ⟨h.1.put2b (by omega) _ _, h.2.1.put2 _ _, h.2.2.1.put2o (by omega) _ _, h.2.2.2.1.put2o (by omega) _ _, h.2.2.2.2.put2r h.2.1 _ _⟩)); have HA := (B7.now.1.slotted a5 n5 c5 m5).put2o (show w.heap.size ≠ w.heap.size + 1 by omega) (.bool b) (.string d); obtain ⟨x7, z7, hs7⟩ := BA.now.2.1; have HB := hs7.put2s (.bool b) (.string d); have hi6 := hi5.put B7.now.1 a5 n5 c5 m5; have HI : Hid (IntAt (put2 (putI w3 w.heap.size a5 n5 c5 m5) (w.heap.size + 1) (.bool b) (.string d)) a5 n5 c5 m5 Z) := ⟨hi6.1, hi6.2.put2r BA.now.2.1 _ _⟩; have HBL := Lib.hid B8.out.below; have e1 := HA.cell; have e2 := HA.cell1; have e3 := HB.cell; have e4 := HB.cell1; unfold put2 putI at e1 e2 e3 e4 HI HBL B8; clear hs8 hs9 HA HB B7 BA hs7 hi6))
    all_goals
      go_wp2
      exact bodyPost_ret (v := .tuple #[.agg #[.slice a5 n5 c5, .bool m5], .agg #[.bool b, .string d], .bool g]) (by simp [results, Tryd.results49, go_sem, e1, e2, e3, e4]) rfl ⟨a5, n5, c5, m5, by rw [HBZ.out.1, HBZ.out.2], HI.out, HBL.out⟩
  | false =>
    rw [Bool.false_and]
    go_enter Tryd.func49, Tryd.ntmps49
    go_wp2_with fail
    go_at_call 91
    (with_reducible refine (RR.out _).mono ?_)
    rintro e w1 ⟨rfl, hb1⟩
    have BB := Lib.hid ((BB.out.go hb1).box2 (.bool b) (.string d) 62)
    have hk5 : w.heap.size + 1 < w1.heap.size := by have := hb1.size; simp at this; omega
    clear hb1
    have q0 := BB.out.now.1.cell
    have q1 := BB.out.now.1.cell1
    go_wp2_with fail
    go_at_call 16
    (with_reducible refine (PD.out _).mono ?_)
    rintro e w2 ⟨a, n, c, rfl, hi2, hb2⟩
    have hk7 : w1.heap.size < w2.heap.size := (BB.out.go hb2).now.1.lt
    have B2 := ((BB.out.go hb2).nat hi2).box (.slice a n c) 25
    have BB : Hid (Bag w (LP w.heap.size w1.heap.size w2.heap.size b d a n c N) _) := ⟨B2.below, LP.stay, B2.now.2.2.2.2.1.rs, ⟨_, _, B2.now.2.2.2.1⟩, B2.now.2.2.1, B2.now.1, B2.now.2.1⟩
    clear hi2 hb2 q0 q1 B2
    go_wp2_with fail
    refine wp_region_noPanic ?_
    refine wp_region_held_drew (S := (fun y => (y.cell? ⟨w1.heap.size, 0, none⟩ = some (.bool b) ∧ y.cell? ⟨w1.heap.size, 1, none⟩ = some (.string d) ∧ y.cell? ⟨w2.heap.size, 0, none⟩ = some (.slice a n c)) ∧ Bag w (LP w.heap.size w1.heap.size w2.heap.size b d a n c N) y)) (by kernel_rfl) ?_ (fun hH => ?_)
    · have B9 := BB.out.drew
      exact ⟨⟨B9.now.2.2.1.cell, B9.now.2.2.1.cell1, B9.now.2.2.2.1.cell⟩, B9⟩
    refine wpAnyH_take (i := 0) (v := ?v1) rfl (by kernel_rfl) (by kernel_rfl) (by kernel_rfl) (fun _ _ _ h => h) (Or.inl ⟨by rfl, ?hy1⟩) hH ?_
    case hy1 =>
      intro y hy
      (try dsimp only at hy)
      go_simp
      try with_reducible rfl
    try simp only [Act.put, List.setIfInBounds_toArray, List.set_cons_zero, List.set_cons_succ]
    refine wpAnyH_take (i := 1) (v := ?v2) rfl (by kernel_rfl) (by kernel_rfl) (by kernel_rfl) (fun _ _ _ h => h) (Or.inl ⟨by rfl, ?hy2⟩) hH ?_
    case hy2 =>
      intro y hy
      (try dsimp only at hy)
      go_simp
      try with_reducible rfl
    try simp only [Act.put, List.setIfInBounds_toArray, List.set_cons_zero, List.set_cons_succ]
    refine wpAnyH_take (i := 2) (v := ?v3) rfl (by kernel_rfl) (by kernel_rfl) (by kernel_rfl) (fun _ _ _ h => h) (Or.inl ⟨by rfl, ?hy3⟩) hH ?_
    case hy3 =>
      intro y hy
      (try dsimp only at hy)
      go_simp
      try with_reducible rfl
    try simp only [Act.put, List.setIfInBounds_toArray, List.set_cons_zero, List.set_cons_succ]
    refine wpAnyH_take (i := 4) (v := ?v4) rfl (by kernel_rfl) (by kernel_rfl) (by kernel_rfl) (fun _ _ _ h => h) (Or.inl ⟨by rfl, ?hy4⟩) hH ?_
    case hy4 =>
      intro y hy
      (try dsimp only at hy)
      go_simp
      try with_reducible rfl
    try simp only [Act.put, List.setIfInBounds_toArray, List.set_cons_zero, List.set_cons_succ]
    refine wpAnyH_take (i := 5) (v := ?v5) rfl (by kernel_rfl) (by kernel_rfl) (by kernel_rfl) (fun _ _ _ h => h) (Or.inl ⟨by rfl, ?hy5⟩) hH ?_
    case hy5 =>
      intro y hy
      (try dsimp only at hy)
      go_simp
      try with_reducible rfl
    try simp only [Act.put, List.setIfInBounds_toArray, List.set_cons_zero, List.set_cons_succ]
    refine wpAnyH_ready (rs := [3]) (by kernel_rfl) (by simp) ?_
    refine AllReadyH.cons rfl (fun K hK => ?_) AllReadyH.nil
    go_simp
    go_at_call 92
    (with_reducible refine (OF.out a n c _ ?_).mono ?_)
    exact (show Bag w (LP w.heap.size w1.heap.size w2.heap.size b d a n c N) _ from hH.2).now.2.2.2.2
    rintro e w3 ⟨a5, n5, c5, m5, rfl, hi5, hb2⟩
    have B7 := Bag.go (show Bag w (LP w.heap.size w1.heap.size w2.heap.size b d a n c N) _ from hH.2) hb2
    obtain ⟨x8, b8, hs8, _⟩ := B7.now.1
    obtain ⟨x9, z9, hs9⟩ := B7.now.2.1
    have hc1 := hs8.cell
    have hc2 := hs8.cell1
    have hc3 := hs9.cell
    have hc4 := hs9.cell1
    have hf1 := hs8.free
    have hf2 := hs8.free1
    have hf3 := hs9.free
    have hf4 := hs9.free1
    have q0 := B7.now.2.2.1.cell
    have q1 := B7.now.2.2.1.cell1
    have BA := B7.put (k := w.heap.size) (a := a5) (n := n5) (c := c5) (b := m5) (Nat.le_refl _) (fun h => ⟨h.1.put _ _ _ _, h.2.1.putI (by omega) _ _ _ _, h.2.2.1.put (by omega) _ _ _ _, h.2.2.2.1.put (by omega) _ _ _ _, h.2.2.2.2.put h.1 _ _ _ _⟩)
    have B8 := Lib.hid (BA.put2 (k := w.heap.size + 1) (u := .bool b) (v := .string d) (by omega) (fun h => ⟨h.1.put2b (by omega) _ _, h.2.1.put2 _ _, h.2.2.1.put2o (by omega) _ _, h.2.2.2.1.put2o (by omega) _ _, h.2.2.2.2.put2r h.2.1 _ _⟩))
    have HA := (B7.now.1.slotted a5 n5 c5 m5).put2o (show w.heap.size ≠ w.heap.size + 1 by omega) (.bool b) (.string d)
    obtain ⟨x7, z7, hs7⟩ := BA.now.2.1
    have HB := hs7.put2s (.bool b) (.string d)
    have hi6 := hi5.put B7.now.1 a5 n5 c5 m5
    have HI : Hid (IntAt (put2 (putI w3 w.heap.size a5 n5 c5 m5) (w.heap.size + 1) (.bool b) (.string d)) a5 n5 c5 m5 Z) := ⟨hi6.1, hi6.2.put2r BA.now.2.1 _ _⟩
    have HBL := Lib.hid B8.out.below
    have e1 := HA.cell
    have e2 := HA.cell1
    have e3 := HB.cell
    have e4 := HB.cell1
    unfold put2 putI at e1 e2 e3 e4 HI HBL B8
    clear hs8 hs9 HA HB B7 BA hs7 hi6
    refine hK.out _ _ ?_ (fun hH => ?_)
    · exact (have B9 := Bag.go (show Bag w (LP w.heap.size w1.heap.size w2.heap.size b d a n c N) _ from hH.2) hb2; ⟨⟨B9.now.2.2.1.cell, B9.now.2.2.1.cell1, B9.now.2.2.2.1.cell⟩, B9⟩)
    clear hK K
    try simp only [Act.put, List.setIfInBounds_toArray, List.set_cons_zero, List.set_cons_succ]
    refine wpAnyH_take (i := 6) (v := ?v6) rfl (by kernel_rfl) (by kernel_rfl) (by kernel_rfl) (fun _ _ _ h => h) (Or.inl ⟨by rfl, ?hy6⟩) hH ?_
    case hy6 =>
      intro y hy
      (try dsimp only at hy)
      go_simp
      try with_reducible rfl
    try simp only [Act.put, List.setIfInBounds_toArray, List.set_cons_zero, List.set_cons_succ]
    refine wpAnyH_take (i := 7) (v := undef) rfl (by kernel_rfl) (by kernel_rfl) (by kernel_rfl) (fun _ _ _ h => h) (Or.inr ⟨by rfl, rfl⟩) hH ?_
    try simp only [Act.put, List.setIfInBounds_toArray, List.set_cons_zero, List.set_cons_succ]
    refine wpAnyH_take (i := 8) (v := ?v7) rfl (by kernel_rfl) (by kernel_rfl) (by kernel_rfl) (fun _ _ _ h => h) (Or.inl ⟨by rfl, ?hy7⟩) hH ?_
    case hy7 =>
      intro y hy
      (try dsimp only at hy)
      go_simp
      try with_reducible rfl
    try simp only [Act.put, List.setIfInBounds_toArray, List.set_cons_zero, List.set_cons_succ]
    refine wpAnyH_take (i := 9) (v := ?v8) rfl (by kernel_rfl) (by kernel_rfl) (by kernel_rfl) (fun _ _ _ h => h) (Or.inl ⟨by rfl, ?hy8⟩) hH ?_
    case hy8 =>
      intro y hy
      (try dsimp only at hy)
      go_simp
      try with_reducible rfl
    try simp only [Act.put, List.setIfInBounds_toArray, List.set_cons_zero, List.set_cons_succ]
    refine wpAnyH_take (i := 10) (v := undef) rfl (by kernel_rfl) (by kernel_rfl) (by kernel_rfl) (fun _ _ _ h => h) (Or.inr ⟨by rfl, rfl⟩) hH ?_
    try simp only [Act.put, List.setIfInBounds_toArray, List.set_cons_zero, List.set_cons_succ]
    refine wpAnyH_take (i := 11) (v := undef) rfl (by kernel_rfl) (by kernel_rfl) (by kernel_rfl) (fun _ _ _ h => h) (Or.inr ⟨by rfl, rfl⟩) hH ?_
    try simp only [Act.put, List.setIfInBounds_toArray, List.set_cons_zero, List.set_cons_succ]
    refine wpAnyH_take (i := 12) (v := undef) rfl (by kernel_rfl) (by kernel_rfl) (by kernel_rfl) (fun _ _ _ h => h) (Or.inr ⟨by rfl, rfl⟩) hH ?_
    try simp only [Act.put, List.setIfInBounds_toArray, List.set_cons_zero, List.set_cons_succ]
    refine wpAnyH_take (i := 13) (v := ?v9) rfl (by kernel_rfl) (by kernel_rfl) (by kernel_rfl) (fun _ _ _ h => h) (Or.inl ⟨by rfl, ?hy9⟩) hH ?_
    case hy9 =>
      intro y hy
      (try dsimp only at hy)
      go_simp
      try with_reducible rfl
    try simp only [Act.put, List.setIfInBounds_toArray, List.set_cons_zero, List.set_cons_succ]
    refine wpAnyH_ready (rs := [14]) (by kernel_rfl) (by simp) ?_
    refine AllReadyH.cons rfl (fun K hK => ?_) AllReadyH.nil
    go_simp
    refine hK.out _ _ ?_ (fun hH => ?_)
    · exact (have B9 := Bag.put (show Bag w (LP w.heap.size w1.heap.size w2.heap.size b d a n c N) _ from hH.2) (k := w.heap.size) (a := a5) (n := n5) (c := c5) (b := m5) (Nat.le_refl _) (fun h => ⟨h.1.put _ _ _ _, h.2.1.putI (by omega) _ _ _ _, h.2.2.1.put (by omega) _ _ _ _, h.2.2.2.1.put (by omega) _ _ _ _, h.2.2.2.2.put h.1 _ _ _ _⟩); ⟨⟨B9.now.2.2.1.cell, B9.now.2.2.1.cell1, B9.now.2.2.2.1.cell⟩, B9⟩)
    clear hK K
    try simp only [Act.put, List.setIfInBounds_toArray, List.set_cons_zero, List.set_cons_succ]
    refine wpAnyH_ready (rs := [15]) (by kernel_rfl) (by simp) ?_
    refine AllReadyH.cons rfl (fun K hK => ?_) AllReadyH.nil
    go_simp
    refine hK.out _ _ ?_ (fun hH => ?_)
    · exact ⟨⟨B8.out.now.2.2.1.cell, B8.out.now.2.2.1.cell1, B8.out.now.2.2.2.1.cell⟩, B8.out⟩
    clear hK K
    try simp only [Act.put, List.setIfInBounds_toArray, List.set_cons_zero, List.set_cons_succ]
    refine wpAnyH_take (i := 16) (oi := ⟨some 4, Op.assign (Operand.tmp 33), _, _, _, none⟩) (v := ?v10) rfl (by kernel_rfl) (by kernel_rfl) (by kernel_rfl) (fun _ _ _ h => h) (Or.inl ⟨by rfl, ?hy10⟩) hH ?_
    case hy10 =>
      intro y hy
      (try dsimp only at hy)
      go_simp
      try with_reducible rfl
    try simp only [Act.put, List.setIfInBounds_toArray, List.set_cons_zero, List.set_cons_succ]
    refine wpAnyH_done (by kernel_rfl) ?_ _
    refine NoPanic.normal ?_
    all_goals
      go_wp2
      exact bodyPost_ret (v := .tuple #[.agg #[.slice a5 n5 c5, .bool m5], .agg #[.bool b, .string d], .bool false]) (by simp [results, Tryd.results49, go_sem, e1, e2, e3, e4]) rfl ⟨a5, n5, c5, m5, by rw [HBZ.out.1, HBZ.out.2], HI.out, HBL.out⟩

end Go.Proofs.YtkjdoknmmiaapaaDoor
