/-
  The document's answers (package typeballref02): Add, Mul, by contract.
-/
import Derived.Test.YtkjdoknmmiaapaaDoorWr1
import Derived.Test.YtkjdoknmmiaapaaDoorWh6
import Derived.Test.YtkjdoknmmiaapaaDoorRef7
namespace Go.Proofs.YtkjdoknmmiaapaaDoor
open Go.RowKit
attribute [local go_sem ↓] Go.wp_at_zero Go.wp_at_succ

def RX (y : World) (k : Nat) : Prop := ∃ x z, Slot2 y k x z
theorem RX.below {w w' : World} {k : Nat} (h : RX w k) (hb : Below w.heap.size w w') : RX w' k := by
  obtain ⟨x, z, h1⟩ := h; exact ⟨x, z, h1.below hb⟩
theorem Slot2.put2s {w : World} {k : Nat} {x z : Value} (h : Slot2 w k x z) (u v : Value) : Slot2 (put2 w k u v) k u v :=
  ⟨(h.set u v).1, (h.set u v).2, by simp [put2, h.free], by simp [put2, h.free1], by simpa [put2] using h.lt⟩
theorem Slot2.put2o {w : World} {k j : Nat} {x z : Value} (h1 : Slot2 w j x z) (e : j ≠ k) (u v : Value) : Slot2 (put2 w k u v) j x z := by
  refine ⟨?_, ?_, by simp [put2, h1.free], by simp [put2, h1.free1], by simpa [put2] using h1.lt⟩
  · unfold put2; rw [World.cell?_setCell_other _ _ _ _ (fun e' => by cases e' <;> exact e rfl), World.cell?_setCell_other _ _ _ _ (fun e' => by cases e' <;> exact e rfl)]; exact h1.cell
  · unfold put2; rw [World.cell?_setCell_other _ _ _ _ (fun e' => by cases e' <;> exact e rfl), World.cell?_setCell_other _ _ _ _ (fun e' => by cases e' <;> exact e rfl)]; exact h1.cell1
theorem RX.put2 {w : World} {k j : Nat} (h : RX w j) (u v : Value) : RX (put2 w k u v) j := by
  obtain ⟨x, z, h1⟩ := h
  by_cases e : j = k
  · subst e; exact ⟨_, _, h1.put2s u v⟩
  · exact ⟨_, _, h1.put2o e u v⟩
theorem Bag.put2 {w0 w : World} {P : World → Prop} (h : Bag w0 P w) {k : Nat} (hk : w0.heap.size ≤ k) {u v : Value} (hp : P w → P (put2 w k u v)) : Bag w0 P (put2 w k u v) :=
  ⟨(h.below.setCell hk _).setCell hk _, h.stay, hp h.now⟩

/-- Two numbers' blocks, and the answer's. -/
def BP (k : Nat) (b : Bool) (s : ByteArray) (b2 : Bool) (s2 : ByteArray) (y : World) : Prop := RX y (k + 1 + 1) ∧ Slot2 y (k + 1) (.bool b2) (.string s2) ∧ Slot2 y k (.bool b) (.string s)
theorem BP.stay {k : Nat} {b : Bool} {s : ByteArray} {b2 : Bool} {s2 : ByteArray} : ∀ x y, Below x.heap.size x y → BP k b s b2 s2 x → BP k b s b2 s2 y := fun _ _ hb h => ⟨h.1.below hb, h.2.1.below hb, h.2.2.below hb⟩
theorem BP.put2 {k : Nat} {b : Bool} {s : ByteArray} {b2 : Bool} {s2 : ByteArray} {y : World} (h : BP k b s b2 s2 y) (u v : Value) : BP k b s b2 s2 (put2 y (k + 1 + 1) u v) := ⟨h.1.put2 u v, h.2.1.put2o (by omega) u v, h.2.2.put2o (by omega) u v⟩
theorem BP.start (w : World) (b : Bool) (s : ByteArray) (b2 : Bool) (s2 : ByteArray) : Bag w (BP w.heap.size b s b2 s2) (((w.alloc (.cells #[.bool b, .string s] 62)).alloc (.cells #[.bool b2, .string s2] 62)).alloc (.cells #[.bool false, .string ⟨#[]⟩] 62)) := by
  have B0 := (((Bag.start w).box2 (.bool b) (.string s) 62).box2 (.bool b2) (.string s2) 62).box2 (.bool false) (.string ⟨#[]⟩) 62
  simp only [World.size_alloc] at B0
  exact ⟨B0.below, BP.stay, ⟨_, _, B0.now.1⟩, B0.now.2.1, B0.now.2.2.1⟩

theorem dl_add_le {x y k : Nat} (hx : dl x ≤ k) (hy : dl y ≤ k) : dl (x + y) ≤ k + 1 := by
  refine dl_le _ _ (by omega) ?_
  have h1 := dl_lt x
  have h2 := dl_lt y
  have h3 := Nat.pow_le_pow_right (show 0 < 10 by omega) hx
  have h4 := Nat.pow_le_pow_right (show 0 < 10 by omega) hy
  rw [Nat.pow_succ]; omega
theorem dl_mono {x y : Nat} (h : x ≤ y) : dl x ≤ dl y := dl_le _ _ (dl_pos y) (Nat.lt_of_le_of_lt h (dl_lt y))
theorem dl_mul_le {x y k m : Nat} (hx : dl x ≤ k) (hy : dl y ≤ m) : dl (x * y) ≤ k + m := by
  have h1 := dl_lt x
  have h2 := dl_lt y
  have h3 := Nat.pow_le_pow_right (show 0 < 10 by omega) hx
  have h4 := Nat.pow_le_pow_right (show 0 < 10 by omega) hy
  have := dl_pos x
  refine dl_le _ _ (by omega) ?_
  rw [Nat.pow_add]
  have a1 : x * y ≤ x * 10 ^ m := Nat.mul_le_mul_left _ (by omega)
  have a2 : x * 10 ^ m < 10 ^ k * 10 ^ m := Nat.mul_lt_mul_of_pos_right (by omega) (Nat.pow_pos (by omega))
  omega

set_option maxHeartbeats 1600000 in
set_option maxRecDepth 100000 in
theorem rAdd_same (Z Y : Int) (w : World) (hl : dl Z.natAbs ≤ 1000) (hl2 : dl Y.natAbs ≤ 1000) (hs : rB Z = rB Y) :
    Calls Tryd.prog 65 #[.agg #[.bool (rB Z), .string (rS Z)], .agg #[.bool (rB Y), .string (rS Y)]] w fun e w' => RTold w w' e (Z + Y) := by
  have hd : (rB Z == rB Y) = true := by rw [hs]; simp
  have hv : sgn (rB Z) (Z.natAbs + Y.natAbs) = Z + Y := by
    unfold rB at *
    by_cases h1 : Z < 0
    · rw [decide_eq_true h1] at hs ⊢
      have := of_decide_eq_true hs.symm
      simp [sgn]; omega
    · rw [decide_eq_false h1] at hs ⊢
      have := of_decide_eq_false hs.symm
      simp [sgn]; omega
  have OF : Hid (∀ wz, Calls Tryd.prog 93 #[.bool (rB Z), .string (str (dec (Z.natAbs + Y.natAbs)))] wz fun e w' => RTold wz w' e (Z + Y)) := by
    intro wz
    have h1 := rOf_dec (rB Z) (Z.natAbs + Y.natAbs) wz (by have := dl_add_le hl hl2; omega)
    rw [show sgn (rB Z) (Z.natAbs + Y.natAbs) = Z + Y from hv] at h1
    exact h1
  have C1 : Hid (∀ wz, Calls Tryd.prog 36 #[.string (rS Z), .string (rS Y)] wz fun e w' => e = .returned (.string (str (dec (Z.natAbs + Y.natAbs)))) ∧ Below wz.heap.size wz w') := fun wz => radd_any Z.natAbs (dl Z.natAbs) Y.natAbs (dl Y.natAbs) wz (dl_lt _) (dl_lt _) (by omega) (by omega)
  clear hs
  obtain ⟨V, hV⟩ : ∃ V, Z + Y = V := ⟨_, rfl⟩
  rw [hV] at OF ⊢
  obtain ⟨t, ht⟩ : ∃ t, str (dec (Z.natAbs + Y.natAbs)) = t := ⟨_, rfl⟩
  rw [ht] at OF C1
  clear hV ht hv
  generalize rB Z = b at *
  generalize rS Z = s at *
  generalize rB Y = b2 at *
  generalize rS Y = s2 at *
  clear hl hl2
  have BB := Lib.hid (BP.start w b s b2 s2)
  have q0 := BB.out.now.2.2.cell
  have q1 := BB.out.now.2.2.cell1
  have q2 := BB.out.now.2.1.cell
  have q3 := BB.out.now.2.1.cell1
  go_enter Tryd.func65, Tryd.ntmps65
  go_wp2_with fail
  go_region_held3 (fun y => (y.cell? ⟨w.heap.size, 0, none⟩ = some (.bool b) ∧ y.cell? ⟨w.heap.size, 1, none⟩ = some (.string s) ∧ y.cell? ⟨w.heap.size + 1, 0, none⟩ = some (.bool b2) ∧ y.cell? ⟨w.heap.size + 1, 1, none⟩ = some (.string s2)) ∧ Bag w (BP w.heap.size b s b2 s2) y)
    (first
      | (have B9 := BB.out.drew; exact ⟨⟨B9.now.2.2.cell, B9.now.2.2.cell1, B9.now.2.1.cell, B9.now.2.1.cell1⟩, B9⟩)
      | (have B9 := Bag.go (show Bag w (BP w.heap.size b s b2 s2) _ from by go_split_ands; assumption) hb2; exact ⟨⟨B9.now.2.2.cell, B9.now.2.2.cell1, B9.now.2.1.cell, B9.now.2.1.cell1⟩, B9⟩)
      | (have B9 := Bag.put2 (show Bag w (BP w.heap.size b s b2 s2) _ from by go_split_ands; assumption) (k := w.heap.size + 1 + 1) (u := .bool (rB V)) (v := .string (rS V)) (by omega) (fun h => h.put2 _ _); exact ⟨⟨B9.now.2.2.cell, B9.now.2.2.cell1, B9.now.2.1.cell, B9.now.2.1.cell1⟩, B9⟩))
    (first
      | (go_at_call 36; (with_reducible refine (C1.out _).mono ?_); rintro e w2 ⟨rfl, hb2⟩)
      | (go_at_call 93; (with_reducible refine (OF.out _).mono ?_); rintro e w2 ⟨rfl, hb2⟩; have B7 := Bag.go (show Bag w (BP w.heap.size b s b2 s2) _ from by go_split_ands; assumption) hb2; obtain ⟨x8, z8, hs8⟩ := B7.now.1; have hc1 := hs8.cell; have hc2 := hs8.cell1; have hf1 := hs8.free; have hf2 := hs8.free1; have HS := hs8.set (.bool (rB V)) (.string (rS V)); have HE := Lib.hid (RTold.fin (Y := V) B7.below (show w.heap.size ≤ w.heap.size + 1 + 1 by omega) rfl rfl); unfold put2 at HE; clear hs8 B7))
  go_wp2
  exact bodyPost_ret (v := .agg #[.bool (rB V), .string (rS V)]) (by simp [results, Tryd.results65, go_sem, HS]) rfl HE.out

set_option maxHeartbeats 1600000 in
set_option maxRecDepth 100000 in
theorem rAdd_less (Z Y : Int) (w : World) (hl : dl Z.natAbs ≤ 1000) (hl2 : dl Y.natAbs ≤ 1000) (hs : ¬ rB Z = rB Y) (hle : Y.natAbs ≤ Z.natAbs) :
    Calls Tryd.prog 65 #[.agg #[.bool (rB Z), .string (rS Z)], .agg #[.bool (rB Y), .string (rS Y)]] w fun e w' => RTold w w' e (Z + Y) := by
  have hd : (rB Z == rB Y) = false := by simpa using hs
  have hv : sgn (rB Z) (Z.natAbs - Y.natAbs) = Z + Y := by
    unfold rB at *
    by_cases h1 : Z < 0
    · rw [decide_eq_true h1] at hs
      by_cases h2 : Y < 0
      · rw [decide_eq_true h2] at hs; exact absurd rfl hs
      · first | rw [decide_eq_true h1] | rw [decide_eq_false h2]
        simp [sgn]; omega
    · rw [decide_eq_false h1] at hs
      by_cases h2 : Y < 0
      · first | rw [decide_eq_false h1] | rw [decide_eq_true h2]
        simp [sgn]; omega
      · rw [decide_eq_false h2] at hs; exact absurd rfl hs
  have CM : Hid (∀ wz, Calls Tryd.prog 33 #[.string (rS Z), .string (rS Y)] wz fun e w' => e = .returned (.int .i64 (cmpI Z.natAbs Y.natAbs)) ∧ wz = w') := fun wz => rcmp_any Z.natAbs Y.natAbs wz (by omega) (by omega)
  obtain ⟨cm, hcm⟩ : ∃ cm, cmpI Z.natAbs Y.natAbs = cm := ⟨_, rfl⟩
  rw [hcm] at CM
  have hge : 0 ≤ cm := by
    obtain ⟨k, hk⟩ := cmp_pos hle
    omega
  have d1 : decide (0 ≤ cm) = true := decide_eq_true hge
  have OF : Hid (∀ wz, Calls Tryd.prog 93 #[.bool (rB Z), .string (str (dec (Z.natAbs - Y.natAbs)))] wz fun e w' => RTold wz w' e (Z + Y)) := by
    intro wz
    have h1 := rOf_dec (rB Z) (Z.natAbs - Y.natAbs) wz (by have := dl_mono (Nat.sub_le Z.natAbs Y.natAbs); omega)
    rw [show sgn (rB Z) (Z.natAbs - Y.natAbs) = Z + Y from hv] at h1
    exact h1
  have C1 : Hid (∀ wz, Calls Tryd.prog 34 #[.string (rS Z), .string (rS Y)] wz fun e w' => e = .returned (.string (str (dec (Z.natAbs - Y.natAbs)))) ∧ Below wz.heap.size wz w') := fun wz => rsub_any Z.natAbs (dl Z.natAbs) Y.natAbs (dl Y.natAbs) wz (dl_lt _) (dl_lt _) (by omega) (by omega) hle
  clear hs hcm hle
  obtain ⟨V, hV⟩ : ∃ V, Z + Y = V := ⟨_, rfl⟩
  rw [hV] at OF ⊢
  obtain ⟨t, ht⟩ : ∃ t, str (dec (Z.natAbs - Y.natAbs)) = t := ⟨_, rfl⟩
  rw [ht] at OF C1
  clear hV ht hv
  generalize rB Z = b at *
  generalize rS Z = s at *
  generalize rB Y = b2 at *
  generalize rS Y = s2 at *
  clear hl hl2
  have BB := Lib.hid (BP.start w b s b2 s2)
  have q0 := BB.out.now.2.2.cell
  have q1 := BB.out.now.2.2.cell1
  have q2 := BB.out.now.2.1.cell
  have q3 := BB.out.now.2.1.cell1
  go_enter Tryd.func65, Tryd.ntmps65
  go_wp2_with (go_at_call 33; (with_reducible refine (CM.out _).mono ?_); rintro e w5 ⟨rfl, rfl⟩)
  go_region_held3 (fun y => (y.cell? ⟨w.heap.size, 0, none⟩ = some (.bool b) ∧ y.cell? ⟨w.heap.size, 1, none⟩ = some (.string s) ∧ y.cell? ⟨w.heap.size + 1, 0, none⟩ = some (.bool b2) ∧ y.cell? ⟨w.heap.size + 1, 1, none⟩ = some (.string s2)) ∧ Bag w (BP w.heap.size b s b2 s2) y)
    (first
      | (have B9 := BB.out.drew; exact ⟨⟨B9.now.2.2.cell, B9.now.2.2.cell1, B9.now.2.1.cell, B9.now.2.1.cell1⟩, B9⟩)
      | (have B9 := Bag.go (show Bag w (BP w.heap.size b s b2 s2) _ from by go_split_ands; assumption) hb2; exact ⟨⟨B9.now.2.2.cell, B9.now.2.2.cell1, B9.now.2.1.cell, B9.now.2.1.cell1⟩, B9⟩)
      | (have B9 := Bag.put2 (show Bag w (BP w.heap.size b s b2 s2) _ from by go_split_ands; assumption) (k := w.heap.size + 1 + 1) (u := .bool (rB V)) (v := .string (rS V)) (by omega) (fun h => h.put2 _ _); exact ⟨⟨B9.now.2.2.cell, B9.now.2.2.cell1, B9.now.2.1.cell, B9.now.2.1.cell1⟩, B9⟩))
    (first
      | (go_at_call 34; (with_reducible refine (C1.out _).mono ?_); rintro e w2 ⟨rfl, hb2⟩)
      | (go_at_call 93; (with_reducible refine (OF.out _).mono ?_); rintro e w2 ⟨rfl, hb2⟩; have B7 := Bag.go (show Bag w (BP w.heap.size b s b2 s2) _ from by go_split_ands; assumption) hb2; obtain ⟨x8, z8, hs8⟩ := B7.now.1; have hc1 := hs8.cell; have hc2 := hs8.cell1; have hf1 := hs8.free; have hf2 := hs8.free1; have HS := hs8.set (.bool (rB V)) (.string (rS V)); have HE := Lib.hid (RTold.fin (Y := V) B7.below (show w.heap.size ≤ w.heap.size + 1 + 1 by omega) rfl rfl); unfold put2 at HE; clear hs8 B7))
  go_wp2
  exact bodyPost_ret (v := .agg #[.bool (rB V), .string (rS V)]) (by simp [results, Tryd.results65, go_sem, HS]) rfl HE.out

set_option maxHeartbeats 1600000 in
set_option maxRecDepth 100000 in
theorem rAdd_more (Z Y : Int) (w : World) (hl : dl Z.natAbs ≤ 1000) (hl2 : dl Y.natAbs ≤ 1000) (hs : ¬ rB Z = rB Y) (hle : Z.natAbs < Y.natAbs) :
    Calls Tryd.prog 65 #[.agg #[.bool (rB Z), .string (rS Z)], .agg #[.bool (rB Y), .string (rS Y)]] w fun e w' => RTold w w' e (Z + Y) := by
  have hd : (rB Z == rB Y) = false := by simpa using hs
  have hv : sgn (rB Y) (Y.natAbs - Z.natAbs) = Z + Y := by
    unfold rB at *
    by_cases h1 : Z < 0
    · rw [decide_eq_true h1] at hs
      by_cases h2 : Y < 0
      · rw [decide_eq_true h2] at hs; exact absurd rfl hs
      · first | rw [decide_eq_true h1] | rw [decide_eq_false h2]
        simp [sgn]; omega
    · rw [decide_eq_false h1] at hs
      by_cases h2 : Y < 0
      · first | rw [decide_eq_false h1] | rw [decide_eq_true h2]
        simp [sgn]; omega
      · rw [decide_eq_false h2] at hs; exact absurd rfl hs
  have CM : Hid (∀ wz, Calls Tryd.prog 33 #[.string (rS Z), .string (rS Y)] wz fun e w' => e = .returned (.int .i64 (cmpI Z.natAbs Y.natAbs)) ∧ wz = w') := fun wz => rcmp_any Z.natAbs Y.natAbs wz (by omega) (by omega)
  obtain ⟨cm, hcm⟩ : ∃ cm, cmpI Z.natAbs Y.natAbs = cm := ⟨_, rfl⟩
  rw [hcm] at CM
  have hlt : cm = -1 := by rw [← hcm]; exact cmp_neg hle
  subst hlt
  have OF : Hid (∀ wz, Calls Tryd.prog 93 #[.bool (rB Y), .string (str (dec (Y.natAbs - Z.natAbs)))] wz fun e w' => RTold wz w' e (Z + Y)) := by
    intro wz
    have h1 := rOf_dec (rB Y) (Y.natAbs - Z.natAbs) wz (by have := dl_mono (Nat.sub_le Y.natAbs Z.natAbs); omega)
    rw [show sgn (rB Y) (Y.natAbs - Z.natAbs) = Z + Y from hv] at h1
    exact h1
  have C1 : Hid (∀ wz, Calls Tryd.prog 34 #[.string (rS Y), .string (rS Z)] wz fun e w' => e = .returned (.string (str (dec (Y.natAbs - Z.natAbs)))) ∧ Below wz.heap.size wz w') := fun wz => rsub_any Y.natAbs (dl Y.natAbs) Z.natAbs (dl Z.natAbs) wz (dl_lt _) (dl_lt _) (by omega) (by omega) (by omega)
  clear hs hcm hle
  obtain ⟨V, hV⟩ : ∃ V, Z + Y = V := ⟨_, rfl⟩
  rw [hV] at OF ⊢
  obtain ⟨t, ht⟩ : ∃ t, str (dec (Y.natAbs - Z.natAbs)) = t := ⟨_, rfl⟩
  rw [ht] at OF C1
  clear hV ht hv
  generalize rB Z = b at *
  generalize rS Z = s at *
  generalize rB Y = b2 at *
  generalize rS Y = s2 at *
  clear hl hl2
  have BB := Lib.hid (BP.start w b s b2 s2)
  have q0 := BB.out.now.2.2.cell
  have q1 := BB.out.now.2.2.cell1
  have q2 := BB.out.now.2.1.cell
  have q3 := BB.out.now.2.1.cell1
  go_enter Tryd.func65, Tryd.ntmps65
  go_wp2_with (go_at_call 33; (with_reducible refine (CM.out _).mono ?_); rintro e w5 ⟨rfl, rfl⟩)
  go_region_held3 (fun y => (y.cell? ⟨w.heap.size, 0, none⟩ = some (.bool b) ∧ y.cell? ⟨w.heap.size, 1, none⟩ = some (.string s) ∧ y.cell? ⟨w.heap.size + 1, 0, none⟩ = some (.bool b2) ∧ y.cell? ⟨w.heap.size + 1, 1, none⟩ = some (.string s2)) ∧ Bag w (BP w.heap.size b s b2 s2) y)
    (first
      | (have B9 := BB.out.drew; exact ⟨⟨B9.now.2.2.cell, B9.now.2.2.cell1, B9.now.2.1.cell, B9.now.2.1.cell1⟩, B9⟩)
      | (have B9 := Bag.go (show Bag w (BP w.heap.size b s b2 s2) _ from by go_split_ands; assumption) hb2; exact ⟨⟨B9.now.2.2.cell, B9.now.2.2.cell1, B9.now.2.1.cell, B9.now.2.1.cell1⟩, B9⟩)
      | (have B9 := Bag.put2 (show Bag w (BP w.heap.size b s b2 s2) _ from by go_split_ands; assumption) (k := w.heap.size + 1 + 1) (u := .bool (rB V)) (v := .string (rS V)) (by omega) (fun h => h.put2 _ _); exact ⟨⟨B9.now.2.2.cell, B9.now.2.2.cell1, B9.now.2.1.cell, B9.now.2.1.cell1⟩, B9⟩))
    (first
      | (go_at_call 34; (with_reducible refine (C1.out _).mono ?_); rintro e w2 ⟨rfl, hb2⟩)
      | (go_at_call 93; (with_reducible refine (OF.out _).mono ?_); rintro e w2 ⟨rfl, hb2⟩; have B7 := Bag.go (show Bag w (BP w.heap.size b s b2 s2) _ from by go_split_ands; assumption) hb2; obtain ⟨x8, z8, hs8⟩ := B7.now.1; have hc1 := hs8.cell; have hc2 := hs8.cell1; have hf1 := hs8.free; have hf2 := hs8.free1; have HS := hs8.set (.bool (rB V)) (.string (rS V)); have HE := Lib.hid (RTold.fin (Y := V) B7.below (show w.heap.size ≤ w.heap.size + 1 + 1 by omega) rfl rfl); unfold put2 at HE; clear hs8 B7))
  go_wp2
  exact bodyPost_ret (v := .agg #[.bool (rB V), .string (rS V)]) (by simp [results, Tryd.results65, go_sem, HS]) rfl HE.out

set_option maxHeartbeats 1600000 in
set_option maxRecDepth 100000 in
theorem rMul_any (Z Y : Int) (w : World) (hl : dl Z.natAbs ≤ 1000) (hl2 : dl Y.natAbs ≤ 1000)  :
    Calls Tryd.prog 68 #[.agg #[.bool (rB Z), .string (rS Z)], .agg #[.bool (rB Y), .string (rS Y)]] w fun e w' => RTold w w' e (Z * Y) := by
  have hv : sgn (rB Z != rB Y) (Z.natAbs * Y.natAbs) = Z * Y := sgn_mul Z Y
  have OF : Hid (∀ wz, Calls Tryd.prog 93 #[.bool (rB Z != rB Y), .string (str (dec (Z.natAbs * Y.natAbs)))] wz fun e w' => RTold wz w' e (Z * Y)) := by
    intro wz
    have h1 := rOf_dec (rB Z != rB Y) (Z.natAbs * Y.natAbs) wz (by have := dl_mul_le hl hl2; omega)
    rw [show sgn (rB Z != rB Y) (Z.natAbs * Y.natAbs) = Z * Y from hv] at h1
    exact h1
  have C1 : Hid (∀ wz, Calls Tryd.prog 41 #[.string (rS Z), .string (rS Y)] wz fun e w' => e = .returned (.string (str (dec (Z.natAbs * Y.natAbs)))) ∧ Below wz.heap.size wz w') := fun wz => rmul_any Z.natAbs (dl Z.natAbs) Y.natAbs (dl Y.natAbs) wz (dl_lt _) (dl_lt _) (by omega) (by omega)
  obtain ⟨mm, hmm⟩ : ∃ mm, (!(rB Z == rB Y)) = mm := ⟨_, rfl⟩
  rw [show (rB Z != rB Y) = mm from hmm] at OF
  obtain ⟨V, hV⟩ : ∃ V, Z * Y = V := ⟨_, rfl⟩
  rw [hV] at OF ⊢
  obtain ⟨t, ht⟩ : ∃ t, str (dec (Z.natAbs * Y.natAbs)) = t := ⟨_, rfl⟩
  rw [ht] at OF C1
  clear hV ht hv
  generalize rB Z = b at *
  generalize rS Z = s at *
  generalize rB Y = b2 at *
  generalize rS Y = s2 at *
  clear hl hl2
  have BB := Lib.hid (BP.start w b s b2 s2)
  have q0 := BB.out.now.2.2.cell
  have q1 := BB.out.now.2.2.cell1
  have q2 := BB.out.now.2.1.cell
  have q3 := BB.out.now.2.1.cell1
  go_enter Tryd.func68, Tryd.ntmps68
  go_wp2_with fail
  go_region_held3 (fun y => (y.cell? ⟨w.heap.size, 0, none⟩ = some (.bool b) ∧ y.cell? ⟨w.heap.size, 1, none⟩ = some (.string s) ∧ y.cell? ⟨w.heap.size + 1, 0, none⟩ = some (.bool b2) ∧ y.cell? ⟨w.heap.size + 1, 1, none⟩ = some (.string s2)) ∧ Bag w (BP w.heap.size b s b2 s2) y)
    (first
      | (have B9 := BB.out.drew; exact ⟨⟨B9.now.2.2.cell, B9.now.2.2.cell1, B9.now.2.1.cell, B9.now.2.1.cell1⟩, B9⟩)
      | (have B9 := Bag.go (show Bag w (BP w.heap.size b s b2 s2) _ from by go_split_ands; assumption) hb2; exact ⟨⟨B9.now.2.2.cell, B9.now.2.2.cell1, B9.now.2.1.cell, B9.now.2.1.cell1⟩, B9⟩)
      | (have B9 := Bag.put2 (show Bag w (BP w.heap.size b s b2 s2) _ from by go_split_ands; assumption) (k := w.heap.size + 1 + 1) (u := .bool (rB V)) (v := .string (rS V)) (by omega) (fun h => h.put2 _ _); exact ⟨⟨B9.now.2.2.cell, B9.now.2.2.cell1, B9.now.2.1.cell, B9.now.2.1.cell1⟩, B9⟩))
    (first
      | (go_at_call 41; (with_reducible refine (C1.out _).mono ?_); rintro e w2 ⟨rfl, hb2⟩)
      | (go_at_call 93; (with_reducible refine (OF.out _).mono ?_); rintro e w2 ⟨rfl, hb2⟩; have B7 := Bag.go (show Bag w (BP w.heap.size b s b2 s2) _ from by go_split_ands; assumption) hb2; obtain ⟨x8, z8, hs8⟩ := B7.now.1; have hc1 := hs8.cell; have hc2 := hs8.cell1; have hf1 := hs8.free; have hf2 := hs8.free1; have HS := hs8.set (.bool (rB V)) (.string (rS V)); have HE := Lib.hid (RTold.fin (Y := V) B7.below (show w.heap.size ≤ w.heap.size + 1 + 1 by omega) rfl rfl); unfold put2 at HE; clear hs8 B7))
  go_wp2
  exact bodyPost_ret (v := .agg #[.bool (rB V), .string (rS V)]) (by simp [results, Tryd.results68, go_sem, HS]) rfl HE.out

theorem rAdd_any (Z Y : Int) (w : World) (hl : dl Z.natAbs ≤ 1000) (hl2 : dl Y.natAbs ≤ 1000) :
    Calls Tryd.prog 65 #[.agg #[.bool (rB Z), .string (rS Z)], .agg #[.bool (rB Y), .string (rS Y)]] w fun e w' => RTold w w' e (Z + Y) := by
  by_cases hs : rB Z = rB Y
  · exact rAdd_same Z Y w hl hl2 hs
  · rcases Nat.lt_or_ge Z.natAbs Y.natAbs with h | h
    · exact rAdd_more Z Y w hl hl2 hs h
    · exact rAdd_less Z Y w hl hl2 hs h

end Go.Proofs.YtkjdoknmmiaapaaDoor
