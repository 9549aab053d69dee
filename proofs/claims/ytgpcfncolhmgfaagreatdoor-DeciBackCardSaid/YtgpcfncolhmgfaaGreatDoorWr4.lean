/-
  The document's answers (package typeballref02): Floor, by contract.
-/
import Derived.Test.YtgpcfncolhmgfaaGreatDoorK8
import Derived.Test.YtgpcfncolhmgfaaGreatDoorK5
import Derived.Test.YtgpcfncolhmgfaaGreatDoorK7
namespace Go.Proofs.YtgpcfncolhmgfaaGreatDoor
open Go.RowKit
attribute [local go_sem ↓] Go.wp_at_zero Go.wp_at_succ

theorem RX.lt {w : World} {k : Nat} (h : RX w k) : k < w.heap.size := by
  obtain ⟨x, z, h1⟩ := h; exact h1.lt

/-- What Floor keeps: its two numbers' blocks and the answers'. -/
def RF (k : Nat) (b : Bool) (s : ByteArray) (b2 : Bool) (s2 : ByteArray) (y : World) : Prop := RX y (k + 1 + 1) ∧ RX y (k + 1 + 1 + 1) ∧ Slot2 y (k + 1) (.bool b2) (.string s2) ∧ Slot2 y k (.bool b) (.string s)
theorem RF.stay {k : Nat} {b : Bool} {s : ByteArray} {b2 : Bool} {s2 : ByteArray} : ∀ x y, Below x.heap.size x y → RF k b s b2 s2 x → RF k b s b2 s2 y := fun _ _ hb h => ⟨h.1.below hb, h.2.1.below hb, h.2.2.1.below hb, h.2.2.2.below hb⟩
theorem RF.start (w : World) (b : Bool) (s : ByteArray) (b2 : Bool) (s2 : ByteArray) : Bag w (RF w.heap.size b s b2 s2) ((((w.alloc (.cells #[.bool b, .string s] 56)).alloc (.cells #[.bool b2, .string s2] 56)).alloc (.cells #[.bool false, .string ⟨#[]⟩] 56)).alloc (.cells #[.bool false, .string ⟨#[]⟩] 56)) := by
  have B0 := ((((Bag.start w).box2 (.bool b) (.string s) 56).box2 (.bool b2) (.string s2) 56).box2 (.bool false) (.string ⟨#[]⟩) 56).box2 (.bool false) (.string ⟨#[]⟩) 56
  simp only [World.size_alloc] at B0
  exact ⟨B0.below, RF.stay, ⟨_, _, B0.now.2.1⟩, ⟨_, _, B0.now.1⟩, B0.now.2.2.1, B0.now.2.2.2.1⟩
theorem RF.put2 {k j : Nat} {b : Bool} {s : ByteArray} {b2 : Bool} {s2 : ByteArray} {y : World} (h : RF k b s b2 s2 y) (h1 : k ≠ j) (h2 : k + 1 ≠ j) (u v : Value) : RF k b s b2 s2 (put2 y j u v) := ⟨h.1.put2 u v, h.2.1.put2 u v, h.2.2.1.put2o h2 u v, h.2.2.2.put2o h1 u v⟩

def RFloor (w w' : World) (e : Ending) (Q R : Int) : Prop := e = .returned (.tuple #[.agg #[.bool (rB Q), .string (rS Q)], .agg #[.bool (rB R), .string (rS R)]]) ∧ Below w.heap.size w w'

/-- Quotient and rest out of the sizes. -/
theorem fl_times {Z Y : Int} (hY : Y ≠ 0) : Z = flQ Z Y * Y + flR Z Y := by
  obtain ⟨q, hq⟩ : ∃ q, Z.natAbs / Y.natAbs = q := ⟨_, rfl⟩
  obtain ⟨r, hr⟩ : ∃ r, Z.natAbs % Y.natAbs = r := ⟨_, rfl⟩
  have e := Nat.div_add_mod Z.natAbs Y.natAbs
  have hrl : r < Y.natAbs := by rw [← hr]; exact Nat.mod_lt _ (by omega)
  rw [hq, hr] at e
  unfold flQ flR flU flA
  rw [hq, hr]
  by_cases hz : Z < 0
  · obtain ⟨z, rfl⟩ : ∃ z : Nat, Z = -(z : Int) := ⟨Z.natAbs, by omega⟩
    by_cases hy : Y < 0
    · obtain ⟨y, rfl⟩ : ∃ y : Nat, Y = -(y : Int) := ⟨Y.natAbs, by omega⟩
      rw [decide_eq_true hz, decide_eq_true hy]
      simp only [Int.natAbs_neg, Int.natAbs_natCast] at e
      have e' : (y : Int) * (q : Int) + (r : Int) = (z : Int) := by exact_mod_cast e
      simp [sgn]
      rw [Int.mul_neg, Int.mul_comm (q : Int)]; omega
    · obtain ⟨y, rfl⟩ : ∃ y : Nat, Y = (y : Int) := ⟨Y.natAbs, by omega⟩
      rw [decide_eq_true hz, decide_eq_false hy]
      simp at e hrl
      have e' : (y : Int) * (q : Int) + (r : Int) = (z : Int) := by exact_mod_cast e
      by_cases h0 : r = 0
      · subst h0
        simp [sgn]
        rw [Int.neg_mul, Int.mul_comm (q : Int)]; omega
      · simp [sgn, h0]
        rw [Int.neg_mul, Int.add_mul, Int.mul_comm (q : Int)]; omega
  · obtain ⟨z, rfl⟩ : ∃ z : Nat, Z = (z : Int) := ⟨Z.natAbs, by omega⟩
    by_cases hy : Y < 0
    · obtain ⟨y, rfl⟩ : ∃ y : Nat, Y = -(y : Int) := ⟨Y.natAbs, by omega⟩
      rw [decide_eq_false hz, decide_eq_true hy]
      simp at e hrl
      have e' : (y : Int) * (q : Int) + (r : Int) = (z : Int) := by exact_mod_cast e
      by_cases h0 : r = 0
      · subst h0
        simp [sgn]
        rw [Int.neg_mul_neg, Int.mul_comm (q : Int)]; omega
      · simp [sgn, h0]
        rw [Int.neg_mul_neg, Int.add_mul, Int.mul_comm (q : Int)]; omega
    · obtain ⟨y, rfl⟩ : ∃ y : Nat, Y = (y : Int) := ⟨Y.natAbs, by omega⟩
      rw [decide_eq_false hz, decide_eq_false hy]
      simp [sgn] at e ⊢
      have e' : (y : Int) * (q : Int) + (r : Int) = (z : Int) := by exact_mod_cast e
      rw [Int.mul_comm (q : Int)]; omega

theorem flA_rB (Z Y : Int) : flA Z Y = (rB Z != rB Y) := rfl
theorem rB_of_nonneg {Z : Int} (h : 0 ≤ Z) : rB Z = false := decide_eq_false (by omega)

set_option maxHeartbeats 3200000 in
set_option maxRecDepth 100000 in
theorem rFloor_same (Z Y : Int) (w : World) (hl : dl Z.natAbs ≤ 400) (hl2 : dl Y.natAbs ≤ 400) (hY : Y ≠ 0) (hs : rB Z = rB Y) :
    Calls Tryz.prog 107 #[.agg #[.bool (rB Z), .string (rS Z)], .agg #[.bool (rB Y), .string (rS Y)]] w fun e w' => RFloor w w' e (flQ Z Y) (flR Z Y) := by
  have ha : flA Z Y = false := by rw [flA_rB, hs]; cases rB Y <;> rfl
  have hqe : flQ Z Y = ((Z.natAbs / Y.natAbs : Nat) : Int) := by unfold flQ flU; rw [ha]; simp [sgn]
  have hqd : dl (flQ Z Y).natAbs ≤ 400 := by rw [hqe, Int.natAbs_natCast]; exact Nat.le_trans (dl_mono (Nat.div_le_self _ _)) hl
  have hqb : rB (flQ Z Y) = false := rB_of_nonneg (by rw [hqe]; exact Int.natCast_nonneg _)
  have hqs : rS (flQ Z Y) = str (dec (Z.natAbs / Y.natAbs)) := by unfold rS; rw [hqe, Int.natAbs_natCast]
  have hpd : dl (flQ Z Y * Y).natAbs ≤ 800 := by rw [Int.natAbs_mul]; exact dl_mul_le hqd hl2
  have hR : Z + -(flQ Z Y * Y) = flR Z Y := by have := fl_times (Z := Z) hY; omega
  have DM : Hid (∀ wz, Calls Tryz.prog 94 #[.string (rS Z), .string (rS Y)] wz fun e w' => e = .returned (.tuple #[.string (str (dec (Z.natAbs / Y.natAbs))), .string (str (dec (Z.natAbs % Y.natAbs)))]) ∧ Below wz.heap.size wz w') := fun wz => rdivMod_any _ _ wz (by omega) (by omega) (by omega)
  have OF : Hid (∀ wz, Calls Tryz.prog 24 #[.bool false, .string (str (dec (Z.natAbs / Y.natAbs)))] wz fun e w' => RTold wz w' e (flQ Z Y)) := by
    intro wz
    have h1 := rOf_dec false (Z.natAbs / Y.natAbs) wz (Nat.le_trans (dl_mono (Nat.div_le_self _ _)) (by omega))
    rw [show sgn false (Z.natAbs / Y.natAbs) = flQ Z Y from by rw [hqe]; rfl] at h1
    exact h1
  have MU : Hid (∀ wz, Calls Tryz.prog 86 #[.agg #[.bool (rB (flQ Z Y)), .string (rS (flQ Z Y))], .agg #[.bool (rB Y), .string (rS Y)]] wz fun e w' => RTold wz w' e (flQ Z Y * Y)) := fun wz => rMul_any _ _ wz (by omega) (by omega)
  have MI : Hid (∀ wz, Calls Tryz.prog 137 #[.agg #[.bool (rB (flQ Z Y * Y)), .string (rS (flQ Z Y * Y))]] wz fun e w' => RTold wz w' e (-(flQ Z Y * Y))) := fun wz => rMinus_any _ wz (by omega)
  have AD : Hid (∀ wz, Calls Tryz.prog 136 #[.agg #[.bool (rB Z), .string (rS Z)], .agg #[.bool (rB (-(flQ Z Y * Y))), .string (rS (-(flQ Z Y * Y)))]] wz fun e w' => RTold wz w' e (flR Z Y)) := by
    intro wz
    have h1 := rAdd_any Z (-(flQ Z Y * Y)) wz (by omega) (by rw [Int.natAbs_neg]; omega)
    rw [hR] at h1; exact h1
  unfold RTold at OF MU MI AD
  rw [hqb] at OF MU
  rw [← hqs] at OF DM
  have hb : rB Z = rB Y := hs
  obtain ⟨b, hbe⟩ : ∃ b, rB Y = b := ⟨_, rfl⟩
  rw [hbe] at hb MU ⊢
  rw [hb] at AD ⊢
  obtain ⟨sq, hsq⟩ : ∃ sq, rS (flQ Z Y) = sq := ⟨_, rfl⟩
  obtain ⟨R, hRe⟩ : ∃ R, flR Z Y = R := ⟨_, rfl⟩
  obtain ⟨V, hV⟩ : ∃ V, flQ Z Y * Y = V := ⟨_, rfl⟩
  have HQ : Hid (Ending.returned (.tuple #[.agg #[.bool false, .string sq], .agg #[.bool (rB R), .string (rS R)]]) = .returned (.tuple #[.agg #[.bool (rB (flQ Z Y)), .string (rS (flQ Z Y))], .agg #[.bool (rB (flR Z Y)), .string (rS (flR Z Y))]])) := Lib.hid (by rw [hqb, hsq, hRe])
  rw [hsq] at OF DM MU
  rw [hRe] at AD
  rw [hV] at MU MI AD
  obtain ⟨s, hse⟩ : ∃ s, rS Z = s := ⟨_, rfl⟩
  obtain ⟨s2, hse2⟩ : ∃ s2, rS Y = s2 := ⟨_, rfl⟩
  rw [hse] at DM AD ⊢
  rw [hse2] at DM MU ⊢
  obtain ⟨b2, hb2e⟩ : ∃ b2, b = b2 := ⟨_, rfl⟩
  have BB := Lib.hid (RF.start w b s b s2)
  have q0 := BB.out.now.2.2.2.cell
  have q1 := BB.out.now.2.2.2.cell1
  have q2 := BB.out.now.2.2.1.cell
  have q3 := BB.out.now.2.2.1.cell1
  clear hl hl2 hY hs ha hqe hqd hqb hqs hpd hR hb hbe hsq hRe hV hse hse2 hb2e b2
  cases b
  · go_enter Tryz.func107, Tryz.ntmps107
    go_wp2_with (first
      | (go_at_call 94; (with_reducible refine (DM.out _).mono ?_); rintro e w2 ⟨rfl, hb2⟩; have BB := Lib.hid (BB.out.go hb2); have q0 := BB.out.now.2.2.2.cell; have q1 := BB.out.now.2.2.2.cell1; have q2 := BB.out.now.2.2.1.cell; have q3 := BB.out.now.2.2.1.cell1; clear hb2)
      | (go_at_call 24; (with_reducible refine (OF.out _).mono ?_); rintro e w3 ⟨rfl, hb3⟩; have hk3 : w.heap.size + 1 + 1 + 1 < w3.heap.size := RX.lt (BB.out.go hb3).now.2.1; have BB := Lib.hid ((BB.out.go hb3).box2 (.bool false) (.string sq) 56); have q0 := BB.out.now.2.2.2.2.cell; have q1 := BB.out.now.2.2.2.2.cell1; have q2 := BB.out.now.2.2.2.1.cell; have q3 := BB.out.now.2.2.2.1.cell1; have q4 := BB.out.now.1.cell; have q5 := BB.out.now.1.cell1; clear hb3))
    go_region_held3 (fun y => (y.cell? ⟨w.heap.size, 0, none⟩ = some (.bool false) ∧ y.cell? ⟨w.heap.size, 1, none⟩ = some (.string s) ∧ y.cell? ⟨w.heap.size + 1, 0, none⟩ = some (.bool false) ∧ y.cell? ⟨w.heap.size + 1, 1, none⟩ = some (.string s2) ∧ y.cell? ⟨w3.heap.size, 0, none⟩ = some (.bool false) ∧ y.cell? ⟨w3.heap.size, 1, none⟩ = some (.string sq)) ∧ Bag w (fun y => Slot2 y w3.heap.size (.bool false) (.string sq) ∧ RF w.heap.size false s false s2 y) y)
      (first
        | (have B9 := BB.out.drew; exact ⟨⟨B9.now.2.2.2.2.cell, B9.now.2.2.2.2.cell1, B9.now.2.2.2.1.cell, B9.now.2.2.2.1.cell1, B9.now.1.cell, B9.now.1.cell1⟩, B9⟩)
        | (have B9 := Bag.go (show Bag w (fun y => Slot2 y w3.heap.size (.bool false) (.string sq) ∧ RF w.heap.size false s false s2 y) _ from by go_split_ands; assumption) hb2; exact ⟨⟨B9.now.2.2.2.2.cell, B9.now.2.2.2.2.cell1, B9.now.2.2.2.1.cell, B9.now.2.2.2.1.cell1, B9.now.1.cell, B9.now.1.cell1⟩, B9⟩)
        | (have B9 := Bag.put2 (show Bag w (fun y => Slot2 y w3.heap.size (.bool false) (.string sq) ∧ RF w.heap.size false s false s2 y) _ from by go_split_ands; assumption) (k := w.heap.size + 1 + 1) (u := .bool false) (v := .string sq) (by omega) (fun h => ⟨h.1.put2o (by omega) _ _, h.2.put2 (by omega) (by omega) _ _⟩); exact ⟨⟨B9.now.2.2.2.2.cell, B9.now.2.2.2.2.cell1, B9.now.2.2.2.1.cell, B9.now.2.2.2.1.cell1, B9.now.1.cell, B9.now.1.cell1⟩, B9⟩)
        | (have B9 := Bag.put2 (show Bag w (fun y => Slot2 y w3.heap.size (.bool false) (.string sq) ∧ RF w.heap.size false s false s2 y) _ from by go_split_ands; assumption) (k := w.heap.size + 1 + 1 + 1) (u := .bool (rB R)) (v := .string (rS R)) (by omega) (fun h => ⟨h.1.put2o (by omega) _ _, h.2.put2 (by omega) (by omega) _ _⟩); exact ⟨⟨B9.now.2.2.2.2.cell, B9.now.2.2.2.2.cell1, B9.now.2.2.2.1.cell, B9.now.2.2.2.1.cell1, B9.now.1.cell, B9.now.1.cell1⟩, B9⟩))
      (first
        | (go_at_call 86; (with_reducible refine (MU.out _).mono ?_); rintro e w2 ⟨rfl, hb2⟩)
        | (go_at_call 137; (with_reducible refine (MI.out _).mono ?_); rintro e w2 ⟨rfl, hb2⟩)
        | (go_at_call 136; (with_reducible refine (AD.out _).mono ?_); rintro e w2 ⟨rfl, hb2⟩;
            have B7 := Bag.go (show Bag w (fun y => Slot2 y w3.heap.size (.bool false) (.string sq) ∧ RF w.heap.size false s false s2 y) _ from by go_split_ands; assumption) hb2;
            obtain ⟨x8, z8, hs8⟩ := B7.now.2.1;
            obtain ⟨x9, z9, hs9⟩ := B7.now.2.2.1;
            have hc1 := hs8.cell; have hc2 := hs8.cell1; have hc3 := hs9.cell; have hc4 := hs9.cell1; have hf1 := hs8.free; have hf2 := hs8.free1; have hf3 := hs9.free; have hf4 := hs9.free1;
            have HA := (hs8.put2s (.bool false) (.string sq)).put2o (show w.heap.size + 1 + 1 ≠ w.heap.size + 1 + 1 + 1 by omega) (.bool (rB R)) (.string (rS R));
            have HB := (hs9.put2o (show w.heap.size + 1 + 1 + 1 ≠ w.heap.size + 1 + 1 by omega) (.bool false) (.string sq)).put2s (.bool (rB R)) (.string (rS R));
            have e1 := HA.cell; have e2 := HA.cell1; have e3 := HB.cell; have e4 := HB.cell1;
            have HE : Hid (RFloor w (put2 (put2 w2 (w.heap.size + 1 + 1) (.bool false) (.string sq)) (w.heap.size + 1 + 1 + 1) (.bool (rB R)) (.string (rS R))) (.returned (.tuple #[.agg #[.bool false, .string sq], .agg #[.bool (rB R), .string (rS R)]])) (flQ Z Y) (flR Z Y)) := ⟨HQ.out, (((B7.below.setCell (show w.heap.size ≤ w.heap.size + 1 + 1 by omega) _).setCell (show w.heap.size ≤ w.heap.size + 1 + 1 by omega) _).setCell (show w.heap.size ≤ w.heap.size + 1 + 1 + 1 by omega) _).setCell (show w.heap.size ≤ w.heap.size + 1 + 1 + 1 by omega) _⟩;
            unfold put2 at HE e1 e2 e3 e4; clear hs8 hs9 HA HB B7))
    all_goals
      go_wp2
      exact bodyPost_ret (v := .tuple #[.agg #[.bool false, .string sq], .agg #[.bool (rB R), .string (rS R)]]) (by simp [results, Tryz.results107, go_sem, e1, e2, e3, e4]) rfl HE.out
  · go_enter Tryz.func107, Tryz.ntmps107
    go_wp2_with (first
      | (go_at_call 94; (with_reducible refine (DM.out _).mono ?_); rintro e w2 ⟨rfl, hb2⟩; have BB := Lib.hid (BB.out.go hb2); have q0 := BB.out.now.2.2.2.cell; have q1 := BB.out.now.2.2.2.cell1; have q2 := BB.out.now.2.2.1.cell; have q3 := BB.out.now.2.2.1.cell1; clear hb2)
      | (go_at_call 24; (with_reducible refine (OF.out _).mono ?_); rintro e w3 ⟨rfl, hb3⟩; have hk3 : w.heap.size + 1 + 1 + 1 < w3.heap.size := RX.lt (BB.out.go hb3).now.2.1; have BB := Lib.hid ((BB.out.go hb3).box2 (.bool false) (.string sq) 56); have q0 := BB.out.now.2.2.2.2.cell; have q1 := BB.out.now.2.2.2.2.cell1; have q2 := BB.out.now.2.2.2.1.cell; have q3 := BB.out.now.2.2.2.1.cell1; have q4 := BB.out.now.1.cell; have q5 := BB.out.now.1.cell1; clear hb3))
    go_region_held3 (fun y => (y.cell? ⟨w.heap.size, 0, none⟩ = some (.bool true) ∧ y.cell? ⟨w.heap.size, 1, none⟩ = some (.string s) ∧ y.cell? ⟨w.heap.size + 1, 0, none⟩ = some (.bool true) ∧ y.cell? ⟨w.heap.size + 1, 1, none⟩ = some (.string s2) ∧ y.cell? ⟨w3.heap.size, 0, none⟩ = some (.bool false) ∧ y.cell? ⟨w3.heap.size, 1, none⟩ = some (.string sq)) ∧ Bag w (fun y => Slot2 y w3.heap.size (.bool false) (.string sq) ∧ RF w.heap.size true s true s2 y) y)
      (first
        | (have B9 := BB.out.drew; exact ⟨⟨B9.now.2.2.2.2.cell, B9.now.2.2.2.2.cell1, B9.now.2.2.2.1.cell, B9.now.2.2.2.1.cell1, B9.now.1.cell, B9.now.1.cell1⟩, B9⟩)
        | (have B9 := Bag.go (show Bag w (fun y => Slot2 y w3.heap.size (.bool false) (.string sq) ∧ RF w.heap.size true s true s2 y) _ from by go_split_ands; assumption) hb2; exact ⟨⟨B9.now.2.2.2.2.cell, B9.now.2.2.2.2.cell1, B9.now.2.2.2.1.cell, B9.now.2.2.2.1.cell1, B9.now.1.cell, B9.now.1.cell1⟩, B9⟩)
        | (have B9 := Bag.put2 (show Bag w (fun y => Slot2 y w3.heap.size (.bool false) (.string sq) ∧ RF w.heap.size true s true s2 y) _ from by go_split_ands; assumption) (k := w.heap.size + 1 + 1) (u := .bool false) (v := .string sq) (by omega) (fun h => ⟨h.1.put2o (by omega) _ _, h.2.put2 (by omega) (by omega) _ _⟩); exact ⟨⟨B9.now.2.2.2.2.cell, B9.now.2.2.2.2.cell1, B9.now.2.2.2.1.cell, B9.now.2.2.2.1.cell1, B9.now.1.cell, B9.now.1.cell1⟩, B9⟩)
        | (have B9 := Bag.put2 (show Bag w (fun y => Slot2 y w3.heap.size (.bool false) (.string sq) ∧ RF w.heap.size true s true s2 y) _ from by go_split_ands; assumption) (k := w.heap.size + 1 + 1 + 1) (u := .bool (rB R)) (v := .string (rS R)) (by omega) (fun h => ⟨h.1.put2o (by omega) _ _, h.2.put2 (by omega) (by omega) _ _⟩); exact ⟨⟨B9.now.2.2.2.2.cell, B9.now.2.2.2.2.cell1, B9.now.2.2.2.1.cell, B9.now.2.2.2.1.cell1, B9.now.1.cell, B9.now.1.cell1⟩, B9⟩))
      (first
        | (go_at_call 86; (with_reducible refine (MU.out _).mono ?_); rintro e w2 ⟨rfl, hb2⟩)
        | (go_at_call 137; (with_reducible refine (MI.out _).mono ?_); rintro e w2 ⟨rfl, hb2⟩)
        | (go_at_call 136; (with_reducible refine (AD.out _).mono ?_); rintro e w2 ⟨rfl, hb2⟩;
            have B7 := Bag.go (show Bag w (fun y => Slot2 y w3.heap.size (.bool false) (.string sq) ∧ RF w.heap.size true s true s2 y) _ from by go_split_ands; assumption) hb2;
            obtain ⟨x8, z8, hs8⟩ := B7.now.2.1;
            obtain ⟨x9, z9, hs9⟩ := B7.now.2.2.1;
            have hc1 := hs8.cell; have hc2 := hs8.cell1; have hc3 := hs9.cell; have hc4 := hs9.cell1; have hf1 := hs8.free; have hf2 := hs8.free1; have hf3 := hs9.free; have hf4 := hs9.free1;
            have HA := (hs8.put2s (.bool false) (.string sq)).put2o (show w.heap.size + 1 + 1 ≠ w.heap.size + 1 + 1 + 1 by omega) (.bool (rB R)) (.string (rS R));
            have HB := (hs9.put2o (show w.heap.size + 1 + 1 + 1 ≠ w.heap.size + 1 + 1 by omega) (.bool false) (.string sq)).put2s (.bool (rB R)) (.string (rS R));
            have e1 := HA.cell; have e2 := HA.cell1; have e3 := HB.cell; have e4 := HB.cell1;
            have HE : Hid (RFloor w (put2 (put2 w2 (w.heap.size + 1 + 1) (.bool false) (.string sq)) (w.heap.size + 1 + 1 + 1) (.bool (rB R)) (.string (rS R))) (.returned (.tuple #[.agg #[.bool false, .string sq], .agg #[.bool (rB R), .string (rS R)]])) (flQ Z Y) (flR Z Y)) := ⟨HQ.out, (((B7.below.setCell (show w.heap.size ≤ w.heap.size + 1 + 1 by omega) _).setCell (show w.heap.size ≤ w.heap.size + 1 + 1 by omega) _).setCell (show w.heap.size ≤ w.heap.size + 1 + 1 + 1 by omega) _).setCell (show w.heap.size ≤ w.heap.size + 1 + 1 + 1 by omega) _⟩;
            unfold put2 at HE e1 e2 e3 e4; clear hs8 hs9 HA HB B7))
    all_goals
      go_wp2
      exact bodyPost_ret (v := .tuple #[.agg #[.bool false, .string sq], .agg #[.bool (rB R), .string (rS R)]]) (by simp [results, Tryz.results107, go_sem, e1, e2, e3, e4]) rfl HE.out

end Go.Proofs.YtgpcfncolhmgfaaGreatDoor
