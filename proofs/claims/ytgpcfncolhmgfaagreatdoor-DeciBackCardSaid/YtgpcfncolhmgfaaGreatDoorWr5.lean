/-
  The document's answers (package typeballref02): Floor with signs apart, by contract.
-/
import Derived.Test.YtgpcfncolhmgfaaGreatDoorWr4
namespace Go.Proofs.YtgpcfncolhmgfaaGreatDoor
open Go.RowKit
attribute [local go_sem ↓] Go.wp_at_zero Go.wp_at_succ

/-- The quotient after k rounds. -/
def QK (q k : Nat) : Int := -((q + k : Nat) : Int)
/-- How many rounds. -/
def RT1 (Z Y : Int) : Nat := if Z.natAbs % Y.natAbs = 0 then 0 else 1
theorem RT1_le (Z Y : Int) : RT1 Z Y ≤ 1 := by unfold RT1; split <;> omega
theorem flQ_apart {Z Y : Int} (ha : flA Z Y = true) : flQ Z Y = QK (Z.natAbs / Y.natAbs) (RT1 Z Y) := by
  unfold flQ flU RT1 QK; rw [ha]
  by_cases h : Z.natAbs % Y.natAbs = 0
  · simp [h, sgn]
  · simp [h, sgn]
theorem qk_nat (q k y : Nat) : QK q k * (y : Int) = -(((q + k) * y : Nat) : Int) := by
  unfold QK; rw [Int.neg_mul]; simp
theorem qk_abs (q k : Nat) : (QK q k).natAbs = q + k := by unfold QK; rw [Int.natAbs_neg, Int.natAbs_natCast]
theorem cmpZ_pos {A B : Int} (h : B < A) : cmpZ A B = 1 := by unfold cmpZ; split <;> (try split) <;> omega
theorem cmpZ_npos {A B : Int} (h : A ≤ B) : decide ((0 : Int) < cmpZ A B) = false := by refine decide_eq_false ?_; unfold cmpZ; split <;> (try split) <;> omega
theorem rS_m1 : rS (-1) = ⟨#[49]⟩ := by
  have h : str (dec 1) = ⟨#[49]⟩ := by
    have h1 : dl 1 = 1 := by unfold dl; rfl
    unfold dec; rw [h1]; rfl
  exact h
theorem qk_more {z y : Nat} (hr : ¬ z % y = 0) : -(z : Int) < QK (z / y) 0 * (y : Int) := by
  rw [qk_nat]
  have e := Nat.div_add_mod z y
  have : (z / y + 0) * y = y * (z / y) := by rw [Nat.add_zero, Nat.mul_comm]
  rw [this]; omega
theorem qk_done {z y k : Nat} (hy : 0 < y) (hk : k = if z % y = 0 then 0 else 1) : QK (z / y) k * (y : Int) ≤ -(z : Int) := by
  rw [qk_nat]
  have e := Nat.div_add_mod z y
  have hl := Nat.mod_lt z hy
  by_cases hr : z % y = 0
  · rw [if_pos hr] at hk; subst hk
    have : (z / y + 0) * y = y * (z / y) := by rw [Nat.add_zero, Nat.mul_comm]
    rw [this]; omega
  · rw [if_neg hr] at hk; subst hk
    have : (z / y + 1) * y = y * (z / y) + y := by rw [Nat.add_mul, Nat.mul_comm, Nat.one_mul]
    rw [this]; omega

set_option maxHeartbeats 3200000 in
set_option maxRecDepth 100000 in
theorem rFloor_apart (Z Y : Int) (w : World) (hl : dl Z.natAbs ≤ 400) (hl2 : dl Y.natAbs ≤ 400) (hY : Y ≠ 0) (hs : ¬ rB Z = rB Y) :
    Calls Tryz.prog 107 #[.agg #[.bool (rB Z), .string (rS Z)], .agg #[.bool (rB Y), .string (rS Y)]] w fun e w' => RFloor w w' e (flQ Z Y) (flR Z Y) := by
  have ha : flA Z Y = true := by rw [flA_rB]; revert hs; cases rB Z <;> cases rB Y <;> simp
  have hqe := flQ_apart ha
  obtain ⟨t, htT⟩ : ∃ t, RT1 Z Y = t := ⟨_, rfl⟩
  have ht1 : t ≤ 1 := by rw [← htT]; exact RT1_le Z Y
  have htd : t = if Z.natAbs % Y.natAbs = 0 then 0 else 1 := by rw [← htT]; rfl
  obtain ⟨q, hq⟩ : ∃ q, Z.natAbs / Y.natAbs = q := ⟨_, rfl⟩
  rw [hq, htT] at hqe
  have hy0 : 0 < Y.natAbs := by omega
  have hqz : q ≤ Z.natAbs := by rw [← hq]; exact Nat.div_le_self _ _
  have hqk : ∀ k, k ≤ 1 → dl (QK q k).natAbs ≤ 401 := by
    intro k hk
    rw [qk_abs]
    exact Nat.le_trans (dl_mono (show q + k ≤ Z.natAbs + 1 by omega)) (dl_add_le (k := 400) hl (by exact Nat.le_trans (dl_mono (show 1 ≤ Y.natAbs by omega)) hl2))
  have hqd : dl (flQ Z Y).natAbs ≤ 401 := by rw [hqe]; exact hqk t ht1
  have hpd : dl (flQ Z Y * Y).natAbs ≤ 801 := by rw [Int.natAbs_mul]; exact dl_mul_le hqd hl2
  have hR : Z + -(flQ Z Y * Y) = flR Z Y := by have := fl_times (Z := Z) hY; omega
  have DM : Hid (∀ wz, Calls Tryz.prog 94 #[.string (rS Z), .string (rS Y)] wz fun e w' => e = .returned (.tuple #[.string (str (dec q)), .string (str (dec (Z.natAbs % Y.natAbs)))]) ∧ Below wz.heap.size wz w') := fun wz => by have h1 := rdivMod_any Z.natAbs Y.natAbs wz (by omega) (by omega) (by omega); rw [hq] at h1; exact h1
  have OF : Hid (∀ wz, Calls Tryz.prog 24 #[.bool true, .string (str (dec q))] wz fun e w' => RTold wz w' e (QK q 0)) := by
    intro wz
    have h1 := rOf_dec true q wz (Nat.le_trans (dl_mono hqz) (by omega))
    rw [show sgn true q = QK q 0 from by simp [sgn, QK]] at h1
    exact h1
  have O1 : Hid (∀ wz, Calls Tryz.prog 24 #[.bool false, .string (rS Y)] wz fun e w' => RTold wz w' e (Y.natAbs : Int)) := by
    intro wz
    exact rOf_dec false Y.natAbs wz (by omega)
  have O2 : Hid (∀ wz, Calls Tryz.prog 24 #[.bool true, .string (rS Z)] wz fun e w' => RTold wz w' e (-(Z.natAbs : Int))) := by
    intro wz
    exact rOf_dec true Z.natAbs wz (by omega)
  have MUA : Hid (∀ k, k ≤ 1 → ∀ wz, Calls Tryz.prog 86 #[.agg #[.bool (rB (QK q k)), .string (rS (QK q k))], .agg #[.bool (rB (Y.natAbs : Int)), .string (rS (Y.natAbs : Int))]] wz fun e w' => RTold wz w' e (QK q k * (Y.natAbs : Int))) := fun k hk wz => rMul_any _ _ wz (by have := hqk k hk; omega) (by rw [Int.natAbs_natCast]; omega)
  have CMA : Hid (∀ k, k ≤ 1 → ∀ wz, Calls Tryz.prog 108 #[.agg #[.bool (rB (QK q k * (Y.natAbs : Int))), .string (rS (QK q k * (Y.natAbs : Int)))], .agg #[.bool (rB (-(Z.natAbs : Int))), .string (rS (-(Z.natAbs : Int)))]] wz fun e w' => e = .returned (.int .i64 (cmpZ (QK q k * (Y.natAbs : Int)) (-(Z.natAbs : Int)))) ∧ Below wz.heap.size wz w') := fun k hk wz => rCmp_any _ _ wz (by rw [Int.natAbs_mul, Int.natAbs_natCast]; have := dl_mul_le (hqk k hk) hl2; omega) (by rw [Int.natAbs_neg, Int.natAbs_natCast]; omega)
  have A1 : Hid (∀ k, k ≤ 0 → ∀ wz, Calls Tryz.prog 136 #[.agg #[.bool (rB (QK q k)), .string (rS (QK q k))], .agg #[.bool true, .string ⟨#[49]⟩]] wz fun e w' => RTold wz w' e (QK q (k + 1))) := by
    intro k hk wz
    have h1 := rAdd_any (QK q k) (-1) wz (by have := hqk k (by omega); omega) (Nat.le_trans (dl_le 1 1 (by omega) (by omega)) (by omega))
    rw [show QK q k + -1 = QK q (k + 1) from by unfold QK; omega, show rB (-1) = true from rfl, rS_m1] at h1
    exact h1
  have HD1 : Hid (∀ k, k < t → decide ((0 : Int) < cmpZ (QK q k * (Y.natAbs : Int)) (-(Z.natAbs : Int))) = true) := by
    intro k hk
    have hk0 : k = 0 := by omega
    subst hk0
    rw [cmpZ_pos (by rw [← hq]; refine qk_more ?_; intro h; rw [if_pos h] at htd; omega)]; rfl
  have HD2 : Hid (decide ((0 : Int) < cmpZ (QK q t * (Y.natAbs : Int)) (-(Z.natAbs : Int))) = false) := cmpZ_npos (by rw [← hq]; exact qk_done hy0 htd)
  have MU : Hid (∀ wz, Calls Tryz.prog 86 #[.agg #[.bool (rB (flQ Z Y)), .string (rS (flQ Z Y))], .agg #[.bool (rB Y), .string (rS Y)]] wz fun e w' => RTold wz w' e (flQ Z Y * Y)) := fun wz => rMul_any _ _ wz (by omega) (by omega)
  have MI : Hid (∀ wz, Calls Tryz.prog 137 #[.agg #[.bool (rB (flQ Z Y * Y)), .string (rS (flQ Z Y * Y))]] wz fun e w' => RTold wz w' e (-(flQ Z Y * Y))) := fun wz => rMinus_any _ wz (by omega)
  have AD : Hid (∀ wz, Calls Tryz.prog 136 #[.agg #[.bool (rB Z), .string (rS Z)], .agg #[.bool (rB (-(flQ Z Y * Y))), .string (rS (-(flQ Z Y * Y)))]] wz fun e w' => RTold wz w' e (flR Z Y)) := by
    intro wz
    have h1 := rAdd_any Z (-(flQ Z Y * Y)) wz (by omega) (by rw [Int.natAbs_neg]; omega)
    rw [hR] at h1; exact h1
  unfold RTold at OF O1 O2 MUA A1 MU MI AD
  have hd : (rB Z == rB Y) = false := by revert hs; cases rB Z <;> cases rB Y <;> simp
  obtain ⟨sq, hsq⟩ : ∃ sq, rS (flQ Z Y) = sq := ⟨_, rfl⟩
  obtain ⟨qb, hqb⟩ : ∃ qb, rB (flQ Z Y) = qb := ⟨_, rfl⟩
  obtain ⟨R, hRe⟩ : ∃ R, flR Z Y = R := ⟨_, rfl⟩
  obtain ⟨V, hV⟩ : ∃ V, flQ Z Y * Y = V := ⟨_, rfl⟩
  have HQ : Hid (Ending.returned (.tuple #[.agg #[.bool qb, .string sq], .agg #[.bool (rB R), .string (rS R)]]) = .returned (.tuple #[.agg #[.bool (rB (flQ Z Y)), .string (rS (flQ Z Y))], .agg #[.bool (rB (flR Z Y)), .string (rS (flR Z Y))]])) := Lib.hid (by rw [hqb, hsq, hRe])
  have HT : Hid (rB (QK q t) = qb ∧ rS (QK q t) = sq) := ⟨by rw [← hqe]; exact hqb, by rw [← hqe]; exact hsq⟩
  rw [hqb, hsq] at MU
  rw [hRe] at AD
  rw [hV] at MU MI AD
  obtain ⟨b, hbe⟩ : ∃ b, rB Z = b := ⟨_, rfl⟩
  obtain ⟨b2, hbe2⟩ : ∃ b2, rB Y = b2 := ⟨_, rfl⟩
  obtain ⟨s, hse⟩ : ∃ s, rS Z = s := ⟨_, rfl⟩
  obtain ⟨s2, hse2⟩ : ∃ s2, rS Y = s2 := ⟨_, rfl⟩
  obtain ⟨YA, hYA⟩ : ∃ YA, (Y.natAbs : Int) = YA := ⟨_, rfl⟩
  obtain ⟨ZA, hZA⟩ : ∃ ZA, -(Z.natAbs : Int) = ZA := ⟨_, rfl⟩
  rw [hbe] at AD hd ⊢
  rw [hbe2] at MU hd ⊢
  rw [hse] at DM AD O2 ⊢
  rw [hse2] at DM MU O1 ⊢
  rw [hYA] at O1 MUA CMA HD1 HD2
  rw [hZA] at O2 CMA HD1 HD2
  have BB := Lib.hid (RF.start w b s b2 s2)
  have q0 := BB.out.now.2.2.2.cell
  have q1 := BB.out.now.2.2.2.cell1
  have q2 := BB.out.now.2.2.1.cell
  have q3 := BB.out.now.2.2.1.cell1
  clear hl hl2 hY hs ha hqe htT htd hq hy0 hqz hqk hqd hpd hR hsq hqb hRe hV hbe hbe2 hse hse2 hYA hZA
  obtain ⟨u, hu⟩ : ∃ u, rB (QK q 0) = u := ⟨_, rfl⟩
  rw [hu] at OF
  cases u
  · go_enter Tryz.func107, Tryz.ntmps107
    go_wp2_with (first
      | (go_at_call 94; (with_reducible refine (DM.out _).mono ?_); rintro e w2 ⟨rfl, hb2⟩; have BB := Lib.hid (BB.out.go hb2); have q0 := BB.out.now.2.2.2.cell; have q1 := BB.out.now.2.2.2.cell1; have q2 := BB.out.now.2.2.1.cell; have q3 := BB.out.now.2.2.1.cell1; clear hb2)
      | (go_at_call 24; (with_reducible refine (OF.out _).mono ?_); rintro e w3 ⟨rfl, hb3⟩; have hk3 : w.heap.size + 1 + 1 + 1 < w3.heap.size := RX.lt (BB.out.go hb3).now.2.1; have BB := Lib.hid ((BB.out.go hb3).box2 (.bool false) (.string (rS (QK q 0))) 56); have q0 := BB.out.now.2.2.2.2.cell; have q1 := BB.out.now.2.2.2.2.cell1; have q2 := BB.out.now.2.2.2.1.cell; have q3 := BB.out.now.2.2.2.1.cell1; have q4 := BB.out.now.1.cell; have q5 := BB.out.now.1.cell1; clear hb3))
    go_loopw [9] (fun i wr => ∃ k : Nat, k ≤ t ∧ i = .int .i64 k ∧ Hid (Bag w (fun y => Slot2 y w3.heap.size (.bool (rB (QK q k))) (.string (rS (QK q k))) ∧ RF w.heap.size b s b2 s2 y) wr))
      (fun i _ => 2 - (intOf i).toNat)
    case atStart =>
      refine ⟨0, by omega, rfl, ?_⟩
      show Hid (Bag w (fun y => Slot2 y w3.heap.size (.bool (rB (QK q 0))) (.string (rS (QK q 0))) ∧ RF w.heap.size b s b2 s2 y) _)
      rw [hu]; exact BB
    case round =>
      obtain ⟨k, hk, rfl, BB⟩ := hrel
      have q0 := BB.out.now.2.2.2.2.cell; have q1 := BB.out.now.2.2.2.2.cell1; have q2 := BB.out.now.2.2.2.1.cell; have q3 := BB.out.now.2.2.2.1.cell1; have q4 := BB.out.now.1.cell; have q5 := BB.out.now.1.cell1
      have MUK := Lib.hid (MUA.out k (by omega))
      have CMK := Lib.hid (CMA.out k (by omega))
      by_cases hkt : k < t
      · have d1 := HD1.out k hkt
        have d2 : decide ((k : Int) < 2) = true := decide_eq_true (by omega)
        obtain ⟨c, hc⟩ : ∃ c, cmpZ (QK q k * YA) ZA = c := ⟨_, rfl⟩
        rw [hc] at CMK d1
        have A1K := Lib.hid (A1.out k (by omega))
        clear hc HD1 HD2
        go_wp2_with fail
        go_region_held3 (fun y => (y.cell? ⟨w.heap.size, 0, none⟩ = some (.bool b) ∧ y.cell? ⟨w.heap.size, 1, none⟩ = some (.string s) ∧ y.cell? ⟨w.heap.size + 1, 0, none⟩ = some (.bool b2) ∧ y.cell? ⟨w.heap.size + 1, 1, none⟩ = some (.string s2) ∧ y.cell? ⟨w3.heap.size, 0, none⟩ = some (.bool (rB (QK q k))) ∧ y.cell? ⟨w3.heap.size, 1, none⟩ = some (.string (rS (QK q k)))) ∧ Bag w (fun y => Slot2 y w3.heap.size (.bool (rB (QK q k))) (.string (rS (QK q k))) ∧ RF w.heap.size b s b2 s2 y) y)
          (first
            | (have B9 := BB.out.drew; exact ⟨⟨B9.now.2.2.2.2.cell, B9.now.2.2.2.2.cell1, B9.now.2.2.2.1.cell, B9.now.2.2.2.1.cell1, B9.now.1.cell, B9.now.1.cell1⟩, B9⟩)
            | (have B9 := Bag.go (show Bag w (fun y => Slot2 y w3.heap.size (.bool (rB (QK q k))) (.string (rS (QK q k))) ∧ RF w.heap.size b s b2 s2 y) _ from by go_split_ands; assumption) hb2; exact ⟨⟨B9.now.2.2.2.2.cell, B9.now.2.2.2.2.cell1, B9.now.2.2.2.1.cell, B9.now.2.2.2.1.cell1, B9.now.1.cell, B9.now.1.cell1⟩, B9⟩))
          (first
            | (go_at_call 24; (with_reducible refine (O1.out _).mono ?_); rintro e w2 ⟨rfl, hb2⟩)
            | (go_at_call 24; (with_reducible refine (O2.out _).mono ?_); rintro e w2 ⟨rfl, hb2⟩)
            | (go_at_call 86; (with_reducible refine (MUK.out _).mono ?_); rintro e w2 ⟨rfl, hb2⟩)
            | (go_at_call 108; (with_reducible refine (CMK.out _).mono ?_); rintro e w2 ⟨rfl, hb2⟩))
        have BB := Lib.hid (show Bag w (fun y => Slot2 y w3.heap.size (.bool (rB (QK q k))) (.string (rS (QK q k))) ∧ RF w.heap.size b s b2 s2 y) _ from by go_split_ands; assumption)
        have q0 := BB.out.now.2.2.2.2.cell; have q1 := BB.out.now.2.2.2.2.cell1; have q2 := BB.out.now.2.2.2.1.cell; have q3 := BB.out.now.2.2.2.1.cell1; have q4 := BB.out.now.1.cell; have q5 := BB.out.now.1.cell1
        go_wp2_with (go_at_call 136; (with_reducible refine (A1K.out _).mono ?_); rintro e w4 ⟨rfl, hb4⟩; have B4 := BB.out.go hb4; have hs4 := B4.now.1; have hc1 := hs4.cell; have hc2 := hs4.cell1; have hf1 := hs4.free; have hf2 := hs4.free1)
        go_roundw
        case rel => exact ⟨k + 1, by omega, by go_num, Lib.hid ⟨((B4.below.setCell (show w.heap.size ≤ w3.heap.size by omega) _).setCell (show w.heap.size ≤ w3.heap.size by omega) _), fun x y hb h => ⟨h.1.below hb, RF.stay x y hb h.2⟩, hs4.put2s _ _, B4.now.2.put2 (by omega) (by omega) _ _⟩⟩
        case measure => simp [intOf]; omega
      · have hkt : k = t := by omega
        subst hkt
        have d1 := HD2.out
        have d2 : decide ((k : Int) < 2) = true := decide_eq_true (by omega)
        obtain ⟨c, hc⟩ : ∃ c, cmpZ (QK q k * YA) ZA = c := ⟨_, rfl⟩
        rw [hc] at CMK d1
        clear hc HD1 HD2
        go_wp2_with fail
        go_region_held3 (fun y => (y.cell? ⟨w.heap.size, 0, none⟩ = some (.bool b) ∧ y.cell? ⟨w.heap.size, 1, none⟩ = some (.string s) ∧ y.cell? ⟨w.heap.size + 1, 0, none⟩ = some (.bool b2) ∧ y.cell? ⟨w.heap.size + 1, 1, none⟩ = some (.string s2) ∧ y.cell? ⟨w3.heap.size, 0, none⟩ = some (.bool (rB (QK q k))) ∧ y.cell? ⟨w3.heap.size, 1, none⟩ = some (.string (rS (QK q k)))) ∧ Bag w (fun y => Slot2 y w3.heap.size (.bool (rB (QK q k))) (.string (rS (QK q k))) ∧ RF w.heap.size b s b2 s2 y) y)
          (first
            | (have B9 := BB.out.drew; exact ⟨⟨B9.now.2.2.2.2.cell, B9.now.2.2.2.2.cell1, B9.now.2.2.2.1.cell, B9.now.2.2.2.1.cell1, B9.now.1.cell, B9.now.1.cell1⟩, B9⟩)
            | (have B9 := Bag.go (show Bag w (fun y => Slot2 y w3.heap.size (.bool (rB (QK q k))) (.string (rS (QK q k))) ∧ RF w.heap.size b s b2 s2 y) _ from by go_split_ands; assumption) hb2; exact ⟨⟨B9.now.2.2.2.2.cell, B9.now.2.2.2.2.cell1, B9.now.2.2.2.1.cell, B9.now.2.2.2.1.cell1, B9.now.1.cell, B9.now.1.cell1⟩, B9⟩))
          (first
            | (go_at_call 24; (with_reducible refine (O1.out _).mono ?_); rintro e w2 ⟨rfl, hb2⟩)
            | (go_at_call 24; (with_reducible refine (O2.out _).mono ?_); rintro e w2 ⟨rfl, hb2⟩)
            | (go_at_call 86; (with_reducible refine (MUK.out _).mono ?_); rintro e w2 ⟨rfl, hb2⟩)
            | (go_at_call 108; (with_reducible refine (CMK.out _).mono ?_); rintro e w2 ⟨rfl, hb2⟩))
        have BB := Lib.hid (show Bag w (fun y => Slot2 y w3.heap.size (.bool (rB (QK q k))) (.string (rS (QK q k))) ∧ RF w.heap.size b s b2 s2 y) _ from by go_split_ands; assumption)
        have q0 := BB.out.now.2.2.2.2.cell; have q1 := BB.out.now.2.2.2.2.cell1; have q2 := BB.out.now.2.2.2.1.cell; have q3 := BB.out.now.2.2.2.1.cell1; have q4 := BB.out.now.1.cell; have q5 := BB.out.now.1.cell1
        go_wp2_with fail
        obtain ⟨ht1, ht2⟩ := HT.out
        rw [ht1, ht2] at BB
        rw [ht1] at q4
        rw [ht2] at q5
        clear ht1 ht2
        go_region_held3 (fun y => (y.cell? ⟨w.heap.size, 0, none⟩ = some (.bool b) ∧ y.cell? ⟨w.heap.size, 1, none⟩ = some (.string s) ∧ y.cell? ⟨w.heap.size + 1, 0, none⟩ = some (.bool b2) ∧ y.cell? ⟨w.heap.size + 1, 1, none⟩ = some (.string s2) ∧ y.cell? ⟨w3.heap.size, 0, none⟩ = some (.bool qb) ∧ y.cell? ⟨w3.heap.size, 1, none⟩ = some (.string sq)) ∧ Bag w (fun y => Slot2 y w3.heap.size (.bool qb) (.string sq) ∧ RF w.heap.size b s b2 s2 y) y)
          (first
            | (have B9 := BB.out.drew; exact ⟨⟨B9.now.2.2.2.2.cell, B9.now.2.2.2.2.cell1, B9.now.2.2.2.1.cell, B9.now.2.2.2.1.cell1, B9.now.1.cell, B9.now.1.cell1⟩, B9⟩)
            | (have B9 := Bag.go (show Bag w (fun y => Slot2 y w3.heap.size (.bool qb) (.string sq) ∧ RF w.heap.size b s b2 s2 y) _ from by go_split_ands; assumption) hb2; exact ⟨⟨B9.now.2.2.2.2.cell, B9.now.2.2.2.2.cell1, B9.now.2.2.2.1.cell, B9.now.2.2.2.1.cell1, B9.now.1.cell, B9.now.1.cell1⟩, B9⟩)
            | (have B9 := Bag.put2 (show Bag w (fun y => Slot2 y w3.heap.size (.bool qb) (.string sq) ∧ RF w.heap.size b s b2 s2 y) _ from by go_split_ands; assumption) (k := w.heap.size + 1 + 1) (u := .bool qb) (v := .string sq) (by omega) (fun h => ⟨h.1.put2o (by omega) _ _, h.2.put2 (by omega) (by omega) _ _⟩); exact ⟨⟨B9.now.2.2.2.2.cell, B9.now.2.2.2.2.cell1, B9.now.2.2.2.1.cell, B9.now.2.2.2.1.cell1, B9.now.1.cell, B9.now.1.cell1⟩, B9⟩)
            | (have B9 := Bag.put2 (show Bag w (fun y => Slot2 y w3.heap.size (.bool qb) (.string sq) ∧ RF w.heap.size b s b2 s2 y) _ from by go_split_ands; assumption) (k := w.heap.size + 1 + 1 + 1) (u := .bool (rB R)) (v := .string (rS R)) (by omega) (fun h => ⟨h.1.put2o (by omega) _ _, h.2.put2 (by omega) (by omega) _ _⟩); exact ⟨⟨B9.now.2.2.2.2.cell, B9.now.2.2.2.2.cell1, B9.now.2.2.2.1.cell, B9.now.2.2.2.1.cell1, B9.now.1.cell, B9.now.1.cell1⟩, B9⟩))
          (first
            | (go_at_call 86; (with_reducible refine (MU.out _).mono ?_); rintro e w2 ⟨rfl, hb2⟩)
            | (go_at_call 137; (with_reducible refine (MI.out _).mono ?_); rintro e w2 ⟨rfl, hb2⟩)
            | (go_at_call 136; (with_reducible refine (AD.out _).mono ?_); rintro e w2 ⟨rfl, hb2⟩;
                have B7 := Bag.go (show Bag w (fun y => Slot2 y w3.heap.size (.bool qb) (.string sq) ∧ RF w.heap.size b s b2 s2 y) _ from by go_split_ands; assumption) hb2;
                obtain ⟨x8, z8, hs8⟩ := B7.now.2.1;
                obtain ⟨x9, z9, hs9⟩ := B7.now.2.2.1;
                have hc1 := hs8.cell; have hc2 := hs8.cell1; have hc3 := hs9.cell; have hc4 := hs9.cell1; have hf1 := hs8.free; have hf2 := hs8.free1; have hf3 := hs9.free; have hf4 := hs9.free1;
                have HA := (hs8.put2s (.bool qb) (.string sq)).put2o (show w.heap.size + 1 + 1 ≠ w.heap.size + 1 + 1 + 1 by omega) (.bool (rB R)) (.string (rS R));
                have HB := (hs9.put2o (show w.heap.size + 1 + 1 + 1 ≠ w.heap.size + 1 + 1 by omega) (.bool qb) (.string sq)).put2s (.bool (rB R)) (.string (rS R));
                have e1 := HA.cell; have e2 := HA.cell1; have e3 := HB.cell; have e4 := HB.cell1;
                have HE : Hid (RFloor w (put2 (put2 w2 (w.heap.size + 1 + 1) (.bool qb) (.string sq)) (w.heap.size + 1 + 1 + 1) (.bool (rB R)) (.string (rS R))) (.returned (.tuple #[.agg #[.bool qb, .string sq], .agg #[.bool (rB R), .string (rS R)]])) (flQ Z Y) (flR Z Y)) := ⟨HQ.out, (((B7.below.setCell (show w.heap.size ≤ w.heap.size + 1 + 1 by omega) _).setCell (show w.heap.size ≤ w.heap.size + 1 + 1 by omega) _).setCell (show w.heap.size ≤ w.heap.size + 1 + 1 + 1 by omega) _).setCell (show w.heap.size ≤ w.heap.size + 1 + 1 + 1 by omega) _⟩;
                unfold put2 at HE e1 e2 e3 e4; clear hs8 hs9 HA HB B7))
        all_goals
          go_wp2
          exact bodyPost_ret (v := .tuple #[.agg #[.bool qb, .string sq], .agg #[.bool (rB R), .string (rS R)]]) (by simp [results, Tryz.results107, go_sem, e1, e2, e3, e4]) rfl HE.out
  · go_enter Tryz.func107, Tryz.ntmps107
    go_wp2_with (first
      | (go_at_call 94; (with_reducible refine (DM.out _).mono ?_); rintro e w2 ⟨rfl, hb2⟩; have BB := Lib.hid (BB.out.go hb2); have q0 := BB.out.now.2.2.2.cell; have q1 := BB.out.now.2.2.2.cell1; have q2 := BB.out.now.2.2.1.cell; have q3 := BB.out.now.2.2.1.cell1; clear hb2)
      | (go_at_call 24; (with_reducible refine (OF.out _).mono ?_); rintro e w3 ⟨rfl, hb3⟩; have hk3 : w.heap.size + 1 + 1 + 1 < w3.heap.size := RX.lt (BB.out.go hb3).now.2.1; have BB := Lib.hid ((BB.out.go hb3).box2 (.bool true) (.string (rS (QK q 0))) 56); have q0 := BB.out.now.2.2.2.2.cell; have q1 := BB.out.now.2.2.2.2.cell1; have q2 := BB.out.now.2.2.2.1.cell; have q3 := BB.out.now.2.2.2.1.cell1; have q4 := BB.out.now.1.cell; have q5 := BB.out.now.1.cell1; clear hb3))
    go_loopw [9] (fun i wr => ∃ k : Nat, k ≤ t ∧ i = .int .i64 k ∧ Hid (Bag w (fun y => Slot2 y w3.heap.size (.bool (rB (QK q k))) (.string (rS (QK q k))) ∧ RF w.heap.size b s b2 s2 y) wr))
      (fun i _ => 2 - (intOf i).toNat)
    case atStart =>
      refine ⟨0, by omega, rfl, ?_⟩
      show Hid (Bag w (fun y => Slot2 y w3.heap.size (.bool (rB (QK q 0))) (.string (rS (QK q 0))) ∧ RF w.heap.size b s b2 s2 y) _)
      rw [hu]; exact BB
    case round =>
      obtain ⟨k, hk, rfl, BB⟩ := hrel
      have q0 := BB.out.now.2.2.2.2.cell; have q1 := BB.out.now.2.2.2.2.cell1; have q2 := BB.out.now.2.2.2.1.cell; have q3 := BB.out.now.2.2.2.1.cell1; have q4 := BB.out.now.1.cell; have q5 := BB.out.now.1.cell1
      have MUK := Lib.hid (MUA.out k (by omega))
      have CMK := Lib.hid (CMA.out k (by omega))
      by_cases hkt : k < t
      · have d1 := HD1.out k hkt
        have d2 : decide ((k : Int) < 2) = true := decide_eq_true (by omega)
        obtain ⟨c, hc⟩ : ∃ c, cmpZ (QK q k * YA) ZA = c := ⟨_, rfl⟩
        rw [hc] at CMK d1
        have A1K := Lib.hid (A1.out k (by omega))
        clear hc HD1 HD2
        go_wp2_with fail
        go_region_held3 (fun y => (y.cell? ⟨w.heap.size, 0, none⟩ = some (.bool b) ∧ y.cell? ⟨w.heap.size, 1, none⟩ = some (.string s) ∧ y.cell? ⟨w.heap.size + 1, 0, none⟩ = some (.bool b2) ∧ y.cell? ⟨w.heap.size + 1, 1, none⟩ = some (.string s2) ∧ y.cell? ⟨w3.heap.size, 0, none⟩ = some (.bool (rB (QK q k))) ∧ y.cell? ⟨w3.heap.size, 1, none⟩ = some (.string (rS (QK q k)))) ∧ Bag w (fun y => Slot2 y w3.heap.size (.bool (rB (QK q k))) (.string (rS (QK q k))) ∧ RF w.heap.size b s b2 s2 y) y)
          (first
            | (have B9 := BB.out.drew; exact ⟨⟨B9.now.2.2.2.2.cell, B9.now.2.2.2.2.cell1, B9.now.2.2.2.1.cell, B9.now.2.2.2.1.cell1, B9.now.1.cell, B9.now.1.cell1⟩, B9⟩)
            | (have B9 := Bag.go (show Bag w (fun y => Slot2 y w3.heap.size (.bool (rB (QK q k))) (.string (rS (QK q k))) ∧ RF w.heap.size b s b2 s2 y) _ from by go_split_ands; assumption) hb2; exact ⟨⟨B9.now.2.2.2.2.cell, B9.now.2.2.2.2.cell1, B9.now.2.2.2.1.cell, B9.now.2.2.2.1.cell1, B9.now.1.cell, B9.now.1.cell1⟩, B9⟩))
          (first
            | (go_at_call 24; (with_reducible refine (O1.out _).mono ?_); rintro e w2 ⟨rfl, hb2⟩)
            | (go_at_call 24; (with_reducible refine (O2.out _).mono ?_); rintro e w2 ⟨rfl, hb2⟩)
            | (go_at_call 86; (with_reducible refine (MUK.out _).mono ?_); rintro e w2 ⟨rfl, hb2⟩)
            | (go_at_call 108; (with_reducible refine (CMK.out _).mono ?_); rintro e w2 ⟨rfl, hb2⟩))
        have BB := Lib.hid (show Bag w (fun y => Slot2 y w3.heap.size (.bool (rB (QK q k))) (.string (rS (QK q k))) ∧ RF w.heap.size b s b2 s2 y) _ from by go_split_ands; assumption)
        have q0 := BB.out.now.2.2.2.2.cell; have q1 := BB.out.now.2.2.2.2.cell1; have q2 := BB.out.now.2.2.2.1.cell; have q3 := BB.out.now.2.2.2.1.cell1; have q4 := BB.out.now.1.cell; have q5 := BB.out.now.1.cell1
        go_wp2_with (go_at_call 136; (with_reducible refine (A1K.out _).mono ?_); rintro e w4 ⟨rfl, hb4⟩; have B4 := BB.out.go hb4; have hs4 := B4.now.1; have hc1 := hs4.cell; have hc2 := hs4.cell1; have hf1 := hs4.free; have hf2 := hs4.free1)
        go_roundw
        case rel => exact ⟨k + 1, by omega, by go_num, Lib.hid ⟨((B4.below.setCell (show w.heap.size ≤ w3.heap.size by omega) _).setCell (show w.heap.size ≤ w3.heap.size by omega) _), fun x y hb h => ⟨h.1.below hb, RF.stay x y hb h.2⟩, hs4.put2s _ _, B4.now.2.put2 (by omega) (by omega) _ _⟩⟩
        case measure => simp [intOf]; omega
      · have hkt : k = t := by omega
        subst hkt
        have d1 := HD2.out
        have d2 : decide ((k : Int) < 2) = true := decide_eq_true (by omega)
        obtain ⟨c, hc⟩ : ∃ c, cmpZ (QK q k * YA) ZA = c := ⟨_, rfl⟩
        rw [hc] at CMK d1
        clear hc HD1 HD2
        go_wp2_with fail
        go_region_held3 (fun y => (y.cell? ⟨w.heap.size, 0, none⟩ = some (.bool b) ∧ y.cell? ⟨w.heap.size, 1, none⟩ = some (.string s) ∧ y.cell? ⟨w.heap.size + 1, 0, none⟩ = some (.bool b2) ∧ y.cell? ⟨w.heap.size + 1, 1, none⟩ = some (.string s2) ∧ y.cell? ⟨w3.heap.size, 0, none⟩ = some (.bool (rB (QK q k))) ∧ y.cell? ⟨w3.heap.size, 1, none⟩ = some (.string (rS (QK q k)))) ∧ Bag w (fun y => Slot2 y w3.heap.size (.bool (rB (QK q k))) (.string (rS (QK q k))) ∧ RF w.heap.size b s b2 s2 y) y)
          (first
            | (have B9 := BB.out.drew; exact ⟨⟨B9.now.2.2.2.2.cell, B9.now.2.2.2.2.cell1, B9.now.2.2.2.1.cell, B9.now.2.2.2.1.cell1, B9.now.1.cell, B9.now.1.cell1⟩, B9⟩)
            | (have B9 := Bag.go (show Bag w (fun y => Slot2 y w3.heap.size (.bool (rB (QK q k))) (.string (rS (QK q k))) ∧ RF w.heap.size b s b2 s2 y) _ from by go_split_ands; assumption) hb2; exact ⟨⟨B9.now.2.2.2.2.cell, B9.now.2.2.2.2.cell1, B9.now.2.2.2.1.cell, B9.now.2.2.2.1.cell1, B9.now.1.cell, B9.now.1.cell1⟩, B9⟩))
          (first
            | (go_at_call 24; (with_reducible refine (O1.out _).mono ?_); rintro e w2 ⟨rfl, hb2⟩)
            | (go_at_call 24; (with_reducible refine (O2.out _).mono ?_); rintro e w2 ⟨rfl, hb2⟩)
            | (go_at_call 86; (with_reducible refine (MUK.out _).mono ?_); rintro e w2 ⟨rfl, hb2⟩)
            | (go_at_call 108; (with_reducible refine (CMK.out _).mono ?_); rintro e w2 ⟨rfl, hb2⟩))
        have BB := Lib.hid (show Bag w (fun y => Slot2 y w3.heap.size (.bool (rB (QK q k))) (.string (rS (QK q k))) ∧ RF w.heap.size b s b2 s2 y) _ from by go_split_ands; assumption)
        have q0 := BB.out.now.2.2.2.2.cell; have q1 := BB.out.now.2.2.2.2.cell1; have q2 := BB.out.now.2.2.2.1.cell; have q3 := BB.out.now.2.2.2.1.cell1; have q4 := BB.out.now.1.cell; have q5 := BB.out.now.1.cell1
        go_wp2_with fail
        obtain ⟨ht1, ht2⟩ := HT.out
        rw [ht1, ht2] at BB
        rw [ht1] at q4
        rw [ht2] at q5
        clear ht1 ht2
        go_region_held3 (fun y => (y.cell? ⟨w.heap.size, 0, none⟩ = some (.bool b) ∧ y.cell? ⟨w.heap.size, 1, none⟩ = some (.string s) ∧ y.cell? ⟨w.heap.size + 1, 0, none⟩ = some (.bool b2) ∧ y.cell? ⟨w.heap.size + 1, 1, none⟩ = some (.string s2) ∧ y.cell? ⟨w3.heap.size, 0, none⟩ = some (.bool qb) ∧ y.cell? ⟨w3.heap.size, 1, none⟩ = some (.string sq)) ∧ Bag w (fun y => Slot2 y w3.heap.size (.bool qb) (.string sq) ∧ RF w.heap.size b s b2 s2 y) y)
          (first
            | (have B9 := BB.out.drew; exact ⟨⟨B9.now.2.2.2.2.cell, B9.now.2.2.2.2.cell1, B9.now.2.2.2.1.cell, B9.now.2.2.2.1.cell1, B9.now.1.cell, B9.now.1.cell1⟩, B9⟩)
            | (have B9 := Bag.go (show Bag w (fun y => Slot2 y w3.heap.size (.bool qb) (.string sq) ∧ RF w.heap.size b s b2 s2 y) _ from by go_split_ands; assumption) hb2; exact ⟨⟨B9.now.2.2.2.2.cell, B9.now.2.2.2.2.cell1, B9.now.2.2.2.1.cell, B9.now.2.2.2.1.cell1, B9.now.1.cell, B9.now.1.cell1⟩, B9⟩)
            | (have B9 := Bag.put2 (show Bag w (fun y => Slot2 y w3.heap.size (.bool qb) (.string sq) ∧ RF w.heap.size b s b2 s2 y) _ from by go_split_ands; assumption) (k := w.heap.size + 1 + 1) (u := .bool qb) (v := .string sq) (by omega) (fun h => ⟨h.1.put2o (by omega) _ _, h.2.put2 (by omega) (by omega) _ _⟩); exact ⟨⟨B9.now.2.2.2.2.cell, B9.now.2.2.2.2.cell1, B9.now.2.2.2.1.cell, B9.now.2.2.2.1.cell1, B9.now.1.cell, B9.now.1.cell1⟩, B9⟩)
            | (have B9 := Bag.put2 (show Bag w (fun y => Slot2 y w3.heap.size (.bool qb) (.string sq) ∧ RF w.heap.size b s b2 s2 y) _ from by go_split_ands; assumption) (k := w.heap.size + 1 + 1 + 1) (u := .bool (rB R)) (v := .string (rS R)) (by omega) (fun h => ⟨h.1.put2o (by omega) _ _, h.2.put2 (by omega) (by omega) _ _⟩); exact ⟨⟨B9.now.2.2.2.2.cell, B9.now.2.2.2.2.cell1, B9.now.2.2.2.1.cell, B9.now.2.2.2.1.cell1, B9.now.1.cell, B9.now.1.cell1⟩, B9⟩))
          (first
            | (go_at_call 86; (with_reducible refine (MU.out _).mono ?_); rintro e w2 ⟨rfl, hb2⟩)
            | (go_at_call 137; (with_reducible refine (MI.out _).mono ?_); rintro e w2 ⟨rfl, hb2⟩)
            | (go_at_call 136; (with_reducible refine (AD.out _).mono ?_); rintro e w2 ⟨rfl, hb2⟩;
                have B7 := Bag.go (show Bag w (fun y => Slot2 y w3.heap.size (.bool qb) (.string sq) ∧ RF w.heap.size b s b2 s2 y) _ from by go_split_ands; assumption) hb2;
                obtain ⟨x8, z8, hs8⟩ := B7.now.2.1;
                obtain ⟨x9, z9, hs9⟩ := B7.now.2.2.1;
                have hc1 := hs8.cell; have hc2 := hs8.cell1; have hc3 := hs9.cell; have hc4 := hs9.cell1; have hf1 := hs8.free; have hf2 := hs8.free1; have hf3 := hs9.free; have hf4 := hs9.free1;
                have HA := (hs8.put2s (.bool qb) (.string sq)).put2o (show w.heap.size + 1 + 1 ≠ w.heap.size + 1 + 1 + 1 by omega) (.bool (rB R)) (.string (rS R));
                have HB := (hs9.put2o (show w.heap.size + 1 + 1 + 1 ≠ w.heap.size + 1 + 1 by omega) (.bool qb) (.string sq)).put2s (.bool (rB R)) (.string (rS R));
                have e1 := HA.cell; have e2 := HA.cell1; have e3 := HB.cell; have e4 := HB.cell1;
                have HE : Hid (RFloor w (put2 (put2 w2 (w.heap.size + 1 + 1) (.bool qb) (.string sq)) (w.heap.size + 1 + 1 + 1) (.bool (rB R)) (.string (rS R))) (.returned (.tuple #[.agg #[.bool qb, .string sq], .agg #[.bool (rB R), .string (rS R)]])) (flQ Z Y) (flR Z Y)) := ⟨HQ.out, (((B7.below.setCell (show w.heap.size ≤ w.heap.size + 1 + 1 by omega) _).setCell (show w.heap.size ≤ w.heap.size + 1 + 1 by omega) _).setCell (show w.heap.size ≤ w.heap.size + 1 + 1 + 1 by omega) _).setCell (show w.heap.size ≤ w.heap.size + 1 + 1 + 1 by omega) _⟩;
                unfold put2 at HE e1 e2 e3 e4; clear hs8 hs9 HA HB B7))
        all_goals
          go_wp2
          exact bodyPost_ret (v := .tuple #[.agg #[.bool qb, .string sq], .agg #[.bool (rB R), .string (rS R)]]) (by simp [results, Tryz.results107, go_sem, e1, e2, e3, e4]) rfl HE.out

theorem rFloor_any (Z Y : Int) (w : World) (hl : dl Z.natAbs ≤ 400) (hl2 : dl Y.natAbs ≤ 400) (hY : Y ≠ 0) :
    Calls Tryz.prog 107 #[.agg #[.bool (rB Z), .string (rS Z)], .agg #[.bool (rB Y), .string (rS Y)]] w fun e w' => RFloor w w' e (flQ Z Y) (flR Z Y) := by
  by_cases hs : rB Z = rB Y
  · exact rFloor_same Z Y w hl hl2 hY hs
  · exact rFloor_apart Z Y w hl hl2 hY hs

end Go.Proofs.YtgpcfncolhmgfaaGreatDoor
