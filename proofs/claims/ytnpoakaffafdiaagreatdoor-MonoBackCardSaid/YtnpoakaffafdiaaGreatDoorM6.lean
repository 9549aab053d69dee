/-
  Texts of this seat, laid together.
-/
import Derived.Deep.RegionHeld3
import Derived.Below
import Derived.Laws.StructEq
import Derived.Test.YtnpoakaffafdiaaGreatDoorM1
import Derived.Test.YtnpoakaffafdiaaGreatDoorM2
import Derived.Test.YtnpoakaffafdiaaGreatDoorM3
import Derived.Test.YtnpoakaffafdiaaGreatDoorM4
import Derived.Test.YtnpoakaffafdiaaGreatDoorM5

namespace Go.Proofs.YtnpoakaffafdiaaGreatDoor
open Go.RowKit
attribute [local go_sem ↓] Go.wp_at_zero Go.wp_at_succ
/-- The quotient after k rounds. -/
def QK (q k : Nat) : Int := -((q + k : Nat) : Int)
/-- How many rounds. -/
def RT1 (Z Y : Int) : Nat := if Z.natAbs % Y.natAbs = 0 then 0 else 1
theorem RT1_le (Z Y : Int) : RT1 Z Y ≤ 1 := by unfold RT1; split <;> omega
theorem flQ_apart {Z Y : Int} (ha : flA Z Y = true) : flQ Z Y = QK (Z.natAbs / Y.natAbs) (RT1 Z Y) := by
  unfold flQ flU RT1 QK; rw [ha]
  by_cases h : Z.natAbs % Y.natAbs = 0
  · simp [h, sgn]
  · simp [h, sgn]
theorem qk_nat (q k y : Nat) : QK q k * (y : Int) = -(((q + k) * y : Nat) : Int) := by
  unfold QK; rw [Int.neg_mul]; simp
theorem qk_abs (q k : Nat) : (QK q k).natAbs = q + k := by unfold QK; rw [Int.natAbs_neg, Int.natAbs_natCast]
theorem cmpZ_pos {A B : Int} (h : B < A) : cmpZ A B = 1 := by unfold cmpZ; split <;> (try split) <;> omega
theorem cmpZ_npos {A B : Int} (h : A ≤ B) : decide ((0 : Int) < cmpZ A B) = false := by refine decide_eq_false ?_; unfold cmpZ; split <;> (try split) <;> omega
theorem rS_m1 : rS (-1) = ⟨#[49]⟩ := by
  have h : str (dec 1) = ⟨#[49]⟩ := by
    have h1 : dl 1 = 1 := by unfold dl; rfl
    unfold dec; rw [h1]; rfl
  exact h
theorem qk_more {z y : Nat} (hr : ¬ z % y = 0) : -(z : Int) < QK (z / y) 0 * (y : Int) := by
  rw [qk_nat]
  have e := Nat.div_add_mod z y
  have : (z / y + 0) * y = y * (z / y) := by rw [Nat.add_zero, Nat.mul_comm]
  rw [this]; omega
theorem qk_done {z y k : Nat} (hy : 0 < y) (hk : k = if z % y = 0 then 0 else 1) : QK (z / y) k * (y : Int) ≤ -(z : Int) := by
  rw [qk_nat]
  have e := Nat.div_add_mod z y
  have hl := Nat.mod_lt z hy
  by_cases hr : z % y = 0
  · rw [if_pos hr] at hk; subst hk
    have : (z / y + 0) * y = y * (z / y) := by rw [Nat.add_zero, Nat.mul_comm]
    rw [this]; omega
  · rw [if_neg hr] at hk; subst hk
    have : (z / y + 1) * y = y * (z / y) + y := by rw [Nat.add_mul, Nat.mul_comm, Nat.one_mul]
    rw [this]; omega
set_option maxHeartbeats 3200000 in
set_option maxRecDepth 100000 in
theorem rFloor_apart (Z Y : Int) (w : World) (hl : dl Z.natAbs ≤ 400) (hl2 : dl Y.natAbs ≤ 400) (hY : Y ≠ 0) (hs : ¬ rB Z = rB Y) :
    Calls Tryz.prog 131 #[.agg #[.bool (rB Z), .string (rS Z)], .agg #[.bool (rB Y), .string (rS Y)]] w fun e w' => RFloor w w' e (flQ Z Y) (flR Z Y) := by
  have ha : flA Z Y = true := by rw [flA_rB]; revert hs; cases rB Z <;> cases rB Y <;> simp
  have hqe := flQ_apart ha
  obtain ⟨t, htT⟩ : ∃ t, RT1 Z Y = t := ⟨_, rfl⟩
  have ht1 : t ≤ 1 := by rw [← htT]; exact RT1_le Z Y
  have htd : t = if Z.natAbs % Y.natAbs = 0 then 0 else 1 := by rw [← htT]; rfl
  obtain ⟨q, hq⟩ : ∃ q, Z.natAbs / Y.natAbs = q := ⟨_, rfl⟩
  rw [hq, htT] at hqe
  have hy0 : 0 < Y.natAbs := by omega
  have hqz : q ≤ Z.natAbs := by rw [← hq]; exact Nat.div_le_self _ _
  have hqk : ∀ k, k ≤ 1 → dl (QK q k).natAbs ≤ 401 := by
    intro k hk
    rw [qk_abs]
    exact Nat.le_trans (dl_mono (show q + k ≤ Z.natAbs + 1 by omega)) (dl_add_le (k := 400) hl (by exact Nat.le_trans (dl_mono (show 1 ≤ Y.natAbs by omega)) hl2))
  have hqd : dl (flQ Z Y).natAbs ≤ 401 := by rw [hqe]; exact hqk t ht1
  have hpd : dl (flQ Z Y * Y).natAbs ≤ 801 := by rw [Int.natAbs_mul]; exact dl_mul_le hqd hl2
  have hR : Z + -(flQ Z Y * Y) = flR Z Y := by have := fl_times (Z := Z) hY; omega
  have DM : Hid (∀ wz, Calls Tryz.prog 150 #[.string (rS Z), .string (rS Y)] wz fun e w' => e = .returned (.tuple #[.string (str (dec q)), .string (str (dec (Z.natAbs % Y.natAbs)))]) ∧ Below wz.heap.size wz w') := fun wz => by have h1 := rdivMod_any Z.natAbs Y.natAbs wz (by omega) (by omega) (by omega); rw [hq] at h1; exact h1
  have OF : Hid (∀ wz, Calls Tryz.prog 129 #[.bool true, .string (str (dec q))] wz fun e w' => RTold wz w' e (QK q 0)) := by
    intro wz
    have h1 := rOf_dec true q wz (Nat.le_trans (dl_mono hqz) (by omega))
    rw [show sgn true q = QK q 0 from by simp [sgn, QK]] at h1
    exact h1
  have O1 : Hid (∀ wz, Calls Tryz.prog 129 #[.bool false, .string (rS Y)] wz fun e w' => RTold wz w' e (Y.natAbs : Int)) := by
    intro wz
    exact rOf_dec false Y.natAbs wz (by omega)
  have O2 : Hid (∀ wz, Calls Tryz.prog 129 #[.bool true, .string (rS Z)] wz fun e w' => RTold wz w' e (-(Z.natAbs : Int))) := by
    intro wz
    exact rOf_dec true Z.natAbs wz (by omega)
  have MUA : Hid (∀ k, k ≤ 1 → ∀ wz, Calls Tryz.prog 165 #[.agg #[.bool (rB (QK q k)), .string (rS (QK q k))], .agg #[.bool (rB (Y.natAbs : Int)), .string (rS (Y.natAbs : Int))]] wz fun e w' => RTold wz w' e (QK q k * (Y.natAbs : Int))) := fun k hk wz => rMul_any _ _ wz (by have := hqk k hk; omega) (by rw [Int.natAbs_natCast]; omega)
  have CMA : Hid (∀ k, k ≤ 1 → ∀ wz, Calls Tryz.prog 164 #[.agg #[.bool (rB (QK q k * (Y.natAbs : Int))), .string (rS (QK q k * (Y.natAbs : Int)))], .agg #[.bool (rB (-(Z.natAbs : Int))), .string (rS (-(Z.natAbs : Int)))]] wz fun e w' => e = .returned (.int .i64 (cmpZ (QK q k * (Y.natAbs : Int)) (-(Z.natAbs : Int)))) ∧ Below wz.heap.size wz w') := fun k hk wz => rCmp_any _ _ wz (by rw [Int.natAbs_mul, Int.natAbs_natCast]; have := dl_mul_le (hqk k hk) hl2; omega) (by rw [Int.natAbs_neg, Int.natAbs_natCast]; omega)
  have A1 : Hid (∀ k, k ≤ 0 → ∀ wz, Calls Tryz.prog 166 #[.agg #[.bool (rB (QK q k)), .string (rS (QK q k))], .agg #[.bool true, .string ⟨#[49]⟩]] wz fun e w' => RTold wz w' e (QK q (k + 1))) := by
    intro k hk wz
    have h1 := rAdd_any (QK q k) (-1) wz (by have := hqk k (by omega); omega) (Nat.le_trans (dl_le 1 1 (by omega) (by omega)) (by omega))
    rw [show QK q k + -1 = QK q (k + 1) from by unfold QK; omega, show rB (-1) = true from rfl, rS_m1] at h1
    exact h1
  have HD1 : Hid (∀ k, k < t → decide ((0 : Int) < cmpZ (QK q k * (Y.natAbs : Int)) (-(Z.natAbs : Int))) = true) := by
    intro k hk
    have hk0 : k = 0 := by omega
    subst hk0
    rw [cmpZ_pos (by rw [← hq]; refine qk_more ?_; intro h; rw [if_pos h] at htd; omega)]; rfl
  have HD2 : Hid (decide ((0 : Int) < cmpZ (QK q t * (Y.natAbs : Int)) (-(Z.natAbs : Int))) = false) := cmpZ_npos (by rw [← hq]; exact qk_done hy0 htd)
  have MU : Hid (∀ wz, Calls Tryz.prog 165 #[.agg #[.bool (rB (flQ Z Y)), .string (rS (flQ Z Y))], .agg #[.bool (rB Y), .string (rS Y)]] wz fun e w' => RTold wz w' e (flQ Z Y * Y)) := fun wz => rMul_any _ _ wz (by omega) (by omega)
  have MI : Hid (∀ wz, Calls Tryz.prog 130 #[.agg #[.bool (rB (flQ Z Y * Y)), .string (rS (flQ Z Y * Y))]] wz fun e w' => RTold wz w' e (-(flQ Z Y * Y))) := fun wz => rMinus_any _ wz (by omega)
  have AD : Hid (∀ wz, Calls Tryz.prog 166 #[.agg #[.bool (rB Z), .string (rS Z)], .agg #[.bool (rB (-(flQ Z Y * Y))), .string (rS (-(flQ Z Y * Y)))]] wz fun e w' => RTold wz w' e (flR Z Y)) := by
    intro wz
    have h1 := rAdd_any Z (-(flQ Z Y * Y)) wz (by omega) (by rw [Int.natAbs_neg]; omega)
    rw [hR] at h1; exact h1
  unfold RTold at OF O1 O2 MUA A1 MU MI AD
  have hd : (rB Z == rB Y) = false := by revert hs; cases rB Z <;> cases rB Y <;> simp
  obtain ⟨sq, hsq⟩ : ∃ sq, rS (flQ Z Y) = sq := ⟨_, rfl⟩
  obtain ⟨qb, hqb⟩ : ∃ qb, rB (flQ Z Y) = qb := ⟨_, rfl⟩
  obtain ⟨R, hRe⟩ : ∃ R, flR Z Y = R := ⟨_, rfl⟩
  obtain ⟨V, hV⟩ : ∃ V, flQ Z Y * Y = V := ⟨_, rfl⟩
  have HQ : Hid (Ending.returned (.tuple #[.agg #[.bool qb, .string sq], .agg #[.bool (rB R), .string (rS R)]]) = .returned (.tuple #[.agg #[.bool (rB (flQ Z Y)), .string (rS (flQ Z Y))], .agg #[.bool (rB (flR Z Y)), .string (rS (flR Z Y))]])) := Lib.hid (by rw [hqb, hsq, hRe])
  have HT : Hid (rB (QK q t) = qb ∧ rS (QK q t) = sq) := ⟨by rw [← hqe]; exact hqb, by rw [← hqe]; exact hsq⟩
  rw [hqb, hsq] at MU
  rw [hRe] at AD
  rw [hV] at MU MI AD
  obtain ⟨b, hbe⟩ : ∃ b, rB Z = b := ⟨_, rfl⟩
  obtain ⟨b2, hbe2⟩ : ∃ b2, rB Y = b2 := ⟨_, rfl⟩
  obtain ⟨s, hse⟩ : ∃ s, rS Z = s := ⟨_, rfl⟩
  obtain ⟨s2, hse2⟩ : ∃ s2, rS Y = s2 := ⟨_, rfl⟩
  obtain ⟨YA, hYA⟩ : ∃ YA, (Y.natAbs : Int) = YA := ⟨_, rfl⟩
  obtain ⟨ZA, hZA⟩ : ∃ ZA, -(Z.natAbs : Int) = ZA := ⟨_, rfl⟩
  rw [hbe] at AD hd ⊢
  rw [hbe2] at MU hd ⊢
  rw [hse] at DM AD O2 ⊢
  rw [hse2] at DM MU O1 ⊢
  rw [hYA] at O1 MUA CMA HD1 HD2
  rw [hZA] at O2 CMA HD1 HD2
  have BB := Lib.hid (RF.start w b s b2 s2)
  have q0 := BB.out.now.2.2.2.cell
  have q1 := BB.out.now.2.2.2.cell1
  have q2 := BB.out.now.2.2.1.cell
  have q3 := BB.out.now.2.2.1.cell1
  clear hl hl2 hY hs ha hqe htT htd hq hy0 hqz hqk hqd hpd hR hsq hqb hRe hV hbe hbe2 hse hse2 hYA hZA
  obtain ⟨u, hu⟩ : ∃ u, rB (QK q 0) = u := ⟨_, rfl⟩
  rw [hu] at OF
  cases u
  · go_enter Tryz.func131, Tryz.ntmps131
    go_wp2_with (first
      | (go_at_call 150; (with_reducible refine (DM.out _).mono ?_); rintro e w2 ⟨rfl, hb2⟩; have BB := Lib.hid (BB.out.go hb2); have q0 := BB.out.now.2.2.2.cell; have q1 := BB.out.now.2.2.2.cell1; have q2 := BB.out.now.2.2.1.cell; have q3 := BB.out.now.2.2.1.cell1; clear hb2)
      | (go_at_call 129; (with_reducible refine (OF.out _).mono ?_); rintro e w3 ⟨rfl, hb3⟩; have hk3 : w.heap.size + 1 + 1 + 1 < w3.heap.size := RX.lt (BB.out.go hb3).now.2.1; have BB := Lib.hid ((BB.out.go hb3).box2 (.bool false) (.string (rS (QK q 0))) 116); have q0 := BB.out.now.2.2.2.2.cell; have q1 := BB.out.now.2.2.2.2.cell1; have q2 := BB.out.now.2.2.2.1.cell; have q3 := BB.out.now.2.2.2.1.cell1; have q4 := BB.out.now.1.cell; have q5 := BB.out.now.1.cell1; clear hb3))
    go_loopw [9] (fun i wr => ∃ k : Nat, k ≤ t ∧ i = .int .i64 k ∧ Hid (Bag w (fun y => Slot2 y w3.heap.size (.bool (rB (QK q k))) (.string (rS (QK q k))) ∧ RF w.heap.size b s b2 s2 y) wr))
      (fun i _ => 2 - (intOf i).toNat)
    case atStart =>
      refine ⟨0, by omega, rfl, ?_⟩
      show Hid (Bag w (fun y => Slot2 y w3.heap.size (.bool (rB (QK q 0))) (.string (rS (QK q 0))) ∧ RF w.heap.size b s b2 s2 y) _)
      rw [hu]; exact BB
    case round =>
      obtain ⟨k, hk, rfl, BB⟩ := hrel
      have q0 := BB.out.now.2.2.2.2.cell; have q1 := BB.out.now.2.2.2.2.cell1; have q2 := BB.out.now.2.2.2.1.cell; have q3 := BB.out.now.2.2.2.1.cell1; have q4 := BB.out.now.1.cell; have q5 := BB.out.now.1.cell1
      have MUK := Lib.hid (MUA.out k (by omega))
      have CMK := Lib.hid (CMA.out k (by omega))
      by_cases hkt : k < t
      · have d1 := HD1.out k hkt
        have d2 : decide ((k : Int) < 2) = true := decide_eq_true (by omega)
        obtain ⟨c, hc⟩ : ∃ c, cmpZ (QK q k * YA) ZA = c := ⟨_, rfl⟩
        rw [hc] at CMK d1
        have A1K := Lib.hid (A1.out k (by omega))
        clear hc HD1 HD2
        go_wp2_with fail
        go_region_held3 (fun y => (y.cell? ⟨w.heap.size, 0, none⟩ = some (.bool b) ∧ y.cell? ⟨w.heap.size, 1, none⟩ = some (.string s) ∧ y.cell? ⟨w.heap.size + 1, 0, none⟩ = some (.bool b2) ∧ y.cell? ⟨w.heap.size + 1, 1, none⟩ = some (.string s2) ∧ y.cell? ⟨w3.heap.size, 0, none⟩ = some (.bool (rB (QK q k))) ∧ y.cell? ⟨w3.heap.size, 1, none⟩ = some (.string (rS (QK q k)))) ∧ Bag w (fun y => Slot2 y w3.heap.size (.bool (rB (QK q k))) (.string (rS (QK q k))) ∧ RF w.heap.size b s b2 s2 y) y)
          (first
            | (have B9 := BB.out.drew; exact ⟨⟨B9.now.2.2.2.2.cell, B9.now.2.2.2.2.cell1, B9.now.2.2.2.1.cell, B9.now.2.2.2.1.cell1, B9.now.1.cell, B9.now.1.cell1⟩, B9⟩)
            | (have B9 := Bag.go (show Bag w (fun y => Slot2 y w3.heap.size (.bool (rB (QK q k))) (.string (rS (QK q k))) ∧ RF w.heap.size b s b2 s2 y) _ from by go_split_ands; assumption) hb2; exact ⟨⟨B9.now.2.2.2.2.cell, B9.now.2.2.2.2.cell1, B9.now.2.2.2.1.cell, B9.now.2.2.2.1.cell1, B9.now.1.cell, B9.now.1.cell1⟩, B9⟩))
          (first
            | (go_at_call 129; (with_reducible refine (O1.out _).mono ?_); rintro e w2 ⟨rfl, hb2⟩)
            | (go_at_call 129; (with_reducible refine (O2.out _).mono ?_); rintro e w2 ⟨rfl, hb2⟩)
            | (go_at_call 165; (with_reducible refine (MUK.out _).mono ?_); rintro e w2 ⟨rfl, hb2⟩)
            | (go_at_call 164; (with_reducible refine (CMK.out _).mono ?_); rintro e w2 ⟨rfl, hb2⟩))
        have BB := Lib.hid (show Bag w (fun y => Slot2 y w3.heap.size (.bool (rB (QK q k))) (.string (rS (QK q k))) ∧ RF w.heap.size b s b2 s2 y) _ from by go_split_ands; assumption)
        have q0 := BB.out.now.2.2.2.2.cell; have q1 := BB.out.now.2.2.2.2.cell1; have q2 := BB.out.now.2.2.2.1.cell; have q3 := BB.out.now.2.2.2.1.cell1; have q4 := BB.out.now.1.cell; have q5 := BB.out.now.1.cell1
        go_wp2_with (go_at_call 166; (with_reducible refine (A1K.out _).mono ?_); rintro e w4 ⟨rfl, hb4⟩; have B4 := BB.out.go hb4; have hs4 := B4.now.1; have hc1 := hs4.cell; have hc2 := hs4.cell1; have hf1 := hs4.free; have hf2 := hs4.free1)
        go_roundw
        case rel => exact ⟨k + 1, by omega, by go_num, Lib.hid ⟨((B4.below.setCell (show w.heap.size ≤ w3.heap.size by omega) _).setCell (show w.heap.size ≤ w3.heap.size by omega) _), fun x y hb h => ⟨h.1.below hb, RF.stay x y hb h.2⟩, hs4.put2s _ _, B4.now.2.put2 (by omega) (by omega) _ _⟩⟩
        case measure => simp [intOf]; omega
      · have hkt : k = t := by omega
        subst hkt
        have d1 := HD2.out
        have d2 : decide ((k : Int) < 2) = true := decide_eq_true (by omega)
        obtain ⟨c, hc⟩ : ∃ c, cmpZ (QK q k * YA) ZA = c := ⟨_, rfl⟩
        rw [hc] at CMK d1
        clear hc HD1 HD2
        go_wp2_with fail
        go_region_held3 (fun y => (y.cell? ⟨w.heap.size, 0, none⟩ = some (.bool b) ∧ y.cell? ⟨w.heap.size, 1, none⟩ = some (.string s) ∧ y.cell? ⟨w.heap.size + 1, 0, none⟩ = some (.bool b2) ∧ y.cell? ⟨w.heap.size + 1, 1, none⟩ = some (.string s2) ∧ y.cell? ⟨w3.heap.size, 0, none⟩ = some (.bool (rB (QK q k))) ∧ y.cell? ⟨w3.heap.size, 1, none⟩ = some (.string (rS (QK q k)))) ∧ Bag w (fun y => Slot2 y w3.heap.size (.bool (rB (QK q k))) (.string (rS (QK q k))) ∧ RF w.heap.size b s b2 s2 y) y)
          (first
            | (have B9 := BB.out.drew; exact ⟨⟨B9.now.2.2.2.2.cell, B9.now.2.2.2.2.cell1, B9.now.2.2.2.1.cell, B9.now.2.2.2.1.cell1, B9.now.1.cell, B9.now.1.cell1⟩, B9⟩)
            | (have B9 := Bag.go (show Bag w (fun y => Slot2 y w3.heap.size (.bool (rB (QK q k))) (.string (rS (QK q k))) ∧ RF w.heap.size b s b2 s2 y) _ from by go_split_ands; assumption) hb2; exact ⟨⟨B9.now.2.2.2.2.cell, B9.now.2.2.2.2.cell1, B9.now.2.2.2.1.cell, B9.now.2.2.2.1.cell1, B9.now.1.cell, B9.now.1.cell1⟩, B9⟩))
          (first
            | (go_at_call 129; (with_reducible refine (O1.out _).mono ?_); rintro e w2 ⟨rfl, hb2⟩)
            | (go_at_call 129; (with_reducible refine (O2.out _).mono ?_); rintro e w2 ⟨rfl, hb2⟩)
            | (go_at_call 165; (with_reducible refine (MUK.out _).mono ?_); rintro e w2 ⟨rfl, hb2⟩)
            | (go_at_call 164; (with_reducible refine (CMK.out _).mono ?_); rintro e w2 ⟨rfl, hb2⟩))
        have BB := Lib.hid (show Bag w (fun y => Slot2 y w3.heap.size (.bool (rB (QK q k))) (.string (rS (QK q k))) ∧ RF w.heap.size b s b2 s2 y) _ from by go_split_ands; assumption)
        have q0 := BB.out.now.2.2.2.2.cell; have q1 := BB.out.now.2.2.2.2.cell1; have q2 := BB.out.now.2.2.2.1.cell; have q3 := BB.out.now.2.2.2.1.cell1; have q4 := BB.out.now.1.cell; have q5 := BB.out.now.1.cell1
        go_wp2_with fail
        obtain ⟨ht1, ht2⟩ := HT.out
        rw [ht1, ht2] at BB
        rw [ht1] at q4
        rw [ht2] at q5
        clear ht1 ht2
        go_region_held3 (fun y => (y.cell? ⟨w.heap.size, 0, none⟩ = some (.bool b) ∧ y.cell? ⟨w.heap.size, 1, none⟩ = some (.string s) ∧ y.cell? ⟨w.heap.size + 1, 0, none⟩ = some (.bool b2) ∧ y.cell? ⟨w.heap.size + 1, 1, none⟩ = some (.string s2) ∧ y.cell? ⟨w3.heap.size, 0, none⟩ = some (.bool qb) ∧ y.cell? ⟨w3.heap.size, 1, none⟩ = some (.string sq)) ∧ Bag w (fun y => Slot2 y w3.heap.size (.bool qb) (.string sq) ∧ RF w.heap.size b s b2 s2 y) y)
          (first
            | (have B9 := BB.out.drew; exact ⟨⟨B9.now.2.2.2.2.cell, B9.now.2.2.2.2.cell1, B9.now.2.2.2.1.cell, B9.now.2.2.2.1.cell1, B9.now.1.cell, B9.now.1.cell1⟩, B9⟩)
            | (have B9 := Bag.go (show Bag w (fun y => Slot2 y w3.heap.size (.bool qb) (.string sq) ∧ RF w.heap.size b s b2 s2 y) _ from by go_split_ands; assumption) hb2; exact ⟨⟨B9.now.2.2.2.2.cell, B9.now.2.2.2.2.cell1, B9.now.2.2.2.1.cell, B9.now.2.2.2.1.cell1, B9.now.1.cell, B9.now.1.cell1⟩, B9⟩)
            | (have B9 := Bag.put2 (show Bag w (fun y => Slot2 y w3.heap.size (.bool qb) (.string sq) ∧ RF w.heap.size b s b2 s2 y) _ from by go_split_ands; assumption) (k := w.heap.size + 1 + 1) (u := .bool qb) (v := .string sq) (by omega) (fun h => ⟨h.1.put2o (by omega) _ _, h.2.put2 (by omega) (by omega) _ _⟩); exact ⟨⟨B9.now.2.2.2.2.cell, B9.now.2.2.2.2.cell1, B9.now.2.2.2.1.cell, B9.now.2.2.2.1.cell1, B9.now.1.cell, B9.now.1.cell1⟩, B9⟩)
            | (have B9 := Bag.put2 (show Bag w (fun y => Slot2 y w3.heap.size (.bool qb) (.string sq) ∧ RF w.heap.size b s b2 s2 y) _ from by go_split_ands; assumption) (k := w.heap.size + 1 + 1 + 1) (u := .bool (rB R)) (v := .string (rS R)) (by omega) (fun h => ⟨h.1.put2o (by omega) _ _, h.2.put2 (by omega) (by omega) _ _⟩); exact ⟨⟨B9.now.2.2.2.2.cell, B9.now.2.2.2.2.cell1, B9.now.2.2.2.1.cell, B9.now.2.2.2.1.cell1, B9.now.1.cell, B9.now.1.cell1⟩, B9⟩))
          (first
            | (go_at_call 165; (with_reducible refine (MU.out _).mono ?_); rintro e w2 ⟨rfl, hb2⟩)
            | (go_at_call 130; (with_reducible refine (MI.out _).mono ?_); rintro e w2 ⟨rfl, hb2⟩)
            | (go_at_call 166; (with_reducible refine (AD.out _).mono ?_); rintro e w2 ⟨rfl, hb2⟩;
                have B7 := Bag.go (show Bag w (fun y => Slot2 y w3.heap.size (.bool qb) (.string sq) ∧ RF w.heap.size b s b2 s2 y) _ from by go_split_ands; assumption) hb2;
                obtain ⟨x8, z8, hs8⟩ := B7.now.2.1;
                obtain ⟨x9, z9, hs9⟩ := B7.now.2.2.1;
                have hc1 := hs8.cell; have hc2 := hs8.cell1; have hc3 := hs9.cell; have hc4 := hs9.cell1; have hf1 := hs8.free; have hf2 := hs8.free1; have hf3 := hs9.free; have hf4 := hs9.free1;
                have HA := (hs8.put2s (.bool qb) (.string sq)).put2o (show w.heap.size + 1 + 1 ≠ w.heap.size + 1 + 1 + 1 by omega) (.bool (rB R)) (.string (rS R));
                have HB := (hs9.put2o (show w.heap.size + 1 + 1 + 1 ≠ w.heap.size + 1 + 1 by omega) (.bool qb) (.string sq)).put2s (.bool (rB R)) (.string (rS R));
                have e1 := HA.cell; have e2 := HA.cell1; have e3 := HB.cell; have e4 := HB.cell1;
                have HE : Hid (RFloor w (put2 (put2 w2 (w.heap.size + 1 + 1) (.bool qb) (.string sq)) (w.heap.size + 1 + 1 + 1) (.bool (rB R)) (.string (rS R))) (.returned (.tuple #[.agg #[.bool qb, .string sq], .agg #[.bool (rB R), .string (rS R)]])) (flQ Z Y) (flR Z Y)) := ⟨HQ.out, (((B7.below.setCell (show w.heap.size ≤ w.heap.size + 1 + 1 by omega) _).setCell (show w.heap.size ≤ w.heap.size + 1 + 1 by omega) _).setCell (show w.heap.size ≤ w.heap.size + 1 + 1 + 1 by omega) _).setCell (show w.heap.size ≤ w.heap.size + 1 + 1 + 1 by omega) _⟩;
                unfold put2 at HE e1 e2 e3 e4; clear hs8 hs9 HA HB B7))
        all_goals
          go_wp2
          exact bodyPost_ret (v := .tuple #[.agg #[.bool qb, .string sq], .agg #[.bool (rB R), .string (rS R)]]) (by simp [results, Tryz.results131, go_sem, e1, e2, e3, e4]) rfl HE.out
  · go_enter Tryz.func131, Tryz.ntmps131
    go_wp2_with (first
      | (go_at_call 150; (with_reducible refine (DM.out _).mono ?_); rintro e w2 ⟨rfl, hb2⟩; have BB := Lib.hid (BB.out.go hb2); have q0 := BB.out.now.2.2.2.cell; have q1 := BB.out.now.2.2.2.cell1; have q2 := BB.out.now.2.2.1.cell; have q3 := BB.out.now.2.2.1.cell1; clear hb2)
      | (go_at_call 129; (with_reducible refine (OF.out _).mono ?_); rintro e w3 ⟨rfl, hb3⟩; have hk3 : w.heap.size + 1 + 1 + 1 < w3.heap.size := RX.lt (BB.out.go hb3).now.2.1; have BB := Lib.hid ((BB.out.go hb3).box2 (.bool true) (.string (rS (QK q 0))) 116); have q0 := BB.out.now.2.2.2.2.cell; have q1 := BB.out.now.2.2.2.2.cell1; have q2 := BB.out.now.2.2.2.1.cell; have q3 := BB.out.now.2.2.2.1.cell1; have q4 := BB.out.now.1.cell; have q5 := BB.out.now.1.cell1; clear hb3))
    go_loopw [9] (fun i wr => ∃ k : Nat, k ≤ t ∧ i = .int .i64 k ∧ Hid (Bag w (fun y => Slot2 y w3.heap.size (.bool (rB (QK q k))) (.string (rS (QK q k))) ∧ RF w.heap.size b s b2 s2 y) wr))
      (fun i _ => 2 - (intOf i).toNat)
    case atStart =>
      refine ⟨0, by omega, rfl, ?_⟩
      show Hid (Bag w (fun y => Slot2 y w3.heap.size (.bool (rB (QK q 0))) (.string (rS (QK q 0))) ∧ RF w.heap.size b s b2 s2 y) _)
      rw [hu]; exact BB
    case round =>
      obtain ⟨k, hk, rfl, BB⟩ := hrel
      have q0 := BB.out.now.2.2.2.2.cell; have q1 := BB.out.now.2.2.2.2.cell1; have q2 := BB.out.now.2.2.2.1.cell; have q3 := BB.out.now.2.2.2.1.cell1; have q4 := BB.out.now.1.cell; have q5 := BB.out.now.1.cell1
      have MUK := Lib.hid (MUA.out k (by omega))
      have CMK := Lib.hid (CMA.out k (by omega))
      by_cases hkt : k < t
      · have d1 := HD1.out k hkt
        have d2 : decide ((k : Int) < 2) = true := decide_eq_true (by omega)
        obtain ⟨c, hc⟩ : ∃ c, cmpZ (QK q k * YA) ZA = c := ⟨_, rfl⟩
        rw [hc] at CMK d1
        have A1K := Lib.hid (A1.out k (by omega))
        clear hc HD1 HD2
        go_wp2_with fail
        go_region_held3 (fun y => (y.cell? ⟨w.heap.size, 0, none⟩ = some (.bool b) ∧ y.cell? ⟨w.heap.size, 1, none⟩ = some (.string s) ∧ y.cell? ⟨w.heap.size + 1, 0, none⟩ = some (.bool b2) ∧ y.cell? ⟨w.heap.size + 1, 1, none⟩ = some (.string s2) ∧ y.cell? ⟨w3.heap.size, 0, none⟩ = some (.bool (rB (QK q k))) ∧ y.cell? ⟨w3.heap.size, 1, none⟩ = some (.string (rS (QK q k)))) ∧ Bag w (fun y => Slot2 y w3.heap.size (.bool (rB (QK q k))) (.string (rS (QK q k))) ∧ RF w.heap.size b s b2 s2 y) y)
          (first
            | (have B9 := BB.out.drew; exact ⟨⟨B9.now.2.2.2.2.cell, B9.now.2.2.2.2.cell1, B9.now.2.2.2.1.cell, B9.now.2.2.2.1.cell1, B9.now.1.cell, B9.now.1.cell1⟩, B9⟩)
            | (have B9 := Bag.go (show Bag w (fun y => Slot2 y w3.heap.size (.bool (rB (QK q k))) (.string (rS (QK q k))) ∧ RF w.heap.size b s b2 s2 y) _ from by go_split_ands; assumption) hb2; exact ⟨⟨B9.now.2.2.2.2.cell, B9.now.2.2.2.2.cell1, B9.now.2.2.2.1.cell, B9.now.2.2.2.1.cell1, B9.now.1.cell, B9.now.1.cell1⟩, B9⟩))
          (first
            | (go_at_call 129; (with_reducible refine (O1.out _).mono ?_); rintro e w2 ⟨rfl, hb2⟩)
            | (go_at_call 129; (with_reducible refine (O2.out _).mono ?_); rintro e w2 ⟨rfl, hb2⟩)
            | (go_at_call 165; (with_reducible refine (MUK.out _).mono ?_); rintro e w2 ⟨rfl, hb2⟩)
            | (go_at_call 164; (with_reducible refine (CMK.out _).mono ?_); rintro e w2 ⟨rfl, hb2⟩))
        have BB := Lib.hid (show Bag w (fun y => Slot2 y w3.heap.size (.bool (rB (QK q k))) (.string (rS (QK q k))) ∧ RF w.heap.size b s b2 s2 y) _ from by go_split_ands; assumption)
        have q0 := BB.out.now.2.2.2.2.cell; have q1 := BB.out.now.2.2.2.2.cell1; have q2 := BB.out.now.2.2.2.1.cell; have q3 := BB.out.now.2.2.2.1.cell1; have q4 := BB.out.now.1.cell; have q5 := BB.out.now.1.cell1
        go_wp2_with (go_at_call 166; (with_reducible refine (A1K.out _).mono ?_); rintro e w4 ⟨rfl, hb4⟩; have B4 := BB.out.go hb4; have hs4 := B4.now.1; have hc1 := hs4.cell; have hc2 := hs4.cell1; have hf1 := hs4.free; have hf2 := hs4.free1)
        go_roundw
        case rel => exact ⟨k + 1, by omega, by go_num, Lib.hid ⟨((B4.below.setCell (show w.heap.size ≤ w3.heap.size by omega) _).setCell (show w.heap.size ≤ w3.heap.size by omega) _), fun x y hb h => ⟨h.1.below hb, RF.stay x y hb h.2⟩, hs4.put2s _ _, B4.now.2.put2 (by omega) (by omega) _ _⟩⟩
        case measure => simp [intOf]; omega
      · have hkt : k = t := by omega
        subst hkt
        have d1 := HD2.out
        have d2 : decide ((k : Int) < 2) = true := decide_eq_true (by omega)
        obtain ⟨c, hc⟩ : ∃ c, cmpZ (QK q k * YA) ZA = c := ⟨_, rfl⟩
        rw [hc] at CMK d1
        clear hc HD1 HD2
        go_wp2_with fail
        go_region_held3 (fun y => (y.cell? ⟨w.heap.size, 0, none⟩ = some (.bool b) ∧ y.cell? ⟨w.heap.size, 1, none⟩ = some (.string s) ∧ y.cell? ⟨w.heap.size + 1, 0, none⟩ = some (.bool b2) ∧ y.cell? ⟨w.heap.size + 1, 1, none⟩ = some (.string s2) ∧ y.cell? ⟨w3.heap.size, 0, none⟩ = some (.bool (rB (QK q k))) ∧ y.cell? ⟨w3.heap.size, 1, none⟩ = some (.string (rS (QK q k)))) ∧ Bag w (fun y => Slot2 y w3.heap.size (.bool (rB (QK q k))) (.string (rS (QK q k))) ∧ RF w.heap.size b s b2 s2 y) y)
          (first
            | (have B9 := BB.out.drew; exact ⟨⟨B9.now.2.2.2.2.cell, B9.now.2.2.2.2.cell1, B9.now.2.2.2.1.cell, B9.now.2.2.2.1.cell1, B9.now.1.cell, B9.now.1.cell1⟩, B9⟩)
            | (have B9 := Bag.go (show Bag w (fun y => Slot2 y w3.heap.size (.bool (rB (QK q k))) (.string (rS (QK q k))) ∧ RF w.heap.size b s b2 s2 y) _ from by go_split_ands; assumption) hb2; exact ⟨⟨B9.now.2.2.2.2.cell, B9.now.2.2.2.2.cell1, B9.now.2.2.2.1.cell, B9.now.2.2.2.1.cell1, B9.now.1.cell, B9.now.1.cell1⟩, B9⟩))
          (first
            | (go_at_call 129; (with_reducible refine (O1.out _).mono ?_); rintro e w2 ⟨rfl, hb2⟩)
            | (go_at_call 129; (with_reducible refine (O2.out _).mono ?_); rintro e w2 ⟨rfl, hb2⟩)
            | (go_at_call 165; (with_reducible refine (MUK.out _).mono ?_); rintro e w2 ⟨rfl, hb2⟩)
            | (go_at_call 164; (with_reducible refine (CMK.out _).mono ?_); rintro e w2 ⟨rfl, hb2⟩))
        have BB := Lib.hid (show Bag w (fun y => Slot2 y w3.heap.size (.bool (rB (QK q k))) (.string (rS (QK q k))) ∧ RF w.heap.size b s b2 s2 y) _ from by go_split_ands; assumption)
        have q0 := BB.out.now.2.2.2.2.cell; have q1 := BB.out.now.2.2.2.2.cell1; have q2 := BB.out.now.2.2.2.1.cell; have q3 := BB.out.now.2.2.2.1.cell1; have q4 := BB.out.now.1.cell; have q5 := BB.out.now.1.cell1
        go_wp2_with fail
        obtain ⟨ht1, ht2⟩ := HT.out
        rw [ht1, ht2] at BB
        rw [ht1] at q4
        rw [ht2] at q5
        clear ht1 ht2
        go_region_held3 (fun y => (y.cell? ⟨w.heap.size, 0, none⟩ = some (.bool b) ∧ y.cell? ⟨w.heap.size, 1, none⟩ = some (.string s) ∧ y.cell? ⟨w.heap.size + 1, 0, none⟩ = some (.bool b2) ∧ y.cell? ⟨w.heap.size + 1, 1, none⟩ = some (.string s2) ∧ y.cell? ⟨w3.heap.size, 0, none⟩ = some (.bool qb) ∧ y.cell? ⟨w3.heap.size, 1, none⟩ = some (.string sq)) ∧ Bag w (fun y => Slot2 y w3.heap.size (.bool qb) (.string sq) ∧ RF w.heap.size b s b2 s2 y) y)
          (first
            | (have B9 := BB.out.drew; exact ⟨⟨B9.now.2.2.2.2.cell, B9.now.2.2.2.2.cell1, B9.now.2.2.2.1.cell, B9.now.2.2.2.1.cell1, B9.now.1.cell, B9.now.1.cell1⟩, B9⟩)
            | (have B9 := Bag.go (show Bag w (fun y => Slot2 y w3.heap.size (.bool qb) (.string sq) ∧ RF w.heap.size b s b2 s2 y) _ from by go_split_ands; assumption) hb2; exact ⟨⟨B9.now.2.2.2.2.cell, B9.now.2.2.2.2.cell1, B9.now.2.2.2.1.cell, B9.now.2.2.2.1.cell1, B9.now.1.cell, B9.now.1.cell1⟩, B9⟩)
            | (have B9 := Bag.put2 (show Bag w (fun y => Slot2 y w3.heap.size (.bool qb) (.string sq) ∧ RF w.heap.size b s b2 s2 y) _ from by go_split_ands; assumption) (k := w.heap.size + 1 + 1) (u := .bool qb) (v := .string sq) (by omega) (fun h => ⟨h.1.put2o (by omega) _ _, h.2.put2 (by omega) (by omega) _ _⟩); exact ⟨⟨B9.now.2.2.2.2.cell, B9.now.2.2.2.2.cell1, B9.now.2.2.2.1.cell, B9.now.2.2.2.1.cell1, B9.now.1.cell, B9.now.1.cell1⟩, B9⟩)
            | (have B9 := Bag.put2 (show Bag w (fun y => Slot2 y w3.heap.size (.bool qb) (.string sq) ∧ RF w.heap.size b s b2 s2 y) _ from by go_split_ands; assumption) (k := w.heap.size + 1 + 1 + 1) (u := .bool (rB R)) (v := .string (rS R)) (by omega) (fun h => ⟨h.1.put2o (by omega) _ _, h.2.put2 (by omega) (by omega) _ _⟩); exact ⟨⟨B9.now.2.2.2.2.cell, B9.now.2.2.2.2.cell1, B9.now.2.2.2.1.cell, B9.now.2.2.2.1.cell1, B9.now.1.cell, B9.now.1.cell1⟩, B9⟩))
          (first
            | (go_at_call 165; (with_reducible refine (MU.out _).mono ?_); rintro e w2 ⟨rfl, hb2⟩)
            | (go_at_call 130; (with_reducible refine (MI.out _).mono ?_); rintro e w2 ⟨rfl, hb2⟩)
            | (go_at_call 166; (with_reducible refine (AD.out _).mono ?_); rintro e w2 ⟨rfl, hb2⟩;
                have B7 := Bag.go (show Bag w (fun y => Slot2 y w3.heap.size (.bool qb) (.string sq) ∧ RF w.heap.size b s b2 s2 y) _ from by go_split_ands; assumption) hb2;
                obtain ⟨x8, z8, hs8⟩ := B7.now.2.1;
                obtain ⟨x9, z9, hs9⟩ := B7.now.2.2.1;
                have hc1 := hs8.cell; have hc2 := hs8.cell1; have hc3 := hs9.cell; have hc4 := hs9.cell1; have hf1 := hs8.free; have hf2 := hs8.free1; have hf3 := hs9.free; have hf4 := hs9.free1;
                have HA := (hs8.put2s (.bool qb) (.string sq)).put2o (show w.heap.size + 1 + 1 ≠ w.heap.size + 1 + 1 + 1 by omega) (.bool (rB R)) (.string (rS R));
                have HB := (hs9.put2o (show w.heap.size + 1 + 1 + 1 ≠ w.heap.size + 1 + 1 by omega) (.bool qb) (.string sq)).put2s (.bool (rB R)) (.string (rS R));
                have e1 := HA.cell; have e2 := HA.cell1; have e3 := HB.cell; have e4 := HB.cell1;
                have HE : Hid (RFloor w (put2 (put2 w2 (w.heap.size + 1 + 1) (.bool qb) (.string sq)) (w.heap.size + 1 + 1 + 1) (.bool (rB R)) (.string (rS R))) (.returned (.tuple #[.agg #[.bool qb, .string sq], .agg #[.bool (rB R), .string (rS R)]])) (flQ Z Y) (flR Z Y)) := ⟨HQ.out, (((B7.below.setCell (show w.heap.size ≤ w.heap.size + 1 + 1 by omega) _).setCell (show w.heap.size ≤ w.heap.size + 1 + 1 by omega) _).setCell (show w.heap.size ≤ w.heap.size + 1 + 1 + 1 by omega) _).setCell (show w.heap.size ≤ w.heap.size + 1 + 1 + 1 by omega) _⟩;
                unfold put2 at HE e1 e2 e3 e4; clear hs8 hs9 HA HB B7))
        all_goals
          go_wp2
          exact bodyPost_ret (v := .tuple #[.agg #[.bool qb, .string sq], .agg #[.bool (rB R), .string (rS R)]]) (by simp [results, Tryz.results131, go_sem, e1, e2, e3, e4]) rfl HE.out
theorem rFloor_any (Z Y : Int) (w : World) (hl : dl Z.natAbs ≤ 400) (hl2 : dl Y.natAbs ≤ 400) (hY : Y ≠ 0) :
    Calls Tryz.prog 131 #[.agg #[.bool (rB Z), .string (rS Z)], .agg #[.bool (rB Y), .string (rS Y)]] w fun e w' => RFloor w w' e (flQ Z Y) (flR Z Y) := by
  by_cases hs : rB Z = rB Y
  · exact rFloor_same Z Y w hl hl2 hY hs
  · exact rFloor_apart Z Y w hl hl2 hY hs
end Go.Proofs.YtnpoakaffafdiaaGreatDoor

namespace Go.Proofs.YtnpoakaffafdiaaGreatDoor
open Go Go.RowKit
def dstI (ops : Array Oper) (i : Nat) : Option Nat := (ops[i]?).bind (·.dst)
def aft (md : Region.Mode) (ops : Array Oper) (i : Nat) : List Nat := ((ops[i]?).map (fun o => (o.after.filter (Region.binds md)).toList.map (·.on))).getD []
def vw (a : Act) (l : List Nat) : List (Option Value) := l.map (fun t => a.tmps[t]?)
/-- No operation of the region lays this temporary. -/
def stays (ops : Array Oper) (t : Nat) : Bool := (List.range ops.size).all fun i => !(dstI ops i == some t)
structure Plan where
  D : Nat → List Nat
  pre : Nat → List Nat
  al : List Nat
def Plan.ok (L : Plan) (md : Region.Mode) (ops : Array Oper) (m : Nat) : Bool :=
  (List.range ops.size).all fun i => (aft md ops i).all (fun e => decide (e < i)) &&
    ((L.pre i).all fun e => (aft md ops i).contains e || (aft md ops i).any fun k => (L.pre k).contains e) &&
    (match dstI ops i with
      | none => true
      | some d => decide (d < m) && (List.range ops.size).all fun j => decide (i = j) || ((!(L.D j).contains d || (L.pre j).contains i) && !(dstI ops j == some d)))
/-- The block that a temporary points to. -/
def Ptr (a : Act) (ops : Array Oper) (i k : Nat) : Prop := ∃ d, dstI ops i = some d ∧ a.tmps[d]? = some (.pointer (some ⟨k, 0, none⟩))
structure Inv (md : Region.Mode) (ops : Array Oper) (L : Plan) (p : Nat → List (Option Value) → World → Prop) (B : World → Prop) (a0 : Act) (listed : Array Bool) (a : Act) (w : World) : Prop where
  lsz : listed.size = ops.size
  asz : a.tmps.size = a0.tmps.size
  dfs : a.defers = a0.defers
  old : ∀ t, stays ops t = true → a.tmps[t]? = a0.tmps[t]?
  bag : B w
  fct : ∀ j, listed.getD j false = true → p j (vw a (L.D j)) w
  clo : ∀ j, listed.getD j false = true → ∀ i ∈ L.pre j, listed.getD i false = true
  alo : ∀ i ∈ L.al, listed.getD i false = true → ∃ k, Ptr a ops i k ∧ k < w.heap.size
  apt : ∀ i ∈ L.al, ∀ j ∈ L.al, i ≠ j → listed.getD i false = true → listed.getD j false = true → ∀ k, Ptr a ops i k → ¬ Ptr a ops j k
/-- What is to be shown behind operation i. -/
structure Laid (ops : Array Oper) (L : Plan) (p : Nat → List (Option Value) → World → Prop) (B : World → Prop) (i : Nat) (o : Oper) (a : Act) (w : World) (v : Value) (w' : World) : Prop where
  bag : B w'
  fct : p i ((L.D i).map (fun t => if o.dst = some t then some v else a.tmps[t]?)) w'
  size : w.heap.size ≤ w'.heap.size
  stay : Below w.heap.size w w' ∨ ∀ j, j ≠ i → (∀ x ∈ L.al, ∀ y ∈ L.al, x ≠ y → x ∈ L.pre i → (y ∈ L.pre j ∨ y = j) → ∀ k, Ptr a ops x k → ¬ Ptr a ops y k) → p j (vw a (L.D j)) w → p j (vw a (L.D j)) w'
  ptr : i ∈ L.al → ∃ k, v = .pointer (some ⟨k, 0, none⟩) ∧ w.heap.size ≤ k ∧ k < w'.heap.size
def Stp (P : Program) (ops : Array Oper) (Q : Exit → Act → World → Prop) (L : Plan) (p : Nat → List (Option Value) → World → Prop) (B : World → Prop) (a0 : Act) (i : Nat) (o : Oper) : Prop :=
  ∀ a w, a.tmps.size = a0.tmps.size → (∀ t, stays ops t = true → a.tmps[t]? = a0.tmps[t]?) → B w → (∀ j ∈ L.pre i, p j (vw a (L.D j)) w) →
    ∀ K : Act → World → Prop, Shut (∀ v w', Laid ops L p B i o a w v w' → K (a.put o.dst v) w') → if Region.wanted o (yielded ops a.tmps) = true then Oper.wp P o a w K Q else K (a.put o.dst undef) w
inductive Stps (P : Program) (ops : Array Oper) (Q : Exit → Act → World → Prop) (L : Plan) (p : Nat → List (Option Value) → World → Prop) (B : World → Prop) (a0 : Act) : Nat → List Oper → Prop
  | nil (i : Nat) : Stps P ops Q L p B a0 i []
  | cons {i : Nat} {o : Oper} {l : List Oper} : Stp P ops Q L p B a0 i o → Stps P ops Q L p B a0 (i + 1) l → Stps P ops Q L p B a0 i (o :: l)
section
variable {P : Program} {md : Region.Mode} {ops : Array Oper} {Q : Exit → Act → World → Prop} {L : Plan} {p : Nat → List (Option Value) → World → Prop} {B : World → Prop} {a0 : Act}
theorem Stps.get : ∀ {l : List Oper} {i : Nat}, Stps P ops Q L p B a0 i l → ∀ k o, l[k]? = some o → Stp P ops Q L p B a0 (i + k) o := by
  intro l
  induction l with
  | nil => intro i _ k o h; simp at h
  | cons x l ih =>
    intro i h k o hk
    cases h with
    | cons h1 h2 =>
      cases k with
      | zero => simp at hk; subst hk; exact h1
      | succ k => have := ih h2 k o (by simpa using hk); rwa [Nat.add_assoc, Nat.add_comm 1 k] at this
theorem cnt_set (f g : Nat → Bool) (i : Nat) (hf : f i = true) (hg : g i = false) (he : ∀ j, j ≠ i → g j = f j) : ∀ n, (List.range n).countP f = (List.range n).countP g + if i < n then 1 else 0 := by
  intro n
  induction n with
  | zero => simp
  | succ n ih =>
    rw [List.range_succ, List.countP_append, List.countP_append, ih]
    by_cases h : n = i
    · subst h; simp [hf, hg]
    · have : g n = f n := he n h
      simp only [List.countP_cons, List.countP_nil, this]
      have h2 : (i < n) = (i < n + 1) := by apply propext; omega
      simp only [h2]; omega
theorem Plan.ok_spec (h : L.ok md ops a0.tmps.size = true) {i : Nat} (hi : i < ops.size) :
    (∀ e ∈ aft md ops i, e < i) ∧ (∀ e ∈ L.pre i, e ∈ aft md ops i ∨ ∃ k ∈ aft md ops i, e ∈ L.pre k) ∧
    ∀ d, dstI ops i = some d → d < a0.tmps.size ∧ ∀ j, j < ops.size → i ≠ j → (d ∈ L.D j → i ∈ L.pre j) ∧ dstI ops j ≠ some d := by
  unfold Plan.ok at h
  rw [List.all_eq_true] at h
  have h := h i (List.mem_range.2 hi)
  simp only [Bool.and_eq_true, List.all_eq_true, decide_eq_true_eq, Bool.or_eq_true, List.contains_iff_mem, List.any_eq_true] at h
  refine ⟨h.1.1, h.1.2, ?_⟩
  intro d hd
  have h2 := h.2
  rw [hd] at h2
  simp only [Bool.and_eq_true, List.all_eq_true, decide_eq_true_eq, Bool.or_eq_true, List.contains_iff_mem, Bool.not_eq_true', List.mem_range] at h2
  refine ⟨h2.1, fun j hj hij => ?_⟩
  rcases h2.2 j hj with h3 | h3
  · exact absurd h3 hij
  · refine ⟨fun hm => ?_, by simpa using h3.2⟩
    rcases h3.1 with h4 | h4
    · rw [Bool.eq_false_iff] at h4; exact absurd (List.contains_iff_mem.2 hm) h4
    · exact h4
theorem lgd {listed : Array Bool} {i j : Nat} (hi : i < listed.size) : (listed.setIfInBounds i true).getD j false = (decide (i = j) || listed.getD j false) := by
  by_cases h : i = j
  · subst h; simp [hi]
  · simp [h]
theorem lgt {listed : Array Bool} {j : Nat} (h : listed.getD j true = false) : j < listed.size ∧ listed.getD j false = false := by
  by_cases hj : j < listed.size
  · simp [hj] at h ⊢; exact h
  · simp [Nat.le_of_not_lt hj] at h
theorem aft_mem {i : Nat} {o : Oper} (ho : ops[i]? = some o) {e : Nat} : e ∈ aft md ops i ↔ ∃ x ∈ o.after, Region.binds md x = true ∧ x.on = e := by
  unfold aft
  rw [ho]
  simp only [Option.map_some, Option.getD_some, List.mem_map, Array.mem_toList_iff, Array.mem_filter]
  constructor
  · rintro ⟨x, ⟨h1, h2⟩, h3⟩; exact ⟨x, h1, h2, h3⟩
  · rintro ⟨x, h1, h2, h3⟩; exact ⟨x, ⟨h1, h2⟩, h3⟩
theorem Inv.step (ok : L.ok md ops a0.tmps.size = true) (hal : L.al.all (fun i => (dstI ops i).isSome) = true) (stay : ∀ j v w w', Below w.heap.size w w' → p j v w → p j v w') {listed : Array Bool} {a : Act} {w : World} (I : Inv md ops L p B a0 listed a w) {i : Nat} {o : Oper} (ho : ops[i]? = some o)
    (hu : listed.getD i true = false) (hr : ∀ e ∈ o.after, Region.binds md e = true → listed.getD e.on false = true) {v : Value} {w' : World} (G : Laid ops L p B i o a w v w') :
    Inv md ops L p B a0 (listed.setIfInBounds i true) (a.put o.dst v) w' := by
  have hi : i < ops.size := (Array.getElem?_eq_some_iff.1 ho).1
  have hil : i < listed.size := by rw [I.lsz]; exact hi
  have hun := (lgt hu).2
  obtain ⟨c1, c2, c3⟩ := Plan.ok_spec ok hi
  have hd : dstI ops i = o.dst := by unfold dstI; rw [ho]; rfl
  have hpre : ∀ e ∈ L.pre i, listed.getD e false = true := by
    intro e he
    rcases c2 e he with h | ⟨k, hk, hek⟩
    · obtain ⟨x, h1, h2, rfl⟩ := (aft_mem ho).1 h; exact hr x h1 h2
    · obtain ⟨x, h1, h2, rfl⟩ := (aft_mem ho).1 hk; exact I.clo _ (hr x h1 h2) e hek
  have hput : ∀ t, (a.put o.dst v).tmps[t]? = if o.dst = some t then some v else a.tmps[t]? := by
    intro t
    cases hx : o.dst with
    | none => simp [Act.put]
    | some d =>
      have h4 := (c3 d (hd.trans hx)).1
      have h5 : d < a.tmps.size := by rw [I.asz]; exact h4
      simp only [Act.put, Array.getElem?_setIfInBounds, Option.some.injEq, if_pos h5]
  have hlj : ∀ j, listed.getD j false = true → j < ops.size ∧ j ≠ i := by
    intro j hj
    refine ⟨?_, fun e => by rw [e, hun] at hj; cases hj⟩
    rw [← I.lsz]
    by_cases h : j < listed.size
    · exact h
    · simp [Nat.le_of_not_lt h] at hj
  have hvw : ∀ j, listed.getD j false = true → vw (a.put o.dst v) (L.D j) = vw a (L.D j) := by
    intro j hj
    unfold vw
    refine List.map_congr_left (fun t ht => ?_)
    rw [hput]
    refine if_neg (fun e => ?_)
    have h6 := ((c3 t (hd.trans e)).2 j (hlj j hj).1 (hlj j hj).2.symm).1 ht
    have h7 := I.clo j hj i h6
    rw [hun] at h7; cases h7
  have hptr : ∀ j, listed.getD j false = true → ∀ k, Ptr (a.put o.dst v) ops j k ↔ Ptr a ops j k := by
    intro j hj k
    unfold Ptr
    constructor
    · rintro ⟨d, h1, h2⟩
      refine ⟨d, h1, ?_⟩
      rw [hput, if_neg (fun e => ((c3 d (hd.trans e)).2 j (hlj j hj).1 (hlj j hj).2.symm).2 h1)] at h2
      exact h2
    · rintro ⟨d, h1, h2⟩
      refine ⟨d, h1, ?_⟩
      rw [hput, if_neg (fun e => ((c3 d (hd.trans e)).2 j (hlj j hj).1 (hlj j hj).2.symm).2 h1)]
      exact h2
  have hnew : i ∈ L.al → ∀ k, Ptr (a.put o.dst v) ops i k → w.heap.size ≤ k ∧ k < w'.heap.size := by
    intro hal k ⟨d, h1, h2⟩
    obtain ⟨k', hv, h3, h4⟩ := G.ptr hal
    rw [hput, if_pos (hd.symm.trans h1), hv] at h2
    cases h2
    exact ⟨h3, h4⟩
  have hcase : ∀ j, (listed.setIfInBounds i true).getD j false = true → j = i ∨ listed.getD j false = true := by
    intro j hj
    rw [lgd hil, Bool.or_eq_true, decide_eq_true_eq] at hj
    exact hj.imp Eq.symm id
  refine ⟨by simp [I.lsz], ?_, ?_, ?_, G.bag, ?_, ?_, ?_, ?_⟩
  · cases o.dst <;> simp [Act.put, I.asz]
  · cases o.dst <;> simp [Act.put, I.dfs]
  · intro t ht
    rw [hput, if_neg, I.old t ht]
    intro e
    unfold stays at ht
    rw [List.all_eq_true] at ht
    have := ht i (List.mem_range.2 hi)
    rw [hd, e] at this
    simp at this
  · intro j hj
    rcases hcase j hj with rfl | hj
    · have := G.fct
      unfold vw
      rw [show (L.D j).map (fun t => (a.put o.dst v).tmps[t]?) = (L.D j).map (fun t => if o.dst = some t then some v else a.tmps[t]?) from List.map_congr_left (fun t _ => hput t)]
      exact this
    · rw [hvw j hj]
      rcases G.stay with hb | hs
      · exact stay j _ _ _ hb (I.fct j hj)
      · refine hs j (hlj j hj).2 ?_ (I.fct j hj)
        intro x hx y hy hxy hxi hyj
        exact I.apt x hx y hy hxy (hpre x hxi) (hyj.elim (I.clo j hj y) (fun e => e ▸ hj))
  · intro j hj e he
    rw [lgd hil, Bool.or_eq_true]
    rcases hcase j hj with rfl | hj
    · exact .inr (hpre e he)
    · exact .inr (I.clo j hj e he)
  · intro j hjal hj
    rcases hcase j hj with rfl | hj
    · obtain ⟨k, hv, h3, h4⟩ := G.ptr hjal
      cases hx : o.dst with
      | none =>
        have := List.all_eq_true.1 hal j hjal
        rw [hd, hx] at this; cases this
      | some d => exact ⟨k, ⟨d, hd.trans hx, by rw [← hx, hput, if_pos hx, hv]⟩, h4⟩
    · obtain ⟨k, h1, h2⟩ := I.alo j hjal hj
      exact ⟨k, (hptr j hj k).2 h1, Nat.lt_of_lt_of_le h2 G.size⟩
  · intro x hx y hy hxy hlx0 hly0 k
    rcases hcase x hlx0 with rfl | hlx
    · rcases hcase y hly0 with e | hly
      · exact absurd e.symm hxy
      · intro h1 h2
        obtain ⟨k', h3, h4⟩ := I.alo y hy hly
        obtain ⟨d, e1, e2⟩ := (hptr y hly k).1 h2
        obtain ⟨d', e3, e4⟩ := h3
        rw [e1] at e3; cases e3
        rw [e2] at e4; cases e4
        have := (hnew hx k h1).1
        omega
    · rcases hcase y hly0 with rfl | hly
      · intro h1 h2
        obtain ⟨k', h3, h4⟩ := I.alo x hx hlx
        obtain ⟨d, e1, e2⟩ := (hptr x hlx k).1 h1
        obtain ⟨d', e3, e4⟩ := h3
        rw [e1] at e3; cases e3
        rw [e2] at e4; cases e4
        have := (hnew hy k h2).1
        omega
      · intro h1 h2
        exact I.apt x hx y hy hxy hlx hly k ((hptr x hlx k).1 h1) ((hptr y hly k).1 h2)
theorem ready_all (ok : L.ok md ops a0.tmps.size = true) {listed : Array Bool} (hs : listed.size = ops.size) (h : Region.ready md ops listed = []) : ∀ j, j < ops.size → listed.getD j false = true := by
  intro j
  induction j using Nat.strongRecOn with
  | ind j ih =>
    intro hj
    cases hx : listed.getD j false with
    | true => rfl
    | false =>
      exfalso
      have hm : j ∈ Region.ready md ops listed := by
        rw [mem_ready]
        refine ⟨?_, ops[j], Array.getElem?_eq_getElem hj, fun e he hb => ?_⟩
        · have : j < listed.size := by rw [hs]; exact hj
          simp [this] at hx ⊢; exact hx
        · have h1 := (Plan.ok_spec ok hj).1 e.on ((aft_mem (Array.getElem?_eq_getElem hj)).2 ⟨e, he, hb, rfl⟩)
          exact ih e.on h1 (Nat.lt_trans h1 hj)
      rw [h] at hm; cases hm
theorem wpAny_inv (ok : L.ok md ops a0.tmps.size = true) (hal : L.al.all (fun i => (dstI ops i).isSome) = true) (stay : ∀ j v w w', Below w.heap.size w w' → p j v w → p j v w') (steps : Stps P ops Q L p B a0 0 ops.toList)
    (done : ∀ a w, a.tmps.size = a0.tmps.size → a.defers = a0.defers → (∀ t, stays ops t = true → a.tmps[t]? = a0.tmps[t]?) → B w → (∀ j, j < ops.size → p j (vw a (L.D j)) w) → Q .normal a w) :
    ∀ (fuel : Nat) (listed : Array Bool) (a : Act) (w : World), Inv md ops L p B a0 listed a w → (List.range ops.size).countP (fun i => !listed.getD i true) ≤ fuel → wpAny P md ops Q fuel listed a w := by
  intro fuel
  induction fuel with
  | zero =>
    intro listed a w I hc
    have hall : ∀ j, j < ops.size → listed.getD j true = true := by
      intro j hj
      have := List.countP_eq_zero.1 (Nat.le_zero.1 hc) j (List.mem_range.2 hj)
      simpa using this
    have hr : Region.ready md ops listed = [] := by
      rw [List.eq_nil_iff_forall_not_mem]
      intro j hj
      obtain ⟨h1, o, h2, _⟩ := mem_ready.1 hj
      rw [hall j (Array.getElem?_eq_some_iff.1 h2).1] at h1; cases h1
    exact ⟨hr, done a w I.asz I.dfs I.old I.bag (fun j hj => I.fct j (ready_all ok I.lsz hr j hj))⟩
  | succ fuel ih =>
    intro listed a w I hc
    refine ⟨fun hr => done a w I.asz I.dfs I.old I.bag (fun j hj => I.fct j (ready_all ok I.lsz hr j hj)), fun i hi => ?_⟩
    obtain ⟨hu, o, ho, hr⟩ := mem_ready.1 hi
    have hio : i < ops.size := (Array.getElem?_eq_some_iff.1 ho).1
    have hst := steps.get i o (by rw [Array.getElem?_toList]; exact ho)
    rw [Nat.zero_add] at hst
    have hpre : ∀ e ∈ L.pre i, listed.getD e false = true := by
      intro e he
      rcases (Plan.ok_spec ok hio).2.1 e he with h | ⟨k, hk, hek⟩
      · obtain ⟨x, h1, h2, rfl⟩ := (aft_mem ho).1 h; exact hr x h1 h2
      · obtain ⟨x, h1, h2, rfl⟩ := (aft_mem ho).1 hk; exact I.clo _ (hr x h1 h2) e hek
    refine wpOp_step ho (fun K hK => hst a w I.asz I.old I.bag (fun j hj => I.fct j (hpre j hj)) K (fun v w' G => hK _ _ (ih _ _ _ (I.step ok hal stay ho hu hr G) ?_)))
    have hil : i < listed.size := by rw [I.lsz]; exact hio
    have hun : listed[i] = false := by simpa [hil] using hu
    have := cnt_set (fun j => !listed.getD j true) (fun j => !(listed.setIfInBounds i true).getD j true) i (by simp [hil, hun]) (by simp [hil]) (fun j hj => by simp [Ne.symm hj]) ops.size
    rw [if_pos hio] at this
    omega
theorem lg0 (n j : Nat) : (Array.replicate n false).getD j false = false := by
  rw [Array.getD_eq_getD_getElem?, Array.getElem?_replicate]; split <;> rfl
/-- THE BEGINNING. -/
theorem wp_region_inv {id : Nat} {l : List Oper} {w : World} (L : Plan) (p : Nat → List (Option Value) → World → Prop) (B : World → Prop) (hm : P.follows .mixedOrders = true) (ok : L.ok .any l.toArray a0.tmps.size = true) (hal : L.al.all (fun i => (dstI l.toArray i).isSome) = true)
    (hB : B w.drew) (stay : ∀ j v w w', Below w.heap.size w w' → p j v w → p j v w')
    (done : ∀ a w, a.tmps.size = a0.tmps.size → a.defers = a0.defers → (∀ t, stays l.toArray t = true → a.tmps[t]? = a0.tmps[t]?) → B w → (∀ j, j < l.length → p j (vw a (L.D j)) w) → Q .normal a w)
    (steps : Stps P l.toArray Q L p B a0 0 l) :
    (Code.region id l.toArray true).wp P Q a0 w := by
  refine wp_region_any hm (wpAny_inv ok hal stay steps (fun a w h1 h2 h3 h4 h5 => done a w h1 h2 h3 h4 (fun j hj => h5 j (by simpa using hj))) _ _ _ _ ⟨by simp, rfl, rfl, fun _ _ => rfl, hB, ?_, ?_, ?_, ?_⟩ ?_)
  · intro j hj; rw [lg0] at hj; cases hj
  · intro j hj; rw [lg0] at hj; cases hj
  · intro j _ hj; rw [lg0] at hj; cases hj
  · intro j _ i _ _ hj; rw [lg0] at hj; cases hj
  · exact Nat.le_trans List.countP_le_length (by simp)
end
end Go.Proofs.YtnpoakaffafdiaaGreatDoor
namespace Go.Proofs.YtnpoakaffafdiaaGreatDoor
open Go Go.RowKit
theorem Slot3.set3 {w : World} {k : Nat} {x y z : Value} (h : Slot3 w k x y z) (u v t : Value) : Slot3 (((w.setCell ⟨k, 0, none⟩ u).setCell ⟨k, 1, none⟩ v).setCell ⟨k, 2, none⟩ t) k u v t := (h.set2 u v).set1 t
theorem wanted_pos {ops : Array Oper} {a : Act} {o : Oper} {g : Nat} {b : Bool} {d : Nat} (hg : o.guard = some (g, b)) (hd : dstI ops g = some d) (ht : a.tmps[d]? = some (.bool b)) : Region.wanted o (yielded ops a.tmps) = true := by
  unfold Region.wanted
  rw [hg]
  show (yielded ops a.tmps g == some b) = true
  unfold yielded
  rw [show (ops[g]?).bind (·.dst) = some d from hd]
  show ((match a.tmps[d]? with | some (.bool b) => some b | _ => none) == some b) = true
  rw [ht]
  cases b <;> rfl
theorem wanted_neg {ops : Array Oper} {a : Act} {o : Oper} {g : Nat} {b : Bool} {d : Nat} {v : Value} (hg : o.guard = some (g, b)) (hd : dstI ops g = some d) (ht : a.tmps[d]? = some v) (hv : v ≠ .bool b) : Region.wanted o (yielded ops a.tmps) = false := by
  unfold Region.wanted
  rw [hg]
  show (yielded ops a.tmps g == some b) = false
  unfold yielded
  rw [show (ops[g]?).bind (·.dst) = some d from hd]
  show ((match a.tmps[d]? with | some (.bool b) => some b | _ => none) == some b) = false
  rw [ht]
  cases v with
  | bool x => cases x <;> cases b <;> first | rfl | exact absurd rfl hv
  | _ => rfl
theorem act_eq {ac : Act} {n : Nat} (hs : ac.tmps.size = n) (f : Nat → Value) (hf : ∀ i, (ac.tmps[i]?).getD undef = f i) : ac = ⟨((List.range n).map f).toArray, ac.defers⟩ := by
  obtain ⟨t, d⟩ := ac
  congr 1
  apply Array.ext
  · simpa using hs
  · intro i h1 h2
    have := hf i
    simp only [Array.getElem?_eq_getElem h1, Option.getD_some] at this
    rw [this]; simp
end Go.Proofs.YtnpoakaffafdiaaGreatDoor
namespace Go.Proofs.YtnpoakaffafdiaaGreatDoor
open Go Go.RowKit
def blk : Value → Option Nat
  | .pointer (some a) => some a.block
  | .slice (some a) _ _ => some a.block
  | _ => none
/-- The block that a temporary points to. -/
def Ptr2 (a : Act) (ops : Array Oper) (i k : Nat) : Prop := ∃ d v, dstI ops i = some d ∧ a.tmps[d]? = some v ∧ blk v = some k
structure Inv2 (md : Region.Mode) (ops : Array Oper) (L : Plan) (p : Nat → List (Option Value) → World → Prop) (B : World → Prop) (a0 : Act) (listed : Array Bool) (a : Act) (w : World) : Prop where
  lsz : listed.size = ops.size
  asz : a.tmps.size = a0.tmps.size
  dfs : a.defers = a0.defers
  old : ∀ t, stays ops t = true → a.tmps[t]? = a0.tmps[t]?
  bag : B w
  fct : ∀ j, listed.getD j false = true → p j (vw a (L.D j)) w
  clo : ∀ j, listed.getD j false = true → ∀ i ∈ L.pre j, listed.getD i false = true
  alo : ∀ i ∈ L.al, listed.getD i false = true → ∃ k, Ptr2 a ops i k ∧ k < w.heap.size
  apt : ∀ i ∈ L.al, ∀ j ∈ L.al, i ≠ j → listed.getD i false = true → listed.getD j false = true → ∀ k, Ptr2 a ops i k → ¬ Ptr2 a ops j k
/-- What is to be shown behind operation i. -/
structure Laid2 (ops : Array Oper) (L : Plan) (p : Nat → List (Option Value) → World → Prop) (B : World → Prop) (i : Nat) (o : Oper) (a : Act) (w : World) (v : Value) (w' : World) : Prop where
  bag : B w'
  fct : p i ((L.D i).map (fun t => if o.dst = some t then some v else a.tmps[t]?)) w'
  size : w.heap.size ≤ w'.heap.size
  stay : Below w.heap.size w w' ∨ ∀ j, j ≠ i → (∀ x ∈ L.al, ∀ y ∈ L.al, x ≠ y → x ∈ L.pre i → (y ∈ L.pre j ∨ y = j) → ∀ k, Ptr2 a ops x k → ¬ Ptr2 a ops y k) → p j (vw a (L.D j)) w → p j (vw a (L.D j)) w'
  ptr : i ∈ L.al → ∃ k, blk v = some k ∧ w.heap.size ≤ k ∧ k < w'.heap.size
def Stp2 (P : Program) (ops : Array Oper) (Q : Exit → Act → World → Prop) (L : Plan) (p : Nat → List (Option Value) → World → Prop) (B : World → Prop) (a0 : Act) (i : Nat) (o : Oper) : Prop :=
  ∀ a w, a.tmps.size = a0.tmps.size → (∀ t, stays ops t = true → a.tmps[t]? = a0.tmps[t]?) → B w → (∀ j ∈ L.pre i, p j (vw a (L.D j)) w) →
    ∀ K : Act → World → Prop, Shut (∀ v w', Laid2 ops L p B i o a w v w' → K (a.put o.dst v) w') → if Region.wanted o (yielded ops a.tmps) = true then Oper.wp P o a w K Q else K (a.put o.dst undef) w
inductive Stps2 (P : Program) (ops : Array Oper) (Q : Exit → Act → World → Prop) (L : Plan) (p : Nat → List (Option Value) → World → Prop) (B : World → Prop) (a0 : Act) : Nat → List Oper → Prop
  | nil (i : Nat) : Stps2 P ops Q L p B a0 i []
  | cons {i : Nat} {o : Oper} {l : List Oper} : Stp2 P ops Q L p B a0 i o → Stps2 P ops Q L p B a0 (i + 1) l → Stps2 P ops Q L p B a0 i (o :: l)
section
variable {P : Program} {md : Region.Mode} {ops : Array Oper} {Q : Exit → Act → World → Prop} {L : Plan} {p : Nat → List (Option Value) → World → Prop} {B : World → Prop} {a0 : Act}
theorem Stps2.get : ∀ {l : List Oper} {i : Nat}, Stps2 P ops Q L p B a0 i l → ∀ k o, l[k]? = some o → Stp2 P ops Q L p B a0 (i + k) o := by
  intro l
  induction l with
  | nil => intro i _ k o h; simp at h
  | cons x l ih =>
    intro i h k o hk
    cases h with
    | cons h1 h2 =>
      cases k with
      | zero => simp at hk; subst hk; exact h1
      | succ k => have := ih h2 k o (by simpa using hk); rwa [Nat.add_assoc, Nat.add_comm 1 k] at this
theorem Inv2.step (ok : L.ok md ops a0.tmps.size = true) (hal : L.al.all (fun i => (dstI ops i).isSome) = true) (stay : ∀ j v w w', Below w.heap.size w w' → p j v w → p j v w') {listed : Array Bool} {a : Act} {w : World} (I : Inv2 md ops L p B a0 listed a w) {i : Nat} {o : Oper} (ho : ops[i]? = some o)
    (hu : listed.getD i true = false) (hr : ∀ e ∈ o.after, Region.binds md e = true → listed.getD e.on false = true) {v : Value} {w' : World} (G : Laid2 ops L p B i o a w v w') :
    Inv2 md ops L p B a0 (listed.setIfInBounds i true) (a.put o.dst v) w' := by
  have hi : i < ops.size := (Array.getElem?_eq_some_iff.1 ho).1
  have hil : i < listed.size := by rw [I.lsz]; exact hi
  have hun := (lgt hu).2
  obtain ⟨c1, c2, c3⟩ := Plan.ok_spec ok hi
  have hd : dstI ops i = o.dst := by unfold dstI; rw [ho]; rfl
  have hpre : ∀ e ∈ L.pre i, listed.getD e false = true := by
    intro e he
    rcases c2 e he with h | ⟨k, hk, hek⟩
    · obtain ⟨x, h1, h2, rfl⟩ := (aft_mem ho).1 h; exact hr x h1 h2
    · obtain ⟨x, h1, h2, rfl⟩ := (aft_mem ho).1 hk; exact I.clo _ (hr x h1 h2) e hek
  have hput : ∀ t, (a.put o.dst v).tmps[t]? = if o.dst = some t then some v else a.tmps[t]? := by
    intro t
    cases hx : o.dst with
    | none => simp [Act.put]
    | some d =>
      have h4 := (c3 d (hd.trans hx)).1
      have h5 : d < a.tmps.size := by rw [I.asz]; exact h4
      simp only [Act.put, Array.getElem?_setIfInBounds, Option.some.injEq, if_pos h5]
  have hlj : ∀ j, listed.getD j false = true → j < ops.size ∧ j ≠ i := by
    intro j hj
    refine ⟨?_, fun e => by rw [e, hun] at hj; cases hj⟩
    rw [← I.lsz]
    by_cases h : j < listed.size
    · exact h
    · simp [Nat.le_of_not_lt h] at hj
  have hvw : ∀ j, listed.getD j false = true → vw (a.put o.dst v) (L.D j) = vw a (L.D j) := by
    intro j hj
    unfold vw
    refine List.map_congr_left (fun t ht => ?_)
    rw [hput]
    refine if_neg (fun e => ?_)
    have h6 := ((c3 t (hd.trans e)).2 j (hlj j hj).1 (hlj j hj).2.symm).1 ht
    have h7 := I.clo j hj i h6
    rw [hun] at h7; cases h7
  have hptr : ∀ j, listed.getD j false = true → ∀ k, Ptr2 (a.put o.dst v) ops j k ↔ Ptr2 a ops j k := by
    intro j hj k
    unfold Ptr2
    constructor
    · rintro ⟨d, u, h1, h2, h3⟩
      refine ⟨d, u, h1, ?_, h3⟩
      rw [hput, if_neg (fun e => ((c3 d (hd.trans e)).2 j (hlj j hj).1 (hlj j hj).2.symm).2 h1)] at h2
      exact h2
    · rintro ⟨d, u, h1, h2, h3⟩
      refine ⟨d, u, h1, ?_, h3⟩
      rw [hput, if_neg (fun e => ((c3 d (hd.trans e)).2 j (hlj j hj).1 (hlj j hj).2.symm).2 h1)]
      exact h2
  have hnew : i ∈ L.al → ∀ k, Ptr2 (a.put o.dst v) ops i k → w.heap.size ≤ k ∧ k < w'.heap.size := by
    intro hal k ⟨d, u, h1, h2, h5⟩
    obtain ⟨k', hv, h3, h4⟩ := G.ptr hal
    rw [hput, if_pos (hd.symm.trans h1)] at h2
    cases h2
    rw [hv] at h5
    cases h5
    exact ⟨h3, h4⟩
  have hcase : ∀ j, (listed.setIfInBounds i true).getD j false = true → j = i ∨ listed.getD j false = true := by
    intro j hj
    rw [lgd hil, Bool.or_eq_true, decide_eq_true_eq] at hj
    exact hj.imp Eq.symm id
  refine ⟨by simp [I.lsz], ?_, ?_, ?_, G.bag, ?_, ?_, ?_, ?_⟩
  · cases o.dst <;> simp [Act.put, I.asz]
  · cases o.dst <;> simp [Act.put, I.dfs]
  · intro t ht
    rw [hput, if_neg, I.old t ht]
    intro e
    unfold stays at ht
    rw [List.all_eq_true] at ht
    have := ht i (List.mem_range.2 hi)
    rw [hd, e] at this
    simp at this
  · intro j hj
    rcases hcase j hj with rfl | hj
    · have := G.fct
      unfold vw
      rw [show (L.D j).map (fun t => (a.put o.dst v).tmps[t]?) = (L.D j).map (fun t => if o.dst = some t then some v else a.tmps[t]?) from List.map_congr_left (fun t _ => hput t)]
      exact this
    · rw [hvw j hj]
      rcases G.stay with hb | hs
      · exact stay j _ _ _ hb (I.fct j hj)
      · refine hs j (hlj j hj).2 ?_ (I.fct j hj)
        intro x hx y hy hxy hxi hyj
        exact I.apt x hx y hy hxy (hpre x hxi) (hyj.elim (I.clo j hj y) (fun e => e ▸ hj))
  · intro j hj e he
    rw [lgd hil, Bool.or_eq_true]
    rcases hcase j hj with rfl | hj
    · exact .inr (hpre e he)
    · exact .inr (I.clo j hj e he)
  · intro j hjal hj
    rcases hcase j hj with rfl | hj
    · obtain ⟨k, hv, h3, h4⟩ := G.ptr hjal
      cases hx : o.dst with
      | none =>
        have := List.all_eq_true.1 hal j hjal
        rw [hd, hx] at this; cases this
      | some d => exact ⟨k, ⟨d, v, hd.trans hx, by rw [← hx, hput, if_pos hx], hv⟩, h4⟩
    · obtain ⟨k, h1, h2⟩ := I.alo j hjal hj
      exact ⟨k, (hptr j hj k).2 h1, Nat.lt_of_lt_of_le h2 G.size⟩
  · intro x hx y hy hxy hlx0 hly0 k
    rcases hcase x hlx0 with rfl | hlx
    · rcases hcase y hly0 with e | hly
      · exact absurd e.symm hxy
      · intro h1 h2
        obtain ⟨k', h3, h4⟩ := I.alo y hy hly
        obtain ⟨d, x1, e1, e2, e5⟩ := (hptr y hly k).1 h2
        obtain ⟨d', x2, e3, e4, e6⟩ := h3
        rw [e1] at e3; cases e3
        rw [e2] at e4; cases e4
        rw [e5] at e6; cases e6
        have := (hnew hx k h1).1
        omega
    · rcases hcase y hly0 with rfl | hly
      · intro h1 h2
        obtain ⟨k', h3, h4⟩ := I.alo x hx hlx
        obtain ⟨d, x1, e1, e2, e5⟩ := (hptr x hlx k).1 h1
        obtain ⟨d', x2, e3, e4, e6⟩ := h3
        rw [e1] at e3; cases e3
        rw [e2] at e4; cases e4
        rw [e5] at e6; cases e6
        have := (hnew hy k h2).1
        omega
      · intro h1 h2
        exact I.apt x hx y hy hxy hlx hly k ((hptr x hlx k).1 h1) ((hptr y hly k).1 h2)
end
end Go.Proofs.YtnpoakaffafdiaaGreatDoor
namespace Go.Proofs.YtnpoakaffafdiaaGreatDoor
open Go Go.RowKit
/-- Operations one after another. -/
def TailWp (P : Program) (ops : Array Oper) (Q : Exit → Act → World → Prop) : List Oper → Act → World → Prop
  | [], a, w => Q .normal a w
  | o :: l, a, w => ∀ K : Act → World → Prop, Shut (∀ a w, TailWp P ops Q l a w → K a w) → if Region.wanted o (yielded ops a.tmps) = true then Oper.wp P o a w K Q else K (a.put o.dst undef) w
section
variable {P : Program} {md : Region.Mode} {ops : Array Oper} {Q : Exit → Act → World → Prop} {L : Plan} {p : Nat → List (Option Value) → World → Prop} {B : World → Prop} {a0 : Act}
theorem TailWp.step {l : List Oper} {i : Nat} {o : Oper} {a : Act} {w : World} (h : l[i]? = some o)
    (hk : ∀ K : Act → World → Prop, Shut (∀ a w, TailWp P ops Q (l.drop (i + 1)) a w → K a w) → if Region.wanted o (yielded ops a.tmps) = true then Oper.wp P o a w K Q else K (a.put o.dst undef) w) : TailWp P ops Q (l.drop i) a w := by
  obtain ⟨hi, he⟩ := List.getElem?_eq_some_iff.1 h
  rw [List.drop_eq_getElem_cons hi, he]
  exact hk
theorem TailWp.end {l : List Oper} {i : Nat} {a : Act} {w : World} (h : l.length = i) (hk : Q .normal a w) : TailWp P ops Q (l.drop i) a w := by
  rw [List.drop_eq_nil_of_le (by omega)]
  exact hk
end
end Go.Proofs.YtnpoakaffafdiaaGreatDoor
namespace Go.Proofs.YtnpoakaffafdiaaGreatDoor
open Go Go.RowKit
/-- One operation more is done. -/
abbrev upd (f : Nat → Bool) (i : Nat) : Nat → Bool := fun j => decide (i = j) || f j
theorem upd_set {listed : Array Bool} {i : Nat} (hi : i < listed.size) : upd (fun j => listed.getD j false) i = (fun j => (listed.setIfInBounds i true).getD j false) :=
  funext fun _ => (lgd hi).symm
structure Inv4 (md : Region.Mode) (ops : Array Oper) (L : Plan) (p : Nat → List (Option Value) → World → Prop) (B : (Nat → Bool) → World → Prop) (a0 : Act) (listed : Array Bool) (a : Act) (w : World) : Prop where
  lsz : listed.size = ops.size
  asz : a.tmps.size = a0.tmps.size
  dfs : a.defers = a0.defers
  old : ∀ t, stays ops t = true → a.tmps[t]? = a0.tmps[t]?
  bag : B (fun j => listed.getD j false) w
  fct : ∀ j, listed.getD j false = true → p j (vw a (L.D j)) w
  clo : ∀ j, listed.getD j false = true → ∀ i ∈ L.pre j, listed.getD i false = true
  alo : ∀ i ∈ L.al, listed.getD i false = true → ∃ k, Ptr2 a ops i k ∧ k < w.heap.size
  apt : ∀ i ∈ L.al, ∀ j ∈ L.al, i ≠ j → listed.getD i false = true → listed.getD j false = true → ∀ k, Ptr2 a ops i k → ¬ Ptr2 a ops j k
/-- What is to be shown behind operation i. -/
structure Laid4 (ops : Array Oper) (L : Plan) (p : Nat → List (Option Value) → World → Prop) (B : (Nat → Bool) → World → Prop) (f : Nat → Bool) (i : Nat) (o : Oper) (a : Act) (w : World) (v : Value) (w' : World) : Prop where
  bag : B (upd f i) w'
  fct : p i ((L.D i).map (fun t => if o.dst = some t then some v else a.tmps[t]?)) w'
  size : w.heap.size ≤ w'.heap.size
  stay : Below w.heap.size w w' ∨ ∀ j, j ≠ i → (∀ x ∈ L.al, ∀ y ∈ L.al, x ≠ y → x ∈ L.pre i → (y ∈ L.pre j ∨ y = j) → ∀ k, Ptr2 a ops x k → ¬ Ptr2 a ops y k) → p j (vw a (L.D j)) w → p j (vw a (L.D j)) w'
  ptr : i ∈ L.al → ∃ k, blk v = some k ∧ w.heap.size ≤ k ∧ k < w'.heap.size
def Stp4 (P : Program) (ops : Array Oper) (Q : Exit → Act → World → Prop) (L : Plan) (p : Nat → List (Option Value) → World → Prop) (B : (Nat → Bool) → World → Prop) (a0 : Act) (i : Nat) (o : Oper) : Prop :=
  ∀ f a w, a.tmps.size = a0.tmps.size → (∀ t, stays ops t = true → a.tmps[t]? = a0.tmps[t]?) → B f w → (∀ j ∈ L.pre i, p j (vw a (L.D j)) w) → (∀ j, i ∈ L.pre j → f j = false) →
    ∀ K : Act → World → Prop, Shut (∀ v w', Laid4 ops L p B f i o a w v w' → K (a.put o.dst v) w') → if Region.wanted o (yielded ops a.tmps) = true then Oper.wp P o a w K Q else K (a.put o.dst undef) w
inductive Stps4 (P : Program) (ops : Array Oper) (Q : Exit → Act → World → Prop) (L : Plan) (p : Nat → List (Option Value) → World → Prop) (B : (Nat → Bool) → World → Prop) (a0 : Act) : Nat → List Oper → Prop
  | nil (i : Nat) : Stps4 P ops Q L p B a0 i []
  | cons {i : Nat} {o : Oper} {l : List Oper} : Stp4 P ops Q L p B a0 i o → Stps4 P ops Q L p B a0 (i + 1) l → Stps4 P ops Q L p B a0 i (o :: l)
section
variable {P : Program} {md : Region.Mode} {ops : Array Oper} {Q : Exit → Act → World → Prop} {L : Plan} {p : Nat → List (Option Value) → World → Prop} {B : (Nat → Bool) → World → Prop} {a0 : Act}
theorem Stps4.get : ∀ {l : List Oper} {i : Nat}, Stps4 P ops Q L p B a0 i l → ∀ k o, l[k]? = some o → Stp4 P ops Q L p B a0 (i + k) o := by
  intro l
  induction l with
  | nil => intro i _ k o h; simp at h
  | cons x l ih =>
    intro i h k o hk
    cases h with
    | cons h1 h2 =>
      cases k with
      | zero => simp at hk; subst hk; exact h1
      | succ k => have := ih h2 k o (by simpa using hk); rwa [Nat.add_assoc, Nat.add_comm 1 k] at this
theorem Inv4.step (ok : L.ok md ops a0.tmps.size = true) (hal : L.al.all (fun i => (dstI ops i).isSome) = true) (stay : ∀ j v w w', Below w.heap.size w w' → p j v w → p j v w') {listed : Array Bool} {a : Act} {w : World} (I : Inv4 md ops L p B a0 listed a w) {i : Nat} {o : Oper} (ho : ops[i]? = some o)
    (hu : listed.getD i true = false) (hr : ∀ e ∈ o.after, Region.binds md e = true → listed.getD e.on false = true) {v : Value} {w' : World} (G : Laid4 ops L p B (fun j => listed.getD j false) i o a w v w') :
    Inv4 md ops L p B a0 (listed.setIfInBounds i true) (a.put o.dst v) w' := by
  have hi : i < ops.size := (Array.getElem?_eq_some_iff.1 ho).1
  have hil : i < listed.size := by rw [I.lsz]; exact hi
  have hun := (lgt hu).2
  obtain ⟨c1, c2, c3⟩ := Plan.ok_spec ok hi
  have hd : dstI ops i = o.dst := by unfold dstI; rw [ho]; rfl
  have hpre : ∀ e ∈ L.pre i, listed.getD e false = true := by
    intro e he
    rcases c2 e he with h | ⟨k, hk, hek⟩
    · obtain ⟨x, h1, h2, rfl⟩ := (aft_mem ho).1 h; exact hr x h1 h2
    · obtain ⟨x, h1, h2, rfl⟩ := (aft_mem ho).1 hk; exact I.clo _ (hr x h1 h2) e hek
  have hput : ∀ t, (a.put o.dst v).tmps[t]? = if o.dst = some t then some v else a.tmps[t]? := by
    intro t
    cases hx : o.dst with
    | none => simp [Act.put]
    | some d =>
      have h4 := (c3 d (hd.trans hx)).1
      have h5 : d < a.tmps.size := by rw [I.asz]; exact h4
      simp only [Act.put, Array.getElem?_setIfInBounds, Option.some.injEq, if_pos h5]
  have hlj : ∀ j, listed.getD j false = true → j < ops.size ∧ j ≠ i := by
    intro j hj
    refine ⟨?_, fun e => by rw [e, hun] at hj; cases hj⟩
    rw [← I.lsz]
    by_cases h : j < listed.size
    · exact h
    · simp [Nat.le_of_not_lt h] at hj
  have hvw : ∀ j, listed.getD j false = true → vw (a.put o.dst v) (L.D j) = vw a (L.D j) := by
    intro j hj
    unfold vw
    refine List.map_congr_left (fun t ht => ?_)
    rw [hput]
    refine if_neg (fun e => ?_)
    have h6 := ((c3 t (hd.trans e)).2 j (hlj j hj).1 (hlj j hj).2.symm).1 ht
    have h7 := I.clo j hj i h6
    rw [hun] at h7; cases h7
  have hptr : ∀ j, listed.getD j false = true → ∀ k, Ptr2 (a.put o.dst v) ops j k ↔ Ptr2 a ops j k := by
    intro j hj k
    unfold Ptr2
    constructor
    · rintro ⟨d, u, h1, h2, h3⟩
      refine ⟨d, u, h1, ?_, h3⟩
      rw [hput, if_neg (fun e => ((c3 d (hd.trans e)).2 j (hlj j hj).1 (hlj j hj).2.symm).2 h1)] at h2
      exact h2
    · rintro ⟨d, u, h1, h2, h3⟩
      refine ⟨d, u, h1, ?_, h3⟩
      rw [hput, if_neg (fun e => ((c3 d (hd.trans e)).2 j (hlj j hj).1 (hlj j hj).2.symm).2 h1)]
      exact h2
  have hnew : i ∈ L.al → ∀ k, Ptr2 (a.put o.dst v) ops i k → w.heap.size ≤ k ∧ k < w'.heap.size := by
    intro hal k ⟨d, u, h1, h2, h5⟩
    obtain ⟨k', hv, h3, h4⟩ := G.ptr hal
    rw [hput, if_pos (hd.symm.trans h1)] at h2
    cases h2
    rw [hv] at h5
    cases h5
    exact ⟨h3, h4⟩
  have hcase : ∀ j, (listed.setIfInBounds i true).getD j false = true → j = i ∨ listed.getD j false = true := by
    intro j hj
    rw [lgd hil, Bool.or_eq_true, decide_eq_true_eq] at hj
    exact hj.imp Eq.symm id
  refine ⟨by simp [I.lsz], ?_, ?_, ?_, (upd_set hil ▸ G.bag), ?_, ?_, ?_, ?_⟩
  · cases o.dst <;> simp [Act.put, I.asz]
  · cases o.dst <;> simp [Act.put, I.dfs]
  · intro t ht
    rw [hput, if_neg, I.old t ht]
    intro e
    unfold stays at ht
    rw [List.all_eq_true] at ht
    have := ht i (List.mem_range.2 hi)
    rw [hd, e] at this
    simp at this
  · intro j hj
    rcases hcase j hj with rfl | hj
    · have := G.fct
      unfold vw
      rw [show (L.D j).map (fun t => (a.put o.dst v).tmps[t]?) = (L.D j).map (fun t => if o.dst = some t then some v else a.tmps[t]?) from List.map_congr_left (fun t _ => hput t)]
      exact this
    · rw [hvw j hj]
      rcases G.stay with hb | hs
      · exact stay j _ _ _ hb (I.fct j hj)
      · refine hs j (hlj j hj).2 ?_ (I.fct j hj)
        intro x hx y hy hxy hxi hyj
        exact I.apt x hx y hy hxy (hpre x hxi) (hyj.elim (I.clo j hj y) (fun e => e ▸ hj))
  · intro j hj e he
    rw [lgd hil, Bool.or_eq_true]
    rcases hcase j hj with rfl | hj
    · exact .inr (hpre e he)
    · exact .inr (I.clo j hj e he)
  · intro j hjal hj
    rcases hcase j hj with rfl | hj
    · obtain ⟨k, hv, h3, h4⟩ := G.ptr hjal
      cases hx : o.dst with
      | none =>
        have := List.all_eq_true.1 hal j hjal
        rw [hd, hx] at this; cases this
      | some d => exact ⟨k, ⟨d, v, hd.trans hx, by rw [← hx, hput, if_pos hx], hv⟩, h4⟩
    · obtain ⟨k, h1, h2⟩ := I.alo j hjal hj
      exact ⟨k, (hptr j hj k).2 h1, Nat.lt_of_lt_of_le h2 G.size⟩
  · intro x hx y hy hxy hlx0 hly0 k
    rcases hcase x hlx0 with rfl | hlx
    · rcases hcase y hly0 with e | hly
      · exact absurd e.symm hxy
      · intro h1 h2
        obtain ⟨k', h3, h4⟩ := I.alo y hy hly
        obtain ⟨d, x1, e1, e2, e5⟩ := (hptr y hly k).1 h2
        obtain ⟨d', x2, e3, e4, e6⟩ := h3
        rw [e1] at e3; cases e3
        rw [e2] at e4; cases e4
        rw [e5] at e6; cases e6
        have := (hnew hx k h1).1
        omega
    · rcases hcase y hly0 with rfl | hly
      · intro h1 h2
        obtain ⟨k', h3, h4⟩ := I.alo x hx hlx
        obtain ⟨d, x1, e1, e2, e5⟩ := (hptr x hlx k).1 h1
        obtain ⟨d', x2, e3, e4, e6⟩ := h3
        rw [e1] at e3; cases e3
        rw [e2] at e4; cases e4
        rw [e5] at e6; cases e6
        have := (hnew hy k h2).1
        omega
      · intro h1 h2
        exact I.apt x hx y hy hxy hlx hly k ((hptr x hlx k).1 h1) ((hptr y hly k).1 h2)
end
end Go.Proofs.YtnpoakaffafdiaaGreatDoor

namespace Go.Proofs.YtnpoakaffafdiaaGreatDoor
open Go.RowKit
attribute [local go_sem ↓] Go.wp_at_zero Go.wp_at_succ
set_option linter.unusedSimpArgs false in
set_option maxHeartbeats 6400000 in
set_option maxRecDepth 100000 in
theorem r3Floor_any (P : Int) (Q : Nat) (w : World) (hQ : 0 < Q) (h1 : dl P.natAbs ≤ 400) (h2 : dl Q ≤ 400) :
    Calls Tryz.prog 75 #[.agg #[.bool (rB P), .string (rS P), .string (str (dec Q))]] w fun e w' => RTold w w' e (flQ P Q) := by
  have BB := Lib.hid ((Bag.start w).box3 (.bool (rB P)) (.string (rS P)) (.string (str (dec Q))) 53 |>.box2 (.bool false) (.string ⟨#[]⟩) 116)
  simp only [World.size_alloc] at BB
  have TA : Hid (∀ wz, Calls Tryz.prog 72 #[.agg #[.bool (rB P), .string (rS P), .string (str (dec Q))]] wz fun e w' => RTold wz w' e P) := fun wz => r3Top_any P _ wz (by omega)
  have BA : Hid (∀ wz, Calls Tryz.prog 132 #[.agg #[.bool (rB P), .string (rS P), .string (str (dec Q))]] wz fun e w' => RTold wz w' e (Q : Int)) := fun wz => r3Bot_any _ _ Q wz (by omega)
  have FL := Lib.hid (fun wz => rFloor_any P (Q : Int) wz h1 (by rw [Int.natAbs_natCast]; exact h2) (by omega))
  have HF := Lib.hid (fun w2 b s (hb : Below w.heap.size w w2) (h1 : rB (flQ P (Q : Int)) = b) (h2 : rS (flQ P (Q : Int)) = s) => RTold.fin (Y := flQ P (Q : Int)) hb (show w.heap.size ≤ w.heap.size + 1 by omega) h1 h2)
  unfold RTold at TA BA
  unfold RFloor at FL
  obtain ⟨x1, hx1⟩ : ∃ x, rB (flQ P (Q : Int)) = x := ⟨_, rfl⟩
  obtain ⟨x2, hx2⟩ : ∃ x, rS (flQ P (Q : Int)) = x := ⟨_, rfl⟩
  have HX := Lib.hid (And.intro hx1 hx2)
  rw [hx1, hx2] at FL
  generalize rB (flR P (Q : Int)) = y1 at *
  generalize rS (flR P (Q : Int)) = y2 at *
  generalize rB (Q : Int) = qb at *
  generalize rS (Q : Int) = qs at *
  generalize rB P = pb at *
  generalize rS P = ps at *
  generalize str (dec Q) = q at *
  clear h1 h2 hx1 hx2 hQ
  have HP : Hid (∀ (y : World) (k : Nat) {b0 : Bool} {s0 : ByteArray}, Slot2 y k (.bool b0) (.string s0) → w.heap.size + 1 < k → Bag w (fun y => Slot2 y (w.heap.size + 1) (.bool false) (.string ⟨#[]⟩) ∧ Slot3 y w.heap.size (.bool pb) (.string ps) (.string q) ∧ True) y → ∀ (z1 : Bool) (z2 : ByteArray), Bag w (fun y => Slot2 y (w.heap.size + 1) (.bool false) (.string ⟨#[]⟩) ∧ Slot3 y w.heap.size (.bool pb) (.string ps) (.string q) ∧ True) ((y.setCell ⟨k, 0, none⟩ (.bool z1)).setCell ⟨k, 1, none⟩ (.string z2))) := by
    intro y k b0 s0 s hk B z1 z2
    have q := B.now
    exact ⟨(B.below.setCell (p := ⟨k, 0, none⟩) (show w.heap.size ≤ k by omega) _).setCell (p := ⟨k, 1, none⟩) (show w.heap.size ≤ k by omega) _, B.stay, q.1.set2o (by omega) _ _, q.2.1.set2o (by omega) _ _, trivial⟩
  go_enter Tryz.func75, Tryz.ntmps75
  go_wp2_with fail
  refine wp_region_inv ⟨(fun j => ([[6], [7], [8], [9], [10], [5], [11], [12], [3], [4], [3], [4]] : List (List Nat)).getD j []), (fun j => ([[], [0], [], [0, 1, 2], [0, 1, 2, 3], [0, 1, 2, 3, 4], [0, 1, 2, 3, 4, 5], [0, 1, 2, 3, 4, 5], [], [], [0, 1, 2, 3, 4, 5, 6, 8, 9], [0, 1, 2, 3, 4, 5, 6, 7, 8, 9, 10]] : List (List Nat)).getD j []), [8, 9]⟩ (fun jj vv yy => match jj with | 0 => vv = [some (.agg #[.bool pb, .string ps, .string q])] | 1 => vv = [some (.agg #[.bool pb, .string ps])] | 2 => vv = [some (.agg #[.bool pb, .string ps, .string q])] | 3 => vv = [some (.agg #[.bool qb, .string qs])] | 4 => vv = [some (.tuple #[.agg #[.bool x1, .string x2], .agg #[.bool y1, .string y2]])] | 5 => vv = [some (.tuple #[.agg #[.bool x1, .string x2], .agg #[.bool y1, .string y2]])] | 6 => vv = [some (.agg #[.bool x1, .string x2])] | 7 => vv = [some (.agg #[.bool y1, .string y2])] | 8 => ∃ (k8 : Nat), ∃ (b0 : Bool), ∃ (s0 : ByteArray), vv = [some (.pointer (some ⟨k8, 0, none⟩))] ∧ Slot2 yy k8 (.bool b0) (.string s0) ∧ w.heap.size + 1 < k8 | 9 => ∃ (k9 : Nat), ∃ (b0 : Bool), ∃ (s0 : ByteArray), vv = [some (.pointer (some ⟨k9, 0, none⟩))] ∧ Slot2 yy k9 (.bool b0) (.string s0) ∧ w.heap.size + 1 < k9 | 10 => ∃ (k8 : Nat), vv = [some (.pointer (some ⟨k8, 0, none⟩))] ∧ Slot2 yy k8 (.bool x1) (.string x2) | 11 => ∃ (k9 : Nat), vv = [some (.pointer (some ⟨k9, 0, none⟩))] ∧ Slot2 yy k9 (.bool y1) (.string y2) | _ => True) (Bag w (fun y => Slot2 y (w.heap.size + 1) (.bool false) (.string ⟨#[]⟩) ∧ Slot3 y w.heap.size (.bool pb) (.string ps) (.string q) ∧ True)) (by kernel_rfl) (by kernel_rfl) (by kernel_rfl) BB.out.drew ?_ ?_ ?_
  · intro jj vv yw yw2 hb h
    match jj, h with
    | 0, h => exact h
    | 1, h => exact h
    | 2, h => exact h
    | 3, h => exact h
    | 4, h => exact h
    | 5, h => exact h
    | 6, h => exact h
    | 7, h => exact h
    | 8, ⟨k8, b0, s0, e8, g8_0, g8_1⟩ => exact Exists.intro k8 (Exists.intro b0 (Exists.intro s0 (And.intro e8 (And.intro (g8_0.below hb) g8_1))))
    | 9, ⟨k9, b0, s0, e9, g9_0, g9_1⟩ => exact Exists.intro k9 (Exists.intro b0 (Exists.intro s0 (And.intro e9 (And.intro (g9_0.below hb) g9_1))))
    | 10, ⟨k8, e10, g10_0⟩ => exact Exists.intro k8 (And.intro e10 (g10_0.below hb))
    | 11, ⟨k9, e11, g11_0⟩ => exact Exists.intro k9 (And.intro e11 (g11_0.below hb))
    | _ + 12, h => exact h
  · intro ac yw hsz hdf hold hB hp
    obtain ⟨k8, e10, sA⟩ := hp 10 (by decide)
    have t3 : ac.tmps[3]? = some (.pointer (some ⟨k8, 0, none⟩)) := (List.cons.inj e10).1
    have t2 : ac.tmps[2]? = some (.pointer (some ⟨w.heap.size + 1, 0, none⟩)) := hold 2 (by kernel_rfl)
    clear hold hp e10
    obtain ⟨⟨l⟩, df⟩ := ac
    match l, hsz with
    | [u0, u1, u2, u3, u4, u5, u6, u7, u8, u9, u10, u11, u12, u13], _ =>
    obtain rfl := Option.some.inj (show some u2 = _ from t2)
    obtain rfl := Option.some.inj (show some u3 = _ from t3)
    have q0 := sA.cell
    have q1 := sA.cell1
    have hs := hB.now.1
    have hc := hs.cell
    have hc1 := hs.cell1
    have hf := hs.free
    have hf1 := hs.free1
    have HS := hs.set (.bool x1) (.string x2)
    have HE := Lib.hid (HF.out _ x1 x2 hB.below HX.out.1 HX.out.2)
    unfold put2 at HE
    clear hB sA hs
    go_wp2
    exact bodyPost_ret (v := .agg #[.bool x1, .string x2]) (by simp [results, Tryz.results75, go_sem, HS]) rfl HE.out
  refine Stps.cons (o := _) ?_ ?_
  · intro ac yw hsz hold hB hp K hK
    have t1 : ac.tmps[1]? = some (.pointer (some ⟨w.heap.size, 0, none⟩)) := hold 1 (by kernel_rfl)
    clear hold hp hsz
    have q0 := hB.now.2.1.cell
    have q1 := hB.now.2.1.cell1
    have q2 := hB.now.2.1.cell2
    go_simp
    exact hK.out _ _ ⟨hB, rfl, Nat.le_refl _, .inl (Below.refl _ _), fun h => absurd h (by decide)⟩
  refine Stps.cons (o := _) ?_ ?_
  · intro ac yw hsz hold hB hp K hK
    have e0 := hp 0 (by decide)
    have t6 : ac.tmps[6]? = some (.agg #[.bool pb, .string ps, .string q]) := (List.cons.inj e0).1
    clear hold hp hsz e0
    go_simp
    (go_at_call 72; (with_reducible refine (TA.out _).mono ?_); rintro e wz ⟨rfl, hbz⟩)
    exact hK.out _ _ ⟨hB.go hbz, rfl, hbz.size, .inl hbz, fun h => absurd h (by decide)⟩
  refine Stps.cons (o := _) ?_ ?_
  · intro ac yw hsz hold hB hp K hK
    have t1 : ac.tmps[1]? = some (.pointer (some ⟨w.heap.size, 0, none⟩)) := hold 1 (by kernel_rfl)
    clear hold hp hsz
    have q0 := hB.now.2.1.cell
    have q1 := hB.now.2.1.cell1
    have q2 := hB.now.2.1.cell2
    go_simp
    exact hK.out _ _ ⟨hB, rfl, Nat.le_refl _, .inl (Below.refl _ _), fun h => absurd h (by decide)⟩
  refine Stps.cons (o := _) ?_ ?_
  · intro ac yw hsz hold hB hp K hK
    have e2 := hp 2 (by decide)
    have t8 : ac.tmps[8]? = some (.agg #[.bool pb, .string ps, .string q]) := (List.cons.inj e2).1
    clear hold hp hsz e2
    go_simp
    (go_at_call 132; (with_reducible refine (BA.out _).mono ?_); rintro e wz ⟨rfl, hbz⟩)
    exact hK.out _ _ ⟨hB.go hbz, rfl, hbz.size, .inl hbz, fun h => absurd h (by decide)⟩
  refine Stps.cons (o := _) ?_ ?_
  · intro ac yw hsz hold hB hp K hK
    have e1 := hp 1 (by decide)
    have t7 : ac.tmps[7]? = some (.agg #[.bool pb, .string ps]) := (List.cons.inj e1).1
    have e3 := hp 3 (by decide)
    have t9 : ac.tmps[9]? = some (.agg #[.bool qb, .string qs]) := (List.cons.inj e3).1
    clear hold hp hsz e1 e3
    go_simp
    (go_at_call 131; (with_reducible refine (FL.out _).mono ?_); rintro e wz ⟨rfl, hbz⟩)
    exact hK.out _ _ ⟨hB.go hbz, rfl, hbz.size, .inl hbz, fun h => absurd h (by decide)⟩
  refine Stps.cons (o := _) ?_ ?_
  · intro ac yw hsz hold hB hp K hK
    have e4 := hp 4 (by decide)
    have t10 : ac.tmps[10]? = some (.tuple #[.agg #[.bool x1, .string x2], .agg #[.bool y1, .string y2]]) := (List.cons.inj e4).1
    clear hold hp hsz e4
    go_simp
    exact hK.out _ _ ⟨hB, rfl, Nat.le_refl _, .inl (Below.refl _ _), fun h => absurd h (by decide)⟩
  refine Stps.cons (o := _) ?_ ?_
  · intro ac yw hsz hold hB hp K hK
    have e5 := hp 5 (by decide)
    have t5 : ac.tmps[5]? = some (.tuple #[.agg #[.bool x1, .string x2], .agg #[.bool y1, .string y2]]) := (List.cons.inj e5).1
    clear hold hp hsz e5
    go_simp
    exact hK.out _ _ ⟨hB, rfl, Nat.le_refl _, .inl (Below.refl _ _), fun h => absurd h (by decide)⟩
  refine Stps.cons (o := _) ?_ ?_
  · intro ac yw hsz hold hB hp K hK
    have e5 := hp 5 (by decide)
    have t5 : ac.tmps[5]? = some (.tuple #[.agg #[.bool x1, .string x2], .agg #[.bool y1, .string y2]]) := (List.cons.inj e5).1
    clear hold hp hsz e5
    go_simp
    exact hK.out _ _ ⟨hB, rfl, Nat.le_refl _, .inl (Below.refl _ _), fun h => absurd h (by decide)⟩
  refine Stps.cons (o := _) ?_ ?_
  · intro ac yw hsz hold hB hp K hK
    clear hold hp hsz
    have hk0 := hB.now.1.lt
    have hsl := Slot2.new yw (.bool false) (.string ⟨#[]⟩) 116
    have hbz : Below yw.heap.size yw (yw.alloc (.cells #[.bool false, .string ⟨#[]⟩] 116)) ∧ yw.heap.size < (yw.alloc (.cells #[.bool false, .string ⟨#[]⟩] 116)).heap.size := ⟨(Below.refl _ _).alloc (Nat.le_refl _) _, by simp⟩
    go_simp
    exact hK.out _ _ ⟨hB.alloc _, Exists.intro yw.heap.size (Exists.intro false (Exists.intro ⟨#[]⟩ (And.intro rfl (And.intro hsl hk0)))), Nat.le_of_lt hbz.2, .inl hbz.1, fun _ => ⟨_, rfl, Nat.le_refl _, hbz.2⟩⟩
  refine Stps.cons (o := _) ?_ ?_
  · intro ac yw hsz hold hB hp K hK
    clear hold hp hsz
    have hk0 := hB.now.1.lt
    have hsl := Slot2.new yw (.bool false) (.string ⟨#[]⟩) 116
    have hbz : Below yw.heap.size yw (yw.alloc (.cells #[.bool false, .string ⟨#[]⟩] 116)) ∧ yw.heap.size < (yw.alloc (.cells #[.bool false, .string ⟨#[]⟩] 116)).heap.size := ⟨(Below.refl _ _).alloc (Nat.le_refl _) _, by simp⟩
    go_simp
    exact hK.out _ _ ⟨hB.alloc _, Exists.intro yw.heap.size (Exists.intro false (Exists.intro ⟨#[]⟩ (And.intro rfl (And.intro hsl hk0)))), Nat.le_of_lt hbz.2, .inl hbz.1, fun _ => ⟨_, rfl, Nat.le_refl _, hbz.2⟩⟩
  refine Stps.cons (o := _) ?_ ?_
  · intro ac yw hsz hold hB hp K hK
    obtain ⟨k8_8, b0_8, s0_8, e8, g8_0, g8_1⟩ := hp 8 (by decide)
    have t3 : ac.tmps[3]? = some (.pointer (some ⟨k8_8, 0, none⟩)) := (List.cons.inj e8).1
    have e6 := hp 6 (by decide)
    have t11 : ac.tmps[11]? = some (.agg #[.bool x1, .string x2]) := (List.cons.inj e6).1
    clear hold hp hsz e8 e6
    have hs := g8_0
    have l0 := hs.cell
    have l1 := hs.cell1
    have f0 := hs.free
    have f1 := hs.free1
    have HB := HP.out _ _ hs g8_1 hB x1 x2
    go_simp
    refine hK.out undef _ ⟨HB, Exists.intro k8_8 (And.intro (congrArg (fun x => [x]) t3) (hs.set2 (.bool x1) (.string x2))), by simp, .inr ?_, fun h => absurd h (by decide)⟩
    intro jj hj hap h
    match jj, h with
    | 0, h => exact h
    | 1, h => exact h
    | 2, h => exact h
    | 3, h => exact h
    | 4, h => exact h
    | 5, h => exact h
    | 6, h => exact h
    | 7, h => exact h
    | 8, ⟨k8, b0, s0, e8, g8_0, g8_1⟩ =>
      have e9 : k8 = k8_8 := by have := (List.cons.inj e8).1.symm.trans t3; cases this; rfl
      subst e9
      exact Exists.intro _ (Exists.intro _ (Exists.intro _ (And.intro e8 (And.intro (g8_0.set2 _ _) g8_1))))
    | 9, ⟨k9, b0, s0, e9, g9_0, g9_1⟩ =>
      have hne : k9 ≠ k8_8 := fun e => hap 8 (by decide) 9 (by decide) (by decide) (by decide) (by decide) k8_8 ⟨3, rfl, t3⟩ ⟨4, rfl, e ▸ (List.cons.inj e9).1⟩
      exact Exists.intro k9 (Exists.intro b0 (Exists.intro s0 (And.intro e9 (And.intro (Slot2.set2o g9_0 hne _ _) g9_1))))
    | 10, _ => exact absurd rfl hj
    | 11, ⟨k9, e11, g11_0⟩ =>
      have hne : k9 ≠ k8_8 := fun e => hap 8 (by decide) 9 (by decide) (by decide) (by decide) (by decide) k8_8 ⟨3, rfl, t3⟩ ⟨4, rfl, e ▸ (List.cons.inj e11).1⟩
      exact Exists.intro k9 (And.intro e11 (Slot2.set2o g11_0 hne _ _))
    | _ + 12, h => exact h
  refine Stps.cons (o := _) ?_ ?_
  · intro ac yw hsz hold hB hp K hK
    obtain ⟨k9_9, b0_9, s0_9, e9, g9_0, g9_1⟩ := hp 9 (by decide)
    have t4 : ac.tmps[4]? = some (.pointer (some ⟨k9_9, 0, none⟩)) := (List.cons.inj e9).1
    have e7 := hp 7 (by decide)
    have t12 : ac.tmps[12]? = some (.agg #[.bool y1, .string y2]) := (List.cons.inj e7).1
    clear hold hp hsz e9 e7
    have hs := g9_0
    have l0 := hs.cell
    have l1 := hs.cell1
    have f0 := hs.free
    have f1 := hs.free1
    have HB := HP.out _ _ hs g9_1 hB y1 y2
    go_simp
    refine hK.out undef _ ⟨HB, Exists.intro k9_9 (And.intro (congrArg (fun x => [x]) t4) (hs.set2 (.bool y1) (.string y2))), by simp, .inr ?_, fun h => absurd h (by decide)⟩
    intro jj hj hap h
    match jj, h with
    | 0, h => exact h
    | 1, h => exact h
    | 2, h => exact h
    | 3, h => exact h
    | 4, h => exact h
    | 5, h => exact h
    | 6, h => exact h
    | 7, h => exact h
    | 8, ⟨k8, b0, s0, e8, g8_0, g8_1⟩ =>
      have hne : k8 ≠ k9_9 := fun e => hap 9 (by decide) 8 (by decide) (by decide) (by decide) (by decide) k9_9 ⟨4, rfl, t4⟩ ⟨3, rfl, e ▸ (List.cons.inj e8).1⟩
      exact Exists.intro k8 (Exists.intro b0 (Exists.intro s0 (And.intro e8 (And.intro (Slot2.set2o g8_0 hne _ _) g8_1))))
    | 9, ⟨k9, b0, s0, e9, g9_0, g9_1⟩ =>
      have e9 : k9 = k9_9 := by have := (List.cons.inj e9).1.symm.trans t4; cases this; rfl
      subst e9
      exact Exists.intro _ (Exists.intro _ (Exists.intro _ (And.intro e9 (And.intro (g9_0.set2 _ _) g9_1))))
    | 10, ⟨k8, e10, g10_0⟩ =>
      have hne : k8 ≠ k9_9 := fun e => hap 9 (by decide) 8 (by decide) (by decide) (by decide) (by decide) k9_9 ⟨4, rfl, t4⟩ ⟨3, rfl, e ▸ (List.cons.inj e10).1⟩
      exact Exists.intro k8 (And.intro e10 (Slot2.set2o g10_0 hne _ _))
    | 11, _ => exact absurd rfl hj
    | _ + 12, h => exact h
  exact Stps.nil _
end Go.Proofs.YtnpoakaffafdiaaGreatDoor

namespace Go.Proofs.YtnpoakaffafdiaaGreatDoor
open Go.RowKit
attribute [local go_sem ↓] Go.wp_at_zero Go.wp_at_succ
set_option linter.unusedSimpArgs false in
set_option maxHeartbeats 12800000 in
set_option maxRecDepth 100000 in
theorem ratFloor_any (a : Option Addr) (n c : Nat) (m : Bool) (a2 : Option Addr) (n2 c2 : Nat) (P : Int) (Q : Nat) (w : World) (h : RatAt w a n c m a2 n2 c2 P Q) (hQ : 0 < Q) (K : Nat) (hK : K ≤ 800000) (h1 : P.natAbs < 4294967296 ^ K) :
    Calls Tryz.prog 124 #[.agg #[.slice a n c, .bool m, .slice a2 n2 c2]] w fun e w' => IntTold w w' e (flQ P Q) := by
  have B0 := ((Bag.start w).rat h).box3 (.slice a n c) (.bool m) (.slice a2 n2 c2) 60 |>.box2 (.slice none 0 0) (.bool false) 58
  simp only [World.size_alloc] at B0
  have BL := Lib.hid (fun wz (h : RatAt wz a n c m a2 n2 c2 P Q) => below_any a n c m a2 n2 c2 P Q wz h hQ)
  have FL := Lib.hid (fun a2 n2 c2 m2 wz (h : IntAt wz a n c m P) (g : IntAt wz a2 n2 c2 m2 (Q : Int)) => floor_any a n c m P a2 n2 c2 m2 Q wz h g K hK h1 (by omega))
  unfold FloorTold at FL
  generalize flQ P (Q : Int) = Z at *
  generalize flR P (Q : Int) = Y at *
  have BB := Lib.hid B0
  clear h B0 hQ h1
  go_enter Tryz.func124, Tryz.ntmps124
  go_wp2_with fail
  have HP : Hid (∀ (y : World) (k : Nat) {x0 : Option Addr} {y0 z0 : Nat} {b0 : Bool}, Slot2 y k (.slice x0 y0 z0) (.bool b0) → w.heap.size + 1 < k → Bag w (fun y => Slot2 y (w.heap.size + 1) (.slice none 0 0) (.bool false) ∧ Slot3 y w.heap.size (.slice a n c) (.bool m) (.slice a2 n2 c2) ∧ RatAt y a n c m a2 n2 c2 P Q ∧ True) y → ∀ (a9 : Option Addr) (n9 c9 : Nat) (m9 : Bool), Bag w (fun y => Slot2 y (w.heap.size + 1) (.slice none 0 0) (.bool false) ∧ Slot3 y w.heap.size (.slice a n c) (.bool m) (.slice a2 n2 c2) ∧ RatAt y a n c m a2 n2 c2 P Q ∧ True) ((y.setCell ⟨k, 0, none⟩ (.slice a9 n9 c9)).setCell ⟨k, 1, none⟩ (.bool m9))) := by
    intro y k x0 y0 z0 b0 s hk B a9 n9 c9 m9
    have hx : ∀ (x : Option Addr) (y z : Nat) (ki : IntKind) (i : Int), (Value.slice x y z) ≠ .int ki i := fun _ _ _ _ _ h => by cases h
    have hb : ∀ (x : Bool) (ki : IntKind) (i : Int), (Value.bool x) ≠ .int ki i := fun _ _ _ h => by cases h
    have q := B.now
    exact ⟨(B.below.setCell (p := ⟨k, 0, none⟩) (show w.heap.size ≤ k by omega) _).setCell (p := ⟨k, 1, none⟩) (show w.heap.size ≤ k by omega) _, B.stay, q.1.set2o (by omega) _ _, q.2.1.set2o (by omega) _ _,
      ⟨⟨q.2.2.1.int.1, q.2.2.1.int.nt.set2b s (hx _ _ _) (hb _) _ _⟩, q.2.2.1.low.set2b s (hx _ _ _) (hb _) _ _⟩, trivial⟩
  refine wp_region_inv ⟨(fun j => ([[7], [8], [9], [10], [11], [6], [12], [13], [14], [3], [4], [3], [4], [5]] : List (List Nat)).getD j []), (fun j => ([[], [0], [], [2], [0, 1, 2, 3], [0, 1, 2, 3, 4], [0, 1, 2, 3, 4, 5], [0, 1, 2, 3, 4, 5], [0, 1, 2, 3, 4, 5], [], [], [0, 1, 2, 3, 4, 5, 6, 9, 10], [0, 1, 2, 3, 4, 5, 6, 7, 9, 10, 11], [0, 1, 2, 3, 4, 5, 6, 7, 8, 9, 10, 11, 12]] : List (List Nat)).getD j []), [9, 10]⟩ (fun jj vv yy => match jj with | 0 => vv = [some (.pointer (some ⟨w.heap.size, 0, none⟩))] | 1 => vv = [some (.agg #[.slice a n c, .bool m])] | 2 => vv = [some (.agg #[.slice a n c, .bool m, .slice a2 n2 c2])] | 3 => ∃ (a3 : Option Addr), ∃ (n3 : Nat), ∃ (c3 : Nat), ∃ (m3 : Bool), vv = [some (.agg #[.slice a3 n3 c3, .bool m3])] ∧ IntAt yy a3 n3 c3 m3 (Q : Int) | 4 => ∃ (a5 : Option Addr), ∃ (n5 : Nat), ∃ (c5 : Nat), ∃ (m5 : Bool), ∃ (a6 : Option Addr), ∃ (n6 : Nat), ∃ (c6 : Nat), ∃ (m6 : Bool), vv = [some (.tuple #[.agg #[.slice a5 n5 c5, .bool m5], .agg #[.slice a6 n6 c6, .bool m6], .bool true])] ∧ IntAt yy a5 n5 c5 m5 Z ∧ IntAt yy a6 n6 c6 m6 Y | 5 => ∃ (a5 : Option Addr), ∃ (n5 : Nat), ∃ (c5 : Nat), ∃ (m5 : Bool), ∃ (a6 : Option Addr), ∃ (n6 : Nat), ∃ (c6 : Nat), ∃ (m6 : Bool), vv = [some (.tuple #[.agg #[.slice a5 n5 c5, .bool m5], .agg #[.slice a6 n6 c6, .bool m6], .bool true])] ∧ IntAt yy a5 n5 c5 m5 Z ∧ IntAt yy a6 n6 c6 m6 Y | 6 => ∃ (a5 : Option Addr), ∃ (n5 : Nat), ∃ (c5 : Nat), ∃ (m5 : Bool), vv = [some (.agg #[.slice a5 n5 c5, .bool m5])] ∧ IntAt yy a5 n5 c5 m5 Z | 7 => ∃ (a6 : Option Addr), ∃ (n6 : Nat), ∃ (c6 : Nat), ∃ (m6 : Bool), vv = [some (.agg #[.slice a6 n6 c6, .bool m6])] ∧ IntAt yy a6 n6 c6 m6 Y | 8 => vv = [some (.bool true)] | 9 => ∃ (k9 : Nat), ∃ (x0 : Option Addr), ∃ (y0 : Nat), ∃ (z0 : Nat), ∃ (b0 : Bool), vv = [some (.pointer (some ⟨k9, 0, none⟩))] ∧ Slot2 yy k9 (.slice x0 y0 z0) (.bool b0) ∧ w.heap.size + 1 < k9 | 10 => ∃ (k10 : Nat), ∃ (x0 : Option Addr), ∃ (y0 : Nat), ∃ (z0 : Nat), ∃ (b0 : Bool), vv = [some (.pointer (some ⟨k10, 0, none⟩))] ∧ Slot2 yy k10 (.slice x0 y0 z0) (.bool b0) ∧ w.heap.size + 1 < k10 | 11 => ∃ (k9 : Nat), ∃ (a5 : Option Addr), ∃ (n5 : Nat), ∃ (c5 : Nat), ∃ (m5 : Bool), vv = [some (.pointer (some ⟨k9, 0, none⟩))] ∧ Slot2 yy k9 (.slice a5 n5 c5) (.bool m5) ∧ IntAt yy a5 n5 c5 m5 Z | 12 => ∃ (k10 : Nat), ∃ (a6 : Option Addr), ∃ (n6 : Nat), ∃ (c6 : Nat), ∃ (m6 : Bool), vv = [some (.pointer (some ⟨k10, 0, none⟩))] ∧ Slot2 yy k10 (.slice a6 n6 c6) (.bool m6) ∧ IntAt yy a6 n6 c6 m6 Y | 13 => vv = [some (.bool true)] | _ => True) (Bag w (fun y => Slot2 y (w.heap.size + 1) (.slice none 0 0) (.bool false) ∧ Slot3 y w.heap.size (.slice a n c) (.bool m) (.slice a2 n2 c2) ∧ RatAt y a n c m a2 n2 c2 P Q ∧ True)) (by kernel_rfl) (by kernel_rfl) (by kernel_rfl) BB.out.drew ?_ ?_ ?_
  · intro jj vv yw yw2 hb h
    match jj, h with
    | 0, h => exact h
    | 1, h => exact h
    | 2, h => exact h
    | 3, ⟨a3, n3, c3, m3, e3, g3_0⟩ => exact Exists.intro a3 (Exists.intro n3 (Exists.intro c3 (Exists.intro m3 (And.intro e3 (g3_0.below hb)))))
    | 4, ⟨a5, n5, c5, m5, a6, n6, c6, m6, e4, g4_0, g4_1⟩ => exact Exists.intro a5 (Exists.intro n5 (Exists.intro c5 (Exists.intro m5 (Exists.intro a6 (Exists.intro n6 (Exists.intro c6 (Exists.intro m6 (And.intro e4 (And.intro (g4_0.below hb) (g4_1.below hb))))))))))
    | 5, ⟨a5, n5, c5, m5, a6, n6, c6, m6, e5, g5_0, g5_1⟩ => exact Exists.intro a5 (Exists.intro n5 (Exists.intro c5 (Exists.intro m5 (Exists.intro a6 (Exists.intro n6 (Exists.intro c6 (Exists.intro m6 (And.intro e5 (And.intro (g5_0.below hb) (g5_1.below hb))))))))))
    | 6, ⟨a5, n5, c5, m5, e6, g6_0⟩ => exact Exists.intro a5 (Exists.intro n5 (Exists.intro c5 (Exists.intro m5 (And.intro e6 (g6_0.below hb)))))
    | 7, ⟨a6, n6, c6, m6, e7, g7_0⟩ => exact Exists.intro a6 (Exists.intro n6 (Exists.intro c6 (Exists.intro m6 (And.intro e7 (g7_0.below hb)))))
    | 8, h => exact h
    | 9, ⟨k9, x0, y0, z0, b0, e9, g9_0, g9_1⟩ => exact Exists.intro k9 (Exists.intro x0 (Exists.intro y0 (Exists.intro z0 (Exists.intro b0 (And.intro e9 (And.intro (g9_0.below hb) g9_1))))))
    | 10, ⟨k10, x0, y0, z0, b0, e10, g10_0, g10_1⟩ => exact Exists.intro k10 (Exists.intro x0 (Exists.intro y0 (Exists.intro z0 (Exists.intro b0 (And.intro e10 (And.intro (g10_0.below hb) g10_1))))))
    | 11, ⟨k9, a5, n5, c5, m5, e11, g11_0, g11_1⟩ => exact Exists.intro k9 (Exists.intro a5 (Exists.intro n5 (Exists.intro c5 (Exists.intro m5 (And.intro e11 (And.intro (g11_0.below hb) (g11_1.below hb)))))))
    | 12, ⟨k10, a6, n6, c6, m6, e12, g12_0, g12_1⟩ => exact Exists.intro k10 (Exists.intro a6 (Exists.intro n6 (Exists.intro c6 (Exists.intro m6 (And.intro e12 (And.intro (g12_0.below hb) (g12_1.below hb)))))))
    | 13, h => exact h
    | _ + 14, h => exact h
  · intro ac yw hsz hdf hold hB hp
    obtain ⟨k9, a5, n5, c5, m5, e11, sA, hi5⟩ := hp 11 (by decide)
    have t3 : ac.tmps[3]? = some (.pointer (some ⟨k9, 0, none⟩)) := (List.cons.inj e11).1
    have t2 : ac.tmps[2]? = some (.pointer (some ⟨w.heap.size + 1, 0, none⟩)) := hold 2 (by kernel_rfl)
    clear hold hp e11
    obtain ⟨⟨l⟩, df⟩ := ac
    match l, hsz with
    | [u0, u1, u2, u3, u4, u5, u6, u7, u8, u9, u10, u11, u12, u13, u14, u15], _ =>
    obtain rfl := Option.some.inj (show some u2 = _ from t2)
    obtain rfl := Option.some.inj (show some u3 = _ from t3)
    have q0 := sA.cell
    have q1 := sA.cell1
    have hs := hB.now.1
    have hc := hs.cell
    have hc1 := hs.cell1
    have hf := hs.free
    have hf1 := hs.free1
    have HS := hs.set (.slice a5 n5 c5) (.bool m5)
    have HE := Lib.hid (IntTold.done hB.below (by omega) hs (fun _ _ h => by cases h) hi5)
    clear hB sA hi5 hs
    go_wp2
    exact bodyPost_ret (v := .agg #[.slice a5 n5 c5, .bool m5]) (by simp [results, Tryz.results124, go_sem, HS]) rfl HE.out
  refine Stps.cons (o := _) ?_ ?_
  · intro ac yw hsz hold hB hp K hK
    have t1 : ac.tmps[1]? = some (.pointer (some ⟨w.heap.size, 0, none⟩)) := hold 1 (by kernel_rfl)
    clear hold hp hsz
    go_simp
    exact hK.out _ _ ⟨hB, rfl, Nat.le_refl _, .inl (Below.refl _ _), fun h => absurd h (by decide)⟩
  refine Stps.cons (o := _) ?_ ?_
  · intro ac yw hsz hold hB hp K hK
    have e0 := hp 0 (by decide)
    have t7 : ac.tmps[7]? = some (.pointer (some ⟨w.heap.size, 0, none⟩)) := (List.cons.inj e0).1
    clear hold hp hsz e0
    have q0 := hB.now.2.1.cell
    have q1 := hB.now.2.1.cell1
    have q2 := hB.now.2.1.cell2
    go_simp
    exact hK.out _ _ ⟨hB, rfl, Nat.le_refl _, .inl (Below.refl _ _), fun h => absurd h (by decide)⟩
  refine Stps.cons (o := _) ?_ ?_
  · intro ac yw hsz hold hB hp K hK
    have t1 : ac.tmps[1]? = some (.pointer (some ⟨w.heap.size, 0, none⟩)) := hold 1 (by kernel_rfl)
    clear hold hp hsz
    have q0 := hB.now.2.1.cell
    have q1 := hB.now.2.1.cell1
    have q2 := hB.now.2.1.cell2
    go_simp
    exact hK.out _ _ ⟨hB, rfl, Nat.le_refl _, .inl (Below.refl _ _), fun h => absurd h (by decide)⟩
  refine Stps.cons (o := _) ?_ ?_
  · intro ac yw hsz hold hB hp K hK
    have e2 := hp 2 (by decide)
    have t9 : ac.tmps[9]? = some (.agg #[.slice a n c, .bool m, .slice a2 n2 c2]) := (List.cons.inj e2).1
    clear hold hp hsz e2
    go_simp
    (go_at_call 83; (with_reducible refine (BL.out _ hB.now.2.2.1).mono ?_); rintro e wz ⟨a3, n3, c3, m3, rfl, h3_0, hbz⟩)
    exact hK.out _ _ ⟨hB.go hbz, Exists.intro a3 (Exists.intro n3 (Exists.intro c3 (Exists.intro m3 (And.intro rfl h3_0)))), hbz.size, .inl hbz, fun h => absurd h (by decide)⟩
  refine Stps.cons (o := _) ?_ ?_
  · intro ac yw hsz hold hB hp K hK
    have e1 := hp 1 (by decide)
    have t8 : ac.tmps[8]? = some (.agg #[.slice a n c, .bool m]) := (List.cons.inj e1).1
    obtain ⟨a3_3, n3_3, c3_3, m3_3, e3, g3_0⟩ := hp 3 (by decide)
    have t10 : ac.tmps[10]? = some (.agg #[.slice a3_3 n3_3 c3_3, .bool m3_3]) := (List.cons.inj e3).1
    clear hold hp hsz e1 e3
    go_simp
    (go_at_call 161; (with_reducible refine (FL.out _ _ _ _ _ hB.now.2.2.1.int g3_0).mono ?_); rintro e wz ⟨a5, n5, c5, m5, a6, n6, c6, m6, rfl, h4_0, h4_1, hbz⟩)
    exact hK.out _ _ ⟨hB.go hbz, Exists.intro a5 (Exists.intro n5 (Exists.intro c5 (Exists.intro m5 (Exists.intro a6 (Exists.intro n6 (Exists.intro c6 (Exists.intro m6 (And.intro rfl (And.intro h4_0 h4_1))))))))), hbz.size, .inl hbz, fun h => absurd h (by decide)⟩
  refine Stps.cons (o := _) ?_ ?_
  · intro ac yw hsz hold hB hp K hK
    obtain ⟨a5_4, n5_4, c5_4, m5_4, a6_4, n6_4, c6_4, m6_4, e4, g4_0, g4_1⟩ := hp 4 (by decide)
    have t11 : ac.tmps[11]? = some (.tuple #[.agg #[.slice a5_4 n5_4 c5_4, .bool m5_4], .agg #[.slice a6_4 n6_4 c6_4, .bool m6_4], .bool true]) := (List.cons.inj e4).1
    clear hold hp hsz e4
    go_simp
    exact hK.out _ _ ⟨hB, Exists.intro a5_4 (Exists.intro n5_4 (Exists.intro c5_4 (Exists.intro m5_4 (Exists.intro a6_4 (Exists.intro n6_4 (Exists.intro c6_4 (Exists.intro m6_4 (And.intro rfl (And.intro g4_0 g4_1))))))))), Nat.le_refl _, .inl (Below.refl _ _), fun h => absurd h (by decide)⟩
  refine Stps.cons (o := _) ?_ ?_
  · intro ac yw hsz hold hB hp K hK
    obtain ⟨a5_5, n5_5, c5_5, m5_5, a6_5, n6_5, c6_5, m6_5, e5, g5_0, g5_1⟩ := hp 5 (by decide)
    have t6 : ac.tmps[6]? = some (.tuple #[.agg #[.slice a5_5 n5_5 c5_5, .bool m5_5], .agg #[.slice a6_5 n6_5 c6_5, .bool m6_5], .bool true]) := (List.cons.inj e5).1
    clear hold hp hsz e5
    go_simp
    exact hK.out _ _ ⟨hB, Exists.intro a5_5 (Exists.intro n5_5 (Exists.intro c5_5 (Exists.intro m5_5 (And.intro rfl g5_0)))), Nat.le_refl _, .inl (Below.refl _ _), fun h => absurd h (by decide)⟩
  refine Stps.cons (o := _) ?_ ?_
  · intro ac yw hsz hold hB hp K hK
    obtain ⟨a5_5, n5_5, c5_5, m5_5, a6_5, n6_5, c6_5, m6_5, e5, g5_0, g5_1⟩ := hp 5 (by decide)
    have t6 : ac.tmps[6]? = some (.tuple #[.agg #[.slice a5_5 n5_5 c5_5, .bool m5_5], .agg #[.slice a6_5 n6_5 c6_5, .bool m6_5], .bool true]) := (List.cons.inj e5).1
    clear hold hp hsz e5
    go_simp
    exact hK.out _ _ ⟨hB, Exists.intro a6_5 (Exists.intro n6_5 (Exists.intro c6_5 (Exists.intro m6_5 (And.intro rfl g5_1)))), Nat.le_refl _, .inl (Below.refl _ _), fun h => absurd h (by decide)⟩
  refine Stps.cons (o := _) ?_ ?_
  · intro ac yw hsz hold hB hp K hK
    obtain ⟨a5_5, n5_5, c5_5, m5_5, a6_5, n6_5, c6_5, m6_5, e5, g5_0, g5_1⟩ := hp 5 (by decide)
    have t6 : ac.tmps[6]? = some (.tuple #[.agg #[.slice a5_5 n5_5 c5_5, .bool m5_5], .agg #[.slice a6_5 n6_5 c6_5, .bool m6_5], .bool true]) := (List.cons.inj e5).1
    clear hold hp hsz e5
    go_simp
    exact hK.out _ _ ⟨hB, rfl, Nat.le_refl _, .inl (Below.refl _ _), fun h => absurd h (by decide)⟩
  refine Stps.cons (o := _) ?_ ?_
  · intro ac yw hsz hold hB hp K hK
    clear hold hp hsz
    have hk0 := hB.now.1.lt
    have hsl := Slot2.new yw (.slice none 0 0) (.bool false) 58
    have hbz : Below yw.heap.size yw (yw.alloc (.cells #[.slice none 0 0, .bool false] 58)) ∧ yw.heap.size < (yw.alloc (.cells #[.slice none 0 0, .bool false] 58)).heap.size := ⟨(Below.refl _ _).alloc (Nat.le_refl _) _, by simp⟩
    go_simp
    exact hK.out _ _ ⟨hB.alloc _, Exists.intro yw.heap.size (Exists.intro none (Exists.intro 0 (Exists.intro 0 (Exists.intro false (And.intro rfl (And.intro hsl hk0)))))), Nat.le_of_lt hbz.2, .inl hbz.1, fun _ => ⟨_, rfl, Nat.le_refl _, hbz.2⟩⟩
  refine Stps.cons (o := _) ?_ ?_
  · intro ac yw hsz hold hB hp K hK
    clear hold hp hsz
    have hk0 := hB.now.1.lt
    have hsl := Slot2.new yw (.slice none 0 0) (.bool false) 58
    have hbz : Below yw.heap.size yw (yw.alloc (.cells #[.slice none 0 0, .bool false] 58)) ∧ yw.heap.size < (yw.alloc (.cells #[.slice none 0 0, .bool false] 58)).heap.size := ⟨(Below.refl _ _).alloc (Nat.le_refl _) _, by simp⟩
    go_simp
    exact hK.out _ _ ⟨hB.alloc _, Exists.intro yw.heap.size (Exists.intro none (Exists.intro 0 (Exists.intro 0 (Exists.intro false (And.intro rfl (And.intro hsl hk0)))))), Nat.le_of_lt hbz.2, .inl hbz.1, fun _ => ⟨_, rfl, Nat.le_refl _, hbz.2⟩⟩
  refine Stps.cons (o := _) ?_ ?_
  · intro ac yw hsz hold hB hp K hK
    obtain ⟨k9_9, x0_9, y0_9, z0_9, b0_9, e9, g9_0, g9_1⟩ := hp 9 (by decide)
    have t3 : ac.tmps[3]? = some (.pointer (some ⟨k9_9, 0, none⟩)) := (List.cons.inj e9).1
    obtain ⟨a5_6, n5_6, c5_6, m5_6, e6, g6_0⟩ := hp 6 (by decide)
    have t12 : ac.tmps[12]? = some (.agg #[.slice a5_6 n5_6 c5_6, .bool m5_6]) := (List.cons.inj e6).1
    clear hold hp hsz e9 e6
    have hs := g9_0
    have l0 := hs.cell
    have l1 := hs.cell1
    have f0 := hs.free
    have f1 := hs.free1
    have HB := HP.out _ _ hs g9_1 hB a5_6 n5_6 c5_6 m5_6
    go_simp
    refine hK.out undef _ ⟨HB, Exists.intro k9_9 (Exists.intro a5_6 (Exists.intro n5_6 (Exists.intro c5_6 (Exists.intro m5_6 (And.intro (congrArg (fun x => [x]) t3) (And.intro (hs.set2 (.slice a5_6 n5_6 c5_6) (.bool m5_6)) (IntAt.set2b g6_0 hs _ _))))))), by simp, .inr ?_, fun h => absurd h (by decide)⟩
    intro jj hj hap h
    match jj, h with
    | 0, h => exact h
    | 1, h => exact h
    | 2, h => exact h
    | 3, ⟨a3, n3, c3, m3, e3, g3_0⟩ =>
      exact Exists.intro a3 (Exists.intro n3 (Exists.intro c3 (Exists.intro m3 (And.intro e3 (IntAt.set2b g3_0 hs _ _)))))
    | 4, ⟨a5, n5, c5, m5, a6, n6, c6, m6, e4, g4_0, g4_1⟩ =>
      exact Exists.intro a5 (Exists.intro n5 (Exists.intro c5 (Exists.intro m5 (Exists.intro a6 (Exists.intro n6 (Exists.intro c6 (Exists.intro m6 (And.intro e4 (And.intro (IntAt.set2b g4_0 hs _ _) (IntAt.set2b g4_1 hs _ _))))))))))
    | 5, ⟨a5, n5, c5, m5, a6, n6, c6, m6, e5, g5_0, g5_1⟩ =>
      exact Exists.intro a5 (Exists.intro n5 (Exists.intro c5 (Exists.intro m5 (Exists.intro a6 (Exists.intro n6 (Exists.intro c6 (Exists.intro m6 (And.intro e5 (And.intro (IntAt.set2b g5_0 hs _ _) (IntAt.set2b g5_1 hs _ _))))))))))
    | 6, ⟨a5, n5, c5, m5, e6, g6_0⟩ =>
      exact Exists.intro a5 (Exists.intro n5 (Exists.intro c5 (Exists.intro m5 (And.intro e6 (IntAt.set2b g6_0 hs _ _)))))
    | 7, ⟨a6, n6, c6, m6, e7, g7_0⟩ =>
      exact Exists.intro a6 (Exists.intro n6 (Exists.intro c6 (Exists.intro m6 (And.intro e7 (IntAt.set2b g7_0 hs _ _)))))
    | 8, h => exact h
    | 9, ⟨k9, x0, y0, z0, b0, e9, g9_0, g9_1⟩ =>
      have e9 : k9 = k9_9 := by have := (List.cons.inj e9).1.symm.trans t3; cases this; rfl
      subst e9
      exact Exists.intro _ (Exists.intro _ (Exists.intro _ (Exists.intro _ (Exists.intro _ (And.intro e9 (And.intro (g9_0.set2 _ _) g9_1))))))
    | 10, ⟨k10, x0, y0, z0, b0, e10, g10_0, g10_1⟩ =>
      have hne : k10 ≠ k9_9 := fun e => hap 9 (by decide) 10 (by decide) (by decide) (by decide) (by decide) k9_9 ⟨3, rfl, t3⟩ ⟨4, rfl, e ▸ (List.cons.inj e10).1⟩
      exact Exists.intro k10 (Exists.intro x0 (Exists.intro y0 (Exists.intro z0 (Exists.intro b0 (And.intro e10 (And.intro (Slot2.set2o g10_0 hne _ _) g10_1))))))
    | 11, _ => exact absurd rfl hj
    | 12, ⟨k10, a6, n6, c6, m6, e12, g12_0, g12_1⟩ =>
      have hne : k10 ≠ k9_9 := fun e => hap 9 (by decide) 10 (by decide) (by decide) (by decide) (by decide) k9_9 ⟨3, rfl, t3⟩ ⟨4, rfl, e ▸ (List.cons.inj e12).1⟩
      exact Exists.intro k10 (Exists.intro a6 (Exists.intro n6 (Exists.intro c6 (Exists.intro m6 (And.intro e12 (And.intro (Slot2.set2o g12_0 hne _ _) (IntAt.set2b g12_1 hs _ _)))))))
    | 13, h => exact h
    | _ + 14, h => exact h
  refine Stps.cons (o := _) ?_ ?_
  · intro ac yw hsz hold hB hp K hK
    obtain ⟨k10_10, x0_10, y0_10, z0_10, b0_10, e10, g10_0, g10_1⟩ := hp 10 (by decide)
    have t4 : ac.tmps[4]? = some (.pointer (some ⟨k10_10, 0, none⟩)) := (List.cons.inj e10).1
    obtain ⟨a6_7, n6_7, c6_7, m6_7, e7, g7_0⟩ := hp 7 (by decide)
    have t13 : ac.tmps[13]? = some (.agg #[.slice a6_7 n6_7 c6_7, .bool m6_7]) := (List.cons.inj e7).1
    clear hold hp hsz e10 e7
    have hs := g10_0
    have l0 := hs.cell
    have l1 := hs.cell1
    have f0 := hs.free
    have f1 := hs.free1
    have HB := HP.out _ _ hs g10_1 hB a6_7 n6_7 c6_7 m6_7
    go_simp
    refine hK.out undef _ ⟨HB, Exists.intro k10_10 (Exists.intro a6_7 (Exists.intro n6_7 (Exists.intro c6_7 (Exists.intro m6_7 (And.intro (congrArg (fun x => [x]) t4) (And.intro (hs.set2 (.slice a6_7 n6_7 c6_7) (.bool m6_7)) (IntAt.set2b g7_0 hs _ _))))))), by simp, .inr ?_, fun h => absurd h (by decide)⟩
    intro jj hj hap h
    match jj, h with
    | 0, h => exact h
    | 1, h => exact h
    | 2, h => exact h
    | 3, ⟨a3, n3, c3, m3, e3, g3_0⟩ =>
      exact Exists.intro a3 (Exists.intro n3 (Exists.intro c3 (Exists.intro m3 (And.intro e3 (IntAt.set2b g3_0 hs _ _)))))
    | 4, ⟨a5, n5, c5, m5, a6, n6, c6, m6, e4, g4_0, g4_1⟩ =>
      exact Exists.intro a5 (Exists.intro n5 (Exists.intro c5 (Exists.intro m5 (Exists.intro a6 (Exists.intro n6 (Exists.intro c6 (Exists.intro m6 (And.intro e4 (And.intro (IntAt.set2b g4_0 hs _ _) (IntAt.set2b g4_1 hs _ _))))))))))
    | 5, ⟨a5, n5, c5, m5, a6, n6, c6, m6, e5, g5_0, g5_1⟩ =>
      exact Exists.intro a5 (Exists.intro n5 (Exists.intro c5 (Exists.intro m5 (Exists.intro a6 (Exists.intro n6 (Exists.intro c6 (Exists.intro m6 (And.intro e5 (And.intro (IntAt.set2b g5_0 hs _ _) (IntAt.set2b g5_1 hs _ _))))))))))
    | 6, ⟨a5, n5, c5, m5, e6, g6_0⟩ =>
      exact Exists.intro a5 (Exists.intro n5 (Exists.intro c5 (Exists.intro m5 (And.intro e6 (IntAt.set2b g6_0 hs _ _)))))
    | 7, ⟨a6, n6, c6, m6, e7, g7_0⟩ =>
      exact Exists.intro a6 (Exists.intro n6 (Exists.intro c6 (Exists.intro m6 (And.intro e7 (IntAt.set2b g7_0 hs _ _)))))
    | 8, h => exact h
    | 9, ⟨k9, x0, y0, z0, b0, e9, g9_0, g9_1⟩ =>
      have hne : k9 ≠ k10_10 := fun e => hap 10 (by decide) 9 (by decide) (by decide) (by decide) (by decide) k10_10 ⟨4, rfl, t4⟩ ⟨3, rfl, e ▸ (List.cons.inj e9).1⟩
      exact Exists.intro k9 (Exists.intro x0 (Exists.intro y0 (Exists.intro z0 (Exists.intro b0 (And.intro e9 (And.intro (Slot2.set2o g9_0 hne _ _) g9_1))))))
    | 10, ⟨k10, x0, y0, z0, b0, e10, g10_0, g10_1⟩ =>
      have e9 : k10 = k10_10 := by have := (List.cons.inj e10).1.symm.trans t4; cases this; rfl
      subst e9
      exact Exists.intro _ (Exists.intro _ (Exists.intro _ (Exists.intro _ (Exists.intro _ (And.intro e10 (And.intro (g10_0.set2 _ _) g10_1))))))
    | 11, ⟨k9, a5, n5, c5, m5, e11, g11_0, g11_1⟩ =>
      have hne : k9 ≠ k10_10 := fun e => hap 10 (by decide) 9 (by decide) (by decide) (by decide) (by decide) k10_10 ⟨4, rfl, t4⟩ ⟨3, rfl, e ▸ (List.cons.inj e11).1⟩
      exact Exists.intro k9 (Exists.intro a5 (Exists.intro n5 (Exists.intro c5 (Exists.intro m5 (And.intro e11 (And.intro (Slot2.set2o g11_0 hne _ _) (IntAt.set2b g11_1 hs _ _)))))))
    | 12, _ => exact absurd rfl hj
    | 13, h => exact h
    | _ + 14, h => exact h
  refine Stps.cons (o := _) ?_ ?_
  · intro ac yw hsz hold hB hp K hK
    have e8 := hp 8 (by decide)
    have t14 : ac.tmps[14]? = some (.bool true) := (List.cons.inj e8).1
    clear hold hp hsz e8
    go_simp
    exact hK.out _ _ ⟨hB, rfl, Nat.le_refl _, .inl (Below.refl _ _), fun h => absurd h (by decide)⟩
  exact Stps.nil _
set_option maxHeartbeats 1600000 in
set_option maxRecDepth 100000 in
theorem ratCeil_any (a : Option Addr) (n c : Nat) (m : Bool) (a2 : Option Addr) (n2 c2 : Nat) (P : Int) (Q : Nat) (w : World) (h : RatAt w a n c m a2 n2 c2 P Q) (hQ : 0 < Q) (K : Nat) (hK : K ≤ 800000) (h1 : P.natAbs < 4294967296 ^ K) :
    Calls Tryz.prog 123 #[.agg #[.slice a n c, .bool m, .slice a2 n2 c2]] w fun e w' => IntTold w w' e (-(flQ (-P) Q)) := by
  have BB := Lib.hid (((Bag.start w).rat h).box3 (.slice a n c) (.bool m) (.slice a2 n2 c2) 60 |>.box2 (.slice none 0 0) (.bool false) 58)
  simp only [World.size_alloc] at BB
  have MN := Lib.hid (fun wz hz => ratMinus_any a n c m a2 n2 c2 P Q wz hz)
  have FL := Lib.hid (fun a n c m a2 n2 c2 wz hz => ratFloor_any a n c m a2 n2 c2 (-P) Q wz hz hQ K hK (by rw [Int.natAbs_neg]; exact h1))
  generalize flQ (-P) (Q : Int) = Z at *
  have MZ := Lib.hid (fun a n c m wz (h : IntAt wz a n c m Z) => minus_any a n c m Z wz h)
  clear h hQ h1
  go_enter Tryz.func123, Tryz.ntmps123
  go_wp2_with fail
  go_at_call 31
  (with_reducible refine (MN.out _ BB.out.now.2.2.1).mono ?_)
  rintro e w2 ⟨a3, n3, c3, m3, a4, n4, c4, rfl, hr, hb2⟩
  have BB := Lib.hid (BB.out.go hb2)
  go_wp2_with fail
  go_at_call 124
  (with_reducible refine (FL.out _ _ _ _ _ _ _ _ hr).mono ?_)
  rintro e w3 ⟨a5, n5, c5, m5, rfl, hi, hb3⟩
  have BB := Lib.hid (BB.out.go hb3)
  go_wp2_with fail
  go_at_call 79
  (with_reducible refine (MZ.out _ _ _ _ _ hi).mono ?_)
  rintro e w4 ⟨a6, n6, c6, m6, rfl, hi4, hb4⟩
  have BB := Lib.hid (BB.out.go hb4)
  have hs := BB.out.now.1
  have hc := hs.cell
  have hc1 := hs.cell1
  have hf := hs.free
  have hf1 := hs.free1
  have HS := hs.set (.slice a6 n6 c6) (.bool m6)
  have HE := Lib.hid (IntTold.done BB.out.below (by omega) hs (fun _ _ h => by cases h) hi4)
  clear hs hi4
  go_wp2
  exact bodyPost_ret (v := .agg #[.slice a6 n6 c6, .bool m6]) (by simp [results, Tryz.results123, go_sem, HS]) rfl HE.out
end Go.Proofs.YtnpoakaffafdiaaGreatDoor

namespace Go.Proofs.YtnpoakaffafdiaaGreatDoor
open Go.RowKit
attribute [local go_sem ↓] Go.wp_at_zero Go.wp_at_succ
theorem flQ_abs (P : Int) (Q : Int) : (flQ P Q).natAbs ≤ P.natAbs + 1 := by
  unfold flQ; rw [sgn_abs]; have := Nat.div_le_self P.natAbs Q.natAbs; split <;> omega
end Go.Proofs.YtnpoakaffafdiaaGreatDoor

namespace Go.Proofs.YtnpoakaffafdiaaGreatDoor
open Go.RowKit
attribute [local go_sem ↓] Go.wp_at_zero Go.wp_at_succ
theorem dl_one : dl 1 = 1 := Nat.le_antisymm (dl_le 1 1 (by omega) (by decide)) (dl_pos 1)
set_option maxHeartbeats 1600000 in
set_option maxRecDepth 100000 in
theorem r3Ceil_any (P : Int) (Q : Nat) (w : World) (hQ : 0 < Q) (h1 : dl P.natAbs ≤ 400) (h2 : dl Q ≤ 400) :
    Calls Tryz.prog 74 #[.agg #[.bool (rB P), .string (rS P), .string (str (dec Q))]] w fun e w' => RTold w w' e (-(flQ (-P) Q)) := by
  have BB := Lib.hid ((Bag.start w).box3 (.bool (rB P)) (.string (rS P)) (.string (str (dec Q))) 53 |>.box2 (.bool false) (.string ⟨#[]⟩) 116)
  simp only [World.size_alloc] at BB
  have MN := Lib.hid (fun wz => r3Minus_any P Q wz)
  have FL := Lib.hid (fun wz => r3Floor_any (-P) Q wz hQ (by rw [Int.natAbs_neg]; exact h1) h2)
  have hz : dl (flQ (-P) (Q : Int)).natAbs ≤ 401 := by
    have := flQ_abs (-P) (Q : Int)
    rw [Int.natAbs_neg] at this
    exact Nat.le_trans (dl_mono this) (dl_add_le (k := 400) h1 (Nat.le_trans (dl_le 1 1 (by omega) (by decide)) (by omega)))
  have MZ := Lib.hid (fun wz => rMinus_any (flQ (-P) (Q : Int)) wz (by omega))
  have HF := Lib.hid (fun w2 b s (hb : Below w.heap.size w w2) (h1 : rB (-(flQ (-P) (Q : Int))) = b) (h2 : rS (-(flQ (-P) (Q : Int))) = s) => RTold.fin (Y := -(flQ (-P) (Q : Int))) hb (show w.heap.size ≤ w.heap.size + 1 by omega) h1 h2)
  unfold NumTold at MN
  unfold RTold at FL MZ
  obtain ⟨b, hb⟩ : ∃ b, rB (-(flQ (-P) (Q : Int))) = b := ⟨_, rfl⟩
  obtain ⟨s, hs⟩ : ∃ s, rS (-(flQ (-P) (Q : Int))) = s := ⟨_, rfl⟩
  have HB := Lib.hid (And.intro hb hs)
  rw [hb, hs] at MZ
  generalize rB (flQ (-P) (Q : Int)) = b2 at *
  generalize rS (flQ (-P) (Q : Int)) = s2 at *
  generalize rB (-P) = b3 at *
  generalize rS (-P) = s3 at *
  generalize rB P = b4 at *
  generalize rS P = s4 at *
  generalize str (dec Q) = t at *
  have q0 := BB.out.now.2.1.cell
  have q1 := BB.out.now.2.1.cell1
  have q2 := BB.out.now.2.1.cell2
  clear hb hs hz h1 h2 hQ
  go_enter Tryz.func74, Tryz.ntmps74
  go_wp2_with fail
  go_at_call 70
  (with_reducible refine (MN.out _).mono ?_)
  rintro e w2 ⟨rfl, hb2⟩
  have BB := Lib.hid (BB.out.go hb2)
  go_wp2_with fail
  go_at_call 75
  (with_reducible refine (FL.out _).mono ?_)
  rintro e w3 ⟨rfl, hb3⟩
  have BB := Lib.hid (BB.out.go hb3)
  go_wp2_with fail
  go_at_call 130
  (with_reducible refine (MZ.out _).mono ?_)
  rintro e w4 ⟨rfl, hb4⟩
  have BB := Lib.hid (BB.out.go hb4)
  have hs := BB.out.now.1
  have hc := hs.cell
  have hc1 := hs.cell1
  have hf := hs.free
  have hf1 := hs.free1
  have HS := hs.set (.bool b) (.string s)
  have HE := Lib.hid (HF.out _ b s BB.out.below HB.out.1 HB.out.2)
  unfold put2 at HE
  clear hs
  go_wp2
  exact bodyPost_ret (v := .agg #[.bool b, .string s]) (by simp [results, Tryz.results74, go_sem, HS]) rfl HE.out
end Go.Proofs.YtnpoakaffafdiaaGreatDoor

namespace Go.Proofs.YtnpoakaffafdiaaGreatDoor
open Go.RowKit
attribute [local go_sem ↓] Go.wp_at_zero Go.wp_at_succ
set_option linter.unusedVariables false
set_option linter.unusedSimpArgs false
/-- A number as digits, and an error. -/
def NumTold4 (w w' : World) (e : Ending) (P : Int) (Q : Nat) (E : Int) : Prop := e = .returned (.tuple #[.agg #[.bool (rB P), .string (rS P), .string (str (dec Q))], .int .i64 E]) ∧ Below w.heap.size w w'
theorem NumTold4.done {w w2 : World} {k : Nat} (P : Int) (Q : Nat) (E : Int) (hb : Below w.heap.size w w2) (hk : w.heap.size ≤ k) {b : Bool} {s t : ByteArray} (h1 : rB P = b) (h2 : rS P = s) (h3 : str (dec Q) = t) :
    NumTold4 w (((w2.setCell ⟨k, 0, none⟩ (.bool b)).setCell ⟨k, 1, none⟩ (.string s)).setCell ⟨k, 2, none⟩ (.string t)) (.returned (.tuple #[.agg #[.bool b, .string s, .string t], .int .i64 E])) P Q E :=
  ⟨by rw [h1, h2, h3], ((hb.setCell hk _).setCell hk _).setCell hk _⟩
theorem dec_same (a b : Nat) : ((str (dec a)).toList == (str (dec b)).toList) = decide (a = b) := by
  rw [ByteArray.toList_eq, ByteArray.toList_eq, str_toList, str_toList]
  by_cases h : a = b
  · subst h
    rw [decide_eq_true rfl, beq_self_eq_true]
  · rw [decide_eq_false h, beq_eq_false_iff_ne]
    intro e
    refine h ?_
    have := congrArg numOf e
    rw [numOf_dec, numOf_dec] at this
    exact this
/-- Within so many limbs. -/
def wE (P : Int) (Q : Nat) (l : Int) : Int := if l < limZ P Q then 26 else 0
def wP (P : Int) (Q : Nat) (l : Int) : Int := if l < limZ P Q then 0 else P
def wQ (P : Int) (Q : Nat) (l : Int) : Nat := if l < limZ P Q then 1 else Q
theorem o_w {c P : Int} {Q : Nat} {l : Int} (hc : hasB c = true) (h : c ≠ 126) (hn : aN c P Q = true) : oP c P Q l = wP (aP c P Q) (aQ c P Q) l ∧ oQ c P Q l = wQ (aP c P Q) (aQ c P Q) l ∧ oE c P Q l = wE (aP c P Q) (aQ c P Q) l := by
  have e : oE c P Q l = wE (aP c P Q) (aQ c P Q) l := by
    unfold oE wE
    rw [hc, if_neg (by decide), if_neg h, hn, if_neg (by decide)]
  refine ⟨?_, ?_, e⟩
  · unfold oP wP
    rw [e]
    unfold wE
    split
    · rw [if_neg (by decide)]
    · rw [if_pos rfl]
  · unfold oQ wQ
    rw [e]
    unfold wE
    split
    · rw [if_neg (by decide)]
    · rw [if_pos rfl]
theorem o_no {c P : Int} {Q : Nat} {l : Int} (hc : hasB c = true) (h : c ≠ 126) (hn : aN c P Q = false) : oP c P Q l = 0 ∧ oQ c P Q l = 1 ∧ oE c P Q l = 22 := by
  have e : oE c P Q l = 22 := by
    unfold oE
    rw [hc, if_neg (by decide), if_neg h, hn, if_pos rfl]
  unfold oP oQ
  rw [e, if_neg (by decide), if_neg (by decide)]
  exact ⟨rfl, rfl, rfl⟩
set_option maxHeartbeats 3200000 in
set_option maxRecDepth 100000 in
theorem rhas12_any (c : Int) (w : World) : Calls Tryz.prog 28 #[.int .i32 c] w fun e w' => e = .returned (.bool (hasB c)) ∧ Below w.heap.size w w' := by
  have HE := Lib.hid (Below.refl w.heap.size w)
  by_cases h : (c = 43 ∨ c = 45 ∨ c = 124 ∨ c = 42 ∨ c = 33 ∨ c = 126 ∨ c = 215 ∨ c = 247 ∨ c = 8968 ∨ c = 8970 ∨ c = 9055 ∨ c = 9675)
  · rw [show hasB c = true from decide_eq_true h]
    rcases h with rfl | rfl | rfl | rfl | rfl | rfl | rfl | rfl | rfl | rfl | rfl | rfl
    all_goals
      go_enter Tryz.func28, Tryz.ntmps28
      go_wp2
      go_ret
      exact ⟨rfl, HE.out⟩
  · rw [show hasB c = false from decide_eq_false h]
    have hh : (c == 43) = false ∧ (c == 45) = false ∧ (c == 124) = false ∧ (c == 42) = false ∧ (c == 33) = false ∧ (c == 126) = false ∧ (c == 215) = false ∧ (c == 247) = false ∧ (c == 8968) = false ∧ (c == 8970) = false ∧ (c == 9055) = false ∧ (c == 9675) = false := by
      refine ⟨?_, ?_, ?_, ?_, ?_, ?_, ?_, ?_, ?_, ?_, ?_, ?_⟩ <;> (rw [beq_eq_false_iff_ne]; omega)
    obtain ⟨h43, h45, h124, h42, h33, h126, h215, h247, h8968, h8970, h9055, h9675⟩ := hh
    clear h
    go_enter Tryz.func28, Tryz.ntmps28
    go_wp2
    go_ret
    exact ⟨rfl, HE.out⟩
theorem num_zero : rB 0 = false ∧ rS 0 = ⟨#[48]⟩ ∧ str (dec 1) = ⟨#[49]⟩ := ⟨rfl, dec0, dec1⟩
set_option maxHeartbeats 3200000 in
set_option maxRecDepth 100000 in
theorem rwithin_any (P : Int) (Q : Nat) (l : Int) (w : World) (E : Nat) (hE : E ≤ 200) (hl1 : dl P.natAbs ≤ 1000) (hl2 : dl Q ≤ 1000) (h1 : P.natAbs < 65536 ^ E) (h2 : Q < 65536 ^ E) :
    Calls Tryz.prog 69 #[.agg #[.bool (rB P), .string (rS P), .string (str (dec Q))], .int .i64 l] w fun e w' => NumTold4 w w' e (wP P Q l) (wQ P Q l) (wE P Q l) := by
  have LM : Hid (∀ wz, Calls Tryz.prog 128 #[.agg #[.bool (rB P), .string (rS P), .string (str (dec Q))]] wz fun e w' => e = .returned (.int .i64 (limZ P Q)) ∧ Below wz.heap.size wz w') := Lib.hid (fun wz => by
    have := r3Limbs_any (rB P) P Q E wz hl1 hl2 hE h1 h2
    rw [show (((max ((nbits P.natAbs + 31) / 32) ((nbits Q + 31) / 32) : Nat)) : Int) = limZ P Q by
      show (((max (lbs P.natAbs) (lbs Q) : Nat)) : Int) = max (lbs P.natAbs : Int) (lbs Q : Int)
      omega] at this
    exact this)
  by_cases hlt : l < limZ P Q
  · rw [show wP P Q l = 0 from if_pos hlt, show wQ P Q l = 1 from if_pos hlt, show wE P Q l = 26 from if_pos hlt]
    have HF : Hid (∀ w2, Below w.heap.size w w2 → NumTold4 w (((w2.setCell ⟨w.heap.size + 1, 0, none⟩ (.bool false)).setCell ⟨w.heap.size + 1, 1, none⟩ (.string ⟨#[48]⟩)).setCell ⟨w.heap.size + 1, 2, none⟩ (.string ⟨#[49]⟩)) (.returned (.tuple #[.agg #[.bool false, .string ⟨#[48]⟩, .string ⟨#[49]⟩], .int .i64 26])) 0 1 26) := Lib.hid (fun w2 hb => NumTold4.done (k := w.heap.size + 1) 0 1 26 hb (by omega) num_zero.1 num_zero.2.1 num_zero.2.2)
    have ZE := Lib.hid (fun wz => r3Zero_any wz)
    unfold NumTold at ZE
    rw [num_zero.1, num_zero.2.1, num_zero.2.2] at ZE
    obtain ⟨LZ, hLZ⟩ : ∃ z, limZ P Q = z := ⟨_, rfl⟩
    rw [hLZ] at LM hlt
    clear hLZ
    clear hE hl1 hl2 h1 h2
    generalize rB P = b at *
    generalize rS P = s at *
    generalize str (dec Q) = q at *
    have BB := Lib.hid (((Bag.start w).box3 (.bool b) (.string s) (.string q) 53).box3 (.bool false) (.string ⟨#[]⟩) (.string ⟨#[]⟩) 53)
    simp only [World.size_alloc] at BB
    have r0 := BB.out.now.2.1.cell
    have r1 := BB.out.now.2.1.cell1
    have r2 := BB.out.now.2.1.cell2
    go_enter Tryz.func69, Tryz.ntmps69
    go_wp2_with fail
    go_at_call 128
    (with_reducible refine (LM.out _).mono ?_)
    rintro e w2 ⟨rfl, hb2⟩
    have BB := Lib.hid (BB.out.go hb2)
    clear hb2
    go_wp2_with fail
    go_at_call 68
    (with_reducible refine (ZE.out _).mono ?_)
    rintro e w3 ⟨rfl, hb3⟩
    have BB := Lib.hid (BB.out.go hb3)
    clear hb3
    have hs := BB.out.now.1
    have u0 := hs.cell
    have u1 := hs.cell1
    have u2 := hs.cell2
    have g0 := hs.free
    have g1 := hs.free1
    have g2 := hs.free2
    have HS := hs.set (.bool false) (.string ⟨#[48]⟩) (.string ⟨#[49]⟩)
    have HE := Lib.hid (HF.out _ BB.out.below)
    clear hs
    go_wp2
    exact bodyPost_ret (v := .tuple #[.agg #[.bool false, .string ⟨#[48]⟩, .string ⟨#[49]⟩], .int .i64 26]) (by simp [results, Tryz.results69, go_sem, HS]) rfl HE.out
  · rw [show wP P Q l = P from if_neg hlt, show wQ P Q l = Q from if_neg hlt, show wE P Q l = 0 from if_neg hlt]
    have HF := Lib.hid (fun w2 (hb : Below w.heap.size w w2) => NumTold4.done (k := w.heap.size + 1) P Q 0 hb (by omega) rfl rfl rfl)
    obtain ⟨LZ, hLZ⟩ : ∃ z, limZ P Q = z := ⟨_, rfl⟩
    rw [hLZ] at LM hlt
    clear hLZ
    clear hE hl1 hl2 h1 h2
    generalize rB P = b at *
    generalize rS P = s at *
    generalize str (dec Q) = q at *
    have BB := Lib.hid (((Bag.start w).box3 (.bool b) (.string s) (.string q) 53).box3 (.bool false) (.string ⟨#[]⟩) (.string ⟨#[]⟩) 53)
    simp only [World.size_alloc] at BB
    have r0 := BB.out.now.2.1.cell
    have r1 := BB.out.now.2.1.cell1
    have r2 := BB.out.now.2.1.cell2
    go_enter Tryz.func69, Tryz.ntmps69
    go_wp2_with fail
    go_at_call 128
    (with_reducible refine (LM.out _).mono ?_)
    rintro e w2 ⟨rfl, hb2⟩
    have BB := Lib.hid (BB.out.go hb2)
    clear hb2
    have r0 := BB.out.now.2.1.cell
    have r1 := BB.out.now.2.1.cell1
    have r2 := BB.out.now.2.1.cell2
    have hs := BB.out.now.1
    have u0 := hs.cell
    have u1 := hs.cell1
    have u2 := hs.cell2
    have g0 := hs.free
    have g1 := hs.free1
    have g2 := hs.free2
    have HS := hs.set (.bool b) (.string s) (.string q)
    have HE := Lib.hid (HF.out _ BB.out.below)
    clear hs
    go_wp2
    exact bodyPost_ret (v := .tuple #[.agg #[.bool b, .string s, .string q], .int .i64 0]) (by simp [results, Tryz.results69, go_sem, HS]) rfl HE.out
theorem big10 {N m : Nat} (h : N < 4294967296 ^ m) : N < 10 ^ (10 * m) := by
  refine Nat.lt_of_lt_of_le h ?_
  rw [Nat.pow_mul]
  exact Nat.pow_le_pow_left (by decide) _
theorem fac_dl {k m : Nat} (h : fac k < 4294967296 ^ m) (hk : k ≤ 3000) : dl (fac k) ≤ 10 * m + 1 ∧ dl (fac (k + 1)) ≤ 10 * m + 4 ∧ fac (k + 1) < 65536 ^ (2 * m + 2) := by
  have h1 := big10 h
  refine ⟨dl_le _ _ (by omega) (Nat.lt_of_lt_of_le h1 (Nat.pow_le_pow_right (by omega) (by omega))), dl_le _ _ (by omega) ?_, ?_⟩
  · show fac k * (k + 1) < 10 ^ (10 * m + 4)
    rw [Nat.pow_add]
    exact Nat.mul_lt_mul'' h1 (by omega)
  · show fac k * (k + 1) < 65536 ^ (2 * m + 2)
    rw [Nat.pow_add, Nat.pow_mul]
    exact Nat.mul_lt_mul'' (show fac k < (65536 ^ 2) ^ m from h) (by omega)
/-- One factorial that is too long: all further ones are. -/
theorem wfac_long {k N : Nat} {l : Int} (hk : k ≤ N) (h : l < lbs (fac k)) : wP (fac N : Nat) 1 l = 0 ∧ wQ (fac N : Nat) 1 l = 1 ∧ wE (fac N : Nat) 1 l = 26 := by
  have h1 := lbs_mono (fac_mono hk)
  have h2 := lbs_pos (fac_pos N)
  have h3 : l < limZ (fac N : Nat) 1 := by
    unfold limZ
    rw [Int.natAbs_natCast, lbs_one]
    omega
  unfold wP wQ wE
  rw [if_pos h3, if_pos h3, if_pos h3]
  exact ⟨rfl, rfl, rfl⟩
theorem rB_nat0 (N : Nat) : rB (N : Int) = false := by unfold rB; exact decide_eq_false (by omega)
theorem rS_nat0 (N : Nat) : rS (N : Int) = str (dec N) := by unfold rS; rw [Int.natAbs_natCast]
set_option maxHeartbeats 3200000 in
set_option maxRecDepth 100000 in
theorem rfac_any (N : Nat) (l : Int) (w : World) (hl : l ≤ 64) :
    Calls Tryz.prog 76 #[.agg #[.bool false, .string (str (dec N)), .string (str (dec 1))], .int .i64 l] w fun e w' => NumTold4 w w' e (wP (fac N : Nat) 1 l) (wQ (fac N : Nat) 1 l) (wE (fac N : Nat) 1 l) := by
  obtain ⟨m, hm64⟩ : ∃ m, m = 64 := ⟨_, rfl⟩
  have AD : Hid (∀ k, k ≤ 3000 → ∀ wz, Calls Tryz.prog 133 #[.string (str (dec k)), .string ⟨#[49]⟩] wz fun e w' => e = .returned (.string (str (dec (k + 1)))) ∧ Below wz.heap.size wz w') := Lib.hid (fun k (hk : k ≤ 3000) wz => radd_any k (dl k) 1 1 wz (dl_lt k) (by omega) (by have := dl_mono hk; have : dl 3000 ≤ 4 := dl_le _ _ (by omega) (by decide); omega) (by omega))
  have ML : Hid (∀ k, fac k < 4294967296 ^ m → k ≤ 3000 → ∀ wz, Calls Tryz.prog 134 #[.string (str (dec (fac k))), .string (str (dec (k + 1)))] wz fun e w' => e = .returned (.string (str (dec (fac (k + 1))))) ∧ Below wz.heap.size wz w') := Lib.hid (fun k (h : fac k < 4294967296 ^ m) (hk : k ≤ 3000) wz => rmul_any (fac k) (dl (fac k)) (k + 1) (dl (k + 1)) wz (dl_lt _) (dl_lt _) (by have := (fac_dl h hk).1; omega) (by have := dl_mono (show k + 1 ≤ 3001 by omega); have : dl 3001 ≤ 4 := dl_le _ _ (by omega) (by decide); omega))
  have LB : Hid (∀ k, fac k < 4294967296 ^ m → k ≤ 3000 → ∀ wz, Calls Tryz.prog 135 #[.string (str (dec (fac (k + 1))))] wz fun e w' => e = .returned (.int .i64 (lbs (fac (k + 1)) : Nat)) ∧ Below wz.heap.size wz w') := Lib.hid (fun k (h : fac k < 4294967296 ^ m) (hk : k ≤ 3000) wz => rlimbs_any (fac (k + 1)) (2 * m + 2) wz (by have := (fac_dl h hk).2.1; omega) (by omega) (fac_dl h hk).2.2)
  have WI : Hid (∀ (h : fac N < 4294967296 ^ m) (hk : N ≤ 3000) wz, Calls Tryz.prog 69 #[.agg #[.bool false, .string (str (dec (fac N))), .string (str (dec 1))], .int .i64 l] wz fun e w' => NumTold4 wz w' e (wP (fac N : Nat) 1 l) (wQ (fac N : Nat) 1 l) (wE (fac N : Nat) 1 l)) := Lib.hid (fun h hk wz => by
    have := rwithin_any (fac N : Nat) 1 l wz (2 * m + 2) (by omega) (by rw [Int.natAbs_natCast]; have := (fac_dl h hk).1; omega) (by rw [dl_one]; omega) (by rw [Int.natAbs_natCast]; exact Nat.lt_of_le_of_lt (fac_mono (Nat.le_succ N)) (fac_dl h hk).2.2) (Nat.one_lt_pow (by omega) (by omega))
    rw [rB_nat0, rS_nat0] at this
    exact this)
  have HL := Lib.hid (fun k (hk : k ≤ N) (h : l < lbs (fac k)) => wfac_long hk h)
  have HZ : Hid (∀ w2, Below w.heap.size w w2 → wP (fac N : Nat) 1 l = 0 ∧ wQ (fac N : Nat) 1 l = 1 ∧ wE (fac N : Nat) 1 l = 26 → NumTold4 w (((w2.setCell ⟨w.heap.size + 1, 0, none⟩ (.bool false)).setCell ⟨w.heap.size + 1, 1, none⟩ (.string ⟨#[48]⟩)).setCell ⟨w.heap.size + 1, 2, none⟩ (.string ⟨#[49]⟩)) (.returned (.tuple #[.agg #[.bool false, .string ⟨#[48]⟩, .string ⟨#[49]⟩], .int .i64 26])) (wP (fac N : Nat) 1 l) (wQ (fac N : Nat) 1 l) (wE (fac N : Nat) 1 l)) := Lib.hid (fun w2 hb h => by
    rw [h.1, h.2.1, h.2.2]
    exact NumTold4.done (k := w.heap.size + 1) 0 1 26 hb (by omega) num_zero.1 num_zero.2.1 num_zero.2.2)
  have HY : Hid (∀ w2, Below w.heap.size w w2 → NumTold4 w (((w2.setCell ⟨w.heap.size + 1, 0, none⟩ (.bool (rB (wP (fac N : Nat) 1 l)))).setCell ⟨w.heap.size + 1, 1, none⟩ (.string (rS (wP (fac N : Nat) 1 l)))).setCell ⟨w.heap.size + 1, 2, none⟩ (.string (str (dec (wQ (fac N : Nat) 1 l))))) (.returned (.tuple #[.agg #[.bool (rB (wP (fac N : Nat) 1 l)), .string (rS (wP (fac N : Nat) 1 l)), .string (str (dec (wQ (fac N : Nat) 1 l)))], .int .i64 (wE (fac N : Nat) 1 l)])) (wP (fac N : Nat) 1 l) (wQ (fac N : Nat) 1 l) (wE (fac N : Nat) 1 l)) := Lib.hid (fun w2 hb => NumTold4.done (k := w.heap.size + 1) _ _ _ hb (by omega) rfl rfl rfl)
  have HD := Lib.hid (fun a => dec_same a N)
  have D0 : Hid (str (dec 0) = ⟨#[48]⟩ ∧ str (dec 1) = ⟨#[49]⟩ ∧ str (dec (fac 0)) = ⟨#[49]⟩) := Lib.hid ⟨dec0, dec1, dec1⟩
  unfold NumTold4 at WI
  have ZE := Lib.hid (fun wz => r3Zero_any wz)
  unfold NumTold at ZE
  rw [num_zero.1, num_zero.2.1, num_zero.2.2] at ZE
  generalize wP (fac N : Nat) 1 l = WP at *
  generalize wQ (fac N : Nat) 1 l = WQ at *
  generalize wE (fac N : Nat) 1 l = WE at *
  generalize rB WP = wb at *
  generalize rS WP = ws at *
  generalize str (dec WQ) = wq at *
  obtain ⟨D, hD⟩ : ∃ z, (fun k : Nat => str (dec k)) = z := ⟨_, rfl⟩
  have eD : ∀ k, str (dec k) = D k := fun k => by rw [← hD]
  simp only [eD] at AD ML LB WI HD D0 ⊢
  obtain ⟨dz0, dz1, dz2⟩ := D0.out
  have DZ := Lib.hid (And.intro dz0 dz2)
  rw [dz1] at WI ⊢
  have BB := Lib.hid (((Bag.start w).box3 (.bool false) (.string (D N)) (.string ⟨#[49]⟩) 53).box3 (.bool false) (.string ⟨#[]⟩) (.string ⟨#[]⟩) 53)
  simp only [World.size_alloc] at BB
  have r0 := BB.out.now.2.1.cell
  have r1 := BB.out.now.2.1.cell1
  have r2 := BB.out.now.2.1.cell2
  have HM := Lib.hid hm64
  clear hD eD D0 dz0 dz1 dz2 hm64
  go_enter Tryz.func76, Tryz.ntmps76
  go_wp2_with fail
  generalize hW : ((w.alloc (.cells _ 53)).alloc (.cells _ 53)) = y0 at *
  clear hW
  obtain ⟨M9, hM9⟩ : ∃ z : Nat, 3000 ≤ z := ⟨3000, Nat.le_refl _⟩
  have HM9 := Lib.hid hM9
  clear hM9
  go_loopw [6, 7, 8] (fun s i kk wr => ∃ k : Nat, k ≤ N ∧ k ≤ 2050 ∧ s = .string (D (fac k)) ∧ i = .string (D k) ∧ kk = .int .i64 k ∧ Hid (k = 0 ∨ lbs (fac k) ≤ l) ∧ Hid (Below y0.heap.size y0 wr)) (fun _ _ kk _ => M9 - (intOf kk).toNat)
  case atStart => exact ⟨0, by omega, by omega, by rw [DZ.out.2], by rw [DZ.out.1], rfl, .inl rfl, Below.refl _ _⟩
  case round =>
    obtain ⟨k, hkN, hk2, rfl, rfl, rfl, hkl, hbr⟩ := hrel
    have BB := Lib.hid (BB.out.go hbr.out)
    have HK : Hid (∀ h : (k = 0 ∨ lbs (fac k) ≤ l), fac k < 4294967296 ^ m) := Lib.hid (fun h => lbs_le32.1 (by
      have hm64 := HM.out
      rcases h with h | h
      · rw [h]
        show lbs 1 ≤ m
        rw [lbs_one]
        omega
      · omega))
    have hk3 : k ≤ 2049 := by
      rcases hkl.out with h | h
      · omega
      · have := fac_lim (n := k) (by omega)
        omega
    have hk5 : (k : Int) < 100000 := by omega
    have r0 := BB.out.now.2.1.cell
    have r1 := BB.out.now.2.1.cell1
    have r2 := BB.out.now.2.1.cell2
    have HBR := Lib.hid hbr.out
    clear hbr
    by_cases hk : k = N
    · subst hk
      have hd : ((D k).toList == (D k).toList) = true := beq_self_eq_true _
      have WK := Lib.hid (fun wz => WI.out (HK.out hkl.out) (by omega) wz)
      clear hkl WI HK hkN
      go_wp2_with fail
      go_at_call 69
      (with_reducible refine (WK.out _).mono ?_)
      rintro e w2 ⟨rfl, hb2⟩
      have BB := Lib.hid (BB.out.go hb2)
      clear hb2
      have hs := BB.out.now.1
      have u0 := hs.cell
      have u1 := hs.cell1
      have u2 := hs.cell2
      have g0 := hs.free
      have g1 := hs.free1
      have g2 := hs.free2
      have HS := hs.set (.bool wb) (.string ws) (.string wq)
      have HE := Lib.hid (HY.out _ BB.out.below)
      clear hs
      go_wp2
      exact bodyPost_ret (v := .tuple #[.agg #[.bool wb, .string ws, .string wq], .int .i64 WE]) (by simp [results, Tryz.results76, go_sem, HS]) rfl HE.out
    · have hd : ((D k).toList == (D N).toList) = false := by rw [HD.out k, decide_eq_false hk]
      have A1 := Lib.hid (fun wz => AD.out k (by omega) wz)
      have M1 := Lib.hid (fun wz => ML.out k (HK.out hkl.out) (by omega) wz)
      have L1 := Lib.hid (fun wz => LB.out k (HK.out hkl.out) (by omega) wz)
      obtain ⟨lk, hlk⟩ : ∃ z, lbs (fac (k + 1)) = z := ⟨_, rfl⟩
      rw [hlk] at L1
      clear hkl
      go_wp2_with fail
      go_at_call 133
      (with_reducible refine (A1.out _).mono ?_)
      rintro e w2 ⟨rfl, hb2⟩
      have BB := Lib.hid (BB.out.go hb2)
      have HBR := Lib.hid (HBR.out.trans (hb2.mono HBR.out.size))
      clear hb2
      go_wp2_with fail
      go_at_call 134
      (with_reducible refine (M1.out _).mono ?_)
      rintro e w3 ⟨rfl, hb3⟩
      have BB := Lib.hid (BB.out.go hb3)
      have HBR := Lib.hid (HBR.out.trans (hb3.mono HBR.out.size))
      clear hb3
      go_wp2_with fail
      go_at_call 135
      (with_reducible refine (L1.out _).mono ?_)
      rintro e w4 ⟨rfl, hb4⟩
      have BB := Lib.hid (BB.out.go hb4)
      have HBR := Lib.hid (HBR.out.trans (hb4.mono HBR.out.size))
      clear hb4 r0 r1 r2
      by_cases hlt : l < (lk : Int)
      · have HQ := Lib.hid (HL.out (k + 1) (by omega) (by rw [hlk]; exact hlt))
        clear hlk
        go_wp2_with fail
        go_at_call 68
        (with_reducible refine (ZE.out _).mono ?_)
        rintro e w6 ⟨rfl, hb6⟩
        have BB := Lib.hid (BB.out.go hb6)
        clear hb6
        have hs := BB.out.now.1
        have u0 := hs.cell
        have u1 := hs.cell1
        have u2 := hs.cell2
        have g0 := hs.free
        have g1 := hs.free1
        have g2 := hs.free2
        have HS := hs.set (.bool false) (.string ⟨#[48]⟩) (.string ⟨#[49]⟩)
        have HE := Lib.hid (HZ.out _ BB.out.below HQ.out)
        clear hs
        go_wp2
        exact bodyPost_ret (v := .tuple #[.agg #[.bool false, .string ⟨#[48]⟩, .string ⟨#[49]⟩], .int .i64 26]) (by simp [results, Tryz.results76, go_sem, HS]) rfl HE.out
      · have HQ := Lib.hid (show lbs (fac (k + 1)) ≤ l by rw [hlk]; omega)
        have HKB := Lib.hid (show k + 1 ≤ N ∧ k ≤ 2049 by omega)
        have hd9 : decide (l < (lk : Int)) = false := decide_eq_false hlt
        have hw := IntWalk.wrap64_in ((k : Int) + 1) (by omega)
        clear hlk hk hkN A1 M1 L1 WI HZ HY HL HD AD ML LB ZE HK hlt hd hk2 hk3 hk5 hl
        go_wp2_with fail
        go_roundw
        case rel => exact ⟨k + 1, HKB.out.1, by have := HKB.out.2; omega, rfl, rfl, by go_num, .inr HQ.out, HBR.out⟩
        case measure =>
          have := HKB.out.2
          have := HM9.out
          rw [hw]
          simp [intOf]
          omega
end Go.Proofs.YtnpoakaffafdiaaGreatDoor
