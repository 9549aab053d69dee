/-
  The document's answers (package typeballref01): Mul, by contract.
-/
import Derived.Deep.QuietTactic
import Derived.BigQuiet
import Derived.IntWalk
import Derived.Test.YtkjdoknmmiaapaaDoorRef6
namespace Go.Proofs.YtkjdoknmmiaapaaDoor
open Go.RowKit

theorem quietL {P : Program} {f : FuncId} {args : Array Value} {w : World} {n : Nat} {v : Value}
    (h : Calls P f args (w.drewN n) fun e w' => e = .returned v ∧ w.drewN n = w') : Calls P f args (w.drewN n) fun e w'' => e = .returned v ∧ ∃ m, w'' = w.drewN m :=
  h.mono fun _ _ ⟨he, hm⟩ => ⟨he, n, hm.symm⟩

theorem d10_le_self (Z p : Nat) : d10 Z p * 10 ^ p ≤ Z := by
  have h1 : d10 Z p ≤ Z / 10 ^ p := Nat.mod_le _ _
  exact Nat.le_trans (Nat.mul_le_mul_right _ h1) (Nat.div_mul_le_self _ _)

theorem mulJ_start {x y i Z : Nat} (h : Z = x % 10 ^ i * y) : MulJ x y i 0 0 Z := by
  unfold MulJ; simp [Nat.mod_one, h]

theorem mulJ_full {x y i j m c Z : Nat} (h : MulJ x y i j c Z) (hj : m ≤ j) (hy : y < 10 ^ m) : Z + c * 10 ^ (i + j) = x % 10 ^ (i + 1) * y := by
  unfold MulJ at h
  have hy2 : y % 10 ^ j = y := Nat.mod_eq_of_lt (Nat.lt_of_lt_of_le hy (Nat.pow_le_pow_right (by omega) hj))
  rw [hy2] at h
  rw [h, mod_step, Nat.add_mul, Nat.mul_right_comm (d10 x i) y, Nat.mul_comm (d10 x i) (10 ^ i)]

theorem mulJ_last {x y i m c Z : Nat} (h : MulJ x y i (m + 1) c Z) (hy : y < 10 ^ m) : c = 0 := by
  have e := mulJ_full h (by omega) hy
  have h1 : x % 10 ^ (i + 1) < 10 ^ (i + 1) := Nat.mod_lt _ (Nat.pow_pos (by omega))
  have h2 : x % 10 ^ (i + 1) * y ≤ x % 10 ^ (i + 1) * 10 ^ m := Nat.mul_le_mul_left _ (Nat.le_of_lt hy)
  have h3 : x % 10 ^ (i + 1) * 10 ^ m < 10 ^ (i + 1) * 10 ^ m := Nat.mul_lt_mul_of_pos_right h1 (Nat.pow_pos (by omega))
  rw [← Nat.pow_add, show i + 1 + m = i + (m + 1) by omega] at h3
  rcases Nat.eq_zero_or_pos c with h0 | h0
  · exact h0
  · have h4 : 1 * 10 ^ (i + (m + 1)) ≤ c * 10 ^ (i + (m + 1)) := Nat.mul_le_mul_right _ h0
    omega

theorem mul_small {a b : Nat} (h : a < 10) (h2 : b < 10) : a * b ≤ 81 :=
  Nat.le_trans (Nat.mul_le_mul (Nat.le_of_lt_succ h) (Nat.le_of_lt_succ h2)) (by omega)

set_option maxHeartbeats 2000000 in
set_option maxRecDepth 100000 in
theorem rmul_any (x n y m : Nat) (w : World) (hx : x < 10 ^ n) (hy : y < 10 ^ m) (hn : n ≤ 2000) (hm : m ≤ 2000) :
    Calls Tryd.prog 41 #[.string (str (sdig x n)), .string (str (sdig y m))] w fun e w' => e = .returned (.string (str (dec (x * y)))) ∧ Below w.heap.size w w' := by
  have DX := Lib.hid (fun i (h : i ≤ 100000000) wz => digit_any x n i wz hx (by omega) h)
  have DY := Lib.hid (fun i (h : i ≤ 100000000) wz => digit_any y m i wz hy (by omega) h)
  have hs1 : (str (sdig x n)).size = n := by rw [str_size, sdig_length]
  have hs2 : (str (sdig y m)).size = m := by rw [str_size, sdig_length]
  generalize str (sdig x n) = s at *
  generalize str (sdig y m) = t at *
  subst hs1
  subst hs2
  obtain ⟨L1, hL1⟩ : ∃ L1, s.size + t.size = L1 := ⟨_, rfl⟩
  obtain ⟨L, hL⟩ : ∃ L, L1 + 1 = L := ⟨_, rfl⟩
  have e1 : (s.size : Int) + (t.size : Int) = (L1 : Int) := by omega
  have e2 : (L1 : Int) + 1 = (L : Int) := by omega
  obtain ⟨z, hz, hmk⟩ := make_ints L (by omega)
  have H0 : ArrI w (w.alloc (.cells z.toArray 3)) w.heap.size L 0 := by
    have hh := heap_new w (.cells z.toArray 3)
    refine ⟨(Below.refl _ _).alloc (Nat.le_refl _) _, Nat.le_refl _, by rw [World.size_alloc]; omega, Free.of_block hh, Cells.of_block hh (fun j hj => ?_)⟩
    rw [hz j hj]; simp [d10]
  have HX := Lib.hid hx
  have HY := Lib.hid hy
  have HL : Hid (L = s.size + t.size + 1) := by show _ = _; omega
  have hLl : L ≤ 4001 := by omega
  have HA0 := Lib.hid H0
  have HZ0 : Hid (0 = x % 10 ^ 0 * y) := by show _ = _; simp [Nat.mod_one]
  clear hx hy hz hL1 hL H0
  go_enter Tryd.func41, Tryd.ntmps41
  go_wp2
  go_loopw [6] (fun i wr => ∃ (k Z : Nat), k ≤ s.size ∧ i = .int .i64 k ∧ Hid (Z = x % 10 ^ k * y) ∧ ArrI w wr w.heap.size L Z)
    (fun i _ => 2001 - (intOf i).toNat)
  case atStart => exact ⟨0, 0, by omega, rfl, HZ0.out, HA0.out⟩
  case round =>
    obtain ⟨k, Z, hk, rfl, hZ, hr⟩ := hrel
    by_cases hlt : k < s.size
    · have HJ0 : Hid (MulJ x y k 0 0 Z) := mulJ_start hZ.out
      have HR := Lib.hid hr
      have d0 : decide ((k : Int) < (s.size : Int)) = true := decide_eq_true (by omega)
      obtain ⟨dx, hdx⟩ : ∃ dx, d10 x k = dx := ⟨_, rfl⟩
      have CX := DX.out k (by omega)
      rw [hdx] at CX
      have hdxl : dx < 10 := by rw [← hdx]; exact Nat.mod_lt _ (by omega)
      have CX' := Lib.hid CX
      have HDX := Lib.hid hdx
      obtain ⟨wo, hwo⟩ : ∃ wo : World, wo = wr := ⟨_, rfl⟩
      clear CX hdx hr HA0 hwo
      go_wp2
      go_loopw [7, 8] (fun c j wi => ∃ (jj cc Y : Nat), jj ≤ t.size + 1 ∧ j = .int .i64 jj ∧ cc ≤ 9 ∧ c = .int .i64 cc ∧ Hid (MulJ x y k jj cc Y) ∧ ArrI w wi w.heap.size L Y)
        (fun _ j _ => 2002 - (intOf j).toNat)
      case atStart => exact ⟨0, 0, Z, by omega, rfl, by omega, rfl, HJ0.out, HR.out⟩
      case round =>
        obtain ⟨jj, cc, Y, hjj, rfl, hcc, rfl, hmj, hri⟩ := hrel
        by_cases hgo : jj < t.size ∨ 0 < cc
        · have hj1 : jj ≤ t.size := by
            rcases Nat.lt_or_ge t.size jj with h | h
            · obtain rfl : jj = t.size + 1 := by omega
              have := mulJ_last hmj.out HY.out
              omega
            · exact h
          obtain ⟨p, hp⟩ : ∃ p, k + jj = p := ⟨_, rfl⟩
          have hpL : p < L := by have := HL.out; omega
          have hcell := hri.row p hpL
          rw [Nat.zero_add] at hcell
          have hfree := hri.free p
          obtain ⟨d, hd⟩ : ∃ d, d10 Y p = d := ⟨_, rfl⟩
          rw [hd] at hcell
          have hdl : d < 10 := by rw [← hd]; exact d10_lt _ _
          obtain ⟨dy, hdy⟩ : ∃ dy, d10 y jj = dy := ⟨_, rfl⟩
          have hdyl : dy < 10 := by rw [← hdy]; exact d10_lt _ _
          have CY := DY.out jj (by omega)
          rw [hdy] at CY
          have CY' := Lib.hid CY
          obtain ⟨pr, hpr⟩ : ∃ pr, dx * dy = pr := ⟨_, rfl⟩
          have hprl : pr ≤ 81 := by rw [← hpr]; exact mul_small hdxl hdyl
          obtain ⟨u, hu⟩ : ∃ u, d + pr = u := ⟨_, rfl⟩
          obtain ⟨tt, htt⟩ : ∃ tt, u + cc = tt := ⟨_, rfl⟩
          have hsum : d10 Y (k + jj) + d10 x k * d10 y jj + cc = tt := by rw [hp, hd, HDX.out, hdy, hpr]; omega
          obtain ⟨r, hr1⟩ : ∃ r, tt % 10 = r := ⟨_, rfl⟩
          obtain ⟨q, hq1⟩ : ∃ q, tt / 10 = q := ⟨_, rfl⟩
          have hle := d10_le_self Y p
          obtain ⟨Y2, hY2⟩ : ∃ Y2, Y2 + d10 Y p * 10 ^ p = Y + r * 10 ^ p := ⟨Y + r * 10 ^ p - d10 Y p * 10 ^ p, by omega⟩
          have hrl : r < 10 := by omega
          have hst := mulJ_step (Y := Y2) hmj.out hsum (by rw [hp, hr1]; exact hY2)
          rw [hq1] at hst
          have HST := Lib.hid hst
          have HRN : Hid (∀ a, ArrI w ((wr.drewN a).setCell ⟨w.heap.size, p, none⟩ (.int .i64 r)) w.heap.size L Y2) := fun a => hri.set hpL hrl hY2 a
          have f0 : (dx : Int) * (dy : Int) = (pr : Int) := by rw [← hpr, Int.natCast_mul]
          have f1 : (d : Int) + (pr : Int) = (u : Int) := by omega
          have f2 : (u : Int) + (cc : Int) = (tt : Int) := by omega
          have f3 : (tt : Int) % 10 = (r : Int) := by omega
          have f4 : (tt : Int) / 10 = (q : Int) := by omega
          have f5 : (k : Int) + (jj : Int) = (p : Int) := by omega
          have hql : q ≤ 9 := by omega
          have g0 : IntKind.i64.wrap ((k : Int) + (jj : Int)) = (p : Int) := by rw [f5]; exact IntWalk.i64_in _ (by omega)
          have g1 : IntKind.i64.wrap ((dx : Int) * (dy : Int)) = (pr : Int) := by rw [f0]; exact IntWalk.i64_in _ (by omega)
          have g2 : IntKind.i64.wrap ((d : Int) + (pr : Int)) = (u : Int) := by rw [f1]; exact IntWalk.i64_in _ (by omega)
          have g3 : IntKind.i64.wrap ((u : Int) + (cc : Int)) = (tt : Int) := by rw [f2]; exact IntWalk.i64_in _ (by omega)
          have p0 : (0 : Int) ≤ (p : Int) := by omega
          have p1 : (p : Int) < (L : Int) := by omega
          have p2 : ((p : Int)).toNat = p := by omega
          have hjn : jj + 1 ≤ t.size + 1 := by omega
          have HGO := Lib.hid hgo
          have QX : Hid (∀ a, Calls Tryd.prog 81 #[.string s, .int .i64 k] (wr.drewN a) fun e w'' => e = .returned (.int .i64 dx) ∧ ∃ m, w'' = wr.drewN m) := fun a => quietL (CX'.out _)
          have QY : Hid (∀ a, Calls Tryd.prog 81 #[.string t, .int .i64 jj] (wr.drewN a) fun e w'' => e = .returned (.int .i64 dy) ∧ ∃ m, w'' = wr.drewN m) := fun a => quietL (CY'.out _)
          clear hst hsum hmj hri hd hdy hpr hu htt hr1 hq1 hle hY2 CY hp hgo
          by_cases c1 : jj < t.size
          all_goals
            first
              | have d1 : decide ((jj : Int) < (t.size : Int)) = true := decide_eq_true (by omega)
              | (have d1 : decide ((jj : Int) < (t.size : Int)) = false := decide_eq_false (by omega)
                 have hc0 : 0 < cc := by have := HGO.out; omega
                 have d2 : decide ((0 : Int) < (cc : Int)) = true := decide_eq_true (by omega))
            go_wp2_with fail
            go_quiet (first | (go_at_call 81; with_reducible exact QX.out _) | (go_at_call 81; with_reducible exact QY.out _))
            go_wp2
            go_roundw
            case rel => exact ⟨jj + 1, q, Y2, hjn, by go_num, hql, rfl, HST.out, HRN.out _⟩
            case measure => simp [intOf]; omega
        · have hjm : t.size ≤ jj := by omega
          obtain rfl : cc = 0 := by omega
          have hfull := mulJ_full hmj.out hjm HY.out
          rw [Nat.zero_mul, Nat.add_zero] at hfull
          have HF := Lib.hid hfull
          have HRI := Lib.hid hri
          have d1 : decide ((jj : Int) < (t.size : Int)) = false := decide_eq_false (by omega)
          have hk2 : k + 1 ≤ s.size := by omega
          clear hfull hri hmj hgo
          go_wp2
          go_roundw
          case rel => exact ⟨k + 1, Y, hk2, by go_num, HF.out, HRI.out⟩
          case measure => simp [intOf]; omega
    · obtain rfl : k = s.size := by omega
      have hxy : Z = x * y := by rw [hZ.out, Nat.mod_eq_of_lt HX.out]
      have hlim : x * y < 10 ^ L := by
        have h1 : x * y ≤ x * 10 ^ t.size := Nat.mul_le_mul_left _ (Nat.le_of_lt HY.out)
        have h2 : x * 10 ^ t.size < 10 ^ s.size * 10 ^ t.size := Nat.mul_lt_mul_of_pos_right HX.out (Nat.pow_pos (by omega))
        rw [← Nat.pow_add] at h2
        have h3 : 10 ^ (s.size + t.size) ≤ 10 ^ L := Nat.pow_le_pow_right (by omega) (by have := HL.out; omega)
        omega
      subst hxy
      have HW := Lib.hid (written_any (some ⟨w.heap.size, 0, none⟩) L L (d10 (x * y)) (x * y) wr ⟨Nat.le_refl _, by omega, fun j _ => d10_lt _ _, .inr ⟨_, 0, rfl, hr.lt, hr.row⟩⟩ (fun _ _ => rfl) hlim)
      have HB := Lib.hid hr.below
      have d0 : decide ((s.size : Int) < (s.size : Int)) = false := decide_eq_false (by omega)
      clear hr hZ hlim HZ0
      go_wp2_with (go_at_call 79; refine HW.out.mono ?_; rintro e w7 ⟨rfl, hb7⟩)
      go_ret
      exact ⟨rfl, HB.out.trans (hb7.mono HB.out.size)⟩

end Go.Proofs.YtkjdoknmmiaapaaDoor
