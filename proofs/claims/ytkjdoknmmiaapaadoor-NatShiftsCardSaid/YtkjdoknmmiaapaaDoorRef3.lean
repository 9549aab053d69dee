/-
  The document's answers (package typeballref01): Cmp, Sub, by contract.
-/
import Derived.Test.YtkjdoknmmiaapaaDoorRef2
namespace Go.Proofs.YtkjdoknmmiaapaaDoor
open Go.RowKit

theorem numOf_sdig (N : Nat) : ∀ n, numOf (sdig N n) = N % 10 ^ n
  | 0 => by simp [sdig, numOf, Nat.mod_one]
  | n + 1 => by
    rw [sdig, numOf, numOf_sdig N n, sdig_length, dgt_toNat, Nat.pow_succ, Nat.mod_mul]
    rw [Nat.add_sub_cancel_left, Nat.mul_comm (N / 10 ^ n % 10)]
    omega

theorem sdig_inj {x y n : Nat} (hx : x < 10 ^ n) (hy : y < 10 ^ n) (h : sdig x n = sdig y n) : x = y := by
  have := congrArg numOf h
  rw [numOf_sdig, numOf_sdig, Nat.mod_eq_of_lt hx, Nat.mod_eq_of_lt hy] at this
  exact this

theorem less_sdig (x y : Nat) : ∀ n, Op.bytesLess (sdig x n) (sdig y n) = decide (x % 10 ^ n < y % 10 ^ n)
  | 0 => by simp [sdig, Op.bytesLess, Nat.mod_one]
  | n + 1 => by
    rw [sdig, sdig, Op.bytesLess, less_sdig x y n, Nat.pow_succ, Nat.mod_mul, Nat.mod_mul]
    have hp : 0 < 10 ^ n := Nat.pow_pos (by omega)
    have hx := Nat.mod_lt x hp
    have hy := Nat.mod_lt y hp
    have e1 : (dgt x n < dgt y n) ↔ x / 10 ^ n % 10 < y / 10 ^ n % 10 := by
      rw [UInt8.lt_iff_toNat_lt, dgt_toNat, dgt_toNat]; omega
    have e2 : (dgt x n = dgt y n) ↔ x / 10 ^ n % 10 = y / 10 ^ n % 10 := by
      rw [← UInt8.toNat_inj, dgt_toNat, dgt_toNat]; omega
    generalize x / 10 ^ n % 10 = a at *
    generalize y / 10 ^ n % 10 = b at *
    generalize x % 10 ^ n = u at *
    generalize y % 10 ^ n = v at *
    generalize 10 ^ n = P at *
    rw [Bool.eq_iff_iff]
    simp only [Bool.or_eq_true, decide_eq_true_eq, Bool.and_eq_true, beq_iff_eq, e1, e2]
    rcases Nat.lt_trichotomy a b with h | h | h
    · have h3 := Nat.mul_le_mul_left P (show a + 1 ≤ b from h)
      rw [Nat.mul_add] at h3
      constructor
      · intro _; omega
      · intro _; exact .inl h
    · subst h
      constructor
      · rintro (h | ⟨_, h⟩) <;> omega
      · intro h; exact .inr ⟨rfl, by omega⟩
    · have h3 := Nat.mul_le_mul_left P (show b + 1 ≤ a from h)
      rw [Nat.mul_add] at h3
      constructor
      · rintro (h1 | ⟨h1, _⟩) <;> omega
      · intro h1; omega

theorem dl_mono_lt {x y : Nat} (h : dl x < dl y) : x < y := by
  have h1 := dl_lt x
  have hy : 0 < y := by
    rcases Nat.eq_zero_or_pos y with h0 | h0
    · subst h0
      have e : dl 0 = 1 := by unfold dl; rfl
      have := dl_pos x; omega
    · exact h0
  have h2 := dl_low hy
  have := Nat.pow_le_pow_right (show 0 < 10 by omega) (show dl x ≤ dl y - 1 by omega)
  omega

theorem rcmp_any (x y : Nat) (w : World) (hx : dl x ≤ 100000) (hy : dl y ≤ 100000) : Calls Tryd.prog 33 #[.string (str (dec x)), .string (str (dec y))] w fun e w' => e = .returned (.int .i64 (cmpI x y)) ∧ w = w' := by
  have hs1 : (str (dec x)).size = dl x := by rw [str_size]; exact sdig_length _ _
  have hs2 : (str (dec y)).size = dl y := by rw [str_size]; exact sdig_length _ _
  have ht1 : (str (dec x)).toList = dec x := by rw [ByteArray.toList_eq]; rfl
  have ht2 : (str (dec y)).toList = dec y := by rw [ByteArray.toList_eq]; rfl
  by_cases hl : dl x = dl y
  · have hle : dec y = sdig y (dl x) := by unfold dec; rw [hl]
    have hb : Op.bytesLess (str (dec x)).toList (str (dec y)).toList = decide (x < y) := by
      rw [ht1, ht2, hle]; unfold dec
      rw [less_sdig, Nat.mod_eq_of_lt (dl_lt x), Nat.mod_eq_of_lt (by rw [hl]; exact dl_lt y)]
    have heq : ((str (dec x)).toList == (str (dec y)).toList) = decide (x = y) := by
      rw [ht1, ht2, hle, Bool.eq_iff_iff, beq_iff_eq, decide_eq_true_eq]
      unfold dec
      exact ⟨fun h => sdig_inj (dl_lt x) (by rw [hl]; exact dl_lt y) h, fun h => by rw [h]⟩
    have hn : (((str (dec x)).size : Int) != ((str (dec y)).size : Int)) = false := by rw [hs1, hs2, hl]; simp
    have hss : (str (dec x)).size = (str (dec y)).size := by omega
    have hsb : (str (dec x)).size ≤ 100000 := by omega
    clear hs1 hs2 ht1 ht2 hle hl
    generalize str (dec x) = s at *
    generalize str (dec y) = t at *
    by_cases h1 : x = y
    · have hr : Hid (cmpI x y = 0) := by show _ = _; unfold cmpI; rw [if_neg (by omega), if_pos h1]
      rw [decide_eq_true h1] at heq
      clear hb hx hy h1
      have HSS := Lib.hid hss
      clear hss
      go_enter Tryd.func33, Tryd.ntmps33
      go_wp2
      go_ret
      exact ⟨ret_int hr.out.symm, rfl⟩
    · rw [decide_eq_false h1] at heq
      have HSS := Lib.hid hss
      clear hss
      by_cases h2 : x < y
      · have hr : Hid (cmpI x y = -1) := cmp_neg h2
        rw [decide_eq_true h2] at hb
        clear hx hy h1 h2
        go_enter Tryd.func33, Tryd.ntmps33
        go_wp2
        go_ret
        exact ⟨ret_int hr.out.symm, rfl⟩
      · have hr : Hid (cmpI x y = 1) := by show _ = _; unfold cmpI; rw [if_neg h2, if_neg h1]
        rw [decide_eq_false h2] at hb
        clear hx hy h1 h2
        go_enter Tryd.func33, Tryd.ntmps33
        go_wp2
        go_ret
        exact ⟨ret_int hr.out.symm, rfl⟩
  · have hn : (((str (dec x)).size : Int) != ((str (dec y)).size : Int)) = true := by rw [hs1, hs2]; simp; omega
    have hsb : (str (dec x)).size ≤ 100000 ∧ (str (dec y)).size ≤ 100000 := by omega
    have hne : ¬ (str (dec x)).size = (str (dec y)).size := by omega
    have hc : ((str (dec x)).size < (str (dec y)).size → cmpI x y = -1) ∧ (¬ (str (dec x)).size < (str (dec y)).size → cmpI x y = 1) := by
      rw [hs1, hs2]
      refine ⟨fun h => cmp_neg (dl_mono_lt h), fun h => ?_⟩
      have := dl_mono_lt (show dl y < dl x by omega)
      unfold cmpI; rw [if_neg (by omega), if_neg (by omega)]
    clear hs1 hs2 ht1 ht2 hl hx hy
    generalize str (dec x) = s at *
    generalize str (dec y) = t at *
    obtain ⟨hb1, hb2⟩ := hsb
    by_cases h : s.size < t.size
    · have hr := Lib.hid (hc.1 h)
      have d1 : decide ((s.size : Int) < (t.size : Int)) = true := decide_eq_true (by omega)
      clear hc hne
      go_enter Tryd.func33, Tryd.ntmps33
      go_wp2
      go_ret
      exact ⟨ret_int hr.out.symm, rfl⟩
    · have hr := Lib.hid (hc.2 h)
      have d1 : decide ((s.size : Int) < (t.size : Int)) = false := decide_eq_false (by omega)
      clear hc hne
      go_enter Tryd.func33, Tryd.ntmps33
      go_wp2
      go_ret
      exact ⟨ret_int hr.out.symm, rfl⟩

set_option maxHeartbeats 1600000 in
set_option maxRecDepth 100000 in
theorem rsub_any (x n y m : Nat) (w : World) (hx : x < 10 ^ n) (hy : y < 10 ^ m) (hn : n ≤ 1000) (hm : m ≤ 1000) (hxy : y ≤ x) :
    Calls Tryd.prog 34 #[.string (str (sdig x n)), .string (str (sdig y m))] w fun e w' => e = .returned (.string (str (dec (x - y)))) ∧ Below w.heap.size w w' := by
  obtain ⟨i0, hi, hz0, hz1, hz2⟩ := info_parts infoI
  have DX := Lib.hid (fun i (h : i ≤ 100000000) wz => digit_any x n i wz hx (by omega) h)
  have DY := Lib.hid (fun i (h : i ≤ 100000000) wz => digit_any y m i wz hy (by omega) h)
  have hs1 : (str (sdig x n)).size = n := by rw [str_size, sdig_length]
  generalize str (sdig x n) = s at *
  generalize str (sdig y m) = t at *
  obtain ⟨z, hz⟩ : ∃ z, x - y = z := ⟨_, rfl⟩
  have hyz : y + z = x := by omega
  have HZN : Hid (z < 10 ^ n) := by show _ < _; omega
  rw [hz]
  have H0 : SumI w w z (.slice none 0 0) 0 := ⟨Below.refl _ _, World.ownsRow_nil _ _ _ _⟩
  have HI := Lib.hid hi
  have HC0 : Hid (0 = carry y z 0) := (carry_zero y z).symm
  have hL : s.size ≤ 1000 := by omega
  have HS1 := Lib.hid hs1
  have HYZ := Lib.hid hyz
  clear hi hx hy hs1 hn hm hz hyz hxy
  go_enter Tryd.func34, Tryd.ntmps34
  go_wp2
  go_loopw [5, 6, 7] (fun D c i wr => ∃ (k cy : Nat) (V : Value), k ≤ s.size ∧ i = .int .i64 k ∧ cy ≤ 1 ∧ c = .int .i64 cy ∧ Hid (cy = carry y z k) ∧ V = D ∧ SumI w wr z V k)
    (fun _ _ i _ => s.size - (intOf i).toNat)
  case atStart => exact ⟨0, 0, _, by omega, rfl, by omega, rfl, HC0, rfl, H0⟩
  case round =>
    obtain ⟨k, cy, V, hk, rfl, hcy, rfl, hcc, rfl, hr⟩ := hrel
    by_cases c1 : k < s.size
    · obtain ⟨dx, hdx⟩ : ∃ dx, d10 x k = dx := ⟨_, rfl⟩
      obtain ⟨dy, hdy⟩ : ∃ dy, d10 y k = dy := ⟨_, rfl⟩
      obtain ⟨dz, hdz⟩ : ∃ dz, d10 z k = dz := ⟨_, rfl⟩
      have CX := DX.out k (by omega)
      have CY := DY.out k (by omega)
      rw [hdx] at CX
      rw [hdy] at CY
      have hdyl : dy < 10 := by rw [← hdy]; exact Nat.mod_lt _ (by omega)
      have hdzl : dz < 10 := by rw [← hdz]; exact Nat.mod_lt _ (by omega)
      obtain ⟨q1, q2⟩ := carry_step y z k
      rw [HYZ.out, hdy, hdz, ← hcc.out, hdx] at q1
      rw [hdy, hdz, ← hcc.out] at q2
      have CX' := Lib.hid CX
      have CY' := Lib.hid CY
      have Q1 := Lib.hid hdz.symm
      have HR := Lib.hid hr
      have hzr : w.heap.size ≤ wr.heap.size := hr.below.size
      have d1 : decide ((k : Int) < (s.size : Int)) = true := decide_eq_true (by omega)
      by_cases hsm : dy + dz + cy < 10
      · have e1 : (dx : Int) - (dy : Int) - (cy : Int) = (dz : Int) := by omega
        have HNX : Hid (0 = carry y z (k + 1)) := by show _ = _; rw [← q2]; omega
        have d2 : decide ((dz : Int) < 0) = false := decide_eq_false (by omega)
        clear hr q1 q2 CX CY hdx hdy hdz hsm hcc
        go_wp2_with fail
        go_at_call 81
        refine (CX'.out wr).mono ?_
        rintro e w2 ⟨rfl, rfl⟩
        go_wp2_with fail
        go_at_call 81
        refine (CY'.out wr).mono ?_
        rintro e w2 ⟨rfl, rfl⟩
        go_wp2_with (at_builtin; refine wpList_append_own _ rfl _ _ 93 rfl w.heap.size 3 i0 (.int .i64 0) 1 8 Tryd.underlying93 HI.out hz0 hz1 hz2 rfl (by decide) _ _ _ rfl (World.ownsRow.alloc HR.out.own _) ⟨wr.heap.size, 0, none⟩ 1 1 [.int .i64 dz] rfl rfl (cell_one_at _ _ _) (one_cell_list _ _) (by unfold maxLen; omega) (by omega) (by rw [World.size_alloc]; omega) ?_; intro v' w5 hown' hgrow _)
        have HG5 := Lib.hid (sum_next HR.out hown' hgrow hzr Q1.out)
        clear hown' hgrow
        go_wp2
        go_roundw
        case rel => exact ⟨k + 1, 0, v', by omega, by go_num, by omega, rfl, HNX, rfl, HG5.out⟩
        case measure => simp [intOf]; omega
      · have e1 : (dx : Int) - (dy : Int) - (cy : Int) = (dz : Int) - 10 := by omega
        have HNX : Hid (1 = carry y z (k + 1)) := by show _ = _; rw [← q2]; omega
        have d2 : decide ((dz : Int) - 10 < 0) = true := decide_eq_true (by omega)
        have d3 : (dz : Int) < 10 := by omega
        have e2 : (dz : Int) - 10 + 10 = (dz : Int) := by omega
        clear hr q1 q2 CX CY hdx hdy hdz hsm hcc
        go_wp2_with fail
        go_at_call 81
        refine (CX'.out wr).mono ?_
        rintro e w2 ⟨rfl, rfl⟩
        go_wp2_with fail
        go_at_call 81
        refine (CY'.out wr).mono ?_
        rintro e w2 ⟨rfl, rfl⟩
        go_wp2_with (at_builtin; refine wpList_append_own _ rfl _ _ 93 rfl w.heap.size 3 i0 (.int .i64 0) 1 8 Tryd.underlying93 HI.out hz0 hz1 hz2 rfl (by decide) _ _ _ rfl (World.ownsRow.alloc HR.out.own _) ⟨wr.heap.size, 0, none⟩ 1 1 [.int .i64 dz] rfl rfl (cell_one_at _ _ _) (one_cell_list _ _) (by unfold maxLen; omega) (by omega) (by rw [World.size_alloc]; omega) ?_; intro v' w5 hown' hgrow _)
        have HG5 := Lib.hid (sum_next HR.out hown' hgrow hzr Q1.out)
        clear hown' hgrow
        go_wp2
        go_roundw
        case rel => exact ⟨k + 1, 1, v', by omega, by go_num, by omega, rfl, HNX, rfl, HG5.out⟩
        case measure => simp [intOf]; omega
    · obtain rfl : k = s.size := by omega
      obtain ⟨a, c, rfl, hsa, _⟩ := hr.own.slAt (m := 10) (fun j _ => Nat.mod_lt _ (by omega)) (by omega)
      have HW := Lib.hid (written_any a s.size c (d10 z) z wr hsa (fun _ _ => rfl) (by rw [HS1.out]; exact HZN.out))
      have HB := Lib.hid hr.below
      clear hsa hr
      go_wp2_with (go_at_call 79; refine HW.out.mono ?_; rintro e w7 ⟨rfl, hb7⟩)
      go_ret
      exact ⟨rfl, HB.out.trans (hb7.mono HB.out.size)⟩

end Go.Proofs.YtkjdoknmmiaapaaDoor
