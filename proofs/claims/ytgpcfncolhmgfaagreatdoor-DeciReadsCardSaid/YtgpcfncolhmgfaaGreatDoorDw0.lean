/-
  The document's DivMod, Gcd, New, Mul, Div, Times10 at numbers of up to 1200 digits.
-/
import Derived.Test.YtgpcfncolhmgfaaGreatDoorDr1
namespace Go.Proofs.YtgpcfncolhmgfaaGreatDoor
open Go.RowKit
attribute [local go_sem ↓] Go.wp_at_zero Go.wp_at_succ

set_option maxHeartbeats 1600000 in
set_option maxRecDepth 100000 in
theorem rsub_anyW (x n y m : Nat) (w : World) (hx : x < 10 ^ n) (hy : y < 10 ^ m) (hn : n ≤ 2500) (hm : m ≤ 2500) (hxy : y ≤ x) :
    Calls Tryz.prog 123 #[.string (str (sdig x n)), .string (str (sdig y m))] w fun e w' => e = .returned (.string (str (dec (x - y)))) ∧ Below w.heap.size w w' := by
  obtain ⟨i0, hi, hz0, hz1, hz2⟩ := info_parts infoI
  have DX := Lib.hid (fun i (h : i ≤ 100000000) wz => digit_any x n i wz hx (by omega) h)
  have DY := Lib.hid (fun i (h : i ≤ 100000000) wz => digit_any y m i wz hy (by omega) h)
  have hs1 : (str (sdig x n)).size = n := by rw [str_size, sdig_length]
  generalize str (sdig x n) = s at *
  generalize str (sdig y m) = t at *
  obtain ⟨z, hz⟩ : ∃ z, x - y = z := ⟨_, rfl⟩
  have hyz : y + z = x := by omega
  have HZN : Hid (z < 10 ^ n) := by show _ < _; omega
  rw [hz]
  have H0 : SumI w w z (.slice none 0 0) 0 := ⟨Below.refl _ _, World.ownsRow_nil _ _ _ _⟩
  have HI := Lib.hid hi
  have HC0 : Hid (0 = carry y z 0) := (carry_zero y z).symm
  have hL : s.size ≤ 2500 := by omega
  have HS1 := Lib.hid hs1
  have HYZ := Lib.hid hyz
  clear hi hx hy hs1 hn hm hz hyz hxy
  go_enter Tryz.func123, Tryz.ntmps123
  go_wp2
  go_loopw [5, 6, 7] (fun D c i wr => ∃ (k cy : Nat) (V : Value), k ≤ s.size ∧ i = .int .i64 k ∧ cy ≤ 1 ∧ c = .int .i64 cy ∧ Hid (cy = carry y z k) ∧ V = D ∧ SumI w wr z V k)
    (fun _ _ i _ => s.size - (intOf i).toNat)
  case atStart => exact ⟨0, 0, _, by omega, rfl, by omega, rfl, HC0, rfl, H0⟩
  case round =>
    obtain ⟨k, cy, V, hk, rfl, hcy, rfl, hcc, rfl, hr⟩ := hrel
    by_cases c1 : k < s.size
    · obtain ⟨dx, hdx⟩ : ∃ dx, d10 x k = dx := ⟨_, rfl⟩
      obtain ⟨dy, hdy⟩ : ∃ dy, d10 y k = dy := ⟨_, rfl⟩
      obtain ⟨dz, hdz⟩ : ∃ dz, d10 z k = dz := ⟨_, rfl⟩
      have CX := DX.out k (by omega)
      have CY := DY.out k (by omega)
      rw [hdx] at CX
      rw [hdy] at CY
      have hdyl : dy < 10 := by rw [← hdy]; exact Nat.mod_lt _ (by omega)
      have hdzl : dz < 10 := by rw [← hdz]; exact Nat.mod_lt _ (by omega)
      obtain ⟨q1, q2⟩ := carry_step y z k
      rw [HYZ.out, hdy, hdz, ← hcc.out, hdx] at q1
      rw [hdy, hdz, ← hcc.out] at q2
      have CX' := Lib.hid CX
      have CY' := Lib.hid CY
      have Q1 := Lib.hid hdz.symm
      have HR := Lib.hid hr
      have hzr : w.heap.size ≤ wr.heap.size := hr.below.size
      have d1 : decide ((k : Int) < (s.size : Int)) = true := decide_eq_true (by omega)
      by_cases hsm : dy + dz + cy < 10
      · have e1 : (dx : Int) - (dy : Int) - (cy : Int) = (dz : Int) := by omega
        have HNX : Hid (0 = carry y z (k + 1)) := by show _ = _; rw [← q2]; omega
        have d2 : decide ((dz : Int) < 0) = false := decide_eq_false (by omega)
        clear hr q1 q2 CX CY hdx hdy hdz hsm hcc
        go_wp2_with fail
        go_at_call 147
        refine (CX'.out wr).mono ?_
        rintro e w2 ⟨rfl, rfl⟩
        go_wp2_with fail
        go_at_call 147
        refine (CY'.out wr).mono ?_
        rintro e w2 ⟨rfl, rfl⟩
        go_wp2_with (at_builtin; refine wpList_append_own _ rfl _ _ 171 rfl w.heap.size 3 i0 (.int .i64 0) 1 8 Tryz.underlying171 HI.out hz0 hz1 hz2 rfl (by decide) _ _ _ rfl (World.ownsRow.alloc HR.out.own _) ⟨wr.heap.size, 0, none⟩ 1 1 [.int .i64 dz] rfl rfl (cell_one_at _ _ _) (one_cell_list _ _) (by unfold maxLen; omega) (by omega) (by rw [World.size_alloc]; omega) ?_; intro v' w5 hown' hgrow _)
        have HG5 := Lib.hid (sum_next HR.out hown' hgrow hzr Q1.out)
        clear hown' hgrow
        go_wp2
        go_roundw
        case rel => exact ⟨k + 1, 0, v', by omega, by go_num, by omega, rfl, HNX, rfl, HG5.out⟩
        case measure => simp [intOf]; omega
      · have e1 : (dx : Int) - (dy : Int) - (cy : Int) = (dz : Int) - 10 := by omega
        have HNX : Hid (1 = carry y z (k + 1)) := by show _ = _; rw [← q2]; omega
        have d2 : decide ((dz : Int) - 10 < 0) = true := decide_eq_true (by omega)
        have d3 : (dz : Int) < 10 := by omega
        have e2 : (dz : Int) - 10 + 10 = (dz : Int) := by omega
        clear hr q1 q2 CX CY hdx hdy hdz hsm hcc
        go_wp2_with fail
        go_at_call 147
        refine (CX'.out wr).mono ?_
        rintro e w2 ⟨rfl, rfl⟩
        go_wp2_with fail
        go_at_call 147
        refine (CY'.out wr).mono ?_
        rintro e w2 ⟨rfl, rfl⟩
        go_wp2_with (at_builtin; refine wpList_append_own _ rfl _ _ 171 rfl w.heap.size 3 i0 (.int .i64 0) 1 8 Tryz.underlying171 HI.out hz0 hz1 hz2 rfl (by decide) _ _ _ rfl (World.ownsRow.alloc HR.out.own _) ⟨wr.heap.size, 0, none⟩ 1 1 [.int .i64 dz] rfl rfl (cell_one_at _ _ _) (one_cell_list _ _) (by unfold maxLen; omega) (by omega) (by rw [World.size_alloc]; omega) ?_; intro v' w5 hown' hgrow _)
        have HG5 := Lib.hid (sum_next HR.out hown' hgrow hzr Q1.out)
        clear hown' hgrow
        go_wp2
        go_roundw
        case rel => exact ⟨k + 1, 1, v', by omega, by go_num, by omega, rfl, HNX, rfl, HG5.out⟩
        case measure => simp [intOf]; omega
    · obtain rfl : k = s.size := by omega
      obtain ⟨a, c, rfl, hsa, _⟩ := hr.own.slAt (m := 10) (fun j _ => Nat.mod_lt _ (by omega)) (by omega)
      have HW := Lib.hid (written_any a s.size c (d10 z) z wr hsa (fun _ _ => rfl) (by rw [HS1.out]; exact HZN.out))
      have HB := Lib.hid hr.below
      clear hsa hr
      go_wp2_with (go_at_call 148; refine HW.out.mono ?_; rintro e w7 ⟨rfl, hb7⟩)
      go_ret
      exact ⟨rfl, HB.out.trans (hb7.mono HB.out.size)⟩

set_option maxHeartbeats 1600000 in
set_option maxRecDepth 100000 in
theorem rdivMod_anyW (x y : Nat) (w : World) (hx : dl x ≤ 2450) (hy : dl y ≤ 2450) (hy0 : 0 < y) :
    Calls Tryz.prog 94 #[.string (str (dec x)), .string (str (dec y))] w fun e w' => e = .returned (.tuple #[.string (str (dec (x / y))), .string (str (dec (x % y)))]) ∧ Below w.heap.size w w' := by
  obtain ⟨i0, hi, hz0, hz1, hz2⟩ := info_parts infoB
  obtain ⟨n, hn⟩ : ∃ n, dl x = n := ⟨_, rfl⟩
  have hn0 : 0 < n := by rw [← hn]; exact dl_pos x
  have hxn : x < 10 ^ n := by rw [← hn]; exact dl_lt x
  have ha : str (dec x) = str (sdig x n) := by unfold dec; rw [hn]
  have hsz : (str (sdig x n)).size = n := by rw [str_size, sdig_length]
  rw [ha]
  have HRD : Hid (∀ R k (h : k < (str (sdig x n)).size), str (dec R) ++ (str (sdig x n)).extract k (k + 1) = str (sdig (10 * R + d10 x (n - 1 - k)) (dl R + 1))) := fun R k h => rest_digit R x n k (by omega) h
  obtain ⟨a, hae⟩ : ∃ a, str (sdig x n) = a := ⟨_, rfl⟩
  rw [hae] at hsz HRD ⊢
  have hb : ∀ R, dl R ≤ 2500 → ∀ wz, Calls Tryz.prog 122 #[.string (str (dec R)), .string (str (dec y))] wz fun e w' => e = .returned (.int .i64 (cmpI R y)) ∧ wz = w' := fun R hR wz => rcmp_any R y wz (by omega) (by omega)
  have hs : ∀ R, y ≤ R → dl R ≤ 2500 → ∀ wz, Calls Tryz.prog 123 #[.string (str (dec R)), .string (str (dec y))] wz fun e w' => e = .returned (.string (str (dec (R - y)))) ∧ Below wz.heap.size wz w' := fun R hR hl wz => rsub_anyW R (dl R) y (dl y) wz (dl_lt _) (dl_lt _) hl (by omega) hR
  obtain ⟨b, hbe⟩ : ∃ b, str (dec y) = b := ⟨_, rfl⟩
  rw [hbe] at hb hs ⊢
  have CM := Lib.hid hb
  have SB := Lib.hid hs
  have HX := Lib.hid hxn
  have HI := Lib.hid hi
  have HY := Lib.hid hy0
  have hnl : n ≤ 2450 := by omega
  have HYL := Lib.hid hy
  obtain ⟨z, hz, hmk⟩ := make_bytes a.size (by omega)
  have H0 : Hid (WrI w (w.alloc (.cells z 5)) w.heap.size (x / y) n (.slice (some ⟨w.heap.size, 0, none⟩) 0 a.size) 0) :=
    ⟨(Below.refl _ _).alloc (Nat.le_refl _) _, World.ownsRow_made w z a.size (Nat.le_refl _) (by unfold maxLen; omega) (by omega)⟩
  have HSZ := Lib.hid hsz
  have hal : a.size ≤ 2450 := by omega
  have HR0 : Hid (0 = x / 10 ^ (n - 0) % y) := by show _ = _; rw [Nat.sub_zero, Nat.div_eq_of_lt hxn, Nat.zero_mod]
  have hd0 : (⟨#[48]⟩ : ByteArray) = str (dec 0) := by rw [dec_zero]; rfl
  have HD0 := Lib.hid hd0
  clear hb hs hxn hi hy0 hz hsz ha hae hbe hn hx hy hd0
  go_enter Tryz.func94, Tryz.ntmps94
  go_wp2
  go_loopw [6, 7, 8] (fun D rs i wr => ∃ (k R : Nat) (V : Value) (r : ByteArray), k ≤ a.size ∧ i = .int .i64 k ∧ rs = .string r ∧ Hid (r = str (dec R)) ∧ Hid (R = x / 10 ^ (n - k) % y) ∧ V = D ∧ WrI w wr w.heap.size (x / y) n V k)
    (fun _ _ i _ => a.size - (intOf i).toNat)
  case atStart => exact ⟨0, 0, _, _, by omega, rfl, rfl, HD0.out, HR0.out, rfl, H0.out⟩
  case round =>
    obtain ⟨k, R, V, r, hk, rfl, rfl, hr, hR, rfl, hw⟩ := hrel
    by_cases hlt : k < a.size
    · have hkn : k < n := by have := HSZ.out; omega
      have hRD := HRD.out R k hlt
      rw [← hr.out] at hRD
      obtain ⟨T, hT⟩ : ∃ T, 10 * R + d10 x (n - 1 - k) = T := ⟨_, rfl⟩
      obtain ⟨g1, g2⟩ := div_step x y k n HY.out hkn R hR.out
      rw [hT] at g1 g2 hRD
      have hRl : R < y := by rw [hR.out]; exact Nat.mod_lt _ HY.out
      have hdR : dl R ≤ 2450 := by
        have h1 := HYL.out
        refine Nat.le_trans (dl_le R (dl y) (dl_pos y) (Nat.lt_trans hRl (dl_lt y))) h1
      have hTl : T < 10 ^ (dl R + 1) := by
        have h1 := dl_lt R
        have h2 := d10_lt x (n - 1 - k)
        rw [Nat.pow_succ]; omega
      have hT10 : T < 10 * y := by have h2 := d10_lt x (n - 1 - k); omega
      have hdT : dl T ≤ 2500 := by have := dl_le T (dl R + 1) (by omega) hTl; omega
      have TR : Hid (∀ wz, Calls Tryz.prog 52 #[.string (r ++ a.extract k (k + 1))] wz fun e w' => e = .returned (.string (str (dec T))) ∧ wz = w') := by
        intro wz
        rw [hRD]
        exact trim_any T (dl R + 1) wz (by omega) hTl (by omega)
      have HT0 : Hid (str (dec T) = str (dec (T - 0 * y)) ∧ 0 * y ≤ T) := ⟨by simp, by simp⟩
      obtain ⟨t, ht⟩ : ∃ t, str (dec T) = t := ⟨_, rfl⟩
      rw [ht] at TR HT0
      have G1 := Lib.hid g1
      have G2 := Lib.hid g2
      have HW := Lib.hid hw
      have HDT := Lib.hid hdT
      have HT10 := Lib.hid hT10
      have hrsz : r.size ≤ 2450 := by rw [hr.out, str_size]; unfold dec; rw [sdig_length]; exact hdR
      clear hRD g1 g2 hRl hdR hTl hT10 hdT ht hw hr hR hT
      go_wp2_with (go_at_call 52; (with_reducible refine (TR.out _).mono ?_); rintro e w1 ⟨rfl, rfl⟩)
      go_loopw [7, 9] (fun rs c wi => ∃ (cc : Nat) (r2 : ByteArray), cc ≤ 9 ∧ c = .int .i64 cc ∧ rs = .string r2 ∧ Hid (r2 = str (dec (T - cc * y)) ∧ cc * y ≤ T) ∧ WrI w wi w.heap.size (x / y) n V k)
        (fun _ c _ => 10 - (intOf c).toNat)
      case atStart => exact ⟨0, _, by omega, rfl, rfl, HT0.out, HW.out⟩
      case round =>
        obtain ⟨cc, r2, hcc, rfl, rfl, hr2, hwi⟩ := hrel
        have hdS : dl (T - cc * y) ≤ 2500 := Nat.le_trans (dl_le _ (dl T) (dl_pos T) (Nat.lt_of_le_of_lt (Nat.sub_le _ _) (dl_lt T))) HDT.out
        have CMS := CM.out (T - cc * y) hdS
        rw [← hr2.out.1] at CMS
        by_cases hge : y ≤ T - cc * y
        · obtain ⟨q, hq⟩ := cmp_pos hge
          rw [hq] at CMS
          have SBS := SB.out (T - cc * y) hge hdS
          rw [← hr2.out.1] at SBS
          have hmul : (cc + 1) * y = cc * y + y := by rw [Nat.add_mul, Nat.one_mul]
          have hnx : (T - cc * y - y = T - (cc + 1) * y) ∧ (cc + 1) * y ≤ T := ⟨by rw [hmul]; omega, by rw [hmul]; have := HY.out; omega⟩
          have hc9 : cc + 1 ≤ 9 := by
            rcases Nat.lt_or_ge cc 9 with h | h
            · omega
            · have h1 := Nat.mul_le_mul_right y (show 10 ≤ cc + 1 by omega)
              rw [hmul] at h1
              have := HT10.out; omega
          have HNX : Hid (str (dec (T - cc * y - y)) = str (dec (T - (cc + 1) * y)) ∧ (cc + 1) * y ≤ T) := ⟨by rw [hnx.1], hnx.2⟩
          obtain ⟨t2, ht2⟩ : ∃ t2, str (dec (T - cc * y - y)) = t2 := ⟨_, rfl⟩
          rw [ht2] at HNX SBS
          have C1 := Lib.hid CMS
          have S1 := Lib.hid SBS
          have HWI := Lib.hid hwi
          have d1 : decide ((cc : Int) < 10) = true := decide_eq_true (by omega)
          clear CMS SBS hmul hnx hge hq hdS hr2 hwi ht2
          go_wp2_with fail
          go_at_call 122
          (with_reducible refine (C1.out _).mono ?_)
          rintro e w2 ⟨rfl, rfl⟩
          go_wp2_with fail
          go_at_call 123
          (with_reducible refine (S1.out _).mono ?_)
          rintro e w3 ⟨rfl, hb3⟩
          have HW3 : Hid (WrI w w3 w.heap.size (x / y) n V k) := ⟨HWI.out.below.trans (hb3.mono HWI.out.below.size), HWI.out.own.below hb3⟩
          clear hb3
          go_wp2
          go_roundw
          case rel => exact ⟨cc + 1, t2, hc9, by go_num, rfl, HNX.out, HW3.out⟩
          case measure => simp [intOf]; omega
        · rw [cmp_neg (show T - cc * y < y by omega)] at CMS
          have C1 := Lib.hid CMS
          have hy0 := HY.out
          have hqT : T / y = cc := by
            have h1 : T = cc * y + (T - cc * y) := by have := hr2.out.2; omega
            rw [h1, Nat.add_comm, Nat.add_mul_div_right _ _ hy0, Nat.div_eq_of_lt (by omega)]; omega
          have hrT : T % y = T - cc * y := by
            have h1 : T = cc * y + (T - cc * y) := by have := hr2.out.2; omega
            have h2 : (cc * y + (T - cc * y)) % y = T - cc * y := by rw [Nat.add_comm, Nat.add_mul_mod_self_right, Nat.mod_eq_of_lt (by omega)]
            rw [← h1] at h2; exact h2
          obtain ⟨yy, hyy⟩ : ∃ yy, 48 + cc = yy := ⟨_, rfl⟩
          have e2 : (48 : Int) + (cc : Int) = (yy : Int) := by omega
          have e3 : (yy : Int) % 256 = (yy : Int) := by omega
          have HYD : Hid (yy = dg (x / y) (n - 1 - k)) := by show _ = _; rw [dg_d10, ← G1.out, hqT, hyy]
          have HRN : Hid (r2 = str (dec (T - cc * y)) ∧ T - cc * y = x / 10 ^ (n - (k + 1)) % y) := ⟨hr2.out.1, by rw [← hrT]; exact G2.out⟩
          have HWI := Lib.hid hwi
          have hzr : w.heap.size ≤ wr.heap.size := hwi.below.size
          have hkn1 : k + 1 ≤ a.size := hlt
          have hccl : cc ≤ 9 := hcc
          clear CMS hge hdS hr2 hwi hqT hrT hyy hy0
          go_wp2_with fail
          go_at_call 122
          (with_reducible refine (C1.out _).mono ?_)
          rintro e w2 ⟨rfl, rfl⟩
          go_wp2_with (at_builtin; refine wpList_append_own _ rfl _ _ 87 rfl w.heap.size 5 i0 (.int .u8 0) 1 1 Tryz.underlying87 HI.out hz0 hz1 hz2 rfl (by decide) _ _ _ rfl (World.ownsRow.alloc HWI.out.own _) ⟨wr.heap.size, 0, none⟩ 1 1 [.int .u8 yy] rfl rfl (cell_one_at _ _ _) (one_cell_list _ _) (by unfold maxLen; omega) (by omega) (by rw [World.size_alloc]; omega) ?_; intro v' w5 hown' hgrow _)
          have hb5 : Below w.heap.size w w5 := (HWI.out.below.alloc hzr _).grown hgrow (by rw [World.size_alloc]; omega) (fun q hq => (World.ownsRow.lt HWI.out.own q hq).1)
          have hown2 : OwnL w5 w.heap.size 5 .u8 v' (k + 1) (fun j => dg (x / y) (n - 1 - j)) := by
            rw [cl_snoc, cl_congr (g := fun j => dg (x / y) (n - 1 - j)) (fun j hj => by
              by_cases e : j = k
              · rw [if_pos e, HYD.out, e]
              · rw [if_neg e])] at hown'
            exact hown'
          have HG5 := Lib.hid (show WrI w w5 w.heap.size (x / y) n v' (k + 1) from ⟨hb5, hown2⟩)
          clear hown' hgrow hb5 hown2
          go_wp2
          go_roundw
          case rel => exact ⟨k + 1, T - cc * y, v', r2, hkn1, by go_num, rfl, HRN.out.1, HRN.out.2, rfl, HG5.out⟩
          case measure => simp [intOf]; omega
    · obtain rfl : k = a.size := by omega
      have hsz' := HSZ.out
      have hRx : R = x % y := by rw [hR.out, hsz', Nat.sub_self, Nat.pow_zero, Nat.div_one]
      have hdx := Nat.div_le_self x y
      rcases hw.own.cases with ⟨hV, hk0⟩ | ⟨g, c2, rfl, hc2, hgb, hgl, hgc, hgf⟩
      · exfalso; omega
      · have hcv := run_convert_bytes_arg (P := Tryz.prog) (w := wr) 87 5 Tryz.underlying87 Tryz.underlying5 g 0 a.size c2 ((List.range a.size).map fun j => ((dg (x / y) (n - 1 - j) : Nat) : Int)) (by simp) (fun j hj => by rw [hgc j hj]; simp [hj]) 9 Tryz.underlying9
        have hst : strOfNums ((List.range a.size).map fun j => ((dg (x / y) (n - 1 - j) : Nat) : Int)) = str (sdig (x / y) n) := by
          rw [hsz']
          refine str_of ?_
          rw [strOfNums_data]
          apply List.ext_getElem?
          intro j
          by_cases hj : j < n
          · rw [sdig_get (x / y) n j hj, List.getElem?_map, List.getElem?_map, List.getElem?_range hj]
            simp only [Option.map_some]
            rw [Int.toNat_natCast]; rfl
          · rw [List.getElem?_eq_none (by simp; omega), List.getElem?_eq_none (by rw [sdig_length]; omega)]
        rw [hst] at hcv
        have HT := Lib.hid (trim_any (x / y) n wr (by omega) (Nat.lt_of_le_of_lt hdx HX.out) (by omega))
        have HB := Lib.hid hw.below
        have HRR : Hid (r = str (dec (x % y))) := by show _ = _; rw [hr.out, hRx]
        clear hw hgc hgf hst hr hR hRx hsz'
        go_wp2_with fail
        go_at_call 52
        refine HT.out.mono ?_
        rintro e w7 ⟨rfl, rfl⟩
        clear hcv
        go_wp2
        go_ret2
        exact ⟨by rw [HRR.out]; rfl, HB.out⟩

set_option maxHeartbeats 1600000 in
set_option maxRecDepth 100000 in
theorem rMul_anyW (Z Y : Int) (w : World) (hl : dl Z.natAbs ≤ 2000) (hl2 : dl Y.natAbs ≤ 2000)  :
    Calls Tryz.prog 86 #[.agg #[.bool (rB Z), .string (rS Z)], .agg #[.bool (rB Y), .string (rS Y)]] w fun e w' => RTold w w' e (Z * Y) := by
  have hv : sgn (rB Z != rB Y) (Z.natAbs * Y.natAbs) = Z * Y := sgn_mul Z Y
  have OF : Hid (∀ wz, Calls Tryz.prog 24 #[.bool (rB Z != rB Y), .string (str (dec (Z.natAbs * Y.natAbs)))] wz fun e w' => RTold wz w' e (Z * Y)) := by
    intro wz
    have h1 := rOf_dec (rB Z != rB Y) (Z.natAbs * Y.natAbs) wz (by have := dl_mul_le hl hl2; omega)
    rw [show sgn (rB Z != rB Y) (Z.natAbs * Y.natAbs) = Z * Y from hv] at h1
    exact h1
  have C1 : Hid (∀ wz, Calls Tryz.prog 118 #[.string (rS Z), .string (rS Y)] wz fun e w' => e = .returned (.string (str (dec (Z.natAbs * Y.natAbs)))) ∧ Below wz.heap.size wz w') := fun wz => rmul_any Z.natAbs (dl Z.natAbs) Y.natAbs (dl Y.natAbs) wz (dl_lt _) (dl_lt _) (by omega) (by omega)
  obtain ⟨mm, hmm⟩ : ∃ mm, (!(rB Z == rB Y)) = mm := ⟨_, rfl⟩
  rw [show (rB Z != rB Y) = mm from hmm] at OF
  obtain ⟨V, hV⟩ : ∃ V, Z * Y = V := ⟨_, rfl⟩
  rw [hV] at OF ⊢
  obtain ⟨t, ht⟩ : ∃ t, str (dec (Z.natAbs * Y.natAbs)) = t := ⟨_, rfl⟩
  rw [ht] at OF C1
  clear hV ht hv
  generalize rB Z = b at *
  generalize rS Z = s at *
  generalize rB Y = b2 at *
  generalize rS Y = s2 at *
  clear hl hl2
  have BB := Lib.hid (BP.start w b s b2 s2)
  have q0 := BB.out.now.2.2.cell
  have q1 := BB.out.now.2.2.cell1
  have q2 := BB.out.now.2.1.cell
  have q3 := BB.out.now.2.1.cell1
  go_enter Tryz.func86, Tryz.ntmps86
  go_wp2_with fail
  go_region_held3 (fun y => (y.cell? ⟨w.heap.size, 0, none⟩ = some (.bool b) ∧ y.cell? ⟨w.heap.size, 1, none⟩ = some (.string s) ∧ y.cell? ⟨w.heap.size + 1, 0, none⟩ = some (.bool b2) ∧ y.cell? ⟨w.heap.size + 1, 1, none⟩ = some (.string s2)) ∧ Bag w (BP w.heap.size b s b2 s2) y)
    (first
      | (have B9 := BB.out.drew; exact ⟨⟨B9.now.2.2.cell, B9.now.2.2.cell1, B9.now.2.1.cell, B9.now.2.1.cell1⟩, B9⟩)
      | (have B9 := Bag.go (show Bag w (BP w.heap.size b s b2 s2) _ from by go_split_ands; assumption) hb2; exact ⟨⟨B9.now.2.2.cell, B9.now.2.2.cell1, B9.now.2.1.cell, B9.now.2.1.cell1⟩, B9⟩)
      | (have B9 := Bag.put2 (show Bag w (BP w.heap.size b s b2 s2) _ from by go_split_ands; assumption) (k := w.heap.size + 1 + 1) (u := .bool (rB V)) (v := .string (rS V)) (by omega) (fun h => h.put2 _ _); exact ⟨⟨B9.now.2.2.cell, B9.now.2.2.cell1, B9.now.2.1.cell, B9.now.2.1.cell1⟩, B9⟩))
    (first
      | (go_at_call 118; (with_reducible refine (C1.out _).mono ?_); rintro e w2 ⟨rfl, hb2⟩)
      | (go_at_call 24; (with_reducible refine (OF.out _).mono ?_); rintro e w2 ⟨rfl, hb2⟩; have B7 := Bag.go (show Bag w (BP w.heap.size b s b2 s2) _ from by go_split_ands; assumption) hb2; obtain ⟨x8, z8, hs8⟩ := B7.now.1; have hc1 := hs8.cell; have hc2 := hs8.cell1; have hf1 := hs8.free; have hf2 := hs8.free1; have HS := hs8.set (.bool (rB V)) (.string (rS V)); have HE := Lib.hid (RTold.fin (Y := V) B7.below (show w.heap.size ≤ w.heap.size + 1 + 1 by omega) rfl rfl); unfold put2 at HE; clear hs8 B7))
  go_wp2
  exact bodyPost_ret (v := .agg #[.bool (rB V), .string (rS V)]) (by simp [results, Tryz.results86, go_sem, HS]) rfl HE.out

set_option maxHeartbeats 1600000 in
set_option maxRecDepth 100000 in
theorem rgcd_anyW (x y : Nat) (w : World) (hx : dl x ≤ 2450) (hy : dl y ≤ 2450) (k0 : Nat) (hk0 : k0 ≤ 9900) (hy2 : y < 2 ^ k0) :
    Calls Tryz.prog 61 #[.string (str (dec x)), .string (str (dec y))] w fun e w' => e = .returned (.string (str (dec (Nat.gcd x y)))) ∧ Below w.heap.size w w' := by
  have hst : 0 + eus x y ≤ 19990 := by have := eus_le k0 x y hy2; omega
  obtain ⟨a0, ha0⟩ : ∃ a0, str (dec x) = a0 := ⟨_, rfl⟩
  obtain ⟨b0, hb0⟩ : ∃ b0, str (dec y) = b0 := ⟨_, rfl⟩
  rw [ha0, hb0]
  have H0 : Hid (a0 = str (dec x) ∧ b0 = str (dec y) ∧ dl x ≤ 2450 ∧ dl y ≤ 2450 ∧ 0 + eus x y ≤ 19990) := ⟨ha0.symm, hb0.symm, hx, hy, hst⟩
  clear hst ha0 hb0 hx hy hy2 hk0
  go_enter Tryz.func61, Tryz.ntmps61
  go_wp2
  go_loopw [0, 1, 5] (fun a b i wr => ∃ (k A B : Nat) (s t : ByteArray), a = .string s ∧ b = .string t ∧ i = .int .i64 k ∧ k ≤ 19990 ∧ Hid (s = str (dec A) ∧ t = str (dec B) ∧ dl A ≤ 2450 ∧ dl B ≤ 2450 ∧ k + eus A B ≤ 19990 ∧ Nat.gcd A B = Nat.gcd x y) ∧ Below w.heap.size w wr)
    (fun _ _ i _ => 20000 - (intOf i).toNat)
  case atStart => exact ⟨0, x, y, _, _, rfl, rfl, rfl, by omega, ⟨H0.out.1, H0.out.2.1, H0.out.2.2.1, H0.out.2.2.2.1, H0.out.2.2.2.2, rfl⟩, Below.refl _ _⟩
  case round =>
    obtain ⟨k, A, B, s, t, rfl, rfl, rfl, hk, hr, hbl⟩ := hrel
    have hz := dec_isnt0 B
    rw [← hr.out.2.1] at hz
    have d1 : decide ((k : Int) < 20000) = true := decide_eq_true (by omega)
    by_cases h0 : B = 0
    · rw [decide_eq_true h0] at hz
      have HE : Hid (s = str (dec (Nat.gcd x y))) := by
        show _ = _
        rw [hr.out.1, ← hr.out.2.2.2.2.2, h0, Nat.gcd_zero_right]
      have HBL := Lib.hid hbl
      clear hr hbl h0
      go_wp2
      go_ret
      exact ⟨ret_str HE.out, HBL.out⟩
    · rw [decide_eq_false h0] at hz
      have hB0 : 0 < B := Nat.pos_of_ne_zero h0
      have DM := fun wz => rdivMod_anyW A B wz hr.out.2.2.1 hr.out.2.2.2.1 hB0
      rw [← hr.out.1, ← hr.out.2.1] at DM
      obtain ⟨u, hu⟩ : ∃ u, str (dec (A / B)) = u := ⟨_, rfl⟩
      obtain ⟨v, hv⟩ : ∃ v, str (dec (A % B)) = v := ⟨_, rfl⟩
      rw [hu, hv] at DM
      have hes := eus_step A h0
      have hkk : k + 1 ≤ 19990 := by have := hr.out.2.2.2.2.1; omega
      have HN : Hid (t = str (dec B) ∧ v = str (dec (A % B)) ∧ dl B ≤ 2450 ∧ dl (A % B) ≤ 2450 ∧ (k + 1) + eus B (A % B) ≤ 19990 ∧ Nat.gcd B (A % B) = Nat.gcd x y) :=
        ⟨hr.out.2.1, hv.symm, hr.out.2.2.2.1, Nat.le_trans (dl_mod hB0) hr.out.2.2.2.1, by have := hr.out.2.2.2.2.1; omega, by rw [gcd_step]; exact hr.out.2.2.2.2.2⟩
      have HD := Lib.hid DM
      have HBL := Lib.hid hbl
      clear DM hu hv hes hr hbl h0 hB0
      go_wp2_with fail
      go_at_call 94
      (with_reducible refine (HD.out _).mono ?_)
      rintro e w2 ⟨rfl, hb2⟩
      have HB2 := Lib.hid (HBL.out.trans (hb2.mono HBL.out.size))
      clear hb2
      go_wp2
      go_roundw
      case rel => exact ⟨k + 1, B, A % B, _, _, rfl, rfl, by go_num, hkk, HN.out, HB2.out⟩
      case measure => simp [intOf]; omega

set_option maxHeartbeats 3200000 in
set_option maxRecDepth 100000 in
theorem r3New_someW (Z Y : Int) (w : World) (hY : Y ≠ 0) (hl : dl Z.natAbs ≤ 2450) (hl2 : dl Y.natAbs ≤ 2450) :
    Calls Tryz.prog 85 #[.agg #[.bool (rB Z), .string (rS Z)], .agg #[.bool (rB Y), .string (rS Y)]] w fun e w' => NumTold3 w w' e (nwP Z Y) (nwQ Z Y) true := by
  have h0 := rS_is0 Y
  rw [decide_eq_false hY] at h0
  have hg0 : 0 < Nat.gcd Z.natAbs Y.natAbs := Nat.gcd_pos_of_pos_right _ (by omega)
  have hgl : dl (Nat.gcd Z.natAbs Y.natAbs) ≤ 2450 := Nat.le_trans (dl_mono (Nat.gcd_le_right _ (by omega))) hl2
  have GC : Hid (∀ wz, Calls Tryz.prog 61 #[.string (rS Z), .string (rS Y)] wz fun e w' => e = .returned (.string (str (dec (Nat.gcd Z.natAbs Y.natAbs)))) ∧ Below wz.heap.size wz w') := fun wz =>
    rgcd_anyW Z.natAbs Y.natAbs wz hl hl2 (4 * 2450) (by omega) (Nat.lt_of_lt_of_le (Nat.lt_of_lt_of_le (dl_lt _) (Nat.pow_le_pow_right (by omega) hl2)) (ten_two 2450))
  have D1 : Hid (∀ wz, Calls Tryz.prog 94 #[.string (rS Z), .string (str (dec (Nat.gcd Z.natAbs Y.natAbs)))] wz fun e w' => e = .returned (.tuple #[.string (rS (nwP Z Y)), .string (str (dec (Z.natAbs % Nat.gcd Z.natAbs Y.natAbs)))]) ∧ Below wz.heap.size wz w') := fun wz => by
    have := rdivMod_anyW Z.natAbs (Nat.gcd Z.natAbs Y.natAbs) wz hl hgl hg0
    rw [← (nw_abs Z Y).1] at this
    exact this
  have D2 : Hid (∀ wz, Calls Tryz.prog 94 #[.string (rS Y), .string (str (dec (Nat.gcd Z.natAbs Y.natAbs)))] wz fun e w' => e = .returned (.tuple #[.string (str (dec (nwQ Z Y))), .string (str (dec (Y.natAbs % Nat.gcd Z.natAbs Y.natAbs)))]) ∧ Below wz.heap.size wz w') := fun wz => by
    have := rdivMod_anyW Y.natAbs (Nat.gcd Z.natAbs Y.natAbs) wz hl2 hgl hg0
    rw [← (nw_abs Z Y).2] at this
    exact this
  have hx0 : ((rS (nwP Z Y)).toList == [48]) = decide (Z = 0) := by
    rw [rS_is0, Bool.eq_iff_iff, decide_eq_true_eq, decide_eq_true_eq]
    unfold nwP
    rw [loP_zero]
    unfold upZ
    split <;> omega
  have HS0 := Lib.hid (nw_sgn Z (Y := Y))
  have BB := Lib.hid (((Bag.start w).box2 (.bool (rB Z)) (.string (rS Z)) 56).box2 (.bool (rB Y)) (.string (rS Y)) 56 |>.box3 (.bool false) (.string ⟨#[]⟩) (.string ⟨#[]⟩) 34)
  simp only [World.size_alloc] at BB
  have HF := Lib.hid (fun w2 b x y (hb : Below w.heap.size w w2) (h1 : rB (nwP Z Y) = b) (h2 : rS (nwP Z Y) = x) (h3 : str (dec (nwQ Z Y)) = y) => (show NumTold3 w (((w2.setCell ⟨w.heap.size + 1 + 1, 0, none⟩ (.bool b)).setCell ⟨w.heap.size + 1 + 1, 1, none⟩ (.string x)).setCell ⟨w.heap.size + 1 + 1, 2, none⟩ (.string y)) (.returned (.tuple #[.agg #[.bool b, .string x, .string y], .bool true])) (nwP Z Y) (nwQ Z Y) true from
    ⟨by rw [h1, h2, h3], ((hb.setCell (p := ⟨w.heap.size + 1 + 1, 0, none⟩) (show w.heap.size ≤ w.heap.size + 1 + 1 by omega) _).setCell (p := ⟨w.heap.size + 1 + 1, 1, none⟩) (show w.heap.size ≤ w.heap.size + 1 + 1 by omega) _).setCell (p := ⟨w.heap.size + 1 + 1, 2, none⟩) (show w.heap.size ≤ w.heap.size + 1 + 1 by omega) _⟩))
  obtain ⟨x, hx⟩ : ∃ x, rS (nwP Z Y) = x := ⟨_, rfl⟩
  obtain ⟨y, hy⟩ : ∃ y, str (dec (nwQ Z Y)) = y := ⟨_, rfl⟩
  have HX := Lib.hid hx
  have HY := Lib.hid hy
  rw [hx] at D1 hx0
  rw [hy] at D2
  obtain ⟨z, hz⟩ : ∃ z, decide (Z = 0) = z := ⟨_, rfl⟩
  have HS1 : Hid (rB (nwP Z Y) = ((rB Z != rB Y) && !z)) := by show _ = _; rw [← hz]; exact HS0.out
  rw [hz] at hx0
  generalize rS Z = s at *
  generalize rS Y = t at *
  generalize str (dec (Nat.gcd Z.natAbs Y.natAbs)) = g at *
  generalize str (dec (Z.natAbs % Nat.gcd Z.natAbs Y.natAbs)) = r1 at *
  generalize str (dec (Y.natAbs % Nat.gcd Z.natAbs Y.natAbs)) = r2 at *
  generalize rB Z = b at *
  generalize rB Y = b2 at *
  clear hx hy hz hg0 hgl hl hl2 hY HS0
  have q0 := BB.out.now.2.2.1.cell
  have q1 := BB.out.now.2.2.1.cell1
  have p0 := BB.out.now.2.1.cell
  have p1 := BB.out.now.2.1.cell1
  cases b <;> cases b2 <;> cases z
  all_goals
    go_enter Tryz.func85, Tryz.ntmps85
    go_wp2_with (first
      | (go_at_call 61; (with_reducible refine (GC.out _).mono ?_); rintro e w2 ⟨rfl, hb2⟩; have BB := Lib.hid (BB.out.go hb2); clear hb2; have q0 := BB.out.now.2.2.1.cell; have q1 := BB.out.now.2.2.1.cell1; have p0 := BB.out.now.2.1.cell; have p1 := BB.out.now.2.1.cell1)
      | (go_at_call 94; (with_reducible refine (D1.out _).mono ?_); rintro e w3 ⟨rfl, hb3⟩; have BB := Lib.hid (BB.out.go hb3); clear hb3; have q0 := BB.out.now.2.2.1.cell; have q1 := BB.out.now.2.2.1.cell1; have p0 := BB.out.now.2.1.cell; have p1 := BB.out.now.2.1.cell1)
      | (go_at_call 94; (with_reducible refine (D2.out _).mono ?_); rintro e w4 ⟨rfl, hb4⟩; have BB := Lib.hid (BB.out.go hb4); clear hb4; have q0 := BB.out.now.2.2.1.cell; have q1 := BB.out.now.2.2.1.cell1; have p0 := BB.out.now.2.1.cell; have p1 := BB.out.now.2.1.cell1; have hs := BB.out.now.1; have u0 := hs.cell; have u1 := hs.cell1; have u2 := hs.cell2; have g0 := hs.free; have g1 := hs.free1; have g2 := hs.free2))
    first
        | (have HS := BB.out.now.1.set (.bool false) (.string x) (.string y)
           have HE := Lib.hid (HF.out _ false x y BB.out.below HS1.out HX.out HY.out)
           exact bodyPost_ret (v := .tuple #[.agg #[.bool false, .string x, .string y], .bool true]) (by simp [results, Tryz.results85, go_sem, HS]) rfl HE.out)
        | (have HS := BB.out.now.1.set (.bool true) (.string x) (.string y)
           have HE := Lib.hid (HF.out _ true x y BB.out.below HS1.out HX.out HY.out)
           exact bodyPost_ret (v := .tuple #[.agg #[.bool true, .string x, .string y], .bool true]) (by simp [results, Tryz.results85, go_sem, HS]) rfl HE.out)

theorem dl_mul4W {x y : Nat} (h : dl x ≤ 1200) (g : dl y ≤ 1200) : dl (x * y) ≤ 2400 := by
  obtain ⟨K, hK⟩ : ∃ K, K = 1200 := ⟨_, rfl⟩
  refine Nat.le_trans (dl_le _ (K + K) (by omega) ?_) (by omega)
  rw [Nat.pow_add]
  exact Nat.mul_lt_mul'' (Nat.lt_of_lt_of_le (dl_lt x) (Nat.pow_le_pow_right (by omega) (by omega))) (Nat.lt_of_lt_of_le (dl_lt y) (Nat.pow_le_pow_right (by omega) (by omega)))

theorem dl_mulZW {Z : Int} {y : Nat} (h : dl Z.natAbs ≤ 1200) (g : dl y ≤ 1200) : dl (Z * (y : Int)).natAbs ≤ 2400 := by rw [Int.natAbs_mul, Int.natAbs_natCast]; exact dl_mul4W h g

theorem dl_mulYW {Z : Int} {y : Nat} (h : dl Z.natAbs ≤ 1200) (g : dl y ≤ 1200) : dl ((y : Int) * Z).natAbs ≤ 2400 := by rw [Int.mul_comm]; exact dl_mulZW h g

set_option maxHeartbeats 6400000 in
set_option maxRecDepth 100000 in
theorem r3Div_walkW (P : Int) (Q : Nat) (P' : Int) (Q' : Nat) (w : World) (h1 : dl P.natAbs ≤ 1200) (h2 : dl Q ≤ 1200) (h3 : dl P'.natAbs ≤ 1200) (h4 : dl Q' ≤ 1200) (X1 : Int) (X2 : Nat) (ok : Bool)
    (NW : Hid (∀ wz, Calls Tryz.prog 85 #[.agg #[.bool (rB (P * Q')), .string (rS (P * Q'))], .agg #[.bool (rB ((Q : Int) * P')), .string (rS ((Q : Int) * P'))]] wz fun e w' => NumTold3 wz w' e X1 X2 ok)) :
    Calls Tryz.prog 51 #[.agg #[.bool (rB P), .string (rS P), .string (str (dec Q))], .agg #[.bool (rB P'), .string (rS P'), .string (str (dec Q'))]] w fun e w' => NumTold3 w w' e X1 X2 ok := by
  have BB := Lib.hid (((Bag.start w).box3 (.bool (rB P)) (.string (rS P)) (.string (str (dec Q))) 34).box3 (.bool (rB P')) (.string (rS P')) (.string (str (dec Q'))) 34 |>.box3 (.bool false) (.string ⟨#[]⟩) (.string ⟨#[]⟩) 34 |>.drew)
  simp only [World.size_alloc] at BB
  have TA : Hid (∀ wz, Calls Tryz.prog 87 #[.agg #[.bool (rB P), .string (rS P), .string (str (dec Q))]] wz fun e w' => RTold wz w' e P) := fun wz => r3Top_any P _ wz (by omega)
  have TB : Hid (∀ wz, Calls Tryz.prog 87 #[.agg #[.bool (rB P'), .string (rS P'), .string (str (dec Q'))]] wz fun e w' => RTold wz w' e P') := fun wz => r3Top_any P' _ wz (by omega)
  have BA : Hid (∀ wz, Calls Tryz.prog 88 #[.agg #[.bool (rB P), .string (rS P), .string (str (dec Q))]] wz fun e w' => RTold wz w' e (Q : Int)) := fun wz => r3Bot_any _ _ Q wz (by omega)
  have BB2 : Hid (∀ wz, Calls Tryz.prog 88 #[.agg #[.bool (rB P'), .string (rS P'), .string (str (dec Q'))]] wz fun e w' => RTold wz w' e (Q' : Int)) := fun wz => r3Bot_any _ _ Q' wz (by omega)
  have M1 := Lib.hid (fun wz => rMul_anyW P (Q' : Int) wz (by omega) (by rw [Int.natAbs_natCast]; omega))
  have M2 := Lib.hid (fun wz => rMul_anyW (Q : Int) P' wz (by rw [Int.natAbs_natCast]; omega) (by omega))
  have HF := Lib.hid (fun w2 b x y (hb : Below w.heap.size w w2) (h1 : rB X1 = b) (h2 : rS X1 = x) (h3 : str (dec X2) = y) => (show NumTold3 w (((w2.setCell ⟨w.heap.size + 1 + 1, 0, none⟩ (.bool b)).setCell ⟨w.heap.size + 1 + 1, 1, none⟩ (.string x)).setCell ⟨w.heap.size + 1 + 1, 2, none⟩ (.string y)) (.returned (.tuple #[.agg #[.bool b, .string x, .string y], .bool ok])) X1 X2 ok from
    ⟨by rw [h1, h2, h3], ((hb.setCell (p := ⟨w.heap.size + 1 + 1, 0, none⟩) (show w.heap.size ≤ w.heap.size + 1 + 1 by omega) _).setCell (p := ⟨w.heap.size + 1 + 1, 1, none⟩) (show w.heap.size ≤ w.heap.size + 1 + 1 by omega) _).setCell (p := ⟨w.heap.size + 1 + 1, 2, none⟩) (show w.heap.size ≤ w.heap.size + 1 + 1 by omega) _⟩))
  unfold RTold at TA TB BA BB2 M1 M2
  unfold NumTold3 at NW
  obtain ⟨x1, hx1⟩ : ∃ x, rB X1 = x := ⟨_, rfl⟩
  obtain ⟨x2, hx2⟩ : ∃ x, rS X1 = x := ⟨_, rfl⟩
  obtain ⟨x3, hx3⟩ : ∃ x, str (dec X2) = x := ⟨_, rfl⟩
  rw [hx1, hx2, hx3] at NW
  have HX := Lib.hid (And.intro hx1 (And.intro hx2 hx3))
  generalize rB (P * (Q' : Int)) = u1 at *
  generalize rS (P * (Q' : Int)) = u2 at *
  generalize rB ((Q : Int) * P') = v1 at *
  generalize rS ((Q : Int) * P') = v2 at *
  generalize rB (Q : Int) = qb at *
  generalize rS (Q : Int) = qs at *
  generalize rB (Q' : Int) = qb' at *
  generalize rS (Q' : Int) = qs' at *
  generalize rB P = pb at *
  generalize rS P = ps at *
  generalize rB P' = pb' at *
  generalize rS P' = ps' at *
  generalize str (dec Q) = q at *
  generalize str (dec Q') = q' at *
  clear h1 h2 h3 h4 hx1 hx2 hx3
  have he : w.heap.size ≠ w.heap.size + 1 + 1 ∧ w.heap.size + 1 ≠ w.heap.size + 1 + 1 := by omega
  go_enter Tryz.func51, Tryz.ntmps51
  go_wp2_with fail
  go_region_held3 (fun y => (y.cell? ⟨w.heap.size, 0, none⟩ = some (.bool pb) ∧ y.cell? ⟨w.heap.size, 1, none⟩ = some (.string ps) ∧ y.cell? ⟨w.heap.size, 2, none⟩ = some (.string q)) ∧ y.cell? ⟨w.heap.size + 1, 0, none⟩ = some (.bool pb') ∧ y.cell? ⟨w.heap.size + 1, 1, none⟩ = some (.string ps') ∧ y.cell? ⟨w.heap.size + 1, 2, none⟩ = some (.string q'))
    (first
      | (exact ⟨⟨z0.cell, z0.cell1, z0.cell2⟩, z1.cell, z1.cell1, z1.cell2⟩)
      | (exact ⟨⟨BB.out.now.2.2.1.cell, BB.out.now.2.2.1.cell1, BB.out.now.2.2.1.cell2⟩, BB.out.now.2.1.cell, BB.out.now.2.1.cell1, BB.out.now.2.1.cell2⟩))
    (first
      | (go_at_call 87; (with_reducible refine (TA.out _).mono ?_); rintro e w2 ⟨rfl, hb2⟩; have BB := Lib.hid (BB.out.go hb2))
      | (go_at_call 87; (with_reducible refine (TB.out _).mono ?_); rintro e w2 ⟨rfl, hb2⟩; have BB := Lib.hid (BB.out.go hb2))
      | (go_at_call 88; (with_reducible refine (BA.out _).mono ?_); rintro e w2 ⟨rfl, hb2⟩; have BB := Lib.hid (BB.out.go hb2))
      | (go_at_call 88; (with_reducible refine (BB2.out _).mono ?_); rintro e w2 ⟨rfl, hb2⟩; have BB := Lib.hid (BB.out.go hb2))
      | (go_at_call 86; (with_reducible refine (M1.out _).mono ?_); rintro e w2 ⟨rfl, hb2⟩; have BB := Lib.hid (BB.out.go hb2))
      | (go_at_call 86; (with_reducible refine (M2.out _).mono ?_); rintro e w2 ⟨rfl, hb2⟩; have BB := Lib.hid (BB.out.go hb2))
      | (go_at_call 85; (with_reducible refine (NW.out _).mono ?_); rintro e w9 ⟨rfl, hb9⟩; have BB := Lib.hid (BB.out.go hb9); have hs := BB.out.now.1; have r0 := hs.cell; have r1 := hs.cell1; have r2 := hs.cell2; have g0 := hs.free; have g1 := hs.free1; have g2 := hs.free2; have HS := hs.set (.bool x1) (.string x2) (.string x3); have z0 := BB.out.now.2.2.1.set3o he.1 (.bool x1) (.string x2) (.string x3); have z1 := BB.out.now.2.1.set3o he.2 (.bool x1) (.string x2) (.string x3); have HE := Lib.hid (HF.out _ x1 x2 x3 BB.out.below HX.out.1 HX.out.2.1 HX.out.2.2)))
  go_wp2
  exact bodyPost_ret (v := .tuple #[.agg #[.bool x1, .string x2, .string x3], .bool ok]) (by simp [results, Tryz.results51, go_sem, HS]) rfl HE.out

theorem r3Div_someW (P : Int) (Q : Nat) (P' : Int) (Q' : Nat) (w : World) (hQ : 0 < Q) (hP : P' ≠ 0) (h1 : dl P.natAbs ≤ 1200) (h2 : dl Q ≤ 1200) (h3 : dl P'.natAbs ≤ 1200) (h4 : dl Q' ≤ 1200) :
    Calls Tryz.prog 51 #[.agg #[.bool (rB P), .string (rS P), .string (str (dec Q))], .agg #[.bool (rB P'), .string (rS P'), .string (str (dec Q'))]] w fun e w' => NumTold3 w w' e (nwP (P * Q') (P' * Q)) (nwQ (P * Q') (P' * Q)) true := by
  rw [Int.mul_comm P' (Q : Int)]
  exact r3Div_walkW P Q P' Q' w h1 h2 h3 h4 _ _ true (Lib.hid fun wz => r3New_someW _ _ wz (Int.mul_ne_zero (by omega) hP) (Nat.le_trans (dl_mulZW h1 h4) (by omega)) (Nat.le_trans (dl_mulYW h3 h2) (by omega)))

theorem r3Div_zeroW (P : Int) (Q Q' : Nat) (w : World) (h1 : dl P.natAbs ≤ 1200) (h2 : dl Q ≤ 1200) (h4 : dl Q' ≤ 1200) :
    Calls Tryz.prog 51 #[.agg #[.bool (rB P), .string (rS P), .string (str (dec Q))], .agg #[.bool (rB 0), .string (rS 0), .string (str (dec Q'))]] w fun e w' => NumTold3 w w' e 0 1 false :=
  r3Div_walkW P Q 0 Q' w h1 h2 (Nat.le_trans (dl_le _ 1 (by omega) (by decide)) (by omega)) h4 0 1 false (Lib.hid fun wz => by rw [Int.mul_zero]; exact r3New_zero _ wz)

theorem r3Div_anyW (P : Int) (Q : Nat) (P' : Int) (Q' : Nat) (w : World) (hQ : 0 < Q) (h1 : dl P.natAbs ≤ 1200) (h2 : dl Q ≤ 1200) (h3 : dl P'.natAbs ≤ 1200) (h4 : dl Q' ≤ 1200) :
    Calls Tryz.prog 51 #[.agg #[.bool (rB P), .string (rS P), .string (str (dec Q))], .agg #[.bool (rB P'), .string (rS P'), .string (str (dec Q'))]] w fun e w' => NumTold3 w w' e (dvP P Q P' Q') (dvQ P Q P' Q') (!decide (P' = 0)) := by
  unfold dvP dvQ
  by_cases hP : P' = 0
  · subst hP
    rw [if_pos rfl, if_pos rfl, decide_eq_true rfl]
    exact r3Div_zeroW P Q Q' w h1 h2 h4
  · rw [if_neg hP, if_neg hP, decide_eq_false hP]
    exact r3Div_someW P Q P' Q' w hQ hP h1 h2 h3 h4

set_option linter.unusedSimpArgs false in
set_option maxHeartbeats 6400000 in
set_option maxRecDepth 100000 in
theorem r3Mul_anyW (P : Int) (Q : Nat) (P' : Int) (Q' : Nat) (w : World) (hQ : 0 < Q) (hQ' : 0 < Q') (h1 : dl P.natAbs ≤ 1200) (h2 : dl Q ≤ 1200) (h3 : dl P'.natAbs ≤ 1200) (h4 : dl Q' ≤ 1200) :
    Calls Tryz.prog 49 #[.agg #[.bool (rB P), .string (rS P), .string (str (dec Q))], .agg #[.bool (rB P'), .string (rS P'), .string (str (dec Q'))]] w fun e w' => NumTold w w' e (tmP P Q P' Q') (tmQ P Q P' Q') := by
  have BB := Lib.hid (((Bag.start w).box3 (.bool (rB P)) (.string (rS P)) (.string (str (dec Q))) 34).box3 (.bool (rB P')) (.string (rS P')) (.string (str (dec Q'))) 34 |>.box3 (.bool false) (.string ⟨#[]⟩) (.string ⟨#[]⟩) 34 |>.drew)
  simp only [World.size_alloc] at BB
  have TA : Hid (∀ wz, Calls Tryz.prog 87 #[.agg #[.bool (rB P), .string (rS P), .string (str (dec Q))]] wz fun e w' => RTold wz w' e P) := fun wz => r3Top_any P _ wz (by omega)
  have TB : Hid (∀ wz, Calls Tryz.prog 87 #[.agg #[.bool (rB P'), .string (rS P'), .string (str (dec Q'))]] wz fun e w' => RTold wz w' e P') := fun wz => r3Top_any P' _ wz (by omega)
  have BA : Hid (∀ wz, Calls Tryz.prog 88 #[.agg #[.bool (rB P), .string (rS P), .string (str (dec Q))]] wz fun e w' => RTold wz w' e (Q : Int)) := fun wz => r3Bot_any _ _ Q wz (by omega)
  have BB2 : Hid (∀ wz, Calls Tryz.prog 88 #[.agg #[.bool (rB P'), .string (rS P'), .string (str (dec Q'))]] wz fun e w' => RTold wz w' e (Q' : Int)) := fun wz => r3Bot_any _ _ Q' wz (by omega)
  have M1 := Lib.hid (fun wz => rMul_anyW P P' wz (by omega) (by omega))
  have M2 := Lib.hid (fun wz => rMul_anyW (Q : Int) (Q' : Int) wz (by rw [Int.natAbs_natCast]; omega) (by rw [Int.natAbs_natCast]; omega))
  rw [← Int.natCast_mul] at M2
  have NW := Lib.hid (fun wz => r3New_someW (P * P') ((Q * Q' : Nat) : Int) wz (by have := Nat.mul_pos hQ hQ'; omega) (by rw [Int.natAbs_mul]; exact Nat.le_trans (dl_mul4W h1 h3) (by omega)) (by rw [Int.natAbs_natCast]; exact Nat.le_trans (dl_mul4W h2 h4) (by omega)))
  rw [(nw_nat (P * P') (Q := Q * Q')).1, (nw_nat (P * P') (Q := Q * Q')).2, show loP (P * P') (Q * Q') = tmP P Q P' Q' from rfl, show loQ (P * P') (Q * Q') = tmQ P Q P' Q' from rfl] at NW
  generalize tmP P Q P' Q' = X1 at *
  generalize tmQ P Q P' Q' = X2 at *
  have HF := Lib.hid (fun w2 b x y (hb : Below w.heap.size w w2) (h1 : rB X1 = b) (h2 : rS X1 = x) (h3 : str (dec X2) = y) => NumTold.done (k := w.heap.size + 1 + 1) X1 X2 hb (by omega) h1 h2 h3)
  unfold RTold at TA TB BA BB2 M1 M2
  unfold NumTold3 at NW
  obtain ⟨x1, hx1⟩ : ∃ x, rB X1 = x := ⟨_, rfl⟩
  obtain ⟨x2, hx2⟩ : ∃ x, rS X1 = x := ⟨_, rfl⟩
  obtain ⟨x3, hx3⟩ : ∃ x, str (dec X2) = x := ⟨_, rfl⟩
  rw [hx1, hx2, hx3] at NW
  have HX := Lib.hid (And.intro hx1 (And.intro hx2 hx3))
  generalize rB (P * P') = u1 at *
  generalize rS (P * P') = u2 at *
  generalize rB ((Q * Q' : Nat) : Int) = v1 at *
  generalize rS ((Q * Q' : Nat) : Int) = v2 at *
  generalize rB (Q : Int) = qb at *
  generalize rS (Q : Int) = qs at *
  generalize rB (Q' : Int) = qb' at *
  generalize rS (Q' : Int) = qs' at *
  generalize rB P = pb at *
  generalize rS P = ps at *
  generalize rB P' = pb' at *
  generalize rS P' = ps' at *
  generalize str (dec Q) = q at *
  generalize str (dec Q') = q' at *
  clear h1 h2 h3 h4 hx1 hx2 hx3 hQ hQ'
  have HP : Hid (∀ (y : World) (k : Nat) {b0 : Bool} {s0 t0 : ByteArray}, Slot3 y k (.bool b0) (.string s0) (.string t0) → w.heap.size + 1 + 1 < k → Bag w (fun y => Slot3 y (w.heap.size + 1 + 1) (.bool false) (.string ⟨#[]⟩) (.string ⟨#[]⟩) ∧ Slot3 y (w.heap.size + 1) (.bool pb') (.string ps') (.string q') ∧ Slot3 y w.heap.size (.bool pb) (.string ps) (.string q) ∧ True) y → ∀ (z1 : Bool) (z2 z3 : ByteArray), Bag w (fun y => Slot3 y (w.heap.size + 1 + 1) (.bool false) (.string ⟨#[]⟩) (.string ⟨#[]⟩) ∧ Slot3 y (w.heap.size + 1) (.bool pb') (.string ps') (.string q') ∧ Slot3 y w.heap.size (.bool pb) (.string ps) (.string q) ∧ True) (((y.setCell ⟨k, 0, none⟩ (.bool z1)).setCell ⟨k, 1, none⟩ (.string z2)).setCell ⟨k, 2, none⟩ (.string z3))) := by
    intro y k b0 s0 t0 s hk B z1 z2 z3
    have q := B.now
    exact ⟨((B.below.setCell (p := ⟨k, 0, none⟩) (show w.heap.size ≤ k by omega) _).setCell (p := ⟨k, 1, none⟩) (show w.heap.size ≤ k by omega) _).setCell (p := ⟨k, 2, none⟩) (show w.heap.size ≤ k by omega) _, B.stay, q.1.set3o (by omega) _ _ _, q.2.1.set3o (by omega) _ _ _, q.2.2.1.set3o (by omega) _ _ _, trivial⟩
  go_enter Tryz.func49, Tryz.ntmps49
  go_wp2_with fail
  refine wp_region_inv ⟨(fun j => ([[8], [9], [10], [11], [12], [13], [14], [15], [16], [17], [18], [7], [19], [20], [5], [5], [6]] : List (List Nat)).getD j []), (fun j => ([[], [0], [], [0, 1, 2], [0, 1, 2, 3], [], [0, 1, 2, 3, 4, 5], [], [0, 1, 2, 3, 4, 5, 6, 7], [0, 1, 2, 3, 4, 5, 6, 7, 8], [0, 1, 2, 3, 4, 5, 6, 7, 8, 9], [0, 1, 2, 3, 4, 5, 6, 7, 8, 9, 10], [0, 1, 2, 3, 4, 5, 6, 7, 8, 9, 10, 11], [0, 1, 2, 3, 4, 5, 6, 7, 8, 9, 10, 11], [], [0, 1, 2, 3, 4, 5, 6, 7, 8, 9, 10, 11, 12, 14], [0, 1, 2, 3, 4, 5, 6, 7, 8, 9, 10, 11, 12, 13, 14, 15]] : List (List Nat)).getD j []), [14]⟩ (fun jj vv yy => match jj with | 0 => vv = [some (.agg #[.bool pb, .string ps, .string q])] | 1 => vv = [some (.agg #[.bool pb, .string ps])] | 2 => vv = [some (.agg #[.bool pb', .string ps', .string q'])] | 3 => vv = [some (.agg #[.bool pb', .string ps'])] | 4 => vv = [some (.agg #[.bool u1, .string u2])] | 5 => vv = [some (.agg #[.bool pb, .string ps, .string q])] | 6 => vv = [some (.agg #[.bool qb, .string qs])] | 7 => vv = [some (.agg #[.bool pb', .string ps', .string q'])] | 8 => vv = [some (.agg #[.bool qb', .string qs'])] | 9 => vv = [some (.agg #[.bool v1, .string v2])] | 10 => vv = [some (.tuple #[.agg #[.bool x1, .string x2, .string x3], .bool true])] | 11 => vv = [some (.tuple #[.agg #[.bool x1, .string x2, .string x3], .bool true])] | 12 => vv = [some (.agg #[.bool x1, .string x2, .string x3])] | 13 => vv = [some (.bool true)] | 14 => ∃ (k14 : Nat), ∃ (b0 : Bool), ∃ (s0 : ByteArray), ∃ (t0 : ByteArray), vv = [some (.pointer (some ⟨k14, 0, none⟩))] ∧ Slot3 yy k14 (.bool b0) (.string s0) (.string t0) ∧ w.heap.size + 1 + 1 < k14 | 15 => ∃ (k14 : Nat), vv = [some (.pointer (some ⟨k14, 0, none⟩))] ∧ Slot3 yy k14 (.bool x1) (.string x2) (.string x3) | 16 => vv = [some (.bool true)] | _ => True) (Bag w (fun y => Slot3 y (w.heap.size + 1 + 1) (.bool false) (.string ⟨#[]⟩) (.string ⟨#[]⟩) ∧ Slot3 y (w.heap.size + 1) (.bool pb') (.string ps') (.string q') ∧ Slot3 y w.heap.size (.bool pb) (.string ps) (.string q) ∧ True)) (by kernel_rfl) (by kernel_rfl) (by kernel_rfl) BB.out ?_ ?_ ?_
  · intro jj vv yw yw2 hb h
    match jj, h with
    | 0, h => exact h
    | 1, h => exact h
    | 2, h => exact h
    | 3, h => exact h
    | 4, h => exact h
    | 5, h => exact h
    | 6, h => exact h
    | 7, h => exact h
    | 8, h => exact h
    | 9, h => exact h
    | 10, h => exact h
    | 11, h => exact h
    | 12, h => exact h
    | 13, h => exact h
    | 14, ⟨k14, b0, s0, t0, e14, g14_0, g14_1⟩ => exact Exists.intro k14 (Exists.intro b0 (Exists.intro s0 (Exists.intro t0 (And.intro e14 (And.intro (g14_0.below hb) g14_1)))))
    | 15, ⟨k14, e15, g15_0⟩ => exact Exists.intro k14 (And.intro e15 (g15_0.below hb))
    | 16, h => exact h
    | _ + 17, h => exact h
  · intro ac yw hsz hdf hold hB hp
    obtain ⟨k14, e15, hs⟩ := hp 15 (by decide)
    have t5 : ac.tmps[5]? = some (.pointer (some ⟨k14, 0, none⟩)) := (List.cons.inj e15).1
    have t4 : ac.tmps[4]? = some (.pointer (some ⟨w.heap.size + 1 + 1, 0, none⟩)) := hold 4 (by kernel_rfl)
    have e6 := hp 16 (by decide)
    have t6 : ac.tmps[6]? = some (.bool true) := (List.cons.inj e6).1
    clear hold hp e15 e6
    obtain ⟨⟨l⟩, df⟩ := ac
    match l, hsz with
    | [u0, u1, u2, u3, u4, u5, u6, u7, u8, u9, u10, u11, u12, u13, u14, u15, u16, u17, u18, u19, u20, u21], _ =>
    obtain rfl := Option.some.inj (show some u4 = _ from t4)
    obtain rfl := Option.some.inj (show some u5 = _ from t5)
    obtain rfl := Option.some.inj (show some u6 = _ from t6)
    have q0 := hs.cell
    have q1 := hs.cell1
    have q2 := hs.cell2
    have hr := hB.now.1
    have r0 := hr.cell
    have r1 := hr.cell1
    have r2 := hr.cell2
    have g0 := hr.free
    have g1 := hr.free1
    have g2 := hr.free2
    have HS := hr.set (.bool x1) (.string x2) (.string x3)
    have HE := Lib.hid (HF.out _ x1 x2 x3 hB.below HX.out.1 HX.out.2.1 HX.out.2.2)
    clear hr hs hB
    go_wp2
    exact bodyPost_ret (v := .agg #[.bool x1, .string x2, .string x3]) (by simp [results, Tryz.results49, go_sem, HS]) rfl HE.out
  refine Stps.cons (o := _) ?_ ?_
  · intro ac yw hsz hold hB hp K hK
    have t2 : ac.tmps[2]? = some (.pointer (some ⟨w.heap.size, 0, none⟩)) := hold 2 (by kernel_rfl)
    clear hold hp hsz
    have q1 := hB.now.2.1.cell
    have q2 := hB.now.2.1.cell1
    have q3 := hB.now.2.1.cell2
    have r1 := hB.now.2.2.1.cell
    have r2 := hB.now.2.2.1.cell1
    have r3 := hB.now.2.2.1.cell2
    go_simp
    exact hK.out _ _ ⟨hB, rfl, Nat.le_refl _, .inl (Below.refl _ _), fun h => absurd h (by decide)⟩
  refine Stps.cons (o := _) ?_ ?_
  · intro ac yw hsz hold hB hp K hK
    have e0 := hp 0 (by decide)
    have t8 : ac.tmps[8]? = some (.agg #[.bool pb, .string ps, .string q]) := (List.cons.inj e0).1
    clear hold hp hsz e0
    go_simp
    (go_at_call 87; (with_reducible refine (TA.out _).mono ?_); rintro e wz ⟨rfl, hbz⟩)
    exact hK.out _ _ ⟨hB.go hbz, rfl, hbz.size, .inl hbz, fun h => absurd h (by decide)⟩
  refine Stps.cons (o := _) ?_ ?_
  · intro ac yw hsz hold hB hp K hK
    have t3 : ac.tmps[3]? = some (.pointer (some ⟨w.heap.size + 1, 0, none⟩)) := hold 3 (by kernel_rfl)
    clear hold hp hsz
    have q1 := hB.now.2.1.cell
    have q2 := hB.now.2.1.cell1
    have q3 := hB.now.2.1.cell2
    have r1 := hB.now.2.2.1.cell
    have r2 := hB.now.2.2.1.cell1
    have r3 := hB.now.2.2.1.cell2
    go_simp
    exact hK.out _ _ ⟨hB, rfl, Nat.le_refl _, .inl (Below.refl _ _), fun h => absurd h (by decide)⟩
  refine Stps.cons (o := _) ?_ ?_
  · intro ac yw hsz hold hB hp K hK
    have e2 := hp 2 (by decide)
    have t10 : ac.tmps[10]? = some (.agg #[.bool pb', .string ps', .string q']) := (List.cons.inj e2).1
    clear hold hp hsz e2
    go_simp
    (go_at_call 87; (with_reducible refine (TB.out _).mono ?_); rintro e wz ⟨rfl, hbz⟩)
    exact hK.out _ _ ⟨hB.go hbz, rfl, hbz.size, .inl hbz, fun h => absurd h (by decide)⟩
  refine Stps.cons (o := _) ?_ ?_
  · intro ac yw hsz hold hB hp K hK
    have e1 := hp 1 (by decide)
    have t9 : ac.tmps[9]? = some (.agg #[.bool pb, .string ps]) := (List.cons.inj e1).1
    have e3 := hp 3 (by decide)
    have t11 : ac.tmps[11]? = some (.agg #[.bool pb', .string ps']) := (List.cons.inj e3).1
    clear hold hp hsz e1 e3
    go_simp
    (go_at_call 86; (with_reducible refine (M1.out _).mono ?_); rintro e wz ⟨rfl, hbz⟩)
    exact hK.out _ _ ⟨hB.go hbz, rfl, hbz.size, .inl hbz, fun h => absurd h (by decide)⟩
  refine Stps.cons (o := _) ?_ ?_
  · intro ac yw hsz hold hB hp K hK
    have t2 : ac.tmps[2]? = some (.pointer (some ⟨w.heap.size, 0, none⟩)) := hold 2 (by kernel_rfl)
    clear hold hp hsz
    have q1 := hB.now.2.1.cell
    have q2 := hB.now.2.1.cell1
    have q3 := hB.now.2.1.cell2
    have r1 := hB.now.2.2.1.cell
    have r2 := hB.now.2.2.1.cell1
    have r3 := hB.now.2.2.1.cell2
    go_simp
    exact hK.out _ _ ⟨hB, rfl, Nat.le_refl _, .inl (Below.refl _ _), fun h => absurd h (by decide)⟩
  refine Stps.cons (o := _) ?_ ?_
  · intro ac yw hsz hold hB hp K hK
    have e5 := hp 5 (by decide)
    have t13 : ac.tmps[13]? = some (.agg #[.bool pb, .string ps, .string q]) := (List.cons.inj e5).1
    clear hold hp hsz e5
    go_simp
    (go_at_call 88; (with_reducible refine (BA.out _).mono ?_); rintro e wz ⟨rfl, hbz⟩)
    exact hK.out _ _ ⟨hB.go hbz, rfl, hbz.size, .inl hbz, fun h => absurd h (by decide)⟩
  refine Stps.cons (o := _) ?_ ?_
  · intro ac yw hsz hold hB hp K hK
    have t3 : ac.tmps[3]? = some (.pointer (some ⟨w.heap.size + 1, 0, none⟩)) := hold 3 (by kernel_rfl)
    clear hold hp hsz
    have q1 := hB.now.2.1.cell
    have q2 := hB.now.2.1.cell1
    have q3 := hB.now.2.1.cell2
    have r1 := hB.now.2.2.1.cell
    have r2 := hB.now.2.2.1.cell1
    have r3 := hB.now.2.2.1.cell2
    go_simp
    exact hK.out _ _ ⟨hB, rfl, Nat.le_refl _, .inl (Below.refl _ _), fun h => absurd h (by decide)⟩
  refine Stps.cons (o := _) ?_ ?_
  · intro ac yw hsz hold hB hp K hK
    have e7 := hp 7 (by decide)
    have t15 : ac.tmps[15]? = some (.agg #[.bool pb', .string ps', .string q']) := (List.cons.inj e7).1
    clear hold hp hsz e7
    go_simp
    (go_at_call 88; (with_reducible refine (BB2.out _).mono ?_); rintro e wz ⟨rfl, hbz⟩)
    exact hK.out _ _ ⟨hB.go hbz, rfl, hbz.size, .inl hbz, fun h => absurd h (by decide)⟩
  refine Stps.cons (o := _) ?_ ?_
  · intro ac yw hsz hold hB hp K hK
    have e6 := hp 6 (by decide)
    have t14 : ac.tmps[14]? = some (.agg #[.bool qb, .string qs]) := (List.cons.inj e6).1
    have e8 := hp 8 (by decide)
    have t16 : ac.tmps[16]? = some (.agg #[.bool qb', .string qs']) := (List.cons.inj e8).1
    clear hold hp hsz e6 e8
    go_simp
    (go_at_call 86; (with_reducible refine (M2.out _).mono ?_); rintro e wz ⟨rfl, hbz⟩)
    exact hK.out _ _ ⟨hB.go hbz, rfl, hbz.size, .inl hbz, fun h => absurd h (by decide)⟩
  refine Stps.cons (o := _) ?_ ?_
  · intro ac yw hsz hold hB hp K hK
    have e4 := hp 4 (by decide)
    have t12 : ac.tmps[12]? = some (.agg #[.bool u1, .string u2]) := (List.cons.inj e4).1
    have e9 := hp 9 (by decide)
    have t17 : ac.tmps[17]? = some (.agg #[.bool v1, .string v2]) := (List.cons.inj e9).1
    clear hold hp hsz e4 e9
    go_simp
    (go_at_call 85; (with_reducible refine (NW.out _).mono ?_); rintro e wz ⟨rfl, hbz⟩)
    exact hK.out _ _ ⟨hB.go hbz, rfl, hbz.size, .inl hbz, fun h => absurd h (by decide)⟩
  refine Stps.cons (o := _) ?_ ?_
  · intro ac yw hsz hold hB hp K hK
    have e10 := hp 10 (by decide)
    have t18 : ac.tmps[18]? = some (.tuple #[.agg #[.bool x1, .string x2, .string x3], .bool true]) := (List.cons.inj e10).1
    clear hold hp hsz e10
    go_simp
    exact hK.out _ _ ⟨hB, rfl, Nat.le_refl _, .inl (Below.refl _ _), fun h => absurd h (by decide)⟩
  refine Stps.cons (o := _) ?_ ?_
  · intro ac yw hsz hold hB hp K hK
    have e11 := hp 11 (by decide)
    have t7 : ac.tmps[7]? = some (.tuple #[.agg #[.bool x1, .string x2, .string x3], .bool true]) := (List.cons.inj e11).1
    clear hold hp hsz e11
    go_simp
    exact hK.out _ _ ⟨hB, rfl, Nat.le_refl _, .inl (Below.refl _ _), fun h => absurd h (by decide)⟩
  refine Stps.cons (o := _) ?_ ?_
  · intro ac yw hsz hold hB hp K hK
    have e11 := hp 11 (by decide)
    have t7 : ac.tmps[7]? = some (.tuple #[.agg #[.bool x1, .string x2, .string x3], .bool true]) := (List.cons.inj e11).1
    clear hold hp hsz e11
    go_simp
    exact hK.out _ _ ⟨hB, rfl, Nat.le_refl _, .inl (Below.refl _ _), fun h => absurd h (by decide)⟩
  refine Stps.cons (o := _) ?_ ?_
  · intro ac yw hsz hold hB hp K hK
    clear hold hp hsz
    have hk0 := hB.now.1.lt
    have hsl := Slot3.new yw (.bool false) (.string ⟨#[]⟩) (.string ⟨#[]⟩) 34
    have hbz : Below yw.heap.size yw (yw.alloc (.cells #[.bool false, .string ⟨#[]⟩, .string ⟨#[]⟩] 34)) ∧ yw.heap.size < (yw.alloc (.cells #[.bool false, .string ⟨#[]⟩, .string ⟨#[]⟩] 34)).heap.size := ⟨(Below.refl _ _).alloc (Nat.le_refl _) _, by simp⟩
    go_simp
    exact hK.out _ _ ⟨hB.alloc _, Exists.intro yw.heap.size (Exists.intro false (Exists.intro ⟨#[]⟩ (Exists.intro ⟨#[]⟩ (And.intro rfl (And.intro hsl hk0))))), Nat.le_of_lt hbz.2, .inl hbz.1, fun _ => ⟨_, rfl, Nat.le_refl _, hbz.2⟩⟩
  refine Stps.cons (o := _) ?_ ?_
  · intro ac yw hsz hold hB hp K hK
    obtain ⟨k14_14, b0_14, s0_14, t0_14, e14, g14_0, g14_1⟩ := hp 14 (by decide)
    have t5 : ac.tmps[5]? = some (.pointer (some ⟨k14_14, 0, none⟩)) := (List.cons.inj e14).1
    have e12 := hp 12 (by decide)
    have t19 : ac.tmps[19]? = some (.agg #[.bool x1, .string x2, .string x3]) := (List.cons.inj e12).1
    clear hold hp hsz e14 e12
    have hs := g14_0
    have l0 := hs.cell
    have l1 := hs.cell1
    have l2 := hs.cell2
    have f0 := hs.free
    have f1 := hs.free1
    have f2 := hs.free2
    have HB := HP.out _ _ hs g14_1 hB x1 x2 x3
    go_simp
    refine hK.out undef _ ⟨HB, Exists.intro k14_14 (And.intro (congrArg (fun x => [x]) t5) (hs.set3 (.bool x1) (.string x2) (.string x3))), by simp, .inr ?_, fun h => absurd h (by decide)⟩
    intro jj hj hap h
    match jj, h with
    | 0, h => exact h
    | 1, h => exact h
    | 2, h => exact h
    | 3, h => exact h
    | 4, h => exact h
    | 5, h => exact h
    | 6, h => exact h
    | 7, h => exact h
    | 8, h => exact h
    | 9, h => exact h
    | 10, h => exact h
    | 11, h => exact h
    | 12, h => exact h
    | 13, h => exact h
    | 14, ⟨k14, b0, s0, t0, e14, g14_0, g14_1⟩ =>
      have e9 : k14 = k14_14 := by have := (List.cons.inj e14).1.symm.trans t5; cases this; rfl
      subst e9
      exact Exists.intro _ (Exists.intro _ (Exists.intro _ (Exists.intro _ (And.intro e14 (And.intro (g14_0.set3 _ _ _) g14_1)))))
    | 15, _ => exact absurd rfl hj
    | 16, h => exact h
    | _ + 17, h => exact h
  refine Stps.cons (o := _) ?_ ?_
  · intro ac yw hsz hold hB hp K hK
    have e13 := hp 13 (by decide)
    have t20 : ac.tmps[20]? = some (.bool true) := (List.cons.inj e13).1
    clear hold hp hsz e13
    go_simp
    exact hK.out _ _ ⟨hB, rfl, Nat.le_refl _, .inl (Below.refl _ _), fun h => absurd h (by decide)⟩
  exact Stps.nil _

set_option linter.unusedSimpArgs false in
set_option maxHeartbeats 6400000 in
set_option maxRecDepth 100000 in
theorem times10_anyW (P : Int) (Q : Nat) (n : Int) (w : World) (hQ : 0 < Q) (h1 : dl P.natAbs ≤ 1200) (h2 : dl Q ≤ 1200) (hn : n ≤ 1199 ∧ -1199 ≤ n) :
    Calls Tryz.prog 22 #[.agg #[.bool (rB P), .string (rS P), .string (str (dec Q))], .int .i64 n] w fun e w' => NumTold w w' e (ttP P Q n) (ttQ P Q n) := by
  have BB := Lib.hid ((Bag.start w).box3 (.bool (rB P)) (.string (rS P)) (.string (str (dec Q))) 34 |>.box3 (.bool false) (.string ⟨#[]⟩) (.string ⟨#[]⟩) 34)
  simp only [World.size_alloc] at BB
  have he : w.heap.size ≠ w.heap.size + 1 := by omega
  have hs1 : ∀ N : Nat, rS ((10 ^ N : Nat) : Int) = str (dec (10 ^ N)) := fun N => by unfold rS; rw [Int.natAbs_natCast]
  have hb1 : ∀ N : Nat, rB ((10 ^ N : Nat) : Int) = false := fun N => by unfold rB; exact decide_eq_false (Int.not_lt.2 (Int.natCast_nonneg _))
  unfold NumTold ttP ttQ
  by_cases h0 : 0 ≤ n
  · rw [if_pos h0, if_pos h0]
    have d0 : decide (n ≥ 0) = true := decide_eq_true h0
    have d1 : decide (0 ≤ n) = true := decide_eq_true h0
    obtain ⟨N, hN⟩ : ∃ N, n.toNat = N := ⟨_, rfl⟩
    have ZE := Lib.hid (fun wz => zeros_nat n N wz hN (by omega) (by omega))
    rw [hN]
    have hdl := dl_ten N
    have h10 : 0 < 10 ^ N := Nat.pow_pos (by omega)
    have ML := Lib.hid (fun wz => r3Mul_anyW P Q ((10 ^ N : Nat) : Int) 1 wz hQ (by omega) h1 h2 (by rw [Int.natAbs_natCast]; omega) (by have : dl 1 = 1 := (by unfold dl; rfl); omega))
    rw [hs1, hb1, ten_str, dec1] at ML
    unfold NumTold at ML
    have hNb : N ≤ 1199 := by omega
    have hz := str_size (List.replicate N 48)
    rw [List.length_replicate] at hz
    have hov : (9223372036854775807 < 1 + N) = False := eq_false (by omega)
    have hov2 : ((9223372036854775807 : Int) < 1 + (N : Int)) = False := eq_false (by omega)
    clear hs1 hb1 hdl h10 h1 h2 hN
    generalize tmP P Q ((10 ^ N : Nat) : Int) 1 = X1 at *
    generalize tmQ P Q ((10 ^ N : Nat) : Int) 1 = X2 at *
    generalize rB X1 = x1 at *
    generalize rS X1 = x2 at *
    generalize str (dec X2) = x3 at *
    generalize rB P = pb at *
    generalize rS P = ps at *
    generalize str (dec Q) = q at *
    generalize str (List.replicate N 48) = s1 at *
    have BB := Lib.hid BB.out.drew
    go_enter Tryz.func22, Tryz.ntmps22
    go_wp2_with fail
    go_region_held3 (fun y => y.cell? ⟨w.heap.size, 0, none⟩ = some (.bool pb) ∧ y.cell? ⟨w.heap.size, 1, none⟩ = some (.string ps) ∧ y.cell? ⟨w.heap.size, 2, none⟩ = some (.string q))
      (first
        | (exact ⟨z0.cell, z0.cell1, z0.cell2⟩)
        | (exact ⟨BB.out.now.2.1.cell, BB.out.now.2.1.cell1, BB.out.now.2.1.cell2⟩))
      (first
        | (go_at_call 50; (with_reducible refine (ZE.out _).mono ?_); rintro x w2 ⟨rfl, hb2⟩; have BB := Lib.hid (BB.out.go hb2))
        | (go_at_call 49; (with_reducible refine (ML.out _).mono ?_); rintro x w3 ⟨rfl, hb3⟩; have BB := Lib.hid (BB.out.go hb3); have hs := BB.out.now.1; have r0 := hs.cell; have r1 := hs.cell1; have r2 := hs.cell2; have g0 := hs.free; have g1 := hs.free1; have g2 := hs.free2; have HS := hs.set (.bool x1) (.string x2) (.string x3); have z0 := BB.out.now.2.1.set3o he (.bool x1) (.string x2) (.string x3); have HE := Lib.hid (((BB.out.below.setCell (p := ⟨w.heap.size + 1, 0, none⟩) (show w.heap.size ≤ w.heap.size + 1 by omega) (.bool x1)).setCell (p := ⟨w.heap.size + 1, 1, none⟩) (show w.heap.size ≤ w.heap.size + 1 by omega) (.string x2)).setCell (p := ⟨w.heap.size + 1, 2, none⟩) (show w.heap.size ≤ w.heap.size + 1 by omega) (.string x3))))
    go_wp2
    exact bodyPost_ret (v := .agg #[.bool x1, .string x2, .string x3]) (by simp [results, Tryz.results22, go_sem, HS]) rfl ⟨rfl, HE.out⟩
  · rw [if_neg h0, if_neg h0]
    have d0 : decide (n ≥ 0) = false := decide_eq_false h0
    have d1 : decide (0 ≤ n) = false := decide_eq_false h0
    obtain ⟨N, hN⟩ : ∃ N, (-n).toNat = N := ⟨_, rfl⟩
    have i1 : (0 : Int) - n = (N : Int) := by omega
    have i2 : -n = (N : Int) := by omega
    have hw := IntWalk.i64_in (-n) (by omega)
    rw [i2] at hw
    have ZE := Lib.hid (fun wz => zeros_nat (N : Int) N wz (by omega) (by omega) (by omega))
    rw [hN]
    have hdl := dl_ten N
    have h10 : 0 < 10 ^ N := Nat.pow_pos (by omega)
    have ML := Lib.hid (fun wz => r3Div_anyW P Q ((10 ^ N : Nat) : Int) 1 wz hQ h1 h2 (by rw [Int.natAbs_natCast]; omega) (by have : dl 1 = 1 := (by unfold dl; rfl); omega))
    rw [hs1, hb1, ten_str, dec1, decide_eq_false (by omega), Bool.not_false] at ML
    unfold NumTold3 at ML
    have hNb : N ≤ 1199 := by omega
    have hz := str_size (List.replicate N 48)
    rw [List.length_replicate] at hz
    have hov : (9223372036854775807 < 1 + N) = False := eq_false (by omega)
    have hov2 : ((9223372036854775807 : Int) < 1 + (N : Int)) = False := eq_false (by omega)
    clear hs1 hb1 hdl h10 h1 h2 hN
    generalize dvP P Q ((10 ^ N : Nat) : Int) 1 = X1 at *
    generalize dvQ P Q ((10 ^ N : Nat) : Int) 1 = X2 at *
    generalize rB X1 = x1 at *
    generalize rS X1 = x2 at *
    generalize str (dec X2) = x3 at *
    generalize rB P = pb at *
    generalize rS P = ps at *
    generalize str (dec Q) = q at *
    generalize str (List.replicate N 48) = s1 at *
    go_enter Tryz.func22, Tryz.ntmps22
    go_wp2_with fail
    have HP : Hid (∀ (y : World) (k9 : Nat) {x0 y0 z0 : Value}, Slot3 y k9 x0 y0 z0 → w.heap.size + 1 < k9 → Bag w (fun y => Slot3 y (w.heap.size + 1) (.bool false) (.string ⟨#[]⟩) (.string ⟨#[]⟩) ∧ Slot3 y w.heap.size (.bool pb) (.string ps) (.string q) ∧ True) y → ∀ u v t : Value, Bag w (fun y => Slot3 y (w.heap.size + 1) (.bool false) (.string ⟨#[]⟩) (.string ⟨#[]⟩) ∧ Slot3 y w.heap.size (.bool pb) (.string ps) (.string q) ∧ True) (((y.setCell ⟨k9, 0, none⟩ u).setCell ⟨k9, 1, none⟩ v).setCell ⟨k9, 2, none⟩ t)) := by
      intro y k9 x0 y0 z0 s hk B u v t
      have q := B.now
      exact ⟨((B.below.setCell (p := ⟨k9, 0, none⟩) (show w.heap.size ≤ k9 by omega) _).setCell (p := ⟨k9, 1, none⟩) (show w.heap.size ≤ k9 by omega) _).setCell (p := ⟨k9, 2, none⟩) (show w.heap.size ≤ k9 by omega) _, B.stay, q.1.set3o (by omega) _ _ _, q.2.1.set3o (by omega) _ _ _, trivial⟩
    refine wp_region_inv2 ⟨(fun j => ([[16], [17], [18], [19], [20], [21], [22], [15], [23], [24], [5], [5], [6]] : List (List Nat)).getD j []), (fun j => ([[], [], [1], [1, 2], [1, 2, 3], [1, 2, 3, 4], [0, 1, 2, 3, 4, 5], [0, 1, 2, 3, 4, 5, 6], [0, 1, 2, 3, 4, 5, 6, 7], [0, 1, 2, 3, 4, 5, 6, 7], [], [0, 1, 2, 3, 4, 5, 6, 7, 8, 10], [0, 1, 2, 3, 4, 5, 6, 7, 8, 9, 10, 11]] : List (List Nat)).getD j []), [10]⟩ (fun jj vv yy => match jj with | 0 => vv = [some (.agg #[.bool pb, .string ps, .string q])] | 1 => vv = [some (.int .i64 n)] | 2 => vv = [some (.int .i64 (N : Int))] | 3 => vv = [some (.string s1)] | 4 => vv = [some (.string (⟨#[49]⟩ ++ s1))] | 5 => vv = [some (.agg #[.bool false, .string (⟨#[49]⟩ ++ s1), .string ⟨#[49]⟩])] | 6 => vv = [some (.tuple #[.agg #[.bool x1, .string x2, .string x3], .bool true])] | 7 => vv = [some (.tuple #[.agg #[.bool x1, .string x2, .string x3], .bool true])] | 8 => vv = [some (.agg #[.bool x1, .string x2, .string x3])] | 9 => vv = [some (.bool true)] | 10 => ∃ (k10 : Nat), ∃ (x0 : Value), ∃ (y0 : Value), ∃ (z0 : Value), vv = [some (.pointer (some ⟨k10, 0, none⟩))] ∧ Slot3 yy k10 x0 y0 z0 ∧ w.heap.size + 1 < k10 | 11 => ∃ (k10 : Nat), vv = [some (.pointer (some ⟨k10, 0, none⟩))] ∧ Slot3 yy k10 (.bool x1) (.string x2) (.string x3) | 12 => vv = [some (.bool true)] | _ => True) (Bag w (fun y => Slot3 y (w.heap.size + 1) (.bool false) (.string ⟨#[]⟩) (.string ⟨#[]⟩) ∧ Slot3 y w.heap.size (.bool pb) (.string ps) (.string q) ∧ True)) (by kernel_rfl) (by kernel_rfl) (by kernel_rfl) BB.out.drew ?_ ?_ ?_
    · intro jj vv yw yw2 hb h
      match jj, h with
      | 0, h => exact h
      | 1, h => exact h
      | 2, h => exact h
      | 3, h => exact h
      | 4, h => exact h
      | 5, h => exact h
      | 6, h => exact h
      | 7, h => exact h
      | 8, h => exact h
      | 9, h => exact h
      | 10, ⟨k10, x0, y0, z0, e10, g10_0, g10_1⟩ => exact Exists.intro k10 (Exists.intro x0 (Exists.intro y0 (Exists.intro z0 (And.intro e10 (And.intro (g10_0.below hb) g10_1)))))
      | 11, ⟨k10, e11, g11_0⟩ => exact Exists.intro k10 (And.intro e11 (g11_0.below hb))
      | 12, h => exact h
      | _ + 13, h => exact h
    · intro ac yw hsz hdf hold hB hp
      obtain ⟨k10, e11, sA⟩ := hp 11 (by decide)
      have t5 : ac.tmps[5]? = some (.pointer (some ⟨k10, 0, none⟩)) := (List.cons.inj e11).1
      have t4 : ac.tmps[4]? = some (.pointer (some ⟨w.heap.size + 1, 0, none⟩)) := hold 4 (by kernel_rfl)
      clear hold hp e11
      obtain ⟨TV, hTV⟩ : ∃ TV : Nat → Value, ∀ i, (ac.tmps[i]?).getD undef = TV i := ⟨_, fun _ => rfl⟩
      have f4 := (hTV 4).symm.trans (congrArg (fun x => Option.getD x undef) t4)
      have f5 := (hTV 5).symm.trans (congrArg (fun x => Option.getD x undef) t5)
      have hac := act_eq (n := 26) hsz TV hTV
      rw [show ((List.range 26).map TV).toArray = #[TV 0, TV 1, TV 2, TV 3, TV 4, TV 5, TV 6, TV 7, TV 8, TV 9, TV 10, TV 11, TV 12, TV 13, TV 14, TV 15, TV 16, TV 17, TV 18, TV 19, TV 20, TV 21, TV 22, TV 23, TV 24, TV 25] from rfl, f4, f5, hdf] at hac
      simp only [Option.getD_some] at hac
      subst hac
      clear hTV f4 f5
      have hs := hB.now.1
      have q0 := sA.cell
      have q1 := sA.cell1
      have q2 := sA.cell2
      have r0 := hs.cell
      have r1 := hs.cell1
      have r2 := hs.cell2
      have g0 := hs.free
      have g1 := hs.free1
      have g2 := hs.free2
      have HS := hs.set (.bool x1) (.string x2) (.string x3)
      have HE := Lib.hid (((hB.below.setCell (p := ⟨w.heap.size + 1, 0, none⟩) (show w.heap.size ≤ w.heap.size + 1 by omega) (.bool x1)).setCell (p := ⟨w.heap.size + 1, 1, none⟩) (show w.heap.size ≤ w.heap.size + 1 by omega) (.string x2)).setCell (p := ⟨w.heap.size + 1, 2, none⟩) (show w.heap.size ≤ w.heap.size + 1 by omega) (.string x3))
      clear hB sA hs t4 t5 HP ZE ML
      go_wp2
      exact bodyPost_ret (v := .agg #[.bool x1, .string x2, .string x3]) (by simp [results, Tryz.results22, go_sem, HS]) rfl ⟨rfl, HE.out⟩
    refine Stps2.cons (o := _) ?_ ?_
    · intro ac yw hsz hold hB hp K hK
      have t2 : ac.tmps[2]? = some (.pointer (some ⟨w.heap.size, 0, none⟩)) := hold 2 (by kernel_rfl)
      clear hold hp hsz
      have v0 := hB.now.2.1.cell
      have v1 := hB.now.2.1.cell1
      have v2 := hB.now.2.1.cell2
      go_simp
      exact hK.out _ _ ⟨hB, rfl, Nat.le_refl _, .inl (Below.refl _ _), fun h => absurd h (by decide)⟩
    refine Stps2.cons (o := _) ?_ ?_
    · intro ac yw hsz hold hB hp K hK
      have t1 : ac.tmps[1]? = some (.int .i64 n) := hold 1 (by kernel_rfl)
      clear hold hp hsz
      go_simp
      exact hK.out _ _ ⟨hB, rfl, Nat.le_refl _, .inl (Below.refl _ _), fun h => absurd h (by decide)⟩
    refine Stps2.cons (o := _) ?_ ?_
    · intro ac yw hsz hold hB hp K hK
      have e1 := hp 1 (by decide)
      have t17 : ac.tmps[17]? = some (.int .i64 n) := (List.cons.inj e1).1
      clear hold hp hsz e1
      go_simp
      exact hK.out _ _ ⟨hB, rfl, Nat.le_refl _, .inl (Below.refl _ _), fun h => absurd h (by decide)⟩
    refine Stps2.cons (o := _) ?_ ?_
    · intro ac yw hsz hold hB hp K hK
      have e2 := hp 2 (by decide)
      have t18 : ac.tmps[18]? = some (.int .i64 (N : Int)) := (List.cons.inj e2).1
      clear hold hp hsz e2
      go_simp
      (go_at_call 50; (with_reducible refine (ZE.out _).mono ?_); rintro e wz ⟨rfl, hbz⟩)
      exact hK.out _ _ ⟨hB.go hbz, rfl, hbz.size, .inl hbz, fun h => absurd h (by decide)⟩
    refine Stps2.cons (o := _) ?_ ?_
    · intro ac yw hsz hold hB hp K hK
      have e3 := hp 3 (by decide)
      have t19 : ac.tmps[19]? = some (.string s1) := (List.cons.inj e3).1
      clear hold hp hsz e3
      go_simp
      exact hK.out _ _ ⟨hB, rfl, Nat.le_refl _, .inl (Below.refl _ _), fun h => absurd h (by decide)⟩
    refine Stps2.cons (o := _) ?_ ?_
    · intro ac yw hsz hold hB hp K hK
      have e4 := hp 4 (by decide)
      have t20 : ac.tmps[20]? = some (.string (⟨#[49]⟩ ++ s1)) := (List.cons.inj e4).1
      clear hold hp hsz e4
      go_simp
      exact hK.out _ _ ⟨hB, rfl, Nat.le_refl _, .inl (Below.refl _ _), fun h => absurd h (by decide)⟩
    refine Stps2.cons (o := _) ?_ ?_
    · intro ac yw hsz hold hB hp K hK
      have e0 := hp 0 (by decide)
      have t16 : ac.tmps[16]? = some (.agg #[.bool pb, .string ps, .string q]) := (List.cons.inj e0).1
      have e5 := hp 5 (by decide)
      have t21 : ac.tmps[21]? = some (.agg #[.bool false, .string (⟨#[49]⟩ ++ s1), .string ⟨#[49]⟩]) := (List.cons.inj e5).1
      clear hold hp hsz e0 e5
      go_simp
      (go_at_call 51; (with_reducible refine (ML.out _).mono ?_); rintro e wz ⟨rfl, hbz⟩)
      exact hK.out _ _ ⟨hB.go hbz, rfl, hbz.size, .inl hbz, fun h => absurd h (by decide)⟩
    refine Stps2.cons (o := _) ?_ ?_
    · intro ac yw hsz hold hB hp K hK
      have e6 := hp 6 (by decide)
      have t22 : ac.tmps[22]? = some (.tuple #[.agg #[.bool x1, .string x2, .string x3], .bool true]) := (List.cons.inj e6).1
      clear hold hp hsz e6
      go_simp
      exact hK.out _ _ ⟨hB, rfl, Nat.le_refl _, .inl (Below.refl _ _), fun h => absurd h (by decide)⟩
    refine Stps2.cons (o := _) ?_ ?_
    · intro ac yw hsz hold hB hp K hK
      have e7 := hp 7 (by decide)
      have t15 : ac.tmps[15]? = some (.tuple #[.agg #[.bool x1, .string x2, .string x3], .bool true]) := (List.cons.inj e7).1
      clear hold hp hsz e7
      go_simp
      exact hK.out _ _ ⟨hB, rfl, Nat.le_refl _, .inl (Below.refl _ _), fun h => absurd h (by decide)⟩
    refine Stps2.cons (o := _) ?_ ?_
    · intro ac yw hsz hold hB hp K hK
      have e7 := hp 7 (by decide)
      have t15 : ac.tmps[15]? = some (.tuple #[.agg #[.bool x1, .string x2, .string x3], .bool true]) := (List.cons.inj e7).1
      clear hold hp hsz e7
      go_simp
      exact hK.out _ _ ⟨hB, rfl, Nat.le_refl _, .inl (Below.refl _ _), fun h => absurd h (by decide)⟩
    refine Stps2.cons (o := _) ?_ ?_
    · intro ac yw hsz hold hB hp K hK
      clear hold hp hsz
      have hk0 := hB.now.1.lt
      have hsl := Slot3.new yw (.bool false) (.string ⟨#[]⟩) (.string ⟨#[]⟩) 34
      have hbz : Below yw.heap.size yw (yw.alloc (.cells #[.bool false, .string ⟨#[]⟩, .string ⟨#[]⟩] 34)) ∧ yw.heap.size < (yw.alloc (.cells #[.bool false, .string ⟨#[]⟩, .string ⟨#[]⟩] 34)).heap.size := ⟨(Below.refl _ _).alloc (Nat.le_refl _) _, by simp⟩
      go_simp
      exact hK.out _ _ ⟨hB.alloc _, Exists.intro yw.heap.size (Exists.intro (.bool false) (Exists.intro (.string ⟨#[]⟩) (Exists.intro (.string ⟨#[]⟩) (And.intro rfl (And.intro hsl hk0))))), Nat.le_of_lt hbz.2, .inl hbz.1, fun _ => ⟨_, rfl, Nat.le_refl _, hbz.2⟩⟩
    refine Stps2.cons (o := _) ?_ ?_
    · intro ac yw hsz hold hB hp K hK
      obtain ⟨k10_10, x0_10, y0_10, z0_10, e10, g10_0, g10_1⟩ := hp 10 (by decide)
      have t5 : ac.tmps[5]? = some (.pointer (some ⟨k10_10, 0, none⟩)) := (List.cons.inj e10).1
      have e8 := hp 8 (by decide)
      have t23 : ac.tmps[23]? = some (.agg #[.bool x1, .string x2, .string x3]) := (List.cons.inj e8).1
      clear hold hp hsz e10 e8
      have hs := g10_0
      have l0 := hs.cell
      have l1 := hs.cell1
      have l2 := hs.cell2
      have f0 := hs.free
      have f1 := hs.free1
      have f2 := hs.free2
      have HB := HP.out _ _ hs g10_1 hB (.bool x1) (.string x2) (.string x3)
      go_simp
      refine hK.out undef _ ⟨HB, Exists.intro k10_10 (And.intro (congrArg (fun x => [x]) t5) (hs.set3 (.bool x1) (.string x2) (.string x3))), by simp, .inr ?_, fun h => absurd h (by decide)⟩
      intro jj hj hap h
      match jj, h with
      | 0, h => exact h
      | 1, h => exact h
      | 2, h => exact h
      | 3, h => exact h
      | 4, h => exact h
      | 5, h => exact h
      | 6, h => exact h
      | 7, h => exact h
      | 8, h => exact h
      | 9, h => exact h
      | 10, ⟨k10, x0, y0, z0, e10, g10_0, g10_1⟩ =>
        have e9 : k10 = k10_10 := by have := (List.cons.inj e10).1.symm.trans t5; cases this; rfl
        subst e9
        exact Exists.intro _ (Exists.intro _ (Exists.intro _ (Exists.intro _ (And.intro e10 (And.intro (g10_0.set3 _ _ _) g10_1)))))
      | 11, _ => exact absurd rfl hj
      | 12, h => exact h
      | _ + 13, h => exact h
    refine Stps2.cons (o := _) ?_ ?_
    · intro ac yw hsz hold hB hp K hK
      have e9 := hp 9 (by decide)
      have t24 : ac.tmps[24]? = some (.bool true) := (List.cons.inj e9).1
      clear hold hp hsz e9
      go_simp
      exact hK.out _ _ ⟨hB, rfl, Nat.le_refl _, .inl (Below.refl _ _), fun h => absurd h (by decide)⟩
    exact Stps2.nil _

end Go.Proofs.YtgpcfncolhmgfaaGreatDoor
