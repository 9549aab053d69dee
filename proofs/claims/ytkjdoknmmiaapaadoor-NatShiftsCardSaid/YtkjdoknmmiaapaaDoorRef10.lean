/-
  The document's answers (package typeballref01): DivMod, by contract: the walk.
-/
import Derived.Test.YtkjdoknmmiaapaaDoorRef9
import Derived.Test.YtkjdoknmmiaapaaDoorRef3
namespace Go.Proofs.YtkjdoknmmiaapaaDoor
open Go.RowKit

set_option maxHeartbeats 1600000 in
set_option maxRecDepth 100000 in
theorem rdivMod_any (x y : Nat) (w : World) (hx : dl x ≤ 900) (hy : dl y ≤ 900) (hy0 : 0 < y) :
    Calls Tryd.prog 40 #[.string (str (dec x)), .string (str (dec y))] w fun e w' => e = .returned (.tuple #[.string (str (dec (x / y))), .string (str (dec (x % y)))]) ∧ Below w.heap.size w w' := by
  obtain ⟨i0, hi, hz0, hz1, hz2⟩ := info_parts infoB
  obtain ⟨n, hn⟩ : ∃ n, dl x = n := ⟨_, rfl⟩
  have hn0 : 0 < n := by rw [← hn]; exact dl_pos x
  have hxn : x < 10 ^ n := by rw [← hn]; exact dl_lt x
  have ha : str (dec x) = str (sdig x n) := by unfold dec; rw [hn]
  have hsz : (str (sdig x n)).size = n := by rw [str_size, sdig_length]
  rw [ha]
  have HRD : Hid (∀ R k (h : k < (str (sdig x n)).size), str (dec R) ++ (str (sdig x n)).extract k (k + 1) = str (sdig (10 * R + d10 x (n - 1 - k)) (dl R + 1))) := fun R k h => rest_digit R x n k (by omega) h
  obtain ⟨a, hae⟩ : ∃ a, str (sdig x n) = a := ⟨_, rfl⟩
  rw [hae] at hsz HRD ⊢
  have hb : ∀ R, dl R ≤ 1000 → ∀ wz, Calls Tryd.prog 33 #[.string (str (dec R)), .string (str (dec y))] wz fun e w' => e = .returned (.int .i64 (cmpI R y)) ∧ wz = w' := fun R hR wz => rcmp_any R y wz (by omega) (by omega)
  have hs : ∀ R, y ≤ R → dl R ≤ 1000 → ∀ wz, Calls Tryd.prog 34 #[.string (str (dec R)), .string (str (dec y))] wz fun e w' => e = .returned (.string (str (dec (R - y)))) ∧ Below wz.heap.size wz w' := fun R hR hl wz => rsub_any R (dl R) y (dl y) wz (dl_lt _) (dl_lt _) hl (by omega) hR
  obtain ⟨b, hbe⟩ : ∃ b, str (dec y) = b := ⟨_, rfl⟩
  rw [hbe] at hb hs ⊢
  have CM := Lib.hid hb
  have SB := Lib.hid hs
  have HX := Lib.hid hxn
  have HI := Lib.hid hi
  have HY := Lib.hid hy0
  have hnl : n ≤ 900 := by omega
  have HYL := Lib.hid hy
  obtain ⟨z, hz, hmk⟩ := make_bytes a.size (by omega)
  have H0 : Hid (WrI w (w.alloc (.cells z 5)) w.heap.size (x / y) n (.slice (some ⟨w.heap.size, 0, none⟩) 0 a.size) 0) :=
    ⟨(Below.refl _ _).alloc (Nat.le_refl _) _, World.ownsRow_made w z a.size (Nat.le_refl _) (by unfold maxLen; omega) (by omega)⟩
  have HSZ := Lib.hid hsz
  have hal : a.size ≤ 900 := by omega
  have HR0 : Hid (0 = x / 10 ^ (n - 0) % y) := by show _ = _; rw [Nat.sub_zero, Nat.div_eq_of_lt hxn, Nat.zero_mod]
  have hd0 : (⟨#[48]⟩ : ByteArray) = str (dec 0) := by rw [dec_zero]; rfl
  have HD0 := Lib.hid hd0
  clear hb hs hxn hi hy0 hz hsz ha hae hbe hn hx hy hd0
  go_enter Tryd.func40, Tryd.ntmps40
  go_wp2
  go_loopw [6, 7, 8] (fun D rs i wr => ∃ (k R : Nat) (V : Value) (r : ByteArray), k ≤ a.size ∧ i = .int .i64 k ∧ rs = .string r ∧ Hid (r = str (dec R)) ∧ Hid (R = x / 10 ^ (n - k) % y) ∧ V = D ∧ WrI w wr w.heap.size (x / y) n V k)
    (fun _ _ i _ => a.size - (intOf i).toNat)
  case atStart => exact ⟨0, 0, _, _, by omega, rfl, rfl, HD0.out, HR0.out, rfl, H0.out⟩
  case round =>
    obtain ⟨k, R, V, r, hk, rfl, rfl, hr, hR, rfl, hw⟩ := hrel
    by_cases hlt : k < a.size
    · have hkn : k < n := by have := HSZ.out; omega
      have hRD := HRD.out R k hlt
      rw [← hr.out] at hRD
      obtain ⟨T, hT⟩ : ∃ T, 10 * R + d10 x (n - 1 - k) = T := ⟨_, rfl⟩
      obtain ⟨g1, g2⟩ := div_step x y k n HY.out hkn R hR.out
      rw [hT] at g1 g2 hRD
      have hRl : R < y := by rw [hR.out]; exact Nat.mod_lt _ HY.out
      have hdR : dl R ≤ 900 := by
        have h1 := HYL.out
        refine Nat.le_trans (dl_le R (dl y) (dl_pos y) (Nat.lt_trans hRl (dl_lt y))) h1
      have hTl : T < 10 ^ (dl R + 1) := by
        have h1 := dl_lt R
        have h2 := d10_lt x (n - 1 - k)
        rw [Nat.pow_succ]; omega
      have hT10 : T < 10 * y := by have h2 := d10_lt x (n - 1 - k); omega
      have hdT : dl T ≤ 1000 := by have := dl_le T (dl R + 1) (by omega) hTl; omega
      have TR : Hid (∀ wz, Calls Tryd.prog 18 #[.string (r ++ a.extract k (k + 1))] wz fun e w' => e = .returned (.string (str (dec T))) ∧ wz = w') := by
        intro wz
        rw [hRD]
        exact trim_any T (dl R + 1) wz (by omega) hTl (by omega)
      have HT0 : Hid (str (dec T) = str (dec (T - 0 * y)) ∧ 0 * y ≤ T) := ⟨by simp, by simp⟩
      obtain ⟨t, ht⟩ : ∃ t, str (dec T) = t := ⟨_, rfl⟩
      rw [ht] at TR HT0
      have G1 := Lib.hid g1
      have G2 := Lib.hid g2
      have HW := Lib.hid hw
      have HDT := Lib.hid hdT
      have HT10 := Lib.hid hT10
      have hrsz : r.size ≤ 900 := by rw [hr.out, str_size]; unfold dec; rw [sdig_length]; exact hdR
      clear hRD g1 g2 hRl hdR hTl hT10 hdT ht hw hr hR hT
      go_wp2_with (go_at_call 18; (with_reducible refine (TR.out _).mono ?_); rintro e w1 ⟨rfl, rfl⟩)
      go_loopw [7, 9] (fun rs c wi => ∃ (cc : Nat) (r2 : ByteArray), cc ≤ 9 ∧ c = .int .i64 cc ∧ rs = .string r2 ∧ Hid (r2 = str (dec (T - cc * y)) ∧ cc * y ≤ T) ∧ WrI w wi w.heap.size (x / y) n V k)
        (fun _ c _ => 10 - (intOf c).toNat)
      case atStart => exact ⟨0, _, by omega, rfl, rfl, HT0.out, HW.out⟩
      case round =>
        obtain ⟨cc, r2, hcc, rfl, rfl, hr2, hwi⟩ := hrel
        have hdS : dl (T - cc * y) ≤ 1000 := Nat.le_trans (dl_le _ (dl T) (dl_pos T) (Nat.lt_of_le_of_lt (Nat.sub_le _ _) (dl_lt T))) HDT.out
        have CMS := CM.out (T - cc * y) hdS
        rw [← hr2.out.1] at CMS
        by_cases hge : y ≤ T - cc * y
        · obtain ⟨q, hq⟩ := cmp_pos hge
          rw [hq] at CMS
          have SBS := SB.out (T - cc * y) hge hdS
          rw [← hr2.out.1] at SBS
          have hmul : (cc + 1) * y = cc * y + y := by rw [Nat.add_mul, Nat.one_mul]
          have hnx : (T - cc * y - y = T - (cc + 1) * y) ∧ (cc + 1) * y ≤ T := ⟨by rw [hmul]; omega, by rw [hmul]; have := HY.out; omega⟩
          have hc9 : cc + 1 ≤ 9 := by
            rcases Nat.lt_or_ge cc 9 with h | h
            · omega
            · have h1 := Nat.mul_le_mul_right y (show 10 ≤ cc + 1 by omega)
              rw [hmul] at h1
              have := HT10.out; omega
          have HNX : Hid (str (dec (T - cc * y - y)) = str (dec (T - (cc + 1) * y)) ∧ (cc + 1) * y ≤ T) := ⟨by rw [hnx.1], hnx.2⟩
          obtain ⟨t2, ht2⟩ : ∃ t2, str (dec (T - cc * y - y)) = t2 := ⟨_, rfl⟩
          rw [ht2] at HNX SBS
          have C1 := Lib.hid CMS
          have S1 := Lib.hid SBS
          have HWI := Lib.hid hwi
          have d1 : decide ((cc : Int) < 10) = true := decide_eq_true (by omega)
          clear CMS SBS hmul hnx hge hq hdS hr2 hwi ht2
          go_wp2_with fail
          go_at_call 33
          (with_reducible refine (C1.out _).mono ?_)
          rintro e w2 ⟨rfl, rfl⟩
          go_wp2_with fail
          go_at_call 34
          (with_reducible refine (S1.out _).mono ?_)
          rintro e w3 ⟨rfl, hb3⟩
          have HW3 : Hid (WrI w w3 w.heap.size (x / y) n V k) := ⟨HWI.out.below.trans (hb3.mono HWI.out.below.size), HWI.out.own.below hb3⟩
          clear hb3
          go_wp2
          go_roundw
          case rel => exact ⟨cc + 1, t2, hc9, by go_num, rfl, HNX.out, HW3.out⟩
          case measure => simp [intOf]; omega
        · rw [cmp_neg (show T - cc * y < y by omega)] at CMS
          have C1 := Lib.hid CMS
          have hy0 := HY.out
          have hqT : T / y = cc := by
            have h1 : T = cc * y + (T - cc * y) := by have := hr2.out.2; omega
            rw [h1, Nat.add_comm, Nat.add_mul_div_right _ _ hy0, Nat.div_eq_of_lt (by omega)]; omega
          have hrT : T % y = T - cc * y := by
            have h1 : T = cc * y + (T - cc * y) := by have := hr2.out.2; omega
            have h2 : (cc * y + (T - cc * y)) % y = T - cc * y := by rw [Nat.add_comm, Nat.add_mul_mod_self_right, Nat.mod_eq_of_lt (by omega)]
            rw [← h1] at h2; exact h2
          obtain ⟨yy, hyy⟩ : ∃ yy, 48 + cc = yy := ⟨_, rfl⟩
          have e2 : (48 : Int) + (cc : Int) = (yy : Int) := by omega
          have e3 : (yy : Int) % 256 = (yy : Int) := by omega
          have HYD : Hid (yy = dg (x / y) (n - 1 - k)) := by show _ = _; rw [dg_d10, ← G1.out, hqT, hyy]
          have HRN : Hid (r2 = str (dec (T - cc * y)) ∧ T - cc * y = x / 10 ^ (n - (k + 1)) % y) := ⟨hr2.out.1, by rw [← hrT]; exact G2.out⟩
          have HWI := Lib.hid hwi
          have hzr : w.heap.size ≤ wr.heap.size := hwi.below.size
          have hkn1 : k + 1 ≤ a.size := hlt
          have hccl : cc ≤ 9 := hcc
          clear CMS hge hdS hr2 hwi hqT hrT hyy hy0
          go_wp2_with fail
          go_at_call 33
          (with_reducible refine (C1.out _).mono ?_)
          rintro e w2 ⟨rfl, rfl⟩
          go_wp2_with (at_builtin; refine wpList_append_own _ rfl _ _ 88 rfl w.heap.size 5 i0 (.int .u8 0) 1 1 Tryd.underlying88 HI.out hz0 hz1 hz2 rfl (by decide) _ _ _ rfl (World.ownsRow.alloc HWI.out.own _) ⟨wr.heap.size, 0, none⟩ 1 1 [.int .u8 yy] rfl rfl (cell_one_at _ _ _) (one_cell_list _ _) (by unfold maxLen; omega) (by omega) (by rw [World.size_alloc]; omega) ?_; intro v' w5 hown' hgrow _)
          have hb5 : Below w.heap.size w w5 := (HWI.out.below.alloc hzr _).grown hgrow (by rw [World.size_alloc]; omega) (fun q hq => (World.ownsRow.lt HWI.out.own q hq).1)
          have hown2 : OwnL w5 w.heap.size 5 .u8 v' (k + 1) (fun j => dg (x / y) (n - 1 - j)) := by
            rw [cl_snoc, cl_congr (g := fun j => dg (x / y) (n - 1 - j)) (fun j hj => by
              by_cases e : j = k
              · rw [if_pos e, HYD.out, e]
              · rw [if_neg e])] at hown'
            exact hown'
          have HG5 := Lib.hid (show WrI w w5 w.heap.size (x / y) n v' (k + 1) from ⟨hb5, hown2⟩)
          clear hown' hgrow hb5 hown2
          go_wp2
          go_roundw
          case rel => exact ⟨k + 1, T - cc * y, v', r2, hkn1, by go_num, rfl, HRN.out.1, HRN.out.2, rfl, HG5.out⟩
          case measure => simp [intOf]; omega
    · obtain rfl : k = a.size := by omega
      have hsz' := HSZ.out
      have hRx : R = x % y := by rw [hR.out, hsz', Nat.sub_self, Nat.pow_zero, Nat.div_one]
      have hdx := Nat.div_le_self x y
      rcases hw.own.cases with ⟨hV, hk0⟩ | ⟨g, c2, rfl, hc2, hgb, hgl, hgc, hgf⟩
      · exfalso; omega
      · have hcv := run_convert_bytes_arg (P := Tryd.prog) (w := wr) 88 5 Tryd.underlying88 Tryd.underlying5 g 0 a.size c2 ((List.range a.size).map fun j => ((dg (x / y) (n - 1 - j) : Nat) : Int)) (by simp) (fun j hj => by rw [hgc j hj]; simp [hj]) 9 Tryd.underlying9
        have hst : strOfNums ((List.range a.size).map fun j => ((dg (x / y) (n - 1 - j) : Nat) : Int)) = str (sdig (x / y) n) := by
          rw [hsz']
          refine str_of ?_
          rw [strOfNums_data]
          apply List.ext_getElem?
          intro j
          by_cases hj : j < n
          · rw [sdig_get (x / y) n j hj, List.getElem?_map, List.getElem?_map, List.getElem?_range hj]
            simp only [Option.map_some]
            rw [Int.toNat_natCast]; rfl
          · rw [List.getElem?_eq_none (by simp; omega), List.getElem?_eq_none (by rw [sdig_length]; omega)]
        rw [hst] at hcv
        have HT := Lib.hid (trim_any (x / y) n wr (by omega) (Nat.lt_of_le_of_lt hdx HX.out) (by omega))
        have HB := Lib.hid hw.below
        have HRR : Hid (r = str (dec (x % y))) := by show _ = _; rw [hr.out, hRx]
        clear hw hgc hgf hst hr hR hRx hsz'
        go_wp2_with fail
        go_at_call 18
        refine HT.out.mono ?_
        rintro e w7 ⟨rfl, rfl⟩
        clear hcv
        go_wp2
        go_ret2
        exact ⟨by rw [HRR.out]; rfl, HB.out⟩

end Go.Proofs.YtkjdoknmmiaapaaDoor
