/-
  The document's answers (package typeballref01): Trim, written, Of, by contract.
-/
import Derived.Test.YtkjdoknmmiaapaaDoorNat21
namespace Go.Proofs.YtkjdoknmmiaapaaDoor
open Go.RowKit

theorem ret_str {s t : ByteArray} (h : s = t) : Ending.returned (.string s) = .returned (.string t) := by rw [h]

theorem extract_cons (x : UInt8) (l : List UInt8) : (str (x :: l)).extract 1 (str (x :: l)).size = str l := by
  refine str_of ?_
  rw [Lib.extract_data]
  simp [str, ByteArray.size]

theorem dec_of_top {N k : Nat} (h : N < 10 ^ k) (h2 : k = 1 ∨ (1 ≤ k ∧ ¬ dgt N (k - 1) = 48)) : sdig N k = dec N := by
  have : dl N = k := by
    rcases h2 with rfl | ⟨h1, h2⟩
    · have := dl_le N 1 (by omega) h; have := dl_pos N; omega
    · refine Nat.le_antisymm (dl_le N k h1 h) ?_
      have : 10 ^ (k - 1) ≤ N := by
        rcases Nat.lt_or_ge N (10 ^ (k - 1)) with h3 | h3
        · exact absurd (by rw [dgt_zero, Nat.div_eq_of_lt h3]) h2
        · exact h3
      have := dl_ge this; omega
  unfold dec; rw [this]

set_option maxRecDepth 100000 in
theorem trim_any (N n : Nat) (w : World) (hn : 0 < n) (hN : N < 10 ^ n) (hl : n ≤ 10000000) : Calls Tryd.prog 18 #[.string (str (sdig N n))] w fun e w' => e = .returned (.string (str (dec N))) ∧ w = w' := by
  have H0 : Hid (str (sdig N n) = str (sdig N n) ∧ (str (sdig N n)).size = n ∧ N < 10 ^ n ∧ 0 < n ∧ n ≤ 10000000) := ⟨rfl, by rw [str_size, sdig_length], hN, hn, hl⟩
  obtain ⟨s0, hs0⟩ : ∃ s0, str (sdig N n) = s0 := ⟨_, rfl⟩
  rw [hs0]
  have H0' : Hid (s0 = str (sdig N n) ∧ s0.size = n ∧ N < 10 ^ n ∧ 0 < n ∧ n ≤ 10000000) := by rw [← hs0]; exact H0
  clear H0 hs0 hn hN hl
  go_enter Tryd.func18, Tryd.ntmps18
  go_wp2
  go_loop [0] (fun s => ∃ (k : Nat) (t : ByteArray), s = .string t ∧ Hid (t = str (sdig N k) ∧ t.size = k ∧ N < 10 ^ k ∧ 0 < k ∧ k ≤ 10000000))
    (fun s => match s with | .string t => t.size | _ => 0)
  case atStart => exact ⟨n, s0, rfl, H0'.out⟩
  case round =>
    obtain ⟨k, t, rfl, hr⟩ := hrel
    obtain ⟨ht, hk, hNk, hk0, hkl⟩ := hr.out
    have hz : 0 < t.size := by omega
    obtain ⟨c, hc⟩ : ∃ c, t[0] = c := ⟨_, rfl⟩
    have hcd : c = dgt N (k - 1) := by
      obtain ⟨m, rfl⟩ : ∃ m, k = m + 1 := ⟨k - 1, by omega⟩
      subst ht
      rw [← hc]; rfl
    have HCD := Lib.hid hcd
    have HK := Lib.hid hk
    by_cases h1 : 1 < t.size
    · have d1 : decide ((1 : Int) < (t.size : Int)) = true := decide_eq_true (by omega)
      by_cases h2 : c = 48
      · have d2 : ((c.toNat : Int) == 48) = true := by rw [h2]; rfl
        obtain ⟨t', htt⟩ : ∃ t', t.extract 1 t.size = t' := ⟨_, rfl⟩
        have hnx : Hid (t' = str (sdig N (k - 1)) ∧ t'.size = k - 1 ∧ N < 10 ^ (k - 1) ∧ 0 < k - 1 ∧ k - 1 ≤ 10000000) := by
          obtain ⟨m, rfl⟩ : ∃ m, k = m + 1 := ⟨k - 1, by omega⟩
          have e : t' = str (sdig N m) := by rw [← htt, ht]; exact extract_cons _ _
          have hlt : N < 10 ^ m := by
            rw [hcd, Nat.add_sub_cancel, dgt_zero] at h2
            rcases Nat.lt_or_ge N (10 ^ m) with h3 | h3
            · exact h3
            · have h4 := Nat.div_pos h3 (Nat.pow_pos (by omega))
              have h5 : N / 10 ^ m < 10 := by rw [Nat.div_lt_iff_lt_mul (Nat.pow_pos (by omega))]; rw [Nat.pow_succ] at hNk; omega
              omega
          exact ⟨e, by rw [e, str_size, sdig_length]; rfl, hlt, by omega, by omega⟩
        have hsz : t'.size < t.size := by have := hnx.out.2.1; omega
        clear hr ht hk hNk hcd h2
        go_wp2
        go_round
        case rel => exact ⟨k - 1, t', rfl, hnx.out⟩
        case measure => simpa using hsz
      · have d2 : ((c.toNat : Int) == 48) = false := by
          rw [beq_eq_false_iff_ne]
          intro h; apply h2; rw [← UInt8.toNat_inj]
          show c.toNat = 48
          omega
        have hE : Hid (str (dec N) = t) := by show _ = _; rw [ht, dec_of_top hNk (.inr ⟨hk0, by rw [← hcd]; exact h2⟩)]
        clear hr ht hk hNk hcd h2
        go_wp2
        go_ret
        exact ⟨ret_str hE.out.symm, rfl⟩
    · have d1 : decide ((1 : Int) < (t.size : Int)) = false := decide_eq_false (by omega)
      have hE : Hid (str (dec N) = t) := by show _ = _; rw [ht, dec_of_top hNk (.inl (by omega))]
      clear hr ht hk hNk hcd
      go_wp2
      go_ret
      exact ⟨ret_str hE.out.symm, rfl⟩

theorem infoI : (Tryd.prog.info? 3).map (fun i => (i.zero, i.size, i.bytes)) = some (some (.int .i64 0), 1, 8) := by kernel_rfl

theorem make_bytes (m : Nat) (hm : m ≤ 10000000) : ∃ z : Array Value, z.size = m ∧
    ∀ w : World, (Instr.makeSlice 88 (.int .i64 0) (.int .i64 m)).run Tryd.prog w = .ok (.slice (some ⟨w.heap.size, 0, none⟩) 0 m) (w.alloc (.cells z 5)) := by
  obtain ⟨i0, hi, hz0, hz1, hz2⟩ := info_parts infoB
  refine ⟨madeCells (Value.cells (.int .u8 0)) m, size_madeCells _ _, fun w => ?_⟩
  have hmk := run_make (P := Tryd.prog) w 88 5 i0 (.int .u8 0) Tryd.underlying88 hi hz0 .i64 .i64 0 m (by omega) (by omega) (by rw [hz2]; omega) (by omega)
  simp only [Int.toNat_natCast, hz1, Nat.mul_one, Int.toNat_zero] at hmk
  exact hmk

def d10 (N j : Nat) : Nat := N / 10 ^ j % 10
theorem dg_d10 (N j : Nat) : dg N j = 48 + d10 N j := rfl

/-- written: the digits, least first, as a row. -/
structure WrI (w wr : World) (base N n : Nat) (V : Value) (k : Nat) : Prop where
  below : Below base w wr
  own : OwnL wr base 5 .u8 V k (fun j => dg N (n - 1 - j))

set_option maxHeartbeats 1600000 in
set_option maxRecDepth 100000 in
theorem written_any (a : Option Addr) (n c : Nat) (f : Nat → Nat) (N : Nat) (w : World) (hs : SlAt w .i64 10 a n c f) (hf : ∀ j, j < n → f j = d10 N j) (hN : N < 10 ^ n) :
    Calls Tryd.prog 79 #[.slice a n c] w fun e w' => e = .returned (.string (str (dec N))) ∧ Below w.heap.size w w' := by
  obtain ⟨i0, hi, hz0, hz1, hz2⟩ := info_parts infoB
  have hnl : n ≤ 1000000 := hs.2.1
  obtain ⟨m, hm⟩ : ∃ m, n + 1 = m := ⟨_, rfl⟩
  have em : (n : Int) + 1 = (m : Int) := by omega
  obtain ⟨z, hz, hmk⟩ := make_bytes m (by omega)
  have H0 : WrI w (w.alloc (.cells z 5)) w.heap.size N n (.slice (some ⟨w.heap.size, 0, none⟩) 0 m) 0 :=
    ⟨(Below.refl _ _).alloc (Nat.le_refl _) _, World.ownsRow_made w z m (Nat.le_refl _) (by unfold maxLen; omega) (by omega)⟩
  have HS := Lib.hid hs
  have HF := Lib.hid hf
  have HN := Lib.hid hN
  have HI := Lib.hid hi
  have H0' := Lib.hid H0
  clear hs hf hN hi H0 hz hm
  go_enter Tryd.func79, Tryd.ntmps79
  go_wp2
  go_loopw [3, 4] (fun D i wr => ∃ (k : Nat) (ii : Int) (V : Value), k ≤ n ∧ i = .int .i64 ii ∧ ii = (n : Int) - 1 - (k : Int) ∧ V = D ∧ WrI w wr w.heap.size N n V k)
    (fun _ i _ => (intOf i + 1).toNat)
  case atStart => exact ⟨0, _, _, by omega, rfl, by omega, rfl, H0'.out⟩
  case round =>
    obtain ⟨k, ii, V, hk, rfl, hii, rfl, hr⟩ := hrel
    by_cases hlt : k < n
    · obtain ⟨t, rfl⟩ : ∃ t : Nat, ii = (t : Int) := ⟨ii.toNat, by omega⟩
      have htn : n - 1 - k = t := by omega
      obtain ⟨b, off, rfl, hb, hcc⟩ := HS.out.at (show 0 < n by omega)
      have hct := (hr.below.cell (p := ⟨b, off + t, none⟩) hb).trans (hcc t (by omega))
      have hft := HF.out t (by omega)
      rw [hft] at hct
      have hxl : d10 N t < 10 := Nat.mod_lt _ (by omega)
      obtain ⟨x, hx⟩ : ∃ x, d10 N t = x := ⟨_, rfl⟩
      rw [hx] at hct hxl
      obtain ⟨y, hy⟩ : ∃ y, 48 + x = y := ⟨_, rfl⟩
      have e2 : (48 : Int) + (x : Int) = (y : Int) := by omega
      have e3 : (y : Int) % 256 = (y : Int) := by omega
      have hyd : y = dg N (n - 1 - k) := by rw [htn, dg_d10, hx, hy]
      have HYD := Lib.hid hyd
      have HR := Lib.hid hr
      have HII := Lib.hid hii
      have ht0 : (0 : Int) ≤ (t : Int) := by omega
      have ht1 : (t : Int) < (n : Int) := by omega
      have hzr : w.heap.size ≤ wr.heap.size := hr.below.size
      clear hr hcc hft hx hy hyd htn hii
      go_wp2_with (at_builtin; refine wpList_append_own _ rfl _ _ 88 rfl w.heap.size 5 i0 (.int .u8 0) 1 1 Tryd.underlying88 HI.out hz0 hz1 hz2 rfl (by decide) _ _ _ rfl (World.ownsRow.alloc HR.out.own _) ⟨wr.heap.size, 0, none⟩ 1 1 [.int .u8 y] rfl rfl ?c1 ?c2 ?c3 ?c4 ?c5 ?_)
      case c1 =>
        intro j u hj
        match j, hj with
        | 0, hj => simp at hj; subst hj; simp [Addr.add]
      case c2 => intro u hu; simp at hu; subst hu; rfl
      case c3 => unfold maxLen; omega
      case c4 => omega
      case c5 => rw [World.size_alloc]; omega
      · intro v' w5 hown' hgrow _
        have hb5 : Below w.heap.size w w5 := (HR.out.below.alloc hzr _).grown hgrow (by rw [World.size_alloc]; omega) (fun q hq => (World.ownsRow.lt HR.out.own q hq).1)
        have hown2 : OwnL w5 w.heap.size 5 .u8 v' (k + 1) (fun j => dg N (n - 1 - j)) := by
          rw [cl_snoc, cl_congr (g := fun j => dg N (n - 1 - j)) (fun j hj => by
            by_cases e : j = k
            · rw [if_pos e, HYD.out, e]
            · rw [if_neg e])] at hown'
          exact hown'
        have HG5 := Lib.hid (show WrI w w5 w.heap.size N n v' (k + 1) from ⟨hb5, hown2⟩)
        clear hown' hgrow hb5 hown2
        go_wp2
        go_roundw
        case rel =>
          have := HII.out
          exact ⟨k + 1, (t : Int) - 1, v', by omega, rfl, by omega, rfl, HG5.out⟩
        case measure => simp [intOf]
    · obtain rfl : k = n := by omega
      have d1 : decide ((0 : Int) ≤ ii) = false := decide_eq_false (by omega)
      have hii2 : ¬ (0 : Int) ≤ ii := by omega
      have hbl := hr.below
      rcases hr.own.cases with ⟨hV, hk0⟩ | ⟨g, c2, rfl, hc2, hgb, hgl, hgc, hgf⟩
      · subst hk0
        have h0 : N = 0 := by have := HN.out; simp at this; omega
        subst h0
        subst hV
        have HB := Lib.hid hbl
        clear hr hbl hii
        go_wp2
        go_ret
        exact ⟨by rw [dec_zero]; rfl, HB.out⟩
      · by_cases hk0 : k = 0
        · subst hk0
          have h0 : N = 0 := by have := HN.out; simp at this; omega
          subst h0
          have HB := Lib.hid hbl
          clear hr hbl hii hgc hgf
          go_wp2
          go_ret
          exact ⟨by rw [dec_zero]; rfl, HB.out⟩
        · have d2 : ((k : Int) == 0) = false := by rw [beq_eq_false_iff_ne]; omega
          have hcv := run_convert_bytes_arg (P := Tryd.prog) (w := wr) 88 5 Tryd.underlying88 Tryd.underlying5 g 0 k c2 ((List.range k).map fun j => ((dg N (k - 1 - j) : Nat) : Int)) (by simp) (fun j hj => by rw [hgc j hj]; simp [hj]) 9 Tryd.underlying9
          have hst : strOfNums ((List.range k).map fun j => ((dg N (k - 1 - j) : Nat) : Int)) = str (sdig N k) := by
            refine str_of ?_
            rw [strOfNums_data]
            apply List.ext_getElem?
            intro j
            by_cases hj : j < k
            · rw [sdig_get N k j hj, List.getElem?_map, List.getElem?_map, List.getElem?_range hj]
              simp only [Option.map_some]
              rw [Int.toNat_natCast]; rfl
            · rw [List.getElem?_eq_none (by simp; omega), List.getElem?_eq_none (by rw [sdig_length]; omega)]
          rw [hst] at hcv
          have HT := Lib.hid (trim_any N k wr (by omega) HN.out (by omega))
          have HB := Lib.hid hbl
          clear hr hbl hii hgc hgf hst
          go_wp2_with fail
          go_at_call 18
          refine HT.out.mono ?_
          rintro e w7 ⟨rfl, rfl⟩
          clear hcv
          go_wp2
          go_ret
          exact ⟨rfl, HB.out⟩

/-- Of: the digits of a number of 64 bits. -/
structure OfI (w wr : World) (X : Nat) (V : Value) (k : Nat) : Prop where
  below : Below w.heap.size w wr
  own : OwnL wr w.heap.size 3 .i64 V k (d10 X)

set_option maxHeartbeats 1600000 in
set_option maxRecDepth 100000 in
theorem rof_any (X : Nat) (w : World) (hX : X < 18446744073709551616) : Calls Tryd.prog 30 #[.int .u64 X] w fun e w' => e = .returned (.string (str (dec X))) ∧ Below w.heap.size w w' := by
  obtain ⟨i0, hi, hz0, hz1, hz2⟩ := info_parts infoI
  by_cases h0 : X = 0
  · subst h0
    go_enter Tryd.func30, Tryd.ntmps30
    go_wp2
    go_ret
    exact ⟨by rw [dec_zero]; rfl, Below.refl _ _⟩
  have HX : Hid (X < 10 ^ 20) := by show _ < _; omega
  have H0 : OfI w w X (.slice none 0 0) 0 := ⟨Below.refl _ _, World.ownsRow_nil _ _ _ _⟩
  have d0 : ((X : Int) == 0) = false := by rw [beq_eq_false_iff_ne]; omega
  have HI := Lib.hid hi
  have HXL := Lib.hid hX
  clear hi
  go_enter Tryd.func30, Tryd.ntmps30
  go_wp2
  go_loopw [0, 3, 4] (fun x D i wr => ∃ (k y : Nat) (V : Value), k ≤ 20 ∧ i = .int .i64 k ∧ x = .int .u64 y ∧ Hid (y = X / 10 ^ k) ∧ y < 18446744073709551616 ∧ V = D ∧ OfI w wr X V k)
    (fun _ _ i _ => 20 - (intOf i).toNat)
  case atStart => exact ⟨0, X, _, by omega, rfl, rfl, (by show _ = _; simp), hX, rfl, H0⟩
  case round =>
    obtain ⟨k, y, V, hk, rfl, rfl, hy, hyl, rfl, hr⟩ := hrel
    by_cases hlt : k < 20 ∧ 0 < y
    · obtain ⟨hlt, hy0⟩ := hlt
      obtain ⟨x, hx⟩ : ∃ x, y % 10 = x := ⟨_, rfl⟩
      obtain ⟨y', hy'⟩ : ∃ y', y / 10 = y' := ⟨_, rfl⟩
      have e1 : (y : Int) % 10 = (x : Int) := by omega
      have e2 : (y : Int) / 10 = (y' : Int) := by omega
      have hxd : x = d10 X k := by unfold d10; rw [← hx, hy.out]
      have hyn : Hid (y' = X / 10 ^ (k + 1)) := by show _ = _; rw [← hy', hy.out, Nat.div_div_eq_div_mul, ← Nat.pow_succ]
      have HXD := Lib.hid hxd
      have HR := Lib.hid hr
      have hxl : x < 10 := by omega
      have hyl' : y' < 18446744073709551616 := by omega
      have hzr : w.heap.size ≤ wr.heap.size := hr.below.size
      have d1 : decide ((0 : Int) < (y : Int)) = true := decide_eq_true (by omega)
      clear hr hx hy' hxd hy
      go_wp2_with (at_builtin; refine wpList_append_own _ rfl _ _ 93 rfl w.heap.size 3 i0 (.int .i64 0) 1 8 Tryd.underlying93 HI.out hz0 hz1 hz2 rfl (by decide) _ _ _ rfl (World.ownsRow.alloc HR.out.own _) ⟨wr.heap.size, 0, none⟩ 1 1 [.int .i64 x] rfl rfl ?c1 ?c2 ?c3 ?c4 ?c5 ?_)
      case c1 =>
        intro j u hj
        match j, hj with
        | 0, hj => simp at hj; subst hj; simp [Addr.add]
      case c2 => intro u hu; simp at hu; subst hu; rfl
      case c3 => unfold maxLen; omega
      case c4 => omega
      case c5 => rw [World.size_alloc]; omega
      · intro v' w5 hown' hgrow _
        have hb5 : Below w.heap.size w w5 := (HR.out.below.alloc hzr _).grown hgrow (by rw [World.size_alloc]; omega) (fun q hq => (World.ownsRow.lt HR.out.own q hq).1)
        have hown2 : OwnL w5 w.heap.size 3 .i64 v' (k + 1) (d10 X) := by
          rw [cl_snoc, cl_congr (g := d10 X) (fun j hj => by
            by_cases e : j = k
            · rw [if_pos e, HXD.out, e]
            · rw [if_neg e])] at hown'
          exact hown'
        have HG5 := Lib.hid (show OfI w w5 X v' (k + 1) from ⟨hb5, hown2⟩)
        clear hown' hgrow hb5 hown2
        go_wp2
        go_roundw
        case rel => exact ⟨k + 1, y', v', by omega, by go_num, rfl, hyn, hyl', rfl, HG5.out⟩
        case measure => simp [intOf]; omega
    · have hlow : X < 10 ^ k := by
        by_cases hk20 : k = 20
        · subst hk20; exact HX.out
        · have : X / 10 ^ k = 0 := by have := hy.out; omega
          rcases Nat.lt_or_ge X (10 ^ k) with h | h
          · exact h
          · have := Nat.div_pos h (Nat.pow_pos (show 0 < 10 by omega)); omega
      obtain ⟨a, c, rfl, hsa, _⟩ := hr.own.slAt (m := 10) (fun j _ => Nat.mod_lt _ (by omega)) (by omega)
      have HW := Lib.hid (written_any a k c (d10 X) X wr hsa (fun _ _ => rfl) hlow)
      have HB := Lib.hid hr.below
      clear hsa hr hlow hy
      by_cases hk20 : k < 20
      · have d1 : decide ((0 : Int) < (y : Int)) = false := decide_eq_false (by omega)
        go_wp2_with (go_at_call 79; refine HW.out.mono ?_; rintro e w7 ⟨rfl, hb7⟩)
        go_ret
        exact ⟨rfl, HB.out.trans (hb7.mono HB.out.size)⟩
      · go_wp2_with (go_at_call 79; refine HW.out.mono ?_; rintro e w7 ⟨rfl, hb7⟩)
        go_ret
        exact ⟨rfl, HB.out.trans (hb7.mono HB.out.size)⟩

end Go.Proofs.YtkjdoknmmiaapaaDoor
