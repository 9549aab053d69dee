/-
  The document's answers (package typeballref01): Trim, written, Of, by contract.
  The document's answers (package typeballref01): Right, digit, Cmp, Add, Sub, by contract.
  The document's answers (package typeballref01): Cmp, Sub, by contract.
  The document's answers (package typeballref01): Uint, groups, Bits, Limbs, by contract.
  The document's answers (package typeballref01): Bits and Limbs, by contract.
-/
import Derived.Test.YthklcdcikmninaaGreatDoorK3
namespace Go.Proofs.YthklcdcikmninaaGreatDoor
open Go.RowKit

theorem ret_str {s t : ByteArray} (h : s = t) : Ending.returned (.string s) = .returned (.string t) := by rw [h]

theorem extract_cons (x : UInt8) (l : List UInt8) : (str (x :: l)).extract 1 (str (x :: l)).size = str l := by
  refine str_of ?_
  rw [Lib.extract_data]
  simp [str, ByteArray.size]

theorem dec_of_top {N k : Nat} (h : N < 10 ^ k) (h2 : k = 1 ∨ (1 ≤ k ∧ ¬ dgt N (k - 1) = 48)) : sdig N k = dec N := by
  have : dl N = k := by
    rcases h2 with rfl | ⟨h1, h2⟩
    · have := dl_le N 1 (by omega) h; have := dl_pos N; omega
    · refine Nat.le_antisymm (dl_le N k h1 h) ?_
      have : 10 ^ (k - 1) ≤ N := by
        rcases Nat.lt_or_ge N (10 ^ (k - 1)) with h3 | h3
        · exact absurd (by rw [dgt_zero, Nat.div_eq_of_lt h3]) h2
        · exact h3
      have := dl_ge this; omega
  unfold dec; rw [this]

set_option maxRecDepth 100000 in
theorem trim_any (N n : Nat) (w : World) (hn : 0 < n) (hN : N < 10 ^ n) (hl : n ≤ 10000000) : Calls Tryz.prog 32 #[.string (str (sdig N n))] w fun e w' => e = .returned (.string (str (dec N))) ∧ w = w' := by
  have H0 : Hid (str (sdig N n) = str (sdig N n) ∧ (str (sdig N n)).size = n ∧ N < 10 ^ n ∧ 0 < n ∧ n ≤ 10000000) := ⟨rfl, by rw [str_size, sdig_length], hN, hn, hl⟩
  obtain ⟨s0, hs0⟩ : ∃ s0, str (sdig N n) = s0 := ⟨_, rfl⟩
  rw [hs0]
  have H0' : Hid (s0 = str (sdig N n) ∧ s0.size = n ∧ N < 10 ^ n ∧ 0 < n ∧ n ≤ 10000000) := by rw [← hs0]; exact H0
  clear H0 hs0 hn hN hl
  go_enter Tryz.func32, Tryz.ntmps32
  go_wp2
  go_loop [0] (fun s => ∃ (k : Nat) (t : ByteArray), s = .string t ∧ Hid (t = str (sdig N k) ∧ t.size = k ∧ N < 10 ^ k ∧ 0 < k ∧ k ≤ 10000000))
    (fun s => match s with | .string t => t.size | _ => 0)
  case atStart => exact ⟨n, s0, rfl, H0'.out⟩
  case round =>
    obtain ⟨k, t, rfl, hr⟩ := hrel
    obtain ⟨ht, hk, hNk, hk0, hkl⟩ := hr.out
    have hz : 0 < t.size := by omega
    obtain ⟨c, hc⟩ : ∃ c, t[0] = c := ⟨_, rfl⟩
    have hcd : c = dgt N (k - 1) := by
      obtain ⟨m, rfl⟩ : ∃ m, k = m + 1 := ⟨k - 1, by omega⟩
      subst ht
      rw [← hc]; rfl
    have HCD := Lib.hid hcd
    have HK := Lib.hid hk
    by_cases h1 : 1 < t.size
    · have d1 : decide ((1 : Int) < (t.size : Int)) = true := decide_eq_true (by omega)
      by_cases h2 : c = 48
      · have d2 : ((c.toNat : Int) == 48) = true := by rw [h2]; rfl
        obtain ⟨t', htt⟩ : ∃ t', t.extract 1 t.size = t' := ⟨_, rfl⟩
        have hnx : Hid (t' = str (sdig N (k - 1)) ∧ t'.size = k - 1 ∧ N < 10 ^ (k - 1) ∧ 0 < k - 1 ∧ k - 1 ≤ 10000000) := by
          obtain ⟨m, rfl⟩ : ∃ m, k = m + 1 := ⟨k - 1, by omega⟩
          have e : t' = str (sdig N m) := by rw [← htt, ht]; exact extract_cons _ _
          have hlt : N < 10 ^ m := by
            rw [hcd, Nat.add_sub_cancel, dgt_zero] at h2
            rcases Nat.lt_or_ge N (10 ^ m) with h3 | h3
            · exact h3
            · have h4 := Nat.div_pos h3 (Nat.pow_pos (by omega))
              have h5 : N / 10 ^ m < 10 := by rw [Nat.div_lt_iff_lt_mul (Nat.pow_pos (by omega))]; rw [Nat.pow_succ] at hNk; omega
              omega
          exact ⟨e, by rw [e, str_size, sdig_length]; rfl, hlt, by omega, by omega⟩
        have hsz : t'.size < t.size := by have := hnx.out.2.1; omega
        clear hr ht hk hNk hcd h2
        go_wp2
        go_round
        case rel => exact ⟨k - 1, t', rfl, hnx.out⟩
        case measure => simpa using hsz
      · have d2 : ((c.toNat : Int) == 48) = false := by
          rw [beq_eq_false_iff_ne]
          intro h; apply h2; rw [← UInt8.toNat_inj]
          show c.toNat = 48
          omega
        have hE : Hid (str (dec N) = t) := by show _ = _; rw [ht, dec_of_top hNk (.inr ⟨hk0, by rw [← hcd]; exact h2⟩)]
        clear hr ht hk hNk hcd h2
        go_wp2
        go_ret
        exact ⟨ret_str hE.out.symm, rfl⟩
    · have d1 : decide ((1 : Int) < (t.size : Int)) = false := decide_eq_false (by omega)
      have hE : Hid (str (dec N) = t) := by show _ = _; rw [ht, dec_of_top hNk (.inl (by omega))]
      clear hr ht hk hNk hcd
      go_wp2
      go_ret
      exact ⟨ret_str hE.out.symm, rfl⟩

theorem infoI : (Tryz.prog.info? 3).map (fun i => (i.zero, i.size, i.bytes)) = some (some (.int .i64 0), 1, 8) := by kernel_rfl

theorem make_bytes (m : Nat) (hm : m ≤ 10000000) : ∃ z : Array Value, z.size = m ∧
    ∀ w : World, (Instr.makeSlice 72 (.int .i64 0) (.int .i64 m)).run Tryz.prog w = .ok (.slice (some ⟨w.heap.size, 0, none⟩) 0 m) (w.alloc (.cells z 5)) := by
  obtain ⟨i0, hi, hz0, hz1, hz2⟩ := info_parts infoB
  refine ⟨madeCells (Value.cells (.int .u8 0)) m, size_madeCells _ _, fun w => ?_⟩
  have hmk := run_make (P := Tryz.prog) w 72 5 i0 (.int .u8 0) Tryz.underlying72 hi hz0 .i64 .i64 0 m (by omega) (by omega) (by rw [hz2]; omega) (by omega)
  simp only [Int.toNat_natCast, hz1, Nat.mul_one, Int.toNat_zero] at hmk
  exact hmk

def d10 (N j : Nat) : Nat := N / 10 ^ j % 10
theorem dg_d10 (N j : Nat) : dg N j = 48 + d10 N j := rfl

/-- written: the digits, least first, as a row. -/
structure WrI (w wr : World) (base N n : Nat) (V : Value) (k : Nat) : Prop where
  below : Below base w wr
  own : OwnL wr base 5 .u8 V k (fun j => dg N (n - 1 - j))

set_option maxHeartbeats 1600000 in
set_option maxRecDepth 100000 in
theorem written_any (a : Option Addr) (n c : Nat) (f : Nat → Nat) (N : Nat) (w : World) (hs : SlAt w .i64 10 a n c f) (hf : ∀ j, j < n → f j = d10 N j) (hN : N < 10 ^ n) :
    Calls Tryz.prog 85 #[.slice a n c] w fun e w' => e = .returned (.string (str (dec N))) ∧ Below w.heap.size w w' := by
  obtain ⟨i0, hi, hz0, hz1, hz2⟩ := info_parts infoB
  have hnl : n ≤ 1000000 := hs.2.1
  obtain ⟨m, hm⟩ : ∃ m, n + 1 = m := ⟨_, rfl⟩
  have em : (n : Int) + 1 = (m : Int) := by omega
  obtain ⟨z, hz, hmk⟩ := make_bytes m (by omega)
  have H0 : WrI w (w.alloc (.cells z 5)) w.heap.size N n (.slice (some ⟨w.heap.size, 0, none⟩) 0 m) 0 :=
    ⟨(Below.refl _ _).alloc (Nat.le_refl _) _, World.ownsRow_made w z m (Nat.le_refl _) (by unfold maxLen; omega) (by omega)⟩
  have HS := Lib.hid hs
  have HF := Lib.hid hf
  have HN := Lib.hid hN
  have HI := Lib.hid hi
  have H0' := Lib.hid H0
  clear hs hf hN hi H0 hz hm
  go_enter Tryz.func85, Tryz.ntmps85
  go_wp2
  go_loopw [3, 4] (fun D i wr => ∃ (k : Nat) (ii : Int) (V : Value), k ≤ n ∧ i = .int .i64 ii ∧ ii = (n : Int) - 1 - (k : Int) ∧ V = D ∧ WrI w wr w.heap.size N n V k)
    (fun _ i _ => (intOf i + 1).toNat)
  case atStart => exact ⟨0, _, _, by omega, rfl, by omega, rfl, H0'.out⟩
  case round =>
    obtain ⟨k, ii, V, hk, rfl, hii, rfl, hr⟩ := hrel
    by_cases hlt : k < n
    · obtain ⟨t, rfl⟩ : ∃ t : Nat, ii = (t : Int) := ⟨ii.toNat, by omega⟩
      have htn : n - 1 - k = t := by omega
      obtain ⟨b, off, rfl, hb, hcc⟩ := HS.out.at (show 0 < n by omega)
      have hct := (hr.below.cell (p := ⟨b, off + t, none⟩) hb).trans (hcc t (by omega))
      have hft := HF.out t (by omega)
      rw [hft] at hct
      have hxl : d10 N t < 10 := Nat.mod_lt _ (by omega)
      obtain ⟨x, hx⟩ : ∃ x, d10 N t = x := ⟨_, rfl⟩
      rw [hx] at hct hxl
      obtain ⟨y, hy⟩ : ∃ y, 48 + x = y := ⟨_, rfl⟩
      have e2 : (48 : Int) + (x : Int) = (y : Int) := by omega
      have e3 : (y : Int) % 256 = (y : Int) := by omega
      have hyd : y = dg N (n - 1 - k) := by rw [htn, dg_d10, hx, hy]
      have HYD := Lib.hid hyd
      have HR := Lib.hid hr
      have HII := Lib.hid hii
      have ht0 : (0 : Int) ≤ (t : Int) := by omega
      have ht1 : (t : Int) < (n : Int) := by omega
      have hzr : w.heap.size ≤ wr.heap.size := hr.below.size
      clear hr hcc hft hx hy hyd htn hii
      go_wp2_with (at_builtin; refine wpList_append_own _ rfl _ _ 72 rfl w.heap.size 5 i0 (.int .u8 0) 1 1 Tryz.underlying72 HI.out hz0 hz1 hz2 rfl (by decide) _ _ _ rfl (World.ownsRow.alloc HR.out.own _) ⟨wr.heap.size, 0, none⟩ 1 1 [.int .u8 y] rfl rfl ?c1 ?c2 ?c3 ?c4 ?c5 ?_)
      case c1 =>
        intro j u hj
        match j, hj with
        | 0, hj => simp at hj; subst hj; simp [Addr.add]
      case c2 => intro u hu; simp at hu; subst hu; rfl
      case c3 => unfold maxLen; omega
      case c4 => omega
      case c5 => rw [World.size_alloc]; omega
      · intro v' w5 hown' hgrow _
        have hb5 : Below w.heap.size w w5 := (HR.out.below.alloc hzr _).grown hgrow (by rw [World.size_alloc]; omega) (fun q hq => (World.ownsRow.lt HR.out.own q hq).1)
        have hown2 : OwnL w5 w.heap.size 5 .u8 v' (k + 1) (fun j => dg N (n - 1 - j)) := by
          rw [cl_snoc, cl_congr (g := fun j => dg N (n - 1 - j)) (fun j hj => by
            by_cases e : j = k
            · rw [if_pos e, HYD.out, e]
            · rw [if_neg e])] at hown'
          exact hown'
        have HG5 := Lib.hid (show WrI w w5 w.heap.size N n v' (k + 1) from ⟨hb5, hown2⟩)
        clear hown' hgrow hb5 hown2
        go_wp2
        go_roundw
        case rel =>
          have := HII.out
          exact ⟨k + 1, (t : Int) - 1, v', by omega, rfl, by omega, rfl, HG5.out⟩
        case measure => simp [intOf]
    · obtain rfl : k = n := by omega
      have d1 : decide ((0 : Int) ≤ ii) = false := decide_eq_false (by omega)
      have hii2 : ¬ (0 : Int) ≤ ii := by omega
      have hbl := hr.below
      rcases hr.own.cases with ⟨hV, hk0⟩ | ⟨g, c2, rfl, hc2, hgb, hgl, hgc, hgf⟩
      · subst hk0
        have h0 : N = 0 := by have := HN.out; simp at this; omega
        subst h0
        subst hV
        have HB := Lib.hid hbl
        clear hr hbl hii
        go_wp2
        go_ret
        exact ⟨by rw [dec_zero]; rfl, HB.out⟩
      · by_cases hk0 : k = 0
        · subst hk0
          have h0 : N = 0 := by have := HN.out; simp at this; omega
          subst h0
          have HB := Lib.hid hbl
          clear hr hbl hii hgc hgf
          go_wp2
          go_ret
          exact ⟨by rw [dec_zero]; rfl, HB.out⟩
        · have d2 : ((k : Int) == 0) = false := by rw [beq_eq_false_iff_ne]; omega
          have hcv := run_convert_bytes_arg (P := Tryz.prog) (w := wr) 72 5 Tryz.underlying72 Tryz.underlying5 g 0 k c2 ((List.range k).map fun j => ((dg N (k - 1 - j) : Nat) : Int)) (by simp) (fun j hj => by rw [hgc j hj]; simp [hj]) 9 Tryz.underlying9
          have hst : strOfNums ((List.range k).map fun j => ((dg N (k - 1 - j) : Nat) : Int)) = str (sdig N k) := by
            refine str_of ?_
            rw [strOfNums_data]
            apply List.ext_getElem?
            intro j
            by_cases hj : j < k
            · rw [sdig_get N k j hj, List.getElem?_map, List.getElem?_map, List.getElem?_range hj]
              simp only [Option.map_some]
              rw [Int.toNat_natCast]; rfl
            · rw [List.getElem?_eq_none (by simp; omega), List.getElem?_eq_none (by rw [sdig_length]; omega)]
          rw [hst] at hcv
          have HT := Lib.hid (trim_any N k wr (by omega) HN.out (by omega))
          have HB := Lib.hid hbl
          clear hr hbl hii hgc hgf hst
          go_wp2_with fail
          go_at_call 32
          refine HT.out.mono ?_
          rintro e w7 ⟨rfl, rfl⟩
          clear hcv
          go_wp2
          go_ret
          exact ⟨rfl, HB.out⟩

/-- Of: the digits of a number of 64 bits. -/
structure OfI (w wr : World) (X : Nat) (V : Value) (k : Nat) : Prop where
  below : Below w.heap.size w wr
  own : OwnL wr w.heap.size 3 .i64 V k (d10 X)

end Go.Proofs.YthklcdcikmninaaGreatDoor

namespace Go.Proofs.YthklcdcikmninaaGreatDoor
open Go.RowKit

set_option maxHeartbeats 800000 in
set_option maxRecDepth 100000 in
theorem right_any (s : ByteArray) (w : World) (hs : s.size ≤ maxLen) : Calls Tryz.prog 31 #[.string s] w fun e w' => e = .returned (.bool (okB s.data.toList)) ∧ w = w' := by
  have hsl : s.data.toList.length = s.size := rfl
  unfold maxLen at hs
  obtain ⟨b, hb⟩ : ∃ b, okB s.data.toList = b := ⟨_, rfl⟩
  rw [hb]
  have HB := Lib.hid hb
  have HSL := Lib.hid hsl
  clear hb hsl
  go_enter Tryz.func31, Tryz.ntmps31
  go_wp2
  go_loop [3] (fun i => ∃ k : Nat, k ≤ s.size ∧ k ≤ 2001 ∧ i = .int .i64 k ∧ Hid (∀ c ∈ s.data.toList.take k, 48 ≤ c.toNat ∧ c.toNat ≤ 57))
    (fun i => s.size - (intOf i).toNat)
  case atStart => exact ⟨0, by omega, by omega, rfl, by show ∀ c ∈ _, _; simp⟩
  case round =>
    obtain ⟨k, hk, hk2, rfl, hdg⟩ := hrel
    by_cases hlt : k < s.size
    · have d0 : decide ((k : Int) < (s.size : Int)) = true := decide_eq_true (by omega)
      by_cases h2k : k ≤ 2000
      · have d1 : decide ((k : Int) ≤ 2000) = true := decide_eq_true (by omega)
        have hsn := take_snoc s k hlt
        obtain ⟨c, hc⟩ : ∃ c, s[k] = c := ⟨_, rfl⟩
        rw [hc] at hsn
        have hbad : ¬ (48 ≤ c.toNat ∧ c.toNat ≤ 57) → b = false := by
          intro hdc
          rw [← HB.out]
          cases hk : okB s.data.toList
          · rfl
          · exfalso
            have := (okB_digs hk).2.2 c (List.mem_of_mem_take (by rw [hsn]; exact List.mem_append_right _ List.mem_cons_self))
            exact hdc this
        by_cases hdc : 48 ≤ c.toNat ∧ c.toNat ≤ 57
        · have t1 : decide ((c.toNat : Int) < 48) = false := decide_eq_false (by omega)
          have t2 : decide ((57 : Int) < (c.toNat : Int)) = false := decide_eq_false (by omega)
          have hnx : Hid (∀ c ∈ s.data.toList.take (k + 1), 48 ≤ c.toNat ∧ c.toNat ≤ 57) := by
            intro x hx
            rw [hsn] at hx
            rcases List.mem_append.1 hx with h | h
            · exact hdg.out x h
            · rw [List.mem_singleton.1 h]; exact hdc
          clear hsn hbad hdc
          go_wp2
          go_round
          case rel => exact ⟨k + 1, by omega, by omega, by go_num, hnx⟩
          case measure => simp [intOf]; omega
        · have hbf := Lib.hid (hbad hdc)
          clear hsn hbad
          by_cases h48 : c.toNat < 48
          · have t1 : decide ((c.toNat : Int) < 48) = true := decide_eq_true (by omega)
            clear hdc
            go_wp2
            go_ret
            exact ⟨by rw [hbf.out]; rfl, rfl⟩
          · have t1 : decide ((c.toNat : Int) < 48) = false := decide_eq_false (by omega)
            have t2 : decide ((57 : Int) < (c.toNat : Int)) = true := decide_eq_true (by omega)
            clear hdc
            go_wp2
            go_ret
            exact ⟨by rw [hbf.out]; rfl, rfl⟩
      · have d1 : decide ((k : Int) ≤ 2000) = false := decide_eq_false (by omega)
        have hbf : Hid (b = false) := by
          show _ = _
          rw [← HB.out]
          cases hk : okB s.data.toList
          · rfl
          · exfalso
            have := (okB_digs hk).2.1
            rw [HSL.out] at this; omega
        have d3 : decide ((1 : Int) ≤ (s.size : Int)) = true := decide_eq_true (by omega)
        have d4 : decide ((s.size : Int) ≤ 2000) = false := decide_eq_false (by omega)
        go_wp2
        go_ret
        exact ⟨by rw [hbf.out]; rfl, rfl⟩
    · obtain rfl : k = s.size := by omega
      have d0 : decide ((s.size : Int) < (s.size : Int)) = false := decide_eq_false (by omega)
      by_cases h1 : 1 ≤ s.size
      · have d3 : decide ((1 : Int) ≤ (s.size : Int)) = true := decide_eq_true (by omega)
        by_cases h4 : s.size ≤ 2000
        · have d4 : decide ((s.size : Int) ≤ 2000) = true := decide_eq_true (by omega)
          have hbf : Hid (b = true) := by
            show _ = _
            rw [← HB.out]
            refine okB_mk (by rw [HSL.out]; omega) (by rw [HSL.out]; omega) ?_
            have := hdg.out
            rw [List.take_of_length_le (by rw [HSL.out]; omega)] at this
            exact this
          go_wp2
          go_ret
          exact ⟨by rw [hbf.out]; rfl, rfl⟩
        · have d4 : decide ((s.size : Int) ≤ 2000) = false := decide_eq_false (by omega)
          have hbf : Hid (b = false) := by
            show _ = _
            rw [← HB.out]
            cases hk : okB s.data.toList
            · rfl
            · exfalso
              have := (okB_digs hk).2.1
              rw [HSL.out] at this; omega
          go_wp2
          go_ret
          exact ⟨by rw [hbf.out]; rfl, rfl⟩
      · have d3 : decide ((1 : Int) ≤ (s.size : Int)) = false := decide_eq_false (by omega)
        have hbf : Hid (b = false) := by
          show _ = _
          rw [← HB.out]
          cases hk : okB s.data.toList
          · rfl
          · exfalso
            have := (okB_digs hk).1
            rw [HSL.out] at this; omega
        go_wp2
        go_ret
        exact ⟨by rw [hbf.out]; rfl, rfl⟩

/-- digit: a row's digit from its end on; 0 beyond. -/
theorem digit_any (N n i : Nat) (w : World) (hN : N < 10 ^ n) (hn : n ≤ 10000000) (hi : i ≤ 100000000) : Calls Tryz.prog 84 #[.string (str (sdig N n)), .int .i64 i] w fun e w' => e = .returned (.int .i64 (d10 N i)) ∧ w = w' := by
  obtain ⟨s, hs⟩ : ∃ s, str (sdig N n) = s := ⟨_, rfl⟩
  have hsz : s.size = n := by rw [← hs, str_size, sdig_length]
  rw [hs]
  by_cases h : i < n
  · obtain ⟨k, hk⟩ : ∃ k, n - 1 - i = k := ⟨_, rfl⟩
    have hks : k < s.size := by omega
    have hc : s[k].toNat = 48 + d10 N i := by
      have h1 := sdig_get N n k (by omega)
      rw [show n - 1 - k = i by omega] at h1
      have h2 : s[k] = dgt N i := by
        subst hs
        have h3 : (sdig N n)[k]? = some ((str (sdig N n))[k]) := by
          rw [List.getElem?_eq_getElem (by rw [sdig_length]; omega)]; rfl
        rw [h3] at h1
        exact Option.some.inj h1
      rw [h2, dgt_toNat]; rfl
    obtain ⟨c, hcc⟩ : ∃ c, s[k] = c := ⟨_, rfl⟩
    rw [hcc] at hc
    obtain ⟨x, hx⟩ : ∃ x, d10 N i = x := ⟨_, rfl⟩
    have hxl : x < 10 := by rw [← hx]; exact Nat.mod_lt _ (by omega)
    rw [hx] at hc ⊢
    have e1 : (s.size : Int) - 1 - (i : Int) = (k : Int) := by omega
    have e2 : (c.toNat : Int) - 48 = (x : Int) := by omega
    have e3 : (x : Int) % 256 = (x : Int) := by omega
    have e4 : (48 : Int) ≤ (c.toNat : Int) := by omega
    have d0 : decide ((s.size : Int) ≤ (i : Int)) = false := decide_eq_false (by omega)
    have i1 : (k : Int) < (s.size : Int) := by omega
    have h' : i < s.size := by omega
    have hsb : s.size ≤ 10000000 := by omega
    clear hs hx hc hk hsz hN
    go_enter Tryz.func84, Tryz.ntmps84
    go_wp2
    go_ret
    exact ⟨rfl, rfl⟩
  · have hz : d10 N i = 0 := by
      unfold d10
      have := Nat.pow_le_pow_right (show 0 < 10 by omega) (show n ≤ i by omega)
      rw [Nat.div_eq_of_lt (by omega)]
    rw [hz]
    have d0 : decide ((s.size : Int) ≤ (i : Int)) = true := decide_eq_true (by omega)
    have h' : s.size ≤ i := by omega
    clear hs hsz hN hz
    go_enter Tryz.func84, Tryz.ntmps84
    go_wp2
    go_ret
    exact ⟨rfl, rfl⟩

/-- What is carried into place i of an addition. -/
def carry (x y i : Nat) : Nat := (x % 10 ^ i + y % 10 ^ i) / 10 ^ i
theorem carry_zero (x y : Nat) : carry x y 0 = 0 := by simp [carry, Nat.mod_one]
theorem carry_le (x y i : Nat) : carry x y i ≤ 1 := by
  unfold carry
  have hp : 0 < 10 ^ i := Nat.pow_pos (by omega)
  have h1 := Nat.mod_lt x hp
  have h2 := Nat.mod_lt y hp
  have : (x % 10 ^ i + y % 10 ^ i) / 10 ^ i < 2 := by rw [Nat.div_lt_iff_lt_mul hp]; omega
  omega
theorem carry_step (x y i : Nat) : (d10 x i + d10 y i + carry x y i) % 10 = d10 (x + y) i ∧ (d10 x i + d10 y i + carry x y i) / 10 = carry x y (i + 1) := by
  have hp : 0 < 10 ^ i := Nat.pow_pos (by omega)
  have hx : x % 10 ^ (i + 1) = x % 10 ^ i + 10 ^ i * d10 x i := by unfold d10; rw [Nat.pow_succ, Nat.mod_mul]
  have hy : y % 10 ^ (i + 1) = y % 10 ^ i + 10 ^ i * d10 y i := by unfold d10; rw [Nat.pow_succ, Nat.mod_mul]
  have hs : (x % 10 ^ (i + 1) + y % 10 ^ (i + 1)) / 10 ^ i = d10 x i + d10 y i + carry x y i := by
    rw [hx, hy]
    unfold carry
    rw [show x % 10 ^ i + 10 ^ i * d10 x i + (y % 10 ^ i + 10 ^ i * d10 y i) = (x % 10 ^ i + y % 10 ^ i) + 10 ^ i * (d10 x i + d10 y i) by rw [Nat.mul_add]; omega, Nat.add_mul_div_left _ _ hp]
    omega
  constructor
  · rw [← hs]
    unfold d10
    have e1 := Nat.div_add_mod x (10 ^ (i + 1))
    have e2 := Nat.div_add_mod y (10 ^ (i + 1))
    have : x + y = x % 10 ^ (i + 1) + y % 10 ^ (i + 1) + 10 ^ i * (10 * (x / 10 ^ (i + 1) + y / 10 ^ (i + 1))) := by
      have e3 : 10 ^ i * (10 * (x / 10 ^ (i + 1) + y / 10 ^ (i + 1))) = 10 ^ (i + 1) * (x / 10 ^ (i + 1)) + 10 ^ (i + 1) * (y / 10 ^ (i + 1)) := by rw [← Nat.mul_assoc, ← Nat.pow_succ, Nat.mul_add]
      omega
    rw [this, Nat.add_mul_div_left _ _ hp]
    omega
  · rw [← hs, Nat.div_div_eq_div_mul, ← Nat.pow_succ]; rfl

theorem carry_done {x y i : Nat} (h : carry x y i = 0) (hx : x < 10 ^ i) (hy : y < 10 ^ i) : x + y < 10 ^ i := by
  unfold carry at h
  rw [Nat.mod_eq_of_lt hx, Nat.mod_eq_of_lt hy] at h
  have hp : 0 < 10 ^ i := Nat.pow_pos (by omega)
  rcases Nat.lt_or_ge (x + y) (10 ^ i) with h1 | h1
  · exact h1
  · have := Nat.div_pos h1 hp; omega

structure SumI (w wr : World) (Z : Nat) (V : Value) (k : Nat) : Prop where
  below : Below w.heap.size w wr
  own : OwnL wr w.heap.size 3 .i64 V k (d10 Z)

theorem cell_one_at (w : World) (x : Value) (t : TypeId) : ∀ j u, [x][j]? = some u → (w.alloc (.cells #[x] t)).cell? ((⟨w.heap.size, 0, none⟩ : Addr).add j) = some u := by
  intro j u hj
  match j, hj with
  | 0, hj => simp at hj; subst hj; simp [Addr.add]
theorem one_cell_list (k : IntKind) (x : Int) : ∀ u ∈ [Value.int k x], u.oneCell' = true := by
  intro u hu; simp at hu; subst hu; rfl
theorem sum_next {w wr w5 : World} {Z : Nat} {V v' : Value} {k r : Nat} {o : Obj} (h : SumI w wr Z V k) (hown : w5.ownsRow w.heap.size 3 1 v' (k + 1) (cl .i64 (d10 Z) k ++ [.int .i64 r])) (hg : (wr.alloc o).grownBy w5 V.ownBlock)
    (hz : w.heap.size ≤ wr.heap.size) (hr : r = d10 Z k) : SumI w w5 Z v' (k + 1) := by
  refine ⟨(h.below.alloc hz _).grown hg (by rw [World.size_alloc]; omega) (fun q hq => (World.ownsRow.lt h.own q hq).1), ?_⟩
  rw [cl_snoc, cl_congr (g := d10 Z) (fun j hj => by
    by_cases e : j = k
    · rw [if_pos e, hr, e]
    · rw [if_neg e])] at hown
  exact hown

end Go.Proofs.YthklcdcikmninaaGreatDoor

namespace Go.Proofs.YthklcdcikmninaaGreatDoor
open Go.RowKit

theorem numOf_sdig (N : Nat) : ∀ n, numOf (sdig N n) = N % 10 ^ n
  | 0 => by simp [sdig, numOf, Nat.mod_one]
  | n + 1 => by
    rw [sdig, numOf, numOf_sdig N n, sdig_length, dgt_toNat, Nat.pow_succ, Nat.mod_mul]
    rw [Nat.add_sub_cancel_left, Nat.mul_comm (N / 10 ^ n % 10)]
    omega

theorem sdig_inj {x y n : Nat} (hx : x < 10 ^ n) (hy : y < 10 ^ n) (h : sdig x n = sdig y n) : x = y := by
  have := congrArg numOf h
  rw [numOf_sdig, numOf_sdig, Nat.mod_eq_of_lt hx, Nat.mod_eq_of_lt hy] at this
  exact this

theorem less_sdig (x y : Nat) : ∀ n, Op.bytesLess (sdig x n) (sdig y n) = decide (x % 10 ^ n < y % 10 ^ n)
  | 0 => by simp [sdig, Op.bytesLess, Nat.mod_one]
  | n + 1 => by
    rw [sdig, sdig, Op.bytesLess, less_sdig x y n, Nat.pow_succ, Nat.mod_mul, Nat.mod_mul]
    have hp : 0 < 10 ^ n := Nat.pow_pos (by omega)
    have hx := Nat.mod_lt x hp
    have hy := Nat.mod_lt y hp
    have e1 : (dgt x n < dgt y n) ↔ x / 10 ^ n % 10 < y / 10 ^ n % 10 := by
      rw [UInt8.lt_iff_toNat_lt, dgt_toNat, dgt_toNat]; omega
    have e2 : (dgt x n = dgt y n) ↔ x / 10 ^ n % 10 = y / 10 ^ n % 10 := by
      rw [← UInt8.toNat_inj, dgt_toNat, dgt_toNat]; omega
    generalize x / 10 ^ n % 10 = a at *
    generalize y / 10 ^ n % 10 = b at *
    generalize x % 10 ^ n = u at *
    generalize y % 10 ^ n = v at *
    generalize 10 ^ n = P at *
    rw [Bool.eq_iff_iff]
    simp only [Bool.or_eq_true, decide_eq_true_eq, Bool.and_eq_true, beq_iff_eq, e1, e2]
    rcases Nat.lt_trichotomy a b with h | h | h
    · have h3 := Nat.mul_le_mul_left P (show a + 1 ≤ b from h)
      rw [Nat.mul_add] at h3
      constructor
      · intro _; omega
      · intro _; exact .inl h
    · subst h
      constructor
      · rintro (h | ⟨_, h⟩) <;> omega
      · intro h; exact .inr ⟨rfl, by omega⟩
    · have h3 := Nat.mul_le_mul_left P (show b + 1 ≤ a from h)
      rw [Nat.mul_add] at h3
      constructor
      · rintro (h1 | ⟨h1, _⟩) <;> omega
      · intro h1; omega

theorem dl_mono_lt {x y : Nat} (h : dl x < dl y) : x < y := by
  have h1 := dl_lt x
  have hy : 0 < y := by
    rcases Nat.eq_zero_or_pos y with h0 | h0
    · subst h0
      have e : dl 0 = 1 := by unfold dl; rfl
      have := dl_pos x; omega
    · exact h0
  have h2 := dl_low hy
  have := Nat.pow_le_pow_right (show 0 < 10 by omega) (show dl x ≤ dl y - 1 by omega)
  omega

theorem rcmp_any (x y : Nat) (w : World) (hx : dl x ≤ 100000) (hy : dl y ≤ 100000) : Calls Tryz.prog 69 #[.string (str (dec x)), .string (str (dec y))] w fun e w' => e = .returned (.int .i64 (cmpI x y)) ∧ w = w' := by
  have hs1 : (str (dec x)).size = dl x := by rw [str_size]; exact sdig_length _ _
  have hs2 : (str (dec y)).size = dl y := by rw [str_size]; exact sdig_length _ _
  have ht1 : (str (dec x)).toList = dec x := by rw [ByteArray.toList_eq]; rfl
  have ht2 : (str (dec y)).toList = dec y := by rw [ByteArray.toList_eq]; rfl
  by_cases hl : dl x = dl y
  · have hle : dec y = sdig y (dl x) := by unfold dec; rw [hl]
    have hb : Op.bytesLess (str (dec x)).toList (str (dec y)).toList = decide (x < y) := by
      rw [ht1, ht2, hle]; unfold dec
      rw [less_sdig, Nat.mod_eq_of_lt (dl_lt x), Nat.mod_eq_of_lt (by rw [hl]; exact dl_lt y)]
    have heq : ((str (dec x)).toList == (str (dec y)).toList) = decide (x = y) := by
      rw [ht1, ht2, hle, Bool.eq_iff_iff, beq_iff_eq, decide_eq_true_eq]
      unfold dec
      exact ⟨fun h => sdig_inj (dl_lt x) (by rw [hl]; exact dl_lt y) h, fun h => by rw [h]⟩
    have hn : (((str (dec x)).size : Int) != ((str (dec y)).size : Int)) = false := by rw [hs1, hs2, hl]; simp
    have hss : (str (dec x)).size = (str (dec y)).size := by omega
    have hsb : (str (dec x)).size ≤ 100000 := by omega
    clear hs1 hs2 ht1 ht2 hle hl
    generalize str (dec x) = s at *
    generalize str (dec y) = t at *
    by_cases h1 : x = y
    · have hr : Hid (cmpI x y = 0) := by show _ = _; unfold cmpI; rw [if_neg (by omega), if_pos h1]
      rw [decide_eq_true h1] at heq
      clear hb hx hy h1
      have HSS := Lib.hid hss
      clear hss
      go_enter Tryz.func69, Tryz.ntmps69
      go_wp2
      go_ret
      exact ⟨ret_int hr.out.symm, rfl⟩
    · rw [decide_eq_false h1] at heq
      have HSS := Lib.hid hss
      clear hss
      by_cases h2 : x < y
      · have hr : Hid (cmpI x y = -1) := cmp_neg h2
        rw [decide_eq_true h2] at hb
        clear hx hy h1 h2
        go_enter Tryz.func69, Tryz.ntmps69
        go_wp2
        go_ret
        exact ⟨ret_int hr.out.symm, rfl⟩
      · have hr : Hid (cmpI x y = 1) := by show _ = _; unfold cmpI; rw [if_neg h2, if_neg h1]
        rw [decide_eq_false h2] at hb
        clear hx hy h1 h2
        go_enter Tryz.func69, Tryz.ntmps69
        go_wp2
        go_ret
        exact ⟨ret_int hr.out.symm, rfl⟩
  · have hn : (((str (dec x)).size : Int) != ((str (dec y)).size : Int)) = true := by rw [hs1, hs2]; simp; omega
    have hsb : (str (dec x)).size ≤ 100000 ∧ (str (dec y)).size ≤ 100000 := by omega
    have hne : ¬ (str (dec x)).size = (str (dec y)).size := by omega
    have hc : ((str (dec x)).size < (str (dec y)).size → cmpI x y = -1) ∧ (¬ (str (dec x)).size < (str (dec y)).size → cmpI x y = 1) := by
      rw [hs1, hs2]
      refine ⟨fun h => cmp_neg (dl_mono_lt h), fun h => ?_⟩
      have := dl_mono_lt (show dl y < dl x by omega)
      unfold cmpI; rw [if_neg (by omega), if_neg (by omega)]
    clear hs1 hs2 ht1 ht2 hl hx hy
    generalize str (dec x) = s at *
    generalize str (dec y) = t at *
    obtain ⟨hb1, hb2⟩ := hsb
    by_cases h : s.size < t.size
    · have hr := Lib.hid (hc.1 h)
      have d1 : decide ((s.size : Int) < (t.size : Int)) = true := decide_eq_true (by omega)
      clear hc hne
      go_enter Tryz.func69, Tryz.ntmps69
      go_wp2
      go_ret
      exact ⟨ret_int hr.out.symm, rfl⟩
    · have hr := Lib.hid (hc.2 h)
      have d1 : decide ((s.size : Int) < (t.size : Int)) = false := decide_eq_false (by omega)
      clear hc hne
      go_enter Tryz.func69, Tryz.ntmps69
      go_wp2
      go_ret
      exact ⟨ret_int hr.out.symm, rfl⟩

set_option maxHeartbeats 1600000 in
set_option maxRecDepth 100000 in
theorem rsub_any (x n y m : Nat) (w : World) (hx : x < 10 ^ n) (hy : y < 10 ^ m) (hn : n ≤ 1000) (hm : m ≤ 1000) (hxy : y ≤ x) :
    Calls Tryz.prog 70 #[.string (str (sdig x n)), .string (str (sdig y m))] w fun e w' => e = .returned (.string (str (dec (x - y)))) ∧ Below w.heap.size w w' := by
  obtain ⟨i0, hi, hz0, hz1, hz2⟩ := info_parts infoI
  have DX := Lib.hid (fun i (h : i ≤ 100000000) wz => digit_any x n i wz hx (by omega) h)
  have DY := Lib.hid (fun i (h : i ≤ 100000000) wz => digit_any y m i wz hy (by omega) h)
  have hs1 : (str (sdig x n)).size = n := by rw [str_size, sdig_length]
  generalize str (sdig x n) = s at *
  generalize str (sdig y m) = t at *
  obtain ⟨z, hz⟩ : ∃ z, x - y = z := ⟨_, rfl⟩
  have hyz : y + z = x := by omega
  have HZN : Hid (z < 10 ^ n) := by show _ < _; omega
  rw [hz]
  have H0 : SumI w w z (.slice none 0 0) 0 := ⟨Below.refl _ _, World.ownsRow_nil _ _ _ _⟩
  have HI := Lib.hid hi
  have HC0 : Hid (0 = carry y z 0) := (carry_zero y z).symm
  have hL : s.size ≤ 1000 := by omega
  have HS1 := Lib.hid hs1
  have HYZ := Lib.hid hyz
  clear hi hx hy hs1 hn hm hz hyz hxy
  go_enter Tryz.func70, Tryz.ntmps70
  go_wp2
  go_loopw [5, 6, 7] (fun D c i wr => ∃ (k cy : Nat) (V : Value), k ≤ s.size ∧ i = .int .i64 k ∧ cy ≤ 1 ∧ c = .int .i64 cy ∧ Hid (cy = carry y z k) ∧ V = D ∧ SumI w wr z V k)
    (fun _ _ i _ => s.size - (intOf i).toNat)
  case atStart => exact ⟨0, 0, _, by omega, rfl, by omega, rfl, HC0, rfl, H0⟩
  case round =>
    obtain ⟨k, cy, V, hk, rfl, hcy, rfl, hcc, rfl, hr⟩ := hrel
    by_cases c1 : k < s.size
    · obtain ⟨dx, hdx⟩ : ∃ dx, d10 x k = dx := ⟨_, rfl⟩
      obtain ⟨dy, hdy⟩ : ∃ dy, d10 y k = dy := ⟨_, rfl⟩
      obtain ⟨dz, hdz⟩ : ∃ dz, d10 z k = dz := ⟨_, rfl⟩
      have CX := DX.out k (by omega)
      have CY := DY.out k (by omega)
      rw [hdx] at CX
      rw [hdy] at CY
      have hdyl : dy < 10 := by rw [← hdy]; exact Nat.mod_lt _ (by omega)
      have hdzl : dz < 10 := by rw [← hdz]; exact Nat.mod_lt _ (by omega)
      obtain ⟨q1, q2⟩ := carry_step y z k
      rw [HYZ.out, hdy, hdz, ← hcc.out, hdx] at q1
      rw [hdy, hdz, ← hcc.out] at q2
      have CX' := Lib.hid CX
      have CY' := Lib.hid CY
      have Q1 := Lib.hid hdz.symm
      have HR := Lib.hid hr
      have hzr : w.heap.size ≤ wr.heap.size := hr.below.size
      have d1 : decide ((k : Int) < (s.size : Int)) = true := decide_eq_true (by omega)
      by_cases hsm : dy + dz + cy < 10
      · have e1 : (dx : Int) - (dy : Int) - (cy : Int) = (dz : Int) := by omega
        have HNX : Hid (0 = carry y z (k + 1)) := by show _ = _; rw [← q2]; omega
        have d2 : decide ((dz : Int) < 0) = false := decide_eq_false (by omega)
        clear hr q1 q2 CX CY hdx hdy hdz hsm hcc
        go_wp2_with fail
        go_at_call 84
        refine (CX'.out wr).mono ?_
        rintro e w2 ⟨rfl, rfl⟩
        go_wp2_with fail
        go_at_call 84
        refine (CY'.out wr).mono ?_
        rintro e w2 ⟨rfl, rfl⟩
        go_wp2_with (at_builtin; refine wpList_append_own _ rfl _ _ 111 rfl w.heap.size 3 i0 (.int .i64 0) 1 8 Tryz.underlying111 HI.out hz0 hz1 hz2 rfl (by decide) _ _ _ rfl (World.ownsRow.alloc HR.out.own _) ⟨wr.heap.size, 0, none⟩ 1 1 [.int .i64 dz] rfl rfl (cell_one_at _ _ _) (one_cell_list _ _) (by unfold maxLen; omega) (by omega) (by rw [World.size_alloc]; omega) ?_; intro v' w5 hown' hgrow _)
        have HG5 := Lib.hid (sum_next HR.out hown' hgrow hzr Q1.out)
        clear hown' hgrow
        go_wp2
        go_roundw
        case rel => exact ⟨k + 1, 0, v', by omega, by go_num, by omega, rfl, HNX, rfl, HG5.out⟩
        case measure => simp [intOf]; omega
      · have e1 : (dx : Int) - (dy : Int) - (cy : Int) = (dz : Int) - 10 := by omega
        have HNX : Hid (1 = carry y z (k + 1)) := by show _ = _; rw [← q2]; omega
        have d2 : decide ((dz : Int) - 10 < 0) = true := decide_eq_true (by omega)
        have d3 : (dz : Int) < 10 := by omega
        have e2 : (dz : Int) - 10 + 10 = (dz : Int) := by omega
        clear hr q1 q2 CX CY hdx hdy hdz hsm hcc
        go_wp2_with fail
        go_at_call 84
        refine (CX'.out wr).mono ?_
        rintro e w2 ⟨rfl, rfl⟩
        go_wp2_with fail
        go_at_call 84
        refine (CY'.out wr).mono ?_
        rintro e w2 ⟨rfl, rfl⟩
        go_wp2_with (at_builtin; refine wpList_append_own _ rfl _ _ 111 rfl w.heap.size 3 i0 (.int .i64 0) 1 8 Tryz.underlying111 HI.out hz0 hz1 hz2 rfl (by decide) _ _ _ rfl (World.ownsRow.alloc HR.out.own _) ⟨wr.heap.size, 0, none⟩ 1 1 [.int .i64 dz] rfl rfl (cell_one_at _ _ _) (one_cell_list _ _) (by unfold maxLen; omega) (by omega) (by rw [World.size_alloc]; omega) ?_; intro v' w5 hown' hgrow _)
        have HG5 := Lib.hid (sum_next HR.out hown' hgrow hzr Q1.out)
        clear hown' hgrow
        go_wp2
        go_roundw
        case rel => exact ⟨k + 1, 1, v', by omega, by go_num, by omega, rfl, HNX, rfl, HG5.out⟩
        case measure => simp [intOf]; omega
    · obtain rfl : k = s.size := by omega
      obtain ⟨a, c, rfl, hsa, _⟩ := hr.own.slAt (m := 10) (fun j _ => Nat.mod_lt _ (by omega)) (by omega)
      have HW := Lib.hid (written_any a s.size c (d10 z) z wr hsa (fun _ _ => rfl) (by rw [HS1.out]; exact HZN.out))
      have HB := Lib.hid hr.below
      clear hsa hr
      go_wp2_with (go_at_call 85; refine HW.out.mono ?_; rintro e w7 ⟨rfl, hb7⟩)
      go_ret
      exact ⟨rfl, HB.out.trans (hb7.mono HB.out.size)⟩

end Go.Proofs.YthklcdcikmninaaGreatDoor

namespace Go.Proofs.YthklcdcikmninaaGreatDoor
open Go.RowKit

theorem numOf_append (b : List UInt8) : ∀ a : List UInt8, numOf (a ++ b) = numOf a * 10 ^ b.length + numOf b
  | [] => by simp [numOf]
  | c :: a => by
    rw [List.cons_append, numOf, numOf_append b a, numOf, List.length_append, Nat.pow_add, Nat.add_mul, Nat.mul_assoc]
    omega
theorem numOf_take_le (l : List UInt8) (k : Nat) : numOf (l.take k) ≤ numOf l := by
  have h := numOf_append (l.drop k) (l.take k)
  rw [List.take_append_drop] at h
  have := Nat.le_mul_of_pos_right (numOf (l.take k)) (Nat.pow_pos (n := (l.drop k).length) (show 0 < 10 by omega))
  omega
theorem numOf_dec (N : Nat) : numOf (dec N) = N := by unfold dec; rw [numOf_sdig, Nat.mod_eq_of_lt (dl_lt N)]
theorem dec_dig (N : Nat) : ∀ c ∈ dec N, 48 ≤ c.toNat ∧ c.toNat ≤ 57 := by
  intro c hc
  obtain ⟨j, hj⟩ := List.getElem?_of_mem hc
  unfold dec at hj
  have hjl : j < dl N := by
    rcases Nat.lt_or_ge j (dl N) with h | h
    · exact h
    · rw [List.getElem?_eq_none (by rw [sdig_length]; exact h)] at hj; cases hj
  rw [sdig_get N _ _ hjl] at hj
  cases hj
  rw [dgt_toNat]
  have := Nat.mod_lt (N / 10 ^ (dl N - 1 - j)) (show 0 < 10 by omega)
  omega

theorem dec_max : dec 18446744073709551615 = [49, 56, 52, 52, 54, 55, 52, 52, 48, 55, 51, 55, 48, 57, 53, 53, 49, 54, 49, 53] := by
  rw [← dec_of_top (k := 20) (by decide) (.inr ⟨by decide, by decide⟩)]
  decide

/-- A text of digits at place k: its digit, and what stands before. -/
theorem dec_at {N : Nat} {s : ByteArray} (hs : s.data.toList = dec N) {k : Nat} (hk : k < s.size) :
    ∃ c x : Nat, s[k].toNat = c ∧ c = 48 + x ∧ x < 10 ∧ numOf (s.data.toList.take (k + 1)) = 10 * numOf (s.data.toList.take k) + x := by
  have hm : s[k] ∈ dec N := by
    rw [← hs]
    exact List.getElem_mem (l := s.data.toList) (by simpa using hk)
  obtain ⟨h1, h2⟩ := dec_dig N _ hm
  refine ⟨_, s[k].toNat - 48, rfl, by omega, by omega, ?_⟩
  rw [take_snoc s k hk, numOf_snoc]

def uI (N : Nat) : Nat := if N < 18446744073709551616 then N else 0
/-- A number out of groups, the greatest first. -/
def hor (g : Nat → Nat) : Nat → Nat
  | 0 => 0
  | k + 1 => hor g k * 1000000000 + g k
theorem hor_congr {f g : Nat → Nat} : ∀ n, (∀ j, j < n → f j = g j) → hor f n = hor g n
  | 0, _ => rfl
  | n + 1, h => by rw [hor, hor, hor_congr n (fun j hj => h j (by omega)), h n (by omega)]

/-- A list of the call's own that is a number in groups. -/
def GrpIs (wr : World) (base : Nat) (V : Value) (cnt X : Nat) : Prop := ∃ g, OwnL wr base 3 .i64 V cnt g ∧ (∀ j, j < cnt → g j < 1000000000) ∧ hor g cnt = X

theorem GrpIs.snoc {wr w5 : World} {base : Nat} {V v' : Value} {cnt X x : Nat} (h : GrpIs wr base V cnt X) (hx : x < 1000000000) (hown : ∀ g, OwnL wr base 3 .i64 V cnt g → w5.ownsRow base 3 1 v' (cnt + 1) (cl .i64 g cnt ++ [.int .i64 x])) : GrpIs w5 base v' (cnt + 1) (X * 1000000000 + x) := by
  obtain ⟨g, h1, h2, h3⟩ := h
  have := hown g h1
  rw [cl_snoc] at this
  refine ⟨_, this, fun j hj => ?_, ?_⟩
  · show (if j = cnt then x else g j) < _
    split
    · exact hx
    · exact h2 j (by omega)
  · rw [hor, if_pos rfl, hor_congr cnt (g := g) (fun j hj => if_neg (by omega)), h3]

/-- At the head of a round of groups. -/
def GrI (w wr : World) (s : ByteArray) (V : Value) (n i : Nat) : Prop := Below w.heap.size w wr ∧ ∃ p cnt X, GrpIs wr w.heap.size V cnt X ∧ X * 10 ^ p + n = numOf (s.data.toList.take i) ∧ n < 10 ^ p ∧ (s.size - i) % 9 + p ≤ 9 ∧ ((s.size - i) % 9 = 0 → p = 0) ∧ cnt ≤ i ∧ (X = 0 ∨ (s.size - i + p) % 9 = 0)

end Go.Proofs.YthklcdcikmninaaGreatDoor

namespace Go.Proofs.YthklcdcikmninaaGreatDoor
open Go.RowKit

theorem nbits_zero : nbits 0 = 0 := by simp [nbits]
theorem nbits_half {N : Nat} (h : 0 < N) : nbits N = nbits (N / 2) + 1 := by
  rcases Nat.lt_or_ge N 2 with h1 | h1
  · obtain rfl : N = 1 := by omega
    rw [nbits_eq (N := 1) (b := 0) (by decide) (by decide)]
    simp [nbits]
  · obtain ⟨b, hb⟩ : ∃ b, nbits (N / 2) = b + 1 := by
      refine ⟨(N / 2).log2, ?_⟩
      unfold nbits; rw [if_neg (by omega)]
    rw [hb]
    have h2 : N / 2 < 2 ^ (b + 1) := nbits_le.1 (by omega)
    have h3 : ¬ N / 2 < 2 ^ b := fun h => by have := nbits_le.2 h; omega
    refine nbits_eq ?_ ?_
    · rw [Nat.pow_succ]; omega
    · rw [Nat.pow_succ]; omega
theorem nbits_shift {N : Nat} (k : Nat) (h : 0 < N / 2 ^ k) : nbits N = nbits (N / 2 ^ k) + k := by
  induction k generalizing N with
  | zero => simp
  | succ k ih =>
    have e : N / 2 ^ (k + 1) = N / 2 / 2 ^ k := by rw [Nat.pow_succ, Nat.mul_comm, Nat.div_div_eq_div_mul]
    rw [e] at h ⊢
    have h0 : 0 < N := by
      rcases Nat.eq_zero_or_pos N with h1 | h1
      · subst h1; simp at h
      · exact h1
    rw [nbits_half h0, ih h]; omega

theorem OwnL.mono {w : World} {base base' : Nat} {e : TypeId} {ki : IntKind} {v : Value} {n : Nat} {f : Nat → Nat} (h : OwnL w base e ki v n f) (hb : base' ≤ base) : OwnL w base' e ki v n f := by
  refine ⟨h.1, ?_⟩
  rcases h.2 with h0 | ⟨g, cap, cur, h1, h2, h3⟩
  · exact .inl h0
  · exact .inr ⟨g, cap, cur, h1, by omega, h3⟩

theorem hor_succ (g : Nat → Nat) (k : Nat) : hor g (k + 1) = hor g k * 1000000000 + g k := by rw [hor]
/-- One group more, divided by 65536. -/
theorem hor_div (X x : Nat) : (X % 65536 * 1000000000 + x) % 65536 = (X * 1000000000 + x) % 65536 ∧ X / 65536 * 1000000000 + (X % 65536 * 1000000000 + x) / 65536 = (X * 1000000000 + x) / 65536 := by
  constructor <;> omega

structure BitI (W0 wr : World) (g : Nat → Nat) (Q : Value) (c2 k : Nat) : Prop where
  below : Below W0.heap.size W0 wr
  grp : GrpIs wr W0.heap.size Q c2 (hor g k / 65536)
  zero : c2 = 0 ↔ hor g k / 65536 = 0
  len : c2 ≤ k

theorem GrpIs.zero {wr : World} {base : Nat} {V : Value} {cnt X : Nat} (h : GrpIs wr base V cnt X) (h0 : cnt = 0) : X = 0 := by
  obtain ⟨g, _, _, h3⟩ := h
  subst h0; exact h3.symm

/-- At the head of a round of Bits. -/
structure BitO (w wr : World) (N E j X : Nat) (V : Value) (cnt : Nat) : Prop where
  below : Below w.heap.size w wr
  grp : GrpIs wr w.heap.size V cnt X
  len : cnt ≤ 1000
  bits : nbits N = 16 * j + nbits X
  lim : X < 65536 ^ (E - j)

theorem BitI.next {W0 wr w5 : World} {g : Nat → Nat} {Q v' : Value} {c2 k tt : Nat} (h : BitI W0 wr g Q c2 k) (htt : hor g k % 65536 * 1000000000 + g k = tt) (hq : tt / 65536 < 1000000000) (hb : Below W0.heap.size W0 w5)
    (hpos : 0 < c2 ∨ 0 < tt / 65536)
    (hown : ∀ g', OwnL wr W0.heap.size 3 .i64 Q c2 g' → w5.ownsRow W0.heap.size 3 1 v' (c2 + 1) (cl .i64 g' c2 ++ [.int .i64 (tt / 65536 : Nat)])) : BitI W0 w5 g v' (c2 + 1) (k + 1) := by
  have e := (hor_div (hor g k) (g k)).2
  rw [htt] at e
  have hs := h.grp.snoc (w5 := w5) (v' := v') hq hown
  rw [e, ← hor_succ] at hs
  rw [← hor_succ] at e
  refine ⟨hb, hs, ⟨fun h0 => by omega, fun h0 => ?_⟩, by have := h.len; omega⟩
  exfalso
  have hz : hor g k / 65536 * 1000000000 + tt / 65536 = 0 := by rw [e]; exact h0
  rcases hpos with hp | hp
  · have := h.zero.2 (by omega); omega
  · omega

theorem BitI.skip {W0 wr : World} {g : Nat → Nat} {Q : Value} {c2 k tt : Nat} (h : BitI W0 wr g Q c2 k) (htt : hor g k % 65536 * 1000000000 + g k = tt) (h0 : c2 = 0) (h1 : tt / 65536 = 0) : BitI W0 wr g Q c2 (k + 1) := by
  have e := (hor_div (hor g k) (g k)).2
  rw [htt, h1, h.zero.1 h0] at e
  have e2 : hor g (k + 1) / 65536 = 0 := by
    rw [hor_succ, ← e, Nat.zero_mul]
  refine ⟨h.below, ?_, ⟨fun _ => e2, fun _ => h0⟩, by have := h.len; omega⟩
  have := h.grp
  rw [h.zero.1 h0] at this
  rw [e2]; exact this

theorem GrpIs.fn {wr w5 : World} {base : Nat} {V : Value} {cnt : Nat} {v' : Value} {x : Nat} {g g' : Nat → Nat} (h1 : OwnL wr base 3 .i64 V cnt g') (h2 : OwnL wr base 3 .i64 V cnt g)
    (hown' : w5.ownsRow base 3 1 v' (cnt + 1) (cl .i64 g cnt ++ [.int .i64 x])) : w5.ownsRow base 3 1 v' (cnt + 1) (cl .i64 g' cnt ++ [.int .i64 x]) := by
  have e : cl .i64 g' cnt = cl .i64 g cnt := by
    rcases h1.2 with ⟨a1, a2⟩ | ⟨q1, c1, cu1, a1, _, a3, _, _, _, a4⟩
    · rw [a2]; rfl
    · rcases h2.2 with ⟨b1, b2⟩ | ⟨q2, c2, cu2, b1, _, b3, _, _, _, b4⟩
      · rw [b2]; rfl
      · rw [a1] at b1
        simp only [Value.slice.injEq, Option.some.injEq, Addr.mk.injEq, and_true, true_and] at b1
        obtain ⟨rfl, _⟩ := b1
        rw [a3] at b3
        simp only [Option.some.injEq, Obj.cells.injEq, and_true] at b3
        rw [← a4, ← b4, b3]
  rw [e]; exact hown'

end Go.Proofs.YthklcdcikmninaaGreatDoor

