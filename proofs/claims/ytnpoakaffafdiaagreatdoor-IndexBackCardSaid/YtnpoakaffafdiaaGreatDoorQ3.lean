/-
  Texts of this seat, laid together.
-/
import Derived.BigRegion
import Derived.RegionTactic
import Derived.Deep.RegionWith
import Derived.Deep.RegionHeld3
import Derived.Deep.DrawnRows
import Derived.IntWalk
import Derived.Laws.BitsLemmas
import Derived.Deep.MidRow
import Derived.Lib.SliceRun
import Derived.Lib.Walk
import Derived.Deep.AppendLies
import Derived.Deep.RegionLaw
import Derived.Deep.QuietTactic
import Derived.BigQuiet
import Derived.Test.YtnpoakaffafdiaaGreatDoorQ1
import Derived.Test.YtnpoakaffafdiaaGreatDoorQ2
set_option maxHeartbeats 12800000
set_option maxRecDepth 100000
set_option linter.unusedSimpArgs false
set_option linter.unusedVariables false
namespace Go.Proofs.YtnpoakaffafdiaaGreatDoor
open Go.RowKit
theorem ret_str {s t : ByteArray} (h : s = t) : Ending.returned (.string s) = .returned (.string t) := by rw [h]
theorem extract_cons (x : UInt8) (l : List UInt8) : (str (x :: l)).extract 1 (str (x :: l)).size = str l := by
 refine str_of ?_
 rw [Lib.extract_data]
 simp [str, ByteArray.size]
theorem dec_of_top {N k : Nat} (h : N < 10 ^ k) (h2 : k = 1 ∨ (1 <= k /\ ¬ dgt N (k - 1) = 48)) : sdig N k = dec N := by
 have : dl N = k := by
  rcases h2 with rfl | ⟨h1, h2⟩
  · have := dl_le N 1 (by omega) h; have := dl_pos N; omega
  · refine Nat.le_antisymm (dl_le N k h1 h) ?_
    have : 10 ^ (k - 1) <= N := by
     rcases Nat.lt_or_ge N (10 ^ (k - 1)) with h3 | h3
     · exact absurd (by rw [dgt_zero, Nat.div_eq_of_lt h3]) h2
     · exact h3
    have := dl_ge this; omega
 unfold dec; rw [this]
theorem trim_any (N n : Nat) (w : World) (hn : 0 < n) (hN : N < 10 ^ n) (hl : n <= 10000000) : Calls Tryz.prog 115 #[.string (str (sdig N n))] w fun e w' => e = .returned (.string (str (dec N))) /\ w = w' := by
 have H0 : Hid (str (sdig N n) = str (sdig N n) /\ (str (sdig N n)).size = n /\ N < 10 ^ n /\ 0 < n /\ n <= 10000000) := ⟨rfl, by rw [str_size, sdig_length], hN, hn, hl⟩
 obtain ⟨s0, hs0⟩ : ∃ s0, str (sdig N n) = s0 := ⟨_, rfl⟩
 rw [hs0]
 have H0' : Hid (s0 = str (sdig N n) /\ s0.size = n /\ N < 10 ^ n /\ 0 < n /\ n <= 10000000) := by rw [← hs0]; exact H0
 clear H0 hs0 hn hN hl
 go_enter Tryz.func115, Tryz.ntmps115
 go_wp2
 go_loop [0] (fun s => ∃ (k : Nat) (t : ByteArray), s = .string t /\ Hid (t = str (sdig N k) /\ t.size = k /\ N < 10 ^ k /\ 0 < k /\ k <= 10000000))
  (fun s => match s with | .string t => t.size | _ => 0)
 case atStart => exact ⟨n, s0, rfl, H0'.out⟩
 case round =>
  obtain ⟨k, t, rfl, hr⟩ := hrel
  obtain ⟨ht, hk, hNk, hk0, hkl⟩ := hr.out
  have hz : 0 < t.size := by omega
  obtain ⟨c, hc⟩ : ∃ c, t[0] = c := ⟨_, rfl⟩
  have hcd : c = dgt N (k - 1) := by
   obtain ⟨m, rfl⟩ : ∃ m, k = m + 1 := ⟨k - 1, by omega⟩
   subst ht
   rw [← hc]; rfl
  have HCD := Lib.hid hcd
  have HK := Lib.hid hk
  by_cases h1 : 1 < t.size
  · have d1 : decide ((1 : Int) < (t.size : Int)) = true := decide_eq_true (by omega)
    by_cases h2 : c = 48
    · have d2 : ((c.toNat : Int) == 48) = true := by rw [h2]; rfl
      obtain ⟨t', htt⟩ : ∃ t', t.extract 1 t.size = t' := ⟨_, rfl⟩
      have hnx : Hid (t' = str (sdig N (k - 1)) /\ t'.size = k - 1 /\ N < 10 ^ (k - 1) /\ 0 < k - 1 /\ k - 1 <= 10000000) := by
       obtain ⟨m, rfl⟩ : ∃ m, k = m + 1 := ⟨k - 1, by omega⟩
       have e : t' = str (sdig N m) := by rw [← htt, ht]; exact extract_cons _ _
       have hlt : N < 10 ^ m := by
        rw [hcd, Nat.add_sub_cancel, dgt_zero] at h2
        rcases Nat.lt_or_ge N (10 ^ m) with h3 | h3
        · exact h3
        · have h4 := Nat.div_pos h3 (Nat.pow_pos (by omega))
          have h5 : N / 10 ^ m < 10 := by rw [Nat.div_lt_iff_lt_mul (Nat.pow_pos (by omega))]; rw [Nat.pow_succ] at hNk; omega
          omega
       exact ⟨e, by rw [e, str_size, sdig_length]; rfl, hlt, by omega, by omega⟩
      have hsz : t'.size < t.size := by have := hnx.out.2.1; omega
      clear hr ht hk hNk hcd h2
      go_wp2
      go_round
      case rel => exact ⟨k - 1, t', rfl, hnx.out⟩
      case measure => simpa using hsz
    · have d2 : ((c.toNat : Int) == 48) = false := by
        rw [beq_eq_false_iff_ne]
        intro h; apply h2; rw [← UInt8.toNat_inj]
        show c.toNat = 48
        omega
      have hE : Hid (str (dec N) = t) := by show _ = _; rw [ht, dec_of_top hNk (.inr ⟨hk0, by rw [← hcd]; exact h2⟩)]
      clear hr ht hk hNk hcd h2
      go_wp2
      go_ret
      exact ⟨ret_str hE.out.symm, rfl⟩
  · have d1 : decide ((1 : Int) < (t.size : Int)) = false := decide_eq_false (by omega)
    have hE : Hid (str (dec N) = t) := by show _ = _; rw [ht, dec_of_top hNk (.inl (by omega))]
    clear hr ht hk hNk hcd
    go_wp2
    go_ret
    exact ⟨ret_str hE.out.symm, rfl⟩
theorem infoI : (Tryz.prog.info? 3).map (fun i => (i.zero, i.size, i.bytes)) = some (some (.int .i64 0), 1, 8) := by kernel_rfl
theorem make_bytes (m : Nat) (hm : m <= 10000000) : ∃ z : Array Value, z.size = m /\
    ∀ w : World, (Instr.makeSlice 145 (.int .i64 0) (.int .i64 m)).run Tryz.prog w = .ok (.slice (some ⟨w.heap.size, 0, none⟩) 0 m) (w.alloc (.cells z 5)) := by
 obtain ⟨i0, hi, hz0, hz1, hz2⟩ := info_parts infoB
 refine ⟨madeCells (Value.cells (.int .u8 0)) m, size_madeCells _ _, fun w => ?_⟩
 have hmk := run_make (P := Tryz.prog) w 145 5 i0 (.int .u8 0) Tryz.underlying145 hi hz0 .i64 .i64 0 m (by omega) (by omega) (by rw [hz2]; omega) (by omega)
 simp only [Int.toNat_natCast, hz1, Nat.mul_one, Int.toNat_zero] at hmk
 exact hmk
def d10 (N j : Nat) : Nat := N / 10 ^ j % 10
theorem dg_d10 (N j : Nat) : dg N j = 48 + d10 N j := rfl
structure WrI (w wr : World) (base N n : Nat) (V : Value) (k : Nat) : Prop where
 below : Below base w wr
 own : OwnL wr base 5 .u8 V k (fun j => dg N (n - 1 - j))
theorem written_any (a : Option Addr) (n c : Nat) (f : Nat -> Nat) (N : Nat) (w : World) (hs : SlAt w .i64 10 a n c f) (hf : ∀ j, j < n -> f j = d10 N j) (hN : N < 10 ^ n) :
    Calls Tryz.prog 168 #[.slice a n c] w fun e w' => e = .returned (.string (str (dec N))) /\ Below w.heap.size w w' := by
 obtain ⟨i0, hi, hz0, hz1, hz2⟩ := info_parts infoB
 have hnl : n <= 1000000 := hs.2.1
 obtain ⟨m, hm⟩ : ∃ m, n + 1 = m := ⟨_, rfl⟩
 have em : (n : Int) + 1 = (m : Int) := by omega
 obtain ⟨z, hz, hmk⟩ := make_bytes m (by omega)
 have H0 : WrI w (w.alloc (.cells z 5)) w.heap.size N n (.slice (some ⟨w.heap.size, 0, none⟩) 0 m) 0 :=
  ⟨(Below.refl _ _).alloc (Nat.le_refl _) _, World.ownsRow_made w z m (Nat.le_refl _) (by unfold maxLen; omega) (by omega)⟩
 have HS := Lib.hid hs
 have HF := Lib.hid hf
 have HN := Lib.hid hN
 have HI := Lib.hid hi
 have H0' := Lib.hid H0
 clear hs hf hN hi H0 hz hm
 go_enter Tryz.func168, Tryz.ntmps168
 go_wp2
 go_loopw [3, 4] (fun D i wr => ∃ (k : Nat) (ii : Int) (V : Value), k <= n /\ i = .int .i64 ii /\ ii = (n : Int) - 1 - (k : Int) /\ V = D /\ WrI w wr w.heap.size N n V k)
  (fun _ i _ => (intOf i + 1).toNat)
 case atStart => exact ⟨0, _, _, by omega, rfl, by omega, rfl, H0'.out⟩
 case round =>
  obtain ⟨k, ii, V, hk, rfl, hii, rfl, hr⟩ := hrel
  by_cases hlt : k < n
  · obtain ⟨t, rfl⟩ : ∃ t : Nat, ii = (t : Int) := ⟨ii.toNat, by omega⟩
    have htn : n - 1 - k = t := by omega
    obtain ⟨b, off, rfl, hb, hcc⟩ := HS.out.at (show 0 < n by omega)
    have hct := (hr.below.cell (p := ⟨b, off + t, none⟩) hb).trans (hcc t (by omega))
    have hft := HF.out t (by omega)
    rw [hft] at hct
    have hxl : d10 N t < 10 := Nat.mod_lt _ (by omega)
    obtain ⟨x, hx⟩ : ∃ x, d10 N t = x := ⟨_, rfl⟩
    rw [hx] at hct hxl
    obtain ⟨y, hy⟩ : ∃ y, 48 + x = y := ⟨_, rfl⟩
    have e2 : (48 : Int) + (x : Int) = (y : Int) := by omega
    have e3 : (y : Int) % 256 = (y : Int) := by omega
    have hyd : y = dg N (n - 1 - k) := by rw [htn, dg_d10, hx, hy]
    have HYD := Lib.hid hyd
    have HR := Lib.hid hr
    have HII := Lib.hid hii
    have ht0 : (0 : Int) <= (t : Int) := by omega
    have ht1 : (t : Int) < (n : Int) := by omega
    have hzr : w.heap.size <= wr.heap.size := hr.below.size
    clear hr hcc hft hx hy hyd htn hii
    go_wp2_with (at_builtin; refine wpList_append_own _ rfl _ _ 145 rfl w.heap.size 5 i0 (.int .u8 0) 1 1 Tryz.underlying145 HI.out hz0 hz1 hz2 rfl (by decide) _ _ _ rfl (World.ownsRow.alloc HR.out.own _) ⟨wr.heap.size, 0, none⟩ 1 1 [.int .u8 y] rfl rfl ?c1 ?c2 ?c3 ?c4 ?c5 ?_)
    case c1 =>
     intro j u hj
     match j, hj with
     | 0, hj => simp at hj; subst hj; simp [Addr.add]
    case c2 => intro u hu; simp at hu; subst hu; rfl
    case c3 => unfold maxLen; omega
    case c4 => omega
    case c5 => rw [World.size_alloc]; omega
    · intro v' w5 hown' hgrow _
      have hb5 : Below w.heap.size w w5 := (HR.out.below.alloc hzr _).grown hgrow (by rw [World.size_alloc]; omega) (fun q hq => (World.ownsRow.lt HR.out.own q hq).1)
      have hown2 : OwnL w5 w.heap.size 5 .u8 v' (k + 1) (fun j => dg N (n - 1 - j)) := by
       rw [cl_snoc, cl_congr (g := fun j => dg N (n - 1 - j)) (fun j hj => by
        by_cases e : j = k
        · rw [if_pos e, HYD.out, e]
        · rw [if_neg e])] at hown'
       exact hown'
      have HG5 := Lib.hid (show WrI w w5 w.heap.size N n v' (k + 1) from ⟨hb5, hown2⟩)
      clear hown' hgrow hb5 hown2
      go_wp2
      go_roundw
      case rel =>
       have := HII.out
       exact ⟨k + 1, (t : Int) - 1, v', by omega, rfl, by omega, rfl, HG5.out⟩
      case measure => simp [intOf]
  · obtain rfl : k = n := by omega
    have d1 : decide ((0 : Int) <= ii) = false := decide_eq_false (by omega)
    have hii2 : ¬ (0 : Int) <= ii := by omega
    have hbl := hr.below
    rcases hr.own.cases with ⟨hV, hk0⟩ | ⟨g, c2, rfl, hc2, hgb, hgl, hgc, hgf⟩
    · subst hk0
      have h0 : N = 0 := by have := HN.out; simp at this; omega
      subst h0
      subst hV
      have HB := Lib.hid hbl
      clear hr hbl hii
      go_wp2
      go_ret
      exact ⟨by rw [dec_zero]; rfl, HB.out⟩
    · by_cases hk0 : k = 0
      · subst hk0
        have h0 : N = 0 := by have := HN.out; simp at this; omega
        subst h0
        have HB := Lib.hid hbl
        clear hr hbl hii hgc hgf
        go_wp2
        go_ret
        exact ⟨by rw [dec_zero]; rfl, HB.out⟩
      · have d2 : ((k : Int) == 0) = false := by rw [beq_eq_false_iff_ne]; omega
        have hcv := run_convert_bytes_arg (P := Tryz.prog) (w := wr) 145 5 Tryz.underlying145 Tryz.underlying5 g 0 k c2 ((List.range k).map fun j => ((dg N (k - 1 - j) : Nat) : Int)) (by simp) (fun j hj => by rw [hgc j hj]; simp [hj]) 9 Tryz.underlying9
        have hst : strOfNums ((List.range k).map fun j => ((dg N (k - 1 - j) : Nat) : Int)) = str (sdig N k) := by
         refine str_of ?_
         rw [strOfNums_data]
         apply List.ext_getElem?
         intro j
         by_cases hj : j < k
         · rw [sdig_get N k j hj, List.getElem?_map, List.getElem?_map, List.getElem?_range hj]
           simp only [Option.map_some]
           rw [Int.toNat_natCast]; rfl
         · rw [List.getElem?_eq_none (by simp; omega), List.getElem?_eq_none (by rw [sdig_length]; omega)]
        rw [hst] at hcv
        have HT := Lib.hid (trim_any N k wr (by omega) HN.out (by omega))
        have HB := Lib.hid hbl
        clear hr hbl hii hgc hgf hst
        go_wp2_with fail
        go_at_call 115
        refine HT.out.mono ?_
        rintro e w7 ⟨rfl, rfl⟩
        clear hcv
        go_wp2
        go_ret
        exact ⟨rfl, HB.out⟩
structure OfI (w wr : World) (X : Nat) (V : Value) (k : Nat) : Prop where
 below : Below w.heap.size w wr
 own : OwnL wr w.heap.size 3 .i64 V k (d10 X)
theorem rof_any (X : Nat) (w : World) (hX : X < 18446744073709551616) : Calls Tryz.prog 159 #[.int .u64 X] w fun e w' => e = .returned (.string (str (dec X))) /\ Below w.heap.size w w' := by
 obtain ⟨i0, hi, hz0, hz1, hz2⟩ := info_parts infoI
 by_cases h0 : X = 0
 · subst h0
   go_enter Tryz.func159, Tryz.ntmps159
   go_wp2
   go_ret
   exact ⟨by rw [dec_zero]; rfl, Below.refl _ _⟩
 have HX : Hid (X < 10 ^ 20) := by show _ < _; omega
 have H0 : OfI w w X (.slice none 0 0) 0 := ⟨Below.refl _ _, World.ownsRow_nil _ _ _ _⟩
 have d0 : ((X : Int) == 0) = false := by rw [beq_eq_false_iff_ne]; omega
 have HI := Lib.hid hi
 have HXL := Lib.hid hX
 clear hi
 go_enter Tryz.func159, Tryz.ntmps159
 go_wp2
 go_loopw [0, 3, 4] (fun x D i wr => ∃ (k y : Nat) (V : Value), k <= 20 /\ i = .int .i64 k /\ x = .int .u64 y /\ Hid (y = X / 10 ^ k) /\ y < 18446744073709551616 /\ V = D /\ OfI w wr X V k)
  (fun _ _ i _ => 20 - (intOf i).toNat)
 case atStart => exact ⟨0, X, _, by omega, rfl, rfl, (by show _ = _; simp), hX, rfl, H0⟩
 case round =>
  obtain ⟨k, y, V, hk, rfl, rfl, hy, hyl, rfl, hr⟩ := hrel
  by_cases hlt : k < 20 /\ 0 < y
  · obtain ⟨hlt, hy0⟩ := hlt
    obtain ⟨x, hx⟩ : ∃ x, y % 10 = x := ⟨_, rfl⟩
    obtain ⟨y', hy'⟩ : ∃ y', y / 10 = y' := ⟨_, rfl⟩
    have e1 : (y : Int) % 10 = (x : Int) := by omega
    have e2 : (y : Int) / 10 = (y' : Int) := by omega
    have hxd : x = d10 X k := by unfold d10; rw [← hx, hy.out]
    have hyn : Hid (y' = X / 10 ^ (k + 1)) := by show _ = _; rw [← hy', hy.out, Nat.div_div_eq_div_mul, ← Nat.pow_succ]
    have HXD := Lib.hid hxd
    have HR := Lib.hid hr
    have hxl : x < 10 := by omega
    have hyl' : y' < 18446744073709551616 := by omega
    have hzr : w.heap.size <= wr.heap.size := hr.below.size
    have d1 : decide ((0 : Int) < (y : Int)) = true := decide_eq_true (by omega)
    clear hr hx hy' hxd hy
    go_wp2_with (at_builtin; refine wpList_append_own _ rfl _ _ 22 rfl w.heap.size 3 i0 (.int .i64 0) 1 8 Tryz.underlying22 HI.out hz0 hz1 hz2 rfl (by decide) _ _ _ rfl (World.ownsRow.alloc HR.out.own _) ⟨wr.heap.size, 0, none⟩ 1 1 [.int .i64 x] rfl rfl ?c1 ?c2 ?c3 ?c4 ?c5 ?_)
    case c1 =>
     intro j u hj
     match j, hj with
     | 0, hj => simp at hj; subst hj; simp [Addr.add]
    case c2 => intro u hu; simp at hu; subst hu; rfl
    case c3 => unfold maxLen; omega
    case c4 => omega
    case c5 => rw [World.size_alloc]; omega
    · intro v' w5 hown' hgrow _
      have hb5 : Below w.heap.size w w5 := (HR.out.below.alloc hzr _).grown hgrow (by rw [World.size_alloc]; omega) (fun q hq => (World.ownsRow.lt HR.out.own q hq).1)
      have hown2 : OwnL w5 w.heap.size 3 .i64 v' (k + 1) (d10 X) := by
       rw [cl_snoc, cl_congr (g := d10 X) (fun j hj => by
        by_cases e : j = k
        · rw [if_pos e, HXD.out, e]
        · rw [if_neg e])] at hown'
       exact hown'
      have HG5 := Lib.hid (show OfI w w5 X v' (k + 1) from ⟨hb5, hown2⟩)
      clear hown' hgrow hb5 hown2
      go_wp2
      go_roundw
      case rel => exact ⟨k + 1, y', v', by omega, by go_num, rfl, hyn, hyl', rfl, HG5.out⟩
      case measure => simp [intOf]; omega
  · have hlow : X < 10 ^ k := by
      by_cases hk20 : k = 20
      · subst hk20; exact HX.out
      · have : X / 10 ^ k = 0 := by have := hy.out; omega
        rcases Nat.lt_or_ge X (10 ^ k) with h | h
        · exact h
        · have := Nat.div_pos h (Nat.pow_pos (show 0 < 10 by omega)); omega
    obtain ⟨a, c, rfl, hsa, _⟩ := hr.own.slAt (m := 10) (fun j _ => Nat.mod_lt _ (by omega)) (by omega)
    have HW := Lib.hid (written_any a k c (d10 X) X wr hsa (fun _ _ => rfl) hlow)
    have HB := Lib.hid hr.below
    clear hsa hr hlow hy
    by_cases hk20 : k < 20
    · have d1 : decide ((0 : Int) < (y : Int)) = false := decide_eq_false (by omega)
      go_wp2_with (go_at_call 168; refine HW.out.mono ?_; rintro e w7 ⟨rfl, hb7⟩)
      go_ret
      exact ⟨rfl, HB.out.trans (hb7.mono HB.out.size)⟩
    · go_wp2_with (go_at_call 168; refine HW.out.mono ?_; rintro e w7 ⟨rfl, hb7⟩)
      go_ret
      exact ⟨rfl, HB.out.trans (hb7.mono HB.out.size)⟩
theorem right_any (s : ByteArray) (w : World) (hs : s.size <= maxLen) : Calls Tryz.prog 114 #[.string s] w fun e w' => e = .returned (.bool (okB s.data.toList)) /\ w = w' := by
 have hsl : s.data.toList.length = s.size := rfl
 unfold maxLen at hs
 obtain ⟨b, hb⟩ : ∃ b, okB s.data.toList = b := ⟨_, rfl⟩
 rw [hb]
 have HB := Lib.hid hb
 have HSL := Lib.hid hsl
 clear hb hsl
 go_enter Tryz.func114, Tryz.ntmps114
 go_wp2
 go_loop [3] (fun i => ∃ k : Nat, k <= s.size /\ k <= 2001 /\ i = .int .i64 k /\ Hid (∀ c ∈ s.data.toList.take k, 48 <= c.toNat /\ c.toNat <= 57))
  (fun i => s.size - (intOf i).toNat)
 case atStart => exact ⟨0, by omega, by omega, rfl, by show ∀ c ∈ _, _; simp⟩
 case round =>
  obtain ⟨k, hk, hk2, rfl, hdg⟩ := hrel
  by_cases hlt : k < s.size
  · have d0 : decide ((k : Int) < (s.size : Int)) = true := decide_eq_true (by omega)
    by_cases h2k : k <= 2000
    · have d1 : decide ((k : Int) <= 2000) = true := decide_eq_true (by omega)
      have hsn := take_snoc s k hlt
      obtain ⟨c, hc⟩ : ∃ c, s[k] = c := ⟨_, rfl⟩
      rw [hc] at hsn
      have hbad : ¬ (48 <= c.toNat /\ c.toNat <= 57) -> b = false := by
       intro hdc
       rw [← HB.out]
       cases hk : okB s.data.toList
       · rfl
       · exfalso
         have := (okB_digs hk).2.2 c (List.mem_of_mem_take (by rw [hsn]; exact List.mem_append_right _ List.mem_cons_self))
         exact hdc this
      by_cases hdc : 48 <= c.toNat /\ c.toNat <= 57
      · have t1 : decide ((c.toNat : Int) < 48) = false := decide_eq_false (by omega)
        have t2 : decide ((57 : Int) < (c.toNat : Int)) = false := decide_eq_false (by omega)
        have hnx : Hid (∀ c ∈ s.data.toList.take (k + 1), 48 <= c.toNat /\ c.toNat <= 57) := by
         intro x hx
         rw [hsn] at hx
         rcases List.mem_append.1 hx with h | h
         · exact hdg.out x h
         · rw [List.mem_singleton.1 h]; exact hdc
        clear hsn hbad hdc
        go_wp2
        go_round
        case rel => exact ⟨k + 1, by omega, by omega, by go_num, hnx⟩
        case measure => simp [intOf]; omega
      · have hbf := Lib.hid (hbad hdc)
        clear hsn hbad
        by_cases h48 : c.toNat < 48
        · have t1 : decide ((c.toNat : Int) < 48) = true := decide_eq_true (by omega)
          clear hdc
          go_wp2
          go_ret
          exact ⟨by rw [hbf.out]; rfl, rfl⟩
        · have t1 : decide ((c.toNat : Int) < 48) = false := decide_eq_false (by omega)
          have t2 : decide ((57 : Int) < (c.toNat : Int)) = true := decide_eq_true (by omega)
          clear hdc
          go_wp2
          go_ret
          exact ⟨by rw [hbf.out]; rfl, rfl⟩
    · have d1 : decide ((k : Int) <= 2000) = false := decide_eq_false (by omega)
      have hbf : Hid (b = false) := by
       show _ = _
       rw [← HB.out]
       cases hk : okB s.data.toList
       · rfl
       · exfalso
         have := (okB_digs hk).2.1
         rw [HSL.out] at this; omega
      have d3 : decide ((1 : Int) <= (s.size : Int)) = true := decide_eq_true (by omega)
      have d4 : decide ((s.size : Int) <= 2000) = false := decide_eq_false (by omega)
      go_wp2
      go_ret
      exact ⟨by rw [hbf.out]; rfl, rfl⟩
  · obtain rfl : k = s.size := by omega
    have d0 : decide ((s.size : Int) < (s.size : Int)) = false := decide_eq_false (by omega)
    by_cases h1 : 1 <= s.size
    · have d3 : decide ((1 : Int) <= (s.size : Int)) = true := decide_eq_true (by omega)
      by_cases h4 : s.size <= 2000
      · have d4 : decide ((s.size : Int) <= 2000) = true := decide_eq_true (by omega)
        have hbf : Hid (b = true) := by
         show _ = _
         rw [← HB.out]
         refine okB_mk (by rw [HSL.out]; omega) (by rw [HSL.out]; omega) ?_
         have := hdg.out
         rw [List.take_of_length_le (by rw [HSL.out]; omega)] at this
         exact this
        go_wp2
        go_ret
        exact ⟨by rw [hbf.out]; rfl, rfl⟩
      · have d4 : decide ((s.size : Int) <= 2000) = false := decide_eq_false (by omega)
        have hbf : Hid (b = false) := by
         show _ = _
         rw [← HB.out]
         cases hk : okB s.data.toList
         · rfl
         · exfalso
           have := (okB_digs hk).2.1
           rw [HSL.out] at this; omega
        go_wp2
        go_ret
        exact ⟨by rw [hbf.out]; rfl, rfl⟩
    · have d3 : decide ((1 : Int) <= (s.size : Int)) = false := decide_eq_false (by omega)
      have hbf : Hid (b = false) := by
       show _ = _
       rw [← HB.out]
       cases hk : okB s.data.toList
       · rfl
       · exfalso
         have := (okB_digs hk).1
         rw [HSL.out] at this; omega
      go_wp2
      go_ret
      exact ⟨by rw [hbf.out]; rfl, rfl⟩
theorem digit_any (N n i : Nat) (w : World) (hN : N < 10 ^ n) (hn : n <= 10000000) (hi : i <= 100000000) : Calls Tryz.prog 167 #[.string (str (sdig N n)), .int .i64 i] w fun e w' => e = .returned (.int .i64 (d10 N i)) /\ w = w' := by
 obtain ⟨s, hs⟩ : ∃ s, str (sdig N n) = s := ⟨_, rfl⟩
 have hsz : s.size = n := by rw [← hs, str_size, sdig_length]
 rw [hs]
 by_cases h : i < n
 · obtain ⟨k, hk⟩ : ∃ k, n - 1 - i = k := ⟨_, rfl⟩
   have hks : k < s.size := by omega
   have hc : s[k].toNat = 48 + d10 N i := by
    have h1 := sdig_get N n k (by omega)
    rw [show n - 1 - k = i by omega] at h1
    have h2 : s[k] = dgt N i := by
     subst hs
     have h3 : (sdig N n)[k]? = some ((str (sdig N n))[k]) := by
      rw [List.getElem?_eq_getElem (by rw [sdig_length]; omega)]; rfl
     rw [h3] at h1
     exact Option.some.inj h1
    rw [h2, dgt_toNat]; rfl
   obtain ⟨c, hcc⟩ : ∃ c, s[k] = c := ⟨_, rfl⟩
   rw [hcc] at hc
   obtain ⟨x, hx⟩ : ∃ x, d10 N i = x := ⟨_, rfl⟩
   have hxl : x < 10 := by rw [← hx]; exact Nat.mod_lt _ (by omega)
   rw [hx] at hc ⊢
   have e1 : (s.size : Int) - 1 - (i : Int) = (k : Int) := by omega
   have e2 : (c.toNat : Int) - 48 = (x : Int) := by omega
   have e3 : (x : Int) % 256 = (x : Int) := by omega
   have e4 : (48 : Int) <= (c.toNat : Int) := by omega
   have d0 : decide ((s.size : Int) <= (i : Int)) = false := decide_eq_false (by omega)
   have i1 : (k : Int) < (s.size : Int) := by omega
   have h' : i < s.size := by omega
   have hsb : s.size <= 10000000 := by omega
   clear hs hx hc hk hsz hN
   go_enter Tryz.func167, Tryz.ntmps167
   go_wp2
   go_ret
   exact ⟨rfl, rfl⟩
 · have hz : d10 N i = 0 := by
     unfold d10
     have := Nat.pow_le_pow_right (show 0 < 10 by omega) (show n <= i by omega)
     rw [Nat.div_eq_of_lt (by omega)]
   rw [hz]
   have d0 : decide ((s.size : Int) <= (i : Int)) = true := decide_eq_true (by omega)
   have h' : s.size <= i := by omega
   clear hs hsz hN hz
   go_enter Tryz.func167, Tryz.ntmps167
   go_wp2
   go_ret
   exact ⟨rfl, rfl⟩
def carry (x y i : Nat) : Nat := (x % 10 ^ i + y % 10 ^ i) / 10 ^ i
theorem carry_zero (x y : Nat) : carry x y 0 = 0 := by simp [carry, Nat.mod_one]
theorem carry_step (x y i : Nat) : (d10 x i + d10 y i + carry x y i) % 10 = d10 (x + y) i /\ (d10 x i + d10 y i + carry x y i) / 10 = carry x y (i + 1) := by
 have hp : 0 < 10 ^ i := Nat.pow_pos (by omega)
 have hx : x % 10 ^ (i + 1) = x % 10 ^ i + 10 ^ i * d10 x i := by unfold d10; rw [Nat.pow_succ, Nat.mod_mul]
 have hy : y % 10 ^ (i + 1) = y % 10 ^ i + 10 ^ i * d10 y i := by unfold d10; rw [Nat.pow_succ, Nat.mod_mul]
 have hs : (x % 10 ^ (i + 1) + y % 10 ^ (i + 1)) / 10 ^ i = d10 x i + d10 y i + carry x y i := by
  rw [hx, hy]
  unfold carry
  rw [show x % 10 ^ i + 10 ^ i * d10 x i + (y % 10 ^ i + 10 ^ i * d10 y i) = (x % 10 ^ i + y % 10 ^ i) + 10 ^ i * (d10 x i + d10 y i) by rw [Nat.mul_add]; omega, Nat.add_mul_div_left _ _ hp]
  omega
 constructor
 · rw [← hs]
   unfold d10
   have e1 := Nat.div_add_mod x (10 ^ (i + 1))
   have e2 := Nat.div_add_mod y (10 ^ (i + 1))
   have : x + y = x % 10 ^ (i + 1) + y % 10 ^ (i + 1) + 10 ^ i * (10 * (x / 10 ^ (i + 1) + y / 10 ^ (i + 1))) := by
    have e3 : 10 ^ i * (10 * (x / 10 ^ (i + 1) + y / 10 ^ (i + 1))) = 10 ^ (i + 1) * (x / 10 ^ (i + 1)) + 10 ^ (i + 1) * (y / 10 ^ (i + 1)) := by rw [← Nat.mul_assoc, ← Nat.pow_succ, Nat.mul_add]
    omega
   rw [this, Nat.add_mul_div_left _ _ hp]
   omega
 · rw [← hs, Nat.div_div_eq_div_mul, ← Nat.pow_succ]; rfl
structure SumI (w wr : World) (Z : Nat) (V : Value) (k : Nat) : Prop where
 below : Below w.heap.size w wr
 own : OwnL wr w.heap.size 3 .i64 V k (d10 Z)
theorem cell_one_at (w : World) (x : Value) (t : TypeId) : ∀ j u, [x][j]? = some u -> (w.alloc (.cells #[x] t)).cell? ((⟨w.heap.size, 0, none⟩ : Addr).add j) = some u := by
 intro j u hj
 match j, hj with
 | 0, hj => simp at hj; subst hj; simp [Addr.add]
theorem one_cell_list (k : IntKind) (x : Int) : ∀ u ∈ [Value.int k x], u.oneCell' = true := by
 intro u hu; simp at hu; subst hu; rfl
theorem sum_next {w wr w5 : World} {Z : Nat} {V v' : Value} {k r : Nat} {o : Obj} (h : SumI w wr Z V k) (hown : w5.ownsRow w.heap.size 3 1 v' (k + 1) (cl .i64 (d10 Z) k ++ [.int .i64 r])) (hg : (wr.alloc o).grownBy w5 V.ownBlock)
    (hz : w.heap.size <= wr.heap.size) (hr : r = d10 Z k) : SumI w w5 Z v' (k + 1) := by
 refine ⟨(h.below.alloc hz _).grown hg (by rw [World.size_alloc]; omega) (fun q hq => (World.ownsRow.lt h.own q hq).1), ?_⟩
 rw [cl_snoc, cl_congr (g := d10 Z) (fun j hj => by
  by_cases e : j = k
  · rw [if_pos e, hr, e]
  · rw [if_neg e])] at hown
 exact hown
theorem numOf_sdig (N : Nat) : ∀ n, numOf (sdig N n) = N % 10 ^ n
 | 0 => by simp [sdig, numOf, Nat.mod_one]
 | n + 1 => by
  rw [sdig, numOf, numOf_sdig N n, sdig_length, dgt_toNat, Nat.pow_succ, Nat.mod_mul]
  rw [Nat.add_sub_cancel_left, Nat.mul_comm (N / 10 ^ n % 10)]
  omega
theorem sdig_inj {x y n : Nat} (hx : x < 10 ^ n) (hy : y < 10 ^ n) (h : sdig x n = sdig y n) : x = y := by
 have := congrArg numOf h
 rw [numOf_sdig, numOf_sdig, Nat.mod_eq_of_lt hx, Nat.mod_eq_of_lt hy] at this
 exact this
theorem less_sdig (x y : Nat) : ∀ n, Op.bytesLess (sdig x n) (sdig y n) = decide (x % 10 ^ n < y % 10 ^ n)
 | 0 => by simp [sdig, Op.bytesLess, Nat.mod_one]
 | n + 1 => by
  rw [sdig, sdig, Op.bytesLess, less_sdig x y n, Nat.pow_succ, Nat.mod_mul, Nat.mod_mul]
  have hp : 0 < 10 ^ n := Nat.pow_pos (by omega)
  have hx := Nat.mod_lt x hp
  have hy := Nat.mod_lt y hp
  have e1 : (dgt x n < dgt y n) ↔ x / 10 ^ n % 10 < y / 10 ^ n % 10 := by
   rw [UInt8.lt_iff_toNat_lt, dgt_toNat, dgt_toNat]; omega
  have e2 : (dgt x n = dgt y n) ↔ x / 10 ^ n % 10 = y / 10 ^ n % 10 := by
   rw [← UInt8.toNat_inj, dgt_toNat, dgt_toNat]; omega
  generalize x / 10 ^ n % 10 = a at *
  generalize y / 10 ^ n % 10 = b at *
  generalize x % 10 ^ n = u at *
  generalize y % 10 ^ n = v at *
  generalize 10 ^ n = P at *
  rw [Bool.eq_iff_iff]
  simp only [Bool.or_eq_true, decide_eq_true_eq, Bool.and_eq_true, beq_iff_eq, e1, e2]
  rcases Nat.lt_trichotomy a b with h | h | h
  · have h3 := Nat.mul_le_mul_left P (show a + 1 <= b from h)
    rw [Nat.mul_add] at h3
    constructor
    · intro _; omega
    · intro _; exact .inl h
  · subst h
    constructor
    · rintro (h | ⟨_, h⟩) <;> omega
    · intro h; exact .inr ⟨rfl, by omega⟩
  · have h3 := Nat.mul_le_mul_left P (show b + 1 <= a from h)
    rw [Nat.mul_add] at h3
    constructor
    · rintro (h1 | ⟨h1, _⟩) <;> omega
    · intro h1; omega
theorem dl_mono_lt {x y : Nat} (h : dl x < dl y) : x < y := by
 have h1 := dl_lt x
 have hy : 0 < y := by
  rcases Nat.eq_zero_or_pos y with h0 | h0
  · subst h0
    have e : dl 0 = 1 := by unfold dl; rfl
    have := dl_pos x; omega
  · exact h0
 have h2 := dl_low hy
 have := Nat.pow_le_pow_right (show 0 < 10 by omega) (show dl x <= dl y - 1 by omega)
 omega
theorem rcmp_any (x y : Nat) (w : World) (hx : dl x <= 100000) (hy : dl y <= 100000) : Calls Tryz.prog 179 #[.string (str (dec x)), .string (str (dec y))] w fun e w' => e = .returned (.int .i64 (cmpI x y)) /\ w = w' := by
 have hs1 : (str (dec x)).size = dl x := by rw [str_size]; exact sdig_length _ _
 have hs2 : (str (dec y)).size = dl y := by rw [str_size]; exact sdig_length _ _
 have ht1 : (str (dec x)).toList = dec x := by rw [ByteArray.toList_eq]; rfl
 have ht2 : (str (dec y)).toList = dec y := by rw [ByteArray.toList_eq]; rfl
 by_cases hl : dl x = dl y
 · have hle : dec y = sdig y (dl x) := by unfold dec; rw [hl]
   have hb : Op.bytesLess (str (dec x)).toList (str (dec y)).toList = decide (x < y) := by
    rw [ht1, ht2, hle]; unfold dec
    rw [less_sdig, Nat.mod_eq_of_lt (dl_lt x), Nat.mod_eq_of_lt (by rw [hl]; exact dl_lt y)]
   have heq : ((str (dec x)).toList == (str (dec y)).toList) = decide (x = y) := by
    rw [ht1, ht2, hle, Bool.eq_iff_iff, beq_iff_eq, decide_eq_true_eq]
    unfold dec
    exact ⟨fun h => sdig_inj (dl_lt x) (by rw [hl]; exact dl_lt y) h, fun h => by rw [h]⟩
   have hn : (((str (dec x)).size : Int) != ((str (dec y)).size : Int)) = false := by rw [hs1, hs2, hl]; simp
   have hss : (str (dec x)).size = (str (dec y)).size := by omega
   have hsb : (str (dec x)).size <= 100000 := by omega
   clear hs1 hs2 ht1 ht2 hle hl
   generalize str (dec x) = s at *
   generalize str (dec y) = t at *
   by_cases h1 : x = y
   · have hr : Hid (cmpI x y = 0) := by show _ = _; unfold cmpI; rw [if_neg (by omega), if_pos h1]
     rw [decide_eq_true h1] at heq
     clear hb hx hy h1
     have HSS := Lib.hid hss
     clear hss
     go_enter Tryz.func179, Tryz.ntmps179
     go_wp2
     go_ret
     exact ⟨ret_int hr.out.symm, rfl⟩
   · rw [decide_eq_false h1] at heq
     have HSS := Lib.hid hss
     clear hss
     by_cases h2 : x < y
     · have hr : Hid (cmpI x y = -1) := cmp_neg h2
       rw [decide_eq_true h2] at hb
       clear hx hy h1 h2
       go_enter Tryz.func179, Tryz.ntmps179
       go_wp2
       go_ret
       exact ⟨ret_int hr.out.symm, rfl⟩
     · have hr : Hid (cmpI x y = 1) := by show _ = _; unfold cmpI; rw [if_neg h2, if_neg h1]
       rw [decide_eq_false h2] at hb
       clear hx hy h1 h2
       go_enter Tryz.func179, Tryz.ntmps179
       go_wp2
       go_ret
       exact ⟨ret_int hr.out.symm, rfl⟩
 · have hn : (((str (dec x)).size : Int) != ((str (dec y)).size : Int)) = true := by rw [hs1, hs2]; simp; omega
   have hsb : (str (dec x)).size <= 100000 /\ (str (dec y)).size <= 100000 := by omega
   have hne : ¬ (str (dec x)).size = (str (dec y)).size := by omega
   have hc : ((str (dec x)).size < (str (dec y)).size -> cmpI x y = -1) /\ (¬ (str (dec x)).size < (str (dec y)).size -> cmpI x y = 1) := by
    rw [hs1, hs2]
    refine ⟨fun h => cmp_neg (dl_mono_lt h), fun h => ?_⟩
    have := dl_mono_lt (show dl y < dl x by omega)
    unfold cmpI; rw [if_neg (by omega), if_neg (by omega)]
   clear hs1 hs2 ht1 ht2 hl hx hy
   generalize str (dec x) = s at *
   generalize str (dec y) = t at *
   obtain ⟨hb1, hb2⟩ := hsb
   by_cases h : s.size < t.size
   · have hr := Lib.hid (hc.1 h)
     have d1 : decide ((s.size : Int) < (t.size : Int)) = true := decide_eq_true (by omega)
     clear hc hne
     go_enter Tryz.func179, Tryz.ntmps179
     go_wp2
     go_ret
     exact ⟨ret_int hr.out.symm, rfl⟩
   · have hr := Lib.hid (hc.2 h)
     have d1 : decide ((s.size : Int) < (t.size : Int)) = false := decide_eq_false (by omega)
     clear hc hne
     go_enter Tryz.func179, Tryz.ntmps179
     go_wp2
     go_ret
     exact ⟨ret_int hr.out.symm, rfl⟩
theorem rsub_any (x n y m : Nat) (w : World) (hx : x < 10 ^ n) (hy : y < 10 ^ m) (hn : n <= 1000) (hm : m <= 1000) (hxy : y <= x) :
    Calls Tryz.prog 180 #[.string (str (sdig x n)), .string (str (sdig y m))] w fun e w' => e = .returned (.string (str (dec (x - y)))) /\ Below w.heap.size w w' := by
 obtain ⟨i0, hi, hz0, hz1, hz2⟩ := info_parts infoI
 have DX := Lib.hid (fun i (h : i <= 100000000) wz => digit_any x n i wz hx (by omega) h)
 have DY := Lib.hid (fun i (h : i <= 100000000) wz => digit_any y m i wz hy (by omega) h)
 have hs1 : (str (sdig x n)).size = n := by rw [str_size, sdig_length]
 generalize str (sdig x n) = s at *
 generalize str (sdig y m) = t at *
 obtain ⟨z, hz⟩ : ∃ z, x - y = z := ⟨_, rfl⟩
 have hyz : y + z = x := by omega
 have HZN : Hid (z < 10 ^ n) := by show _ < _; omega
 rw [hz]
 have H0 : SumI w w z (.slice none 0 0) 0 := ⟨Below.refl _ _, World.ownsRow_nil _ _ _ _⟩
 have HI := Lib.hid hi
 have HC0 : Hid (0 = carry y z 0) := (carry_zero y z).symm
 have hL : s.size <= 1000 := by omega
 have HS1 := Lib.hid hs1
 have HYZ := Lib.hid hyz
 clear hi hx hy hs1 hn hm hz hyz hxy
 go_enter Tryz.func180, Tryz.ntmps180
 go_wp2
 go_loopw [5, 6, 7] (fun D c i wr => ∃ (k cy : Nat) (V : Value), k <= s.size /\ i = .int .i64 k /\ cy <= 1 /\ c = .int .i64 cy /\ Hid (cy = carry y z k) /\ V = D /\ SumI w wr z V k)
  (fun _ _ i _ => s.size - (intOf i).toNat)
 case atStart => exact ⟨0, 0, _, by omega, rfl, by omega, rfl, HC0, rfl, H0⟩
 case round =>
  obtain ⟨k, cy, V, hk, rfl, hcy, rfl, hcc, rfl, hr⟩ := hrel
  by_cases c1 : k < s.size
  · obtain ⟨dx, hdx⟩ : ∃ dx, d10 x k = dx := ⟨_, rfl⟩
    obtain ⟨dy, hdy⟩ : ∃ dy, d10 y k = dy := ⟨_, rfl⟩
    obtain ⟨dz, hdz⟩ : ∃ dz, d10 z k = dz := ⟨_, rfl⟩
    have CX := DX.out k (by omega)
    have CY := DY.out k (by omega)
    rw [hdx] at CX
    rw [hdy] at CY
    have hdyl : dy < 10 := by rw [← hdy]; exact Nat.mod_lt _ (by omega)
    have hdzl : dz < 10 := by rw [← hdz]; exact Nat.mod_lt _ (by omega)
    obtain ⟨q1, q2⟩ := carry_step y z k
    rw [HYZ.out, hdy, hdz, ← hcc.out, hdx] at q1
    rw [hdy, hdz, ← hcc.out] at q2
    have CX' := Lib.hid CX
    have CY' := Lib.hid CY
    have Q1 := Lib.hid hdz.symm
    have HR := Lib.hid hr
    have hzr : w.heap.size <= wr.heap.size := hr.below.size
    have d1 : decide ((k : Int) < (s.size : Int)) = true := decide_eq_true (by omega)
    by_cases hsm : dy + dz + cy < 10
    · have e1 : (dx : Int) - (dy : Int) - (cy : Int) = (dz : Int) := by omega
      have HNX : Hid (0 = carry y z (k + 1)) := by show _ = _; rw [← q2]; omega
      have d2 : decide ((dz : Int) < 0) = false := decide_eq_false (by omega)
      clear hr q1 q2 CX CY hdx hdy hdz hsm hcc
      go_wp2_with fail
      go_at_call 167
      refine (CX'.out wr).mono ?_
      rintro e w2 ⟨rfl, rfl⟩
      go_wp2_with fail
      go_at_call 167
      refine (CY'.out wr).mono ?_
      rintro e w2 ⟨rfl, rfl⟩
      go_wp2_with (at_builtin; refine wpList_append_own _ rfl _ _ 22 rfl w.heap.size 3 i0 (.int .i64 0) 1 8 Tryz.underlying22 HI.out hz0 hz1 hz2 rfl (by decide) _ _ _ rfl (World.ownsRow.alloc HR.out.own _) ⟨wr.heap.size, 0, none⟩ 1 1 [.int .i64 dz] rfl rfl (cell_one_at _ _ _) (one_cell_list _ _) (by unfold maxLen; omega) (by omega) (by rw [World.size_alloc]; omega) ?_; intro v' w5 hown' hgrow _)
      have HG5 := Lib.hid (sum_next HR.out hown' hgrow hzr Q1.out)
      clear hown' hgrow
      go_wp2
      go_roundw
      case rel => exact ⟨k + 1, 0, v', by omega, by go_num, by omega, rfl, HNX, rfl, HG5.out⟩
      case measure => simp [intOf]; omega
    · have e1 : (dx : Int) - (dy : Int) - (cy : Int) = (dz : Int) - 10 := by omega
      have HNX : Hid (1 = carry y z (k + 1)) := by show _ = _; rw [← q2]; omega
      have d2 : decide ((dz : Int) - 10 < 0) = true := decide_eq_true (by omega)
      have d3 : (dz : Int) < 10 := by omega
      have e2 : (dz : Int) - 10 + 10 = (dz : Int) := by omega
      clear hr q1 q2 CX CY hdx hdy hdz hsm hcc
      go_wp2_with fail
      go_at_call 167
      refine (CX'.out wr).mono ?_
      rintro e w2 ⟨rfl, rfl⟩
      go_wp2_with fail
      go_at_call 167
      refine (CY'.out wr).mono ?_
      rintro e w2 ⟨rfl, rfl⟩
      go_wp2_with (at_builtin; refine wpList_append_own _ rfl _ _ 22 rfl w.heap.size 3 i0 (.int .i64 0) 1 8 Tryz.underlying22 HI.out hz0 hz1 hz2 rfl (by decide) _ _ _ rfl (World.ownsRow.alloc HR.out.own _) ⟨wr.heap.size, 0, none⟩ 1 1 [.int .i64 dz] rfl rfl (cell_one_at _ _ _) (one_cell_list _ _) (by unfold maxLen; omega) (by omega) (by rw [World.size_alloc]; omega) ?_; intro v' w5 hown' hgrow _)
      have HG5 := Lib.hid (sum_next HR.out hown' hgrow hzr Q1.out)
      clear hown' hgrow
      go_wp2
      go_roundw
      case rel => exact ⟨k + 1, 1, v', by omega, by go_num, by omega, rfl, HNX, rfl, HG5.out⟩
      case measure => simp [intOf]; omega
  · obtain rfl : k = s.size := by omega
    obtain ⟨a, c, rfl, hsa, _⟩ := hr.own.slAt (m := 10) (fun j _ => Nat.mod_lt _ (by omega)) (by omega)
    have HW := Lib.hid (written_any a s.size c (d10 z) z wr hsa (fun _ _ => rfl) (by rw [HS1.out]; exact HZN.out))
    have HB := Lib.hid hr.below
    clear hsa hr
    go_wp2_with (go_at_call 168; refine HW.out.mono ?_; rintro e w7 ⟨rfl, hb7⟩)
    go_ret
    exact ⟨rfl, HB.out.trans (hb7.mono HB.out.size)⟩
theorem numOf_dec (N : Nat) : numOf (dec N) = N := by unfold dec; rw [numOf_sdig, Nat.mod_eq_of_lt (dl_lt N)]
def hor (g : Nat -> Nat) : Nat -> Nat
 | 0 => 0
 | k + 1 => hor g k * 1000000000 + g k
theorem hor_congr {f g : Nat -> Nat} : ∀ n, (∀ j, j < n -> f j = g j) -> hor f n = hor g n
 | 0, _ => rfl
 | n + 1, h => by rw [hor, hor, hor_congr n (fun j hj => h j (by omega)), h n (by omega)]
def GrpIs (wr : World) (base : Nat) (V : Value) (cnt X : Nat) : Prop := ∃ g, OwnL wr base 3 .i64 V cnt g /\ (∀ j, j < cnt -> g j < 1000000000) /\ hor g cnt = X
theorem GrpIs.snoc {wr w5 : World} {base : Nat} {V v' : Value} {cnt X x : Nat} (h : GrpIs wr base V cnt X) (hx : x < 1000000000) (hown : ∀ g, OwnL wr base 3 .i64 V cnt g -> w5.ownsRow base 3 1 v' (cnt + 1) (cl .i64 g cnt ++ [.int .i64 x])) : GrpIs w5 base v' (cnt + 1) (X * 1000000000 + x) := by
 obtain ⟨g, h1, h2, h3⟩ := h
 have := hown g h1
 rw [cl_snoc] at this
 refine ⟨_, this, fun j hj => ?_, ?_⟩
 · show (if j = cnt then x else g j) < _
   split
   · exact hx
   · exact h2 j (by omega)
 · rw [hor, if_pos rfl, hor_congr cnt (g := g) (fun j hj => if_neg (by omega)), h3]
theorem OwnL.mono {w : World} {base base' : Nat} {e : TypeId} {ki : IntKind} {v : Value} {n : Nat} {f : Nat -> Nat} (h : OwnL w base e ki v n f) (hb : base' <= base) : OwnL w base' e ki v n f := by
 refine ⟨h.1, ?_⟩
 rcases h.2 with h0 | ⟨g, cap, cur, h1, h2, h3⟩
 · exact .inl h0
 · exact .inr ⟨g, cap, cur, h1, by omega, h3⟩
theorem hor_succ (g : Nat -> Nat) (k : Nat) : hor g (k + 1) = hor g k * 1000000000 + g k := by rw [hor]
theorem hor_div (X x : Nat) : (X % 65536 * 1000000000 + x) % 65536 = (X * 1000000000 + x) % 65536 /\ X / 65536 * 1000000000 + (X % 65536 * 1000000000 + x) / 65536 = (X * 1000000000 + x) / 65536 := by
 constructor <;> omega
structure BitI (W0 wr : World) (g : Nat -> Nat) (Q : Value) (c2 k : Nat) : Prop where
 below : Below W0.heap.size W0 wr
 grp : GrpIs wr W0.heap.size Q c2 (hor g k / 65536)
 zero : c2 = 0 ↔ hor g k / 65536 = 0
 len : c2 <= k
theorem GrpIs.zero {wr : World} {base : Nat} {V : Value} {cnt X : Nat} (h : GrpIs wr base V cnt X) (h0 : cnt = 0) : X = 0 := by
 obtain ⟨g, _, _, h3⟩ := h
 subst h0; exact h3.symm
theorem BitI.next {W0 wr w5 : World} {g : Nat -> Nat} {Q v' : Value} {c2 k tt : Nat} (h : BitI W0 wr g Q c2 k) (htt : hor g k % 65536 * 1000000000 + g k = tt) (hq : tt / 65536 < 1000000000) (hb : Below W0.heap.size W0 w5)
    (hpos : 0 < c2 ∨ 0 < tt / 65536)
    (hown : ∀ g', OwnL wr W0.heap.size 3 .i64 Q c2 g' -> w5.ownsRow W0.heap.size 3 1 v' (c2 + 1) (cl .i64 g' c2 ++ [.int .i64 (tt / 65536 : Nat)])) : BitI W0 w5 g v' (c2 + 1) (k + 1) := by
 have e := (hor_div (hor g k) (g k)).2
 rw [htt] at e
 have hs := h.grp.snoc (w5 := w5) (v' := v') hq hown
 rw [e, ← hor_succ] at hs
 rw [← hor_succ] at e
 refine ⟨hb, hs, ⟨fun h0 => by omega, fun h0 => ?_⟩, by have := h.len; omega⟩
 exfalso
 have hz : hor g k / 65536 * 1000000000 + tt / 65536 = 0 := by rw [e]; exact h0
 rcases hpos with hp | hp
 · have := h.zero.2 (by omega); omega
 · omega
theorem BitI.skip {W0 wr : World} {g : Nat -> Nat} {Q : Value} {c2 k tt : Nat} (h : BitI W0 wr g Q c2 k) (htt : hor g k % 65536 * 1000000000 + g k = tt) (h0 : c2 = 0) (h1 : tt / 65536 = 0) : BitI W0 wr g Q c2 (k + 1) := by
 have e := (hor_div (hor g k) (g k)).2
 rw [htt, h1, h.zero.1 h0] at e
 have e2 : hor g (k + 1) / 65536 = 0 := by
  rw [hor_succ, ← e, Nat.zero_mul]
 refine ⟨h.below, ?_, ⟨fun _ => e2, fun _ => h0⟩, by have := h.len; omega⟩
 have := h.grp
 rw [h.zero.1 h0] at this
 rw [e2]; exact this
theorem GrpIs.fn {wr w5 : World} {base : Nat} {V : Value} {cnt : Nat} {v' : Value} {x : Nat} {g g' : Nat -> Nat} (h1 : OwnL wr base 3 .i64 V cnt g') (h2 : OwnL wr base 3 .i64 V cnt g)
    (hown' : w5.ownsRow base 3 1 v' (cnt + 1) (cl .i64 g cnt ++ [.int .i64 x])) : w5.ownsRow base 3 1 v' (cnt + 1) (cl .i64 g' cnt ++ [.int .i64 x]) := by
 have e : cl .i64 g' cnt = cl .i64 g cnt := by
  rcases h1.2 with ⟨a1, a2⟩ | ⟨q1, c1, cu1, a1, _, a3, _, _, _, a4⟩
  · rw [a2]; rfl
  · rcases h2.2 with ⟨b1, b2⟩ | ⟨q2, c2, cu2, b1, _, b3, _, _, _, b4⟩
    · rw [b2]; rfl
    · rw [a1] at b1
      simp only [Value.slice.injEq, Option.some.injEq, Addr.mk.injEq, and_true, true_and] at b1
      obtain ⟨rfl, _⟩ := b1
      rw [a3] at b3
      simp only [Option.some.injEq, Obj.cells.injEq, and_true] at b3
      rw [← a4, ← b4, b3]
 rw [e]; exact hown'
structure Bag (w0 : World) (P : World -> Prop) (w : World) : Prop where
 below : Below w0.heap.size w0 w
 stay : ∀ a b, Below a.heap.size a b -> P a -> P b
 now : P w
theorem Bag.start (w : World) : Bag w (fun _ => True) w := ⟨Below.refl _ _, fun _ _ _ _ => trivial, trivial⟩
theorem Bag.go {w0 w w' : World} {P : World -> Prop} (h : Bag w0 P w) (hb : Below w.heap.size w w') : Bag w0 P w' :=
 ⟨h.below.trans (hb.mono h.below.size), h.stay, h.stay _ _ hb h.now⟩
theorem Bag.add {w0 w : World} {P Q : World -> Prop} (h : Bag w0 P w) (hs : ∀ a b, Below a.heap.size a b -> Q a -> Q b) (q : Q w) : Bag w0 (fun x => Q x /\ P x) w :=
 ⟨h.below, fun a b hb ⟨h1, h2⟩ => ⟨hs a b hb h1, h.stay a b hb h2⟩, q, h.now⟩
theorem Bag.nat {w0 w : World} {P : World -> Prop} {v : Value} {N : Nat} (h : Bag w0 P w) (q : NatIs w v N) : Bag w0 (fun x => NatIs x v N /\ P x) w := h.add (fun _ _ hb q => q.below hb) q
theorem Bag.alloc {w0 w : World} {P : World -> Prop} (h : Bag w0 P w) (o : Obj) : Bag w0 P (w.alloc o) := h.go ((Below.refl _ _).alloc (Nat.le_refl _) _)
theorem Bag.slot {w0 w : World} {P : World -> Prop} {k : Nat} {x : Value} (h : Bag w0 P w) (q : Slot w k x) : Bag w0 (fun y => Slot y k x /\ P y) w := h.add (fun _ _ hb q => q.below hb) q
theorem Bag.box {w0 w : World} {P : World -> Prop} (h : Bag w0 P w) (x : Value) (t : TypeId) : Bag w0 (fun y => Slot y w.heap.size x /\ P y) (w.alloc (.cells #[x] t)) :=
 (h.alloc _).slot (Slot.new w x t)
theorem Bag.drewN {w0 w : World} {P : World -> Prop} (h : Bag w0 P w) (n : Nat) : Bag w0 P (w.drewN n) := h.go (below_drewN (Below.refl _ _) n)
theorem Bag.drew {w0 w : World} {P : World -> Prop} (h : Bag w0 P w) : Bag w0 P w.drew := h.go (Below.refl _ _).drew
structure Slot2 (w : World) (k : Nat) (x y : Value) : Prop where
 cell : w.cell? ⟨k, 0, none⟩ = some x
 cell1 : w.cell? ⟨k, 1, none⟩ = some y
 free : w.frozen? ⟨k, 0, none⟩ = false
 free1 : w.frozen? ⟨k, 1, none⟩ = false
 lt : k < w.heap.size
theorem Slot2.below {w w' : World} {k : Nat} {x y : Value} (h : Slot2 w k x y) (hb : Below w.heap.size w w') : Slot2 w' k x y :=
 ⟨(hb.cell (p := ⟨k, 0, none⟩) h.lt).trans h.cell, (hb.cell (p := ⟨k, 1, none⟩) h.lt).trans h.cell1, (hb.frozen (p := ⟨k, 0, none⟩) h.lt).trans h.free, (hb.frozen (p := ⟨k, 1, none⟩) h.lt).trans h.free1, Nat.lt_of_lt_of_le h.lt hb.size⟩
theorem Slot2.new (w : World) (x y : Value) (t : TypeId) : Slot2 (w.alloc (.cells #[x, y] t)) w.heap.size x y := by
 refine ⟨?_, ?_, World.frozen?_alloc_new _ _ _ _, World.frozen?_alloc_new _ _ _ _, by rw [World.size_alloc]; omega⟩
 · rw [World.cell?_alloc_new]; rfl
 · rw [World.cell?_alloc_new]; rfl
theorem Bag.slot2 {w0 w : World} {P : World -> Prop} {k : Nat} {x z : Value} (h : Bag w0 P w) (q : Slot2 w k x z) : Bag w0 (fun y => Slot2 y k x z /\ P y) w := h.add (fun _ _ hb q => q.below hb) q
theorem Bag.box2 {w0 w : World} {P : World -> Prop} (h : Bag w0 P w) (x z : Value) (t : TypeId) : Bag w0 (fun y => Slot2 y w.heap.size x z /\ P y) (w.alloc (.cells #[x, z] t)) :=
 (h.alloc _).slot2 (Slot2.new w x z t)
end Go.Proofs.YtnpoakaffafdiaaGreatDoor
namespace Go.Proofs.YtnpoakaffafdiaaGreatDoor
open Go.RowKit
attribute [local go_sem ↓] Go.wp_at_zero Go.wp_at_succ
def IntAt (w : World) (a : Option Addr) (n c : Nat) (m : Bool) (Z : Int) : Prop := m = decide (Z < 0) /\ NatIs w (.agg #[.slice a n c]) Z.natAbs
theorem IntAt.below {w w' : World} {a : Option Addr} {n c : Nat} {m : Bool} {Z : Int} (h : IntAt w a n c m Z) (hb : Below w.heap.size w w') : IntAt w' a n c m Z := ⟨h.1, h.2.below hb⟩
def IntTold (w w' : World) (e : Ending) (Z : Int) : Prop := ∃ a n c m, e = .returned (.agg #[.slice a n c, .bool m]) /\ IntAt w' a n c m Z /\ Below w.heap.size w w'
def sgn (b : Bool) (N : Nat) : Int := if b then -(N : Int) else N
theorem sgn_abs (b : Bool) (N : Nat) : (sgn b N).natAbs = N := by unfold sgn; split <;> omega
theorem sgn_neg (b : Bool) (N : Nat) : decide (sgn b N < 0) = (b && !decide (N = 0)) := by
 cases b
 · simp [sgn]
 · by_cases h : N = 0
   · simp [sgn, h]
   · simp [sgn, h]; omega
theorem sgn_self (Z : Int) : sgn (decide (Z < 0)) Z.natAbs = Z := by
 by_cases h : Z < 0
 · rw [decide_eq_true h]; simp [sgn]; omega
 · rw [decide_eq_false h]; simp [sgn]; omega
def NatTold2 (w w' : World) (e : Ending) (v : Value) (N : Nat) : Prop := e = .returned v /\ NatIs w' v N /\ Below w.heap.size w w'
theorem NatIs.storeAt {w : World} {v : Value} {N : Nat} {p : Addr} {x : Value} (h : NatIs w v N) (hs : w.cell? p = some x) (hx : ∀ ki z, x ≠ .int ki z) (u : Value) : NatIs (w.setCell p u) v N := by
 obtain ⟨a, n, c, f, rfl, ⟨h1, h2, h3, h4⟩, hv, ht⟩ := h
 refine ⟨a, n, c, f, rfl, ⟨h1, h2, h3, ?_⟩, hv, ht⟩
 rcases h4 with h4 | ⟨b, off, rfl, hb, hc⟩
 · exact .inl h4
 · refine .inr ⟨b, off, rfl, by simpa using hb, fun j hj => ?_⟩
   rw [World.cell?_setCell_other _ _ _ _ (fun e' => ?_)]
   · exact hc j hj
   · have h5 := hc j hj
     rw [show (⟨b, off + j, none⟩ : Addr) = p from by first | exact e' | exact e'.symm, hs] at h5
     exact hx _ _ (Option.some.inj h5)
theorem IntTold.done {w w2 : World} {k : Nat} {x : Value} {m0 : Bool} {a : Option Addr} {n c : Nat} {m : Bool} {Z : Int} (hb : Below w.heap.size w w2) (hk : w.heap.size <= k) (hs : Slot2 w2 k x (.bool m0)) (hx : ∀ ki z, x ≠ .int ki z) (h : IntAt w2 a n c m Z) :
    IntTold w ((w2.setCell ⟨k, 0, none⟩ (.slice a n c)).setCell ⟨k, 1, none⟩ (.bool m)) (.returned (.agg #[.slice a n c, .bool m])) Z := by
 refine ⟨a, n, c, m, rfl, ⟨h.1, ?_⟩, (hb.setCell hk _).setCell hk _⟩
 refine (h.2.storeAt hs.cell hx _).storeAt (x := .bool m0) ?_ (fun _ _ h => by cases h) _
 rw [World.cell?_setCell_other _ _ _ _ (fun e => by cases e)]
 exact hs.cell1
theorem Slot2.set {w : World} {k : Nat} {x y : Value} (h : Slot2 w k x y) (u v : Value) : ((w.setCell ⟨k, 0, none⟩ u).setCell ⟨k, 1, none⟩ v).cell? ⟨k, 0, none⟩ = some u /\ ((w.setCell ⟨k, 0, none⟩ u).setCell ⟨k, 1, none⟩ v).cell? ⟨k, 1, none⟩ = some v := by
 refine ⟨?_, ?_⟩
 · rw [World.cell?_setCell_other _ _ _ _ (fun e => by cases e)]
   exact World.cell?_setCell_same _ _ _ h.cell
 · refine World.cell?_setCell_same (u := y) _ _ _ ?_
   rw [World.cell?_setCell_other _ _ _ _ (fun e => by cases e)]
   exact h.cell1
def RS (y : World) (k : Nat) : Prop := ∃ x b, Slot2 y k x (.bool b) /\ ∀ ki z, x ≠ .int ki z
theorem RS.below {w w' : World} {k : Nat} (h : RS w k) (hb : Below w.heap.size w w') : RS w' k := by
 obtain ⟨x, b, h1, h2⟩ := h; exact ⟨x, b, h1.below hb, h2⟩
theorem Slot2.rs {w : World} {k : Nat} {a : Option Addr} {n c : Nat} {b : Bool} (h : Slot2 w k (.slice a n c) (.bool b)) : RS w k := ⟨_, _, h, fun _ _ h => by cases h⟩
def putI (y : World) (k : Nat) (a : Option Addr) (n c : Nat) (b : Bool) : World := (y.setCell ⟨k, 0, none⟩ (.slice a n c)).setCell ⟨k, 1, none⟩ (.bool b)
theorem RS.frozen {w : World} {k : Nat} (h : RS w k) : w.frozen? ⟨k, 0, none⟩ = false /\ w.frozen? ⟨k, 1, none⟩ = false := by
 obtain ⟨x, b, h1, _⟩ := h; exact ⟨h1.free, h1.free1⟩
theorem RS.lt {w : World} {k : Nat} (h : RS w k) : k < w.heap.size := by
 obtain ⟨x, b, h1, _⟩ := h; exact h1.lt
theorem RS.ex {w : World} {k : Nat} (h : RS w k) : (∃ x, w.cell? ⟨k, 0, none⟩ = some x) /\ ∃ x, w.cell? ⟨k, 1, none⟩ = some x := by
 obtain ⟨x, b, h1, _⟩ := h; exact ⟨⟨_, h1.cell⟩, ⟨_, h1.cell1⟩⟩
theorem RS.cells {w : World} {k : Nat} (h : RS w k) (a : Option Addr) (n c : Nat) (b : Bool) : (putI w k a n c b).cell? ⟨k, 0, none⟩ = some (.slice a n c) /\ (putI w k a n c b).cell? ⟨k, 1, none⟩ = some (.bool b) := by
 obtain ⟨x, b', h1, _⟩ := h; exact h1.set _ _
theorem RS.put {w : World} {k j : Nat} (h : RS w j) (a : Option Addr) (n c : Nat) (b : Bool) : RS (putI w k a n c b) j := by
 obtain ⟨x, b', h1, h2⟩ := h
 by_cases e : j = k
 · subst e
   have := h1.set (.slice a n c) (.bool b)
   exact ⟨_, _, ⟨this.1, this.2, by simp [putI, h1.free], by simp [putI, h1.free1], by simpa [putI] using h1.lt⟩, fun _ _ h => by cases h⟩
 · refine ⟨x, b', ⟨?_, ?_, by simp [putI, h1.free], by simp [putI, h1.free1], by simpa [putI] using h1.lt⟩, h2⟩
   · unfold putI; rw [World.cell?_setCell_other _ _ _ _ (fun e' => by cases e'), World.cell?_setCell_other _ _ _ _ (fun e' => e (by cases e'; rfl))]; exact h1.cell
   · unfold putI; rw [World.cell?_setCell_other _ _ _ _ (fun e' => e (by cases e'; rfl)), World.cell?_setCell_other _ _ _ _ (fun e' => by cases e')]; exact h1.cell1
theorem Slot2.put {w : World} {k j : Nat} {x z : Value} (h1 : Slot2 w j x z) (e : j ≠ k) (a : Option Addr) (n c : Nat) (b : Bool) : Slot2 (putI w k a n c b) j x z := by
 refine ⟨?_, ?_, by simp [putI, h1.free], by simp [putI, h1.free1], by simpa [putI] using h1.lt⟩
 · unfold putI; rw [World.cell?_setCell_other _ _ _ _ (fun e' => by cases e' <;> exact e rfl), World.cell?_setCell_other _ _ _ _ (fun e' => by cases e' <;> exact e rfl)]; exact h1.cell
 · unfold putI; rw [World.cell?_setCell_other _ _ _ _ (fun e' => by cases e' <;> exact e rfl), World.cell?_setCell_other _ _ _ _ (fun e' => by cases e' <;> exact e rfl)]; exact h1.cell1
theorem Slot.put {w : World} {k j : Nat} {x : Value} (h1 : Slot w j x) (e : j ≠ k) (a : Option Addr) (n c : Nat) (b : Bool) : Slot (putI w k a n c b) j x := by
 refine ⟨?_, by simp [putI, h1.free], by simpa [putI] using h1.lt⟩
 unfold putI; rw [World.cell?_setCell_other _ _ _ _ (fun e' => by cases e' <;> exact e rfl), World.cell?_setCell_other _ _ _ _ (fun e' => by cases e' <;> exact e rfl)]; exact h1.cell
theorem NatIs.put {w : World} {k : Nat} {v : Value} {N : Nat} (q : NatIs w v N) (h : RS w k) (a : Option Addr) (n c : Nat) (b : Bool) : NatIs (putI w k a n c b) v N := by
 obtain ⟨x, b', h1, h2⟩ := h
 refine (q.storeAt h1.cell h2 _).storeAt (x := .bool b') ?_ (fun _ _ h => by cases h) _
 rw [World.cell?_setCell_other _ _ _ _ (fun e => by cases e)]
 exact h1.cell1
theorem IntAt.put {w : World} {k : Nat} {a' : Option Addr} {n' c' : Nat} {m : Bool} {Z : Int} (q : IntAt w a' n' c' m Z) (h : RS w k) (a : Option Addr) (n c : Nat) (b : Bool) : IntAt (putI w k a n c b) a' n' c' m Z := ⟨q.1, q.2.put h a n c b⟩
theorem Bag.put {w0 w : World} {P : World -> Prop} (h : Bag w0 P w) {k : Nat} (hk : w0.heap.size <= k) {a : Option Addr} {n c : Nat} {b : Bool} (hp : P w -> P (putI w k a n c b)) : Bag w0 P (putI w k a n c b) :=
 ⟨(h.below.setCell hk _).setCell hk _, h.stay, hp h.now⟩
theorem IntTold.fin {w w2 : World} {k : Nat} {a : Option Addr} {n c : Nat} {m : Bool} {Z : Int} (hb : Below w.heap.size w w2) (hk : w.heap.size <= k) (hs : RS w2 k) (h : IntAt w2 a n c m Z) :
    IntTold w (putI w2 k a n c m) (.returned (.agg #[.slice a n c, .bool m])) Z :=
 ⟨a, n, c, m, rfl, h.put hs a n c m, (hb.setCell hk _).setCell hk _⟩
theorem wof_any (b : Bool) (a : Option Addr) (n c N : Nat) (w : World) (h : NatIs w (.agg #[.slice a n c]) N) :
    Calls Tryz.prog 119 #[.bool b, .agg #[.slice a n c]] w fun e w' => IntTold w w' e (sgn b N) := by
 cases b with
 | false =>
  have HE : Hid (IntTold w ((w.alloc (.cells #[.slice a n c] 56)).alloc (.cells #[.slice a n c, .bool false] 58)).drew (.returned (.agg #[.slice a n c, .bool false])) (sgn false N)) :=
   have B0 := (((Bag.start w).nat h).alloc (.cells #[.slice a n c] 56)).box2 (.slice a n c) (.bool false) 58
   ⟨a, n, c, false, rfl, ⟨by rw [sgn_neg]; rfl, by rw [sgn_abs]; exact B0.drew.now.2.1⟩, B0.drew.below⟩
  clear h
  go_enter Tryz.func119, Tryz.ntmps119
  go_wp2_with fail
  go_region
  all_goals
   go_wp2
   exact bodyPost_ret (v := .agg #[.slice a n c, .bool false]) (by simp [results, Tryz.results119, go_sem]) rfl HE.out
 | true =>
  have B0 := (((Bag.start w).nat h).box (.slice a n c) 56).box2 (.slice none 0 0) (.bool false) 58
  rw [World.size_alloc] at B0
  have BB := Lib.hid B0.drew
  have HZ := Lib.hid (zero_any _ N _ B0.drew.now.2.2.1)
  have q0 := B0.now.2.1.cell
  have HI : Hid (∀ wz, NatIs wz (.agg #[.slice a n c]) N -> IntAt wz a n c (!decide (N = 0)) (sgn true N)) := fun wz hz => ⟨by rw [sgn_neg]; rfl, by rw [sgn_abs]; exact hz⟩
  obtain ⟨m, hm⟩ : ∃ m, (!decide (N = 0)) = m := ⟨_, rfl⟩
  obtain ⟨z, hz⟩ : ∃ z, decide (N = 0) = z := ⟨_, rfl⟩
  rw [hm] at HI
  rw [hz] at HZ hm
  subst hm
  clear B0 h hz
  go_enter Tryz.func119, Tryz.ntmps119
  go_wp2_with fail
  go_region_with (go_at_call 107; refine HZ.out.mono ?_; rintro e w2 ⟨rfl, hb2⟩; have B2 := BB.out.go hb2; have hq := B2.now.2.1.cell; have hs2 := B2.now.1; have hc1 := hs2.cell; have hc2 := hs2.cell1; have hf1 := hs2.free; have hf2 := hs2.free1; have HS := hs2.set (.slice a n c) (.bool (!z)); have HE := Lib.hid (IntTold.done B2.below (by omega) hs2 (fun _ _ h => by cases h) (HI.out _ B2.now.2.2.1)); clear hb2 B2 hs2)
  all_goals
   go_wp2
   exact bodyPost_ret (v := .agg #[.slice a n c, .bool (!z)]) (by simp [results, Tryz.results119, go_sem, HS]) rfl HE.out
theorem Bag.int {w0 w : World} {P : World -> Prop} {a : Option Addr} {n c : Nat} {m : Bool} {Z : Int} (h : Bag w0 P w) (q : IntAt w a n c m Z) : Bag w0 (fun y => IntAt y a n c m Z /\ P y) w := h.add (fun _ _ hb q => q.below hb) q
theorem neg_any (a : Option Addr) (n c : Nat) (m : Bool) (Z : Int) (w : World) (h : IntAt w a n c m Z) :
    Calls Tryz.prog 136 #[.agg #[.slice a n c, .bool m]] w fun e w' => e = .returned (.bool m) /\ Below w.heap.size w w' := by
 have B0 := ((Bag.start w).nat h.2).box2 (.slice a n c) (.bool m) 58
 have q0 := B0.now.1.cell
 have q1 := B0.now.1.cell1
 have hz := zero_any _ _ _ B0.now.2.1
 have BB := Lib.hid B0
 cases m with
 | false =>
  clear h B0 hz
  go_enter Tryz.func136, Tryz.ntmps136
  go_wp2
  go_ret
  exact ⟨rfl, BB.out.below⟩
 | true =>
  have h0 : decide (Z.natAbs = 0) = false := by
   have := h.1
   rw [decide_eq_false]
   have h2 := of_decide_eq_true this.symm
   omega
  rw [h0] at hz
  have HZ := Lib.hid hz
  clear h B0 h0 hz
  go_enter Tryz.func136, Tryz.ntmps136
  go_wp2_with (go_at_call 107; refine HZ.out.mono ?_; rintro e w2 ⟨rfl, hb2⟩; have HB := Lib.hid (BB.out.go hb2).below; clear hb2)
  go_ret
  exact ⟨rfl, HB.out⟩
theorem size_any (a : Option Addr) (n c : Nat) (m : Bool) (Z : Int) (w : World) (h : IntAt w a n c m Z) :
    Calls Tryz.prog 155 #[.agg #[.slice a n c, .bool m]] w fun e w' => NatTold2 w w' e (.agg #[.slice a n c]) Z.natAbs := by
 have B0 := (((Bag.start w).nat h.2).box2 (.slice a n c) (.bool m) 58).alloc (.cells #[.slice a n c] 56)
 have HE : Hid (NatTold2 w ((w.alloc (.cells #[.slice a n c, .bool m] 58)).alloc (.cells #[.slice a n c] 56)) (.returned (.agg #[.slice a n c])) (.agg #[.slice a n c]) Z.natAbs) := ⟨rfl, B0.now.2.1, B0.below⟩
 clear h B0
 go_enter Tryz.func155, Tryz.ntmps155
 go_wp2
 exact bodyPost_ret (v := .agg #[.slice a n c]) (by simp [results, Tryz.results155, go_sem]) rfl HE.out
def sgnI (Z : Int) : Int := if Z < 0 then -1 else if Z = 0 then 0 else 1
theorem sign_any (a : Option Addr) (n c : Nat) (m : Bool) (Z : Int) (w : World) (h : IntAt w a n c m Z) :
    Calls Tryz.prog 77 #[.agg #[.slice a n c, .bool m]] w fun e w' => e = .returned (.int .i64 (sgnI Z)) /\ Below w.heap.size w w' := by
 have B0 := ((Bag.start w).int h).box2 (.slice a n c) (.bool m) 58
 have q0 := B0.now.1.cell
 have q1 := B0.now.1.cell1
 have hz := zero_any _ _ _ B0.now.2.1.2
 have BB := Lib.hid B0
 by_cases h0 : Z = 0
 · have d0 : decide (Z.natAbs = 0) = true := decide_eq_true (by omega)
   rw [d0] at hz
   have HZ := Lib.hid hz
   have HE : Hid (sgnI Z = 0) := by show _ = _; unfold sgnI; rw [if_neg (by omega), if_pos h0]
   clear h B0 h0 d0 hz
   go_enter Tryz.func77, Tryz.ntmps77
   go_wp2_with (go_at_call 107; refine HZ.out.mono ?_; rintro e w2 ⟨rfl, hb2⟩; have HB := Lib.hid (BB.out.go hb2).below; clear hb2)
   go_ret
   exact ⟨ret_int HE.out.symm, HB.out⟩
 · have d0 : decide (Z.natAbs = 0) = false := decide_eq_false (by omega)
   rw [d0] at hz
   have HZ := Lib.hid hz
   have HM := Lib.hid h.1
   have HE : Hid (sgnI Z = if m then -1 else 1) := by
    show _ = _
    rw [h.1]; unfold sgnI
    by_cases h2 : Z < 0
    · rw [if_pos h2, decide_eq_true h2]; rfl
    · rw [if_neg h2, if_neg h0, decide_eq_false h2]; rfl
   clear h B0 h0 d0 hz
   go_enter Tryz.func77, Tryz.ntmps77
   go_wp2_with fail
   go_at_call 107
   refine HZ.out.mono ?_
   rintro e w2 ⟨rfl, hb2⟩
   have B2 := Lib.hid (BB.out.go hb2)
   clear hb2 q0 q1
   have q0 := B2.out.now.1.cell
   have q1 := B2.out.now.1.cell1
   go_wp2_with fail
   go_at_call 136
   refine (neg_any a n c m Z _ B2.out.now.2.1).mono ?_
   rintro e w3 ⟨rfl, hb3⟩
   have B3 := Lib.hid (B2.out.go hb3)
   clear hb3 q0 q1
   cases m
   all_goals
    go_wp2
    go_ret
    exact ⟨ret_int HE.out.symm, B3.out.below⟩
def cmpZ (Z Y : Int) : Int := if Z < Y then -1 else if Z = Y then 0 else 1
theorem icmp_any (a : Option Addr) (n c : Nat) (m : Bool) (Z : Int) (a2 : Option Addr) (n2 c2 : Nat) (m2 : Bool) (Y : Int) (w : World) (h : IntAt w a n c m Z) (g : IntAt w a2 n2 c2 m2 Y) :
    Calls Tryz.prog 81 #[.agg #[.slice a n c, .bool m], .agg #[.slice a2 n2 c2, .bool m2]] w fun e w' => e = .returned (.int .i64 (cmpZ Z Y)) /\ Below w.heap.size w w' := by
 have B0 := ((((Bag.start w).int h).int g).box2 (.slice a n c) (.bool m) 58).box2 (.slice a2 n2 c2) (.bool m2) 58
 rw [World.size_alloc] at B0
 have q0 := B0.now.2.1.cell
 have q1 := B0.now.2.1.cell1
 have q2 := B0.now.1.cell
 have q3 := B0.now.1.cell1
 have BB := Lib.hid B0
 have N1 : Hid (∀ wz, IntAt wz a n c m Z -> Calls Tryz.prog 136 #[.agg #[.slice a n c, .bool m]] wz fun e w' => e = .returned (.bool m) /\ Below wz.heap.size wz w') := fun wz hz => neg_any a n c m Z wz hz
 have N2 : Hid (∀ wz, IntAt wz a2 n2 c2 m2 Y -> Calls Tryz.prog 136 #[.agg #[.slice a2 n2 c2, .bool m2]] wz fun e w' => e = .returned (.bool m2) /\ Below wz.heap.size wz w') := fun wz hz => neg_any a2 n2 c2 m2 Y wz hz
 have HE : Hid (cmpZ Z Y = if m then (if m2 then cmpI Y.natAbs Z.natAbs else -1) else (if m2 then 1 else cmpI Z.natAbs Y.natAbs)) := by
  show _ = _
  rw [h.1, g.1]; unfold cmpZ cmpI
  by_cases h2 : Z < 0
  · by_cases h3 : Y < 0
    · rw [decide_eq_true h2, decide_eq_true h3]; simp only [if_true]; (repeat' split) <;> omega
    · rw [decide_eq_true h2, decide_eq_false h3, if_pos (by omega)]; rfl
  · by_cases h3 : Y < 0
    · rw [decide_eq_false h2, decide_eq_true h3, if_neg (by omega), if_neg (by omega)]; rfl
    · rw [decide_eq_false h2, decide_eq_false h3]; simp only [Bool.false_eq_true, if_false]; (repeat' split) <;> omega
 have CM : Hid (∀ wz, IntAt wz a n c m Z -> IntAt wz a2 n2 c2 m2 Y -> Calls Tryz.prog 139 #[.agg #[.slice a n c], .agg #[.slice a2 n2 c2]] wz fun e w' => e = .returned (.int .i64 (cmpI Z.natAbs Y.natAbs)) /\ Below wz.heap.size wz w') := fun wz hz hy => cmp_any _ _ _ _ wz hz.2 hy.2
 have CN : Hid (∀ wz, IntAt wz a n c m Z -> IntAt wz a2 n2 c2 m2 Y -> Calls Tryz.prog 139 #[.agg #[.slice a2 n2 c2], .agg #[.slice a n c]] wz fun e w' => e = .returned (.int .i64 (cmpI Y.natAbs Z.natAbs)) /\ Below wz.heap.size wz w') := fun wz hz hy => cmp_any _ _ _ _ wz hy.2 hz.2
 clear h g B0
 go_enter Tryz.func81, Tryz.ntmps81
 go_wp2_with fail
 go_at_call 136
 refine (N1.out _ BB.out.now.2.2.2.1).mono ?_
 rintro e w2 ⟨rfl, hb2⟩
 have BB := Lib.hid (BB.out.go hb2)
 clear hb2 q0 q1 q2 q3
 have q0 := BB.out.now.2.1.cell
 have q1 := BB.out.now.2.1.cell1
 have q2 := BB.out.now.1.cell
 have q3 := BB.out.now.1.cell1
 cases m with
 | true =>
  go_wp2_with fail
  go_at_call 136
  refine (N2.out _ BB.out.now.2.2.1).mono ?_
  rintro e w3 ⟨rfl, hb2⟩
  have BB := Lib.hid (BB.out.go hb2)
  clear hb2 q0 q1 q2 q3
  have q0 := BB.out.now.2.1.cell
  have q1 := BB.out.now.2.1.cell1
  have q2 := BB.out.now.1.cell
  have q3 := BB.out.now.1.cell1
  cases m2 with
  | true =>
   go_wp2_with fail
   go_at_call 139
   refine (CN.out _ BB.out.now.2.2.2.1 BB.out.now.2.2.1).mono ?_
   rintro e w4 ⟨rfl, hb2⟩
   have BB := Lib.hid (BB.out.go hb2)
   clear hb2 q0 q1 q2 q3
   go_wp2
   go_ret
   exact ⟨ret_int HE.out.symm, BB.out.below⟩
  | false =>
   go_wp2_with fail
   go_at_call 136
   refine (N1.out _ BB.out.now.2.2.2.1).mono ?_
   rintro e w4 ⟨rfl, hb2⟩
   have BB := Lib.hid (BB.out.go hb2)
   clear hb2 q0 q1 q2 q3
   go_wp2
   go_ret
   exact ⟨ret_int HE.out.symm, BB.out.below⟩
 | false =>
  go_wp2_with fail
  go_at_call 136
  refine (N1.out _ BB.out.now.2.2.2.1).mono ?_
  rintro e w3 ⟨rfl, hb2⟩
  have BB := Lib.hid (BB.out.go hb2)
  clear hb2 q0 q1 q2 q3
  have q0 := BB.out.now.2.1.cell
  have q1 := BB.out.now.2.1.cell1
  have q2 := BB.out.now.1.cell
  have q3 := BB.out.now.1.cell1
  go_wp2_with fail
  go_at_call 136
  refine (N2.out _ BB.out.now.2.2.1).mono ?_
  rintro e w4 ⟨rfl, hb2⟩
  have BB := Lib.hid (BB.out.go hb2)
  clear hb2 q0 q1 q2 q3
  have q0 := BB.out.now.2.1.cell
  have q1 := BB.out.now.2.1.cell1
  have q2 := BB.out.now.1.cell
  have q3 := BB.out.now.1.cell1
  cases m2 with
  | true =>
   go_wp2
   go_ret
   exact ⟨ret_int HE.out.symm, BB.out.below⟩
  | false =>
   go_wp2_with fail
   go_at_call 139
   refine (CM.out _ BB.out.now.2.2.2.1 BB.out.now.2.2.1).mono ?_
   rintro e w5 ⟨rfl, hb2⟩
   have BB := Lib.hid (BB.out.go hb2)
   clear hb2 q0 q1 q2 q3
   go_wp2
   go_ret
   exact ⟨ret_int HE.out.symm, BB.out.below⟩
theorem of_pl2 (x : Nat) (w : World) (hx : x < 18446744073709551616) : Calls Tryz.prog 113 #[.int .u64 x] w fun e w' => ∃ a n c, e = .returned (.agg #[.slice a n c]) /\ NatIs w' (.agg #[.slice a n c]) x /\ Below w.heap.size w w' :=
 (of_any x w hx).mono fun _ _ ⟨v, h1, ⟨a, n, c, f, h2, h3, h4, h5⟩, h6⟩ => ⟨a, n, c, by rw [h1, h2], ⟨a, n, c, f, rfl, h3, h4, h5⟩, h6⟩
theorem from_any (X : Int) (w : World) (h : -9223372036854775808 <= X /\ X <= 9223372036854775807) :
    Calls Tryz.prog 85 #[.int .i64 X] w fun e w' => IntTold w w' e X := by
 have B0 := Lib.hid ((Bag.start w).box2 (.slice none 0 0) (.bool false) 58)
 by_cases h0 : X < 0
 · obtain ⟨y, hy⟩ : ∃ y : Nat, (y : Int) = -X := ⟨(-X).toNat, by omega⟩
   have d0 : decide (X < 0) = true := decide_eq_true h0
   have e2 : IntKind.u64.wrap (-IntKind.u64.wrap X) = (y : Int) := by
    rw [IntKind.wrap_u64, IntKind.wrap_u64]; omega
   have hyl : y < 18446744073709551616 := by omega
   have HZ : Hid (sgn true y = X) := by show _ = _; unfold sgn; simp; omega
   have HO : Hid (∀ wz, Calls Tryz.prog 113 #[.int .u64 y] wz fun e w' => ∃ a n c, e = .returned (.agg #[.slice a n c]) /\ NatIs w' (.agg #[.slice a n c]) y /\ Below wz.heap.size wz w') := fun wz => of_pl2 y wz hyl
   clear hy h
   go_enter Tryz.func85, Tryz.ntmps85
   go_wp2_with fail
   go_at_call 113
   refine (HO.out _).mono ?_
   rintro e w2 ⟨a2, n2, c2, rfl, hi2, hb2⟩
   have BB := Lib.hid ((B0.out.go hb2).nat hi2)
   clear hi2 hb2
   go_wp2_with fail
   go_at_call 119
   refine (wof_any true a2 n2 c2 y _ BB.out.now.1).mono ?_
   rintro e w3 ⟨a3, n3, c3, m3, rfl, hi3, hb3⟩
   rw [HZ.out] at hi3
   have B3 := BB.out.go hb3
   have hs2 := B3.now.2.1
   have hc1 := hs2.cell
   have hc2 := hs2.cell1
   have hf1 := hs2.free
   have hf2 := hs2.free1
   have HS := hs2.set (.slice a3 n3 c3) (.bool m3)
   have HE := Lib.hid (IntTold.done B3.below (Nat.le_refl _) hs2 (fun _ _ h => by cases h) hi3)
   clear hb3 B3 hs2 hi3
   go_wp2
   exact bodyPost_ret (v := _) (by simp [results, Tryz.results85, go_sem, HS]) rfl HE.out
 · obtain ⟨y, rfl⟩ : ∃ y : Nat, X = (y : Int) := ⟨X.toNat, by omega⟩
   have d0 : decide ((y : Int) < 0) = false := decide_eq_false h0
   have hyl : y < 18446744073709551616 := by omega
   have HZ : Hid (sgn false y = (y : Int)) := by show _ = _; unfold sgn; simp
   have HO : Hid (∀ wz, Calls Tryz.prog 113 #[.int .u64 y] wz fun e w' => ∃ a n c, e = .returned (.agg #[.slice a n c]) /\ NatIs w' (.agg #[.slice a n c]) y /\ Below wz.heap.size wz w') := fun wz => of_pl2 y wz hyl
   have hy2 : (y : Int) <= 9223372036854775807 := h.2
   clear h
   go_enter Tryz.func85, Tryz.ntmps85
   go_wp2_with fail
   go_at_call 113
   refine (HO.out _).mono ?_
   rintro e w2 ⟨a2, n2, c2, rfl, hi2, hb2⟩
   have BB := Lib.hid ((B0.out.go hb2).nat hi2)
   clear hi2 hb2
   go_wp2_with fail
   go_at_call 119
   refine (wof_any false a2 n2 c2 y _ BB.out.now.1).mono ?_
   rintro e w3 ⟨a3, n3, c3, m3, rfl, hi3, hb3⟩
   rw [HZ.out] at hi3
   have B3 := BB.out.go hb3
   have hs2 := B3.now.2.1
   have hc1 := hs2.cell
   have hc2 := hs2.cell1
   have hf1 := hs2.free
   have hf2 := hs2.free1
   have HS := hs2.set (.slice a3 n3 c3) (.bool m3)
   have HE := Lib.hid (IntTold.done B3.below (Nat.le_refl _) hs2 (fun _ _ h => by cases h) hi3)
   clear hb3 B3 hs2 hi3
   go_wp2
   exact bodyPost_ret (v := _) (by simp [results, Tryz.results85, go_sem, HS]) rfl HE.out
def fitB (Z : Int) : Bool := decide (-9223372036854775808 <= Z /\ Z <= 9223372036854775807)
def fitI (Z : Int) : Int := if fitB Z then Z else 0
theorem ret_ib {k : IntKind} {a b : Int} {x y : Bool} (h : a = b) (h' : x = y) : Ending.returned (.tuple #[.int k a, .bool x]) = .returned (.tuple #[.int k b, .bool y]) := by rw [h, h']
theorem int_any (a : Option Addr) (n c : Nat) (m : Bool) (Z : Int) (w : World) (h : IntAt w a n c m Z) :
    Calls Tryz.prog 189 #[.agg #[.slice a n c, .bool m]] w fun e w' => e = .returned (.tuple #[.int .i64 (fitI Z), .bool (fitB Z)]) /\ Below w.heap.size w w' := by
 have B0 := ((Bag.start w).int h).box2 (.slice a n c) (.bool m) 58
 have q0 := B0.now.1.cell
 have q1 := B0.now.1.cell1
 have hu := uint_any _ _ _ B0.now.2.1.2
 have BB := Lib.hid B0
 have hm := h.1
 obtain ⟨N, hN⟩ : ∃ N, Z.natAbs = N := ⟨_, rfl⟩
 rw [hN] at hu
 unfold UintOut at hu
 clear h B0
 by_cases hbig : N < 18446744073709551616
 · rw [if_pos hbig, decide_eq_true hbig] at hu
   have HU := Lib.hid hu
   clear hu
   by_cases hz : Z < 0
   · rw [decide_eq_true hz] at hm
     subst hm
     have hZN : Z = -(N : Int) := by omega
     by_cases h63 : N <= 9223372036854775808
     · have HE : Hid (fitI Z = -(N : Int) /\ fitB Z = true) := by
         have : fitB Z = true := decide_eq_true (by omega)
         exact ⟨by unfold fitI; rw [this, if_pos rfl]; exact hZN, this⟩
       have d2 : decide ((N : Int) <= 9223372036854775808) = true := decide_eq_true (by omega)
       have e2 : IntKind.i64.wrap (IntKind.u64.wrap (-(N : Int))) = -(N : Int) := by
        rw [IntKind.wrap_i64, IntKind.wrap_u64]; omega
       clear hz hZN hN hbig
       by_cases h62 : N <= 9223372036854775807
       all_goals
        first
         | have d1 : decide ((N : Int) <= 9223372036854775807) = true := decide_eq_true (by omega)
         | have d1 : decide ((N : Int) <= 9223372036854775807) = false := decide_eq_false (by omega)
        clear h62 h63
        go_enter Tryz.func189, Tryz.ntmps189
        go_wp2_with (first
         | (go_at_call 163; refine HU.out.mono ?_; rintro e w2 ⟨rfl, hb2⟩; have BB := Lib.hid (BB.out.go hb2); clear hb2 q0 q1; have q0 := BB.out.now.1.cell; have q1 := BB.out.now.1.cell1)
         | (go_at_call 136; refine (neg_any a n c true Z _ BB.out.now.2.1).mono ?_; rintro e w2 ⟨rfl, hb2⟩; have BB := Lib.hid (BB.out.go hb2); clear hb2 q0 q1; have q0 := BB.out.now.1.cell; have q1 := BB.out.now.1.cell1))
        go_ret2
        exact ⟨ret_ib HE.out.1.symm HE.out.2.symm, BB.out.below⟩
     · have HE : Hid (fitI Z = 0 /\ fitB Z = false) := by
         have : fitB Z = false := decide_eq_false (by omega)
         exact ⟨by unfold fitI; rw [this]; rfl, this⟩
       have d1 : decide ((N : Int) <= 9223372036854775807) = false := decide_eq_false (by omega)
       have d2 : decide ((N : Int) <= 9223372036854775808) = false := decide_eq_false (by omega)
       clear hz hZN hN hbig h63
       go_enter Tryz.func189, Tryz.ntmps189
       go_wp2_with (first
        | (go_at_call 163; refine HU.out.mono ?_; rintro e w2 ⟨rfl, hb2⟩; have BB := Lib.hid (BB.out.go hb2); clear hb2 q0 q1; have q0 := BB.out.now.1.cell; have q1 := BB.out.now.1.cell1))
       go_ret2
       exact ⟨ret_ib HE.out.1.symm HE.out.2.symm, BB.out.below⟩
   · rw [decide_eq_false hz] at hm
     subst hm
     have hZN : Z = (N : Int) := by omega
     by_cases h63 : N <= 9223372036854775807
     · have HE : Hid (fitI Z = (N : Int) /\ fitB Z = true) := by
         have : fitB Z = true := decide_eq_true (by omega)
         exact ⟨by unfold fitI; rw [this, if_pos rfl]; exact hZN, this⟩
       have d1 : decide ((N : Int) <= 9223372036854775807) = true := decide_eq_true (by omega)
       have hl : (N : Int) <= 9223372036854775807 := by omega
       clear hz hZN hN hbig h63
       go_enter Tryz.func189, Tryz.ntmps189
       go_wp2_with (first
        | (go_at_call 163; refine HU.out.mono ?_; rintro e w2 ⟨rfl, hb2⟩; have BB := Lib.hid (BB.out.go hb2); clear hb2 q0 q1; have q0 := BB.out.now.1.cell; have q1 := BB.out.now.1.cell1)
        | (go_at_call 136; refine (neg_any a n c false Z _ BB.out.now.2.1).mono ?_; rintro e w2 ⟨rfl, hb2⟩; have BB := Lib.hid (BB.out.go hb2); clear hb2 q0 q1; have q0 := BB.out.now.1.cell; have q1 := BB.out.now.1.cell1))
       go_ret2
       exact ⟨ret_ib HE.out.1.symm HE.out.2.symm, BB.out.below⟩
     · have HE : Hid (fitI Z = 0 /\ fitB Z = false) := by
         have : fitB Z = false := decide_eq_false (by omega)
         exact ⟨by unfold fitI; rw [this]; rfl, this⟩
       have d1 : decide ((N : Int) <= 9223372036854775807) = false := decide_eq_false (by omega)
       clear hz hZN hN hbig
       by_cases h62 : N <= 9223372036854775808
       all_goals
        first
         | have d2 : decide ((N : Int) <= 9223372036854775808) = true := decide_eq_true (by omega)
         | have d2 : decide ((N : Int) <= 9223372036854775808) = false := decide_eq_false (by omega)
        clear h62 h63
        go_enter Tryz.func189, Tryz.ntmps189
        go_wp2_with (first
         | (go_at_call 163; refine HU.out.mono ?_; rintro e w2 ⟨rfl, hb2⟩; have BB := Lib.hid (BB.out.go hb2); clear hb2 q0 q1; have q0 := BB.out.now.1.cell; have q1 := BB.out.now.1.cell1)
         | (go_at_call 136; refine (neg_any a n c false Z _ BB.out.now.2.1).mono ?_; rintro e w2 ⟨rfl, hb2⟩; have BB := Lib.hid (BB.out.go hb2); clear hb2 q0 q1; have q0 := BB.out.now.1.cell; have q1 := BB.out.now.1.cell1))
        go_ret2
        exact ⟨ret_ib HE.out.1.symm HE.out.2.symm, BB.out.below⟩
 · rw [if_neg hbig, decide_eq_false hbig] at hu
   have HU := Lib.hid hu
   have HE : Hid (fitI Z = 0 /\ fitB Z = false) := by
    have : fitB Z = false := decide_eq_false (by omega)
    exact ⟨by unfold fitI; rw [this]; rfl, this⟩
   clear hu hbig hN hm
   go_enter Tryz.func189, Tryz.ntmps189
   go_wp2_with (first
    | (go_at_call 163; refine HU.out.mono ?_; rintro e w2 ⟨rfl, hb2⟩; have BB := Lib.hid (BB.out.go hb2); clear hb2 q0 q1; have q0 := BB.out.now.1.cell; have q1 := BB.out.now.1.cell1))
   go_ret2
   exact ⟨ret_ib HE.out.1.symm HE.out.2.symm, BB.out.below⟩
end Go.Proofs.YtnpoakaffafdiaaGreatDoor
namespace Go.Proofs.YtnpoakaffafdiaaGreatDoor
open Go.RowKit
theorem dec_small {N : Nat} (h : N < 10) : dec N = [UInt8.ofNat (48 + N)] := by
 have : dl N = 1 := by unfold dl; rw [dif_pos h]
 unfold dec; rw [this, sdig, sdig]
 unfold dgt
 rw [Nat.pow_zero, Nat.div_one, Nat.mod_eq_of_lt h]
def NatTold (w w' : World) (e : Ending) (N : Nat) : Prop := ∃ a n c, e = .returned (.agg #[.slice a n c]) /\ NatIs w' (.agg #[.slice a n c]) N /\ Below w.heap.size w w'
theorem NatOut.told {w w' : World} {e : Ending} {N : Nat} (h : NatOut w w' e N) : NatTold w w' e N := by
 obtain ⟨v, rfl, hv, hb⟩ := h
 obtain ⟨a, n, c, f, rfl, hs, hv, ht⟩ := hv
 exact ⟨a, n, c, rfl, ⟨a, n, c, f, rfl, hs, hv, ht⟩, hb⟩
theorem NatIs.alloc {w : World} {v : Value} {N : Nat} (h : NatIs w v N) (o : Obj) : NatIs (w.alloc o) v N := h.below ((Below.refl _ _).alloc (Nat.le_refl _) _)
theorem of_told (x : Nat) (w : World) (hx : x < 18446744073709551616) : Calls Tryz.prog 113 #[.int .u64 x] w fun e w' => NatTold w w' e x :=
 (of_any x w hx).mono fun _ _ h => h.told
def arrC (ch : Bool) (more : Int) (d : Nat -> Int) (na : Option Addr) (nn nc : Nat) (ta : Option Addr) (tn tc : Nat) : Array Value :=
 #[.bool ch, .int .i64 more, .int .i64 (d 0), .int .i64 (d 1), .int .i64 (d 2), .int .i64 (d 3), .int .i64 (d 4), .int .i64 (d 5), .int .i64 (d 6), .int .i64 (d 7), .slice na nn nc, .slice ta tn tc]
def dm (f : Nat -> Int) (n j : Nat) : Int := if j < n then f j else 0
def Row (w : World) (g : Nat) (t : TypeId) (cs : Array Value) : Prop := w.heap[g]? = some (.cells cs t (0, 0))
theorem Row.lt {w : World} {g : Nat} {t : TypeId} {cs : Array Value} (h : Row w g t cs) : g < w.heap.size := by
 rcases Nat.lt_or_ge g w.heap.size with h1 | h1
 · exact h1
 · unfold Row at h; rw [Array.getElem?_eq_none h1] at h; cases h
theorem Row.below {w w' : World} {g : Nat} {t : TypeId} {cs : Array Value} (h : Row w g t cs) (hb : Below w.heap.size w w') : Row w' g t cs := (hb.block g h.lt).trans h
theorem Row.new (w : World) (t : TypeId) (cs : Array Value) : Row (w.alloc (.cells cs t)) w.heap.size t cs := heap_new _ _
theorem Row.cell {w : World} {g : Nat} {t : TypeId} {cs : Array Value} (h : Row w g t cs) (i : Nat) : w.cell? ⟨g, i, none⟩ = cs[i]? := cell_of_row w g i cs t (0, 0) h
theorem Row.free {w : World} {g : Nat} {t : TypeId} {cs : Array Value} (h : Row w g t cs) (i : Nat) : w.frozen? ⟨g, i, none⟩ = false := frozen_of_row w g i cs t h
theorem Bag.row {w0 w : World} {P : World -> Prop} {g : Nat} {t : TypeId} {cs : Array Value} (h : Bag w0 P w) (q : Row w g t cs) : Bag w0 (fun y => Row y g t cs /\ P y) w := h.add (fun _ _ hb q => q.below hb) q
theorem arrC_one (ch : Bool) (more : Int) (d : Nat -> Int) (na : Option Addr) (nn nc : Nat) (ta : Option Addr) (tn tc : Nat) : (arrC ch more d na nn nc ta tn tc).all (·.oneCell') = true := by simp [arrC, Value.oneCell']
theorem arr12 : (Tryz.prog.info? 36).map (·.size) = some 12 := by kernel_rfl
theorem ld_arr {ops : Array Oper} {rest : List Oper} {o : Oper} {a : Act} {w : World} {Q : Exit -> Act -> World -> Prop} (hgd : o.guard = none) (x : Operand) (ho : o.op = .load 36 x) (g : Nat) (hx : a.eval x = .pointer (some ⟨g, 0, none⟩))
    {ch : Bool} {more : Int} {d : Nat -> Int} {na : Option Addr} {nn nc : Nat} {ta : Option Addr} {tn tc : Nat} (hg : Row w g 36 (arrC ch more d na nn nc ta tn tc))
    (h : wpList Tryz.prog ops Q rest (a.put o.dst (.agg (arrC ch more d na nn nc ta tn tc))) w) : wpList Tryz.prog ops Q (o :: rest) a w :=
 wpList_load_row hgd _ x ho g hx _ _ (0, 0) _ hg Tryz.underlying36 rfl arr12 h
theorem st_arr {ops : Array Oper} {rest : List Oper} {o : Oper} {a : Act} {w : World} {Q : Exit -> Act -> World -> Prop} (hgd : o.guard = none) (x y : Operand) (ho : o.op = .store 36 x y) (g : Nat) (hx : a.eval x = .pointer (some ⟨g, 0, none⟩))
    (ch : Bool) (more : Int) (d : Nat -> Int) (na : Option Addr) (nn nc : Nat) (ta : Option Addr) (tn tc : Nat) (hy : a.eval y = .agg (arrC ch more d na nn nc ta tn tc)) {old : Array Value} (hg : Row w g 36 old) (ho2 : old.size = 12)
    (h : wpList Tryz.prog ops Q rest (a.put o.dst undef) (w.setRow g (arrC ch more d na nn nc ta tn tc))) : wpList Tryz.prog ops Q (o :: rest) a w :=
 wpList_store_row hgd _ x y ho g _ hx hy _ old hg arr12 ho2 (arrC_one _ _ _ _ _ _ _ _ _) h
theorem Row.put {w : World} {g : Nat} {t : TypeId} {cs : Array Value} (h : Row w g t cs) (cs' : Array Value) : Row (w.setRow g cs') g t cs' := setRow_heap w g cs cs' t (0, 0) h
theorem Row.puto {w : World} {g k : Nat} {t : TypeId} {cs : Array Value} (h : Row w g t cs) (e : g ≠ k) (cs' : Array Value) : Row (w.setRow k cs') g t cs := (setRow_other w k g cs' e).trans h
theorem below_put {w w1 : World} {g : Nat} (h : Below w.heap.size w w1) (hg : w.heap.size <= g) (cs : Array Value) : Below w.heap.size w (w1.setRow g cs) :=
 ⟨h.os, h.tape, h.output, by simpa using h.size, fun k hk => (setRow_other w1 g k cs (by omega)).trans (h.block k hk)⟩
theorem res_arr {fn : Func} {p : Tmp} {tmps : Array Value} {w : World} {g : Nat} {cs : Array Value} (h : fn.results = #[.cell p 36]) (hp : tmps.getD p undef = .pointer (some ⟨g, 0, none⟩)) (hg : Row w g 36 cs) (hs : cs.size = 12) :
    (results fn tmps).run Tryz.prog w = .ok (.agg cs) w :=
 results_cell_row h tmps w g _ cs (0, 0) _ hp hg Tryz.underlying36 rfl (by rw [arr12, hs])
theorem res_arr2 {fn : Func} {p q : Tmp} {tmps : Array Value} {w : World} {g : Nat} {cs : Array Value} {v : Value} (h : fn.results = #[.cell p 36, .tmp q]) (hp : tmps.getD p undef = .pointer (some ⟨g, 0, none⟩)) (hq : tmps.getD q undef = v) (hg : Row w g 36 cs) (hs : cs.size = 12) :
    (results fn tmps).run Tryz.prog w = .ok (.tuple #[.agg cs, v]) w := by
 have hp' : tmps[p]?.getD undef = .pointer (some ⟨g, 0, none⟩) := by simpa using hp
 have hq' : tmps[q]?.getD undef = v := by simpa using hq
 simp [results, h, hp', hq', asAddr, run_loadVar_row w g _ _ cs (0, 0) _ hg Tryz.underlying36 rfl (by rw [arr12, hs])]
def BareTold (b : Bool) (f : Nat -> Int) (n : Nat) (w w' : World) (e : Ending) : Prop :=
 e = .returned (.tuple #[.agg (if b then arrC false ((n : Int) - 1) (dm f n) none 0 0 none 0 0 else arrC false 0 (fun _ => 0) none 0 0 none 0 0), .bool b]) /\ Below w.heap.size w w'
theorem In64.le8 {f : Nat -> Int} {n : Nat} (h : shB f n = true) : n <= 8 := by
 unfold shB at h
 rw [Bool.and_eq_true, decide_eq_true_eq] at h
 exact h.1
theorem bare_no (a : Option Addr) (n c : Nat) (f : Nat -> Int) (m : Int) (w : World) (h : KRow w .i64 a n c f) (hf : In64 f n) (hno : (shB f n && decide (itm f n = m)) = false) :
    Calls Tryz.prog 104 #[.slice a n c, .int .i64 m] w fun e w' => BareTold false f n w w' e := by
 have CN := Lib.hid (fun wz (h : KRow wz .i64 a n c f) => count_any a n c f wz h hf)
 unfold CntTold cntI at CN
 have HB : Hid (Below w.heap.size w (w.alloc (.cells (arrC false 0 (fun _ => 0) none 0 0 none 0 0) 36))) := (Below.refl _ _).alloc (Nat.le_refl _) _
 have HE : Hid (BareTold false f n w (w.alloc (.cells (arrC false 0 (fun _ => 0) none 0 0 none 0 0) 36)) (.returned (.tuple #[.agg (arrC false 0 (fun _ => 0) none 0 0 none 0 0), .bool false]))) := ⟨rfl, HB.out⟩
 unfold arrC at HE
 have HK := Lib.hid h
 have hl := h.len
 clear h hf
 cases hs : shB f n with
 | false =>
  rw [hs] at CN
  rw [if_neg (by decide)] at CN
  clear hs hno
  go_enter Tryz.func104, Tryz.ntmps104
  go_wp2_with fail
  go_at_call 91
  (with_reducible refine (CN.out _ (HK.out.below ?_)).mono ?_)
  · exact HB.out
  rintro e w2 ⟨rfl, rfl⟩
  go_wp2
  exact bodyPost_ret (v := .tuple #[.agg #[.bool false, .int .i64 0, .int .i64 0, .int .i64 0, .int .i64 0, .int .i64 0, .int .i64 0, .int .i64 0, .int .i64 0, .int .i64 0, .slice none 0 0, .slice none 0 0], .bool false]) (by simp [results, Tryz.results104, go_sem]) rfl HE.out
 | true =>
  rw [hs] at CN hno
  rw [if_pos rfl] at CN
  rw [Bool.true_and, decide_eq_false_iff_not] at hno
  have hne : (itm f n != m) = true := bne_iff_ne.2 hno
  clear hs hno
  go_enter Tryz.func104, Tryz.ntmps104
  go_wp2_with fail
  go_at_call 91
  (with_reducible refine (CN.out _ (HK.out.below ?_)).mono ?_)
  · exact HB.out
  rintro e w2 ⟨rfl, rfl⟩
  go_wp2
  exact bodyPost_ret (v := .tuple #[.agg #[.bool false, .int .i64 0, .int .i64 0, .int .i64 0, .int .i64 0, .int .i64 0, .int .i64 0, .int .i64 0, .int .i64 0, .int .i64 0, .slice none 0 0, .slice none 0 0], .bool false]) (by simp [results, Tryz.results104, go_sem]) rfl HE.out
theorem dm_splice (f : Nat -> Int) (n : Nat) (h : n <= 8) (x0 x1 x2 x3 : Value) (z : Value) (hz : z = .int .i64 0) :
    splice [x0, x1, z, z, z, z, z, z, z, z, x2, x3] 2 ((List.range n).map fun j => .int .i64 (f j)) =
    [x0, x1, .int .i64 (dm f n 0), .int .i64 (dm f n 1), .int .i64 (dm f n 2), .int .i64 (dm f n 3), .int .i64 (dm f n 4), .int .i64 (dm f n 5), .int .i64 (dm f n 6), .int .i64 (dm f n 7), x2, x3] := by
 subst hz
 have hn : n = 0 ∨ n = 1 ∨ n = 2 ∨ n = 3 ∨ n = 4 ∨ n = 5 ∨ n = 6 ∨ n = 7 ∨ n = 8 := by omega
 rcases hn with rfl | rfl | rfl | rfl | rfl | rfl | rfl | rfl | rfl <;> rfl
theorem bare_yes (a : Option Addr) (n c : Nat) (f : Nat -> Int) (m : Int) (w : World) (h : KRow w .i64 a n c f) (hf : In64 f n) (hs : shB f n = true) (hm : itm f n = m) :
    Calls Tryz.prog 104 #[.slice a n c, .int .i64 m] w fun e w' => BareTold true f n w w' e := by
 have CN := Lib.hid (fun wz (h : KRow wz .i64 a n c f) => count_any a n c f wz h hf)
 unfold CntTold cntI at CN
 have HB : Hid (Below w.heap.size w (w.alloc (.cells (arrC false 0 (fun _ => 0) none 0 0 none 0 0) 36))) := (Below.refl _ _).alloc (Nat.le_refl _) _
 have HK := Lib.hid h
 have hl := h.len
 have h8 := In64.le8 hs
 have hne : (m != m) = false := bne_self_eq_false m
 rw [hs, if_pos rfl, hm] at CN
 have hw : IntKind.i64.wrap ((n : Int) - 1) = (n : Int) - 1 := IntWalk.i64_in _ (by omega)
 clear h hf hs hm
 go_enter Tryz.func104, Tryz.ntmps104
 go_wp2_with fail
 go_at_call 91
 (with_reducible refine (CN.out _ (HK.out.below ?_)).mono ?_)
 · exact HB.out
 rintro e w2 ⟨rfl, rfl⟩
 have H8 := Lib.hid h8
 clear h8
 go_wp2_with (refine wpList_copy_splice rfl (.tmp 27) (.tmp 28) 22 22 rfl 3 Tryz.underlying22 (by kernel_rfl) _ _ _ _ _ _ rfl rfl (w.heap.size + 1) 2 [.bool false, .int .i64 ((n : Int) - 1), .int .i64 0, .int .i64 0, .int .i64 0, .int .i64 0, .int .i64 0, .int .i64 0, .int .i64 0, .int .i64 0, .slice none 0 0, .slice none 0 0] 36 ?hg ((List.range n).map fun j => .int .i64 (f j)) ?hn ?hpos ?hfit ?h1 (w.heap.size + 1) (w.alloc (.cells #[.bool false, .int .i64 0, .int .i64 0, .int .i64 0, .int .i64 0, .int .i64 0, .int .i64 0, .int .i64 0, .int .i64 0, .int .i64 0, .slice none 0 0, .slice none 0 0] 36)) ?hb (Nat.le_refl _) ?_)
 case hg => exact heap_alloc2_new _ _ _
 case hn => rw [List.length_map, List.length_range]; exact (Nat.min_eq_left H8.out).symm
 case hpos =>
  intro h0
  have h0 : 0 < n := by simpa using h0
  obtain ⟨b, off, rfl, hb, hc⟩ := HK.out.2.2.resolve_left (by omega)
  refine ⟨_, rfl, fun j x hj => ?_⟩
  simp only [List.getElem?_eq_some_iff, List.getElem_range] at hj
  obtain ⟨hj1, rfl⟩ := hj
  rw [show (⟨b, off, none⟩ : Addr).add j = ⟨b, off + j, none⟩ by simp [Addr.add], ← hc j (by simpa using hj1)]
  rw [World.cell?_alloc_lt _ _ ⟨b, off + j, none⟩ (by simp; omega)]
  exact World.cell?_alloc_lt w _ ⟨b, off + j, none⟩ hb
 case hfit => have := H8.out; simp; omega
 case h1 =>
  intro v hv
  simp at hv
  obtain ⟨_, _, rfl⟩ := hv
  rfl
 case hb => exact (Below.refl _ _).alloc (by simp) _
 · intro w1 hg1 hb1
   have hr0 : Row w1 w.heap.size 36 _ := (hb1.block w.heap.size (by omega)).trans (heap_new _ _)
   have hr1 : Row w1 (w.heap.size + 1) 36 _ := hg1.out
   rw [dm_splice f n H8.out _ _ _ _ _ rfl] at hr1
   have hbw : Below w.heap.size w w1 := ((Below.refl w.heap.size w).alloc (Nat.le_refl _) _).trans (hb1.mono (Nat.le_succ _))
   clear hg1 hb1
   have HE : Hid (BareTold true f n w (w1.setRow w.heap.size (arrC false ((n : Int) - 1) (dm f n) none 0 0 none 0 0)) (.returned (.tuple #[.agg (arrC false ((n : Int) - 1) (dm f n) none 0 0 none 0 0), .bool true]))) := ⟨rfl, below_put hbw (Nat.le_refl _) _⟩
   go_wp2_with (first
    | (refine ld_arr rfl (.tmp 8) rfl (w.heap.size + 1) rfl (ch := false) (more := (n : Int) - 1) (d := dm f n) (na := none) (nn := 0) (nc := 0) (ta := none) (tn := 0) (tc := 0) hr1 ?_)
    | (refine st_arr rfl (.tmp 4) (.tmp 30) rfl w.heap.size rfl _ _ _ _ _ _ _ _ _ rfl hr0 rfl ?_))
   exact bodyPost_ret (res_arr2 Tryz.results104 rfl rfl (hr0.put _) rfl) rfl HE.out
theorem bare_any (a : Option Addr) (n c : Nat) (f : Nat -> Int) (m : Int) (w : World) (h : KRow w .i64 a n c f) (hf : In64 f n) :
    Calls Tryz.prog 104 #[.slice a n c, .int .i64 m] w fun e w' => BareTold (shB f n && decide (itm f n = m)) f n w w' e := by
 cases hb : shB f n && decide (itm f n = m) with
 | false => exact bare_no a n c f m w h hf hb
 | true =>
  rw [Bool.and_eq_true, decide_eq_true_eq] at hb
  exact bare_yes a n c f m w h hf hb.1 hb.2
theorem KRow.nought (w : World) (ki : IntKind) (a : Option Addr) (c : Nat) (hc : c <= maxLen) (f : Nat -> Int) : KRow w ki a 0 c f := ⟨Nat.zero_le _, hc, .inl rfl⟩
theorem Bag.krow {w0 w : World} {B : World -> Prop} {ki : IntKind} {a : Option Addr} {n c : Nat} {f : Nat -> Int} (h : Bag w0 B w) (q : KRow w ki a n c f) : Bag w0 (fun y => KRow y ki a n c f /\ B y) w := h.add (fun _ _ hb q => KRow.below q hb) q
theorem Bag.newRow {w0 w : World} {B : World -> Prop} (h : Bag w0 B w) (cs : Array Value) (t : TypeId) : Bag w0 (fun y => Row y w.heap.size t cs /\ B y) (w.alloc (.cells cs t)) := (h.alloc _).row (Row.new w t cs)
theorem Row.set {w : World} {g : Nat} {t : TypeId} {cs : Array Value} (h : Row w g t cs) (i : Nat) (v : Value) : Row (w.setCell ⟨g, i, none⟩ v) g t (cs.setIfInBounds i v) := heap_setCell_same w g i cs t v h
theorem Row.far {w : World} {g : Nat} {t : TypeId} {cs : Array Value} (h : Row w g t cs) {a : Addr} (e : g ≠ a.block) (v : Value) : Row (w.setCell a v) g t cs := (heap_setCell_other w a g v e).trans h
structure Far (g : Nat) (w w' : World) : Prop where
 size : w.heap.size <= w'.heap.size
 block : ∀ k, k ≠ g -> k < w.heap.size -> w'.heap[k]? = w.heap[k]?
theorem Far.setCell (w : World) (g o : Nat) (v : Value) : Far g w (w.setCell ⟨g, o, none⟩ v) := ⟨by simp, fun k hk _ => heap_setCell_other w ⟨g, o, none⟩ k v hk⟩
theorem Far.setRow (w : World) (g : Nat) (cs : Array Value) : Far g w (w.setRow g cs) := ⟨by simp, fun k hk _ => setRow_other w g k cs hk⟩
theorem Far.cell {g : Nat} {w w' : World} (h : Far g w w') {a : Addr} (hg : a.block ≠ g) (hl : a.block < w.heap.size) : w'.cell? a = w.cell? a := World.cell?_of_block (h.block _ hg hl)
def sameB (f g : Nat -> Int) : Nat -> Bool
 | 0 => true
 | k + 1 => sameB f g k && decide (f k = g k)
theorem sameB_iff {f g : Nat -> Int} {n : Nat} : sameB f g n = true ↔ ∀ j, j < n -> f j = g j := by
 induction n with
 | zero => exact ⟨fun _ j h => absurd h (Nat.not_lt_zero _), fun _ => rfl⟩
 | succ n ih =>
  show (sameB f g n && decide (f n = g n)) = true ↔ _
  rw [Bool.and_eq_true, ih, decide_eq_true_eq]
  constructor
  · rintro ⟨h1, h2⟩ j hj
    rcases Nat.lt_or_ge j n with h | h
    · exact h1 j h
    · obtain rfl : j = n := by omega
      exact h2
  · exact fun h => ⟨fun j hj => h j (by omega), h n (by omega)⟩
def SameTold (b : Bool) (w w' : World) (e : Ending) : Prop := e = .returned (.bool b) /\ Below w.heap.size w w'
theorem r6Same_any (a : Option Addr) (n c : Nat) (f : Nat -> Int) (a2 : Option Addr) (n2 c2 : Nat) (g : Nat -> Int) (w : World) (h : KRow w .i64 a n c f) (h2 : KRow w .i64 a2 n2 c2 g) :
    Calls Tryz.prog 56 #[.slice a n c, .slice a2 n2 c2] w fun e w' => SameTold (decide (n = n2) && sameB f g n) w w' e := by
 have hl := h.len
 have hl2 := h2.len
 have H1 := Lib.hid h
 have H2 := Lib.hid h2
 clear h h2
 by_cases hn : n = n2
 · subst hn
   rw [decide_eq_true rfl, Bool.true_and]
   have dn : ((n : Int) != n) = false := bne_self_eq_false _
   go_enter Tryz.func56, Tryz.ntmps56
   go_wp2
   go_loopw [5] (fun i wr => ∃ k : Nat, k <= n /\ i = .int .i64 k /\ Hid (Below w.heap.size w wr /\ sameB f g k = true)) (fun i _ => n - (intOf i).toNat)
   case atStart => exact ⟨0, by omega, rfl, Below.refl _ _, rfl⟩
   case round =>
    obtain ⟨k, hk, rfl, hrel⟩ := hrel
    obtain ⟨hbl, hsm⟩ := hrel.out
    by_cases hlt : k < n
    · obtain ⟨b, off, rfl, hb, hc⟩ := (H1.out.below hbl).get hlt
      obtain ⟨b2, off2, rfl, hb2, hc2⟩ := (H2.out.below hbl).get hlt
      have HBL := Lib.hid hbl
      have hk0 : (0 : Int) <= k := by omega
      have hk1 : (k : Int) < n := by omega
      have hk2 : (k : Int) <= n := by omega
      by_cases hq : f k = g k
      · have hsm2 : Hid (sameB f g (k + 1) = true) := by show (sameB f g k && _) = true; rw [hsm, decide_eq_true hq]; rfl
        have hne : (f k != g k) = false := by rw [hq]; exact bne_self_eq_false _
        clear hbl hsm
        rw [← hq] at hc2
        have hne : (f k != f k) = false := bne_self_eq_false _
        generalize f k = x at *
        clear hq
        go_wp2_with fail
        go_quiet (fail)
        have HBE : Hid (Below w.heap.size w (wr.drewN nq) /\ sameB f g (k + 1) = true) := ⟨below_drewN HBL.out nq, hsm2.out⟩
        go_wp2
        go_roundw
        case rel => exact ⟨k + 1, by omega, by go_num, HBE.out⟩
        case measure => simp [intOf]; omega
      · have hno : sameB f g n = false := by
          cases hx : sameB f g n with
          | false => rfl
          | true => exact absurd ((sameB_iff.1 hx) k hlt) hq
        have HN := Lib.hid hno
        have hne : (f k != g k) = true := bne_iff_ne.2 hq
        clear hbl hsm hno
        generalize f k = x at *
        generalize g k = y at *
        clear hq
        go_wp2_with fail
        go_quiet (fail)
        have HBE : Hid (SameTold (sameB f g n) w (wr.drewN nq) (.returned (.bool false))) := ⟨by rw [HN.out], below_drewN HBL.out nq⟩
        go_wp2
        go_ret
        exact HBE.out
    · obtain rfl : k = n := by omega
      have HE : Hid (SameTold (sameB f g k) w wr (.returned (.bool true))) := ⟨by rw [hsm], hbl⟩
      clear hbl hsm
      go_wp2
      go_ret
      exact HE.out
 · rw [decide_eq_false hn, Bool.false_and]
   have dn : ((n : Int) != n2) = true := bne_iff_ne.2 (by omega)
   have HE : Hid (SameTold false w w (.returned (.bool false))) := ⟨rfl, Below.refl _ _⟩
   clear hn
   go_enter Tryz.func56, Tryz.ntmps56
   go_wp2
   go_ret
   exact HE.out
def NewAt (w w' : World) (a : Option Addr) (n c : Nat) : Prop := (a = none /\ n = 0 /\ c = 0) ∨ ∃ g, a = some ⟨g, 0, none⟩ /\ w.heap.size <= g /\ Free w' g
theorem cloneI_new (a : Option Addr) (n c : Nat) (f : Nat -> Int) (w : World) (h : KRow w .i64 a n c f) (hn : n <= 1000000) :
    Calls Tryz.prog 94 #[.slice a n c] w fun e w' => ∃ a' c', e = .returned (.slice a' n c') /\ KRow w' .i64 a' n c' f /\ NewAt w w' a' n c' /\ Below w.heap.size w w' := by
 obtain ⟨i0, hi, hz0, hz1, hz2⟩ := info_parts infoI
 have q22 : ∀ (w : World) (a : Option Addr) (n c n' c' : Nat), (binOp .eql 22 (.slice a n c) (.slice none n' c')).run Tryz.prog w = .ok (.bool a.isNone) w := fun w a n c n' c' => Lib.run_eql_slice_nil w _ _ a n c n' c' Tryz.underlying22
 cases a with
 | none =>
  have h0 : n = 0 := by
   rcases h.2.2 with h | ⟨_, _, h, _⟩
   · exact h
   · cases h
  subst h0
  go_enter Tryz.func94, Tryz.ntmps94
  go_wp2
  go_ret
  exact ⟨none, 0, rfl, KRow.nought _ _ _ _ (Nat.zero_le _) _, .inl ⟨rfl, rfl, rfl⟩, Below.refl _ _⟩
 | some ad =>
  have hex : ∃ news : List Value, news.length = n * 1 /\ (∀ j u, news[j]? = some u -> w.cell? (ad.add j) = some u) /\ (∀ u ∈ news, u.oneCell' = true) /\ ∀ j, j < n -> news[j]? = some (.int .i64 (f j)) := by
   rcases h.2.2 with h0 | ⟨b, off, he, hb, hc⟩
   · subst h0
     exact ⟨[], rfl, fun j u hu => by simp at hu, fun u hu => by simp at hu, fun j hj => by omega⟩
   · obtain rfl := Option.some.inj he
     have hg : ∀ j, j < n -> ((List.range n).map fun j => Value.int .i64 (f j))[j]? = some (.int .i64 (f j)) := fun j hj => by rw [List.getElem?_map, List.getElem?_range hj]; rfl
     refine ⟨(List.range n).map fun j => .int .i64 (f j), by simp, fun j u hu => ?_, fun u hu => ?_, hg⟩
     · have hj : j < n := by
         have := (List.getElem?_eq_some_iff.1 hu).1
         simpa using this
       rw [hg j hj] at hu
       obtain rfl := Option.some.inj hu
       rw [show (⟨b, off, none⟩ : Addr).add j = ⟨b, off + j, none⟩ by simp [Addr.add]]
       exact hc j hj
     · obtain ⟨j, _, rfl⟩ := List.mem_map.1 hu
       rfl
  obtain ⟨news, hl, hcell, hone, hrat⟩ := hex
  have HC := Lib.hid hcell
  have HO := Lib.hid hone
  have HR := Lib.hid hrat
  have HL := Lib.hid hl
  have HN := Lib.hid hn
  clear hcell hone hrat hl h hn
  go_enter Tryz.func94, Tryz.ntmps94
  go_wp2_with (at_builtin; refine wpList_append_own _ rfl _ _ 22 rfl w.heap.size 3 i0 _ 1 8 Tryz.underlying22 hi hz0 hz1 hz2 rfl (by omega) _ _ _ rfl (World.ownsRow_made w #[] 0 (Nat.le_refl _) (Nat.zero_le _) (by simp)) ad n c news rfl ?qc1 ?qc2 ?qc3 ?qc4 ?qc5 ?qc6 ?_)
  case qc1 => exact HL.out
  case qc2 => exact fun j u hj => Lib.cell?_alloc_some _ (HC.out j u hj)
  case qc3 => exact HO.out
  case qc4 => have := HN.out; unfold maxLen; omega
  case qc5 => have := HN.out; omega
  case qc6 => simp
  intro v' w1 hown hgrow hnil
  have hb : Below w.heap.size w w1 := ((Below.refl _ w).alloc (Nat.le_refl _) _).grown hgrow (by simp) (by intro k hk; simp [Value.ownBlock] at hk; omega)
  have HE : Hid (∃ a' c', v' = .slice a' n c' /\ KRow w1 .i64 a' n c' f /\ NewAt w w1 a' n c') := by
   rcases hown.2 with ⟨rfl, h0⟩ | ⟨g, cap, cur, rfl, hge, hh, h1, h2, _, hcs⟩
   · subst h0
     exact ⟨none, 0, rfl, KRow.nought _ _ _ _ (Nat.zero_le _) _, .inl ⟨rfl, rfl, rfl⟩⟩
   · refine ⟨some ⟨g, 0, none⟩, cap, rfl, ⟨h1, h2, .inr ⟨g, 0, rfl, Row.lt (t := 3) hh, fun j hj => ?_⟩⟩, .inr ⟨g, rfl, hge, Free.of_block hh⟩⟩
     have := hown.cells (g := g) rfl j _ (HR.out j hj)
     rwa [show (⟨g, 0, none⟩ : Addr).add j = ⟨g, 0 + j, none⟩ by unfold Addr.add; split <;> simp_all] at this
  have HB := Lib.hid hb
  clear hown hgrow hnil hb
  go_wp2
  go_ret
  obtain ⟨a', c', rfl, hr, hn⟩ := HE.out
  exact ⟨a', c', rfl, hr, hn, HB.out⟩
theorem cloneI_any (a : Option Addr) (n c : Nat) (f : Nat -> Int) (w : World) (h : KRow w .i64 a n c f) (hn : n <= 1000000) :
    Calls Tryz.prog 94 #[.slice a n c] w fun e w' => ∃ a' c', e = .returned (.slice a' n c') /\ KRow w' .i64 a' n c' f /\ Below w.heap.size w w' :=
 (cloneI_new a n c f w h hn).mono fun _ _ ⟨a', c', h1, h2, _, h3⟩ => ⟨a', c', h1, h2, h3⟩
def kcs (ki : IntKind) (f : Nat -> Int) : Nat -> List Value
 | 0 => []
 | k + 1 => kcs ki f k ++ [.int ki (f k)]
theorem kcs_length (ki : IntKind) (f : Nat -> Int) : ∀ k, (kcs ki f k).length = k
 | 0 => rfl
 | k + 1 => by unfold kcs; rw [List.length_append, kcs_length ki f k]; rfl
theorem kcs_get (ki : IntKind) (f : Nat -> Int) : ∀ k j, j < k -> (kcs ki f k)[j]? = some (.int ki (f j))
 | 0, j, h => absurd h (Nat.not_lt_zero _)
 | k + 1, j, h => by
  have hl := kcs_length ki f k
  unfold kcs
  rcases Nat.lt_or_ge j k with h1 | h1
  · rw [List.getElem?_append_left (by omega)]
    exact kcs_get ki f k j h1
  · obtain rfl : j = k := by omega
    rw [List.getElem?_append_right (by omega), hl, Nat.sub_self]
    rfl
theorem KRow.of_own {w : World} {base : Nat} {e : TypeId} {v : Value} {n : Nat} {ki : IntKind} {f : Nat -> Int} (h : w.ownsRow base e 1 v n (kcs ki f n)) : ∃ a c, v = .slice a n c /\ KRow w ki a n c f := by
 rcases h.2 with ⟨rfl, rfl⟩ | ⟨g, cap, cur, rfl, _, hh, h1, h2, _, hcs⟩
 · exact ⟨none, 0, rfl, KRow.nought _ _ _ _ (Nat.zero_le _) _⟩
 · refine ⟨some ⟨g, 0, none⟩, cap, rfl, h1, h2, .inr ⟨g, 0, rfl, Row.lt (t := e) hh, fun j hj => ?_⟩⟩
   have := h.cells (g := g) rfl j _ (kcs_get ki f n j hj)
   rwa [show (⟨g, 0, none⟩ : Addr).add j = ⟨g, 0 + j, none⟩ by unfold Addr.add; split <;> simp_all] at this
theorem own_below {w w' : World} {base : Nat} {e : TypeId} {size : Nat} {v : Value} {n : Nat} {xs : List Value} (h : w.ownsRow base e size v n xs) (hb : Below w.heap.size w w') : w'.ownsRow base e size v n xs := by
 refine h.kept (row := none) ⟨hb.os, hb.tape, hb.output, hb.size, fun k hk _ => hb.block k hk⟩ ?_
 cases v.ownBlock with
 | none => exact .inl rfl
 | some k => exact .inr (by simp)
theorem own_setCell {w : World} {base : Nat} {e : TypeId} {size : Nat} {v : Value} {n : Nat} {xs : List Value} (h : w.ownsRow base e size v n xs) (k o : Nat) (u : Value) (hk : some k ≠ v.ownBlock) : (w.setCell ⟨k, o, none⟩ u).ownsRow base e size v n xs :=
 h.kept (row := some k) ⟨rfl, rfl, rfl, by simp, fun j hj hne => (Far.setCell w k o u).block j (fun e => hne (by rw [e])) hj⟩ (.inr (fun e => hk e.symm))
theorem Bag.own {w0 w : World} {B : World -> Prop} {base : Nat} {e : TypeId} {size : Nat} {v : Value} {n : Nat} {xs : List Value} (h : Bag w0 B w) (q : w.ownsRow base e size v n xs) : Bag w0 (fun y => y.ownsRow base e size v n xs /\ B y) w := h.add (fun _ _ hb q => own_below q hb) q
end Go.Proofs.YtnpoakaffafdiaaGreatDoor
namespace Go.Proofs.YtnpoakaffafdiaaGreatDoor
open Go.RowKit
attribute [local go_sem ↓] Go.wp_at_zero Go.wp_at_succ
def NatOf3 (w w' : World) (e : Ending) (N : Nat) : Prop := ∃ a n c, e = .returned (.agg #[.slice a n c]) /\ NatIs w' (.agg #[.slice a n c]) N /\ Below w.heap.size w w'
theorem NatOut.three {w w' : World} {e : Ending} {N : Nat} (h : NatOut w w' e N) : NatOf3 w w' e N := by
 obtain ⟨v, h1, ⟨a, n, c, f, h2, h3, h4, h5⟩, h6⟩ := h
 exact ⟨a, n, c, by rw [h1, h2], ⟨a, n, c, f, rfl, h3, h4, h5⟩, h6⟩
def SubOf3 (w w' : World) (e : Ending) (N : Nat) (b : Bool) : Prop := ∃ a n c, e = .returned (.tuple #[.agg #[.slice a n c], .bool b]) /\ NatIs w' (.agg #[.slice a n c]) N /\ Below w.heap.size w w'
theorem SubOut.three {w w' : World} {e : Ending} {N M : Nat} {b : Bool} (h : SubOut w w' e N M) (hb : decide (M <= N) = b) : SubOf3 w w' e (N - M) b := by
 obtain ⟨v, h1, ⟨a, n, c, f, h2, h3, h4, h5⟩, h6⟩ := h
 exact ⟨a, n, c, by rw [h1, h2, hb], ⟨a, n, c, f, rfl, h3, h4, h5⟩, h6⟩
def PO (k : Nat) (a : Option Addr) (n c : Nat) (m : Bool) (Z : Int) (a2 : Option Addr) (n2 c2 : Nat) (m2 : Bool) (Y : Int) (y : World) : Prop :=
 RS y (k + 1 + 1) /\ Slot2 y (k + 1) (.slice a2 n2 c2) (.bool m2) /\ Slot2 y k (.slice a n c) (.bool m) /\ IntAt y a2 n2 c2 m2 Y /\ IntAt y a n c m Z
theorem PO.put {k : Nat} {a : Option Addr} {n c : Nat} {m : Bool} {Z : Int} {a2 : Option Addr} {n2 c2 : Nat} {m2 : Bool} {Y : Int} {y : World} (h : PO k a n c m Z a2 n2 c2 m2 Y y) (a3 : Option Addr) (n3 c3 : Nat) (b : Bool) : PO k a n c m Z a2 n2 c2 m2 Y (putI y (k + 1 + 1) a3 n3 c3 b) :=
 ⟨h.1.put _ _ _ _, h.2.1.put (by omega) _ _ _ _, h.2.2.1.put (by omega) _ _ _ _, h.2.2.2.1.put h.1 _ _ _ _, h.2.2.2.2.put h.1 _ _ _ _⟩
theorem PO.stay {k : Nat} {a : Option Addr} {n c : Nat} {m : Bool} {Z : Int} {a2 : Option Addr} {n2 c2 : Nat} {m2 : Bool} {Y : Int} : ∀ x y, Below x.heap.size x y -> PO k a n c m Z a2 n2 c2 m2 Y x -> PO k a n c m Z a2 n2 c2 m2 Y y :=
 fun _ _ hb h => ⟨h.1.below hb, h.2.1.below hb, h.2.2.1.below hb, h.2.2.2.1.below hb, h.2.2.2.2.below hb⟩
theorem PO.start {w : World} {a : Option Addr} {n c : Nat} {m : Bool} {Z : Int} {a2 : Option Addr} {n2 c2 : Nat} {m2 : Bool} {Y : Int} (h : IntAt w a n c m Z) (g : IntAt w a2 n2 c2 m2 Y) :
    Bag w (PO w.heap.size a n c m Z a2 n2 c2 m2 Y) (((w.alloc (.cells #[.slice a n c, .bool m] 58)).alloc (.cells #[.slice a2 n2 c2, .bool m2] 58)).alloc (.cells #[.slice none 0 0, .bool false] 58)) := by
 have B0 := (((((Bag.start w).int h).int g).box2 (.slice a n c) (.bool m) 58).box2 (.slice a2 n2 c2) (.bool m2) 58).box2 (.slice none 0 0) (.bool false) 58
 simp only [World.size_alloc] at B0
 exact ⟨B0.below, PO.stay, B0.now.1.rs, B0.now.2.1, B0.now.2.2.1, B0.now.2.2.2.1, B0.now.2.2.2.2.1⟩
def POc (k : Nat) (a : Option Addr) (n c : Nat) (m : Bool) (a2 : Option Addr) (n2 c2 : Nat) (m2 : Bool) (y : World) : Prop :=
 y.cell? ⟨k, 0, none⟩ = some (.slice a n c) /\ y.cell? ⟨k, 1, none⟩ = some (.bool m) /\ y.cell? ⟨k + 1, 0, none⟩ = some (.slice a2 n2 c2) /\ y.cell? ⟨k + 1, 1, none⟩ = some (.bool m2)
theorem PO.c {k : Nat} {a : Option Addr} {n c : Nat} {m : Bool} {Z : Int} {a2 : Option Addr} {n2 c2 : Nat} {m2 : Bool} {Y : Int} {y : World} (h : PO k a n c m Z a2 n2 c2 m2 Y y) : POc k a n c m a2 n2 c2 m2 y :=
 ⟨h.2.2.1.cell, h.2.2.1.cell1, h.2.1.cell, h.2.1.cell1⟩
end Go.Proofs.YtnpoakaffafdiaaGreatDoor
namespace Go.Proofs.YtnpoakaffafdiaaGreatDoor
open Go.RowKit
def IntsAt (w : World) (sa : Option Addr) (n c : Nat) (f : Nat -> Int) : Prop := n <= c /\ n <= 1000 /\ (n = 0 ∨ ∃ b off, sa = some ⟨b, off, none⟩ /\ b < w.heap.size /\
 ∀ j, j < n -> ∃ a' n' c' m', w.cell? ⟨b, off + j * 2, none⟩ = some (.slice a' n' c') /\ w.cell? ⟨b, off + j * 2 + 1, none⟩ = some (.bool m') /\ IntAt w a' n' c' m' (f j))
theorem IntsAt.below {w w' : World} {sa : Option Addr} {n c : Nat} {f : Nat -> Int} (h : IntsAt w sa n c f) (hb : Below w.heap.size w w') : IntsAt w' sa n c f := by
 obtain ⟨h0, h1, h2⟩ := h
 refine ⟨h0, h1, ?_⟩
 rcases h2 with h2 | ⟨b, off, rfl, hl, hc⟩
 · exact .inl h2
 · refine .inr ⟨b, off, rfl, Nat.lt_of_lt_of_le hl hb.size, fun j hj => ?_⟩
   obtain ⟨a', n', c', m', e1, e2, e3⟩ := hc j hj
   exact ⟨a', n', c', m', (hb.cell (p := ⟨b, _, none⟩) hl).trans e1, (hb.cell (p := ⟨b, _, none⟩) hl).trans e2, e3.below hb⟩
theorem IntsAt.get {w : World} {sa : Option Addr} {n c : Nat} {f : Nat -> Int} (h : IntsAt w sa n c f) {j : Nat} (hj : j < n) :
    ∃ b off a' n' c' m', sa = some ⟨b, off, none⟩ /\ b < w.heap.size /\ w.cell? ⟨b, off + j * 2, none⟩ = some (.slice a' n' c') /\ w.cell? ⟨b, off + j * 2 + 1, none⟩ = some (.bool m') /\ IntAt w a' n' c' m' (f j) := by
 obtain ⟨h0, h1, h2⟩ := h
 rcases h2 with h2 | ⟨b, off, rfl, hl, hc⟩
 · omega
 · obtain ⟨a', n', c', m', e⟩ := hc j hj
   exact ⟨b, off, a', n', c', m', rfl, hl, e⟩
def PL (w wr : World) (V : Int) : Prop := Below w.heap.size w wr /\ RS wr (w.heap.size + 1) /\ ∃ a n c m, Slot2 wr (w.heap.size + 1 + 1) (.slice a n c) (.bool m) /\ IntAt wr a n c m V
end Go.Proofs.YtnpoakaffafdiaaGreatDoor
namespace Go.Proofs.YtnpoakaffafdiaaGreatDoor
open Go.RowKit
attribute [local go_sem ↓] Go.wp_at_zero Go.wp_at_succ
def FP (k : Nat) (a : Option Addr) (n c : Nat) (m : Bool) (Z : Int) (a2 : Option Addr) (n2 c2 : Nat) (m2 : Bool) (Y : Int) (y : World) : Prop :=
 RS y (k + 1 + 1) /\ RS y (k + 1 + 1 + 1) /\ Slot2 y (k + 1) (.slice a2 n2 c2) (.bool m2) /\ Slot2 y k (.slice a n c) (.bool m) /\ IntAt y a2 n2 c2 m2 Y /\ IntAt y a n c m Z
theorem FP.stay {k : Nat} {a : Option Addr} {n c : Nat} {m : Bool} {Z : Int} {a2 : Option Addr} {n2 c2 : Nat} {m2 : Bool} {Y : Int} : ∀ x y, Below x.heap.size x y -> FP k a n c m Z a2 n2 c2 m2 Y x -> FP k a n c m Z a2 n2 c2 m2 Y y :=
 fun _ _ hb h => ⟨h.1.below hb, h.2.1.below hb, h.2.2.1.below hb, h.2.2.2.1.below hb, h.2.2.2.2.1.below hb, h.2.2.2.2.2.below hb⟩
theorem FP.start {w : World} {a : Option Addr} {n c : Nat} {m : Bool} {Z : Int} {a2 : Option Addr} {n2 c2 : Nat} {m2 : Bool} {Y : Int} (h : IntAt w a n c m Z) (g : IntAt w a2 n2 c2 m2 Y) :
    Bag w (FP w.heap.size a n c m Z a2 n2 c2 m2 Y) ((((w.alloc (.cells #[.slice a n c, .bool m] 58)).alloc (.cells #[.slice a2 n2 c2, .bool m2] 58)).alloc (.cells #[.slice none 0 0, .bool false] 58)).alloc (.cells #[.slice none 0 0, .bool false] 58)) := by
 have B0 := ((((((Bag.start w).int h).int g).box2 (.slice a n c) (.bool m) 58).box2 (.slice a2 n2 c2) (.bool m2) 58).box2 (.slice none 0 0) (.bool false) 58).box2 (.slice none 0 0) (.bool false) 58
 simp only [World.size_alloc] at B0
 exact ⟨B0.below, FP.stay, B0.now.2.1.rs, B0.now.1.rs, B0.now.2.2.1, B0.now.2.2.2.1, B0.now.2.2.2.2.1, B0.now.2.2.2.2.2.1⟩
theorem FP.put {k j : Nat} {a : Option Addr} {n c : Nat} {m : Bool} {Z : Int} {a2 : Option Addr} {n2 c2 : Nat} {m2 : Bool} {Y : Int} {y : World} (h : FP k a n c m Z a2 n2 c2 m2 Y y) (hj : RS y j) (h1 : k ≠ j) (h2 : k + 1 ≠ j) (a3 : Option Addr) (n3 c3 : Nat) (b : Bool) : FP k a n c m Z a2 n2 c2 m2 Y (putI y j a3 n3 c3 b) :=
 ⟨h.1.put _ _ _ _, h.2.1.put _ _ _ _, h.2.2.1.put h2 _ _ _ _, h.2.2.2.1.put h1 _ _ _ _, h.2.2.2.2.1.put hj _ _ _ _, h.2.2.2.2.2.put hj _ _ _ _⟩
def DivOf3 (w w' : World) (e : Ending) (N M : Nat) (b : Bool) : Prop := ∃ a n c a2 n2 c2, e = .returned (.tuple #[.agg #[.slice a n c], .agg #[.slice a2 n2 c2], .bool b]) /\ NatIs w' (.agg #[.slice a n c]) N /\ NatIs w' (.agg #[.slice a2 n2 c2]) M /\ Below w.heap.size w w'
theorem DivOut.three {w w' : World} {e : Ending} {N M : Nat} {b : Bool} (h : DivOut w w' e N M) (hb : decide (M ≠ 0) = b) : DivOf3 w w' e (N / M) (modz N M) b := by
 obtain ⟨v, u, h1, ⟨a, n, c, f, h2, h3, h4, h5⟩, ⟨a', n', c', f', h2', h3', h4', h5'⟩, h6⟩ := h
 exact ⟨a, n, c, a', n', c', by rw [h1, h2, h2', hb], ⟨a, n, c, f, rfl, h3, h4, h5⟩, ⟨a', n', c', f', rfl, h3', h4', h5'⟩, h6⟩
def pprod (Z : Int) (f : Nat -> Int) : Nat -> Int
 | 0 => Z
 | k + 1 => pprod Z f k * f k
theorem sgn_mul (Z Y : Int) : sgn (decide (Z < 0) != decide (Y < 0)) (Z.natAbs * Y.natAbs) = Z * Y := by
 by_cases hz : Z < 0
 · obtain ⟨x, rfl⟩ : ∃ x : Nat, Z = -(x : Int) := ⟨Z.natAbs, by omega⟩
   by_cases hy : Y < 0
   · obtain ⟨y, rfl⟩ : ∃ y : Nat, Y = -(y : Int) := ⟨Y.natAbs, by omega⟩
     rw [decide_eq_true hz, decide_eq_true hy]
     simp [sgn, Int.neg_mul_neg]
   · obtain ⟨y, rfl⟩ : ∃ y : Nat, Y = (y : Int) := ⟨Y.natAbs, by omega⟩
     rw [decide_eq_true hz, decide_eq_false hy]
     simp [sgn, Int.neg_mul]
 · obtain ⟨x, rfl⟩ : ∃ x : Nat, Z = (x : Int) := ⟨Z.natAbs, by omega⟩
   by_cases hy : Y < 0
   · obtain ⟨y, rfl⟩ : ∃ y : Nat, Y = -(y : Int) := ⟨Y.natAbs, by omega⟩
     rw [decide_eq_false hz, decide_eq_true hy]
     simp [sgn, Int.mul_neg]
   · obtain ⟨y, rfl⟩ : ∃ y : Nat, Y = (y : Int) := ⟨Y.natAbs, by omega⟩
     rw [decide_eq_false hz, decide_eq_false hy]
     simp [sgn]
def TP (k1 k2 k7 : Nat) (a : Option Addr) (n c : Nat) (m : Bool) (Z : Int) (a2 : Option Addr) (n2 c2 : Nat) (m2 : Bool) (Y : Int) (y : World) : Prop :=
 RS y k2 /\ RS y k1 /\ IntAt y a n c m Z /\ IntAt y a2 n2 c2 m2 Y /\ Slot2 y k7 (.slice a2 n2 c2) (.bool m2)
theorem TP.stay {k1 k2 k7 : Nat} {a : Option Addr} {n c : Nat} {m : Bool} {Z : Int} {a2 : Option Addr} {n2 c2 : Nat} {m2 : Bool} {Y : Int} : ∀ x y, Below x.heap.size x y -> TP k1 k2 k7 a n c m Z a2 n2 c2 m2 Y x -> TP k1 k2 k7 a n c m Z a2 n2 c2 m2 Y y :=
 fun _ _ hb h => ⟨h.1.below hb, h.2.1.below hb, h.2.2.1.below hb, h.2.2.2.1.below hb, h.2.2.2.2.below hb⟩
theorem TP.put {k1 k2 k7 : Nat} {a : Option Addr} {n c : Nat} {m : Bool} {Z : Int} {a2 : Option Addr} {n2 c2 : Nat} {m2 : Bool} {Y : Int} {y : World} (h : TP k1 k2 k7 a n c m Z a2 n2 c2 m2 Y y) (hk : k7 ≠ k2) (a3 : Option Addr) (n3 c3 : Nat) (b : Bool) : TP k1 k2 k7 a n c m Z a2 n2 c2 m2 Y (putI y k2 a3 n3 c3 b) :=
 ⟨h.1.put _ _ _ _, h.2.1.put _ _ _ _, h.2.2.1.put h.1 _ _ _ _, h.2.2.2.1.put h.1 _ _ _ _, h.2.2.2.2.put hk _ _ _ _⟩
theorem slot2_putI {w : World} {k : Nat} {x y : Value} (h : Slot2 w k x y) (a : Option Addr) (n c : Nat) (b : Bool) : Slot2 (putI w k a n c b) k (.slice a n c) (.bool b) :=
 ⟨(h.set _ _).1, (h.set _ _).2, by simp [putI, h.free], by simp [putI, h.free1], by simpa [putI] using h.lt⟩
theorem times_any (a : Option Addr) (n c : Nat) (m : Bool) (Z : Int) (sa : Option Addr) (ln lc : Nat) (f : Nat -> Int) (w : World) (h : IntAt w a n c m Z) (g : IntsAt w sa ln lc f)
    (K : Nat) (hK : K <= 400000) (hb : ∀ k, k < ln -> (pprod Z f k).natAbs < 4294967296 ^ K /\ (f k).natAbs < 4294967296 ^ K) :
    Calls Tryz.prog 82 #[.agg #[.slice a n c, .bool m], .slice sa ln lc] w fun e w' => IntTold w w' e (pprod Z f ln) := by
 have B0 := (((((Bag.start w).int h).box2 (.slice a n c) (.bool m) 58).box2 (.slice none 0 0) (.bool false) 58)).box2 (.slice a n c) (.bool m) 58
 simp only [World.size_alloc] at B0
 have H0 : Hid (PL w _ (pprod Z f 0)) := ⟨B0.below, B0.now.2.1.rs, a, n, c, m, B0.now.1, B0.now.2.2.2.1⟩
 have q0 := B0.now.2.2.1.cell
 have q1 := B0.now.2.2.1.cell1
 have HG := Lib.hid g
 have hln : ln <= 1000 /\ ln <= lc := ⟨g.2.1, g.1⟩
 have HB := Lib.hid hb
 clear B0 h g hb
 go_enter Tryz.func82, Tryz.ntmps82
 go_wp2
 go_loopw [11] (fun i wr => ∃ k : Nat, k <= ln /\ i = .int .i64 k /\ PL w wr (pprod Z f k)) (fun i _ => ln - (intOf i).toNat)
 case atStart => exact ⟨0, by omega, rfl, H0.out⟩
 case round =>
  obtain ⟨k, hk, rfl, hr⟩ := hrel
  by_cases hlt : k < ln
  · obtain ⟨hbl, hrs, a3, n3, c3, m3, hs3, hi3⟩ := hr
    obtain ⟨b, off, a', n', c', m', rfl, hlb, e1, e2, hi'⟩ := (HG.out.below hbl).get hlt
    have hwr : w.heap.size <= wr.heap.size := hbl.size
    have hw2 : w.heap.size + 1 + 1 < wr.heap.size := hs3.lt
    have hm3 := hi3.1
    have hm' := hi'.1
    have HBK := HB.out k hlt
    obtain ⟨ZZ, hZZ⟩ : ∃ ZZ, pprod Z f k = ZZ := ⟨_, rfl⟩
    obtain ⟨YY, hYY⟩ : ∃ YY, f k = YY := ⟨_, rfl⟩
    have hnext : pprod Z f (k + 1) = ZZ * YY := by rw [pprod, hZZ, hYY]
    rw [hZZ] at hi3 HBK hm3
    rw [hYY] at hi' HBK hm'
    have B1 : Bag w (TP (w.heap.size + 1) (w.heap.size + 1 + 1) wr.heap.size a3 n3 c3 m3 ZZ a' n' c' m' YY) (wr.alloc (.cells #[.slice a' n' c', .bool m'] 58)) := by
     have B1 := ((((Bag.start wr).int hi3).int hi').slot2 hs3).box2 (.slice a' n' c') (.bool m') 58
     exact ⟨hbl.trans (B1.below.mono hwr), TP.stay, B1.now.2.1.rs, hrs.below B1.below, B1.now.2.2.2.1, B1.now.2.2.1, B1.now.1⟩
    have N1 : Hid (∀ wz, TP (w.heap.size + 1) (w.heap.size + 1 + 1) wr.heap.size a3 n3 c3 m3 ZZ a' n' c' m' YY wz -> Calls Tryz.prog 136 #[.agg #[.slice a3 n3 c3, .bool m3]] wz fun e w' => e = .returned (.bool m3) /\ Below wz.heap.size wz w') := fun wz hz => neg_any a3 n3 c3 m3 ZZ wz hz.2.2.1
    have N2 : Hid (∀ wz, TP (w.heap.size + 1) (w.heap.size + 1 + 1) wr.heap.size a3 n3 c3 m3 ZZ a' n' c' m' YY wz -> Calls Tryz.prog 136 #[.agg #[.slice a' n' c', .bool m']] wz fun e w' => e = .returned (.bool m') /\ Below wz.heap.size wz w') := fun wz hz => neg_any a' n' c' m' YY wz hz.2.2.2.1
    have MU : Hid (∀ wz, TP (w.heap.size + 1) (w.heap.size + 1 + 1) wr.heap.size a3 n3 c3 m3 ZZ a' n' c' m' YY wz -> Calls Tryz.prog 138 #[.agg #[.slice a3 n3 c3], .agg #[.slice a' n' c']] wz fun e w' => NatOf3 wz w' e (ZZ.natAbs * YY.natAbs)) := fun wz hz => (mul_any _ _ _ _ wz hz.2.2.1.2 hz.2.2.2.1.2 K hK HBK.1 HBK.2).mono fun _ _ h => h.three
    have OF : Hid (∀ a4 n4 c4 wz, NatIs wz (.agg #[.slice a4 n4 c4]) (ZZ.natAbs * YY.natAbs) -> Calls Tryz.prog 119 #[.bool (!(m3 == m')), .agg #[.slice a4 n4 c4]] wz fun e w' => IntTold wz w' e (ZZ * YY)) := by
     intro a4 n4 c4 wz hi
     have := wof_any (m3 != m') a4 n4 c4 _ wz hi
     rw [hm3, hm', sgn_mul] at this
     rw [hm3, hm']; exact this
    have HBL := Lib.hid hbl
    have HRS := Lib.hid hrs
    have HNX := Lib.hid hnext
    have BB := Lib.hid B1.drew
    have SS : Hid (Slot2 (wr.alloc (.cells #[.slice a' n' c', .bool m'] 58)).drew (w.heap.size + 1 + 1) (.slice a3 n3 c3) (.bool m3)) := hs3.below (((Below.refl _ _).alloc (Nat.le_refl _) _).drew)
    have p2 := SS.out.cell
    have p3 := SS.out.cell1
    obtain ⟨mm, hmm⟩ : ∃ mm, (!(m3 == m')) = mm := ⟨_, rfl⟩
    rw [hmm] at OF
    clear hbl hrs hi3 hi' B1 HBK hs3 q0 q1 hZZ hYY hnext hm3 hm'
    go_wp2_with fail
    have p0 := BB.out.now.2.2.2.2.cell
    have p1 := BB.out.now.2.2.2.2.cell1
    go_region_with (first
        | (go_at_call 136; (with_reducible refine (N1.out _ BB.out.now).mono ?_); rintro e w2 ⟨rfl, hb2⟩; have BB := Lib.hid (BB.out.go hb2); have SS := Lib.hid (SS.out.below hb2); have p0 := BB.out.now.2.2.2.2.cell; have p1 := BB.out.now.2.2.2.2.cell1; have p2 := SS.out.cell; have p3 := SS.out.cell1; clear hb2)
        | (go_at_call 136; (with_reducible refine (N2.out _ BB.out.now).mono ?_); rintro e w2 ⟨rfl, hb2⟩; have BB := Lib.hid (BB.out.go hb2); have SS := Lib.hid (SS.out.below hb2); have p0 := BB.out.now.2.2.2.2.cell; have p1 := BB.out.now.2.2.2.2.cell1; have p2 := SS.out.cell; have p3 := SS.out.cell1; clear hb2)
        | (go_at_call 138; (with_reducible refine (MU.out _ BB.out.now).mono ?_); rintro e w2 ⟨a4, n4, c4, rfl, hi4, hb2⟩; have BB := Lib.hid (BB.out.go hb2); have SS := Lib.hid (SS.out.below hb2); have p0 := BB.out.now.2.2.2.2.cell; have p1 := BB.out.now.2.2.2.2.cell1; have p2 := SS.out.cell; have p3 := SS.out.cell1; clear hb2)
        | (go_at_call 119; (with_reducible refine (OF.out a4 n4 c4 _ hi4).mono ?_); rintro e w2 ⟨a5, n5, c5, m5, rfl, hi5, hb2⟩; have B7 := Bag.go BB.out hb2; have hs5 := SS.out.below hb2; have hc1 := hs5.cell; have hc2 := hs5.cell1; have hf1 := hs5.free; have hf2 := hs5.free1; have HN : Hid (PL w (putI w2 (w.heap.size + 1 + 1) a5 n5 c5 m5) (pprod Z f (k + 1))) := ⟨(B7.below.setCell (show w.heap.size <= w.heap.size + 1 + 1 by omega) _).setCell (show w.heap.size <= w.heap.size + 1 + 1 by omega) _, B7.now.2.1.put _ _ _ _, a5, n5, c5, m5, slot2_putI hs5 _ _ _ _, by rw [HNX.out]; exact hi5.put B7.now.1 _ _ _ _⟩; unfold putI at HN; clear B7))
    all_goals
     go_wp2
     go_roundw
     case rel => exact ⟨k + 1, by omega, by go_num, HN.out⟩
     case measure => simp [intOf]; omega
  · obtain rfl : k = ln := by omega
    obtain ⟨hbl, hrs, a3, n3, c3, m3, hs3, hi3⟩ := hr
    have HE := Lib.hid (IntTold.fin hbl (by omega) hrs hi3)
    have HS := hrs.cells a3 n3 c3 m3
    unfold putI at HS
    have p0 := hs3.cell
    have p1 := hs3.cell1
    obtain ⟨x8, b8, hs8, _⟩ := hrs
    have hc1 := hs8.cell
    have hc2 := hs8.cell1
    have hf1 := hs8.free
    have hf2 := hs8.free1
    clear hs8 hs3 hi3 hbl q0 q1
    go_wp2
    exact bodyPost_ret (v := _) (by simp [results, Tryz.results82, go_sem, HS]) rfl HE.out
end Go.Proofs.YtnpoakaffafdiaaGreatDoor
namespace Go.Proofs.YtnpoakaffafdiaaGreatDoor
open Go.RowKit
theorem d10_lt (Z k : Nat) : d10 Z k < 10 := Nat.mod_lt _ (by omega)
theorem set_digit {Z Y p t : Nat} (ht : t < 10) (h : Y + d10 Z p * 10 ^ p = Z + t * 10 ^ p) : ∀ k, d10 Y k = if k = p then t else d10 Z k := by
 have hp : 0 < 10 ^ p := Nat.pow_pos (by omega)
 have e1 := Nat.div_add_mod Z (10 ^ p)
 have e2 := Nat.div_add_mod (Z / 10 ^ p) 10
 have e3 : Z / 10 ^ p % 10 = d10 Z p := rfl
 rw [e3] at e2
 -- Z = lo + 10^p * (10 * hi + d)
 obtain ⟨hi, hhi⟩ : ∃ hi, Z / 10 ^ p / 10 = hi := ⟨_, rfl⟩
 obtain ⟨lo, hlo⟩ : ∃ lo, Z % 10 ^ p = lo := ⟨_, rfl⟩
 have hlol : lo < 10 ^ p := by rw [← hlo]; exact Nat.mod_lt _ hp
 rw [hhi] at e2
 rw [hlo] at e1
 have hZ : Z = lo + 10 ^ p * (10 * hi + d10 Z p) := by rw [e2]; omega
 have hY : Y = lo + 10 ^ p * (10 * hi + t) := by
  have a1 : 10 ^ p * (10 * hi + d10 Z p) = 10 ^ p * (10 * hi) + d10 Z p * 10 ^ p := by rw [Nat.mul_add, Nat.mul_comm (10 ^ p) (d10 Z p)]
  have a2 : 10 ^ p * (10 * hi + t) = 10 ^ p * (10 * hi) + t * 10 ^ p := by rw [Nat.mul_add, Nat.mul_comm (10 ^ p) t]
  omega
 have gen : ∀ u, u < 10 -> ∀ k, d10 (lo + 10 ^ p * (10 * hi + u)) k = if k < p then d10 lo k else if k = p then u else hi / 10 ^ (k - p - 1) % 10 := by
  intro u hu k
  unfold d10
  rcases Nat.lt_trichotomy k p with h | h | h
  · rw [if_pos h]
    obtain ⟨m, rfl⟩ : ∃ m, p = k + (m + 1) := ⟨p - k - 1, by omega⟩
    rw [Nat.pow_add, Nat.mul_assoc, Nat.add_mul_div_left _ _ (Nat.pow_pos (by omega)), Nat.pow_succ, Nat.mul_comm (10 ^ m) 10, Nat.mul_assoc]
    omega
  · subst h
    rw [if_neg (by omega), if_pos rfl, Nat.add_mul_div_left _ _ hp, Nat.div_eq_of_lt hlol]
    omega
  · rw [if_neg (by omega), if_neg (by omega)]
    obtain ⟨m, rfl⟩ : ∃ m, k = p + (m + 1) := ⟨k - p - 1, by omega⟩
    rw [Nat.pow_add, ← Nat.div_div_eq_div_mul, Nat.add_mul_div_left _ _ hp, Nat.div_eq_of_lt hlol, Nat.zero_add, Nat.pow_succ, Nat.mul_comm (10 ^ m) 10, ← Nat.div_div_eq_div_mul]
    rw [show (10 * hi + u) / 10 = hi by omega, show p + (m + 1) - p - 1 = m by omega]
 intro k
 rw [hY, gen t ht k]
 by_cases h1 : k = p
 · subst h1; rw [if_neg (by omega), if_pos rfl, if_pos rfl]
 · rw [if_neg h1, if_neg h1]
   have := gen (d10 Z p) (d10_lt Z p) k
   rw [← hZ, if_neg h1] at this
   rw [this]
structure ArrI (w wr : World) (b L Z : Nat) : Prop where
 below : Below w.heap.size w wr
 ge : w.heap.size <= b
 lt : b < wr.heap.size
 free : Free wr b
 row : Cells wr .i64 b 0 L (d10 Z)
theorem ArrI.set {w wr : World} {b L Z Y p t : Nat} (h : ArrI w wr b L Z) (hp : p < L) (ht : t < 10) (he : Y + d10 Z p * 10 ^ p = Z + t * 10 ^ p) (n : Nat) : ArrI w ((wr.drewN n).setCell ⟨b, p, none⟩ (.int .i64 t)) b L Y := by
 have hs := h.row.set (k := p) (x := t) hp
 rw [Nat.zero_add] at hs
 refine ⟨(below_drewN h.below n).setCell h.ge _, h.ge, by simpa using h.lt, (h.free).set _ _, fun j hj => ?_⟩
 have := hs j hj
 rw [set_digit ht he j]
 exact this
theorem str_append (a b : List UInt8) : str a ++ str b = str (a ++ b) := by
 refine str_of ?_
 show (str a ++ str b).data.toList = _
 rw [ByteArray.data_append]
 simp [str]
theorem sdig_snoc (N : Nat) : ∀ n, sdig N (n + 1) = sdig (N / 10) n ++ [dgt N 0]
 | 0 => rfl
 | n + 1 => by
  rw [sdig, sdig_snoc N n, sdig]
  have e : dgt (N / 10) n = dgt N (n + 1) := by
   unfold dgt
   rw [Nat.div_div_eq_div_mul, Nat.pow_succ, Nat.mul_comm 10]
  rw [e]; rfl
theorem extract_one {s : ByteArray} {k : Nat} (hk : k < s.size) : s.extract k (k + 1) = str [s[k]] := by
 refine str_of ?_
 rw [Lib.extract_data]
 have h : k < s.data.toList.length := by simpa using hk
 rw [show k + 1 - k = 1 by omega]
 rw [List.drop_eq_getElem_cons h]
 rfl
theorem rest_digit (R x n k : Nat) (hk : k < n) (h : k < (str (sdig x n)).size) :
    str (dec R) ++ (str (sdig x n)).extract k (k + 1) = str (sdig (10 * R + d10 x (n - 1 - k)) (dl R + 1)) := by
 have hd := d10_lt x (n - 1 - k)
 have hc : (str (sdig x n))[k] = dgt (10 * R + d10 x (n - 1 - k)) 0 := by
  have h1 := sdig_get x n k hk
  have h3 : (sdig x n)[k]? = some ((str (sdig x n))[k]) := by
   rw [List.getElem?_eq_getElem (by rw [sdig_length]; omega)]; rfl
  rw [h3] at h1
  rw [Option.some.inj h1, ← UInt8.toNat_inj, dgt_toNat, dgt_toNat]
  show 48 + d10 x (n - 1 - k) = _
  rw [Nat.pow_zero, Nat.div_one]
  omega
 rw [extract_one h, str_append, sdig_snoc, hc]
 have e : (10 * R + d10 x (n - 1 - k)) / 10 = R := by omega
 rw [e]; rfl
theorem div_step (x y k n : Nat) (hy : 0 < y) (hk : k < n) (R : Nat) (hR : R = x / 10 ^ (n - k) % y) :
    (10 * R + d10 x (n - 1 - k)) / y = d10 (x / y) (n - 1 - k) /\ (10 * R + d10 x (n - 1 - k)) % y = x / 10 ^ (n - (k + 1)) % y := by
 obtain ⟨m, hm⟩ : ∃ m, n - 1 - k = m := ⟨_, rfl⟩
 have e1 : n - k = m + 1 := by omega
 have e2 : n - (k + 1) = m := by omega
 rw [hm, e2]
 rw [e1] at hR
 obtain ⟨A, hA⟩ : ∃ A, x / 10 ^ m = A := ⟨_, rfl⟩
 have hA2 : x / 10 ^ (m + 1) = A / 10 := by rw [Nat.pow_succ, ← Nat.div_div_eq_div_mul, hA]
 have hd : d10 x m = A % 10 := by unfold d10; rw [hA]
 have hq : d10 (x / y) m = A / y % 10 := by
  unfold d10
  rw [Nat.div_div_eq_div_mul, Nat.mul_comm, ← Nat.div_div_eq_div_mul, hA]
 rw [hA2] at hR
 rw [hA, hd, hq]
 obtain ⟨B, hB⟩ : ∃ B, A / 10 = B := ⟨_, rfl⟩
 rw [hB] at hR
 have hAB : A = 10 * B + A % 10 := by omega
 have hBm := Nat.div_add_mod B y
 rw [← hR] at hBm
 have hRl : R < y := by rw [hR]; exact Nat.mod_lt _ hy
 -- A = y * (10 * (B / y)) + (10 * R + A % 10)
 have hA3 : A = y * (10 * (B / y)) + (10 * R + A % 10) := by
  have : y * (10 * (B / y)) = 10 * (y * (B / y)) := by rw [← Nat.mul_assoc, Nat.mul_comm y 10, Nat.mul_assoc]
  omega
 have hT : 10 * R + A % 10 < 10 * y := by omega
 obtain ⟨T, hTT⟩ : ∃ T, 10 * R + A % 10 = T := ⟨_, rfl⟩
 rw [hTT] at hA3 hT ⊢
 have g1 : A / y = 10 * (B / y) + T / y := by rw [hA3, Nat.mul_add_div hy]
 have g2 : A % y = T % y := by rw [hA3, Nat.mul_add_mod]
 have g3 : T / y < 10 := by rw [Nat.div_lt_iff_lt_mul hy]; omega
 rw [g1, g2]
 generalize T / y = t at *
 generalize B / y = u at *
 exact ⟨by omega, rfl⟩
theorem rdivMod_any (x y : Nat) (w : World) (hx : dl x <= 900) (hy : dl y <= 900) (hy0 : 0 < y) :
    Calls Tryz.prog 150 #[.string (str (dec x)), .string (str (dec y))] w fun e w' => e = .returned (.tuple #[.string (str (dec (x / y))), .string (str (dec (x % y)))]) /\ Below w.heap.size w w' := by
 obtain ⟨i0, hi, hz0, hz1, hz2⟩ := info_parts infoB
 obtain ⟨n, hn⟩ : ∃ n, dl x = n := ⟨_, rfl⟩
 have hn0 : 0 < n := by rw [← hn]; exact dl_pos x
 have hxn : x < 10 ^ n := by rw [← hn]; exact dl_lt x
 have ha : str (dec x) = str (sdig x n) := by unfold dec; rw [hn]
 have hsz : (str (sdig x n)).size = n := by rw [str_size, sdig_length]
 rw [ha]
 have HRD : Hid (∀ R k (h : k < (str (sdig x n)).size), str (dec R) ++ (str (sdig x n)).extract k (k + 1) = str (sdig (10 * R + d10 x (n - 1 - k)) (dl R + 1))) := fun R k h => rest_digit R x n k (by omega) h
 obtain ⟨a, hae⟩ : ∃ a, str (sdig x n) = a := ⟨_, rfl⟩
 rw [hae] at hsz HRD ⊢
 have hb : ∀ R, dl R <= 1000 -> ∀ wz, Calls Tryz.prog 179 #[.string (str (dec R)), .string (str (dec y))] wz fun e w' => e = .returned (.int .i64 (cmpI R y)) /\ wz = w' := fun R hR wz => rcmp_any R y wz (by omega) (by omega)
 have hs : ∀ R, y <= R -> dl R <= 1000 -> ∀ wz, Calls Tryz.prog 180 #[.string (str (dec R)), .string (str (dec y))] wz fun e w' => e = .returned (.string (str (dec (R - y)))) /\ Below wz.heap.size wz w' := fun R hR hl wz => rsub_any R (dl R) y (dl y) wz (dl_lt _) (dl_lt _) hl (by omega) hR
 obtain ⟨b, hbe⟩ : ∃ b, str (dec y) = b := ⟨_, rfl⟩
 rw [hbe] at hb hs ⊢
 have CM := Lib.hid hb
 have SB := Lib.hid hs
 have HX := Lib.hid hxn
 have HI := Lib.hid hi
 have HY := Lib.hid hy0
 have hnl : n <= 900 := by omega
 have HYL := Lib.hid hy
 obtain ⟨z, hz, hmk⟩ := make_bytes a.size (by omega)
 have H0 : Hid (WrI w (w.alloc (.cells z 5)) w.heap.size (x / y) n (.slice (some ⟨w.heap.size, 0, none⟩) 0 a.size) 0) :=
  ⟨(Below.refl _ _).alloc (Nat.le_refl _) _, World.ownsRow_made w z a.size (Nat.le_refl _) (by unfold maxLen; omega) (by omega)⟩
 have HSZ := Lib.hid hsz
 have hal : a.size <= 900 := by omega
 have HR0 : Hid (0 = x / 10 ^ (n - 0) % y) := by show _ = _; rw [Nat.sub_zero, Nat.div_eq_of_lt hxn, Nat.zero_mod]
 have hd0 : (⟨#[48]⟩ : ByteArray) = str (dec 0) := by rw [dec_zero]; rfl
 have HD0 := Lib.hid hd0
 clear hb hs hxn hi hy0 hz hsz ha hae hbe hn hx hy hd0
 go_enter Tryz.func150, Tryz.ntmps150
 go_wp2
 go_loopw [6, 7, 8] (fun D rs i wr => ∃ (k R : Nat) (V : Value) (r : ByteArray), k <= a.size /\ i = .int .i64 k /\ rs = .string r /\ Hid (r = str (dec R)) /\ Hid (R = x / 10 ^ (n - k) % y) /\ V = D /\ WrI w wr w.heap.size (x / y) n V k)
  (fun _ _ i _ => a.size - (intOf i).toNat)
 case atStart => exact ⟨0, 0, _, _, by omega, rfl, rfl, HD0.out, HR0.out, rfl, H0.out⟩
 case round =>
  obtain ⟨k, R, V, r, hk, rfl, rfl, hr, hR, rfl, hw⟩ := hrel
  by_cases hlt : k < a.size
  · have hkn : k < n := by have := HSZ.out; omega
    have hRD := HRD.out R k hlt
    rw [← hr.out] at hRD
    obtain ⟨T, hT⟩ : ∃ T, 10 * R + d10 x (n - 1 - k) = T := ⟨_, rfl⟩
    obtain ⟨g1, g2⟩ := div_step x y k n HY.out hkn R hR.out
    rw [hT] at g1 g2 hRD
    have hRl : R < y := by rw [hR.out]; exact Nat.mod_lt _ HY.out
    have hdR : dl R <= 900 := by
     have h1 := HYL.out
     refine Nat.le_trans (dl_le R (dl y) (dl_pos y) (Nat.lt_trans hRl (dl_lt y))) h1
    have hTl : T < 10 ^ (dl R + 1) := by
     have h1 := dl_lt R
     have h2 := d10_lt x (n - 1 - k)
     rw [Nat.pow_succ]; omega
    have hT10 : T < 10 * y := by have h2 := d10_lt x (n - 1 - k); omega
    have hdT : dl T <= 1000 := by have := dl_le T (dl R + 1) (by omega) hTl; omega
    have TR : Hid (∀ wz, Calls Tryz.prog 115 #[.string (r ++ a.extract k (k + 1))] wz fun e w' => e = .returned (.string (str (dec T))) /\ wz = w') := by
     intro wz
     rw [hRD]
     exact trim_any T (dl R + 1) wz (by omega) hTl (by omega)
    have HT0 : Hid (str (dec T) = str (dec (T - 0 * y)) /\ 0 * y <= T) := ⟨by simp, by simp⟩
    obtain ⟨t, ht⟩ : ∃ t, str (dec T) = t := ⟨_, rfl⟩
    rw [ht] at TR HT0
    have G1 := Lib.hid g1
    have G2 := Lib.hid g2
    have HW := Lib.hid hw
    have HDT := Lib.hid hdT
    have HT10 := Lib.hid hT10
    have hrsz : r.size <= 900 := by rw [hr.out, str_size]; unfold dec; rw [sdig_length]; exact hdR
    clear hRD g1 g2 hRl hdR hTl hT10 hdT ht hw hr hR hT
    go_wp2_with (go_at_call 115; (with_reducible refine (TR.out _).mono ?_); rintro e w1 ⟨rfl, rfl⟩)
    go_loopw [7, 9] (fun rs c wi => ∃ (cc : Nat) (r2 : ByteArray), cc <= 9 /\ c = .int .i64 cc /\ rs = .string r2 /\ Hid (r2 = str (dec (T - cc * y)) /\ cc * y <= T) /\ WrI w wi w.heap.size (x / y) n V k)
     (fun _ c _ => 10 - (intOf c).toNat)
    case atStart => exact ⟨0, _, by omega, rfl, rfl, HT0.out, HW.out⟩
    case round =>
     obtain ⟨cc, r2, hcc, rfl, rfl, hr2, hwi⟩ := hrel
     have hdS : dl (T - cc * y) <= 1000 := Nat.le_trans (dl_le _ (dl T) (dl_pos T) (Nat.lt_of_le_of_lt (Nat.sub_le _ _) (dl_lt T))) HDT.out
     have CMS := CM.out (T - cc * y) hdS
     rw [← hr2.out.1] at CMS
     by_cases hge : y <= T - cc * y
     · obtain ⟨q, hq⟩ := cmp_pos hge
       rw [hq] at CMS
       have SBS := SB.out (T - cc * y) hge hdS
       rw [← hr2.out.1] at SBS
       have hmul : (cc + 1) * y = cc * y + y := by rw [Nat.add_mul, Nat.one_mul]
       have hnx : (T - cc * y - y = T - (cc + 1) * y) /\ (cc + 1) * y <= T := ⟨by rw [hmul]; omega, by rw [hmul]; have := HY.out; omega⟩
       have hc9 : cc + 1 <= 9 := by
        rcases Nat.lt_or_ge cc 9 with h | h
        · omega
        · have h1 := Nat.mul_le_mul_right y (show 10 <= cc + 1 by omega)
          rw [hmul] at h1
          have := HT10.out; omega
       have HNX : Hid (str (dec (T - cc * y - y)) = str (dec (T - (cc + 1) * y)) /\ (cc + 1) * y <= T) := ⟨by rw [hnx.1], hnx.2⟩
       obtain ⟨t2, ht2⟩ : ∃ t2, str (dec (T - cc * y - y)) = t2 := ⟨_, rfl⟩
       rw [ht2] at HNX SBS
       have C1 := Lib.hid CMS
       have S1 := Lib.hid SBS
       have HWI := Lib.hid hwi
       have d1 : decide ((cc : Int) < 10) = true := decide_eq_true (by omega)
       clear CMS SBS hmul hnx hge hq hdS hr2 hwi ht2
       go_wp2_with fail
       go_at_call 179
       (with_reducible refine (C1.out _).mono ?_)
       rintro e w2 ⟨rfl, rfl⟩
       go_wp2_with fail
       go_at_call 180
       (with_reducible refine (S1.out _).mono ?_)
       rintro e w3 ⟨rfl, hb3⟩
       have HW3 : Hid (WrI w w3 w.heap.size (x / y) n V k) := ⟨HWI.out.below.trans (hb3.mono HWI.out.below.size), HWI.out.own.below hb3⟩
       clear hb3
       go_wp2
       go_roundw
       case rel => exact ⟨cc + 1, t2, hc9, by go_num, rfl, HNX.out, HW3.out⟩
       case measure => simp [intOf]; omega
     · rw [cmp_neg (show T - cc * y < y by omega)] at CMS
       have C1 := Lib.hid CMS
       have hy0 := HY.out
       have hqT : T / y = cc := by
        have h1 : T = cc * y + (T - cc * y) := by have := hr2.out.2; omega
        rw [h1, Nat.add_comm, Nat.add_mul_div_right _ _ hy0, Nat.div_eq_of_lt (by omega)]; omega
       have hrT : T % y = T - cc * y := by
        have h1 : T = cc * y + (T - cc * y) := by have := hr2.out.2; omega
        have h2 : (cc * y + (T - cc * y)) % y = T - cc * y := by rw [Nat.add_comm, Nat.add_mul_mod_self_right, Nat.mod_eq_of_lt (by omega)]
        rw [← h1] at h2; exact h2
       obtain ⟨yy, hyy⟩ : ∃ yy, 48 + cc = yy := ⟨_, rfl⟩
       have e2 : (48 : Int) + (cc : Int) = (yy : Int) := by omega
       have e3 : (yy : Int) % 256 = (yy : Int) := by omega
       have HYD : Hid (yy = dg (x / y) (n - 1 - k)) := by show _ = _; rw [dg_d10, ← G1.out, hqT, hyy]
       have HRN : Hid (r2 = str (dec (T - cc * y)) /\ T - cc * y = x / 10 ^ (n - (k + 1)) % y) := ⟨hr2.out.1, by rw [← hrT]; exact G2.out⟩
       have HWI := Lib.hid hwi
       have hzr : w.heap.size <= wr.heap.size := hwi.below.size
       have hkn1 : k + 1 <= a.size := hlt
       have hccl : cc <= 9 := hcc
       clear CMS hge hdS hr2 hwi hqT hrT hyy hy0
       go_wp2_with fail
       go_at_call 179
       (with_reducible refine (C1.out _).mono ?_)
       rintro e w2 ⟨rfl, rfl⟩
       go_wp2_with (at_builtin; refine wpList_append_own _ rfl _ _ 145 rfl w.heap.size 5 i0 (.int .u8 0) 1 1 Tryz.underlying145 HI.out hz0 hz1 hz2 rfl (by decide) _ _ _ rfl (World.ownsRow.alloc HWI.out.own _) ⟨wr.heap.size, 0, none⟩ 1 1 [.int .u8 yy] rfl rfl (cell_one_at _ _ _) (one_cell_list _ _) (by unfold maxLen; omega) (by omega) (by rw [World.size_alloc]; omega) ?_; intro v' w5 hown' hgrow _)
       have hb5 : Below w.heap.size w w5 := (HWI.out.below.alloc hzr _).grown hgrow (by rw [World.size_alloc]; omega) (fun q hq => (World.ownsRow.lt HWI.out.own q hq).1)
       have hown2 : OwnL w5 w.heap.size 5 .u8 v' (k + 1) (fun j => dg (x / y) (n - 1 - j)) := by
        rw [cl_snoc, cl_congr (g := fun j => dg (x / y) (n - 1 - j)) (fun j hj => by
         by_cases e : j = k
         · rw [if_pos e, HYD.out, e]
         · rw [if_neg e])] at hown'
        exact hown'
       have HG5 := Lib.hid (show WrI w w5 w.heap.size (x / y) n v' (k + 1) from ⟨hb5, hown2⟩)
       clear hown' hgrow hb5 hown2
       go_wp2
       go_roundw
       case rel => exact ⟨k + 1, T - cc * y, v', r2, hkn1, by go_num, rfl, HRN.out.1, HRN.out.2, rfl, HG5.out⟩
       case measure => simp [intOf]; omega
  · obtain rfl : k = a.size := by omega
    have hsz' := HSZ.out
    have hRx : R = x % y := by rw [hR.out, hsz', Nat.sub_self, Nat.pow_zero, Nat.div_one]
    have hdx := Nat.div_le_self x y
    rcases hw.own.cases with ⟨hV, hk0⟩ | ⟨g, c2, rfl, hc2, hgb, hgl, hgc, hgf⟩
    · exfalso; omega
    · have hcv := run_convert_bytes_arg (P := Tryz.prog) (w := wr) 145 5 Tryz.underlying145 Tryz.underlying5 g 0 a.size c2 ((List.range a.size).map fun j => ((dg (x / y) (n - 1 - j) : Nat) : Int)) (by simp) (fun j hj => by rw [hgc j hj]; simp [hj]) 9 Tryz.underlying9
      have hst : strOfNums ((List.range a.size).map fun j => ((dg (x / y) (n - 1 - j) : Nat) : Int)) = str (sdig (x / y) n) := by
       rw [hsz']
       refine str_of ?_
       rw [strOfNums_data]
       apply List.ext_getElem?
       intro j
       by_cases hj : j < n
       · rw [sdig_get (x / y) n j hj, List.getElem?_map, List.getElem?_map, List.getElem?_range hj]
         simp only [Option.map_some]
         rw [Int.toNat_natCast]; rfl
       · rw [List.getElem?_eq_none (by simp; omega), List.getElem?_eq_none (by rw [sdig_length]; omega)]
      rw [hst] at hcv
      have HT := Lib.hid (trim_any (x / y) n wr (by omega) (Nat.lt_of_le_of_lt hdx HX.out) (by omega))
      have HB := Lib.hid hw.below
      have HRR : Hid (r = str (dec (x % y))) := by show _ = _; rw [hr.out, hRx]
      clear hw hgc hgf hst hr hR hRx hsz'
      go_wp2_with fail
      go_at_call 115
      refine HT.out.mono ?_
      rintro e w7 ⟨rfl, rfl⟩
      clear hcv
      go_wp2
      go_ret2
      exact ⟨by rw [HRR.out]; rfl, HB.out⟩
end Go.Proofs.YtnpoakaffafdiaaGreatDoor
namespace Go.Proofs.YtnpoakaffafdiaaGreatDoor
open Go.RowKit
attribute [local go_sem ↓] Go.wp_at_zero Go.wp_at_succ
def rB (Z : Int) : Bool := decide (Z < 0)
def rS (Z : Int) : ByteArray := str (dec Z.natAbs)
def RTold (w w' : World) (e : Ending) (Z : Int) : Prop := e = .returned (.agg #[.bool (rB Z), .string (rS Z)]) /\ Below w.heap.size w w'
def put2 (y : World) (k : Nat) (x z : Value) : World := (y.setCell ⟨k, 0, none⟩ x).setCell ⟨k, 1, none⟩ z
theorem RTold.fin {w w2 : World} {k : Nat} {Y : Int} {b : Bool} {t : ByteArray} (hb : Below w.heap.size w w2) (hk : w.heap.size <= k) (h1 : rB Y = b) (h2 : rS Y = t) : RTold w (put2 w2 k (.bool b) (.string t)) (.returned (.agg #[.bool b, .string t])) Y :=
 ⟨by rw [h1, h2], (hb.setCell hk _).setCell hk _⟩
theorem rFrom_any (X : Int) (w : World) (h : -9223372036854775808 <= X /\ X <= 9223372036854775807) :
    Calls Tryz.prog 120 #[.int .i64 X] w fun e w' => RTold w w' e X := by
 have BB := Lib.hid ((Bag.start w).box2 (.bool false) (.string ⟨#[]⟩) 116)
 by_cases h0 : X < 0
 · obtain ⟨y, hy⟩ : ∃ y : Nat, (y : Int) = -X := ⟨(-X).toNat, by omega⟩
   obtain ⟨y1, hy1⟩ : ∃ y1 : Nat, (y1 : Int) = -X - 1 := ⟨(-X - 1).toNat, by omega⟩
   obtain ⟨X1, hX1⟩ : ∃ X1, X + 1 = X1 := ⟨_, rfl⟩
   have e2 : 0 - X1 = (y1 : Int) := by omega
   have e3 : (y1 : Int) + 1 = (y : Int) := by omega
   have d0 : decide (X < 0) = true := decide_eq_true h0
   have HB : Hid (rB X = true /\ rS X = str (dec y)) := ⟨by unfold rB; exact d0, by unfold rS; rw [show X.natAbs = y by omega]⟩
   have HO := Lib.hid (fun wz => rof_any y wz (by omega))
   obtain ⟨t, ht⟩ : ∃ t, str (dec y) = t := ⟨_, rfl⟩
   rw [ht] at HO HB
   have hb1 : -9223372036854775807 <= X1 /\ X1 <= 0 := by omega
   have hb3 : (y1 : Int) <= 9223372036854775807 := by omega
   have h' := h.1
   clear hy hy1 ht h
   go_enter Tryz.func120, Tryz.ntmps120
   go_wp2_with fail
   go_at_call 159
   refine (HO.out _).mono ?_
   rintro e w2 ⟨rfl, hb2⟩
   have B2 := BB.out.go hb2
   have hs2 := B2.now.1
   have hc1 := hs2.cell
   have hc2 := hs2.cell1
   have hf1 := hs2.free
   have hf2 := hs2.free1
   have HS := hs2.set (.bool true) (.string t)
   have HE := Lib.hid (RTold.fin B2.below (Nat.le_refl _) HB.out.1 HB.out.2)
   unfold put2 at HE
   clear hb2 B2 hs2
   go_wp2
   exact bodyPost_ret (v := .agg #[.bool true, .string t]) (by simp [results, Tryz.results120, go_sem, HS]) rfl HE.out
 · obtain ⟨y, rfl⟩ : ∃ y : Nat, X = (y : Int) := ⟨X.toNat, by omega⟩
   have d0 : decide ((y : Int) < 0) = false := decide_eq_false h0
   have HB : Hid (rB (y : Int) = false /\ rS (y : Int) = str (dec y)) := ⟨by unfold rB; exact d0, by unfold rS; simp⟩
   have HO := Lib.hid (fun wz => rof_any y wz (by omega))
   obtain ⟨t, ht⟩ : ∃ t, str (dec y) = t := ⟨_, rfl⟩
   rw [ht] at HO HB
   have h' := h.2
   clear ht h
   go_enter Tryz.func120, Tryz.ntmps120
   go_wp2_with fail
   go_at_call 159
   refine (HO.out _).mono ?_
   rintro e w2 ⟨rfl, hb2⟩
   have B2 := BB.out.go hb2
   have hs2 := B2.now.1
   have hc1 := hs2.cell
   have hc2 := hs2.cell1
   have hf1 := hs2.free
   have hf2 := hs2.free1
   have HS := hs2.set (.bool false) (.string t)
   have HE := Lib.hid (RTold.fin B2.below (Nat.le_refl _) HB.out.1 HB.out.2)
   unfold put2 at HE
   clear hb2 B2 hs2
   go_wp2
   exact bodyPost_ret (v := .agg #[.bool false, .string t]) (by simp [results, Tryz.results120, go_sem, HS]) rfl HE.out
def RX (y : World) (k : Nat) : Prop := ∃ x z, Slot2 y k x z
theorem RX.below {w w' : World} {k : Nat} (h : RX w k) (hb : Below w.heap.size w w') : RX w' k := by
 obtain ⟨x, z, h1⟩ := h; exact ⟨x, z, h1.below hb⟩
theorem Slot2.put2s {w : World} {k : Nat} {x z : Value} (h : Slot2 w k x z) (u v : Value) : Slot2 (put2 w k u v) k u v :=
 ⟨(h.set u v).1, (h.set u v).2, by simp [put2, h.free], by simp [put2, h.free1], by simpa [put2] using h.lt⟩
theorem Slot2.put2o {w : World} {k j : Nat} {x z : Value} (h1 : Slot2 w j x z) (e : j ≠ k) (u v : Value) : Slot2 (put2 w k u v) j x z := by
 refine ⟨?_, ?_, by simp [put2, h1.free], by simp [put2, h1.free1], by simpa [put2] using h1.lt⟩
 · unfold put2; rw [World.cell?_setCell_other _ _ _ _ (fun e' => by cases e' <;> exact e rfl), World.cell?_setCell_other _ _ _ _ (fun e' => by cases e' <;> exact e rfl)]; exact h1.cell
 · unfold put2; rw [World.cell?_setCell_other _ _ _ _ (fun e' => by cases e' <;> exact e rfl), World.cell?_setCell_other _ _ _ _ (fun e' => by cases e' <;> exact e rfl)]; exact h1.cell1
theorem RX.put2 {w : World} {k j : Nat} (h : RX w j) (u v : Value) : RX (put2 w k u v) j := by
 obtain ⟨x, z, h1⟩ := h
 by_cases e : j = k
 · subst e; exact ⟨_, _, h1.put2s u v⟩
 · exact ⟨_, _, h1.put2o e u v⟩
theorem Bag.put2 {w0 w : World} {P : World -> Prop} (h : Bag w0 P w) {k : Nat} (hk : w0.heap.size <= k) {u v : Value} (hp : P w -> P (put2 w k u v)) : Bag w0 P (put2 w k u v) :=
 ⟨(h.below.setCell hk _).setCell hk _, h.stay, hp h.now⟩
def BP (k : Nat) (b : Bool) (s : ByteArray) (b2 : Bool) (s2 : ByteArray) (y : World) : Prop := RX y (k + 1 + 1) /\ Slot2 y (k + 1) (.bool b2) (.string s2) /\ Slot2 y k (.bool b) (.string s)
theorem BP.stay {k : Nat} {b : Bool} {s : ByteArray} {b2 : Bool} {s2 : ByteArray} : ∀ x y, Below x.heap.size x y -> BP k b s b2 s2 x -> BP k b s b2 s2 y := fun _ _ hb h => ⟨h.1.below hb, h.2.1.below hb, h.2.2.below hb⟩
theorem BP.put2 {k : Nat} {b : Bool} {s : ByteArray} {b2 : Bool} {s2 : ByteArray} {y : World} (h : BP k b s b2 s2 y) (u v : Value) : BP k b s b2 s2 (put2 y (k + 1 + 1) u v) := ⟨h.1.put2 u v, h.2.1.put2o (by omega) u v, h.2.2.put2o (by omega) u v⟩
theorem BP.start (w : World) (b : Bool) (s : ByteArray) (b2 : Bool) (s2 : ByteArray) : Bag w (BP w.heap.size b s b2 s2) (((w.alloc (.cells #[.bool b, .string s] 116)).alloc (.cells #[.bool b2, .string s2] 116)).alloc (.cells #[.bool false, .string ⟨#[]⟩] 116)) := by
 have B0 := (((Bag.start w).box2 (.bool b) (.string s) 116).box2 (.bool b2) (.string s2) 116).box2 (.bool false) (.string ⟨#[]⟩) 116
 simp only [World.size_alloc] at B0
 exact ⟨B0.below, BP.stay, ⟨_, _, B0.now.1⟩, B0.now.2.1, B0.now.2.2.1⟩
theorem Slot.set1 {w : World} {k : Nat} {x : Value} (h : Slot w k x) (u : Value) : Slot (w.setCell ⟨k, 0, none⟩ u) k u :=
 ⟨World.cell?_setCell_same _ _ _ h.cell, by simp [h.free], by simpa using h.lt⟩
theorem Slot.other {w : World} {k j : Nat} {x : Value} (h : Slot w j x) (u : Value) (hj : j ≠ k) : Slot (w.setCell ⟨k, 0, none⟩ u) j x :=
 ⟨by rw [World.cell?_setCell_other _ _ _ _ (fun e' => by cases e' <;> exact hj rfl)]; exact h.cell, by simp [h.free], by simpa using h.lt⟩
theorem Slot2.other {w : World} {k j : Nat} {x z : Value} (h : Slot2 w j x z) (u : Value) (hj : j ≠ k) : Slot2 (w.setCell ⟨k, 0, none⟩ u) j x z :=
 ⟨by rw [World.cell?_setCell_other _ _ _ _ (fun e' => by cases e' <;> exact hj rfl)]; exact h.cell, by rw [World.cell?_setCell_other _ _ _ _ (fun e' => by cases e' <;> exact hj rfl)]; exact h.cell1, by simp [h.free], by simp [h.free1], by simpa using h.lt⟩
theorem RS.other {w : World} {k j : Nat} (h : RS w j) (u : Value) (hj : j ≠ k) : RS (w.setCell ⟨k, 0, none⟩ u) j := by
 obtain ⟨x, b, h1, h2⟩ := h; exact ⟨x, b, h1.other u hj, h2⟩
theorem FP.set1 {k j : Nat} {a : Option Addr} {n c : Nat} {m : Bool} {Z : Int} {a2 : Option Addr} {n2 c2 : Nat} {m2 : Bool} {Y : Int} {y : World} (h : FP k a n c m Z a2 n2 c2 m2 Y y) {a3 : Option Addr} {n3 c3 : Nat} (hj : y.cell? ⟨j, 0, none⟩ = some (.slice a3 n3 c3)) (hk : k + 3 < j) (u : Value) : FP k a n c m Z a2 n2 c2 m2 Y (y.setCell ⟨j, 0, none⟩ u) :=
 ⟨h.1.other u (by omega), h.2.1.other u (by omega), h.2.2.1.other u (by omega), h.2.2.2.1.other u (by omega), ⟨h.2.2.2.2.1.1, h.2.2.2.2.1.2.storeAt hj (fun _ _ h => by cases h) u⟩, ⟨h.2.2.2.2.2.1, h.2.2.2.2.2.2.storeAt hj (fun _ _ h => by cases h) u⟩⟩
end Go.Proofs.YtnpoakaffafdiaaGreatDoor
