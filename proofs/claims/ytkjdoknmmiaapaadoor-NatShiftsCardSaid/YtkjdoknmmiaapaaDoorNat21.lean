/-
  Package nat: Text, by contract: a number's digits.
-/
import Derived.Test.YtkjdoknmmiaapaaDoorNat20
namespace Go.Proofs.YtkjdoknmmiaapaaDoor
open Go.RowKit

theorem infoB : (Tryd.prog.info? 5).map (fun i => (i.zero, i.size, i.bytes)) = some (some (.int .u8 0), 1, 1) := by kernel_rfl

def dg (N j : Nat) : Nat := 48 + N / 10 ^ j % 10
def lenOf : Value → Nat
  | .slice _ n _ => n
  | _ => 0
theorem OwnL.len {w : World} {base : Nat} {e : TypeId} {ki : IntKind} {v : Value} {n : Nat} {f : Nat → Nat} (h : OwnL w base e ki v n f) : lenOf v = n := by
  rcases h.cases with ⟨rfl, rfl⟩ | ⟨g, c, rfl, _⟩ <;> rfl
theorem OwnL.below {w w' : World} {base : Nat} {e : TypeId} {ki : IntKind} {v : Value} {n : Nat} {f : Nat → Nat} (h : OwnL w base e ki v n f) (hb : Below w.heap.size w w') : OwnL w' base e ki v n f :=
  World.ownsRow.kept h (row := none) ⟨hb.os, hb.tape, hb.output, hb.size, fun k hk _ => hb.block k hk⟩ (by
    rcases h.cases with ⟨rfl, _⟩ | ⟨g, c, rfl, _⟩
    · exact .inl rfl
    · exact .inr (by simp [Value.ownBlock]))
theorem OwnL.wrote {w w' : World} {base : Nat} {e : TypeId} {ki : IntKind} {v : Value} {n b lo hi : Nat} {f : Nat → Nat} (h : OwnL w base e ki v n f) (hb : Wrote b lo hi w w') (hlt : b < base) : OwnL w' base e ki v n f :=
  World.ownsRow.kept h (row := some b) ⟨hb.os, hb.tape, hb.output, hb.size, fun k hk hne => hb.block k hk (fun e => hne (by rw [e]))⟩ (by
    rcases h.cases with ⟨rfl, _⟩ | ⟨g, c, rfl, _, hg, _⟩
    · exact .inl rfl
    · refine .inr ?_
      intro e
      simp only [Value.ownBlock, Option.some.injEq] at e
      omega)

theorem dig_group (X i : Nat) (h : i < 9) : X % 1000000000 / 10 ^ i % 10 = X / 10 ^ i % 10 := by
  have e : (1000000000 : Nat) = 10 ^ i * 10 ^ (9 - i) := by rw [← Nat.pow_add, show i + (9 - i) = 9 by omega]
  rw [e, Nat.mod_mul_right_div_self]
  exact Nat.mod_mod_of_dvd _ ⟨10 ^ (8 - i), by rw [← Nat.pow_succ']; congr 1; omega⟩

theorem pow9_bound {K L N : Nat} (h : 0 < N / 10 ^ (9 * K)) (hN : N < 4294967296 ^ L) : 9 * K < 32 * L + 1 := by
  have h1 : 10 ^ (9 * K) ≤ N := by
    rcases Nat.lt_or_ge N (10 ^ (9 * K)) with h2 | h2
    · rw [Nat.div_eq_of_lt h2] at h; omega
    · exact h2
  have h2 : (2 : Nat) ^ (9 * K) ≤ 10 ^ (9 * K) := Nat.pow_le_pow_left (by omega) _
  have h3 : (4294967296 : Nat) ^ L = 2 ^ (32 * L) := by rw [Nat.pow_mul]
  have h4 : (2 : Nat) ^ (9 * K) < 2 ^ (32 * L) := by omega
  have := (Nat.pow_lt_pow_iff_right (show 1 < 2 by omega)).1 h4
  omega

/-- At the head of a round of Text. -/
structure TextI (w wr : World) (base b N L : Nat) (D : Value) (ra : Option Addr) (n c K : Nat) : Prop where
  below : Below w.heap.size w wr
  size : base ≤ wr.heap.size
  own : OwnL wr base 5 .u8 D (9 * K) (dg N)
  bge : w.heap.size ≤ b
  blt : b < base
  free : Free wr b
  rest : ∃ f, SlAt wr .u32 4294967296 ra n c f ∧ val f n = N / 10 ^ (9 * K) ∧ (n = 0 ∨ f (n - 1) ≠ 0)
  plc : ra = none ∨ ra = some ⟨b, 0, none⟩
  kb : 9 * K ≤ 32 * L + 10

/-- Within a round: the digits of a group so far. -/
structure GroupI (wo wr : World) (base N K G : Nat) (D : Value) (i : Nat) : Prop where
  below : Below base wo wr
  own : OwnL wr base 5 .u8 D (9 * K + i) (dg N)

set_option maxHeartbeats 3200000 in
set_option maxRecDepth 100000 in
theorem text_core (a : Option Addr) (n0 c0 : Nat) (f : Nat → Nat) (w : World) (hs : SlAt w .u32 4294967296 a n0 c0 f) (ht : n0 = 0 ∨ f (n0 - 1) ≠ 0) (hpos : 0 < val f n0) (hlen : n0 ≤ 100000) :
    Calls Tryd.prog 21 #[.agg #[.slice a n0 c0]] w fun e w' => e = .returned (.string (str (dec (val f n0)))) ∧ Below w.heap.size w w' := by
  obtain ⟨i0, hi, hz0, hz1, hz2⟩ := info_parts infoB
  have hZ := zero_any (.agg #[.slice a n0 c0]) (val f n0) (w.alloc (.cells #[.slice a n0 c0] 25)) ⟨a, n0, c0, f, rfl, hs.below ((Below.refl _ _).alloc (Nat.le_refl _) _), rfl, ht⟩
  rw [show decide (val f n0 = 0) = false from decide_eq_false (by omega)] at hZ
  have s0 := Slot.new w (.slice a n0 c0) 25
  have hNB := val_lt f n0 hs.2.2.1
  obtain ⟨N, hN⟩ : ∃ N, val f n0 = N := ⟨_, rfl⟩
  rw [hN] at hpos hNB ⊢
  have HZ := Lib.hid hZ
  have S0 := Lib.hid s0
  have HS := Lib.hid hs
  have HN := Lib.hid hN
  have HT := Lib.hid ht
  have HNB := Lib.hid hNB
  have HI := Lib.hid hi
  clear hZ s0 hs hN ht hNB hi
  go_enter Tryd.func21, Tryd.ntmps21
  go_wp2_with fail
  go_at_call 22
  refine HZ.out.mono ?_
  rintro e w1 ⟨rfl, hb1⟩
  have S1 := Lib.hid (S0.out.below hb1)
  have HB1 := Lib.hid (below_alloc hb1)
  have hc1 := S1.out.cell
  clear hb1
  go_wp2_with fail
  go_at_call 73
  refine (copied_own a n0 c0 f n0 w1 (HS.out.below HB1.out) (Nat.le_refl _) (by omega)).mono ?_
  rintro e w2 ⟨b, rfl, ho, hb2⟩
  have H0 : TextI w w2 w2.heap.size b N n0 (.slice none 0 0) (some ⟨b, 0, none⟩) n0 n0 0 := by
    obtain ⟨q, hq1, hq2, hq3⟩ := ho.row
    refine ⟨HB1.out.trans (hb2.mono HB1.out.size), Nat.le_refl _, World.ownsRow_nil _ _ _ _, Nat.le_trans HB1.out.size ho.ge, ho.lt, ho.free, ⟨q, ⟨Nat.le_refl _, by omega, hq2, .inr ⟨b, 0, rfl, ho.lt, hq1⟩⟩, ?_, ?_⟩, .inr rfl, by omega⟩
    · rw [hq3, HN.out]; simp
    · rcases Nat.eq_zero_or_pos n0 with h | h
      · exact .inl h
      · refine .inr (fun h0 => ?_)
        have h1 := val_top f n0 h (HT.out.resolve_left (by omega))
        obtain ⟨m, rfl⟩ : ∃ m, n0 = m + 1 := ⟨n0 - 1, by omega⟩
        rw [Nat.add_sub_cancel] at h0 h1
        have h2 := val_lt q m (fun j hj => hq2 j (by omega))
        rw [val, h0] at hq3
        omega
  obtain ⟨base, hbase⟩ : ∃ base, w2.heap.size = base := ⟨_, rfl⟩
  rw [hbase] at H0
  have H0' := Lib.hid H0
  clear hb2 ho hc1 H0 hbase
  go_wp2_with fail
  go_loopw [3, 4] (fun D R wr => ∃ (ra : Option Addr) (n c K : Nat) (V : Value), R = .slice ra n c ∧ V = D ∧ TextI w wr base b N n0 V ra n c K)
    (fun D _ _ => 32 * n0 + 20 - lenOf D)
  case atStart => exact ⟨_, _, _, 0, _, rfl, rfl, H0'.out⟩
  case round =>
    obtain ⟨ra, n, c, K, V, rfl, rfl, hr⟩ := hrel
    obtain ⟨wo, rfl⟩ : ∃ wo : World, wo = wr := ⟨_, rfl⟩
    by_cases hn : 0 < n
    · obtain ⟨q, hq1, hq2, hq3⟩ := hr.rest
      obtain ⟨b', off', hra, _, hqc⟩ := hq1.at hn
      have hra2 : ra = some ⟨b, 0, none⟩ := by
        rcases hr.plc with h | h
        · rw [h] at hra; cases hra
        · exact h
      rw [hra2] at hra
      simp only [Option.some.injEq, Addr.mk.injEq, and_true] at hra
      obtain ⟨rfl, rfl⟩ := hra
      subst hra2
      have hnl : n ≤ 1000000 := hq1.2.1
      have hMpos : 0 < N / 10 ^ (9 * K) := by
        rw [← hq2]
        have := val_top q n hn (hq3.resolve_left (by omega))
        have := pow_pos32 (n - 1)
        omega
      have hpb := pow9_bound hMpos HNB.out
      obtain ⟨M, hM⟩ : ∃ M, N / 10 ^ (9 * K) = M := ⟨_, rfl⟩
      rw [hM] at hq2
      have hown : Own w wo b n M := ⟨hr.bge, Nat.lt_of_lt_of_le hr.blt hr.size, hr.free, q, hqc, hq1.2.2.1, hq2⟩
      have HDV := Lib.hid (divideBy_own w b n c M 1000000000 wo hown hnl (by omega) (by omega))
      have HR := Lib.hid hr
      have HM := Lib.hid hM
      clear hq1 hq2 hq3 hqc hM hown hr hMpos
      go_wp2_with fail
      go_at_call 74
      refine HDV.out.mono ?_
      rintro e w3 ⟨rfl, ho3, hw3⟩
      obtain ⟨G, hG⟩ : ∃ G, M % 1000000000 = G := ⟨_, rfl⟩
      have hGl : G < 1000000000 := by rw [← hG]; exact Nat.mod_lt _ (by omega)
      have HG := Lib.hid hG
      rw [hG]
      obtain ⟨q2, hr1, hr2, hr3⟩ := ho3.row
      have HB3 := Lib.hid (hw3.below HR.out.below HR.out.bge HR.out.below.size)
      have HD3 := Lib.hid (HR.out.own.wrote hw3 HR.out.blt)
      have hz3 : base ≤ w3.heap.size := Nat.le_trans HR.out.size hw3.size
      have HF3 := Lib.hid ho3.free
      have HT3 := Lib.hid (trimmed_pl (some ⟨b, 0, none⟩) n c q2 w3 ⟨HR.out.rest.choose_spec.1.1, hnl, hr2, .inr ⟨b, 0, rfl, ho3.lt, hr1⟩⟩)
      have HV3 := Lib.hid hr3
      have hb3 := ho3.lt
      clear hG hr1 hr2 hr3 ho3 hw3
      go_wp2_with fail
      go_at_call 72
      refine HT3.out.mono ?_
      rintro e w4 ⟨a4, n4, c4, f4, rfl, hs4, hv4, ht4, hp4, hb4⟩
      have hfd : ∀ wz : World, (Instr.field 25 (.agg #[.slice a4 n4 c4]) 0).run Tryd.prog wz = .ok (.slice a4 n4 c4) wz := fun _ => by kernel_rfl
      have HB4 := Lib.hid (HB3.out.trans (hb4.mono HB3.out.size))
      have HD4 := Lib.hid (HD3.out.below hb4)
      have hz4 : base ≤ w4.heap.size := Nat.le_trans hz3 hb4.size
      have HF4 := Lib.hid (HF3.out.below hb4 hb3)
      have HS4 := Lib.hid hs4
      have HV4 := Lib.hid hv4
      have HT4 := Lib.hid ht4
      have HP4 := Lib.hid hp4
      have hb4' : b < w4.heap.size := Nat.lt_of_lt_of_le hb3 hb4.size
      have HI0 : GroupI w4 w4 base N K G V 0 := ⟨Below.refl _ _, HD4.out⟩
      have HI0' := Lib.hid HI0
      have HLV := Lib.hid HR.out.own.len
      clear hs4 hv4 ht4 hp4 hb4 HI0
      go_wp2_with fail
      go_loopw [3, 5, 22] (fun D g i wr => ∃ (k gg : Nat) (U : Value), k ≤ 9 ∧ i = .int .i64 k ∧ gg < 4294967296 ∧ gg = G / 10 ^ k ∧ g = .int .u32 gg ∧ U = D ∧ GroupI w4 wr base N K G U k)
        (fun _ _ i _ => 9 - (intOf i).toNat)
      case atStart => exact ⟨0, G, V, by omega, rfl, by omega, by simp, rfl, rfl, HI0'.out⟩
      case round =>
        obtain ⟨k, gg, U, hk, rfl, hgl, hgg, rfl, rfl, hgr⟩ := hrel
        by_cases hk9 : k < 9
        · obtain ⟨x, hx⟩ : ∃ x, gg % 10 = x := ⟨_, rfl⟩
          obtain ⟨y, hy⟩ : ∃ y, 48 + x = y := ⟨_, rfl⟩
          obtain ⟨g', hg'⟩ : ∃ g', gg / 10 = g' := ⟨_, rfl⟩
          have e1 : (gg : Int) % 10 = (x : Int) := by omega
          have e2 : (48 : Int) + (x : Int) = (y : Int) := by omega
          have e3 : (y : Int) % 256 = (y : Int) := by omega
          have e4 : (gg : Int) / 10 = (g' : Int) := by omega
          have hyd : y = dg N (9 * K + k) := by
            unfold dg
            rw [← hy, ← hx, hgg, ← HG.out, dig_group _ _ hk9, ← HM.out, Nat.div_div_eq_div_mul, ← Nat.pow_add]
          have hgn : g' = G / 10 ^ (k + 1) := by rw [← hg', hgg, Nat.div_div_eq_div_mul, ← Nat.pow_succ]
          have HGR := Lib.hid hgr
          have HYD := Lib.hid hyd
          have HGN := Lib.hid hgn
          have hzr : base ≤ wr.heap.size := Nat.le_trans hz4 hgr.below.size
          have h64 : 9 * K + k ≤ 10000000 := by omega
          clear hx hy hg' hyd hgn hgr hgg
          go_wp2_with (at_builtin; refine wpList_append_own _ rfl _ _ 88 rfl base 5 i0 (.int .u8 0) 1 1 Tryd.underlying88 HI.out hz0 hz1 hz2 rfl (by decide) _ _ _ rfl (World.ownsRow.alloc HGR.out.own _) ⟨wr.heap.size, 0, none⟩ 1 1 [.int .u8 y] rfl rfl ?c1 ?c2 ?c3 ?c4 ?c5 ?_)
          case c1 =>
            intro j u hj
            match j, hj with
            | 0, hj => simp at hj; subst hj; simp [Addr.add]
          case c2 => intro u hu; simp at hu; subst hu; rfl
          case c3 => unfold maxLen; omega
          case c4 => omega
          case c5 => rw [World.size_alloc]; omega
          · intro v' w5 hown' hgrow _
            have hb5 : Below base w4 w5 := (HGR.out.below.alloc hzr _).grown hgrow (by rw [World.size_alloc]; omega) (fun q hq => (World.ownsRow.lt HGR.out.own q hq).1)
            have hown2 : OwnL w5 base 5 .u8 v' (9 * K + (k + 1)) (dg N) := by
              rw [cl_snoc, cl_congr (g := dg N) (fun j hj => by
                by_cases e : j = 9 * K + k
                · rw [if_pos e, HYD.out, e]
                · rw [if_neg e])] at hown'
              exact hown'
            have HG5 : GroupI w4 w5 base N K G v' (k + 1) := ⟨hb5, hown2⟩
            have HG5' := Lib.hid HG5
            clear hown' hgrow hb5 hown2 HG5
            go_wp2
            go_roundw
            case rel => exact ⟨k + 1, g', v', by omega, by go_num, by omega, HGN.out, rfl, rfl, HG5'.out⟩
            case measure => simp [intOf]; omega
        · obtain rfl : k = 9 := by omega
          have HNX : TextI w wr base b N n0 U a4 n4 c4 (K + 1) := by
            have hw5 : Below w.heap.size w wr := HB4.out.trans (hgr.below.mono (by have := HR.out.bge; have := HR.out.blt; omega))
            have hbb : ∀ o, wr.cell? ⟨b, o, none⟩ = w4.cell? ⟨b, o, none⟩ := fun o => hgr.below.cell (p := ⟨b, o, none⟩) HR.out.blt
            refine ⟨hw5, Nat.le_trans hz4 hgr.below.size, by have := hgr.own; rw [show 9 * K + 9 = 9 * (K + 1) by omega] at this; exact this, HR.out.bge, HR.out.blt, fun o => (hgr.below.frozen (p := ⟨b, o, none⟩) HR.out.blt).trans (HF4.out o), ⟨f4, ?_, ?_, HT4.out⟩, HP4.out, by omega⟩
            · obtain ⟨z1, z2, z3, z4⟩ := HS4.out
              refine ⟨z1, z2, z3, ?_⟩
              rcases z4 with z4 | ⟨b6, o6, z5, z6, z7⟩
              · exact .inl z4
              · have hb6 : b6 = b := by
                  rcases HP4.out with h | h
                  · rw [h] at z5; cases z5
                  · rw [h] at z5; cases z5; rfl
                subst hb6
                exact .inr ⟨b6, o6, z5, Nat.lt_of_lt_of_le z6 hgr.below.size, fun j hj => (hbb _).trans (z7 j hj)⟩
            · rw [HV4.out, HV3.out, ← HM.out, Nat.div_div_eq_div_mul]
              congr 1
              rw [show 9 * (K + 1) = 9 * K + 9 by omega, Nat.pow_add]
          have HNX' := Lib.hid HNX
          have HLU := Lib.hid HNX.own.len
          clear hgr HNX
          go_wp2
          go_roundw
          case rel => exact ⟨a4, n4, c4, K + 1, U, rfl, rfl, HNX'.out⟩
          case measure =>
            have h1 := HLV.out
            have h2 := HLU.out
            show 32 * n0 + 20 - lenOf U < 32 * n0 + 20 - lenOf V
            rw [h1, h2]
            omega
    · obtain rfl : n = 0 := by omega
      obtain ⟨q, hq1, hq2, _⟩ := hr.rest
      have hlow : N < 10 ^ (9 * K) := by
        rcases Nat.lt_or_ge N (10 ^ (9 * K)) with h | h
        · exact h
        · have := Nat.div_pos h (Nat.pow_pos (by omega))
          simp only [val] at hq2; omega
      have hK : 0 < 9 * K := by
        rcases Nat.eq_zero_or_pos (9 * K) with h | h
        · rw [h] at hlow; simp at hlow; omega
        · exact h
      rcases hr.own.cases with ⟨_, h⟩ | ⟨g, c2, rfl, hc2, hgb, hgl, hgc, hgf⟩
      · omega
      have hKb : 9 * K ≤ 10000000 := by have := hr.kb; omega
      have hbe := hr.below
      have hge : w.heap.size ≤ g := Nat.le_trans hr.bge (by have := hr.blt; omega)
      obtain ⟨m, hm⟩ : ∃ m, 9 * K = m := ⟨_, rfl⟩
      rw [hm] at hlow hK hKb hgc ⊢
      have HRV := Lib.hid (reverse_any g m c2 (dg N) wo hgc hgf hKb)
      have HBE := Lib.hid hbe
      have HLOW := Lib.hid hlow
      clear hr hq1 hq2 hlow hgc hgf hbe
      go_wp2_with fail
      go_at_call 75
      refine HRV.out.mono ?_
      rintro e w6 ⟨rfl, hrv⟩
      obtain ⟨hw6, hf6, hc6⟩ := hrv.out
      have hcv := run_convert_bytes_arg (P := Tryd.prog) (w := w6) 88 5 Tryd.underlying88 Tryd.underlying5 g 0 m c2 ((List.range m).map fun j => ((dg N (m - 1 - j) : Nat) : Int)) (by simp) (fun j hj => by rw [hc6 j hj]; simp [hj]) 9 Tryd.underlying9
      have hst : strOfNums ((List.range m).map fun j => ((dg N (m - 1 - j) : Nat) : Int)) = str (sdig N m) := by
        refine str_of ?_
        rw [strOfNums_data]
        apply List.ext_getElem?
        intro j
        by_cases hj : j < m
        · rw [sdig_get N m j hj, List.getElem?_map, List.getElem?_map, List.getElem?_range hj]
          simp only [Option.map_some]
          rw [Int.toNat_natCast]; rfl
        · rw [List.getElem?_eq_none (by simp; omega), List.getElem?_eq_none (by rw [sdig_length]; omega)]
      rw [hst] at hcv
      have HTL := Lib.hid (Tryd.strings_TrimLeft_one (str (sdig N m)) 48 (by decide) w6)
      have hdr : (⟨(Lib.trimLeftB (str (sdig N m)).data.toList 48).toArray⟩ : ByteArray) = str (dec N) := by
        rw [str_toList]; unfold Lib.trimLeftB; rw [drop_zeros N hpos m HLOW.out]; rfl
      rw [hdr] at HTL
      have HB6 := Lib.hid (hw6.below HBE.out hge HBE.out.size)
      have HCV := Lib.hid hcv
      clear hrv hw6 hf6 hc6 hst hdr hcv
      have hcv := HCV.out
      go_wp2_with fail
      go_at_call 76
      refine HTL.out.mono ?_
      rintro e w7 ⟨rfl, rfl⟩
      clear hcv
      go_wp2
      go_ret
      exact ⟨rfl, HB6.out⟩

theorem text_any (v : Value) (N : Nat) (w : World) (h : NatIs w v N) (k : Nat) (hk : k ≤ 100000) (hN : N < 4294967296 ^ k) : Calls Tryd.prog 21 #[v] w fun e w' => e = .returned (.string (str (dec N))) ∧ Below w.heap.size w w' := by
  rcases Nat.eq_zero_or_pos N with h0 | h0
  · subst h0
    have HZ := Lib.hid (zero_any v 0)
    obtain ⟨a, n, c, f, rfl, hs, hv, ht⟩ := h
    have hz := HZ.out (w.alloc (.cells #[.slice a n c] 25)) ⟨a, n, c, f, rfl, hs.below ((Below.refl _ _).alloc (Nat.le_refl _) _), hv, ht⟩
    have HZ2 := Lib.hid hz
    clear hz hs hv ht
    go_enter Tryd.func21, Tryd.ntmps21
    go_wp2_with (go_at_call 22; refine HZ2.out.mono ?_; rintro e w1 ⟨rfl, hb1⟩)
    go_ret
    exact ⟨by rw [dec_zero]; rfl, below_alloc hb1⟩
  · obtain ⟨a, n, c, f, rfl, hs, hv, ht⟩ := h
    have hl := Nat.le_trans (NatIs.short hv ht hN) hk
    rw [← hv] at h0 ⊢
    exact text_core a n c f w hs ht h0 hl

end Go.Proofs.YtkjdoknmmiaapaaDoor
