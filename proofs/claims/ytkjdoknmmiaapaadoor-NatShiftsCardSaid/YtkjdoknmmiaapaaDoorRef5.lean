/-
  The document's answers (package typeballref01): Bits and Limbs, by contract.
-/
import Derived.Test.YtkjdoknmmiaapaaDoorRef4
import Derived.Test.YtkjdoknmmiaapaaDoorNat22
namespace Go.Proofs.YtkjdoknmmiaapaaDoor
open Go.RowKit

theorem nbits_zero : nbits 0 = 0 := by simp [nbits]
theorem nbits_half {N : Nat} (h : 0 < N) : nbits N = nbits (N / 2) + 1 := by
  rcases Nat.lt_or_ge N 2 with h1 | h1
  · obtain rfl : N = 1 := by omega
    rw [nbits_eq (N := 1) (b := 0) (by decide) (by decide)]
    simp [nbits]
  · obtain ⟨b, hb⟩ : ∃ b, nbits (N / 2) = b + 1 := by
      refine ⟨(N / 2).log2, ?_⟩
      unfold nbits; rw [if_neg (by omega)]
    rw [hb]
    have h2 : N / 2 < 2 ^ (b + 1) := nbits_le.1 (by omega)
    have h3 : ¬ N / 2 < 2 ^ b := fun h => by have := nbits_le.2 h; omega
    refine nbits_eq ?_ ?_
    · rw [Nat.pow_succ]; omega
    · rw [Nat.pow_succ]; omega
theorem nbits_shift {N : Nat} (k : Nat) (h : 0 < N / 2 ^ k) : nbits N = nbits (N / 2 ^ k) + k := by
  induction k generalizing N with
  | zero => simp
  | succ k ih =>
    have e : N / 2 ^ (k + 1) = N / 2 / 2 ^ k := by rw [Nat.pow_succ, Nat.mul_comm, Nat.div_div_eq_div_mul]
    rw [e] at h ⊢
    have h0 : 0 < N := by
      rcases Nat.eq_zero_or_pos N with h1 | h1
      · subst h1; simp at h
      · exact h1
    rw [nbits_half h0, ih h]; omega

theorem OwnL.mono {w : World} {base base' : Nat} {e : TypeId} {ki : IntKind} {v : Value} {n : Nat} {f : Nat → Nat} (h : OwnL w base e ki v n f) (hb : base' ≤ base) : OwnL w base' e ki v n f := by
  refine ⟨h.1, ?_⟩
  rcases h.2 with h0 | ⟨g, cap, cur, h1, h2, h3⟩
  · exact .inl h0
  · exact .inr ⟨g, cap, cur, h1, by omega, h3⟩

theorem hor_succ (g : Nat → Nat) (k : Nat) : hor g (k + 1) = hor g k * 1000000000 + g k := by rw [hor]
/-- One group more, divided by 65536. -/
theorem hor_div (X x : Nat) : (X % 65536 * 1000000000 + x) % 65536 = (X * 1000000000 + x) % 65536 ∧ X / 65536 * 1000000000 + (X % 65536 * 1000000000 + x) / 65536 = (X * 1000000000 + x) / 65536 := by
  constructor <;> omega

structure BitI (W0 wr : World) (g : Nat → Nat) (Q : Value) (c2 k : Nat) : Prop where
  below : Below W0.heap.size W0 wr
  grp : GrpIs wr W0.heap.size Q c2 (hor g k / 65536)
  zero : c2 = 0 ↔ hor g k / 65536 = 0
  len : c2 ≤ k

theorem GrpIs.zero {wr : World} {base : Nat} {V : Value} {cnt X : Nat} (h : GrpIs wr base V cnt X) (h0 : cnt = 0) : X = 0 := by
  obtain ⟨g, _, _, h3⟩ := h
  subst h0; exact h3.symm

/-- At the head of a round of Bits. -/
structure BitO (w wr : World) (N E j X : Nat) (V : Value) (cnt : Nat) : Prop where
  below : Below w.heap.size w wr
  grp : GrpIs wr w.heap.size V cnt X
  len : cnt ≤ 1000
  bits : nbits N = 16 * j + nbits X
  lim : X < 65536 ^ (E - j)

theorem BitI.next {W0 wr w5 : World} {g : Nat → Nat} {Q v' : Value} {c2 k tt : Nat} (h : BitI W0 wr g Q c2 k) (htt : hor g k % 65536 * 1000000000 + g k = tt) (hq : tt / 65536 < 1000000000) (hb : Below W0.heap.size W0 w5)
    (hpos : 0 < c2 ∨ 0 < tt / 65536)
    (hown : ∀ g', OwnL wr W0.heap.size 3 .i64 Q c2 g' → w5.ownsRow W0.heap.size 3 1 v' (c2 + 1) (cl .i64 g' c2 ++ [.int .i64 (tt / 65536 : Nat)])) : BitI W0 w5 g v' (c2 + 1) (k + 1) := by
  have e := (hor_div (hor g k) (g k)).2
  rw [htt] at e
  have hs := h.grp.snoc (w5 := w5) (v' := v') hq hown
  rw [e, ← hor_succ] at hs
  rw [← hor_succ] at e
  refine ⟨hb, hs, ⟨fun h0 => by omega, fun h0 => ?_⟩, by have := h.len; omega⟩
  exfalso
  have hz : hor g k / 65536 * 1000000000 + tt / 65536 = 0 := by rw [e]; exact h0
  rcases hpos with hp | hp
  · have := h.zero.2 (by omega); omega
  · omega

theorem BitI.skip {W0 wr : World} {g : Nat → Nat} {Q : Value} {c2 k tt : Nat} (h : BitI W0 wr g Q c2 k) (htt : hor g k % 65536 * 1000000000 + g k = tt) (h0 : c2 = 0) (h1 : tt / 65536 = 0) : BitI W0 wr g Q c2 (k + 1) := by
  have e := (hor_div (hor g k) (g k)).2
  rw [htt, h1, h.zero.1 h0] at e
  have e2 : hor g (k + 1) / 65536 = 0 := by
    rw [hor_succ, ← e, Nat.zero_mul]
  refine ⟨h.below, ?_, ⟨fun _ => e2, fun _ => h0⟩, by have := h.len; omega⟩
  have := h.grp
  rw [h.zero.1 h0] at this
  rw [e2]; exact this

theorem GrpIs.fn {wr w5 : World} {base : Nat} {V : Value} {cnt : Nat} {v' : Value} {x : Nat} {g g' : Nat → Nat} (h1 : OwnL wr base 3 .i64 V cnt g') (h2 : OwnL wr base 3 .i64 V cnt g)
    (hown' : w5.ownsRow base 3 1 v' (cnt + 1) (cl .i64 g cnt ++ [.int .i64 x])) : w5.ownsRow base 3 1 v' (cnt + 1) (cl .i64 g' cnt ++ [.int .i64 x]) := by
  have e : cl .i64 g' cnt = cl .i64 g cnt := by
    rcases h1.2 with ⟨a1, a2⟩ | ⟨q1, c1, cu1, a1, _, a3, _, _, _, a4⟩
    · rw [a2]; rfl
    · rcases h2.2 with ⟨b1, b2⟩ | ⟨q2, c2, cu2, b1, _, b3, _, _, _, b4⟩
      · rw [b2]; rfl
      · rw [a1] at b1
        simp only [Value.slice.injEq, Option.some.injEq, Addr.mk.injEq, and_true, true_and] at b1
        obtain ⟨rfl, _⟩ := b1
        rw [a3] at b3
        simp only [Option.some.injEq, Obj.cells.injEq, and_true] at b3
        rw [← a4, ← b4, b3]
  rw [e]; exact hown'

set_option maxHeartbeats 3200000 in
set_option maxRecDepth 100000 in
theorem rbits_any (N E : Nat) (w : World) (hl : dl N ≤ 1000) (hE : E ≤ 200) (hN : N < 65536 ^ E) : Calls Tryd.prog 26 #[.string (str (dec N))] w fun e w' => e = .returned (.int .i64 (nbits N)) ∧ Below w.heap.size w w' := by
  obtain ⟨i0, hi, hz0, hz1, hz2⟩ := info_parts infoI
  have HG := Lib.hid (groups_any N w hl)
  have HI := Lib.hid hi
  have HN := Lib.hid hN
  generalize str (dec N) = s at *
  clear hl hi hN
  go_enter Tryd.func26, Tryd.ntmps26
  go_wp2_with fail
  go_at_call 78
  refine HG.out.mono ?_
  rintro e w1 ⟨V0, cnt0, rfl, hg0, hc0, hb0⟩
  have HST := Lib.hid (show BitO w w1 N E 0 N V0 cnt0 from ⟨hb0, hg0, hc0, by omega, HN.out⟩)
  clear hg0 hb0 hc0
  go_wp2_with fail
  go_loopw [3, 4, 5] (fun L n i wr => ∃ (j X cnt m : Nat) (V : Value), j ≤ E ∧ i = .int .i64 j ∧ m = 16 * j ∧ n = .int .i64 m ∧ V = L ∧ BitO w wr N E j X V cnt)
    (fun _ _ i _ => 201 - (intOf i).toNat)
  case atStart => exact ⟨0, N, cnt0, 0, V0, by omega, rfl, rfl, rfl, rfl, HST.out⟩
  case round =>
    obtain ⟨j, X, cnt, m, V, hj, rfl, hm, rfl, rfl, hh⟩ := hrel
    obtain ⟨wo, rfl⟩ : ∃ wo : World, wo = wr := ⟨_, rfl⟩
    have hcn := hh.len
    obtain ⟨g, hown, hgb, hgv⟩ := hh.grp
    obtain ⟨a, c, rfl, hsa, hpl⟩ := hown.slAt hgb (by omega)
    have H0 : BitI wo wo g (.slice none 0 0) 0 0 := ⟨Below.refl _ _, ⟨fun _ => 0, World.ownsRow_nil _ _ _ _, fun _ h => by omega, by simp [hor]⟩, by simp [hor], by omega⟩
    have HSA := Lib.hid hsa
    have HGB := Lib.hid hgb
    have HGV := Lib.hid hgv
    have HH := Lib.hid hh
    have HM := Lib.hid hm
    have hml : m ≤ 3200 := by omega
    have d10k : decide ((j : Int) < 10000) = true := decide_eq_true (by omega)
    have HRR0 : Hid (0 = hor g 0 % 65536) := by show _ = _; simp [hor]
    clear hh hown hgb hgv hsa hpl HST HN hm
    go_wp2
    go_loopw [6, 7, 8] (fun Q r k wr => ∃ (kk rr c2 : Nat) (U : Value), kk ≤ cnt ∧ k = .int .i64 kk ∧ rr < 65536 ∧ r = .int .i64 rr ∧ Hid (rr = hor g kk % 65536) ∧ U = Q ∧ BitI wo wr g U c2 kk)
      (fun _ _ k _ => cnt - (intOf k).toNat)
    case atStart => exact ⟨0, 0, 0, _, by omega, rfl, by omega, rfl, HRR0, rfl, H0⟩
    case round =>
      obtain ⟨kk, rr, c2, U, hkk, rfl, hrl, rfl, hrr, rfl, hbi⟩ := hrel
      obtain ⟨g2, hown2, hgb2, hgv2⟩ := hbi.grp
      have hc2l : c2 ≤ 1000 := by have := hbi.len; omega
      obtain ⟨a2, cc, rfl, _, _⟩ := hown2.slAt hgb2 (by omega)
      by_cases hlt : kk < cnt
      · obtain ⟨b, off, rfl, hbb, hcc⟩ := HSA.out.at (show 0 < cnt by omega)
        have hcell := (hbi.below.cell (p := ⟨b, off + kk, none⟩) hbb).trans (hcc kk hlt)
        have hxl := HGB.out kk hlt
        obtain ⟨tt, htt⟩ : ∃ tt, rr * 1000000000 + g kk = tt := ⟨_, rfl⟩
        have htt2 : hor g kk % 65536 * 1000000000 + g kk = tt := by rw [← hrr.out]; exact htt
        obtain ⟨r', hr'⟩ : ∃ r', tt % 65536 = r' := ⟨_, rfl⟩
        obtain ⟨qd, hqd⟩ : ∃ qd, tt / 65536 = qd := ⟨_, rfl⟩
        have hrn : Hid (r' = hor g (kk + 1) % 65536) := by
          show _ = _
          have := (hor_div (hor g kk) (g kk)).1
          rw [htt2] at this
          rw [← hr', this, hor_succ]
        have hql : qd < 1000000000 := by omega
        have hr'l : r' < 65536 := by omega
        have e1 : (rr : Int) * 1000000000 + (g kk : Int) = (tt : Int) := by omega
        have e2 : (tt : Int) % 65536 = (r' : Int) := by omega
        have e3 : (tt : Int) / 65536 = (qd : Int) := by omega
        have httl : tt < 65536000000000 := by omega
        have k0 : (0 : Int) ≤ (kk : Int) := by omega
        have k1 : (kk : Int) < (cnt : Int) := by omega
        have hzz : wo.heap.size ≤ wr.heap.size := hbi.below.size
        have HBI := Lib.hid hbi
        have HO2 := Lib.hid hown2
        have HTT := Lib.hid htt2
        have HQD := Lib.hid hqd
        by_cases hap : 0 < c2 ∨ 0 < qd
        · have HN5 : Hid (∀ w5 v', Below wo.heap.size wo w5 → w5.ownsRow wo.heap.size 3 1 v' (c2 + 1) (cl .i64 g2 c2 ++ [.int .i64 qd]) → BitI wo w5 g v' (c2 + 1) (kk + 1)) := by
            intro w5 v' h1 h2
            refine BitI.next HBI.out HTT.out (by rw [HQD.out]; exact hql) h1 (by rw [HQD.out]; exact hap) (fun g' hg' => ?_)
            rw [HQD.out]
            exact GrpIs.fn hg' HO2.out h2
          clear hcc htt htt2 hr' hqd hbi hown2 hgb2 hgv2 hrr
          by_cases c1 : 0 < c2
          all_goals
            first
              | have d1 : decide ((0 : Int) < (c2 : Int)) = true := decide_eq_true (by omega)
              | (have d1 : decide ((0 : Int) < (c2 : Int)) = false := decide_eq_false (by omega)
                 have hq0 : 0 < qd := by omega
                 have d2 : decide ((0 : Int) < (qd : Int)) = true := decide_eq_true (by omega))
            clear hap
            go_wp2_with (at_builtin; refine wpList_append_own _ rfl _ _ 93 rfl wo.heap.size 3 i0 (.int .i64 0) 1 8 Tryd.underlying93 HI.out hz0 hz1 hz2 rfl (by decide) _ _ _ rfl (World.ownsRow.alloc HO2.out _) ⟨wr.heap.size, 0, none⟩ 1 1 [.int .i64 qd] rfl rfl (cell_one_at _ _ _) (one_cell_list _ _) (by unfold maxLen; omega) (by omega) (by rw [World.size_alloc]; omega) ?_; intro v' w5 hown' hgrow _)
            have hb5 : Below wo.heap.size wo w5 := (HBI.out.below.alloc hzz _).grown hgrow (by rw [World.size_alloc]; omega) (fun q hq => (World.ownsRow.lt HO2.out q hq).1)
            have HG5 := Lib.hid (HN5.out w5 v' hb5 hown')
            clear hown' hgrow hb5
            go_wp2
            go_roundw
            case rel => exact ⟨kk + 1, r', c2 + 1, v', by omega, by go_num, hr'l, rfl, hrn, rfl, HG5.out⟩
            case measure => simp [intOf]; omega
        · obtain rfl : c2 = 0 := by omega
          obtain rfl : qd = 0 := by omega
          have HSK := Lib.hid (HBI.out.skip HTT.out rfl HQD.out)
          clear hcc htt htt2 hr' hqd hbi hown2 hgb2 hgv2 hrr hap
          go_wp2
          go_roundw
          case rel => exact ⟨kk + 1, r', 0, _, by omega, by go_num, hr'l, (by first | rfl | exact vint e2), hrn, rfl, HSK.out⟩
          case measure => simp [intOf]; omega
      · obtain rfl : kk = cnt := by omega
        have hrX : rr = X % 65536 := by rw [hrr.out, HGV.out]
        have hzX : c2 = 0 ↔ X / 65536 = 0 := by rw [← HGV.out]; exact hbi.zero
        have hbw : Below w.heap.size w wr := HH.out.below.trans (hbi.below.mono HH.out.below.size)
        have HBW := Lib.hid hbw
        have hgrp := hbi.grp
        rw [HGV.out] at hgrp
        by_cases h0 : c2 = 0
        · subst h0
          have hX0 := hzX.1 rfl
          have hNB : Hid (nbits N = m + nbits rr) := by
            show _ = _
            rw [HH.out.bits, HM.out, hrX, show X % 65536 = X by omega]
          have hb16 : nbits rr ≤ 16 := nbits_le.2 (by omega)
          have hB16 := Lib.hid hb16
          clear hgrp hbi hown2 hgb2 hgv2 hrr hrX hzX hX0 hbw hb16
          go_wp2
          go_loop [4, 7] (fun n r => ∃ (mm ss : Nat), mm ≤ 5000 ∧ n = .int .i64 mm ∧ r = .int .i64 ss ∧ ss < 65536 ∧ Hid (nbits N = mm + nbits ss ∧ mm + nbits ss ≤ 3216))
            (fun _ r => (intOf r).toNat)
          case atStart => exact ⟨m, rr, by omega, rfl, rfl, hrl, hNB.out, by have := hB16.out; omega⟩
          case round =>
            obtain ⟨mm, ss, hmm, rfl, rfl, hss, hnb⟩ := hrel
            by_cases hs0 : 0 < ss
            · have hN2 : Hid (nbits N = (mm + 1) + nbits (ss / 2) ∧ (mm + 1) + nbits (ss / 2) ≤ 3216) := by
                have h1 := nbits_half hs0
                have h2 := hnb.out
                exact ⟨by omega, by omega⟩
              obtain ⟨s2, hs2⟩ : ∃ s2, ss / 2 = s2 := ⟨_, rfl⟩
              rw [hs2] at hN2
              have e1 : (ss : Int) / 2 = (s2 : Int) := by omega
              have hsl : s2 < ss := by omega
              have hmm2 : mm + 1 ≤ 5000 := by have := hN2.out.2; omega
              clear hs2
              go_wp2
              go_round
              case rel => exact ⟨mm + 1, s2, hmm2, by go_num, rfl, by omega, hN2.out⟩
              case measure => simp [intOf]; omega
            · obtain rfl : ss = 0 := by omega
              have hE2 : Hid (nbits N = mm) := by show _ = _; rw [hnb.out.1, nbits_zero]; rfl
              go_wp2
              go_ret
              exact ⟨ret_int (by rw [hE2.out]), HBW.out⟩
        · have hXp : 0 < X / 65536 := by
            rcases Nat.eq_zero_or_pos (X / 65536) with h | h
            · exact absurd (hzX.2 h) h0
            · exact h
          have hjE : j < E := by
            rcases Nat.lt_or_ge j E with h | h
            · exact h
            · have := HH.out.lim
              rw [show E - j = 0 by omega, Nat.pow_zero] at this
              omega
          have hBO : BitO w wr N E (j + 1) (X / 65536) (.slice a2 c2 cc) c2 := by
            refine ⟨hbw, ?_, hc2l, ?_, ?_⟩
            · obtain ⟨g3, h1, h2, h3⟩ := hgrp
              exact ⟨g3, h1.mono HH.out.below.size, h2, h3⟩
            · have h1 : nbits X = nbits (X / 65536) + 16 := nbits_shift 16 hXp
              rw [HH.out.bits, h1]; omega
            · have h1 := HH.out.lim
              rw [show E - j = (E - (j + 1)) + 1 by omega, Nat.pow_succ] at h1
              rw [Nat.div_lt_iff_lt_mul (by omega)]; exact h1
          have HBO := Lib.hid hBO
          have h0' : ((c2 : Int) == 0) = false := by rw [beq_eq_false_iff_ne]; omega
          have HM' := HM
          clear hgrp hbi hown2 hgb2 hgv2 hrr hrX hzX hbw hXp hBO
          go_wp2
          go_roundw
          case rel => exact ⟨j + 1, X / 65536, c2, m + 16, _, hjE, by go_num, by have := HM'.out; omega, by go_num, rfl, HBO.out⟩
          case measure => simp [intOf]; omega

theorem rlimbs_any (N E : Nat) (w : World) (hl : dl N ≤ 1000) (hE : E ≤ 200) (hN : N < 65536 ^ E) : Calls Tryd.prog 28 #[.string (str (dec N))] w fun e w' => e = .returned (.int .i64 ((nbits N + 31) / 32 : Nat)) ∧ Below w.heap.size w w' := by
  have HB := Lib.hid (rbits_any N E w hl hE hN)
  have hb : nbits N ≤ 16 * E := by
    have h3 : (65536 : Nat) ^ E = 2 ^ (16 * E) := by rw [Nat.pow_mul]
    exact nbits_le.2 (by omega)
  obtain ⟨B, hB⟩ : ∃ B, nbits N = B := ⟨_, rfl⟩
  rw [hB] at HB hb ⊢
  obtain ⟨L, hL⟩ : ∃ L, (B + 31) / 32 = L := ⟨_, rfl⟩
  have e1 : ((B : Int) + 31) / 32 = (L : Int) := by omega
  have hb2 : B ≤ 3200 := by omega
  rw [hL]
  clear hB hL hN
  go_enter Tryd.func28, Tryd.ntmps28
  go_wp2_with (go_at_call 26; refine HB.out.mono ?_; rintro e w1 ⟨rfl, hb1⟩)
  go_ret
  exact ⟨ret_int e1, hb1⟩

end Go.Proofs.YtkjdoknmmiaapaaDoor
