/-
  The document's answer for layer 4: Show, by contract.
-/
import Derived.Test.YtphabhddmdpkmaaGreatDoorDr4
import Derived.Test.YtphabhddmdpkmaaGreatDoorDe6
namespace Go.Proofs.YtphabhddmdpkmaaGreatDoor
open Go.RowKit
attribute [local go_sem ↓] Go.wp_at_zero Go.wp_at_succ

theorem Slot3.put0 {w : World} {k : Nat} {x y z : Value} (h : Slot3 w k x y z) (u : Value) : Slot3 (w.setCell ⟨k, 0, none⟩ u) k u y z :=
  ⟨World.cell?_setCell_same _ _ _ h.cell, by rw [World.cell?_setCell_other _ _ _ _ (by simp)]; exact h.cell1, by rw [World.cell?_setCell_other _ _ _ _ (by simp)]; exact h.cell2, by simp [h.free], by simp [h.free1], by simp [h.free2], by simpa using h.lt⟩
theorem tt_nat (P : Nat) {Q : Nat} (hQ : 0 < Q) (n : Int) : ∃ X : Nat, ttP (P : Int) Q n = (X : Int) ∧ X ≤ P * 10 ^ n.toNat ∧ ttQ (P : Int) Q n ≤ Q * 10 ^ (-n).toNat ∧ 0 < ttQ (P : Int) Q n ∧ X * (Q * 10 ^ (-n).toNat) = P * 10 ^ n.toNat * ttQ (P : Int) Q n := by
  have hp := tt_pos (P : Int) hQ n
  have hc := tt_cross (P : Int) hQ n
  have h1 : ttQ (P : Int) Q n ≤ Q * 10 ^ (-n).toNat := by
    unfold ttQ
    by_cases h : 0 ≤ n
    · rw [if_pos h, show (-n).toNat = 0 by omega]
      exact Nat.le_trans (loQ_le _ _) (by simp)
    · rw [if_neg h]
      have h10 : 0 < (10 : Nat) ^ (-n).toNat := Nat.pow_pos (by omega)
      generalize (10 : Nat) ^ (-n).toNat = X at *
      unfold dvQ
      rw [if_neg (by omega)]
      refine Nat.le_trans (loQ_le _ _) ?_
      rw [Int.natAbs_mul, Int.natAbs_natCast, Int.natAbs_natCast, Nat.mul_comm]
      exact Nat.le_refl _
  have h2 : (ttP (P : Int) Q n).natAbs ≤ P * 10 ^ n.toNat := by
    unfold ttP
    by_cases h : 0 ≤ n
    · rw [if_pos h]
      refine Nat.le_trans (loP_absle _ _) ?_
      rw [Int.natAbs_mul, Int.natAbs_natCast, Int.natAbs_natCast]
      exact Nat.le_refl _
    · rw [if_neg h, show n.toNat = 0 by omega]
      unfold dvP
      have h10 : 0 < (10 : Nat) ^ (-n).toNat := Nat.pow_pos (by omega)
      rw [if_neg (by omega)]
      refine Nat.le_trans (loP_absle _ _) ?_
      rw [upZ_abs, Int.natAbs_mul, Int.natAbs_natCast, Int.natAbs_natCast]
      simp
  generalize ttP (P : Int) Q n = X at *
  generalize ttQ (P : Int) Q n = Y at *
  have h10 : 0 < (10 : Nat) ^ (-n).toNat := Nat.pow_pos (by omega)
  generalize (10 : Nat) ^ (-n).toNat = U at *
  generalize (10 : Nat) ^ n.toNat = V at *
  have hX : 0 ≤ X := by
    by_cases h : 0 ≤ X
    · exact h
    · exfalso
      have a : X * ((Q : Int) * (U : Int)) < 0 := Int.mul_neg_of_neg_of_pos (by omega) (Int.mul_pos (by omega) (by omega))
      have b : 0 ≤ (P : Int) * (V : Int) * (Y : Int) := Int.mul_nonneg (Int.mul_nonneg (by omega) (by omega)) (by omega)
      omega
  obtain ⟨x, rfl⟩ : ∃ x : Nat, X = x := ⟨X.toNat, by omega⟩
  refine ⟨x, rfl, by omega, h1, hp, ?_⟩
  have : ((x * (Q * U) : Nat) : Int) = ((P * V * Y : Nat) : Int) := by simpa only [Int.natCast_mul] using hc
  omega
theorem dl_upto {X B n m : Nat} (h : X ≤ B * 10 ^ n) (hB : B < 10 ^ m) : dl X ≤ m + n + 1 := by
  refine dl_le _ _ (by omega) ?_
  have h1 : B * 10 ^ n < 10 ^ m * 10 ^ n := Nat.mul_lt_mul_of_pos_right hB (Nat.pow_pos (by omega))
  rw [← Nat.pow_add] at h1
  have h2 : (10 : Nat) ^ (m + n) ≤ 10 ^ (m + n + 1) := Nat.pow_le_pow_right (by omega) (by omega)
  omega
theorem dec_head {N : Nat} (h : 0 < N) : ∃ c l, dec N = c :: l ∧ c ≠ 48 := by
  obtain ⟨d, hd⟩ : ∃ d, dl N = d + 1 := ⟨dl N - 1, by have := dl_pos N; omega⟩
  have h1 := dl_low h
  have h2 := dl_lt N
  rw [hd] at h1 h2
  rw [Nat.add_sub_cancel] at h1
  refine ⟨dgt N d, sdig N d, by unfold dec; rw [hd]; rfl, ?_⟩
  rw [Ne, dgt_zero]
  have h3 : 0 < N / 10 ^ d := Nat.div_pos h1 (Nat.pow_pos (by omega))
  have h4 : N / 10 ^ d < 10 := by rw [Nat.div_lt_iff_lt_mul (Nat.pow_pos (by omega))]; rw [Nat.pow_succ] at h2; omega
  omega
theorem ba_assoc (a b c : ByteArray) : a ++ b ++ c = a ++ (b ++ c) := by
  apply ByteArray.ext
  simp [ByteArray.data_append, Array.append_assoc]
theorem ba_nil (a : ByteArray) : (⟨#[]⟩ : ByteArray) ++ a = a := by
  apply ByteArray.ext
  simp [ByteArray.data_append]

def lenS : Value → Nat
  | .string s => s.size
  | _ => 0
/-- Striking noughts at the end: what is left to strike. -/
def StrI (M : Nat) (s : Value) : Prop := ∃ l : List UInt8, s = .string (str l) ∧ Go.Lib.trimRightB l 48 = zd M ∧ l.length ≤ 1000 ∧ ∃ c r, l = c :: r ∧ c ≠ 48

set_option linter.unusedSimpArgs false in
set_option maxHeartbeats 12800000 in
set_option maxRecDepth 100000 in
theorem rShow_walk (pb sm : Bool) (many NI : Int) (p Q M : Nat) (E e : Int) (n : Int) (X1 X2 : Nat) (Z : Int) (Y : Nat) (w : World) (sg : ByteArray)
    (hsm : decide (many < 1) = sm) (hN : sm = false → many = NI) (hN1 : sm = true → NI = 1) (hsg : (pb = true → sg = hi) ∧ (pb = false → sg = ⟨#[]⟩)) (hNb : 1 ≤ NI ∧ NI ≤ 200) (hEb : E ≤ 100 ∧ -100 ≤ E) (hM0 : 0 < M) (hMd : (dl M : Int) ≤ NI + 1)
    (hn : NI - 1 - E = n) (he : E + (dl M : Int) - NI = e)
    (h0 : ((str (dec p)).toList == [48]) = false)
    (OR : Hid (∀ wz, Calls Tryz.prog 70 #[.agg #[.bool false, .string (str (dec p)), .string (str (dec Q))]] wz fun e w' => e = .returned (.int .i64 E) ∧ Below wz.heap.size wz w'))
    (TT : Hid (∀ wz, Calls Tryz.prog 57 #[.agg #[.bool false, .string (str (dec p)), .string (str (dec Q))], .int .i64 n] wz fun e w' => e = .returned (.agg #[.bool false, .string (str (dec X1)), .string (str (dec X2))]) ∧ Below wz.heap.size wz w'))
    (AD : Hid (∀ wz, Calls Tryz.prog 72 #[.agg #[.bool false, .string (str (dec X1)), .string (str (dec X2))], .agg #[.bool false, .string ⟨#[49]⟩, .string ⟨#[50]⟩]] wz fun e w' => e = .returned (.agg #[.bool (rB Z), .string (rS Z), .string (str (dec Y))]) ∧ Below wz.heap.size wz w'))
    (FL : Hid (∀ wz, Calls Tryz.prog 71 #[.agg #[.bool (rB Z), .string (rS Z), .string (str (dec Y))]] wz fun e w' => e = .returned (.agg #[.bool false, .string (str (dec M))]) ∧ Below wz.heap.size wz w')) :
    Calls Tryz.prog 17 #[.agg #[.bool pb, .string (str (dec p)), .string (str (dec Q))], .int .i64 many] w fun x w' => x = .returned (.string (sg ++ wrS (zd M) e NI)) ∧ Below w.heap.size w w' := by
  have HSM := Lib.hid (size_dlD M)
  have hw1 : IntKind.i64.wrap (NI - 1) = NI - 1 := IntWalk.i64_in _ (by omega)
  have hw2 : IntKind.i64.wrap (NI - 1 - E) = n := by rw [hn]; exact IntWalk.i64_in _ (by omega)
  have hw7 : IntKind.i64.wrap n = n := IntWalk.i64_in _ (by omega)
  have hw8 : IntKind.i64.wrap 0 = 0 := IntWalk.i64_in _ (by omega)
  have hw4 : sm = true → (0 : Int) - E = n := fun h => by have := hN1 h; omega
  have hw5 : sm = true → -E = n := fun h => by have := hN1 h; omega
  have hw6 : sm = true → IntKind.i64.wrap ((0 : Int) - E) = n := fun h => by rw [IntWalk.i64_in _ (by omega)]; have := hN1 h; omega
  have hw3 : sm = true → IntKind.i64.wrap (-E) = n := fun h => by rw [IntWalk.i64_in _ (by omega)]; have := hN1 h; omega
  have hfd : ∀ wz : World, (Instr.field 90 (.agg #[.bool false, .string (str (dec M))]) 1).run Tryz.prog wz = .ok (.string (str (dec M))) wz := fun _ => by kernel_rfl
  have HE : Hid (E + (dl M : Int) - NI = e ∧ -400 ≤ e ∧ e ≤ 400) := ⟨he, by omega, by omega⟩
  have HM : Hid (0 < M ∧ dl M ≤ 201) := ⟨hM0, by omega⟩
  have BB := Lib.hid ((Bag.start w).box3 (.bool pb) (.string (str (dec p))) (.string (str (dec Q))) 34)
  generalize str (dec p) = sp at *
  generalize str (dec Q) = sq at *
  generalize str (dec X1) = s1 at *
  generalize str (dec X2) = s2 at *
  generalize rB Z = zb at *
  generalize rS Z = zs at *
  generalize str (dec Y) = zq at *
  obtain ⟨sM, hsM⟩ : ∃ sM, str (dec M) = sM := ⟨_, rfl⟩
  rw [hsM] at FL hfd HSM
  have HM2 := Lib.hid hsM
  clear hsM he hM0 hMd hn
  have hh : hi = ⟨#[194, 175]⟩ := rfl
  have q0 := BB.out.now.1.cell
  have q1 := BB.out.now.1.cell1
  have q2 := BB.out.now.1.cell2
  have g0 := BB.out.now.1.free
  have HC : Hid (decide (NI ≤ e) = true ∨ (decide (NI ≤ e) = false ∧ decide (e < -6) = true) ∨ (decide (NI ≤ e) = false ∧ decide (e < -6) = false ∧ decide (e < 0) = true ∧ e < 0) ∨ (decide (NI ≤ e) = false ∧ decide (e < -6) = false ∧ decide (e < 0) = false ∧ 0 ≤ e)) := by
    show _ ∨ _
    rw [decide_eq_true_iff, decide_eq_false_iff_not, decide_eq_true_iff, decide_eq_false_iff_not, decide_eq_true_iff, decide_eq_false_iff_not]
    omega
  have HF1 := Lib.hid (fun (l : List UInt8) (h : NI ≤ e ∨ e < -6) => show wrS l e NI = str (pt l 1) ++ ⟨#[69]⟩ ++ digS e hi by unfold wrS; rw [if_pos h])
  have HF2 := Lib.hid (fun (l : List UInt8) (h : ¬ (NI ≤ e ∨ e < -6)) (h2 : e < 0) => show wrS l e NI = ⟨#[48, 46]⟩ ++ str (List.replicate (-e - 1).toNat 48) ++ str l by unfold wrS; rw [if_neg h, if_pos h2])
  have HF3 := Lib.hid (fun (l : List UInt8) (h : ¬ (NI ≤ e ∨ e < -6)) (h2 : ¬ e < 0) => show wrS l e NI = str (pt l (e + 1).toNat) by unfold wrS; rw [if_neg h, if_neg h2])
  cases pb <;> cases sm
  all_goals
    first | obtain rfl := hN rfl | obtain rfl := hN1 rfl
    first | obtain rfl := hsg.1 rfl | obtain rfl := hsg.2 rfl
    first | (have hw3 := hw3 rfl; have hw4 := hw4 rfl; have hw5 := hw5 rfl; have hw6 := hw6 rfl) | clear hw3 hw4 hw5 hw6
    clear hsg hN hN1
    have BB := Lib.hid ((Bag.start w).box3 (.bool false) (.string sp) (.string sq) 34)
    go_enter Tryz.func17, Tryz.ntmps17
    go_wp2_with fail
    go_at_call 70
    refine (OR.out _).mono ?_
    rintro x w2 ⟨rfl, hb2⟩
    have BB := Lib.hid ((BB.out.go hb2).box3 (.bool false) (.string ⟨#[49]⟩) (.string ⟨#[50]⟩) 34)
    clear hb2 q0 q1 q2 g0
    go_wp2_with fail
    have BB := Lib.hid BB.out.drew
    go_region_held3 (fun y => (y.cell? ⟨w.heap.size, 0, none⟩ = some (.bool false) ∧ y.cell? ⟨w.heap.size, 1, none⟩ = some (.string sp) ∧ y.cell? ⟨w.heap.size, 2, none⟩ = some (.string sq)) ∧ y.cell? ⟨w2.heap.size, 0, none⟩ = some (.bool false) ∧ y.cell? ⟨w2.heap.size, 1, none⟩ = some (.string ⟨#[49]⟩) ∧ y.cell? ⟨w2.heap.size, 2, none⟩ = some (.string ⟨#[50]⟩))
      (exact ⟨⟨BB.out.now.2.1.cell, BB.out.now.2.1.cell1, BB.out.now.2.1.cell2⟩, BB.out.now.1.cell, BB.out.now.1.cell1, BB.out.now.1.cell2⟩)
      (first
        | (go_at_call 57; (with_reducible refine (TT.out _).mono ?_); rintro x w3 ⟨rfl, hb3⟩; have BB := Lib.hid (BB.out.go hb3))
        | (go_at_call 72; (with_reducible refine (AD.out _).mono ?_); rintro x w4 ⟨rfl, hb4⟩; have BB := Lib.hid (BB.out.go hb4))
        | (go_at_call 71; (with_reducible refine (FL.out _).mono ?_); rintro x w5 ⟨rfl, hb5⟩; have BB := Lib.hid (BB.out.go hb5)))
    clear OR TT AD FL hfd hw1 hw2 hw7 hw8
    try clear hw3 hw4 hw5 hw6
    have hsz := HSM.out
    obtain ⟨d, hd⟩ : ∃ d, dl M = d := ⟨_, rfl⟩
    have HM3 := HM.out
    have HE3 := HE.out
    rw [hd] at hsz HM3 HE3
    have i1 : E + (d : Int) - _ = e := HE3.1
    have hST : StrI M (.string sM) := ⟨dec M, by rw [HM2.out], rfl, by have := size_dlD M; rw [str_size] at this; omega, dec_head HM3.1⟩
    have HST := Lib.hid hST
    clear hST HSM HM2 HM hd
    have HB5 := Lib.hid BB.out.below
    clear BB
    go_wp2_with fail
    go_loopw [8] (fun s wr => StrI M s ∧ Below w.heap.size w wr) (fun s _ => lenS s)
    case atStart => exact ⟨HST.out, HB5.out⟩
    case round =>
      obtain ⟨⟨l, rfl, hl1, hl2, c0, r0, hcr, hc0⟩, hbl⟩ := hrel
      have HB := Lib.hid hbl
      obtain ⟨k, x, hk⟩ : ∃ k x, l = k ++ [x] := by
        rcases snoc_cases l with h | h
        · rw [h] at hcr; cases hcr
        · exact h
      have hll : l.length = k.length + 1 := by rw [hk]; simp
      have hts : (str l).size = k.length + 1 := by rw [str_size, hll]
      have hx1 : (str l)[k.length]? = some x := by
        rw [getElem?_pos (str l) k.length (by omega)]
        have h9 : l[k.length]? = some x := by rw [hk]; simp
        exact congrArg some (List.getElem?_eq_some_iff.1 h9).2
      have hex : (str l).extract 0 k.length = str k := by rw [str_extract, hk]; simp
      have hle : (k.length : Int) ≤ (k.length : Int) + 1 := by omega
      have hlt : (k.length : Int) < (k.length : Int) + 1 := by omega
      obtain ⟨t, ht⟩ : ∃ t, str l = t := ⟨_, rfl⟩
      rw [ht] at hts hx1 hex ⊢
      have hx2 : t[k.length]'(by omega) = x := by
        rw [getElem?_pos t k.length (by omega)] at hx1
        exact Option.some.inj hx1
      have HT := Lib.hid ht
      clear hbl hx1 ht
      by_cases hgo : 0 < k.length ∧ x = 48
      · obtain ⟨hz0, rfl⟩ := hgo
        have HS1 : Hid (StrI M (.string (str k))) := by
          refine ⟨k, rfl, ?_, by omega, ?_⟩
          · rw [hk, trimR_snoc, if_pos rfl] at hl1; exact hl1
          · cases k with
            | nil => simp at hz0
            | cons y k' =>
              rw [hk] at hcr
              exact ⟨y, k', rfl, by cases hcr; exact hc0⟩
        have hks := str_size k
        have d1 : decide ((1 : Int) < (k.length : Int) + 1) = true := decide_eq_true (by omega)
        clear hl1 hcr hk hc0
        go_wp2
        go_roundw
        case rel => exact ⟨HS1.out, HB.out⟩
        case measure => simp [lenS]; omega
      · have hx : x ≠ 48 := by
          intro e
          have h0 : k.length = 0 := by
            rcases Nat.eq_zero_or_pos k.length with h | h
            · exact h
            · exact absurd ⟨h, e⟩ hgo
          have hk0 := List.eq_nil_of_length_eq_zero h0
          rw [hk, hk0] at hcr
          cases hcr
          exact hc0 e
        have hzd : zd M = l := by rw [← hl1, hk, trimR_snoc, if_neg hx]
        have hxb : ((x.toNat : Int) == 48) = false := by
          rw [beq_eq_false_iff_ne]
          intro e
          exact hx (UInt8.toNat_inj.1 (by have : (48 : UInt8).toNat = 48 := rfl; omega))
        have HZ := Lib.hid hzd
        have hEv : -400 ≤ e ∧ e ≤ 400 := HE.out.2
        have hlb : l.length ≤ 1000 := hl2
        clear hl1 hcr hk hc0 hx hgo hex hzd HST
        by_cases hL : k.length = 0
        · have D1 : decide ((1 : Int) < (k.length : Int) + 1) = false := decide_eq_false (by omega)
          have HP0 : Hid (str (pt l 1) = t) := by
            show _ = _
            unfold pt
            rw [if_neg (by omega), ← HT.out, show 1 - l.length = 0 by omega]
            simp
          have HL := Lib.hid hL
          clear hL
          rcases HC.out with D2 | ⟨D2, D3⟩ | ⟨D2, D3, D4, h7⟩ | ⟨D2, D3, D4, h7⟩
          · skip
            have FR := Lib.hid (fun wz => rFrom_any e wz (by omega))
            have hde := dl_le e.natAbs 5 (by omega) (by omega)
            have DG := Lib.hid (fun wz => rDigits_any e hi wz (by omega) (by decide))
            unfold RTold at FR
            have hD := digS_len e hi
            have hhs : hi.size = 2 := rfl
            rw [hh] at DG
            rw [← hh] at DG
            generalize rB e = eb at *
            generalize rS e = es at *
            have HW := HF1.out l (.inl (of_decide_eq_true D2))
            rw [HP0.out] at HW
            have HW := Lib.hid HW
            generalize digS e hi = dg at *
            go_wp2_with fail
            go_at_call 74
            refine (FR.out _).mono ?_
            rintro x6 w6 ⟨rfl, hb6⟩
            have HB := Lib.hid (HB.out.trans (hb6.mono HB.out.size))
            clear hb6
            go_wp2_with fail
            go_at_call 73
            refine (DG.out _).mono ?_
            rintro x7 w7 ⟨rfl, hb7⟩
            have HB := Lib.hid (HB.out.trans (hb7.mono HB.out.size))
            clear hb7
            go_wp2
            go_ret
            exact ⟨by rw [HZ.out, HW.out]; first | done | rfl | (simp [ba_assoc, ba_nil]; done), HB.out⟩
          · skip
            have FR := Lib.hid (fun wz => rFrom_any e wz (by omega))
            have hde := dl_le e.natAbs 5 (by omega) (by omega)
            have DG := Lib.hid (fun wz => rDigits_any e hi wz (by omega) (by decide))
            unfold RTold at FR
            have hD := digS_len e hi
            have hhs : hi.size = 2 := rfl
            rw [hh] at DG
            rw [← hh] at DG
            generalize rB e = eb at *
            generalize rS e = es at *
            have HW := HF1.out l (.inr (of_decide_eq_true D3))
            rw [HP0.out] at HW
            have HW := Lib.hid HW
            generalize digS e hi = dg at *
            go_wp2_with fail
            go_at_call 74
            refine (FR.out _).mono ?_
            rintro x6 w6 ⟨rfl, hb6⟩
            have HB := Lib.hid (HB.out.trans (hb6.mono HB.out.size))
            clear hb6
            go_wp2_with fail
            go_at_call 73
            refine (DG.out _).mono ?_
            rintro x7 w7 ⟨rfl, hb7⟩
            have HB := Lib.hid (HB.out.trans (hb7.mono HB.out.size))
            clear hb7
            go_wp2
            go_ret
            exact ⟨by rw [HZ.out, HW.out]; first | done | rfl | (simp [ba_assoc, ba_nil]; done), HB.out⟩
          · have hno := HF2.out l (fun h => h.elim (of_decide_eq_false D2) (of_decide_eq_false D3)) h7
            obtain ⟨r, hr⟩ : ∃ r : Nat, (-e - 1).toNat = r := ⟨_, rfl⟩
            have i2 : -e - 1 = (r : Int) := by omega
            have ZE := Lib.hid (fun wz => zeros_nat (r : Int) r wz (by omega) (by omega) (by omega))
            rw [hr, HT.out] at hno
            have HW := Lib.hid hno
            clear hno
            have hzr : (str (List.replicate r 48)).size = r := by rw [str_size, List.length_replicate]
            generalize str (List.replicate r 48) = zr at *
            go_wp2_with fail
            go_at_call 75
            refine (ZE.out _).mono ?_
            rintro x6 w6 ⟨rfl, hb6⟩
            have HB := Lib.hid (HB.out.trans (hb6.mono HB.out.size))
            clear hb6
            go_wp2
            go_ret
            exact ⟨by rw [HZ.out, HW.out]; first | done | rfl | (simp [ba_assoc, ba_nil]; done), HB.out⟩
          · have hno := HF3.out l (fun h => h.elim (of_decide_eq_false D2) (of_decide_eq_false D3)) (by omega)
            obtain ⟨q, hq⟩ : ∃ q : Nat, (e + 1).toNat = q := ⟨_, rfl⟩
            have i2 : e + 1 = (q : Int) := by omega
            by_cases h8 : k.length + 1 ≤ q
            · have D5 : decide ((k.length : Int) + 1 ≤ (q : Int)) = true := decide_eq_true (by omega)
              obtain ⟨r, hr⟩ : ∃ r : Nat, q - (k.length + 1) = r := ⟨_, rfl⟩
              have i3 : (q : Int) - ((k.length : Int) + 1) = (r : Int) := by omega
              have ZE := Lib.hid (fun wz => zeros_nat (r : Int) r wz (by omega) (by omega) (by omega))
              have hpt : str (pt l q) = t ++ str (List.replicate r 48) := by
                unfold pt
                rw [if_neg (by omega), ← HT.out, str_append, hll, hr]
              rw [hq, hpt] at hno
              have HW := Lib.hid hno
              have hqb' : q ≤ 402 := by omega
              clear hno hpt
              have hzr : (str (List.replicate r 48)).size = r := by rw [str_size, List.length_replicate]
              generalize str (List.replicate r 48) = zr at *
              clear hr hq h8 hll hlb
              go_wp2_with fail
              go_at_call 75
              refine (ZE.out _).mono ?_
              rintro x6 w6 ⟨rfl, hb6⟩
              have HB := Lib.hid (HB.out.trans (hb6.mono HB.out.size))
              clear hb6
              go_wp2
              go_ret
              exact ⟨by rw [HZ.out, HW.out]; first | done | rfl | (simp [ba_assoc, ba_nil]; done), HB.out⟩
            · exfalso
              have := HL.out
              omega
        · have D1 : decide ((1 : Int) < (k.length : Int) + 1) = true := decide_eq_true (by omega)
          have HP1 : Hid (str (pt l 1) = t.extract 0 1 ++ ⟨#[46]⟩ ++ t.extract 1 (k.length + 1)) := by
            show _ = _
            unfold pt
            rw [if_pos (by omega), ← HT.out, str_extract, str_extract, show (⟨#[46]⟩ : ByteArray) = str [46] from rfl, str_append, str_append, List.drop_zero, ← hll, List.take_length]
          clear hL
          rcases HC.out with D2 | ⟨D2, D3⟩ | ⟨D2, D3, D4, h7⟩ | ⟨D2, D3, D4, h7⟩
          · skip
            have FR := Lib.hid (fun wz => rFrom_any e wz (by omega))
            have hde := dl_le e.natAbs 5 (by omega) (by omega)
            have DG := Lib.hid (fun wz => rDigits_any e hi wz (by omega) (by decide))
            unfold RTold at FR
            have hD := digS_len e hi
            have hhs : hi.size = 2 := rfl
            rw [hh] at DG
            rw [← hh] at DG
            generalize rB e = eb at *
            generalize rS e = es at *
            have HW := HF1.out l (.inl (of_decide_eq_true D2))
            rw [HP1.out] at HW
            have HW := Lib.hid HW
            generalize digS e hi = dg at *
            go_wp2_with fail
            have HB := Lib.hid (HB.out.trans (Below.refl _ _).drew)
            go_region
            go_wp2_with fail
            go_at_call 74
            refine (FR.out _).mono ?_
            rintro x6 w6 ⟨rfl, hb6⟩
            have HB := Lib.hid (HB.out.trans (hb6.mono HB.out.size))
            clear hb6
            go_wp2_with fail
            go_at_call 73
            refine (DG.out _).mono ?_
            rintro x7 w7 ⟨rfl, hb7⟩
            have HB := Lib.hid (HB.out.trans (hb7.mono HB.out.size))
            clear hb7
            go_wp2
            go_ret
            exact ⟨by rw [HZ.out, HW.out]; first | done | rfl | (simp [ba_assoc, ba_nil]; done), HB.out⟩
          · skip
            have FR := Lib.hid (fun wz => rFrom_any e wz (by omega))
            have hde := dl_le e.natAbs 5 (by omega) (by omega)
            have DG := Lib.hid (fun wz => rDigits_any e hi wz (by omega) (by decide))
            unfold RTold at FR
            have hD := digS_len e hi
            have hhs : hi.size = 2 := rfl
            rw [hh] at DG
            rw [← hh] at DG
            generalize rB e = eb at *
            generalize rS e = es at *
            have HW := HF1.out l (.inr (of_decide_eq_true D3))
            rw [HP1.out] at HW
            have HW := Lib.hid HW
            generalize digS e hi = dg at *
            go_wp2_with fail
            have HB := Lib.hid (HB.out.trans (Below.refl _ _).drew)
            go_region
            go_wp2_with fail
            go_at_call 74
            refine (FR.out _).mono ?_
            rintro x6 w6 ⟨rfl, hb6⟩
            have HB := Lib.hid (HB.out.trans (hb6.mono HB.out.size))
            clear hb6
            go_wp2_with fail
            go_at_call 73
            refine (DG.out _).mono ?_
            rintro x7 w7 ⟨rfl, hb7⟩
            have HB := Lib.hid (HB.out.trans (hb7.mono HB.out.size))
            clear hb7
            go_wp2
            go_ret
            exact ⟨by rw [HZ.out, HW.out]; first | done | rfl | (simp [ba_assoc, ba_nil]; done), HB.out⟩
          · have hno := HF2.out l (fun h => h.elim (of_decide_eq_false D2) (of_decide_eq_false D3)) h7
            obtain ⟨r, hr⟩ : ∃ r : Nat, (-e - 1).toNat = r := ⟨_, rfl⟩
            have i2 : -e - 1 = (r : Int) := by omega
            have ZE := Lib.hid (fun wz => zeros_nat (r : Int) r wz (by omega) (by omega) (by omega))
            rw [hr, HT.out] at hno
            have HW := Lib.hid hno
            clear hno
            have hzr : (str (List.replicate r 48)).size = r := by rw [str_size, List.length_replicate]
            generalize str (List.replicate r 48) = zr at *
            go_wp2_with fail
            go_at_call 75
            refine (ZE.out _).mono ?_
            rintro x6 w6 ⟨rfl, hb6⟩
            have HB := Lib.hid (HB.out.trans (hb6.mono HB.out.size))
            clear hb6
            go_wp2
            go_ret
            exact ⟨by rw [HZ.out, HW.out]; first | done | rfl | (simp [ba_assoc, ba_nil]; done), HB.out⟩
          · have hno := HF3.out l (fun h => h.elim (of_decide_eq_false D2) (of_decide_eq_false D3)) (by omega)
            obtain ⟨q, hq⟩ : ∃ q : Nat, (e + 1).toNat = q := ⟨_, rfl⟩
            have i2 : e + 1 = (q : Int) := by omega
            by_cases h8 : k.length + 1 ≤ q
            · have D5 : decide ((k.length : Int) + 1 ≤ (q : Int)) = true := decide_eq_true (by omega)
              obtain ⟨r, hr⟩ : ∃ r : Nat, q - (k.length + 1) = r := ⟨_, rfl⟩
              have i3 : (q : Int) - ((k.length : Int) + 1) = (r : Int) := by omega
              have ZE := Lib.hid (fun wz => zeros_nat (r : Int) r wz (by omega) (by omega) (by omega))
              have hpt : str (pt l q) = t ++ str (List.replicate r 48) := by
                unfold pt
                rw [if_neg (by omega), ← HT.out, str_append, hll, hr]
              rw [hq, hpt] at hno
              have HW := Lib.hid hno
              have hqb' : q ≤ 402 := by omega
              clear hno hpt
              have hzr : (str (List.replicate r 48)).size = r := by rw [str_size, List.length_replicate]
              generalize str (List.replicate r 48) = zr at *
              clear hr hq h8 hll hlb
              go_wp2_with fail
              go_at_call 75
              refine (ZE.out _).mono ?_
              rintro x6 w6 ⟨rfl, hb6⟩
              have HB := Lib.hid (HB.out.trans (hb6.mono HB.out.size))
              clear hb6
              go_wp2
              go_ret
              exact ⟨by rw [HZ.out, HW.out]; first | done | rfl | (simp [ba_assoc, ba_nil]; done), HB.out⟩
            · have D5 : decide ((k.length : Int) + 1 ≤ (q : Int)) = false := decide_eq_false (by omega)
              have hqa : (q : Int) ≤ (k.length : Int) + 1 := by omega
              have hqb : (0 : Int) ≤ (q : Int) := by omega
              have hpt : str (pt l q) = t.extract 0 q ++ ⟨#[46]⟩ ++ t.extract q (k.length + 1) := by
                unfold pt
                rw [if_pos (by omega), ← HT.out, str_extract, str_extract, show (⟨#[46]⟩ : ByteArray) = str [46] from rfl, str_append, str_append, List.drop_zero, ← hll, List.take_length]
              rw [hq, hpt] at hno
              have HW := Lib.hid hno
              have hqb' : q ≤ 402 := by omega
              clear hno hpt
              go_wp2_with fail
              have HB := Lib.hid (HB.out.trans (Below.refl _ _).drew)
              go_region
              go_wp2
              go_ret
              exact ⟨by rw [HZ.out, HW.out]; first | done | rfl | (simp [ba_assoc, ba_nil]; done), HB.out⟩

set_option maxHeartbeats 1600000 in
set_option maxRecDepth 100000 in
theorem rShow_zero (Q : Nat) (many : Int) (w : World) : Calls Tryz.prog 17 #[.agg #[.bool (rB 0), .string (rS 0), .string (str (dec Q))], .int .i64 many] w fun x w' => x = .returned (.string ⟨#[48]⟩) ∧ Below w.heap.size w w' := by
  rw [show rB 0 = false from rfl, show rS 0 = str (dec 0) from rfl, dec0]
  have BB := Lib.hid ((Bag.start w).box3 (.bool false) (.string ⟨#[48]⟩) (.string (str (dec Q))) 34)
  generalize str (dec Q) = q at *
  have q0 := BB.out.now.1.cell
  have q1 := BB.out.now.1.cell1
  have q2 := BB.out.now.1.cell2
  go_enter Tryz.func17, Tryz.ntmps17
  go_wp2
  go_ret
  exact ⟨rfl, BB.out.below⟩

theorem rShow_any (P : Int) (Q : Nat) (many : Int) (w : World) (hQ : 0 < Q) (h1 : dl P.natAbs ≤ 60) (h2 : dl Q ≤ 60) (hm : many ≤ 200) (hm0 : -9223372036854775808 ≤ many) :
    Calls Tryz.prog 17 #[.agg #[.bool (rB P), .string (rS P), .string (str (dec Q))], .int .i64 many] w fun x w' => x = .returned (.string (shS P Q many)) ∧ Below w.heap.size w w' := by
  by_cases h0 : P = 0
  · subst h0
    unfold shS
    rw [if_pos rfl]
    exact rShow_zero Q many w
  · have hp : 0 < P.natAbs := by omega
    have hPl : P.natAbs < 10 ^ 60 := Nat.lt_of_lt_of_le (dl_lt _) (Nat.pow_le_pow_right (by omega) h1)
    have hQl : Q < 10 ^ 60 := Nat.lt_of_lt_of_le (dl_lt _) (Nat.pow_le_pow_right (by omega) h2)
    have hNb : 1 ≤ shN many ∧ shN many ≤ 200 ∧ (shN many : Int) = max many 1 := by unfold shN; omega
    have hEb : sE P.natAbs Q ≤ 60 ∧ -61 ≤ sE P.natAbs Q := by
      have h3 := dl_pos P.natAbs
      have h4 := dl_pos Q
      unfold sE e0
      split <;> omega
    obtain ⟨hT0, hB0, hTB, hBT⟩ := s_spec hp hQ
    obtain ⟨n, hn⟩ : ∃ n : Int, (shN many : Int) - 1 - sE P.natAbs Q = n := ⟨_, rfl⟩
    obtain ⟨X1, e1, e2, e3, e4, e5⟩ := tt_nat P.natAbs hQ n
    have OR := Lib.hid (fun wz => order4_any P.natAbs Q wz hp hQ h1 h2)
    have TT := Lib.hid (fun wz => times10_any (P.natAbs : Int) Q n wz hQ (by rw [Int.natAbs_natCast]; omega) (by omega) (by omega))
    unfold NumTold at TT
    rw [e1, rB_nat, rS_nat, rB_nat, rS_nat] at TT
    have hd1 := dl_upto e2 hPl
    have hd2 := dl_upto e3 hQl
    have hsc := tt_scale hQ (many := shN many) hn.symm e5
    have hM := tt_round hp hQ e4 hsc
    generalize ttQ (P.natAbs : Int) Q n = X2 at *
    have AD := Lib.hid (fun wz => r3Add_any (X1 : Int) X2 1 2 wz e4 (by omega) (by rw [Int.natAbs_natCast]; omega) (by omega) (by decide +kernel) (by decide +kernel))
    unfold NumTold at AD
    rw [rB_nat, rS_nat, show rB 1 = false from rfl, show rS 1 = str (dec 1) from rfl, dec1, show str (dec 2) = ⟨#[50]⟩ by rw [dec_small (by omega)]; rfl] at AD
    have hfl := fl_half (X1 := X1) e4
    rw [hM] at hfl
    have hYp : 0 < plQ (X1 : Int) X2 1 2 := loQ_pos _ (by omega)
    have hX1 : X1 < 10 ^ dl X1 := dl_lt X1
    have hX2 : X2 < 10 ^ dl X2 := dl_lt X2
    obtain ⟨K, hK⟩ : ∃ K, K = 330 := ⟨_, rfl⟩
    have hx1 : X1 < 10 ^ K := Nat.lt_of_lt_of_le hX1 (Nat.pow_le_pow_right (by omega) (by omega))
    have hx2 : X2 < 10 ^ K := Nat.lt_of_lt_of_le hX2 (Nat.pow_le_pow_right (by omega) (by omega))
    have hK1 : (10 : Nat) ^ (K + 1) = 10 ^ K * 10 := Nat.pow_succ _ _
    have hZ : (plP (X1 : Int) X2 1 2).natAbs ≤ 2 * X1 + X2 := by
      refine Nat.le_trans (loP_absle _ _) ?_
      omega
    have hY : plQ (X1 : Int) X2 1 2 ≤ X2 * 2 := loQ_le _ _
    have FL := Lib.hid (fun wz => r3Floor_any (plP (X1 : Int) X2 1 2) (plQ (X1 : Int) X2 1 2) wz hYp (Nat.le_trans (dl_le _ (K + 1) (by omega) (by omega)) (by omega)) (Nat.le_trans (dl_le _ (K + 1) (by omega) (by omega)) (by omega)))
    unfold RTold at FL
    rw [hfl, rB_nat, rS_nat] at FL
    have hM0 : 0 < mM (sT P.natAbs Q) (sB P.natAbs Q) (shN many) := by
      rw [mM_full hB0]
      have := g_ge hB0 hBT (k := shN many) hNb.1
      have := Nat.pow_pos (n := shN many - 1) (show 0 < 10 by omega)
      omega
    have hMd := mM_dl hB0 hTB (k := shN many)
    have h00 : ((str (dec P.natAbs)).toList == [48]) = false := by rw [dec_is0']; exact decide_eq_false (by omega)
    refine (rShow_walk (rB P) (decide (many < 1)) many (shN many) P.natAbs Q (mM (sT P.natAbs Q) (sB P.natAbs Q) (shN many)) (sE P.natAbs Q) _ n X1 X2 _ _ w (if P < 0 then hi else ⟨#[]⟩) rfl ?_ ?_ ?_ (by omega) (by omega) hM0 (by omega) hn rfl h00 OR TT AD FL).mono ?_
    · intro h
      have := of_decide_eq_false h
      omega
    · intro h
      have := of_decide_eq_true h
      omega
    · unfold rB
      exact ⟨fun h => if_pos (of_decide_eq_true h), fun h => if_neg (of_decide_eq_false h)⟩
    · rintro x w' ⟨rfl, hb⟩
      refine ⟨?_, hb⟩
      unfold shS
      rw [if_neg h0]
      unfold shA shM
      by_cases hn0 : P < 0
      · rw [if_pos hn0, if_pos hn0]
      · rw [if_neg hn0, if_neg hn0, ba_nil]

end Go.Proofs.YtphabhddmdpkmaaGreatDoor
