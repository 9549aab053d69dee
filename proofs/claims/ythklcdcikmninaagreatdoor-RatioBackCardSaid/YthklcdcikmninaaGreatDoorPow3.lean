/-
  Package nat: Pow, by contract: the walk.
  Package nat: powers of ten, by contract.
-/
import Derived.Test.YthklcdcikmninaaGreatDoorK10
namespace Go.Proofs.YthklcdcikmninaaGreatDoor
open Go.RowKit

theorem surely {X n B : Nat} {most : Int} (hX : 2 ≤ X) (hB : nbits X = B + 1) (h : most < 1 ∨ 32 * most ≤ ((n * B : Nat) : Int)) : most < (lb (X ^ n) : Int) := by
  have h2 : 2 ^ B ≤ X := by
    rcases Nat.lt_or_ge X (2 ^ B) with h3 | h3
    · have := nbits_le.2 h3; omega
    · exact h3
  have hp : 0 < X ^ n := Nat.pow_pos (by omega)
  rcases (show most < (lb (X ^ n) : Int) ∨ (lb (X ^ n) : Int) ≤ most by omega) with h3 | h3
  · exact h3
  · exfalso
    obtain ⟨m, hm⟩ : ∃ m : Nat, most = (m : Int) := ⟨most.toNat, by omega⟩
    subst hm
    have h4 := lb_le.1 (show lb (X ^ n) ≤ m by omega)
    rcases h with h | h
    · obtain rfl : m = 0 := by omega
      simp at h4; omega
    · have h5 : (2 : Nat) ^ (32 * m) ≤ 2 ^ (B * n) := Nat.pow_le_pow_right (by omega) (by rw [Nat.mul_comm B]; omega)
      rw [Nat.pow_mul 2 B n] at h5
      have h6 : (2 ^ B) ^ n ≤ X ^ n := Nat.pow_le_pow_left h2 n
      omega

theorem PowTold.cast {w w' : World} {e : Ending} {N : Nat} {b : Bool} (h : PowTold w w' e N b) {p : Nat × Bool} (he : p = (N, b)) : PowTold w w' e p.1 p.2 := by rw [he]; exact h

theorem PI.start8 {w wr : World} {x : Value} {X : Nat} (h : PI w wr x X) {a : Option Addr} {n c : Nat} (hv : NatIs wr (.agg #[.slice a n c]) 1) :
    PS w (wr.alloc (.cells #[.slice a n c] 26)) x X wr.heap.size 0 (.slice a n c) :=
  ⟨h.go ((Below.refl _ _).alloc (Nat.le_refl _) _), h.s2.lt, Slot.new _ _ _, hv.alloc _⟩

set_option maxHeartbeats 1600000 in
set_option maxRecDepth 100000 in
theorem pow_main (v : Value) (X n : Nat) (most : Int) (w : World) (h : NatIs w v X) (hX : 2 ≤ X) (hXl : dl X ≤ 50) (hn0 : 0 < n) (hn : n ≤ 9223372036854775807) (hm : most ≤ 12) (hm0 : -9223372036854775808 ≤ most) :
    Calls Tryz.prog 59 #[v, .int .i64 n, .int .i64 most] w fun e w' => PowTold w w' e (powN X n most).1 (powN X n most).2 := by
  obtain ⟨a, k, c, f, rfl, hs, hv, ht⟩ := h
  have HP := Lib.hid (PI.start (w := w) ⟨a, k, c, f, rfl, hs, hv, ht⟩)
  have hON := one_any (.agg #[.slice a k c]) X _ HP.out.xs
  have hZN := fun wz h => zero_any (.agg #[.slice a k c]) X wz h
  rw [decide_eq_false (show ¬ X = 1 by omega)] at hON
  rw [decide_eq_false (show ¬ X = 0 by omega)] at hZN
  have HON := Lib.hid hON
  have HZN := Lib.hid hZN
  have hXb : X < 2 ^ (4 * 50) := Nat.lt_of_lt_of_le (Nat.lt_of_lt_of_le (dl_lt X) (Nat.pow_le_pow_right (by omega) hXl)) (ten_two 50)
  have hnb : nbits X ≤ 4 * 50 := nbits_le.2 hXb
  obtain ⟨B, hB⟩ : ∃ B, nbits X = B + 1 := by
    rcases Nat.eq_zero_or_pos (nbits X) with h0 | h0
    · have := nbits_le.1 (show nbits X ≤ 0 by omega)
      simp at this; omega
    · exact ⟨nbits X - 1, by omega⟩
  have hSL := fun wz h => slong_any (.agg #[.slice a k c]) X n B most wz h hB (by omega) hn (by omega) hm0
  have hSU := surely (n := n) (most := most) hX hB
  have HXP : Hid (X ^ 1 < 4294967296 ^ 100) := by
    show _ < _
    rw [Nat.pow_one]
    refine Nat.lt_of_lt_of_le hXb ?_
    have hq : ∀ q, q = 100 → (2 : Nat) ^ (4 * 50) ≤ 4294967296 ^ q := fun q h => by
      rw [show (4294967296 : Nat) ^ q = 2 ^ (32 * q) by rw [Nat.pow_mul]]
      exact Nat.pow_le_pow_right (by omega) (by omega)
    exact hq 100 rfl
  clear hs hv ht hON hZN hXb
  have d1 : decide ((n : Int) ≤ 0) = false := decide_eq_false (by omega)
  have hmin : min most 536870912 = most := by omega
  have hc0 := HP.out.s1.cell
  by_cases hsl : most < 1 ∨ 32 * most ≤ ((n * B : Nat) : Int)
  · rw [decide_eq_true hsl] at hSL
    have hE := powN_long (n := (n : Int)) hX (by omega) (Int.le_refl _) (hSU hsl)
    rw [hE]
    have HSL := Lib.hid hSL
    clear hSL hSU hsl hE
    go_enter Tryz.func59, Tryz.ntmps59
    go_wp2_with fail
    go_at_call 43
    refine HON.out.mono ?_
    rintro e w2 ⟨rfl, hb2⟩
    have HP2 := Lib.hid (HP.out.go hb2)
    have hc1 := HP2.out.s1.cell
    clear hb2 hc0
    go_wp2_with fail
    go_at_call 35
    refine (HZN.out _ HP2.out.xs).mono ?_
    rintro e w3 ⟨rfl, hb3⟩
    have HP3 := Lib.hid (HP2.out.go hb3)
    have hc2 := HP3.out.s1.cell
    clear hb3 hc1
    go_wp2_with fail
    go_at_call 73
    refine (HSL.out _ HP3.out.xs).mono ?_
    rintro e w4 ⟨rfl, hb4⟩
    have HQ := HP3.out.go hb4
    have hc := HQ.s2.cell
    have hf := HQ.s2.free
    have HE := Lib.hid (HQ.done (NatIs.zero _) false)
    clear HQ hb4 hc2
    go_wp2
    exact bodyPost_ret (v := .tuple #[.agg #[.slice none 0 0], .bool false]) (by simp [results, Tryz.results59, go_sem, hc]) rfl HE.out
  · rw [decide_eq_false hsl] at hSL
    have HSL := Lib.hid hSL
    clear hSL hSU hsl
    obtain ⟨D, hD⟩ : ∃ D, Lib.bitLen n = D := ⟨_, rfl⟩
    have hLN := Tryz.bits_Len n
    simp only [Int.toNat_natCast] at hLN
    rw [hD] at hLN
    have HLN := Lib.hid (fun wz => hLN wz (by omega) (by omega))
    have HDB : Hid (n < 2 ^ D ∧ 0 < D) := by
      obtain ⟨a, b, c⟩ := Lib.bitLenAux_bounds 64 n (by omega) (by omega)
      have hl : Lib.bitLen n = Lib.bitLenAux 64 n := rfl
      rw [← hl, hD] at a b c
      exact ⟨by first | exact c | exact b | exact a, by omega⟩
    have hDl : D ≤ 64 := by rw [← hD]; exact Lib.bitLen_le n 64 (by omega) (by omega)
    have e1 : (n : Int) % 18446744073709551616 = (n : Int) := by omega
    clear hLN hD
    go_enter Tryz.func59, Tryz.ntmps59
    go_wp2_with fail
    go_at_call 43
    refine HON.out.mono ?_
    rintro e w2 ⟨rfl, hb2⟩
    have HP2 := Lib.hid (HP.out.go hb2)
    have hc1 := HP2.out.s1.cell
    clear hb2 hc0
    go_wp2_with fail
    go_at_call 35
    refine (HZN.out _ HP2.out.xs).mono ?_
    rintro e w3 ⟨rfl, hb3⟩
    have HP3 := Lib.hid (HP2.out.go hb3)
    have hc2 := HP3.out.s1.cell
    clear hb3 hc1
    go_wp2_with fail
    go_at_call 73
    refine (HSL.out _ HP3.out.xs).mono ?_
    rintro e w4 ⟨rfl, hb4⟩
    have HP4 := Lib.hid (HP3.out.go hb4)
    clear hb4 hc2
    go_wp2_with fail
    go_at_call 39
    refine (of_told 1 _ (by omega)).mono ?_
    rintro e w5 ⟨a3, n3, c3, rfl, hn3, hb5⟩
    have HS0 := Lib.hid ((HP4.out.go hb5).start8 hn3)
    clear hn3 hb5
    go_wp2_with fail
    go_at_call 74
    refine (HLN.out _).mono ?_
    rintro e w6 ⟨rfl, hw⟩
    subst hw
    have HEX := Lib.hid (fun j (hj : j < D) => exp_step (n := n) hj)
    have HL := Lib.hid (fun (m : Nat) (hk : (m : Int) ≤ n) (h : most < (lb (X ^ m) : Int)) => powN_long hX (show (0 : Int) < n by omega) hk h)
    have HF := Lib.hid (fun (m : Nat) (hk : (m : Int) = n) (h : (lb (X ^ m) : Int) ≤ most) => powN_full hX (show (0 : Int) < n by omega) hk h)
    have HLT : Hid (n / 2 ^ (D - 0) = 0 ∧ 0 < D) := by rw [Nat.sub_zero]; exact ⟨Nat.div_eq_of_lt HDB.out.1, HDB.out.2⟩
    have HST : Hid (PS w (w5.alloc (.cells #[.slice a3 n3 c3] 26)) (.slice a k c) X w5.heap.size (n / 2 ^ (D - 0)) (.slice a3 n3 c3)) := by
      rw [HLT.out.1]; exact HS0.out
    go_wp2
    go_loopw [33] (fun i wr => ∃ (j : Nat) (a1 : Option Addr) (n1 c1 : Nat), j ≤ D ∧ i = .int .i64 j ∧ PS w wr (.slice a k c) X w5.heap.size (n / 2 ^ (D - j)) (.slice a1 n1 c1) ∧ Hid (j = 0 ∨ (lb (X ^ (n / 2 ^ (D - j))) : Int) ≤ most))
      (fun i _ => D - (intOf i).toNat)
    case atStart => exact ⟨0, a3, n3, c3, by omega, rfl, HST.out, .inl rfl⟩
    case round =>
      obtain ⟨j, a1, n1, c1, hj, rfl, hps, hlb⟩ := hrel
      by_cases hlt : j < D
      · have hex := HEX.out j hlt
        have hEn : n / 2 ^ (D - (j + 1)) ≤ n := Nat.div_le_self _ _
        obtain ⟨E, hE⟩ : ∃ E, n / 2 ^ (D - j) = E := ⟨_, rfl⟩
        obtain ⟨F, hF⟩ : ∃ F, n / 2 ^ (D - (j + 1)) = F := ⟨_, rfl⟩
        obtain ⟨b, hb⟩ : ∃ b, F % 2 = b := ⟨_, rfl⟩
        rw [hE] at hps hlb hex
        rw [hF] at hex hEn
        rw [hb] at hex
        have HFF := Lib.hid hF
        have HFN : Hid ((F : Int) ≤ n) := by show _ ≤ _; omega
        have HFLB : True := trivial
        obtain ⟨m, hm1⟩ : ∃ m, D - (j + 1) = m := ⟨_, rfl⟩
        have hFm : n / 2 ^ m = F := by rw [← hm1]; exact hF
        obtain ⟨D1, hD1⟩ : ∃ D1, D - 1 = D1 := ⟨_, rfl⟩
        have i1 : (D : Int) - 1 = (D1 : Int) := by omega
        have i2 : (D1 : Int) - (j : Int) = (m : Int) := by omega
        have i3 : (n : Int) / 2 ^ m = (F : Int) := by rw [← hFm]; simp
        have i4 : (n : Int) >>> m = (F : Int) := by rw [Int.shiftRight_eq_div_pow, ← hFm]; simp
        have i5 : (F : Int) % 2 = (b : Int) := by omega
        have i6 : (m : Int).toNat = m := by omega
        have i7 : (0 : Int) ≤ (m : Int) := by omega
        have hbE : X ^ E < 4294967296 ^ 12 := by
          rcases hlb.out with h0 | h0
          · subst h0
            have := HLT.out.1
            rw [hE] at this
            subst this
            rw [Nat.pow_zero]
            exact Nat.one_lt_two_pow_iff.2 (by omega) |> fun h => Nat.lt_of_lt_of_le h (Nat.pow_le_pow_left (by omega) 12)
          · exact lb_lt (by omega)
        have hE1 : X ^ E < 4294967296 ^ 100 := Nat.lt_of_lt_of_le hbE (Nat.pow_le_pow_right (by omega) (by omega))
        have hE2 : X ^ (E + E) < 4294967296 ^ 100 := by
          have h1 : X ^ (E + E) < 4294967296 ^ (12 + 12) := by
            rw [Nat.pow_add, Nat.pow_add]
            exact Nat.mul_lt_mul'' hbE hbE
          exact Nat.lt_of_lt_of_le h1 (Nat.pow_le_pow_right (by omega) (by omega))
        have HE2 := Lib.hid hE2
        have HM1 := Lib.hid (hps.mul hps.np hE1 hE1)
        have hc8 := hps.s8.cell
        have hj1 : j + 1 ≤ D := by omega
        have hbl : b < 2 := by omega
        clear hE1 hE2 hbE hps hlb hE hF hFm hb hEn hm1 hD1
        go_wp2_with fail
        go_at_call 23
        refine HM1.out.mono ?_
        rintro e w6 ⟨a6, n6, c6, rfl, hp6, hq6⟩
        have hf6 := hp6.s8.free
        have hc6 := hp6.s8.cell
        have HQ6 := Lib.hid hq6
        clear hp6 hq6 hc8
        by_cases hb1 : b = 1
        · have d5 : ((b : Int) == 1) = true := by simp; omega
          have hFE : E + E + 1 = F := by omega
          have hx6 : NatIs (w6.setCell ⟨w5.heap.size, 0, none⟩ (.slice a6 n6 c6)) (.agg #[.slice a k c]) (X ^ 1) := by rw [Nat.pow_one]; exact HQ6.out.pi.xs
          have HM2 := HQ6.out.mul hx6 HE2.out HXP.out
          rw [hFE] at HM2
          have HM2' := Lib.hid HM2
          have hc7 := HQ6.out.s8.cell
          have hx7 := HQ6.out.pi.s1.cell
          clear HM2 hx6 hex
          go_wp2_with fail
          go_at_call 23
          refine HM2'.out.mono ?_
          rintro e w7 ⟨a7, n7, c7, rfl, hp7, hq7⟩
          have hf7 := hp7.s8.free
          have hc77 := hp7.s8.cell
          have HQ7 := Lib.hid hq7
          clear hp7 hq7 hc7 hx7
          have hc6 := HQ7.out.s8.cell
          have hf6 := HQ7.out.s8.free
          go_wp2_with fail
          go_at_call 75
          refine (limbs_any _ _ _ HQ7.out.np).mono ?_
          rintro e w9 ⟨l, rfl, hl1, _, hl2, hb9⟩
          have hll := lb_of hl2.out
          have HS9 := Lib.hid (HQ7.out.go hb9)
          have hlm := HL.out F HFN.out
          have HFL := HFLB
          clear hb9 hl2 hc6 hf6
          by_cases c9 : most < (l : Int)
          · have d9 : decide (most < (l : Int)) = true := decide_eq_true c9
            have hE9 := hlm (by rw [hll]; exact c9)
            have hc := HS9.out.pi.s2.cell
            have hf := HS9.out.pi.s2.free
            have HE9 := Lib.hid ((HS9.out.pi.done (NatIs.zero _) false).cast hE9)
            clear hE9 hlm hll
            go_wp2
            exact bodyPost_ret (v := .tuple #[.agg #[.slice none 0 0], .bool false]) (by simp [results, Tryz.results59, go_sem, hc]) rfl HE9.out
          · have d9 : decide (most < (l : Int)) = false := decide_eq_false c9
            have hl9 : Hid (j + 1 = 0 ∨ (lb (X ^ (n / 2 ^ (D - (j + 1)))) : Int) ≤ most) := .inr (by rw [HFF.out, hll]; omega)
            have HS9' : Hid (PS w w9 (.slice a k c) X w5.heap.size (n / 2 ^ (D - (j + 1))) (.slice a7 n7 c7)) := by rw [HFF.out]; exact HS9.out
            clear hlm hll
            go_wp2
            go_roundw
            case rel => exact ⟨j + 1, _, _, _, hj1, by go_num, HS9'.out, hl9.out⟩
            case measure => simp [intOf]; omega
        · have d5 : ((b : Int) == 1) = false := by rw [beq_eq_false_iff_ne]; omega
          have hFE : E + E = F := by omega
          have HQ8 := HQ6
          rw [hFE] at HQ8
          have hc6 := HQ8.out.s8.cell
          have hf6 := HQ8.out.s8.free
          go_wp2_with fail
          go_at_call 75
          refine (limbs_any _ _ _ HQ8.out.np).mono ?_
          rintro e w9 ⟨l, rfl, hl1, _, hl2, hb9⟩
          have hll := lb_of hl2.out
          have HS9 := Lib.hid (HQ8.out.go hb9)
          have hlm := HL.out F HFN.out
          have HFL := HFLB
          clear hb9 hl2 hc6 hf6
          by_cases c9 : most < (l : Int)
          · have d9 : decide (most < (l : Int)) = true := decide_eq_true c9
            have hE9 := hlm (by rw [hll]; exact c9)
            have hc := HS9.out.pi.s2.cell
            have hf := HS9.out.pi.s2.free
            have HE9 := Lib.hid ((HS9.out.pi.done (NatIs.zero _) false).cast hE9)
            clear hE9 hlm hll
            go_wp2
            exact bodyPost_ret (v := .tuple #[.agg #[.slice none 0 0], .bool false]) (by simp [results, Tryz.results59, go_sem, hc]) rfl HE9.out
          · have d9 : decide (most < (l : Int)) = false := decide_eq_false c9
            have hl9 : Hid (j + 1 = 0 ∨ (lb (X ^ (n / 2 ^ (D - (j + 1)))) : Int) ≤ most) := .inr (by rw [HFF.out, hll]; omega)
            have HS9' : Hid (PS w w9 (.slice a k c) X w5.heap.size (n / 2 ^ (D - (j + 1))) (.slice a6 n6 c6)) := by rw [HFF.out]; exact HS9.out
            clear hlm hll
            go_wp2
            go_roundw
            case rel => exact ⟨j + 1, _, _, _, hj1, by go_num, HS9'.out, hl9.out⟩
            case measure => simp [intOf]; omega
      · obtain rfl : j = D := by omega
        have hEn : n / 2 ^ (j - j) = n := by rw [Nat.sub_self, Nat.pow_zero, Nat.div_one]
        rw [hEn] at hps hlb
        have hE9 := HF.out n rfl (by rcases hlb.out with h0 | h0
                                     · have := HLT.out.2; omega
                                     · exact h0)
        have hc8 := hps.s8.cell
        have hc := hps.pi.s2.cell
        have hf := hps.pi.s2.free
        have HE9 := Lib.hid ((hps.pi.done hps.np true).cast hE9)
        clear hps hlb hE9 hEn
        go_wp2
        exact bodyPost_ret (v := .tuple #[.agg #[.slice a1 n1 c1], .bool true]) (by simp [results, Tryz.results59, go_sem, hc]) rfl HE9.out

theorem pow_any (v : Value) (X : Nat) (n most : Int) (w : World) (h : NatIs w v X) (hXl : dl X ≤ 50) (hn : n ≤ 9223372036854775807) (hm : most ≤ 12) (hm0 : -9223372036854775808 ≤ most) :
    Calls Tryz.prog 59 #[v, .int .i64 n, .int .i64 most] w fun e w' => PowTold w w' e (powN X n most).1 (powN X n most).2 := by
  by_cases h1 : n ≤ 0 ∨ X = 1
  · have hE : powN X n most = (1, true) := by unfold powN; rw [if_pos h1]
    rw [hE]; exact pow_one v X n most w h h1
  · by_cases h2 : X = 0
    · have hE : powN X n most = (0, true) := by unfold powN; rw [if_neg h1, if_pos h2]
      subst h2
      rw [hE]; exact pow_zero v n most w h (by omega)
    · obtain ⟨m, rfl⟩ : ∃ m : Nat, n = (m : Int) := ⟨n.toNat, by omega⟩
      exact pow_main v X m most w h (by omega) hXl (by omega) (by omega) hm hm0

end Go.Proofs.YthklcdcikmninaaGreatDoor

namespace Go.Proofs.YthklcdcikmninaaGreatDoor
open Go.RowKit

theorem ten_lt (m K : Nat) (h : m ≤ 8 * K) (hK : 0 < K) : 10 ^ m < 4294967296 ^ K := by
  have h1 : (10 : Nat) ^ m ≤ 10 ^ (8 * K) := Nat.pow_le_pow_right (by omega) h
  have h2 : (10 : Nat) ^ (8 * K) = (10 ^ 8) ^ K := Nat.pow_mul 10 8 K
  have h3 : ((10 : Nat) ^ 8) ^ K < 4294967296 ^ K := Nat.pow_lt_pow_left (by decide) (by omega)
  omega
theorem PS.mulK {w wr : World} {x : Value} {X z8 E F : Nat} {a : Option Addr} {n c : Nat} {u : Value} (h : PS w wr x X z8 E (.slice a n c)) (hu : NatIs wr u (X ^ F)) (K : Nat) (hK : K ≤ 400000) (hE : X ^ E < 4294967296 ^ K) (hF : X ^ F < 4294967296 ^ K) :
    Calls Tryz.prog 23 #[.agg #[.slice a n c], u] wr fun e w2 => ∃ a2 n2 c2, e = .returned (.agg #[.slice a2 n2 c2]) ∧ PS w w2 x X z8 E (.slice a n c) ∧ PS w (w2.setCell ⟨z8, 0, none⟩ (.slice a2 n2 c2)) x X z8 (E + F) (.slice a2 n2 c2) := by
  refine (mul_any _ _ _ _ wr h.np hu K hK hE hF).mono ?_
  rintro e w2 ho
  obtain ⟨a2, n2, c2, rfl, hv, hb⟩ := ho.told
  rw [← Nat.pow_add] at hv
  exact ⟨a2, n2, c2, rfl, h.go hb, (h.go hb).put hv⟩

set_option maxHeartbeats 1600000 in
set_option maxRecDepth 100000 in
theorem pow10_main (v : Value) (n : Nat) (w : World) (h : NatIs w v 10) (hn0 : 0 < n) (hn : n ≤ 4000) :
    Calls Tryz.prog 59 #[v, .int .i64 n, .int .i64 9223372036854775807] w fun e w' => PowTold w w' e (10 ^ n) true := by
  obtain ⟨a, k, c, f, rfl, hs, hv, ht⟩ := h
  have HP := Lib.hid (PI.start (w := w) ⟨a, k, c, f, rfl, hs, hv, ht⟩)
  have hON := one_any (.agg #[.slice a k c]) 10 _ HP.out.xs
  have hZN := fun wz h => zero_any (.agg #[.slice a k c]) 10 wz h
  rw [decide_eq_false (by omega)] at hON
  rw [decide_eq_false (by omega)] at hZN
  have HON := Lib.hid hON
  have HZN := Lib.hid hZN
  have hB : nbits 10 = 3 + 1 := by decide +kernel
  have hSL := fun wz h => slong_any (.agg #[.slice a k c]) 10 n 3 536870912 wz h hB (by omega) (by omega) (by omega) (by omega)
  rw [decide_eq_false (by omega)] at hSL
  have HSL := Lib.hid hSL
  obtain ⟨K, hK⟩ : ∃ K, K = 600 := ⟨_, rfl⟩
  have HTL := Lib.hid (fun m (hm : m ≤ n) => ten_lt m K (by omega) (by omega))
  have hK4 : K ≤ 400000 := by omega
  clear hs hv ht hON hZN hSL hB hK
  have d1 : decide ((n : Int) ≤ 0) = false := decide_eq_false (by omega)
  have hmin : min (9223372036854775807 : Int) 536870912 = 536870912 := by decide
  have hc0 := HP.out.s1.cell
  obtain ⟨D, hD⟩ : ∃ D, Lib.bitLen n = D := ⟨_, rfl⟩
  have hLN := Tryz.bits_Len n
  simp only [Int.toNat_natCast] at hLN
  rw [hD] at hLN
  have HLN := Lib.hid (fun wz => hLN wz (by omega) (by omega))
  have HDB : Hid (n < 2 ^ D ∧ 0 < D) := by
    obtain ⟨a, b, c⟩ := Lib.bitLenAux_bounds 64 n (by omega) (by omega)
    have hl : Lib.bitLen n = Lib.bitLenAux 64 n := rfl
    rw [← hl, hD] at a b c
    exact ⟨by first | exact c | exact b | exact a, by omega⟩
  have hDl : D ≤ 64 := by rw [← hD]; exact Lib.bitLen_le n 64 (by omega) (by omega)
  have e1 : (n : Int) % 18446744073709551616 = (n : Int) := by omega
  clear hLN hD
  go_enter Tryz.func59, Tryz.ntmps59
  go_wp2_with fail
  go_at_call 43
  refine HON.out.mono ?_
  rintro e w2 ⟨rfl, hb2⟩
  have HP2 := Lib.hid (HP.out.go hb2)
  have hc1 := HP2.out.s1.cell
  clear hb2 hc0
  go_wp2_with fail
  go_at_call 35
  refine (HZN.out _ HP2.out.xs).mono ?_
  rintro e w3 ⟨rfl, hb3⟩
  have HP3 := Lib.hid (HP2.out.go hb3)
  have hc2 := HP3.out.s1.cell
  clear hb3 hc1
  go_wp2_with fail
  go_at_call 73
  refine (HSL.out _ HP3.out.xs).mono ?_
  rintro e w4 ⟨rfl, hb4⟩
  have HP4 := Lib.hid (HP3.out.go hb4)
  clear hb4 hc2
  go_wp2_with fail
  go_at_call 39
  refine (of_told 1 _ (by omega)).mono ?_
  rintro e w5 ⟨a3, n3, c3, rfl, hn3, hb5⟩
  have HS0 := Lib.hid ((HP4.out.go hb5).start8 hn3)
  clear hn3 hb5
  go_wp2_with fail
  go_at_call 74
  refine (HLN.out _).mono ?_
  rintro e w6 ⟨rfl, hw⟩
  subst hw
  have HEX := Lib.hid (fun j (hj : j < D) => exp_step (n := n) hj)
  have HLT : Hid (n / 2 ^ (D - 0) = 0 ∧ 0 < D) := by rw [Nat.sub_zero]; exact ⟨Nat.div_eq_of_lt HDB.out.1, HDB.out.2⟩
  have HST : Hid (PS w (w5.alloc (.cells #[.slice a3 n3 c3] 26)) (.slice a k c) 10 w5.heap.size (n / 2 ^ (D - 0)) (.slice a3 n3 c3)) := by
    rw [HLT.out.1]; exact HS0.out
  go_wp2
  go_loopw [33] (fun i wr => ∃ (j : Nat) (a1 : Option Addr) (n1 c1 : Nat), j ≤ D ∧ i = .int .i64 j ∧ PS w wr (.slice a k c) 10 w5.heap.size (n / 2 ^ (D - j)) (.slice a1 n1 c1))
    (fun i _ => D - (intOf i).toNat)
  case atStart => exact ⟨0, a3, n3, c3, by omega, rfl, HST.out⟩
  case round =>
    obtain ⟨j, a1, n1, c1, hj, rfl, hps⟩ := hrel
    by_cases hlt : j < D
    · have hex := HEX.out j hlt
      have hEn : n / 2 ^ (D - (j + 1)) ≤ n := Nat.div_le_self _ _
      obtain ⟨E, hE⟩ : ∃ E, n / 2 ^ (D - j) = E := ⟨_, rfl⟩
      obtain ⟨F, hF⟩ : ∃ F, n / 2 ^ (D - (j + 1)) = F := ⟨_, rfl⟩
      obtain ⟨b, hb⟩ : ∃ b, F % 2 = b := ⟨_, rfl⟩
      rw [hE] at hps hex
      rw [hF] at hex hEn
      rw [hb] at hex
      have HFF := Lib.hid hF
      obtain ⟨m, hm1⟩ : ∃ m, D - (j + 1) = m := ⟨_, rfl⟩
      have hFm : n / 2 ^ m = F := by rw [← hm1]; exact hF
      obtain ⟨D1, hD1⟩ : ∃ D1, D - 1 = D1 := ⟨_, rfl⟩
      have i1 : (D : Int) - 1 = (D1 : Int) := by omega
      have i2 : (D1 : Int) - (j : Int) = (m : Int) := by omega
      have i3 : (n : Int) / 2 ^ m = (F : Int) := by rw [← hFm]; simp
      have i4 : (n : Int) >>> m = (F : Int) := by rw [Int.shiftRight_eq_div_pow, ← hFm]; simp
      have i5 : (F : Int) % 2 = (b : Int) := by omega
      have i6 : (m : Int).toNat = m := by omega
      have i7 : (0 : Int) ≤ (m : Int) := by omega
      have hE1 : 10 ^ E < 4294967296 ^ K := HTL.out E (by omega)
      have HE2 := Lib.hid (HTL.out (E + E) (by omega))
      have HX1 := Lib.hid (HTL.out 1 (by omega))
      have HM1 := Lib.hid (hps.mulK hps.np K hK4 hE1 hE1)
      have hc8 := hps.s8.cell
      have hj1 : j + 1 ≤ D := by omega
      have hbl : b < 2 := by omega
      clear hE1 hps hE hF hFm hb hEn hm1 hD1
      go_wp2_with fail
      go_at_call 23
      refine HM1.out.mono ?_
      rintro e w6 ⟨a6, n6, c6, rfl, hp6, hq6⟩
      have hf6 := hp6.s8.free
      have hc6 := hp6.s8.cell
      have HQ6 := Lib.hid hq6
      clear hp6 hq6 hc8
      by_cases hb1 : b = 1
      · have d5 : ((b : Int) == 1) = true := by simp; omega
        have hFE : E + E + 1 = F := by omega
        have hx6 : NatIs (w6.setCell ⟨w5.heap.size, 0, none⟩ (.slice a6 n6 c6)) (.agg #[.slice a k c]) (10 ^ 1) := by rw [Nat.pow_one]; exact HQ6.out.pi.xs
        have HM2 := HQ6.out.mulK hx6 K hK4 HE2.out HX1.out
        rw [hFE] at HM2
        have HM2' := Lib.hid HM2
        have hc7 := HQ6.out.s8.cell
        have hx7 := HQ6.out.pi.s1.cell
        clear HM2 hx6 hex
        go_wp2_with fail
        go_at_call 23
        refine HM2'.out.mono ?_
        rintro e w7 ⟨a7, n7, c7, rfl, hp7, hq7⟩
        have hf7 := hp7.s8.free
        have hc77 := hp7.s8.cell
        have HQ7 := Lib.hid hq7
        clear hp7 hq7 hc7 hx7
        have hc6 := HQ7.out.s8.cell
        have hf6 := HQ7.out.s8.free
        go_wp2_with fail
        go_at_call 75
        refine (limbs_any _ _ _ HQ7.out.np).mono ?_
        rintro e w9 ⟨l, rfl, hl1, _, _, hb9⟩
        have HS9' : Hid (PS w w9 (.slice a k c) 10 w5.heap.size (n / 2 ^ (D - (j + 1))) (.slice a7 n7 c7)) := by rw [HFF.out]; exact HQ7.out.go hb9
        clear hb9 hc6 hf6
        have d9 : decide ((536870912 : Int) < (l : Int)) = false := decide_eq_false (by omega)
        go_wp2
        go_roundw
        case rel => exact ⟨j + 1, _, _, _, hj1, by go_num, HS9'.out⟩
        case measure => simp [intOf]; omega
      · have d5 : ((b : Int) == 1) = false := by rw [beq_eq_false_iff_ne]; omega
        have hFE : E + E = F := by omega
        have HQ8 := HQ6
        rw [hFE] at HQ8
        have hc6 := HQ8.out.s8.cell
        have hf6 := HQ8.out.s8.free
        go_wp2_with fail
        go_at_call 75
        refine (limbs_any _ _ _ HQ8.out.np).mono ?_
        rintro e w9 ⟨l, rfl, hl1, _, _, hb9⟩
        have HS9' : Hid (PS w w9 (.slice a k c) 10 w5.heap.size (n / 2 ^ (D - (j + 1))) (.slice a6 n6 c6)) := by rw [HFF.out]; exact HQ8.out.go hb9
        clear hb9 hc6 hf6
        have d9 : decide ((536870912 : Int) < (l : Int)) = false := decide_eq_false (by omega)
        go_wp2
        go_roundw
        case rel => exact ⟨j + 1, _, _, _, hj1, by go_num, HS9'.out⟩
        case measure => simp [intOf]; omega
    · obtain rfl : j = D := by omega
      have hEn : n / 2 ^ (j - j) = n := by rw [Nat.sub_self, Nat.pow_zero, Nat.div_one]
      rw [hEn] at hps
      have hc8 := hps.s8.cell
      have hc := hps.pi.s2.cell
      have hf := hps.pi.s2.free
      have HE9 := Lib.hid (hps.pi.done hps.np true)
      clear hps hEn
      go_wp2
      exact bodyPost_ret (v := .tuple #[.agg #[.slice a1 n1 c1], .bool true]) (by simp [results, Tryz.results59, go_sem, hc]) rfl HE9.out

/-- 10 to the power n; a negative n counts as 0. -/
theorem pow10_any (v : Value) (n : Int) (w : World) (h : NatIs w v 10) (hn : n ≤ 4000) (hn0 : -9223372036854775808 ≤ n) :
    Calls Tryz.prog 59 #[v, .int .i64 n, .int .i64 9223372036854775807] w fun e w' => PowTold w w' e (10 ^ n.toNat) true := by
  by_cases h1 : n ≤ 0
  · rw [show n.toNat = 0 by omega, Nat.pow_zero]
    exact pow_one v 10 n 9223372036854775807 w h (.inl h1)
  · obtain ⟨m, rfl⟩ : ∃ m : Nat, n = m := ⟨n.toNat, by omega⟩
    rw [Int.toNat_natCast]
    exact pow10_main v m w h (by omega) (by omega)

theorem pow10_told (v : Value) (n : Int) (w : World) (h : NatIs w v 10) (hn : n ≤ 4000) (hn0 : -9223372036854775808 ≤ n) :
    Calls Tryz.prog 59 #[v, .int .i64 n, .int .i64 9223372036854775807] w fun e w' => ∃ a m c, e = .returned (.tuple #[.agg #[.slice a m c], .bool true]) ∧ NatIs w' (.agg #[.slice a m c]) (10 ^ n.toNat) ∧ Below w.heap.size w w' := pow10_any v n w h hn hn0

end Go.Proofs.YthklcdcikmninaaGreatDoor

