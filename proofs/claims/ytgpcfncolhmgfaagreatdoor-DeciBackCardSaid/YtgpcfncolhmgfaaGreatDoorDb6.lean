/-
  What was written with few digits enough is read as it was; what was read is within bounds.
  A text as a row of characters and back.
  What is written of a number, read again: all that the law asks.
-/
import Derived.Test.YtgpcfncolhmgfaaGreatDoorDb0
import Derived.Test.YtgpcfncolhmgfaaGreatDoorDr1
import Derived.Test.YtgpcfncolhmgfaaGreatDoorDg4
namespace Go.Proofs.YtgpcfncolhmgfaaGreatDoor
open Go.RowKit

theorem shX_bds {P Q : Nat} {many : Int} (hP : 0 < P) (hQ : 0 < Q) (hd1 : dl P ≤ 40) (hd2 : dl Q ≤ 40) (hm : 1 ≤ many ∧ many ≤ 40) : shX P Q many ≤ 60 ∧ -130 ≤ shX P Q many ∧ (shD P Q many).length ≤ 40 ∧ 0 < numOf (shD P Q many) ∧ dl (numOf (shD P Q many)) = (shD P Q many).length := by
  obtain ⟨hpos, hdl⟩ := shM_pos many hP hQ
  obtain ⟨j, h1, h2, h3, h4, h5⟩ := zd_spec hpos
  obtain ⟨t0, b0, t1, t2⟩ := s_spec hP hQ
  have hMd : dl (shM P Q many) ≤ shN many + 1 := mM_dl b0 t1
  have hMp := dl_pos (shM P Q many)
  have hN : (shN many : Int) = many := by unfold shN; omega
  have h3' : dl (numOf (shD P Q many)) = (shD P Q many).length := h3
  have hSp : 0 < numOf (shD P Q many) := h5
  have hsE : sE P Q ≤ 40 ∧ -41 ≤ sE P Q := by
    have := dl_pos P
    have := dl_pos Q
    unfold sE e0
    split <;> omega
  have hl : (shD P Q many).length ≤ dl (shM P Q many) := by
    show (zd (shM P Q many)).length ≤ _
    omega
  have hl0 : 0 < (shD P Q many).length := by
    have := dl_pos (numOf (shD P Q many))
    omega
  refine ⟨?_, ?_, by omega, hSp, h3'⟩ <;> unfold shX <;> omega

/-- The bounds of what is read. -/
theorem back_bds {P' : Int} {Q' S : Nat} {x : Int} (hS : 0 < S) (hSd : dl S ≤ 40) (hx : x ≤ 60 ∧ -130 ≤ x) (hg : Nat.gcd P'.natAbs Q' = 1)
    (h : P'.natAbs * 10 ^ (-x).toNat = S * 10 ^ x.toNat * Q') : dl P'.natAbs ≤ 131 ∧ dl Q' ≤ 131 ∧ P'.natAbs < 4294967296 ^ 200 ∧ Q' < 4294967296 ^ 200 := by
  have d1 : Q' ∣ 10 ^ (-x).toNat := by
    have : Q' ∣ P'.natAbs * 10 ^ (-x).toNat := ⟨S * 10 ^ x.toNat, by rw [h, Nat.mul_comm]⟩
    exact Nat.Coprime.dvd_of_dvd_mul_left (Nat.Coprime.symm hg) this
  have d2 : P'.natAbs ∣ S * 10 ^ x.toNat := by
    have : P'.natAbs ∣ S * 10 ^ x.toNat * Q' := ⟨10 ^ (-x).toNat, h.symm⟩
    exact Nat.Coprime.dvd_of_dvd_mul_right hg this
  have l1 : Q' ≤ 10 ^ (-x).toNat := Nat.le_of_dvd (Nat.pow_pos (by omega)) d1
  have l2 : P'.natAbs ≤ S * 10 ^ x.toNat := Nat.le_of_dvd (Nat.mul_pos hS (Nat.pow_pos (by omega))) d2
  have e1 : dl Q' ≤ 131 := by
    have := dl_mono l1
    rw [dl_ten] at this
    omega
  have e2 : dl P'.natAbs ≤ 131 := by
    have := dl_mono l2
    rw [dl_times hS] at this
    omega
  have up : ∀ N : Nat, dl N ≤ 131 → N < 4294967296 ^ 200 := fun N hN =>
    Nat.lt_trans (Nat.lt_of_lt_of_le (dl_lt N) (Nat.pow_le_pow_right (by omega) hN)) (ten_lt 131 200 (by omega) (by omega))
  exact ⟨e2, e1, up _ e2, up _ e1⟩

/-- What has few digits enough comes back. -/
theorem back_same {P P' : Int} {Q Q' : Nat} {many : Int} (hP : P ≠ 0) (hQ : 0 < Q) (hg : Nat.gcd P.natAbs Q = 1) (hm : 1 ≤ many) (hQ' : 0 < Q') (hg' : Nat.gcd P'.natAbs Q' = 1) (hs : decide (P' < 0) = decide (P < 0))
    (h : P'.natAbs * 10 ^ (-(shX P.natAbs Q many)).toNat = numOf (shD P.natAbs Q many) * 10 ^ (shX P.natAbs Q many).toNat * Q')
    (ht : ttQ (P.natAbs : Int) Q (many - 1 - sE P.natAbs Q) = 1) : P' = P ∧ Q' = Q := by
  have hPn : 0 < P.natAbs := by omega
  have hN : (shN many : Int) = many := by unfold shN; omega
  have hc := tt_cross (P.natAbs : Int) hQ (many - 1 - sE P.natAbs Q)
  rw [ht] at hc
  obtain ⟨n, hn⟩ : ∃ n, many - 1 - sE P.natAbs Q = n := ⟨_, rfl⟩
  rw [hn] at hc
  have hpos : 0 ≤ ttP (P.natAbs : Int) Q n := by
    have h1 : 0 < (Q : Int) * ((10 ^ (-n).toNat : Nat) : Int) := Int.mul_pos (by omega) (by have : 0 < (10:Nat) ^ (-n).toNat := Nat.pow_pos (by omega); omega)
    rcases Int.lt_or_le (ttP (P.natAbs : Int) Q n) 0 with g | g
    · exfalso
      have := Int.mul_neg_of_neg_of_pos g h1
      rw [hc] at this
      have : (0 : Int) ≤ (P.natAbs : Int) * ((10 ^ n.toNat : Nat) : Int) * ((1 : Nat) : Int) := by
        rw [← Int.natCast_mul, ← Int.natCast_mul]
        omega
      omega
    · exact g
  obtain ⟨K, hK⟩ : ∃ K : Nat, ttP (P.natAbs : Int) Q n = (K : Int) := ⟨_, (Int.toNat_of_nonneg hpos).symm⟩
  rw [hK, ← Int.natCast_mul, ← Int.natCast_mul, ← Int.natCast_mul, ← Int.natCast_mul] at hc
  have hc' : P.natAbs * 10 ^ n.toNat = K * Q * 10 ^ (-n).toNat := by
    have := Int.ofNat.inj hc
    rw [Nat.mul_one] at this
    rw [Nat.mul_assoc]
    exact this.symm
  have hx := shA_exact many hPn hQ hc' (by rw [hN, ← hn]; omega)
  generalize shX P.natAbs Q many = x at *
  generalize numOf (shD P.natAbs Q many) = S at *
  have ha : P'.natAbs * Q = P.natAbs * Q' := by
    have h10 : 0 < (10 : Nat) ^ (-x).toNat := Nat.pow_pos (by omega)
    refine Nat.eq_of_mul_eq_mul_right h10 ?_
    calc P'.natAbs * Q * 10 ^ (-x).toNat = P'.natAbs * 10 ^ (-x).toNat * Q := by grind
      _ = S * 10 ^ x.toNat * Q' * Q := by rw [h]
      _ = S * 10 ^ x.toNat * Q * Q' := by grind
      _ = P.natAbs * 10 ^ (-x).toNat * Q' := by rw [hx]
      _ = P.natAbs * Q' * 10 ^ (-x).toNat := by grind
  have hz : P' * (Q : Int) = P * (Q' : Int) := by
    by_cases hneg : P < 0
    · have hneg' : P' < 0 := by rw [decide_eq_true hneg] at hs; exact of_decide_eq_true hs
      rw [show P' = -(P'.natAbs : Int) by omega, show P = -(P.natAbs : Int) by omega, Int.neg_mul, Int.neg_mul, ← Int.natCast_mul, ← Int.natCast_mul]
      rw [ha]
    · have hneg' : ¬ P' < 0 := by rw [decide_eq_false hneg] at hs; exact of_decide_eq_false hs
      rw [show P' = (P'.natAbs : Int) by omega, show P = (P.natAbs : Int) by omega, ← Int.natCast_mul, ← Int.natCast_mul]
      rw [ha]
  exact lo_uniq hQ' hQ hg' hg hz

end Go.Proofs.YtgpcfncolhmgfaaGreatDoor

namespace Go.Proofs.YtgpcfncolhmgfaaGreatDoor
open Go.RowKit

def chs (T : List Nat) (k : Nat) : Array Value := (T.map fun r => Value.int .i32 (r : Nat)).toArray ++ Array.replicate (k - T.length) (.int .i32 0)
theorem chs_at (T : List Nat) (k : Nat) {j : Nat} (h : j < T.length) : (chs T k)[j]? = some (.int .i32 (rowF T j)) := by
  unfold chs rowF
  rw [Array.getElem?_append_left (by simpa using h)]
  simp [List.getD, h]

theorem runes_in (T : List Nat) (hT : ∀ r ∈ T, okR r) : Conv.runesFrom (str (encL T)) (str (encL T)).size 0 #[] = (T.map fun r => Value.int .i32 (r : Nat)).toArray := by
  have := runes_dec T [] (str (encL T)).size #[] hT (by rw [str_size]; exact Nat.le_refl _)
  rw [List.nil_append] at this
  rw [show (0 : Nat) = ([] : List UInt8).length from rfl, this]
  simp

set_option maxHeartbeats 1600000 in
set_option maxRecDepth 100000 in
theorem conv_in (w : World) (T : List Nat) (hT : ∀ r ∈ T, okR r) (hl : T.length ≤ 1000) :
    ∃ cp, T.length ≤ cp ∧ cp ≤ maxLen ∧ (convert 9 22 (.string (str (encL T)))).run Tryz.prog w = .ok (.slice (some ⟨w.heap.size, 0, none⟩) T.length cp) (w.drew.alloc (.cells (chs T cp) 21)) := by
  have e := runes_in T hT
  have hs : (Conv.runesFrom (str (encL T)) (str (encL T)).size 0 #[]).size = T.length := by rw [e]; simp
  refine ⟨grownCap w T.length 0 21, grownCap_ge w _ _ _, grownCap_le_maxLen w _ _ _ (by unfold maxLen; omega), ?_⟩
  have h := run_runes_of_string (P := Tryz.prog) w 9 22 21 (str (encL T)) Tryz.underlying9 Tryz.underlying22 Tryz.underlying21 (by rw [hs]; omega)
  rw [hs, e] at h
  exact h

theorem conv_row {w : World} {T : List Nat} {g cp : Nat} (h1 : T.length ≤ cp) (h2 : cp ≤ maxLen) (hr : Row w g 21 (chs T cp)) : KRow w .i32 (some ⟨g, 0, none⟩) T.length cp (rowF T) := by
  refine ⟨h1, h2, .inr ⟨_, 0, rfl, hr.lt, fun j hj => ?_⟩⟩
  rw [Nat.zero_add, hr.cell, chs_at T cp hj]

set_option maxHeartbeats 1600000 in
set_option maxRecDepth 100000 in
theorem conv_out {w : World} {T : List Nat} (hT : ∀ r ∈ T, okR r) {b cp : Nat} (h : KRow w .i32 (some ⟨b, 0, none⟩) T.length cp (rowF T)) :
    (convert 22 9 (.slice (some ⟨b, 0, none⟩) T.length cp)).run Tryz.prog w = .ok (.string (str (encL T))) w := by
  rw [← runes_enc T hT]
  have := run_convert_runes (P := Tryz.prog) w 22 9 21 ⟨b, 0, none⟩ T.length cp (T.map fun (r : Nat) => (r : Int)) (by simp) Tryz.underlying22 Tryz.underlying21 Tryz.underlying9 (by
    intro j hj
    have hj' : j < T.length := by simpa using hj
    obtain ⟨b', off', e, hb, hc⟩ := h.get (j := j) hj'
    injection e with e
    injection e with e1 e2 _
    subst e1 e2
    rw [show (⟨b, 0, none⟩ : Addr).add j = ⟨b, 0 + j, none⟩ by unfold Addr.add; split <;> simp_all, hc]
    unfold rowF
    simp [List.getD, hj'])
  rw [List.take_of_length_le (by simp)] at this
  exact this

end Go.Proofs.YtgpcfncolhmgfaaGreatDoor

namespace Go.Proofs.YtgpcfncolhmgfaaGreatDoor
open Go.RowKit

/-- Short's answer. -/
def shrt (P : Int) (Q : Nat) (many : Int) : Bool := decide (P = 0) || (decide (ttQ (P.natAbs : Int) Q (many - 1 - sE P.natAbs Q) = 1) && okB (str (dec P.natAbs)).data.toList)

def BackAll (P : Int) (Q : Nat) (many : Int) (T : List Nat) (P' : Int) (Q' : Nat) : Prop :=
  (∀ r ∈ T, okR r) ∧ T.length ≤ 1000 ∧ shS P Q many = str (encL T) ∧ (bgB (rowF T) T.length 0 && gK (rowF T) T.length (0 : Int).toNat) = true ∧ gE (rowF T) T.length (0 : Int).toNat = T.length ∧
    nwP (gT (rowF T) T.length (0 : Int).toNat) (gB (rowF T) T.length (0 : Int).toNat) = P' ∧ nwQ (gT (rowF T) T.length (0 : Int).toNat) (gB (rowF T) T.length (0 : Int).toNat) = Q' ∧ 0 < Q' ∧ dl P'.natAbs ≤ 131 ∧ dl Q' ≤ 131 ∧
    P'.natAbs < 4294967296 ^ 200 ∧ Q' < 4294967296 ^ 200 ∧ shS P' Q' many = str (encL T) ∧ (shrt P Q many = true → P' = P ∧ Q' = Q)

theorem back_all {P : Int} {Q : Nat} {many : Int} (hQ : 0 < Q) (hg : Nat.gcd P.natAbs Q = 1) (hd1 : dl P.natAbs ≤ 40) (hd2 : dl Q ≤ 40) (hm : 1 ≤ many ∧ many ≤ 40) : ∃ T P' Q', BackAll P Q many T P' Q' := by
  by_cases hP : P = 0
  · subst hP
    have hQ1 : Q = 1 := by simpa using hg
    subst hQ1
    have dA : digL [48] := fun x hx => by
      rw [List.mem_singleton] at hx
      subst hx
      decide
    have d0 : digL [] := fun x hx => by cases hx
    obtain ⟨r1, r2, r3, r4, r5, r6⟩ := rd_text false [48] false [] false false [] dA (by decide) d0 (fun h => by cases h) (fun _ => rfl) (by decide) d0 (fun h => by cases h)
    have hT : txR false [48] false [] false false [] = [48] := by decide
    have hok := ok_tx false false false false dA d0 d0
    have hen := enc_tx false false false false dA d0 d0
    rw [hT] at r1 r2 r3 r4 r5 r6 hok hen
    have n0 : numOf [48] = 0 := numOf_zeros 1
    have g1 : gT (rowF [48]) [48].length 0 = 0 := by
      unfold gT vlT
      rw [r3, r4, List.append_nil, n0, Nat.zero_mul]
      rfl
    have g2 : gB (rowF [48]) [48].length 0 = 1 := by
      unfold gB vlB
      rw [r5]
      rfl
    refine ⟨[48], 0, 1, hok, by decide, by rw [hen]; rfl, by rw [Bool.and_eq_true]; exact ⟨r1, r2⟩, r6, ?_, ?_, by decide, ?_, ?_, Nat.pow_pos (by omega), ?_, by rw [hen]; rfl, fun _ => ⟨rfl, rfl⟩⟩
    · show nwP (gT (rowF [48]) [48].length 0) (gB (rowF [48]) [48].length 0) = 0
      rw [g1, g2]
      decide
    · show nwQ (gT (rowF [48]) [48].length 0) (gB (rowF [48]) [48].length 0) = 1
      rw [g1, g2]
      decide
    · omega
    · omega
    · exact Nat.one_lt_pow (by omega) (by omega)
  · obtain ⟨T, h1, h2, h3, h4, h5, h6, P', Q', h7, h8, h9, h10, h11, h12, h13⟩ := show_read hP hQ hd1 hd2 hm
    have hPn : 0 < P.natAbs := by omega
    obtain ⟨x1, x2, x3, x4, x5⟩ := shX_bds (many := many) hPn hQ hd1 hd2 hm
    obtain ⟨b1, b2, b3, b4⟩ := back_bds x4 (by omega) ⟨x1, x2⟩ h10 h13
    refine ⟨T, P', Q', h1, h2, h3, by rw [Bool.and_eq_true]; exact ⟨h4, h5⟩, h6, h7, h8, h9, b1, b2, b3, b4, ?_, fun hs => ?_⟩
    · rw [← h3]
      have ha := shA_again (P' := P'.natAbs) many hPn hQ (by omega) h9 h13
      unfold shS
      rw [if_neg hP, if_neg h11, ha]
      by_cases hn : P < 0
      · rw [if_pos hn, if_pos (by rw [decide_eq_true hn] at h12; exact of_decide_eq_true h12)]
      · rw [if_neg hn, if_neg (by rw [decide_eq_false hn] at h12; exact of_decide_eq_false h12)]
    · unfold shrt at hs
      rw [decide_eq_false hP, Bool.false_or, Bool.and_eq_true] at hs
      exact back_same hP hQ hg hm.1 h9 h10 h12 h13 (of_decide_eq_true hs.1)

end Go.Proofs.YtgpcfncolhmgfaaGreatDoor

