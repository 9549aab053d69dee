/-
  The document's answers (package typeballref01): Pow, by contract.
-/
import Derived.Test.YtimihhnnhpejcaaDoorNatReads
import Derived.Test.YtimihhnnhpejcaaDoorRef7
namespace Go.Proofs.YtimihhnnhpejcaaDoor
open Go.RowKit

/-- How many limbs a number has. -/
def lb (N : Nat) : Nat := (nbits N + 31) / 32
theorem lb_le {N m : Nat} : lb N ≤ m ↔ N < 2 ^ (32 * m) := by
  rw [← nbits_le]; unfold lb; omega
theorem lb_mono {N M : Nat} (h : N ≤ M) : lb N ≤ lb M := by
  rw [lb_le]; exact Nat.lt_of_le_of_lt h (lb_le.1 (Nat.le_refl _))
theorem pow_mono {X a b : Nat} (hX : 0 < X) (h : a ≤ b) : X ^ a ≤ X ^ b := Nat.pow_le_pow_right hX h

/-- The power, and whether it is one. -/
def powN (X : Nat) (n most : Int) : Nat × Bool :=
  if n ≤ 0 ∨ X = 1 then (1, true) else if X = 0 then (0, true) else if (lb (X ^ n.toNat) : Int) ≤ most then (X ^ n.toNat, true) else (0, false)

theorem two_ten (e : Nat) : 2 ^ e ≤ 10 ^ e := Nat.pow_le_pow_left (by omega) e
theorem dl_bits {N e : Nat} (h0 : 0 < e) (h : N < 2 ^ e) : dl N ≤ e := dl_le N e h0 (Nat.lt_of_lt_of_le h (two_ten e))
theorem ten_two (e : Nat) : 10 ^ e ≤ 2 ^ (4 * e) := by rw [Nat.pow_mul]; exact Nat.pow_le_pow_left (by omega) e
theorem two_words (e E : Nat) (h : e ≤ 16 * E) : 2 ^ e ≤ 65536 ^ E := by
  have h3 : (65536 : Nat) ^ E = 2 ^ (16 * E) := by rw [Nat.pow_mul]
  rw [h3]; exact Nat.pow_le_pow_right (by omega) h

theorem str_sdig_dec (N : Nat) : str (dec N) = str (sdig N (dl N)) := rfl

theorem rmulD (x y : Nat) (w : World) (hx : dl x ≤ 1000) (hy : dl y ≤ 1000) :
    Calls Tryd.prog 36 #[.string (str (dec x)), .string (str (dec y))] w fun e w' => e = .returned (.string (str (dec (x * y)))) ∧ Below w.heap.size w w' :=
  rmul_any x (dl x) y (dl y) w (dl_lt x) (dl_lt y) (by omega) (by omega)

/-- One factor more: what the calls give. -/
theorem pow_next {X k : Nat} {most : Int} (hX : dl X ≤ 30) (hm : most ≤ 12) (h : k = 0 ∨ (lb (X ^ k) : Int) ≤ most) :
    (∀ w, Calls Tryd.prog 36 #[.string (str (dec (X ^ k))), .string (str (dec X))] w fun e w' => e = .returned (.string (str (dec (X ^ (k + 1))))) ∧ Below w.heap.size w w') ∧
    (∀ w, Calls Tryd.prog 23 #[.string (str (dec (X ^ (k + 1))))] w fun e w' => e = .returned (.int .i64 (lb (X ^ (k + 1)))) ∧ Below w.heap.size w w') ∧ lb (X ^ (k + 1)) ≤ 1000 := by
  obtain ⟨e, he⟩ : ∃ e, e = 384 := ⟨_, rfl⟩
  have hk : X ^ k < 2 ^ e := by
    rcases h with rfl | h
    · rw [Nat.pow_zero]; exact Nat.one_lt_two_pow (by omega)
    · obtain ⟨q, hq⟩ : ∃ q, q = 12 := ⟨_, rfl⟩
      have h1 : lb (X ^ k) ≤ q := by omega
      have h2 := lb_le.1 h1
      exact Nat.lt_of_lt_of_le h2 (Nat.pow_le_pow_right (by omega) (by omega))
  have hXb : X < 2 ^ (4 * 30) := by
    have h1 := dl_lt X
    exact Nat.lt_of_lt_of_le (Nat.lt_of_lt_of_le h1 (Nat.pow_le_pow_right (by omega) hX)) (ten_two 30)
  obtain ⟨g, hg⟩ : ∃ g, g = 4 * 30 := ⟨_, rfl⟩
  rw [← hg] at hXb
  have hp : X ^ (k + 1) < 2 ^ (e + g) := by
    rw [Nat.pow_succ, Nat.pow_add]
    exact Nat.lt_of_le_of_lt (Nat.mul_le_mul_left _ (Nat.le_of_lt hXb)) (Nat.mul_lt_mul_of_pos_right hk (Nat.pow_pos (by omega)))
  refine ⟨fun w => ?_, fun w => ?_, ?_⟩
  · rw [Nat.pow_succ]
    exact rmulD (X ^ k) X w (Nat.le_trans (dl_bits (by omega) hk) (by omega)) (by omega)
  · exact rlimbs_any (X ^ (k + 1)) 32 w (Nat.le_trans (dl_bits (by omega) hp) (by omega)) (by omega) (Nat.lt_of_lt_of_le hp (two_words _ _ (by omega)))
  · obtain ⟨q, hq⟩ : ∃ q, q = 16 := ⟨_, rfl⟩
    have h1 : lb (X ^ (k + 1)) ≤ q := lb_le.2 (Nat.lt_of_lt_of_le hp (Nat.pow_le_pow_right (by omega) (by omega)))
    omega

theorem powN_long {X k : Nat} {n most : Int} (hX : 2 ≤ X) (hn : 0 < n) (hk : (k : Int) ≤ n) (h : most < (lb (X ^ k) : Int)) : powN X n most = (0, false) := by
  have h1 : lb (X ^ k) ≤ lb (X ^ n.toNat) := lb_mono (pow_mono (by omega) (by omega))
  unfold powN
  rw [if_neg (by omega), if_neg (by omega), if_neg (by omega)]
theorem powN_full {X k : Nat} {n most : Int} (hX : 2 ≤ X) (hn : 0 < n) (hk : (k : Int) = n) (h : (lb (X ^ k) : Int) ≤ most) : powN X n most = (X ^ k, true) := by
  obtain rfl : k = n.toNat := by omega
  unfold powN
  rw [if_neg (by omega), if_neg (by omega), if_pos h]

theorem ret_pow {A B : Nat} {c d : Bool} (h : (A, c) = (B, d)) : Ending.returned (.tuple #[.string (str (dec A)), .bool c]) = .returned (.tuple #[.string (str (dec B)), .bool d]) := by
  cases h; rfl

set_option maxHeartbeats 2000000 in
set_option maxRecDepth 100000 in
theorem rpow_any (X : Nat) (n most : Int) (w : World) (hX : dl X ≤ 30) (hm : most ≤ 12) (hn : n ≤ 9223372036854775807) (hn0 : -9223372036854775808 ≤ n) :
    Calls Tryd.prog 43 #[.string (str (dec X)), .int .i64 n, .int .i64 most] w fun e w' => e = .returned (.tuple #[.string (str (dec (powN X n most).1)), .bool (powN X n most).2]) ∧ Below w.heap.size w w' := by
  have hd0 := dec_eq_digit X 0 (by omega)
  have hd1 := dec_eq_digit X 1 (by omega)
  have hs0 : str (dec 0) = ⟨#[48]⟩ := by rw [dec_small (by omega)]; rfl
  have hs1 : str (dec 1) = ⟨#[49]⟩ := by rw [dec_small (by omega)]; rfl
  have NX := Lib.hid (fun (k : Nat) (h : k = 0 ∨ (lb (X ^ k) : Int) ≤ most) => pow_next hX hm h)
  have HS1 := Lib.hid hs1
  by_cases h1 : n ≤ 0 ∨ X = 1
  · have hE : powN X n most = (1, true) := by unfold powN; rw [if_pos h1]
    rw [hE]
    have HE : Hid (Ending.returned (.tuple #[.string ⟨#[49]⟩, .bool true]) = .returned (.tuple #[.string (str (dec 1)), .bool true])) := by show _ = _; rw [hs1]
    have hz : ((str (dec X)).toList == [49]) = decide (X = 1) := hd1
    obtain ⟨D, hD⟩ : ∃ D, str (dec X) = D := ⟨_, rfl⟩
    rw [hD] at hz ⊢
    clear NX hd0 hd1 hE hs0 hs1 HS1 hD
    by_cases c1 : n ≤ 0
    · have d1 : decide (n ≤ 0) = true := decide_eq_true c1
      clear hz
      go_enter Tryd.func43, Tryd.ntmps43
      go_wp2
      go_ret2
      exact ⟨HE.out, Below.refl _ _⟩
    · have d1 : decide (n ≤ 0) = false := decide_eq_false c1
      have hX1 : X = 1 := by omega
      rw [decide_eq_true hX1] at hz
      go_enter Tryd.func43, Tryd.ntmps43
      go_wp2
      go_ret2
      exact ⟨HE.out, Below.refl _ _⟩
  · have d1 : decide (n ≤ 0) = false := decide_eq_false (by omega)
    have hz1 : ((str (dec X)).toList == [49]) = false := by
      have := hd1
      rw [decide_eq_false (by omega)] at this
      exact this
    by_cases h2 : X = 0
    · have hE : powN X n most = (0, true) := by unfold powN; rw [if_neg h1, if_pos h2]
      rw [hE]
      have HE : Hid (Ending.returned (.tuple #[.string ⟨#[48]⟩, .bool true]) = .returned (.tuple #[.string (str (dec 0)), .bool true])) := by show _ = _; rw [hs0]
      have hz0 : ((str (dec X)).toList == [48]) = true := by
        have := hd0
        rw [decide_eq_true h2] at this
        exact this
      generalize str (dec X) = D at *
      clear NX hd0 hd1 hE hs0 hs1 HS1
      go_enter Tryd.func43, Tryd.ntmps43
      go_wp2
      go_ret2
      exact ⟨HE.out, Below.refl _ _⟩
    · have hz0 : ((str (dec X)).toList == [48]) = false := by
        have := hd0
        rw [decide_eq_false h2] at this
        exact this
      have hX2 : 2 ≤ X := by omega
      have hn1 : 0 < n := by omega
      have HL := Lib.hid (fun (k : Nat) (hk : (k : Int) ≤ n) (h : most < (lb (X ^ k) : Int)) => powN_long hX2 hn1 hk h)
      have HF := Lib.hid (fun (k : Nat) (hk : (k : Int) = n) (h : (lb (X ^ k) : Int) ≤ most) => powN_full hX2 hn1 hk h)
      have hS0 : Hid ((⟨#[49]⟩ : ByteArray) = str (dec (X ^ 0))) := by show _ = _; rw [Nat.pow_zero, hs1]
      have HS0 := Lib.hid hs0
      obtain ⟨D, hD⟩ : ∃ D, str (dec X) = D := ⟨_, rfl⟩
      rw [hD] at NX hz0 hz1 ⊢
      clear hd0 hd1 hs0 hs1 HS1 hD h1 h2
      go_enter Tryd.func43, Tryd.ntmps43
      go_wp2
      go_loopw [8, 9] (fun z i wr => ∃ (k : Nat) (s : ByteArray), (k : Int) ≤ n ∧ i = .int .i64 k ∧ z = .string s ∧ Hid (s = str (dec (X ^ k)) ∧ (k = 0 ∨ (lb (X ^ k) : Int) ≤ most)) ∧ Below w.heap.size w wr)
        (fun _ i _ => n.toNat - (intOf i).toNat)
      case atStart => exact ⟨0, _, by omega, rfl, rfl, ⟨hS0.out, .inl rfl⟩, Below.refl _ _⟩
      case round =>
        obtain ⟨k, s, hk, rfl, rfl, hs, hb⟩ := hrel
        have HB := Lib.hid hb
        obtain ⟨hsk, hlk⟩ := hs.out
        by_cases c1 : (k : Int) < n
        · have d2 : decide ((k : Int) < n) = true := decide_eq_true c1
          obtain ⟨q1, q2, q3⟩ := NX.out k hlk
          rw [← hsk] at q1
          obtain ⟨s2, hs2⟩ : ∃ s2, str (dec (X ^ (k + 1))) = s2 := ⟨_, rfl⟩
          rw [hs2] at q1 q2
          have HS2 := Lib.hid hs2
          obtain ⟨l, hl⟩ : ∃ l, lb (X ^ (k + 1)) = l := ⟨_, rfl⟩
          rw [hl] at q2 q3
          have HLL := Lib.hid hl
          have Q1 := Lib.hid q1
          have Q2 := Lib.hid q2
          have hkn : ((k + 1 : Nat) : Int) ≤ n := by omega
          clear hs hb hsk hlk q1 q2 hs2 hl hz0 hz1
          go_wp2_with fail
          go_at_call 36
          refine (Q1.out wr).mono ?_
          rintro e w2 ⟨rfl, hb2⟩
          have HB2 := Lib.hid (HB.out.trans (hb2.mono HB.out.size))
          clear hb2
          go_wp2_with fail
          go_at_call 23
          refine (Q2.out w2).mono ?_
          rintro e w3 ⟨rfl, hb3⟩
          have HB3 := Lib.hid (HB2.out.trans (hb3.mono HB2.out.size))
          clear hb3
          by_cases c2 : most < (l : Int)
          · have d3 : decide (most < (l : Int)) = true := decide_eq_true c2
            have hE : Hid (powN X n most = (0, false)) := HL.out (k + 1) hkn (by rw [HLL.out]; exact c2)
            go_wp2
            go_ret2
            refine ⟨?_, HB3.out⟩
            rw [hE.out, HS0.out]
            rfl
          · have d3 : decide (most < (l : Int)) = false := decide_eq_false c2
            have hle : Hid (s2 = str (dec (X ^ (k + 1))) ∧ (k + 1 = 0 ∨ (lb (X ^ (k + 1)) : Int) ≤ most)) := ⟨HS2.out.symm, .inr (by rw [HLL.out]; omega)⟩
            go_wp2
            go_roundw
            case rel => exact ⟨k + 1, s2, hkn, by go_num, rfl, hle.out, HB3.out⟩
            case measure => simp [intOf]; omega
        · have d2 : decide ((k : Int) < n) = false := decide_eq_false c1
          have hE : Hid (powN X n most = (X ^ k, true)) := HF.out k (by omega) (by rcases hlk with rfl | h; · omega
                                                                                   · exact h)
          have HSK := Lib.hid hsk
          clear hs hb hsk hlk hz0 hz1
          go_wp2
          go_ret2
          refine ⟨?_, HB.out⟩
          rw [hE.out, HSK.out]
          rfl

end Go.Proofs.YtimihhnnhpejcaaDoor
