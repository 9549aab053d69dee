/-
  Proved: the law NatReads of package typeballlaw01 returns true for every text (statement NatReadsCardSaid), under the row's own condition that the two listed tables of unicode/utf8 start as the program's text lays them.
-/
import Derived.Test.YtimihhnnhpejcaaDoorLaw1
import Derived.Test.YtimihhnnhpejcaaDoorRef5
import Derived.Test.YtimihhnnhpejcaaDoorCards
import Derived.Test.YtimihhnnhpejcaaDoorTie
import Derived.ProofKit
import Derived.OpenShut
import Derived.LaidMore
import Derived.Lay
import Derived.SevenTiedAt
import Derived.Stop.Joined
namespace Go.Proofs.YtimihhnnhpejcaaDoor
open Go.ChangeShapes Go.WideShapes Go.ChangeAt Go.RowKit Go.WideMaps Go.WideElems
open Go.ChangeMaps (open_string shut_string)

theorem limbs_of_bits {N n : Nat} (h1 : N < 4294967296 ^ n) (h2 : 0 < n → 4294967296 ^ (n - 1) ≤ N) : (nbits N + 31) / 32 = n := by
  have e : ∀ k, (4294967296 : Nat) ^ k = 2 ^ (32 * k) := fun k => by rw [Nat.pow_mul]
  have h3 : nbits N ≤ 32 * n := nbits_le.2 (by rw [← e]; exact h1)
  rcases Nat.eq_zero_or_pos n with h0 | h0
  · omega
  · have h4 := h2 h0
    have h5 : ¬ nbits N ≤ 32 * (n - 1) := fun h => by
      have := nbits_le.1 h
      rw [← e] at this; omega
    omega

def LimbsOut (w w' : World) (e : Ending) (N : Nat) : Prop := e = .returned (.int .i64 ((nbits N + 31) / 32 : Nat)) ∧ Below w.heap.size w w'
theorem limbs_bits (v : Value) (N : Nat) (w : World) (h : NatIs w v N) : Calls Tryd.prog 22 #[v] w fun e w' => LimbsOut w w' e N := by
  refine (limbs_any v N w h).mono ?_
  rintro e w' ⟨n, rfl, _, _, h1, hb⟩
  exact ⟨by rw [limbs_of_bits h1.out.1 h1.out.2], hb⟩

theorem dec_eq_digit (N d : Nat) (hd : d < 10) : ((str (dec N)).toList == [UInt8.ofNat (48 + d)]) = decide (N = d) := by
  rw [Bool.eq_iff_iff, beq_iff_eq, decide_eq_true_eq, ByteArray.toList_eq, str_toList, ← dec_small hd]
  constructor
  · intro h
    have := congrArg numOf h
    rw [numOf_dec, numOf_dec] at this
    exact this
  · intro h; rw [h]

theorem last_digit (N : Nat) {k : Nat} (hk : dl N = k + 1) (h : k < (str (dec N)).size) : ((str (dec N))[k]).toNat = 48 + N % 10 := by
  have h1 := sdig_get N (dl N) k (by omega)
  have h2 : (dec N)[k]? = some ((str (dec N))[k]) := by
    rw [List.getElem?_eq_getElem (by have : (dec N).length = dl N := sdig_length _ _; omega)]; rfl
  have h3 : (str (dec N))[k] = dgt N (dl N - 1 - k) := by
    have : (dec N)[k]? = some (dgt N (dl N - 1 - k)) := h1
    rw [h2] at this
    exact Option.some.inj this
  rw [h3, dgt_toNat, show dl N - 1 - k = 0 by omega, Nat.pow_zero, Nat.div_one]

/-- What the law asks of a number and its digits. -/
structure Asks (N : Nat) (D : ByteArray) : Prop where
  tx : ∀ v wz, NatIs wz v N → Calls Tryd.prog 16 #[v] wz fun e w' => e = .returned (.string D) ∧ Below wz.heap.size wz w'
  ze : ∀ v wz, NatIs wz v N → Calls Tryd.prog 17 #[v] wz fun e w' => e = .returned (.bool (decide (N = 0))) ∧ Below wz.heap.size wz w'
  one : ∀ v wz, NatIs wz v N → Calls Tryd.prog 18 #[v] wz fun e w' => e = .returned (.bool (decide (N = 1))) ∧ Below wz.heap.size wz w'
  ev : ∀ v wz, NatIs wz v N → Calls Tryd.prog 19 #[v] wz fun e w' => e = .returned (.bool (decide (N % 2 = 0))) ∧ Below wz.heap.size wz w'
  bi : ∀ v wz, NatIs wz v N → Calls Tryd.prog 20 #[v] wz fun e w' => e = .returned (.int .i64 (nbits N)) ∧ Below wz.heap.size wz w'
  li : ∀ v wz, NatIs wz v N → Calls Tryd.prog 22 #[v] wz fun e w' => e = .returned (.int .i64 ((nbits N + 31) / 32 : Nat)) ∧ Below wz.heap.size wz w'
  un : ∀ v wz, NatIs wz v N → Calls Tryd.prog 14 #[v] wz fun e w' => e = .returned (.tuple #[.int .u64 (uI N), .bool (decide (N < 18446744073709551616))]) ∧ Below wz.heap.size wz w'
  ru : ∀ wz, Calls Tryd.prog 15 #[.string D] wz fun e w' => e = .returned (.tuple #[.int .u64 (uI N), .bool (decide (N < 18446744073709551616))]) ∧ wz = w'
  rb : ∀ wz, Calls Tryd.prog 21 #[.string D] wz fun e w' => e = .returned (.int .i64 (nbits N)) ∧ Below wz.heap.size wz w'
  rl : ∀ wz, Calls Tryd.prog 23 #[.string D] wz fun e w' => e = .returned (.int .i64 ((nbits N + 31) / 32 : Nat)) ∧ Below wz.heap.size wz w'

theorem asks (N : Nat) (h : N < 10 ^ 120) : Asks N (str (dec N)) := by
  have hl : dl N ≤ 120 := dl_le N 120 (by omega) h
  have h1 := lim120 h
  have h2 : N < 65536 ^ 25 := Nat.lt_trans h (by decide)
  exact ⟨fun v wz hv => text_any v N wz hv 13 (by omega) h1, fun v wz hv => zero_any v N wz hv, fun v wz hv => one_any v N wz hv, fun v wz hv => even_any v N wz hv, fun v wz hv => bits_any v N wz hv, fun v wz hv => limbs_bits v N wz hv,
    fun v wz hv => uint_any v N wz hv, fun wz => runi_any N wz (by omega), fun wz => rbits_any N 25 wz (by omega) (by omega) h2, fun wz => rlimbs_any N 25 wz (by omega) (by omega) h2⟩

set_option maxHeartbeats 3200000 in
set_option maxRecDepth 100000 in
theorem natReads_yes (s : ByteArray) (w : World) (hs : s.size ≤ maxLen) (h120 : s.size ≤ 120) (hok : okB s.data.toList = true) : Calls Tryd.prog 3 #[.string s] w fun e w' => e = .returned (.bool true) ∧ Below w.heap.size w w' := by
  have HR := Lib.hid (fun wz => right_any s wz hs)
  rw [hok] at HR
  obtain ⟨g1, g2, g3⟩ := okB_digs hok
  have HP : Hid (∀ wz, Calls Tryd.prog 11 #[.string s] wz fun e w' => ∃ a n c, e = .returned (.tuple #[.agg #[.slice a n c], .bool true]) ∧ NatIs w' (.agg #[.slice a n c]) (numOf s.data.toList) ∧ Below wz.heap.size wz w') := by
    intro wz
    refine (parse_any s wz hs).mono ?_
    rintro e w' ⟨a, n, c, rfl, hv, _, hb⟩
    rw [hok, if_pos rfl] at hv
    exact ⟨a, n, c, by rw [hok], hv, hb⟩
  have HT : Hid (∀ wz, Calls Tryd.prog 13 #[.string s] wz fun e w' => e = .returned (.string (str (dec (numOf s.data.toList)))) ∧ wz = w') := by
    intro wz
    have h1 := trim_any (numOf s.data.toList) s.data.toList.length wz g1 (numOf_lt _ g3) (by omega)
    rw [sdig_numOf _ g3] at h1
    exact h1
  have hN := (read_bound h120 hok).1
  generalize numOf s.data.toList = N at *
  have HA := Lib.hid (asks N hN)
  have hdl : dl N ≤ 120 := dl_le N 120 (by omega) hN
  have hdp := dl_pos N
  have hz := dec_eq_digit N 0 (by omega)
  have ho := dec_eq_digit N 1 (by omega)
  have hsz : (str (dec N)).size = dl N := by rw [str_size]; exact sdig_length _ _
  obtain ⟨k, hk⟩ : ∃ k, dl N = k + 1 := ⟨dl N - 1, by omega⟩
  have hlast := last_digit N hk (by omega)
  obtain ⟨D, hD⟩ : ∃ D, str (dec N) = D := ⟨_, rfl⟩
  rw [hD] at HA HT hsz
  have hlast2 : ∃ h : k < D.size, (D[k]).toNat = 48 + N % 10 := by subst hD; exact ⟨by omega, hlast⟩
  rw [hD] at hz ho
  obtain ⟨hkD, hlast3⟩ := hlast2
  have hz' : (D.toList == [48]) = decide (N = 0) := hz
  have ho' : (D.toList == [49]) = decide (N = 1) := ho
  obtain ⟨x, hx⟩ : ∃ x, N % 10 = x := ⟨_, rfl⟩
  obtain ⟨y, hy⟩ : ∃ y, x % 2 = y := ⟨_, rfl⟩
  have hyy : y = N % 2 := by omega
  obtain ⟨cc, hcc⟩ : ∃ cc, D[k] = cc := ⟨_, rfl⟩
  rw [hcc, hx] at hlast3
  have e1 : (D.size : Int) - 1 = (k : Int) := by omega
  have e2 : (cc.toNat : Int) - 48 = (x : Int) := by omega
  have e3 : (x : Int) % 2 = (y : Int) := by omega
  have e4 : (48 : Int) ≤ (cc.toNat : Int) := by omega
  have e5 : ((y : Int) == 0) = decide (N % 2 = 0) := by rw [← hyy, Bool.eq_iff_iff]; simp
  have e6 : (x : Int) % 256 = (x : Int) := by omega
  have hDl : D.size ≤ 120 := by omega
  have d1 : decide ((120 : Int) < (s.size : Int)) = false := decide_eq_false (by omega)

  have hkk : (k : Int) < (D.size : Int) := by omega
  clear g1 g2 g3 hN hdp hz ho hsz hk hlast hD hlast3 hx hy hyy hdl hs hok
  go_enter Tryd.func3, Tryd.ntmps3
  go_wp2_with fail
  go_at_call 11
  refine (HP.out _).mono ?_
  rintro e w1 ⟨a, n, c, rfl, hi1, hb1⟩
  have HB1' := Lib.hid (hb1.alloc hb1.size (.cells #[.slice a n c] 25))
  have HI1 := Lib.hid (hi1.alloc (.cells #[.slice a n c] 25))
  have S1 := Lib.hid (Slot.new w1 (.slice a n c) 25)
  clear hi1 hb1
  go_wp2_with fail
  go_at_call 12
  refine (HR.out _).mono ?_
  rintro e wq ⟨rfl, rfl⟩
  go_wp2_with fail
  go_at_call 13
  refine (HT.out _).mono ?_
  rintro e wq ⟨rfl, rfl⟩
  have q := S1.out.cell
  go_wp2_with fail
  go_at_call 14
  refine (HA.out.un _ _ HI1.out).mono ?_
  rintro e w3 ⟨rfl, hb3⟩
  clear q
  have HI3 := Lib.hid (HI1.out.below hb3)
  have S3 := Lib.hid (S1.out.below hb3)
  have HB3 := Lib.hid (HB1'.out.trans (hb3.mono HB1'.out.size))
  clear hb3
  go_wp2_with fail
  go_at_call 15
  refine (HA.out.ru _).mono ?_
  rintro e wq ⟨rfl, rfl⟩
  have q := S3.out.cell
  go_wp2_with fail
  go_at_call 16
  refine (HA.out.tx _ _ HI3.out).mono ?_
  rintro e w4 ⟨rfl, hb4⟩
  clear q
  have HI4 := Lib.hid (HI3.out.below hb4)
  have S4 := Lib.hid (S3.out.below hb4)
  have HB4 := Lib.hid (HB3.out.trans (hb4.mono HB3.out.size))
  clear hb4
  have q := S4.out.cell
  go_wp2_with fail
  go_at_call 17
  refine (HA.out.ze _ _ HI4.out).mono ?_
  rintro e w5 ⟨rfl, hb5⟩
  clear q
  have HI5 := Lib.hid (HI4.out.below hb5)
  have S5 := Lib.hid (S4.out.below hb5)
  have HB5 := Lib.hid (HB4.out.trans (hb5.mono HB4.out.size))
  clear hb5
  have q := S5.out.cell
  go_wp2_with fail
  go_at_call 18
  refine (HA.out.one _ _ HI5.out).mono ?_
  rintro e w6 ⟨rfl, hb6⟩
  clear q
  have HI6 := Lib.hid (HI5.out.below hb6)
  have S6 := Lib.hid (S5.out.below hb6)
  have HB6 := Lib.hid (HB5.out.trans (hb6.mono HB5.out.size))
  clear hb6
  have q := S6.out.cell
  go_wp2_with fail
  go_at_call 19
  refine (HA.out.ev _ _ HI6.out).mono ?_
  rintro e w7 ⟨rfl, hb7⟩
  clear q
  have HI7 := Lib.hid (HI6.out.below hb7)
  have S7 := Lib.hid (S6.out.below hb7)
  have HB7 := Lib.hid (HB6.out.trans (hb7.mono HB6.out.size))
  clear hb7
  have q := S7.out.cell
  go_wp2_with fail
  go_at_call 20
  refine (HA.out.bi _ _ HI7.out).mono ?_
  rintro e w8 ⟨rfl, hb8⟩
  clear q
  have HI8 := Lib.hid (HI7.out.below hb8)
  have S8 := Lib.hid (S7.out.below hb8)
  have HB8 := Lib.hid (HB7.out.trans (hb8.mono HB7.out.size))
  clear hb8
  go_wp2_with fail
  go_at_call 21
  refine (HA.out.rb _).mono ?_
  rintro e w9 ⟨rfl, hb9⟩
  have HI9 := Lib.hid (HI8.out.below hb9)
  have S9 := Lib.hid (S8.out.below hb9)
  have HB9 := Lib.hid (HB8.out.trans (hb9.mono HB8.out.size))
  clear hb9
  have q := S9.out.cell
  go_wp2_with fail
  go_at_call 22
  refine (HA.out.li _ _ HI9.out).mono ?_
  rintro e w10 ⟨rfl, hb10⟩
  clear q
  have HB10 := Lib.hid (HB9.out.trans (hb10.mono HB9.out.size))
  clear hb10
  go_wp2_with fail
  go_at_call 23
  refine (HA.out.rl _).mono ?_
  rintro e w11 ⟨rfl, hb11⟩
  have HB11 := Lib.hid (HB10.out.trans (hb11.mono HB10.out.size))
  clear hb11
  go_wp2_with fail
  go_at_call 10
  refine (awake_any _).mono ?_
  rintro e w12 ⟨rfl, hb12⟩
  have HB12 := Lib.hid (HB11.out.trans (hb12.mono HB11.out.size))
  clear hb12
  go_wp2
  go_ret
  exact ⟨rfl, HB12.out⟩

set_option maxHeartbeats 3200000 in
set_option maxRecDepth 100000 in
theorem natReads_no1 (s : ByteArray) (w : World) (hs : s.size ≤ maxLen) (hx : s.size ≤ 120) (hok : okB s.data.toList = false) : Calls Tryd.prog 3 #[.string s] w fun e w' => e = .returned (.bool true) ∧ Below w.heap.size w w' := by
  have HR := Lib.hid (fun wz => right_any s wz hs)
  rw [hok] at HR
  have HP : Hid (∀ wz, Calls Tryd.prog 11 #[.string s] wz fun e w' => ∃ a n c, e = .returned (.tuple #[.agg #[.slice a n c], .bool false]) ∧ NatIs w' (.agg #[.slice a n c]) 0 ∧ Below wz.heap.size wz w') := by
    intro wz
    refine (parse_any s wz hs).mono ?_
    rintro e w' ⟨a, n, c, rfl, hv, _, hb⟩
    rw [hok, if_neg (by decide)] at hv
    exact ⟨a, n, c, by rw [hok], hv, hb⟩
  have hA := asks 0 (Nat.pow_pos (by omega))
  rw [dec_zero] at hA
  have HA : Hid (Asks 0 ⟨#[48]⟩) := hA
  unfold maxLen at hs
  have d1 : decide ((120 : Int) < (s.size : Int)) = false := decide_eq_false (by omega)
  clear hok hA
  go_enter Tryd.func3, Tryd.ntmps3
  go_wp2_with fail
  go_at_call 11
  refine (HP.out _).mono ?_
  rintro e w1 ⟨a, n, c, rfl, hi1, hb1⟩
  have HB1' := Lib.hid (hb1.alloc hb1.size (.cells #[.slice a n c] 25))
  have HI1 := Lib.hid (hi1.alloc (.cells #[.slice a n c] 25))
  have S1 := Lib.hid (Slot.new w1 (.slice a n c) 25)
  clear hi1 hb1
  go_wp2_with fail
  go_at_call 12
  refine (HR.out _).mono ?_
  rintro e wq ⟨rfl, rfl⟩
  have q := S1.out.cell
  go_wp2_with fail
  go_at_call 14
  refine (HA.out.un _ _ HI1.out).mono ?_
  rintro e w3 ⟨rfl, hb3⟩
  clear q
  have HI3 := Lib.hid (HI1.out.below hb3)
  have S3 := Lib.hid (S1.out.below hb3)
  have HB3 := Lib.hid (HB1'.out.trans (hb3.mono HB1'.out.size))
  clear hb3
  go_wp2_with fail
  go_at_call 15
  refine (HA.out.ru _).mono ?_
  rintro e wq ⟨rfl, rfl⟩
  have q := S3.out.cell
  go_wp2_with fail
  go_at_call 16
  refine (HA.out.tx _ _ HI3.out).mono ?_
  rintro e w4 ⟨rfl, hb4⟩
  clear q
  have HI4 := Lib.hid (HI3.out.below hb4)
  have S4 := Lib.hid (S3.out.below hb4)
  have HB4 := Lib.hid (HB3.out.trans (hb4.mono HB3.out.size))
  clear hb4
  have q := S4.out.cell
  go_wp2_with fail
  go_at_call 17
  refine (HA.out.ze _ _ HI4.out).mono ?_
  rintro e w5 ⟨rfl, hb5⟩
  clear q
  have HI5 := Lib.hid (HI4.out.below hb5)
  have S5 := Lib.hid (S4.out.below hb5)
  have HB5 := Lib.hid (HB4.out.trans (hb5.mono HB4.out.size))
  clear hb5
  have q := S5.out.cell
  go_wp2_with fail
  go_at_call 18
  refine (HA.out.one _ _ HI5.out).mono ?_
  rintro e w6 ⟨rfl, hb6⟩
  clear q
  have HI6 := Lib.hid (HI5.out.below hb6)
  have S6 := Lib.hid (S5.out.below hb6)
  have HB6 := Lib.hid (HB5.out.trans (hb6.mono HB5.out.size))
  clear hb6
  have q := S6.out.cell
  go_wp2_with fail
  go_at_call 19
  refine (HA.out.ev _ _ HI6.out).mono ?_
  rintro e w7 ⟨rfl, hb7⟩
  clear q
  have HI7 := Lib.hid (HI6.out.below hb7)
  have S7 := Lib.hid (S6.out.below hb7)
  have HB7 := Lib.hid (HB6.out.trans (hb7.mono HB6.out.size))
  clear hb7
  have q := S7.out.cell
  go_wp2_with fail
  go_at_call 20
  refine (HA.out.bi _ _ HI7.out).mono ?_
  rintro e w8 ⟨rfl, hb8⟩
  clear q
  have HI8 := Lib.hid (HI7.out.below hb8)
  have S8 := Lib.hid (S7.out.below hb8)
  have HB8 := Lib.hid (HB7.out.trans (hb8.mono HB7.out.size))
  clear hb8
  go_wp2_with fail
  go_at_call 21
  refine (HA.out.rb _).mono ?_
  rintro e w9 ⟨rfl, hb9⟩
  have HI9 := Lib.hid (HI8.out.below hb9)
  have S9 := Lib.hid (S8.out.below hb9)
  have HB9 := Lib.hid (HB8.out.trans (hb9.mono HB8.out.size))
  clear hb9
  have q := S9.out.cell
  go_wp2_with fail
  go_at_call 22
  refine (HA.out.li _ _ HI9.out).mono ?_
  rintro e w10 ⟨rfl, hb10⟩
  clear q
  have HB10 := Lib.hid (HB9.out.trans (hb10.mono HB9.out.size))
  clear hb10
  go_wp2_with fail
  go_at_call 23
  refine (HA.out.rl _).mono ?_
  rintro e w11 ⟨rfl, hb11⟩
  have HB11 := Lib.hid (HB10.out.trans (hb11.mono HB10.out.size))
  clear hb11
  go_wp2_with fail
  go_at_call 10
  refine (awake_any _).mono ?_
  rintro e w12 ⟨rfl, hb12⟩
  have HB12 := Lib.hid (HB11.out.trans (hb12.mono HB11.out.size))
  clear hb12
  go_wp2
  go_ret
  exact ⟨rfl, HB12.out⟩

set_option maxHeartbeats 3200000 in
set_option maxRecDepth 100000 in
theorem natReads_no2 (s : ByteArray) (w : World) (hs : s.size ≤ maxLen) (hx : 2000 < s.size) (hok : okB s.data.toList = false) : Calls Tryd.prog 3 #[.string s] w fun e w' => e = .returned (.bool true) ∧ Below w.heap.size w w' := by
  have HR := Lib.hid (fun wz => right_any s wz hs)
  rw [hok] at HR
  have HP : Hid (∀ wz, Calls Tryd.prog 11 #[.string s] wz fun e w' => ∃ a n c, e = .returned (.tuple #[.agg #[.slice a n c], .bool false]) ∧ NatIs w' (.agg #[.slice a n c]) 0 ∧ Below wz.heap.size wz w') := by
    intro wz
    refine (parse_any s wz hs).mono ?_
    rintro e w' ⟨a, n, c, rfl, hv, _, hb⟩
    rw [hok, if_neg (by decide)] at hv
    exact ⟨a, n, c, by rw [hok], hv, hb⟩
  have hA := asks 0 (Nat.pow_pos (by omega))
  rw [dec_zero] at hA
  have HA : Hid (Asks 0 ⟨#[48]⟩) := hA
  unfold maxLen at hs
  have d1 : decide ((120 : Int) < (s.size : Int)) = true := decide_eq_true (by omega)
  have d2 : decide ((s.size : Int) ≤ 2000) = false := decide_eq_false (by omega)
  clear hok hA
  go_enter Tryd.func3, Tryd.ntmps3
  go_wp2_with fail
  go_at_call 11
  refine (HP.out _).mono ?_
  rintro e w1 ⟨a, n, c, rfl, hi1, hb1⟩
  have HB1' := Lib.hid (hb1.alloc hb1.size (.cells #[.slice a n c] 25))
  have HI1 := Lib.hid (hi1.alloc (.cells #[.slice a n c] 25))
  have S1 := Lib.hid (Slot.new w1 (.slice a n c) 25)
  clear hi1 hb1
  go_wp2_with fail
  go_at_call 12
  refine (HR.out _).mono ?_
  rintro e wq ⟨rfl, rfl⟩
  have q := S1.out.cell
  go_wp2_with fail
  go_at_call 14
  refine (HA.out.un _ _ HI1.out).mono ?_
  rintro e w3 ⟨rfl, hb3⟩
  clear q
  have HI3 := Lib.hid (HI1.out.below hb3)
  have S3 := Lib.hid (S1.out.below hb3)
  have HB3 := Lib.hid (HB1'.out.trans (hb3.mono HB1'.out.size))
  clear hb3
  go_wp2_with fail
  go_at_call 15
  refine (HA.out.ru _).mono ?_
  rintro e wq ⟨rfl, rfl⟩
  have q := S3.out.cell
  go_wp2_with fail
  go_at_call 16
  refine (HA.out.tx _ _ HI3.out).mono ?_
  rintro e w4 ⟨rfl, hb4⟩
  clear q
  have HI4 := Lib.hid (HI3.out.below hb4)
  have S4 := Lib.hid (S3.out.below hb4)
  have HB4 := Lib.hid (HB3.out.trans (hb4.mono HB3.out.size))
  clear hb4
  have q := S4.out.cell
  go_wp2_with fail
  go_at_call 17
  refine (HA.out.ze _ _ HI4.out).mono ?_
  rintro e w5 ⟨rfl, hb5⟩
  clear q
  have HI5 := Lib.hid (HI4.out.below hb5)
  have S5 := Lib.hid (S4.out.below hb5)
  have HB5 := Lib.hid (HB4.out.trans (hb5.mono HB4.out.size))
  clear hb5
  have q := S5.out.cell
  go_wp2_with fail
  go_at_call 18
  refine (HA.out.one _ _ HI5.out).mono ?_
  rintro e w6 ⟨rfl, hb6⟩
  clear q
  have HI6 := Lib.hid (HI5.out.below hb6)
  have S6 := Lib.hid (S5.out.below hb6)
  have HB6 := Lib.hid (HB5.out.trans (hb6.mono HB5.out.size))
  clear hb6
  have q := S6.out.cell
  go_wp2_with fail
  go_at_call 19
  refine (HA.out.ev _ _ HI6.out).mono ?_
  rintro e w7 ⟨rfl, hb7⟩
  clear q
  have HI7 := Lib.hid (HI6.out.below hb7)
  have S7 := Lib.hid (S6.out.below hb7)
  have HB7 := Lib.hid (HB6.out.trans (hb7.mono HB6.out.size))
  clear hb7
  have q := S7.out.cell
  go_wp2_with fail
  go_at_call 20
  refine (HA.out.bi _ _ HI7.out).mono ?_
  rintro e w8 ⟨rfl, hb8⟩
  clear q
  have HI8 := Lib.hid (HI7.out.below hb8)
  have S8 := Lib.hid (S7.out.below hb8)
  have HB8 := Lib.hid (HB7.out.trans (hb8.mono HB7.out.size))
  clear hb8
  go_wp2_with fail
  go_at_call 21
  refine (HA.out.rb _).mono ?_
  rintro e w9 ⟨rfl, hb9⟩
  have HI9 := Lib.hid (HI8.out.below hb9)
  have S9 := Lib.hid (S8.out.below hb9)
  have HB9 := Lib.hid (HB8.out.trans (hb9.mono HB8.out.size))
  clear hb9
  have q := S9.out.cell
  go_wp2_with fail
  go_at_call 22
  refine (HA.out.li _ _ HI9.out).mono ?_
  rintro e w10 ⟨rfl, hb10⟩
  clear q
  have HB10 := Lib.hid (HB9.out.trans (hb10.mono HB9.out.size))
  clear hb10
  go_wp2_with fail
  go_at_call 23
  refine (HA.out.rl _).mono ?_
  rintro e w11 ⟨rfl, hb11⟩
  have HB11 := Lib.hid (HB10.out.trans (hb11.mono HB10.out.size))
  clear hb11
  go_wp2_with fail
  go_at_call 10
  refine (awake_any _).mono ?_
  rintro e w12 ⟨rfl, hb12⟩
  have HB12 := Lib.hid (HB11.out.trans (hb12.mono HB11.out.size))
  clear hb12
  go_wp2
  go_ret
  exact ⟨rfl, HB12.out⟩

set_option maxHeartbeats 800000 in
set_option maxRecDepth 100000 in
theorem natReads_mid (s : ByteArray) (w : World) (h1 : 120 < s.size) (h2 : s.size ≤ 2000) : Calls Tryd.prog 3 #[.string s] w fun e w' => e = .returned (.bool true) ∧ Below w.heap.size w w' := by
  have d1 : decide ((120 : Int) < (s.size : Int)) = true := decide_eq_true (by omega)
  have d2 : decide ((s.size : Int) ≤ 2000) = true := decide_eq_true (by omega)
  go_enter Tryd.func3, Tryd.ntmps3
  go_wp2_with (go_at_call 10; refine (awake_any _).mono ?_; rintro e w1 ⟨rfl, hb1⟩)
  go_ret
  exact ⟨rfl, hb1⟩

theorem natReads_walk (s : ByteArray) (w : World) (hs : s.size ≤ maxLen) : Calls Tryd.prog 3 #[.string s] w fun e w' => e = .returned (.bool true) ∧ Below w.heap.size w w' := by
  by_cases h1 : s.size ≤ 120
  · cases hok : okB s.data.toList with
    | true => exact natReads_yes s w hs h1 hok
    | false => exact natReads_no1 s w hs h1 hok
  · by_cases h2 : s.size ≤ 2000
    · exact natReads_mid s w (by omega) h2
    · refine natReads_no2 s w hs (by omega) ?_
      cases hk : okB s.data.toList
      · rfl
      · have := (okB_digs hk).2.1
        have e : s.data.toList.length = s.size := rfl
        omega

theorem own : ownKnob Tryd.prog.godebug = none := by kernel_rfl

set_option maxRecDepth 100000 in
theorem natReads_lifted (os : Os) (started : os.Started) (H : Type) (enc : TypeId × Value → H) :
    ReturnsInHanded {} Tryd.checked os 3 .any (fun w args => (Rows.natReadsSpec.pre enc Tryd.prog Tryd.f3 [] false w args ∧ laidMetH Tryd.prog Rows.natReadsRow.laid w) ∧ sizedMet enc Tryd.prog Tryd.f3 (OpenSpec.ofChange Rows.natReadsSpec) false w args)
      (Rows.natReadsSpec.post enc Tryd.prog Tryd.f3 false true false false) := by
  refine returnsInHanded_of_change_and (C := Tryd.checked) (X := fun w _ => laidMetH Tryd.prog Rows.natReadsRow.laid w) (fun _ _ _ hh h => h.of_heap hh) own started (by kernel_rfl) Tryd.func3
    (ChangeSpec.witness_shaped (enc := enc) (C := Tryd.checked) (os := os) (X := fun w _ => laidMetH Tryd.prog Rows.natReadsRow.laid w) false (World.laidAll Tryd.prog os Rows.natReadsRow.laid) #[.string ⟨#[]⟩] 8 (World.laidAll_os _ _ _)
      (World.shaped_of_ZipB (by kernel_rfl) (by kernel_rfl)) (by kernel_rfl) (by kernel_rfl) (by kernel_rfl)
      (by rw [MakeChecks.laidMetH_plain _ _ _ (by kernel_rfl)]; exact laidMet_laidAll _ (by kernel_rfl) (by kernel_rfl))) ?_
  intro W base args ds gs before hval0 hW _ _ _ _
  have hval : ∀ (j : Nat) t v, Tryd.f3.params[j]? = some t → args[j]? = some v → Value.okWide Tryd.prog W .any base t v := hval0
  have hW' := hW
  obtain ⟨p, q, hA0, hV, rfl, _, _⟩ := hW
  have hA : DataW.TrodAll enc Tryd.prog W 0 (fun _ => true) true Tryd.f3.params.toList args.toList ds p := hA0
  rw [Tryd.params3] at hA hval
  obtain ⟨v0, d0, rfl, rfl, h0⟩ := trodAll_one hA
  obtain ⟨rfl, rfl⟩ := trodVars_none hV
  obtain ⟨x0, rfl, rfl, rfl, b0⟩ := open_string Tryd.underlying9 (hval 0 9 v0 rfl rfl) h0
  simp only [List.append_nil] at hW'
  refine (natReads_walk x0 W b0).mono fun e W' ⟨he, hb⟩ => ?_
  subst he
  exact ⟨_, rfl, _, _, _, [], [], [], hW', trodAll_mk1 (shut_bool Tryd.underlying4 _), trodAll_mk1 (shut_string Tryd.underlying9 b0), rfl, hb.frame _, fun h => by cases h⟩

theorem natReads_row : Rows.NatReadsSaid :=
  OpenClaim.holds_of_wide 3 Tryd.f3 rfl rfl rfl rfl rfl rfl rfl ⟨rfl, rfl, rfl, rfl, rfl⟩ rfl rfl rfl rfl rfl (by kernel_rfl) Tryd.func3 (by kernel_rfl)
    (of_decide_eq_true (by kernel_rfl)) (by unfold Func.isWrapper; first | (rw [if_pos (by decide +kernel)]; kernel_rfl) | (rw [if_neg (by decide +kernel)]; exact ⟨rfl, rfl⟩))
    (fun os started H enc _ => natReads_lifted os started H enc)

theorem natReads_holds : Rows.NatReadsCardSaid :=
  Claim7.holds_tied_plain_at .later [] [.data, .pinned] true Rows.natReadsCard.stood.harness false natReads_row (fun _ h => by cases h) (by kernel_rfl) (fun _ h => by cases h) natReads_row_tie rfl ⟨rfl, rfl⟩ (by kernel_rfl) rfl
    (fun f fn hf hfn => by
      obtain rfl : f = 3 := Option.some.inj ((show Tryd.prog.funcNamed "typeball/typeballlaw01.NatReads" = some 3 by kernel_rfl).symm.trans hf) |>.symm
      obtain rfl : fn = Tryd.f3 := (Option.some.inj (Tryd.func3.symm.trans hfn)).symm
      exact ⟨by kernel_rfl, fun j t ht => by
        rw [Tryd.params3] at ht
        have hm : t ∈ [9] := by simpa using Array.mem_of_getElem? ht
        have hall : ([9].all fun u => !Tryd.prog.wantsStandIn u) = true := by kernel_rfl
        exact (show Tryd.prog.wantsStandIn t = false by simpa using List.all_eq_true.1 hall t hm)⟩)
    (by kernel_rfl)
#print axioms natReads_holds
end Go.Proofs.YtimihhnnhpejcaaDoor
