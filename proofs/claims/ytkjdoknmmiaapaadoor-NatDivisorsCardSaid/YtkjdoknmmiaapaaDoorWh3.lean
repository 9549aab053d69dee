/-
  Package whole: Digits, Cmp, From, Int, by contract.
-/
import Derived.Test.YtkjdoknmmiaapaaDoorWh2
import Derived.Test.YtkjdoknmmiaapaaDoorNat22
import Derived.Test.YtkjdoknmmiaapaaDoorRef1
import Derived.IntWalk
import Derived.Laws.BitsLemmas
namespace Go.Proofs.YtkjdoknmmiaapaaDoor
open Go.RowKit
attribute [local go_sem ↓] Go.wp_at_zero Go.wp_at_succ

def digS (Z : Int) (sg : ByteArray) : ByteArray := if Z < 0 then sg ++ str (dec Z.natAbs) else str (dec Z.natAbs)

set_option maxHeartbeats 800000 in
set_option maxRecDepth 100000 in
theorem digits_any (a : Option Addr) (n c : Nat) (m : Bool) (Z : Int) (sg : ByteArray) (w : World) (h : IntAt w a n c m Z) (k : Nat) (hk : k ≤ 100000) (hN : Z.natAbs < 4294967296 ^ k) (hsg : sg.size ≤ 1000) (hdl : dl Z.natAbs ≤ 10000) :
    Calls Tryd.prog 58 #[.agg #[.slice a n c, .bool m], .string sg] w fun e w' => e = .returned (.string (digS Z sg)) ∧ Below w.heap.size w w' := by
  have B0 := ((Bag.start w).int h).box2 (.slice a n c) (.bool m) 60
  have q0 := B0.now.1.cell
  have q1 := B0.now.1.cell1
  have BB := Lib.hid B0
  have TX : Hid (∀ wz, IntAt wz a n c m Z → Calls Tryd.prog 21 #[.agg #[.slice a n c]] wz fun e w' => e = .returned (.string (str (dec Z.natAbs))) ∧ Below wz.heap.size wz w') := fun wz hz => text_any _ _ wz hz.2 k hk hN
  have HE : Hid (digS Z sg = if m then sg ++ str (dec Z.natAbs) else str (dec Z.natAbs)) := by
    show _ = _
    rw [h.1]; unfold digS
    by_cases h2 : Z < 0
    · rw [if_pos h2, decide_eq_true h2]; rfl
    · rw [if_neg h2, decide_eq_false h2]; rfl
  have htl : (str (dec Z.natAbs)).size ≤ 10000 := by rw [str_size]; unfold dec; rw [sdig_length]; exact hdl
  obtain ⟨t, ht⟩ : ∃ t, str (dec Z.natAbs) = t := ⟨_, rfl⟩
  rw [ht] at TX HE htl
  have hml : sg.size + t.size ≤ maxLen := by unfold maxLen; omega
  clear h B0 hN hk ht hdl
  go_enter Tryd.func58, Tryd.ntmps58
  go_wp2_with fail
  go_at_call 53
  refine (neg_any a n c m Z _ BB.out.now.2.1).mono ?_
  rintro e w2 ⟨rfl, hb2⟩
  have B2 := Lib.hid (BB.out.go hb2)
  clear hb2 q0 q1
  have q0 := B2.out.now.1.cell
  have q1 := B2.out.now.1.cell1
  cases m
  all_goals
    go_wp2_with fail
    go_at_call 21
    refine (TX.out _ B2.out.now.2.1).mono ?_
    rintro e w3 ⟨rfl, hb3⟩
    have B3 := Lib.hid (B2.out.go hb3)
    clear hb3 q0 q1
    go_wp2
    go_ret
    exact ⟨ret_str HE.out.symm, B3.out.below⟩

def cmpZ (Z Y : Int) : Int := if Z < Y then -1 else if Z = Y then 0 else 1

set_option maxHeartbeats 1600000 in
set_option maxRecDepth 100000 in
theorem icmp_any (a : Option Addr) (n c : Nat) (m : Bool) (Z : Int) (a2 : Option Addr) (n2 c2 : Nat) (m2 : Bool) (Y : Int) (w : World) (h : IntAt w a n c m Z) (g : IntAt w a2 n2 c2 m2 Y) :
    Calls Tryd.prog 63 #[.agg #[.slice a n c, .bool m], .agg #[.slice a2 n2 c2, .bool m2]] w fun e w' => e = .returned (.int .i64 (cmpZ Z Y)) ∧ Below w.heap.size w w' := by
  have B0 := ((((Bag.start w).int h).int g).box2 (.slice a n c) (.bool m) 60).box2 (.slice a2 n2 c2) (.bool m2) 60
  rw [World.size_alloc] at B0
  have q0 := B0.now.2.1.cell
  have q1 := B0.now.2.1.cell1
  have q2 := B0.now.1.cell
  have q3 := B0.now.1.cell1
  have BB := Lib.hid B0
  have N1 : Hid (∀ wz, IntAt wz a n c m Z → Calls Tryd.prog 53 #[.agg #[.slice a n c, .bool m]] wz fun e w' => e = .returned (.bool m) ∧ Below wz.heap.size wz w') := fun wz hz => neg_any a n c m Z wz hz
  have N2 : Hid (∀ wz, IntAt wz a2 n2 c2 m2 Y → Calls Tryd.prog 53 #[.agg #[.slice a2 n2 c2, .bool m2]] wz fun e w' => e = .returned (.bool m2) ∧ Below wz.heap.size wz w') := fun wz hz => neg_any a2 n2 c2 m2 Y wz hz
  have HE : Hid (cmpZ Z Y = if m then (if m2 then cmpI Y.natAbs Z.natAbs else -1) else (if m2 then 1 else cmpI Z.natAbs Y.natAbs)) := by
    show _ = _
    rw [h.1, g.1]; unfold cmpZ cmpI
    by_cases h2 : Z < 0
    · by_cases h3 : Y < 0
      · rw [decide_eq_true h2, decide_eq_true h3]; simp only [if_true]; (repeat' split) <;> omega
      · rw [decide_eq_true h2, decide_eq_false h3, if_pos (by omega)]; rfl
    · by_cases h3 : Y < 0
      · rw [decide_eq_false h2, decide_eq_true h3, if_neg (by omega), if_neg (by omega)]; rfl
      · rw [decide_eq_false h2, decide_eq_false h3]; simp only [Bool.false_eq_true, if_false]; (repeat' split) <;> omega
  have CM : Hid (∀ wz, IntAt wz a n c m Z → IntAt wz a2 n2 c2 m2 Y → Calls Tryd.prog 37 #[.agg #[.slice a n c], .agg #[.slice a2 n2 c2]] wz fun e w' => e = .returned (.int .i64 (cmpI Z.natAbs Y.natAbs)) ∧ Below wz.heap.size wz w') := fun wz hz hy => cmp_any _ _ _ _ wz hz.2 hy.2
  have CN : Hid (∀ wz, IntAt wz a n c m Z → IntAt wz a2 n2 c2 m2 Y → Calls Tryd.prog 37 #[.agg #[.slice a2 n2 c2], .agg #[.slice a n c]] wz fun e w' => e = .returned (.int .i64 (cmpI Y.natAbs Z.natAbs)) ∧ Below wz.heap.size wz w') := fun wz hz hy => cmp_any _ _ _ _ wz hy.2 hz.2
  clear h g B0
  go_enter Tryd.func63, Tryd.ntmps63
  go_wp2_with fail
  go_at_call 53
  refine (N1.out _ BB.out.now.2.2.2.1).mono ?_
  rintro e w2 ⟨rfl, hb2⟩
  have BB := Lib.hid (BB.out.go hb2)
  clear hb2 q0 q1 q2 q3
  have q0 := BB.out.now.2.1.cell
  have q1 := BB.out.now.2.1.cell1
  have q2 := BB.out.now.1.cell
  have q3 := BB.out.now.1.cell1
  cases m with
  | true =>
    go_wp2_with fail
    go_at_call 53
    refine (N2.out _ BB.out.now.2.2.1).mono ?_
    rintro e w3 ⟨rfl, hb2⟩
    have BB := Lib.hid (BB.out.go hb2)
    clear hb2 q0 q1 q2 q3
    have q0 := BB.out.now.2.1.cell
    have q1 := BB.out.now.2.1.cell1
    have q2 := BB.out.now.1.cell
    have q3 := BB.out.now.1.cell1
    cases m2 with
    | true =>
      go_wp2_with fail
      go_at_call 37
      refine (CN.out _ BB.out.now.2.2.2.1 BB.out.now.2.2.1).mono ?_
      rintro e w4 ⟨rfl, hb2⟩
      have BB := Lib.hid (BB.out.go hb2)
      clear hb2 q0 q1 q2 q3
      go_wp2
      go_ret
      exact ⟨ret_int HE.out.symm, BB.out.below⟩
    | false =>
      go_wp2_with fail
      go_at_call 53
      refine (N1.out _ BB.out.now.2.2.2.1).mono ?_
      rintro e w4 ⟨rfl, hb2⟩
      have BB := Lib.hid (BB.out.go hb2)
      clear hb2 q0 q1 q2 q3
      go_wp2
      go_ret
      exact ⟨ret_int HE.out.symm, BB.out.below⟩
  | false =>
    go_wp2_with fail
    go_at_call 53
    refine (N1.out _ BB.out.now.2.2.2.1).mono ?_
    rintro e w3 ⟨rfl, hb2⟩
    have BB := Lib.hid (BB.out.go hb2)
    clear hb2 q0 q1 q2 q3
    have q0 := BB.out.now.2.1.cell
    have q1 := BB.out.now.2.1.cell1
    have q2 := BB.out.now.1.cell
    have q3 := BB.out.now.1.cell1
    go_wp2_with fail
    go_at_call 53
    refine (N2.out _ BB.out.now.2.2.1).mono ?_
    rintro e w4 ⟨rfl, hb2⟩
    have BB := Lib.hid (BB.out.go hb2)
    clear hb2 q0 q1 q2 q3
    have q0 := BB.out.now.2.1.cell
    have q1 := BB.out.now.2.1.cell1
    have q2 := BB.out.now.1.cell
    have q3 := BB.out.now.1.cell1
    cases m2 with
    | true =>
      go_wp2
      go_ret
      exact ⟨ret_int HE.out.symm, BB.out.below⟩
    | false =>
      go_wp2_with fail
      go_at_call 37
      refine (CM.out _ BB.out.now.2.2.2.1 BB.out.now.2.2.1).mono ?_
      rintro e w5 ⟨rfl, hb2⟩
      have BB := Lib.hid (BB.out.go hb2)
      clear hb2 q0 q1 q2 q3
      go_wp2
      go_ret
      exact ⟨ret_int HE.out.symm, BB.out.below⟩

theorem of_pl2 (x : Nat) (w : World) (hx : x < 18446744073709551616) : Calls Tryd.prog 29 #[.int .u64 x] w fun e w' => ∃ a n c, e = .returned (.agg #[.slice a n c]) ∧ NatIs w' (.agg #[.slice a n c]) x ∧ Below w.heap.size w w' :=
  (of_any x w hx).mono fun _ _ ⟨v, h1, ⟨a, n, c, f, h2, h3, h4, h5⟩, h6⟩ => ⟨a, n, c, by rw [h1, h2], ⟨a, n, c, f, rfl, h3, h4, h5⟩, h6⟩

set_option maxHeartbeats 1600000 in
set_option maxRecDepth 100000 in
theorem from_any (X : Int) (w : World) (h : -9223372036854775808 ≤ X ∧ X ≤ 9223372036854775807) :
    Calls Tryd.prog 61 #[.int .i64 X] w fun e w' => IntTold w w' e X := by
  have B0 := Lib.hid ((Bag.start w).box2 (.slice none 0 0) (.bool false) 60)
  by_cases h0 : X < 0
  · obtain ⟨y, hy⟩ : ∃ y : Nat, (y : Int) = -X := ⟨(-X).toNat, by omega⟩
    have d0 : decide (X < 0) = true := decide_eq_true h0
    have e2 : IntKind.u64.wrap (-IntKind.u64.wrap X) = (y : Int) := by
      rw [IntKind.wrap_u64, IntKind.wrap_u64]; omega
    have hyl : y < 18446744073709551616 := by omega
    have HZ : Hid (sgn true y = X) := by show _ = _; unfold sgn; simp; omega
    have HO : Hid (∀ wz, Calls Tryd.prog 29 #[.int .u64 y] wz fun e w' => ∃ a n c, e = .returned (.agg #[.slice a n c]) ∧ NatIs w' (.agg #[.slice a n c]) y ∧ Below wz.heap.size wz w') := fun wz => of_pl2 y wz hyl
    clear hy h
    go_enter Tryd.func61, Tryd.ntmps61
    go_wp2_with fail
    go_at_call 29
    refine (HO.out _).mono ?_
    rintro e w2 ⟨a2, n2, c2, rfl, hi2, hb2⟩
    have BB := Lib.hid ((B0.out.go hb2).nat hi2)
    clear hi2 hb2
    go_wp2_with fail
    go_at_call 92
    refine (wof_any true a2 n2 c2 y _ BB.out.now.1).mono ?_
    rintro e w3 ⟨a3, n3, c3, m3, rfl, hi3, hb3⟩
    rw [HZ.out] at hi3
    have B3 := BB.out.go hb3
    have hs2 := B3.now.2.1
    have hc1 := hs2.cell
    have hc2 := hs2.cell1
    have hf1 := hs2.free
    have hf2 := hs2.free1
    have HS := hs2.set (.slice a3 n3 c3) (.bool m3)
    have HE := Lib.hid (IntTold.done B3.below (Nat.le_refl _) hs2 (fun _ _ h => by cases h) hi3)
    clear hb3 B3 hs2 hi3
    go_wp2
    exact bodyPost_ret (v := _) (by simp [results, Tryd.results61, go_sem, HS]) rfl HE.out
  · obtain ⟨y, rfl⟩ : ∃ y : Nat, X = (y : Int) := ⟨X.toNat, by omega⟩
    have d0 : decide ((y : Int) < 0) = false := decide_eq_false h0
    have hyl : y < 18446744073709551616 := by omega
    have HZ : Hid (sgn false y = (y : Int)) := by show _ = _; unfold sgn; simp
    have HO : Hid (∀ wz, Calls Tryd.prog 29 #[.int .u64 y] wz fun e w' => ∃ a n c, e = .returned (.agg #[.slice a n c]) ∧ NatIs w' (.agg #[.slice a n c]) y ∧ Below wz.heap.size wz w') := fun wz => of_pl2 y wz hyl
    have hy2 : (y : Int) ≤ 9223372036854775807 := h.2
    clear h
    go_enter Tryd.func61, Tryd.ntmps61
    go_wp2_with fail
    go_at_call 29
    refine (HO.out _).mono ?_
    rintro e w2 ⟨a2, n2, c2, rfl, hi2, hb2⟩
    have BB := Lib.hid ((B0.out.go hb2).nat hi2)
    clear hi2 hb2
    go_wp2_with fail
    go_at_call 92
    refine (wof_any false a2 n2 c2 y _ BB.out.now.1).mono ?_
    rintro e w3 ⟨a3, n3, c3, m3, rfl, hi3, hb3⟩
    rw [HZ.out] at hi3
    have B3 := BB.out.go hb3
    have hs2 := B3.now.2.1
    have hc1 := hs2.cell
    have hc2 := hs2.cell1
    have hf1 := hs2.free
    have hf2 := hs2.free1
    have HS := hs2.set (.slice a3 n3 c3) (.bool m3)
    have HE := Lib.hid (IntTold.done B3.below (Nat.le_refl _) hs2 (fun _ _ h => by cases h) hi3)
    clear hb3 B3 hs2 hi3
    go_wp2
    exact bodyPost_ret (v := _) (by simp [results, Tryd.results61, go_sem, HS]) rfl HE.out

/-- The number, if it fits 64 bits. -/
def fitB (Z : Int) : Bool := decide (-9223372036854775808 ≤ Z ∧ Z ≤ 9223372036854775807)
def fitI (Z : Int) : Int := if fitB Z then Z else 0

theorem ret_ib {k : IntKind} {a b : Int} {x y : Bool} (h : a = b) (h' : x = y) : Ending.returned (.tuple #[.int k a, .bool x]) = .returned (.tuple #[.int k b, .bool y]) := by rw [h, h']

set_option maxHeartbeats 1600000 in
set_option maxRecDepth 100000 in
theorem int_any (a : Option Addr) (n c : Nat) (m : Bool) (Z : Int) (w : World) (h : IntAt w a n c m Z) :
    Calls Tryd.prog 51 #[.agg #[.slice a n c, .bool m]] w fun e w' => e = .returned (.tuple #[.int .i64 (fitI Z), .bool (fitB Z)]) ∧ Below w.heap.size w w' := by
  have B0 := ((Bag.start w).int h).box2 (.slice a n c) (.bool m) 60
  have q0 := B0.now.1.cell
  have q1 := B0.now.1.cell1
  have hu := uint_any _ _ _ B0.now.2.1.2
  have BB := Lib.hid B0
  have hm := h.1
  obtain ⟨N, hN⟩ : ∃ N, Z.natAbs = N := ⟨_, rfl⟩
  rw [hN] at hu
  unfold UintOut at hu
  clear h B0
  by_cases hbig : N < 18446744073709551616
  · rw [if_pos hbig, decide_eq_true hbig] at hu
    have HU := Lib.hid hu
    clear hu
    by_cases hz : Z < 0
    · rw [decide_eq_true hz] at hm
      subst hm
      have hZN : Z = -(N : Int) := by omega
      by_cases h63 : N ≤ 9223372036854775808
      · have HE : Hid (fitI Z = -(N : Int) ∧ fitB Z = true) := by
          have : fitB Z = true := decide_eq_true (by omega)
          exact ⟨by unfold fitI; rw [this, if_pos rfl]; exact hZN, this⟩
        have d2 : decide ((N : Int) ≤ 9223372036854775808) = true := decide_eq_true (by omega)
        have e2 : IntKind.i64.wrap (IntKind.u64.wrap (-(N : Int))) = -(N : Int) := by
          rw [IntKind.wrap_i64, IntKind.wrap_u64]; omega
        clear hz hZN hN hbig
        by_cases h62 : N ≤ 9223372036854775807
        all_goals
          first
            | have d1 : decide ((N : Int) ≤ 9223372036854775807) = true := decide_eq_true (by omega)
            | have d1 : decide ((N : Int) ≤ 9223372036854775807) = false := decide_eq_false (by omega)
          clear h62 h63
          go_enter Tryd.func51, Tryd.ntmps51
          go_wp2_with (first
            | (go_at_call 19; refine HU.out.mono ?_; rintro e w2 ⟨rfl, hb2⟩; have BB := Lib.hid (BB.out.go hb2); clear hb2 q0 q1; have q0 := BB.out.now.1.cell; have q1 := BB.out.now.1.cell1)
            | (go_at_call 53; refine (neg_any a n c true Z _ BB.out.now.2.1).mono ?_; rintro e w2 ⟨rfl, hb2⟩; have BB := Lib.hid (BB.out.go hb2); clear hb2 q0 q1; have q0 := BB.out.now.1.cell; have q1 := BB.out.now.1.cell1))
          go_ret2
          exact ⟨ret_ib HE.out.1.symm HE.out.2.symm, BB.out.below⟩
      · have HE : Hid (fitI Z = 0 ∧ fitB Z = false) := by
          have : fitB Z = false := decide_eq_false (by omega)
          exact ⟨by unfold fitI; rw [this]; rfl, this⟩
        have d1 : decide ((N : Int) ≤ 9223372036854775807) = false := decide_eq_false (by omega)
        have d2 : decide ((N : Int) ≤ 9223372036854775808) = false := decide_eq_false (by omega)
        clear hz hZN hN hbig h63
        go_enter Tryd.func51, Tryd.ntmps51
        go_wp2_with (first
          | (go_at_call 19; refine HU.out.mono ?_; rintro e w2 ⟨rfl, hb2⟩; have BB := Lib.hid (BB.out.go hb2); clear hb2 q0 q1; have q0 := BB.out.now.1.cell; have q1 := BB.out.now.1.cell1))
        go_ret2
        exact ⟨ret_ib HE.out.1.symm HE.out.2.symm, BB.out.below⟩
    · rw [decide_eq_false hz] at hm
      subst hm
      have hZN : Z = (N : Int) := by omega
      by_cases h63 : N ≤ 9223372036854775807
      · have HE : Hid (fitI Z = (N : Int) ∧ fitB Z = true) := by
          have : fitB Z = true := decide_eq_true (by omega)
          exact ⟨by unfold fitI; rw [this, if_pos rfl]; exact hZN, this⟩
        have d1 : decide ((N : Int) ≤ 9223372036854775807) = true := decide_eq_true (by omega)
        have hl : (N : Int) ≤ 9223372036854775807 := by omega
        clear hz hZN hN hbig h63
        go_enter Tryd.func51, Tryd.ntmps51
        go_wp2_with (first
          | (go_at_call 19; refine HU.out.mono ?_; rintro e w2 ⟨rfl, hb2⟩; have BB := Lib.hid (BB.out.go hb2); clear hb2 q0 q1; have q0 := BB.out.now.1.cell; have q1 := BB.out.now.1.cell1)
          | (go_at_call 53; refine (neg_any a n c false Z _ BB.out.now.2.1).mono ?_; rintro e w2 ⟨rfl, hb2⟩; have BB := Lib.hid (BB.out.go hb2); clear hb2 q0 q1; have q0 := BB.out.now.1.cell; have q1 := BB.out.now.1.cell1))
        go_ret2
        exact ⟨ret_ib HE.out.1.symm HE.out.2.symm, BB.out.below⟩
      · have HE : Hid (fitI Z = 0 ∧ fitB Z = false) := by
          have : fitB Z = false := decide_eq_false (by omega)
          exact ⟨by unfold fitI; rw [this]; rfl, this⟩
        have d1 : decide ((N : Int) ≤ 9223372036854775807) = false := decide_eq_false (by omega)
        clear hz hZN hN hbig
        by_cases h62 : N ≤ 9223372036854775808
        all_goals
          first
            | have d2 : decide ((N : Int) ≤ 9223372036854775808) = true := decide_eq_true (by omega)
            | have d2 : decide ((N : Int) ≤ 9223372036854775808) = false := decide_eq_false (by omega)
          clear h62 h63
          go_enter Tryd.func51, Tryd.ntmps51
          go_wp2_with (first
            | (go_at_call 19; refine HU.out.mono ?_; rintro e w2 ⟨rfl, hb2⟩; have BB := Lib.hid (BB.out.go hb2); clear hb2 q0 q1; have q0 := BB.out.now.1.cell; have q1 := BB.out.now.1.cell1)
            | (go_at_call 53; refine (neg_any a n c false Z _ BB.out.now.2.1).mono ?_; rintro e w2 ⟨rfl, hb2⟩; have BB := Lib.hid (BB.out.go hb2); clear hb2 q0 q1; have q0 := BB.out.now.1.cell; have q1 := BB.out.now.1.cell1))
          go_ret2
          exact ⟨ret_ib HE.out.1.symm HE.out.2.symm, BB.out.below⟩
  · rw [if_neg hbig, decide_eq_false hbig] at hu
    have HU := Lib.hid hu
    have HE : Hid (fitI Z = 0 ∧ fitB Z = false) := by
      have : fitB Z = false := decide_eq_false (by omega)
      exact ⟨by unfold fitI; rw [this]; rfl, this⟩
    clear hu hbig hN hm
    go_enter Tryd.func51, Tryd.ntmps51
    go_wp2_with (first
      | (go_at_call 19; refine HU.out.mono ?_; rintro e w2 ⟨rfl, hb2⟩; have BB := Lib.hid (BB.out.go hb2); clear hb2 q0 q1; have q0 := BB.out.now.1.cell; have q1 := BB.out.now.1.cell1))
    go_ret2
    exact ⟨ret_ib HE.out.1.symm HE.out.2.symm, BB.out.below⟩

end Go.Proofs.YtkjdoknmmiaapaaDoor
