/-
  Digits in a row of characters; package deci's isDigit, Begins; the document's Digit, Begins, run, by contract.
-/
import Derived.Test.YtgpcfncolhmgfaaGreatDoorAr2
import Derived.Laws.Cover4
namespace Go.Proofs.YtgpcfncolhmgfaaGreatDoor
open Go.RowKit

def isD (c : Int) : Bool := decide (48 ≤ c) && decide (c ≤ 57)
/-- How many of the next m characters are digits, without a gap. -/
def dgc (f : Nat → Int) : Nat → Nat → Nat
  | _, 0 => 0
  | p, m + 1 => if isD (f p) then dgc f (p + 1) m + 1 else 0
theorem dgc_le (f : Nat → Int) : ∀ m p, dgc f p m ≤ m
  | 0, _ => Nat.le_refl _
  | m + 1, p => by unfold dgc; split; · exact Nat.succ_le_succ (dgc_le f m (p + 1))
                   · exact Nat.zero_le _
theorem dgc_all (f : Nat → Int) : ∀ m p j, j < dgc f p m → isD (f (p + j)) = true
  | 0, _, j, h => absurd h (Nat.not_lt_zero _)
  | m + 1, p, j, h => by
    unfold dgc at h
    split at h
    · rename_i hd
      cases j with
      | zero => exact hd
      | succ j => rw [show p + (j + 1) = p + 1 + j by omega]; exact dgc_all f m (p + 1) j (by omega)
    · omega
theorem dgc_stop (f : Nat → Int) : ∀ m p, dgc f p m = m ∨ isD (f (p + dgc f p m)) = false
  | 0, _ => .inl rfl
  | m + 1, p => by
    unfold dgc
    split
    · rcases dgc_stop f m (p + 1) with h | h
      · exact .inl (by omega)
      · exact .inr (by rw [show p + (dgc f (p + 1) m + 1) = p + 1 + dgc f (p + 1) m by omega]; exact h)
    · rename_i hd
      exact .inr (by simpa using hd)
/-- The count goes on while digits stand, and ends where one doesn't. -/
theorem dgc_more {f : Nat → Int} {m p k : Nat} (hk : k ≤ dgc f p m) (hm : k < m) (hd : isD (f (p + k)) = true) : k + 1 ≤ dgc f p m := by
  rcases dgc_stop f m p with h | h
  · omega
  · rcases Nat.lt_or_ge k (dgc f p m) with h2 | h2
    · exact h2
    · have e : dgc f p m = k := by omega
      rw [e, hd] at h
      cases h
theorem dgc_end {f : Nat → Int} {m p k : Nat} (hk : k ≤ dgc f p m) (h : k = m ∨ isD (f (p + k)) = false) : dgc f p m = k := by
  have h1 := dgc_le f m p
  rcases h with h | h
  · omega
  · rcases Nat.lt_or_ge k (dgc f p m) with h2 | h2
    · rw [dgc_all f m p k h2] at h; cases h
    · omega

set_option maxHeartbeats 800000 in
theorem isDigit_any (c : Int) (w : World) : Calls Tryz.prog 25 #[.int .i32 c] w fun e w' => e = .returned (.bool (isD c)) ∧ w = w' := by
  unfold isD
  by_cases h0 : 48 ≤ c
  · rw [decide_eq_true h0, Bool.true_and]
    go_enter Tryz.func25, Tryz.ntmps25
    go_wp2
    go_ret
    exact ⟨rfl, rfl⟩
  · rw [decide_eq_false h0, Bool.false_and]
    go_enter Tryz.func25, Tryz.ntmps25
    go_wp2
    go_ret
    exact ⟨rfl, rfl⟩
set_option maxHeartbeats 800000 in
theorem r4Digit_any (c : Int) (w : World) : Calls Tryz.prog 26 #[.int .i32 c] w fun e w' => e = .returned (.bool (isD c)) ∧ w = w' := by
  unfold isD
  by_cases h0 : 48 ≤ c
  · rw [decide_eq_true h0, Bool.true_and]
    go_enter Tryz.func26, Tryz.ntmps26
    go_wp2
    go_ret
    exact ⟨rfl, rfl⟩
  · rw [decide_eq_false h0, Bool.false_and]
    go_enter Tryz.func26, Tryz.ntmps26
    go_wp2
    go_ret
    exact ⟨rfl, rfl⟩

/-- Does a number begin there? -/
def bgB (f : Nat → Int) (n : Nat) (i : Int) : Bool :=
  if 0 ≤ i ∧ i < n then (if f i.toNat = 46 then decide (i.toNat + 1 < n) && isD (f (i.toNat + 1)) else decide (f i.toNat = 175) || isD (f i.toNat)) else false

set_option maxHeartbeats 1600000 in
set_option maxRecDepth 100000 in
theorem begins_any (a : Option Addr) (n c : Nat) (f : Nat → Int) (i : Int) (w : World) (h : KRow w .i32 a n c f) (hi : -9223372036854775808 ≤ i ∧ i ≤ 9223372036854775807) :
    Calls Tryz.prog 8 #[.slice a n c, .int .i64 i] w fun e w' => e = .returned (.bool (bgB f n i)) ∧ w = w' := by
  have hl := h.len
  have ID := Lib.hid (fun c wz => isDigit_any c wz)
  unfold bgB
  by_cases hin : 0 ≤ i ∧ i < n
  · rw [if_pos hin]
    obtain ⟨h0, h1⟩ := hin
    obtain ⟨k, rfl⟩ : ∃ k : Nat, i = k := ⟨i.toNat, by omega⟩
    have hk : k < n := by omega
    rw [show ((k : Int)).toNat = k from rfl]
    obtain ⟨b, off, rfl, hb, hc⟩ := h.get hk
    have d1 : ¬ ((k : Int) < 0) := by omega
    have d2 : ¬ ((n : Int) ≤ k) := by omega
    have hw1 := IntWalk.i64_in ((k : Int) + 1) (by omega)
    have HK := Lib.hid h
    by_cases h46 : f k = 46
    · rw [if_pos h46]
      rw [h46] at hc
      by_cases hk1 : k + 1 < n
      · rw [decide_eq_true hk1, Bool.true_and]
        obtain ⟨b', off', e', hb', hc'⟩ := HK.out.get hk1
        injection e' with e'
        injection e' with e1 e2 _
        subst e1 e2
        have d3 : (k : Int) + 1 < n := by omega
        have d4 : (0 : Int) ≤ (k : Int) + 1 := by omega
        have hg : ((k : Int) + 1).toNat = k + 1 := by omega
        clear h h46
        generalize f (k + 1) = x at *
        go_enter Tryz.func8, Tryz.ntmps8
        go_wp2_with fail
        go_at_call 25
        (with_reducible refine (ID.out _ _).mono ?_)
        rintro e w2 ⟨rfl, rfl⟩
        go_wp2
        go_ret
        exact ⟨rfl, rfl⟩
      · rw [decide_eq_false hk1, Bool.false_and]
        have d3 : ¬ (k : Int) + 1 < n := by omega
        clear h h46 hk1
        go_enter Tryz.func8, Tryz.ntmps8
        go_wp2
        go_ret
        exact ⟨rfl, rfl⟩
    · rw [if_neg h46]
      have d3 : (f k == 46) = false := beq_eq_false_iff_ne.2 h46
      by_cases h175 : f k = 175
      · rw [decide_eq_true h175, Bool.true_or]
        rw [h175] at hc
        clear h h46 d3 h175
        go_enter Tryz.func8, Tryz.ntmps8
        go_wp2
        go_ret
        exact ⟨rfl, rfl⟩
      · rw [decide_eq_false h175, Bool.false_or]
        have d4 : (f k == 175) = false := beq_eq_false_iff_ne.2 h175
        clear h h46 h175
        generalize f k = x at *
        go_enter Tryz.func8, Tryz.ntmps8
        go_wp2_with fail
        go_at_call 25
        (with_reducible refine (ID.out _ _).mono ?_)
        rintro e w2 ⟨rfl, rfl⟩
        go_wp2
        go_ret
        exact ⟨rfl, rfl⟩
  · rw [if_neg hin]
    clear h
    by_cases h0 : i < 0
    · clear hin
      go_enter Tryz.func8, Tryz.ntmps8
      go_wp2
      go_ret
      exact ⟨rfl, rfl⟩
    · have d2 : (n : Int) ≤ i := by omega
      clear hin
      go_enter Tryz.func8, Tryz.ntmps8
      go_wp2
      go_ret
      exact ⟨rfl, rfl⟩

set_option maxHeartbeats 1600000 in
set_option maxRecDepth 100000 in
theorem r4Begins_any (a : Option Addr) (n c : Nat) (f : Nat → Int) (i : Int) (w : World) (h : KRow w .i32 a n c f) (hi : -9223372036854775808 ≤ i ∧ i ≤ 9223372036854775807) :
    Calls Tryz.prog 9 #[.slice a n c, .int .i64 i] w fun e w' => e = .returned (.bool (bgB f n i)) ∧ w = w' := by
  have hl := h.len
  have ID := Lib.hid (fun c wz => r4Digit_any c wz)
  unfold bgB
  by_cases hin : 0 ≤ i ∧ i < n
  · rw [if_pos hin]
    obtain ⟨h0, h1⟩ := hin
    obtain ⟨k, rfl⟩ : ∃ k : Nat, i = k := ⟨i.toNat, by omega⟩
    have hk : k < n := by omega
    rw [show ((k : Int)).toNat = k from rfl]
    obtain ⟨b, off, rfl, hb, hc⟩ := h.get hk
    have d1 : ¬ ((k : Int) < 0) := by omega
    have d2 : ¬ ((n : Int) ≤ k) := by omega
    have hw1 := IntWalk.i64_in ((k : Int) + 1) (by omega)
    have hw2 := IntWalk.i64_in ((n : Int) - 1) (by omega)
    have HK := Lib.hid h
    have IDk := Lib.hid (ID.out (f k))
    by_cases h46 : f k = 46
    · rw [if_pos h46]
      rw [h46] at hc IDk
      rw [show isD 46 = false from by decide] at IDk
      by_cases hk1 : k + 1 < n
      · rw [decide_eq_true hk1, Bool.true_and]
        obtain ⟨b', off', e', hb', hc'⟩ := HK.out.get hk1
        injection e' with e'
        injection e' with e1 e2 _
        subst e1 e2
        have d3 : (k : Int) < (n : Int) - 1 := by omega
        have d5 : (k : Int) + 1 < n := by omega
        have d4 : (0 : Int) ≤ (k : Int) + 1 := by omega
        have hg : ((k : Int) + 1).toNat = k + 1 := by omega
        clear h h46
        generalize f (k + 1) = x at *
        go_enter Tryz.func9, Tryz.ntmps9
        go_wp2_with fail
        go_at_call 26
        (with_reducible refine (IDk.out _).mono ?_)
        rintro e w2 ⟨rfl, rfl⟩
        go_wp2_with fail
        go_at_call 26
        (with_reducible refine (ID.out _ _).mono ?_)
        rintro e w2 ⟨rfl, rfl⟩
        go_wp2
        go_ret
        exact ⟨rfl, rfl⟩
      · rw [decide_eq_false hk1, Bool.false_and]
        have d3 : ¬ (k : Int) < (n : Int) - 1 := by omega
        clear h h46 hk1
        go_enter Tryz.func9, Tryz.ntmps9
        go_wp2_with fail
        go_at_call 26
        (with_reducible refine (IDk.out _).mono ?_)
        rintro e w2 ⟨rfl, rfl⟩
        go_wp2
        go_ret
        exact ⟨rfl, rfl⟩
    · rw [if_neg h46]
      have d3 : (f k == 46) = false := beq_eq_false_iff_ne.2 h46
      cases hd : isD (f k) with
      | true =>
        rw [Bool.or_true]
        rw [hd] at IDk
        clear h h46 hd
        generalize f k = x at *
        go_enter Tryz.func9, Tryz.ntmps9
        go_wp2_with fail
        go_at_call 26
        (with_reducible refine (IDk.out _).mono ?_)
        rintro e w2 ⟨rfl, rfl⟩
        go_wp2
        go_ret
        exact ⟨rfl, rfl⟩
      | false =>
        rw [Bool.or_false]
        rw [hd] at IDk
        clear hd
        by_cases h175 : f k = 175
        · rw [decide_eq_true h175]
          rw [h175] at hc IDk
          clear h h46 d3 h175
          go_enter Tryz.func9, Tryz.ntmps9
          go_wp2_with fail
          go_at_call 26
          (with_reducible refine (IDk.out _).mono ?_)
          rintro e w2 ⟨rfl, rfl⟩
          go_wp2
          go_ret
          exact ⟨rfl, rfl⟩
        · rw [decide_eq_false h175]
          have d4 : (f k == 175) = false := beq_eq_false_iff_ne.2 h175
          clear h h46 h175
          generalize f k = x at *
          go_enter Tryz.func9, Tryz.ntmps9
          go_wp2_with fail
          go_at_call 26
          (with_reducible refine (IDk.out _).mono ?_)
          rintro e w2 ⟨rfl, rfl⟩
          go_wp2
          go_ret
          exact ⟨rfl, rfl⟩
  · rw [if_neg hin]
    clear h
    by_cases h0 : i < 0
    · clear hin
      go_enter Tryz.func9, Tryz.ntmps9
      go_wp2
      go_ret
      exact ⟨rfl, rfl⟩
    · have d2 : (n : Int) ≤ i := by omega
      clear hin
      go_enter Tryz.func9, Tryz.ntmps9
      go_wp2
      go_ret
      exact ⟨rfl, rfl⟩

set_option maxHeartbeats 1600000 in
set_option maxRecDepth 100000 in
theorem r4run_any (a : Option Addr) (n c : Nat) (f : Nat → Int) (p : Nat) (w : World) (h : KRow w .i32 a n c f) (hp : p ≤ n) :
    Calls Tryz.prog 21 #[.slice a n c, .int .i64 p] w fun e w' => e = .returned (.int .i64 (dgc f p (n - p) : Nat)) ∧ w = w' := by
  have hl := h.len
  have ID := Lib.hid (fun c wz => r4Digit_any c wz)
  have HK := Lib.hid h
  clear h
  go_enter Tryz.func21, Tryz.ntmps21
  go_wp2
  go_loopw [5] (fun i wr => ∃ k : Nat, i = .int .i64 k ∧ Hid (k ≤ dgc f p (n - p)) ∧ wr = w) (fun i _ => n - p - (intOf i).toNat)
  case atStart => exact ⟨0, rfl, Nat.zero_le _, rfl⟩
  case round =>
    obtain ⟨k, rfl, hkd, rfl⟩ := hrel
    have hdl := dgc_le f (n - p) p
    have hkn : k ≤ n - p := Nat.le_trans hkd.out hdl
    have hw1 := IntWalk.i64_in ((p : Int) + k) (by omega)
    by_cases hlt : k < n - p
    · obtain ⟨b, off, rfl, hb, hc⟩ := HK.out.get (j := p + k) (by omega)
      have d1 : (p : Int) + k < n := by omega
      have d2 : (0 : Int) ≤ (p : Int) + k := by omega
      have hg : ((p : Int) + k).toNat = p + k := by omega
      have IDk := Lib.hid (ID.out (f (p + k)))
      cases hd : isD (f (p + k)) with
      | true =>
        have HN := Lib.hid (dgc_more hkd.out hlt hd)
        rw [hd] at IDk
        clear hd hdl
        generalize f (p + k) = x at *
        go_wp2_with fail
        go_at_call 26
        (with_reducible refine (IDk.out _).mono ?_)
        rintro e w2 ⟨rfl, rfl⟩
        go_wp2
        go_roundw
        case rel => exact ⟨k + 1, by go_num, HN.out, trivial⟩
        case measure => simp [intOf]; omega
      | false =>
        have HN := Lib.hid (dgc_end hkd.out (.inr hd))
        rw [hd] at IDk
        clear hd hdl
        generalize f (p + k) = x at *
        go_wp2_with fail
        go_at_call 26
        (with_reducible refine (IDk.out _).mono ?_)
        rintro e w2 ⟨rfl, rfl⟩
        go_wp2
        go_ret
        exact ⟨ret_int (by rw [HN.out]), rfl⟩
    · have HN := Lib.hid (dgc_end hkd.out (.inl (show k = n - p by omega)))
      have d1 : ¬ (p : Int) + k < n := by omega
      clear hdl
      go_wp2
      go_ret
      exact ⟨ret_int (by rw [HN.out]), rfl⟩

end Go.Proofs.YtgpcfncolhmgfaaGreatDoor
