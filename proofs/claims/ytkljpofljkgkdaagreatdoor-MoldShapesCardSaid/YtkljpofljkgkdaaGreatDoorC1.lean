/-
  Texts of this seat, laid together.
-/
import Derived.Lib.ItoaNum
import Derived.IntWalk
import Derived.Test.YtkljpofljkgkdaaGreatDoorShelf
import Derived.Laws.BytesArg
import Derived.WalkKit
import Derived.WalkSpells
import Derived.Deep.Draws
import Derived.Lib.Hide
import Derived.Lib.TrimByte
import Derived.WalkLawsBesides
import Derived.Laws.CopyOwn
import Derived.Deep.QuietTactic
import Derived.BigQuiet
import Derived.BigRegion
import Derived.RegionTactic
import Derived.Deep.RegionWith
import Derived.StillTailTactics
import Derived.Test.YtkljpofljkgkdaaGreatDoorRows
import Derived.Deep.RegionHeld3
import Derived.Deep.DrawnRows
import Derived.Laws.BitsLemmas
import Derived.Lib.SliceRun
import Derived.Lib.Walk
import Derived.Deep.AppendLies
import Derived.Deep.RegionLaw
import Derived.Deep.MidRow
import Derived.Below
import Derived.Laws.StructEq
import Derived.ChangeKeysEq
import Derived.Lib.AppendZeros
import Derived.Laws.AppendOwnNone
import Derived.Shelf.Abstract
import Derived.Laws.EntriesVeiled
import Derived.Test.YtkljpofljkgkdaaGreatDoorQ1
import Derived.Test.YtkljpofljkgkdaaGreatDoorQ2
import Derived.Test.YtkljpofljkgkdaaGreatDoorQ3
import Derived.Test.YtkljpofljkgkdaaGreatDoorQ4
import Derived.Test.YtkljpofljkgkdaaGreatDoorQ5
import Derived.Test.YtkljpofljkgkdaaGreatDoorQ6
import Derived.Test.YtkljpofljkgkdaaGreatDoorQ7
import Derived.Test.YtkljpofljkgkdaaGreatDoorQ8
import Derived.Test.YtkljpofljkgkdaaGreatDoorQ9

namespace Go.Proofs.YtkljpofljkgkdaaGreatDoor
open Go.RowKit
end Go.Proofs.YtkljpofljkgkdaaGreatDoor
namespace Go.Proofs.YtkljpofljkgkdaaGreatDoor
open Go.RowKit
end Go.Proofs.YtkljpofljkgkdaaGreatDoor
namespace Go.Proofs.YtkljpofljkgkdaaGreatDoor
open Go.RowKit
end Go.Proofs.YtkljpofljkgkdaaGreatDoor
namespace Go.Proofs.YtkljpofljkgkdaaGreatDoor
open Go.RowKit
theorem numOf_append (b : List UInt8) : ∀ a : List UInt8, numOf (a ++ b) = numOf a * 10 ^ b.length + numOf b
  | [] => by simp [numOf]
  | c :: a => by
    rw [List.cons_append, numOf, numOf_append b a, numOf, List.length_append, Nat.pow_add, Nat.add_mul, Nat.mul_assoc]
    omega
theorem numOf_take_le (l : List UInt8) (k : Nat) : numOf (l.take k) ≤ numOf l := by
  have h := numOf_append (l.drop k) (l.take k)
  rw [List.take_append_drop] at h
  have := Nat.le_mul_of_pos_right (numOf (l.take k)) (Nat.pow_pos (n := (l.drop k).length) (show 0 < 10 by omega))
  omega
theorem dec_dig (N : Nat) : ∀ c ∈ dec N, 48 ≤ c.toNat ∧ c.toNat ≤ 57 := by
  intro c hc
  obtain ⟨j, hj⟩ := List.getElem?_of_mem hc
  unfold dec at hj
  have hjl : j < dl N := by
    rcases Nat.lt_or_ge j (dl N) with h | h
    · exact h
    · rw [List.getElem?_eq_none (by rw [sdig_length]; exact h)] at hj; cases hj
  rw [sdig_get N _ _ hjl] at hj
  cases hj
  rw [dgt_toNat]
  have := Nat.mod_lt (N / 10 ^ (dl N - 1 - j)) (show 0 < 10 by omega)
  omega
theorem dec_max : dec 18446744073709551615 = [49, 56, 52, 52, 54, 55, 52, 52, 48, 55, 51, 55, 48, 57, 53, 53, 49, 54, 49, 53] := by
  rw [← dec_of_top (k := 20) (by decide) (.inr ⟨by decide, by decide⟩)]
  decide
/-- A text of digits at place k: its digit, and what stands before. -/
theorem dec_at {N : Nat} {s : ByteArray} (hs : s.data.toList = dec N) {k : Nat} (hk : k < s.size) :
    ∃ c x : Nat, s[k].toNat = c ∧ c = 48 + x ∧ x < 10 ∧ numOf (s.data.toList.take (k + 1)) = 10 * numOf (s.data.toList.take k) + x := by
  have hm : s[k] ∈ dec N := by
    rw [← hs]
    exact List.getElem_mem (l := s.data.toList) (by simpa using hk)
  obtain ⟨h1, h2⟩ := dec_dig N _ hm
  refine ⟨_, s[k].toNat - 48, rfl, by omega, by omega, ?_⟩
  rw [take_snoc s k hk, numOf_snoc]
def uI (N : Nat) : Nat := if N < 18446744073709551616 then N else 0
set_option maxHeartbeats 800000 in
set_option maxRecDepth 100000 in
theorem runi_any (N : Nat) (w : World) (hl : dl N ≤ 1000) : Calls Tryz.prog 144 #[.string (str (dec N))] w fun e w' => e = .returned (.tuple #[.int .u64 (uI N), .bool (decide (N < 18446744073709551616))]) ∧ w = w' := by
  have hc : ∀ wz, Calls Tryz.prog 159 #[.string (str (dec N)), .string ⟨#[49, 56, 52, 52, 54, 55, 52, 52, 48, 55, 51, 55, 48, 57, 53, 53, 49, 54, 49, 53]⟩] wz fun e w' => e = .returned (.int .i64 (cmpI N 18446744073709551615)) ∧ wz = w' := by
    intro wz
    have h := rcmp_any N 18446744073709551615 wz (by omega) (by have := dl_le 18446744073709551615 20 (by omega) (by decide); omega)
    rw [dec_max] at h
    exact h
  have hsz : (str (dec N)).size = dl N := by rw [str_size]; exact sdig_length _ _
  have hda : (str (dec N)).data.toList = dec N := rfl
  generalize str (dec N) = s at *
  by_cases hbig : 18446744073709551615 < N
  · have h1 : cmpI N 18446744073709551615 = 1 := by unfold cmpI; rw [if_neg (by omega), if_neg (by omega)]
    rw [h1] at hc
    have HC := Lib.hid hc
    have HE : Hid (uI N = 0 ∧ decide (N < 18446744073709551616) = false) := ⟨by unfold uI; rw [if_neg (by omega)], decide_eq_false (by omega)⟩
    clear hc h1 hbig hsz hda
    rw [HE.out.1, HE.out.2]
    go_enter Tryz.func144, Tryz.ntmps144
    go_wp2_with (go_at_call 159; refine (HC.out _).mono ?_; rintro e w1 ⟨rfl, rfl⟩)
    go_ret2
    exact ⟨rfl, rfl⟩
  · obtain ⟨cm, hcm⟩ : ∃ cm, cmpI N 18446744073709551615 = cm := ⟨_, rfl⟩
    have hcl : cm ≤ 0 := by
      rw [← hcm]; unfold cmpI
      split
      · omega
      · split
        · omega
        · omega
    rw [hcm] at hc
    have HC := Lib.hid hc
    have d0 : decide ((0 : Int) < cm) = false := decide_eq_false (by omega)
    have HE : Hid (uI N = N ∧ decide (N < 18446744073709551616) = true) := ⟨by unfold uI; rw [if_pos (by omega)], decide_eq_true (by omega)⟩
    have HN : Hid (N < 18446744073709551616) := by show _ < _; omega
    have HDA := Lib.hid hda
    have HSZ := Lib.hid hsz
    have hsl : s.size ≤ 1000 := by omega
    rw [HE.out.1, HE.out.2]
    clear hc hcm hbig hsz hda HE hl
    go_enter Tryz.func144, Tryz.ntmps144
    go_wp2_with (go_at_call 159; refine (HC.out _).mono ?_; rintro e w1 ⟨rfl, rfl⟩)
    go_loop [4, 5] (fun a i => ∃ k acc : Nat, k ≤ s.size ∧ i = .int .i64 k ∧ a = .int .u64 acc ∧ Hid (acc = numOf (s.data.toList.take k)))
      (fun _ i => s.size - (intOf i).toNat)
    case atStart => exact ⟨0, 0, by omega, rfl, rfl, by show _ = _; simp [numOf]⟩
    case round =>
      obtain ⟨k, acc, hk, rfl, rfl, hacc⟩ := hrel
      by_cases hlt : k < s.size
      · obtain ⟨c, x, hcx, hc48, hx10, hnum⟩ := dec_at HDA.out hlt
        have hle := numOf_take_le s.data.toList (k + 1)
        rw [HDA.out, numOf_dec, ← HDA.out, hnum, ← hacc.out] at hle
        have hNl := HN.out
        obtain ⟨acc', ha'⟩ : ∃ acc', 10 * acc + x = acc' := ⟨_, rfl⟩
        have hal : acc' < 18446744073709551616 := by omega
        have HNX : Hid (acc' = numOf (s.data.toList.take (k + 1))) := by show _ = _; rw [hnum, ← hacc.out, ha']
        have e0 : (s[k].toNat : Int) - 48 = (x : Int) := by omega
        have e1 : (acc : Int) * 10 + (x : Int) = (acc' : Int) := by omega
        have e2 : (x : Int) % 256 = (x : Int) := by omega
        have e3 : (48 : Int) ≤ (s[k].toNat : Int) := by omega
        have e4 : (acc : Int) * 10 ≤ 18446744073709551615 := by omega
        clear hcx hc48 hnum hle hNl ha' hacc
        go_wp2
        go_round
        case rel => exact ⟨k + 1, acc', by omega, by go_num, rfl, HNX.out⟩
        case measure => simp [intOf]; omega
      · obtain rfl : k = s.size := by omega
        have hE : Hid (acc = N) := by
          show _ = _
          rw [hacc.out, List.take_of_length_le (by show s.data.toList.length ≤ _; exact Nat.le_refl _), HDA.out, numOf_dec]
        go_wp2
        go_ret2
        exact ⟨by rw [hE.out]; rfl, rfl⟩
end Go.Proofs.YtkljpofljkgkdaaGreatDoor
namespace Go.Proofs.YtkljpofljkgkdaaGreatDoor
open Go.RowKit
end Go.Proofs.YtkljpofljkgkdaaGreatDoor

namespace Go.Proofs.YtkljpofljkgkdaaGreatDoor
open Go.RowKit
attribute [local go_sem ↓] Go.wp_at_zero Go.wp_at_succ
theorem dec_is0 (N : Nat) : ((str (dec N)).toList == [48]) = decide (N = 0) := by
  have e : (str (dec N)).toList = dec N := by rw [ByteArray.toList_eq]; rfl
  rw [e, Bool.eq_iff_iff, beq_iff_eq, decide_eq_true_eq]
  constructor
  · intro h
    have := congrArg numOf h
    unfold dec at this
    rw [numOf_sdig, Nat.mod_eq_of_lt (dl_lt N)] at this
    simpa [numOf] using this
  · intro h; rw [h, dec_zero]
theorem rsgn_B (b : Bool) (N : Nat) : rB (sgn b N) = (b && !decide (N = 0)) := sgn_neg b N
theorem rsgn_S (b : Bool) (N : Nat) : rS (sgn b N) = str (dec N) := by unfold rS; rw [sgn_abs]
set_option maxRecDepth 100000 in
theorem rOf_any (b : Bool) (N n : Nat) (w : World) (hn : 0 < n) (hN : N < 10 ^ n) (hl : n ≤ 10000000) :
    Calls Tryz.prog 145 #[.bool b, .string (str (sdig N n))] w fun e w' => RTold w w' e (sgn b N) := by
  have TR := Lib.hid (fun wz => trim_any N n wz hn hN hl)
  have h0 := dec_is0 N
  obtain ⟨s, hs⟩ : ∃ s, str (sdig N n) = s := ⟨_, rfl⟩
  obtain ⟨t, ht⟩ : ∃ t, str (dec N) = t := ⟨_, rfl⟩
  have hx := rsgn_B b N
  have hy := rsgn_S b N
  rw [ht] at TR h0 hy
  rw [hs] at TR ⊢
  obtain ⟨z, hz⟩ : ∃ z, decide (N = 0) = z := ⟨_, rfl⟩
  rw [hz] at h0 hx
  have HX := Lib.hid hx
  have HY := Lib.hid hy
  clear hx hy hs ht hz hN hn hl
  cases b
  · have HE : Hid (RTold w (w.alloc (.cells #[.bool false, .string t] 117)) (.returned (.agg #[.bool false, .string t])) (sgn false N)) := ⟨by rw [HX.out, HY.out]; rfl, (Below.refl _ _).alloc (Nat.le_refl _) _⟩
    go_enter Tryz.func145, Tryz.ntmps145
    go_wp2_with (go_at_call 131; refine (TR.out _).mono ?_; rintro e w2 ⟨rfl, rfl⟩)
    exact bodyPost_ret (v := .agg #[.bool false, .string t]) (by simp [results, Tryz.results145, go_sem]) rfl HE.out
  · have HE : Hid (RTold w (w.alloc (.cells #[.bool (!z), .string t] 117)) (.returned (.agg #[.bool (!z), .string t])) (sgn true N)) := ⟨by rw [HX.out, HY.out]; rfl, (Below.refl _ _).alloc (Nat.le_refl _) _⟩
    cases z
    all_goals
      go_enter Tryz.func145, Tryz.ntmps145
      go_wp2_with (go_at_call 131; refine (TR.out _).mono ?_; rintro e w2 ⟨rfl, rfl⟩)
      exact bodyPost_ret (v := _) (by simp [results, Tryz.results145, go_sem]) rfl HE.out
theorem rOf_dec (b : Bool) (N : Nat) (w : World) (hl : dl N ≤ 10000000) :
    Calls Tryz.prog 145 #[.bool b, .string (str (dec N))] w fun e w' => RTold w w' e (sgn b N) := rOf_any b N (dl N) w (dl_pos N) (dl_lt N) hl
end Go.Proofs.YtkljpofljkgkdaaGreatDoor
namespace Go.Proofs.YtkljpofljkgkdaaGreatDoor
open Go.RowKit
attribute [local go_sem ↓] Go.wp_at_zero Go.wp_at_succ
end Go.Proofs.YtkljpofljkgkdaaGreatDoor
namespace Go.Proofs.YtkljpofljkgkdaaGreatDoor
open Go.RowKit
attribute [local go_sem ↓] Go.wp_at_zero Go.wp_at_succ
set_option maxHeartbeats 1600000 in
set_option maxRecDepth 100000 in
theorem rSmall_any (Z : Int) (w : World) (hl : dl Z.natAbs ≤ 1000) :
    Calls Tryz.prog 125 #[.agg #[.bool (rB Z), .string (rS Z)]] w fun e w' => e = .returned (.tuple #[.int .i64 (fitI Z), .bool (fitB Z)]) ∧ Below w.heap.size w w' := by
  have B0 := ((Bag.start w).box2 (.bool (rB Z)) (.string (rS Z)) 117)
  have q0 := B0.now.1.cell
  have q1 := B0.now.1.cell1
  have hu := fun wz => runi_any Z.natAbs wz hl
  rw [show str (dec Z.natAbs) = rS Z from rfl] at hu
  have BB := Lib.hid B0
  obtain ⟨N, hN⟩ : ∃ N, Z.natAbs = N := ⟨_, rfl⟩
  rw [hN] at hu
  unfold uI at hu
  generalize rS Z = s at *
  by_cases hbig : N < 18446744073709551616
  · rw [if_pos hbig, decide_eq_true hbig] at hu
    have HU := Lib.hid hu
    clear hu B0
    by_cases hz : Z < 0
    · rw [show rB Z = true from decide_eq_true hz] at *
      have hZN : Z = -(N : Int) := by omega
      by_cases h63 : N ≤ 9223372036854775808
      · have HE : Hid (fitI Z = -(N : Int) ∧ fitB Z = true) := by
          have : fitB Z = true := decide_eq_true (by omega)
          exact ⟨by unfold fitI; rw [this, if_pos rfl]; exact hZN, this⟩
        have d2 : decide ((9223372036854775808 : Int) < (N : Int)) = false := decide_eq_false (by omega)
        obtain ⟨N1, hN1⟩ : ∃ N1, N - 1 = N1 := ⟨_, rfl⟩
        have e1 : (N : Int) - 1 = (N1 : Int) := by omega
        have b1 : (N1 : Int) ≤ 9223372036854775807 := by omega
        have b2 : (1 : Int) ≤ (N : Int) := by omega
        have e2 : 0 - (N1 : Int) = -(N1 : Int) := by omega
        have e3 : -(N1 : Int) - 1 = -(N : Int) := by omega
        clear hz hZN hN hbig h63 hN1 hl
        go_enter Tryz.func125, Tryz.ntmps125
        go_wp2_with (go_at_call 144; (with_reducible refine (HU.out _).mono ?_); rintro e w2 ⟨rfl, rfl⟩)
        go_ret2
        exact ⟨ret_ib (by rw [HE.out.1]) HE.out.2.symm, BB.out.below⟩
      · have HE : Hid (fitI Z = 0 ∧ fitB Z = false) := by
          have : fitB Z = false := decide_eq_false (by omega)
          exact ⟨by unfold fitI; rw [this]; rfl, this⟩
        have d2 : decide ((9223372036854775808 : Int) < (N : Int)) = true := decide_eq_true (by omega)
        clear hz hZN hN hbig h63 hl
        go_enter Tryz.func125, Tryz.ntmps125
        go_wp2_with (go_at_call 144; (with_reducible refine (HU.out _).mono ?_); rintro e w2 ⟨rfl, rfl⟩)
        go_ret2
        exact ⟨ret_ib HE.out.1.symm HE.out.2.symm, BB.out.below⟩
    · rw [show rB Z = false from decide_eq_false hz] at *
      have hZN : Z = (N : Int) := by omega
      by_cases h63 : N ≤ 9223372036854775807
      · have HE : Hid (fitI Z = (N : Int) ∧ fitB Z = true) := by
          have : fitB Z = true := decide_eq_true (by omega)
          exact ⟨by unfold fitI; rw [this, if_pos rfl]; exact hZN, this⟩
        have d1 : decide ((9223372036854775807 : Int) < (N : Int)) = false := decide_eq_false (by omega)
        have hl' : (N : Int) ≤ 9223372036854775807 := by omega
        clear hz hZN hN hbig h63 hl
        go_enter Tryz.func125, Tryz.ntmps125
        go_wp2_with (go_at_call 144; (with_reducible refine (HU.out _).mono ?_); rintro e w2 ⟨rfl, rfl⟩)
        go_ret2
        exact ⟨ret_ib HE.out.1.symm HE.out.2.symm, BB.out.below⟩
      · have HE : Hid (fitI Z = 0 ∧ fitB Z = false) := by
          have : fitB Z = false := decide_eq_false (by omega)
          exact ⟨by unfold fitI; rw [this]; rfl, this⟩
        have d1 : decide ((9223372036854775807 : Int) < (N : Int)) = true := decide_eq_true (by omega)
        clear hz hZN hN hbig h63 hl
        go_enter Tryz.func125, Tryz.ntmps125
        go_wp2_with (go_at_call 144; (with_reducible refine (HU.out _).mono ?_); rintro e w2 ⟨rfl, rfl⟩)
        go_ret2
        exact ⟨ret_ib HE.out.1.symm HE.out.2.symm, BB.out.below⟩
  · rw [if_neg hbig, decide_eq_false hbig] at hu
    have HU := Lib.hid hu
    have HE : Hid (fitI Z = 0 ∧ fitB Z = false) := by
      have : fitB Z = false := decide_eq_false (by omega)
      exact ⟨by unfold fitI; rw [this]; rfl, this⟩
    clear hu hbig hN B0 hl
    generalize rB Z = b at *
    go_enter Tryz.func125, Tryz.ntmps125
    go_wp2_with (go_at_call 144; (with_reducible refine (HU.out _).mono ?_); rintro e w2 ⟨rfl, rfl⟩)
    go_ret2
    exact ⟨ret_ib HE.out.1.symm HE.out.2.symm, BB.out.below⟩
end Go.Proofs.YtkljpofljkgkdaaGreatDoor

namespace Go.Proofs.YtkljpofljkgkdaaGreatDoor
open Go.RowKit
theorem KRow.one' (w : World) (ki : IntKind) (x : Int) (t : TypeId) : KRow (w.alloc (.cells #[.int ki x] t)) ki (some ⟨w.heap.size, 0, none⟩) 1 1 (fun _ => x) := by
  refine ⟨Nat.le_refl _, by unfold maxLen; omega, .inr ⟨_, 0, rfl, by simp, fun j hj => ?_⟩⟩
  obtain rfl : j = 0 := by omega
  exact (Row.new w t #[.int ki x]).cell 0
end Go.Proofs.YtkljpofljkgkdaaGreatDoor

namespace Go.Proofs.YtkljpofljkgkdaaGreatDoor
open Go.RowKit
end Go.Proofs.YtkljpofljkgkdaaGreatDoor
namespace Go.Proofs.YtkljpofljkgkdaaGreatDoor
open Go.RowKit
attribute [local go_sem ↓] Go.wp_at_zero Go.wp_at_succ
theorem dec0 : str (dec 0) = ⟨#[48]⟩ := by rw [dec_small (by omega)]; rfl
set_option maxHeartbeats 1600000 in
set_option maxRecDepth 100000 in
theorem r3Zero_any (w : World) : Calls Tryz.prog 89 #[] w fun e w' => NumTold w w' e 0 1 := by
  have B0 := (Bag.start w).alloc (.cells #[.bool false, .string ⟨#[48]⟩, .string ⟨#[49]⟩] 65)
  have HE : Hid (NumTold w (w.alloc (.cells #[.bool false, .string ⟨#[48]⟩, .string ⟨#[49]⟩] 65)) (.returned (.agg #[.bool false, .string ⟨#[48]⟩, .string ⟨#[49]⟩])) 0 1) := ⟨by rw [show rB 0 = false from rfl, show rS 0 = str (dec 0) from rfl, dec0, dec1], B0.below⟩
  go_enter Tryz.func89, Tryz.ntmps89
  go_wp2
  exact bodyPost_ret (v := .agg #[.bool false, .string ⟨#[48]⟩, .string ⟨#[49]⟩]) (by simp [results, Tryz.results89, go_sem]) rfl HE.out
set_option maxHeartbeats 1600000 in
set_option maxRecDepth 100000 in
theorem r3Top_any (P : Int) (t : ByteArray) (w : World) (hl : dl P.natAbs ≤ 10000000) : Calls Tryz.prog 126 #[.agg #[.bool (rB P), .string (rS P), .string t]] w fun e w' => RTold w w' e P := by
  have B0 := ((Bag.start w).box3 (.bool (rB P)) (.string (rS P)) (.string t) 65).box2 (.bool false) (.string ⟨#[]⟩) 117
  simp only [World.size_alloc] at B0
  have OF : Hid (∀ wz, Calls Tryz.prog 145 #[.bool (rB P), .string (rS P)] wz fun e w' => RTold wz w' e P) := by
    intro wz
    have h1 := rOf_dec (rB P) P.natAbs wz hl
    rw [show sgn (rB P) P.natAbs = P from sgn_self P] at h1
    exact h1
  have BB := Lib.hid B0
  have HF := Lib.hid (fun w2 b s (hb : Below w.heap.size w w2) (h1 : rB P = b) (h2 : rS P = s) => RTold.fin (Y := P) hb (show w.heap.size ≤ w.heap.size + 1 by omega) h1 h2)
  obtain ⟨b, hb⟩ : ∃ b, rB P = b := ⟨_, rfl⟩
  obtain ⟨s, hs⟩ : ∃ s, rS P = s := ⟨_, rfl⟩
  have HB := Lib.hid hb
  have HS2 := Lib.hid hs
  unfold RTold at OF
  rw [hb, hs] at OF BB
  rw [hb, hs]
  clear B0 hl hb hs
  go_enter Tryz.func126, Tryz.ntmps126
  go_wp2_with fail
  go_at_call 145
  (with_reducible refine (OF.out _).mono ?_)
  rintro e w2 ⟨rfl, hb2⟩
  have BB := Lib.hid (BB.out.go hb2)
  have hs2 := BB.out.now.1
  have hc1 := hs2.cell
  have hc2 := hs2.cell1
  have hf1 := hs2.free
  have hf2 := hs2.free1
  have HS := hs2.set (.bool b) (.string s)
  have HE := Lib.hid (HF.out w2 b s BB.out.below HB.out HS2.out)
  unfold put2 at HE
  clear hb2 hs2
  go_wp2
  exact bodyPost_ret (v := .agg #[.bool b, .string s]) (by simp [results, Tryz.results126, go_sem, HS]) rfl HE.out
end Go.Proofs.YtkljpofljkgkdaaGreatDoor
namespace Go.Proofs.YtkljpofljkgkdaaGreatDoor
open Go.RowKit
attribute [local go_sem ↓] Go.wp_at_zero Go.wp_at_succ
end Go.Proofs.YtkljpofljkgkdaaGreatDoor
namespace Go.Proofs.YtkljpofljkgkdaaGreatDoor
open Go.RowKit
attribute [local go_sem ↓] Go.wp_at_zero Go.wp_at_succ
end Go.Proofs.YtkljpofljkgkdaaGreatDoor
namespace Go.Proofs.YtkljpofljkgkdaaGreatDoor
open Go.RowKit
attribute [local go_sem ↓] Go.wp_at_zero Go.wp_at_succ
end Go.Proofs.YtkljpofljkgkdaaGreatDoor

namespace Go.Proofs.YtkljpofljkgkdaaGreatDoor
open Go.RowKit
attribute [local go_sem ↓] Go.wp_at_zero Go.wp_at_succ
set_option maxHeartbeats 1600000 in
set_option maxRecDepth 100000 in
theorem r3Int_any (P : Int) (Q : Nat) (w : World) (hl : dl P.natAbs ≤ 1000) :
    Calls Tryz.prog 96 #[.agg #[.bool (rB P), .string (rS P), .string (str (dec Q))]] w fun e w' => e = .returned (.tuple #[.int .i64 (if Q = 1 then fitI P else 0), .bool (decide (Q = 1) && fitB P)]) ∧ Below w.heap.size w w' := by
  have h1 := dec_is1 Q
  have TA : Hid (∀ wz, Calls Tryz.prog 126 #[.agg #[.bool (rB P), .string (rS P), .string (str (dec Q))]] wz fun e w' => RTold wz w' e P) := fun wz => r3Top_any P _ wz (by omega)
  have SM := Lib.hid (fun wz => rSmall_any P wz hl)
  unfold RTold at TA
  have BB := Lib.hid ((Bag.start w).box3 (.bool (rB P)) (.string (rS P)) (.string (str (dec Q))) 65)
  generalize str (dec Q) = t at *
  generalize rB P = b at *
  generalize rS P = s at *
  generalize fitI P = x at *
  generalize fitB P = y at *
  have q0 := BB.out.now.1.cell
  have q1 := BB.out.now.1.cell1
  have q2 := BB.out.now.1.cell2
  clear hl
  by_cases hq : Q = 1
  · rw [decide_eq_true hq] at h1
    rw [if_pos hq, decide_eq_true hq, Bool.true_and]
    clear hq
    go_enter Tryz.func96, Tryz.ntmps96
    go_wp2_with (first
      | (go_at_call 126; (with_reducible refine (TA.out _).mono ?_); rintro e w2 ⟨rfl, hb2⟩; have BB := Lib.hid (BB.out.go hb2))
      | (go_at_call 125; (with_reducible refine (SM.out _).mono ?_); rintro e w3 ⟨rfl, hb3⟩; have BB := Lib.hid (BB.out.go hb3)))
    go_ret2
    exact ⟨rfl, BB.out.below⟩
  · rw [decide_eq_false hq] at h1
    rw [if_neg hq, decide_eq_false hq, Bool.false_and]
    clear hq TA SM
    go_enter Tryz.func96, Tryz.ntmps96
    go_wp2
    go_ret2
    exact ⟨rfl, BB.out.below⟩
end Go.Proofs.YtkljpofljkgkdaaGreatDoor

namespace Go.Proofs.YtkljpofljkgkdaaGreatDoor
open Go.RowKit
set_option maxHeartbeats 1600000 in
set_option maxRecDepth 100000 in
theorem r6Len_any (cs : Array Value) (S : Nat → Int) (r : Nat) (ch : Bool) (g : Nat → Int) (tn : Nat) (fB : Nat → Bool) (fS fT : Nat → ByteArray) (nn : Nat) (w : World) (h : PlnAt w cs S r ch g tn fB fS fT nn) (h1 : tn ≤ 1000000) (h2 : nn ≤ 1000000) :
    Calls Tryz.prog 50 #[.agg cs] w fun e w' => e = .returned (.int .i64 ((tn + nn : Nat) : Int)) ∧ Below w.heap.size w w' := by
  obtain ⟨sa, sc, ta, tc, na, nc, rfl, _, _, _⟩ := h
  have hw := IntWalk.i64_in ((tn : Int) + nn) (by omega)
  have HE : Hid ((tn : Int) + nn = ((tn + nn : Nat) : Int)) := by show _ = _; omega
  have HB : Hid (Below w.heap.size w (w.alloc (.cells (plC sa r sc ch ta tn tc na nn nc) 26))) := (Below.refl _ _).alloc (Nat.le_refl _) _
  unfold plC at HB
  unfold plC
  go_enter Tryz.func50, Tryz.ntmps50
  go_wp2
  go_ret
  exact ⟨ret_int HE.out, HB.out⟩
set_option maxHeartbeats 3200000 in
set_option maxRecDepth 100000 in
theorem r6Whole_any (cs : Array Value) (S : Nat → Int) (r : Nat) (ch : Bool) (g : Nat → Int) (tn : Nat) (fB : Nat → Bool) (fS fT : Nat → ByteArray) (nn : Nat) (fP : Nat → Int) (fQ : Nat → Nat) (w : World) (h : PlnAt w cs S r ch g tn fB fS fT nn) (hN : NumOk fB fS fT fP fQ nn) (hn : nn ≤ 1000000) :
    Calls Tryz.prog 65 #[.agg cs] w fun e w' => WhTold (decide (tn = 0) && whB fP fQ nn) nn fP w w' e := by
  obtain ⟨sa, sc, ta, tc, na, nc, rfl, h1, h2, h3⟩ := h
  have hl := h3.len
  have hl2 := h2.len
  obtain ⟨i0, hi, hz0, hz1, hz2⟩ := info_parts infoI
  have BB := Lib.hid (((Bag.start w).qrow h3).newRow (plC sa r sc ch ta tn tc na nn nc) 26)
  have IN : Hid (∀ j, j < nn → ∀ wz, Calls Tryz.prog 96 #[.agg #[.bool (fB j), .string (fS j), .string (fT j)]] wz fun e w' => e = .returned (.tuple #[.int .i64 (if fQ j = 1 then fitI (fP j) else 0), .bool (decide (fQ j = 1) && fitB (fP j))]) ∧ Below wz.heap.size wz w') := fun j hj wz => by
    obtain ⟨e1, e2, e3, _, e4, e5⟩ := hN j hj
    rw [e1, e2, e3]
    exact r3Int_any (fP j) (fQ j) wz (by omega)
  by_cases h0 : tn = 0
  · rw [decide_eq_true h0, Bool.true_and]
    have d0 : ¬ ((0 : Int) < tn) := by omega
    unfold plC at BB
    unfold plC
    have H0 := Lib.hid BB.out.below
    clear h1 h2 h3 hN h0
    go_enter Tryz.func65, Tryz.ntmps65
    go_wp2_with fail
    generalize w.alloc (.cells #[.slice sa r sc, .bool ch, .slice ta tn tc, .slice na nn nc] 26) = y0 at *
    go_loopw [4, 5] (fun v i wr => ∃ (k : Nat) (a1 : Option Addr) (c1 : Nat), k ≤ nn ∧ i = .int .i64 k ∧ v = .slice a1 k c1 ∧ Hid (Below y0.heap.size y0 wr ∧ wr.ownsRow y0.heap.size 3 1 (.slice a1 k c1) k (kcs .i64 fP k) ∧ whB fP fQ k = true)) (fun _ i _ => nn - (intOf i).toNat)
    case atStart => exact ⟨0, none, 0, by omega, rfl, rfl, Below.refl _ _, World.ownsRow_nil _ _ _ _, rfl⟩
    case round =>
      obtain ⟨k, a1, c1, hk, rfl, rfl, hrel⟩ := hrel
      obtain ⟨hbl, hown, hwh⟩ := hrel.out
      have B4 := Lib.hid (BB.out.go hbl)
      obtain ⟨x0, x1, x2, x3⟩ := pl_cells B4.out.now.1
      by_cases hlt : k < nn
      · obtain ⟨b, off, rfl, hb, c1', c2', c3'⟩ := B4.out.now.2.1.get hlt
        have IK := Lib.hid (IN.out k hlt)
        have HBL := Lib.hid hbl
        have HWH := Lib.hid hwh
        have HOWN := Lib.hid hown
        have hwr := hbl.size
        clear hbl hown hwh
        by_cases hok : (decide (fQ k = 1) && fitB (fP k)) = true
        · have hv : (if fQ k = 1 then fitI (fP k) else 0) = fP k := by
            rw [Bool.and_eq_true, decide_eq_true_eq] at hok
            rw [if_pos hok.1]; unfold fitI; rw [if_pos hok.2]
          have HW2 : Hid (whB fP fQ (k + 1) = true) := by show (whB fP fQ k && _) = true; rw [HWH.out, hok]; rfl
          have HMX := Lib.hid (show k + 1 ≤ maxLen by unfold maxLen; omega)
          have HMY := Lib.hid (show (k + 1) * 8 ≤ 140737488355328 by omega)
          have HK2 : Hid (kcs .i64 fP (k + 1) = kcs .i64 fP k ++ [.int .i64 (fP k)]) := rfl
          rw [hok, hv] at IK
          clear hok hv
          generalize fB k = u1 at *
          generalize fS k = u2 at *
          generalize fT k = u3 at *
          generalize hx : fP k = x at *
          clear hx
          go_wp2_with fail
          go_at_call 96
          (with_reducible refine (IK.out _).mono ?_)
          rintro e w4 ⟨rfl, hb4⟩
          have HO2 := Lib.hid (own_below (own_below HOWN.out hb4) ((Below.refl _ _).alloc (Nat.le_refl _) (.cells #[.int .i64 x] 3)))
          have HNEW := Lib.hid (World.news_of_block (Row.new w4 3 #[.int .i64 x]))
          have HBA : Hid (y0.heap.size ≤ (w4.alloc (.cells #[.int .i64 x] 3)).heap.size) := Lib.hid (by have := HBL.out.size; have := hb4.size; rw [World.size_alloc]; omega)
          have HB2 := Lib.hid ((HBL.out.trans (hb4.mono hwr)).trans ((Below.refl _ _).alloc (by have := HBL.out.size; have := hb4.size; omega) (.cells #[.int .i64 x] 3)))
          clear hb4
          go_wp2_with (at_builtin; refine wpList_append_lies _ rfl (.tmp 30) (.tmp 32) 22 rfl y0.heap.size 3 i0 _ 1 8 Tryz.underlying22 hi hz0 hz1 hz2 rfl (by omega) (.slice a1 k c1) k _ rfl HO2.out ⟨w4.heap.size, 0, none⟩ 1 1 [.int .i64 x] rfl rfl HNEW.out ?q1 (by omega) HMX.out HMY.out HBA.out _ rfl ?_)
          case q1 => intro u hu; simp at hu; subst hu; rfl
          intro g9 cap9 w5 hown5 hgrow _ _
          have HN2 : Hid (Below y0.heap.size y0 w5 ∧ w5.ownsRow y0.heap.size 3 1 (.slice (some ⟨g9, 0, none⟩) (k + 1) cap9) (k + 1) (kcs .i64 fP (k + 1)) ∧ whB fP fQ (k + 1) = true) :=
            Lib.hid ⟨HB2.out.trans ⟨hgrow.os, hgrow.tape, hgrow.output, hgrow.size, fun j hj => hgrow.block j (Nat.lt_of_lt_of_le hj HB2.out.size) (fun e => by have := (HO2.out.lt j e.symm).1; omega)⟩, by rw [HK2.out]; exact hown5, HW2.out⟩
          clear hown5 hgrow
          go_wp2
          go_roundw
          case rel => exact ⟨k + 1, _, cap9, by omega, by go_num, rfl, HN2.out⟩
          case measure => simp [intOf]; omega
        · rw [Bool.not_eq_true] at hok
          have hno : whB fP fQ nn = false := by
            cases hx : whB fP fQ nn with
            | false => rfl
            | true =>
              have := whB_le (k := k + 1) (by omega) hx
              unfold whB at this
              rw [hok, Bool.and_false] at this
              exact this.symm
          have HNO := Lib.hid hno
          rw [hok] at IK
          clear hok hno
          generalize (if fQ k = 1 then fitI (fP k) else 0) = x at *
          generalize fB k = u1 at *
          generalize fS k = u2 at *
          generalize fT k = u3 at *
          go_wp2_with fail
          go_at_call 96
          (with_reducible refine (IK.out _).mono ?_)
          rintro e w4 ⟨rfl, hb4⟩
          have HE : Hid (WhTold (whB fP fQ nn) nn fP w w4 (.returned (.tuple #[.slice none 0 0, .bool false]))) := Lib.hid (by
            rw [HNO.out]
            exact ⟨_, _, _, rfl, by rw [if_neg (by decide)]; exact ⟨rfl, rfl, rfl⟩, (B4.out.go hb4).below⟩)
          clear hb4
          go_wp2
          go_ret2
          exact HE.out
      · obtain rfl : k = nn := by omega
        obtain ⟨a9, c9, he, hq⟩ := KRow.of_own hown
        injection he with he1 _ he2
        subst he1 he2
        have HE : Hid (WhTold (whB fP fQ k) k fP w wr (.returned (.tuple #[.slice a1 k c1, .bool true]))) := Lib.hid (by
          rw [hwh]
          exact ⟨_, _, _, rfl, by rw [if_pos rfl]; exact ⟨rfl, hq⟩, B4.out.below⟩)
        clear hbl hown hwh hq
        go_wp2
        go_ret2
        exact HE.out
  · rw [decide_eq_false h0, Bool.false_and]
    have d1 : (0 : Int) < tn := by omega
    have HE : Hid (WhTold false nn fP w (w.alloc (.cells (plC sa r sc ch ta tn tc na nn nc) 26)) (.returned (.tuple #[.slice none 0 0, .bool false]))) := Lib.hid
      ⟨_, _, _, rfl, by rw [if_neg (by decide)]; exact ⟨rfl, rfl, rfl⟩, BB.out.below⟩
    unfold plC at HE
    unfold plC
    clear h1 h2 h3 hN h0
    go_enter Tryz.func65, Tryz.ntmps65
    go_wp2
    go_ret2
    exact HE.out
end Go.Proofs.YtkljpofljkgkdaaGreatDoor

namespace Go.Proofs.YtkljpofljkgkdaaGreatDoor
open Go.RowKit
/-- One element more in the row of characters that a plain array holds. -/
theorem pt_step {w y0 wr w2 : World} {P : Nat} {sa : Option Addr} {sn sc : Nat} {ch : Bool} {na : Option Addr} {nn nc : Nat} {a : Option Addr} {k c : Nat} {ki : IntKind} {f : Nat → Int} {T E : TypeId} (hbl : Below w.heap.size w wr) (hf : Far P y0 wr) (hb : Below wr.heap.size wr w2)
    (hr : Row w2 P T (plC sa sn sc ch a k c na nn nc)) (ho : w2.ownsRow y0.heap.size E 1 (.slice a k c) k (kcs ki f k)) (hne : E ≠ T) (hP : w.heap.size ≤ P) (hy : w.heap.size ≤ y0.heap.size) :
    ∀ (g cap : Nat) (w3 : World) (x : Int), x = f k → w3.ownsRow y0.heap.size E 1 (.slice (some ⟨g, 0, none⟩) (k + 1) cap) (k + 1) (kcs ki f k ++ [.int ki x]) → w2.grownBy w3 (Value.slice a k c).ownBlock →
    Below w.heap.size w (w3.setCell ⟨P, 2, none⟩ (.slice (some ⟨g, 0, none⟩) (k + 1) cap)) ∧ Far P y0 (w3.setCell ⟨P, 2, none⟩ (.slice (some ⟨g, 0, none⟩) (k + 1) cap)) ∧ Row (w3.setCell ⟨P, 2, none⟩ (.slice (some ⟨g, 0, none⟩) (k + 1) cap)) P T (plC sa sn sc ch (some ⟨g, 0, none⟩) (k + 1) cap na nn nc)
      ∧ (w3.setCell ⟨P, 2, none⟩ (.slice (some ⟨g, 0, none⟩) (k + 1) cap)).ownsRow y0.heap.size E 1 (.slice (some ⟨g, 0, none⟩) (k + 1) cap) (k + 1) (kcs ki f (k + 1)) := by
  intro g cap w3 x hx ho3 hg
  subst hx
  have hlt := ho.lt
  have hr3 := hr.grown hg (hr.apart ho hne)
  have hb2 : Below w.heap.size w w2 := hbl.trans (hb.mono hbl.size)
  have hb3 : Below w.heap.size w w3 := hb2.trans ⟨hg.os, hg.tape, hg.output, hg.size, fun j hj => hg.block j (Nat.lt_of_lt_of_le hj hb2.size) (fun e => by have := (hlt j e.symm).1; omega)⟩
  refine ⟨hb3.setCell (p := ⟨P, 2, none⟩) hP _, ((hf.trans (Far.of_below hb)).of_grown hg (fun x hx => (hlt x hx).1)).trans (Far.setCell _ _ _ _), hr3.set 2 _, own_setCell ho3 _ _ _ (hr3.apart ho3 hne)⟩
/-- A number's parts at a place, or nought's. -/
def elB (n : Nat) (fB : Nat → Bool) (i : Int) : Bool := if 0 ≤ i ∧ i < n then fB i.toNat else rB 0
def elS (n : Nat) (fS : Nat → ByteArray) (z : ByteArray) (i : Int) : ByteArray := if 0 ≤ i ∧ i < n then fS i.toNat else z
set_option linter.unusedSimpArgs false in
set_option maxHeartbeats 6400000 in
set_option maxRecDepth 100000 in
theorem r6PickC_any (cs : Array Value) (S : Nat → Int) (r : Nat) (g : Nat → Int) (tn : Nat) (fB : Nat → Bool) (fS fT : Nat → ByteArray) (s1 : Option Addr) (r' c1 : Nat) (S' : Nat → Int) (t1 : Option Addr) (m d1 : Nat) (at' : Nat → Int) (w : World) (h : PlnAt w cs S r true g tn fB fS fT 0) (hs : KRow w .i64 s1 r' c1 S') (ht : KRow w .i64 t1 m d1 at') (hm : m ≤ 1000000) (hL : tn ≤ 1000000) :
    Calls Tryz.prog 51 #[.agg cs, .slice s1 r' c1, .slice t1 m d1] w fun e w' => ∀ fB' fS' fT', PlnTold S' r' true (fun j => elC tn g 32 (at' j)) m fB' fS' fT' 0 w w' e := by
  have LN := Lib.hid (fun wz cs p => r6Len_any cs S r true g tn fB fS fT 0 wz p (by omega) (by omega))
  obtain ⟨sa, sc, ta, tc, na, nc, rfl, h1, h2, h3⟩ := h
  have hl := ht.len
  obtain ⟨i0, hi, hz0, hz1, hz2⟩ := info_parts infoC
  have BB := Lib.hid ((((((((Bag.start w).krow h1).krow h2).qrow h3).krow hs).krow ht).newRow (plC sa r sc true ta tn tc na 0 nc) 26).newRow plZer 26 |>.newRow (plC s1 r' c1 true none 0 0 none 0 0) 26)
  simp only [World.size_alloc] at BB
  have LN := Lib.hid (fun wz a b c => LN.out wz (plC sa r sc true ta tn tc na 0 nc) ⟨sa, sc, ta, tc, na, nc, rfl, a, b, c⟩)
  have eL : ((tn + 0 : Nat) : Int) = (tn : Int) := by omega
  rw [eL] at LN
  have hni := noInt_pl s1 r' c1 true none 0 0 none 0 0
  have hns := noStr_pl s1 r' c1 true none 0 0 none 0 0
  have K1 := BB.out.now.2.2.2.2.2.2.2.1
  have K2 := BB.out.now.2.2.2.2.2.2.1
  have K3 := BB.out.now.2.2.2.2.2.1
  have K4 := BB.out.now.2.2.2.2.1
  have K5 := BB.out.now.2.2.2.1
  have KEEP : Hid (∀ wr, Far (w.heap.size + 1 + 1) (((w.alloc (.cells (plC sa r sc true ta tn tc na 0 nc) 26)).alloc (.cells plZer 26)).alloc (.cells (plC s1 r' c1 true none 0 0 none 0 0) 26)) wr →
      KRow wr .i64 sa r sc S ∧ KRow wr .i32 ta tn tc g ∧ QRow wr na 0 nc fB fS fT ∧ KRow wr .i64 s1 r' c1 S' ∧ KRow wr .i64 t1 m d1 at' ∧ Row wr w.heap.size 26 (plC sa r sc true ta tn tc na 0 nc) ∧ Row wr (w.heap.size + 1) 26 plZer) := Lib.hid fun wr hf =>
    ⟨K1.away (K1.apart BB.out.now.1 hni) hf, K2.away (K2.apart BB.out.now.1 hni) hf, K3.away (K3.apart BB.out.now.1 hns) hf, K4.away (K4.apart BB.out.now.1 hni) hf, K5.away (K5.apart BB.out.now.1 hni) hf,
      (hf.block _ (by omega) BB.out.now.2.2.1.lt).trans BB.out.now.2.2.1, (hf.block _ (by omega) BB.out.now.2.1.lt).trans BB.out.now.2.1⟩
  have hsz := BB.out.now.1.lt
  unfold plZer plC at BB KEEP
  unfold plC at LN
  unfold plC
  clear h1 h2 h3 hs ht K1 K2 K3 K4 K5 eL hni hns
  go_enter Tryz.func51, Tryz.ntmps51
  go_wp2_with fail
  generalize ((w.alloc (.cells #[.slice sa r sc, .bool true, .slice ta tn tc, .slice na 0 nc] 26)).alloc (.cells #[.slice none 0 0, .bool false, .slice none 0 0, .slice none 0 0] 26)).alloc (.cells #[.slice s1 r' c1, .bool true, .slice none 0 0, .slice none 0 0] 26) = y0 at *
  go_loopw [8] (fun i wr => ∃ (k : Nat) (a1 : Option Addr) (ak : Nat), k ≤ m ∧ i = .int .i64 k ∧ Hid (Below w.heap.size w wr ∧ Far (w.heap.size + 1 + 1) y0 wr ∧ Row wr (w.heap.size + 1 + 1) 26 (plC s1 r' c1 true a1 k ak none 0 0) ∧ wr.ownsRow y0.heap.size 21 1 (.slice a1 k ak) k (kcs .i32 (fun j => elC tn g 32 (at' j)) k))) (fun i _ => m - (intOf i).toNat)
  case atStart => exact ⟨0, none, 0, by omega, rfl, BB.out.below, Far.refl _ _, BB.out.now.1, World.ownsRow_nil _ _ _ _⟩
  case round =>
    obtain ⟨k, a1, ak, hk, rfl, hrel⟩ := hrel
    obtain ⟨hbl, hfar, hrp, hown⟩ := hrel.out
    obtain ⟨k1, k2, k3, k4, k5, r0, r1⟩ := KEEP.out wr hfar
    by_cases hlt : k < m
    · obtain ⟨b, off, rfl, hb, hc⟩ := k5.get hlt
      have B1 := Lib.hid ((((((Bag.start wr).krow k1).krow k2).qrow k3).own hown).row hrp |>.row r0)
      have HBL := Lib.hid hbl
      have HF := Lib.hid hfar
      have q3 : wr.cell? ⟨w.heap.size + 1 + 1, 2, none⟩ = some (.slice a1 k ak) := hrp.cell 2
      have p0 : wr.cell? ⟨w.heap.size, 0, none⟩ = some (.slice sa r sc) := r0.cell 0
      have p1 : wr.cell? ⟨w.heap.size, 1, none⟩ = some (.bool true) := r0.cell 1
      have p2 : wr.cell? ⟨w.heap.size, 2, none⟩ = some (.slice ta tn tc) := r0.cell 2
      have p3 : wr.cell? ⟨w.heap.size, 3, none⟩ = some (.slice na 0 nc) := r0.cell 3
      have HMX := Lib.hid (show k + 1 ≤ maxLen by unfold maxLen; omega)
      have HMY := Lib.hid (show (k + 1) * 4 ≤ 140737488355328 by omega)
      have hk0 : (0 : Int) ≤ k := by omega
      have hk1 : (k : Int) < m := by omega
      have hk2 : (k : Int) ≤ m := by omega
      clear hbl hfar hrp hown k1 k2 k3 k4 k5 r0 r1
      by_cases hin : 0 ≤ at' k ∧ at' k < tn
      · obtain ⟨h0, h1⟩ := hin
        obtain ⟨q, hq⟩ : ∃ q : Nat, at' k = q := ⟨(at' k).toNat, by omega⟩
        have hqn : q < tn := by omega
        have HV := Lib.hid (show g q = elC tn g 32 (at' k) by unfold elC; rw [if_pos ⟨h0, h1⟩, hq]; rfl)
        obtain ⟨b2, off2, rfl, hbb2, hcc⟩ := B1.out.now.2.2.2.2.1.get hqn
        rw [hq] at hc h0 h1
        clear hq
        have hq0 : (q : Int) < tn := by omega
        generalize g q = y at *
        go_wp2_with fail
        go_at_call 50
        (with_reducible refine (LN.out _ B1.out.now.2.2.2.2.2.1 B1.out.now.2.2.2.2.1 B1.out.now.2.2.2.1).mono ?_)
        rintro e w2 ⟨rfl, hb2⟩
        have B2 := Lib.hid (B1.out.go hb2)
        have HB2 := Lib.hid hb2
        clear hb2 q3 p0 p1 p2 p3
        have q3 : w2.cell? ⟨w.heap.size + 1 + 1, 2, none⟩ = some (.slice a1 k ak) := B2.out.now.2.1.cell 2
        have p1 : w2.cell? ⟨w.heap.size, 1, none⟩ = some (.bool true) := B2.out.now.1.cell 1
        have p2 : w2.cell? ⟨w.heap.size, 2, none⟩ = some (.slice (some ⟨b2, off2, none⟩) tn tc) := B2.out.now.1.cell 2
        have p3 : w2.cell? ⟨w.heap.size, 3, none⟩ = some (.slice na 0 nc) := B2.out.now.1.cell 3
        have hcc2 : w2.cell? ⟨b2, off2 + q, none⟩ = some (.int .i32 y) := (HB2.out.cell (p := ⟨b2, _, none⟩) hbb2).trans hcc
        have HONE := Lib.hid (show ∀ u ∈ ([.int .i32 y] : List Value), u.oneCell' = true by intro u hu; simp at hu; subst hu; rfl)
        have B3 := Lib.hid ((B2.out.newRow #[.int .i32 y] 21).drew)
        have qp3 : (w2.alloc (.cells #[.int .i32 y] 21)).cell? ⟨w.heap.size + 1 + 1, 2, none⟩ = some (.slice a1 k ak) := B3.out.now.2.2.1.cell 2
        have HROW := Lib.hid B3.out.now.2.2.1
        have HOWN := Lib.hid B3.out.now.2.2.2.1
        have HNEW := Lib.hid (World.news_of_block B3.out.now.1)
        have HBA := Lib.hid (Nat.le_trans HF.out.size B3.out.below.size)
        have HNX := Lib.hid (pt_step HBL.out HF.out B3.out.below HROW.out HOWN.out (by decide) (by omega) BB.out.below.size)
        clear hcc
        go_wp2_with fail
        go_region_law (refine step_append_lies _ rfl (.tmp 39) (.tmp 45) 23 rfl y0.heap.size 21 i0 _ 1 4 Tryz.underlying23 hi hz0 hz1 hz2 rfl (by omega) (.slice a1 k ak) k _ rfl HOWN.out ⟨w2.heap.size, 0, none⟩ 1 1 [.int .i32 y] rfl rfl HNEW.out HONE.out (by omega) HMX.out HMY.out HBA.out _ rfl ?_; intro g9 cap9 w3 hown3 hgrow hor hlt3; have hr3 := HROW.out.grown hgrow (HROW.out.apart HOWN.out (by decide)); have qp : w3.cell? ⟨w.heap.size + 1 + 1, 2, none⟩ = some (.slice a1 k ak) := hr3.cell 2; have fp := hr3.free 2; have HN := Lib.hid (HNX.out g9 cap9 w3 _ HV.out hown3 hgrow); clear hown3 hgrow hor hlt3 hr3)
        all_goals
          go_wp2
          go_roundw
          case rel => exact ⟨k + 1, _, cap9, by omega, by go_num, HN.out⟩
          case measure => simp [intOf]; omega
      · have HV := Lib.hid (show (32 : Int) = elC tn g 32 (at' k) by unfold elC; rw [if_neg hin])
        obtain ⟨x, hx⟩ : ∃ x, at' k = x := ⟨_, rfl⟩
        rw [hx] at hc hin
        clear hx
        by_cases h0 : 0 ≤ x
        · have h1 : ¬ x < (tn : Int) := by omega
          clear hin
          go_wp2_with fail
          go_at_call 50
          (with_reducible refine (LN.out _ B1.out.now.2.2.2.2.2.1 B1.out.now.2.2.2.2.1 B1.out.now.2.2.2.1).mono ?_)
          rintro e w2 ⟨rfl, hb2⟩
          have B2 := Lib.hid (B1.out.go hb2)
          have HB2 := Lib.hid hb2
          clear hb2 q3 p0 p1 p2 p3
          have q3 : w2.cell? ⟨w.heap.size + 1 + 1, 2, none⟩ = some (.slice a1 k ak) := B2.out.now.2.1.cell 2
          have p1 : w2.cell? ⟨w.heap.size, 1, none⟩ = some (.bool true) := B2.out.now.1.cell 1
          have p2 : w2.cell? ⟨w.heap.size, 2, none⟩ = some (.slice ta tn tc) := B2.out.now.1.cell 2
          have p3 : w2.cell? ⟨w.heap.size, 3, none⟩ = some (.slice na 0 nc) := B2.out.now.1.cell 3
          have HONE := Lib.hid (show ∀ u ∈ ([.int .i32 32] : List Value), u.oneCell' = true by intro u hu; simp at hu; subst hu; rfl)
          have B3 := Lib.hid ((B2.out.newRow #[.int .i32 32] 21))
          have qp3 : (w2.alloc (.cells #[.int .i32 32] 21)).cell? ⟨w.heap.size + 1 + 1, 2, none⟩ = some (.slice a1 k ak) := B3.out.now.2.2.1.cell 2
          have HROW := Lib.hid B3.out.now.2.2.1
          have HOWN := Lib.hid B3.out.now.2.2.2.1
          have HNEW := Lib.hid (World.news_of_block B3.out.now.1)
          have HBA := Lib.hid (Nat.le_trans HF.out.size B3.out.below.size)
          have HNX := Lib.hid (pt_step HBL.out HF.out B3.out.below HROW.out HOWN.out (by decide) (by omega) BB.out.below.size)
          go_wp2_with (at_builtin; refine wpList_append_lies _ rfl (.tmp 51) (.tmp 52) 23 rfl y0.heap.size 21 i0 _ 1 4 Tryz.underlying23 hi hz0 hz1 hz2 rfl (by omega) (.slice a1 k ak) k _ rfl HOWN.out ⟨w2.heap.size, 0, none⟩ 1 1 [.int .i32 32] rfl rfl HNEW.out HONE.out (by omega) HMX.out HMY.out HBA.out _ rfl ?_)
          intro g9 cap9 w3 hown3 hgrow hor hlt3
          have hr3 := HROW.out.grown hgrow (HROW.out.apart HOWN.out (by decide)); have qp : w3.cell? ⟨w.heap.size + 1 + 1, 2, none⟩ = some (.slice a1 k ak) := hr3.cell 2; have fp := hr3.free 2; have HN := Lib.hid (HNX.out g9 cap9 w3 _ HV.out hown3 hgrow); clear hown3 hgrow hor hlt3 hr3
          go_wp2
          go_roundw
          case rel => exact ⟨k + 1, _, cap9, by omega, by go_num, HN.out⟩
          case measure => simp [intOf]; omega
        · clear hin
          have HONE := Lib.hid (show ∀ u ∈ ([.int .i32 32] : List Value), u.oneCell' = true by intro u hu; simp at hu; subst hu; rfl)
          have B3 := Lib.hid ((B1.out.newRow #[.int .i32 32] 21))
          have qp3 : (wr.alloc (.cells #[.int .i32 32] 21)).cell? ⟨w.heap.size + 1 + 1, 2, none⟩ = some (.slice a1 k ak) := B3.out.now.2.2.1.cell 2
          have HROW := Lib.hid B3.out.now.2.2.1
          have HOWN := Lib.hid B3.out.now.2.2.2.1
          have HNEW := Lib.hid (World.news_of_block B3.out.now.1)
          have HBA := Lib.hid (Nat.le_trans HF.out.size B3.out.below.size)
          have HNX := Lib.hid (pt_step HBL.out HF.out B3.out.below HROW.out HOWN.out (by decide) (by omega) BB.out.below.size)
          go_wp2_with (at_builtin; refine wpList_append_lies _ rfl (.tmp 51) (.tmp 52) 23 rfl y0.heap.size 21 i0 _ 1 4 Tryz.underlying23 hi hz0 hz1 hz2 rfl (by omega) (.slice a1 k ak) k _ rfl HOWN.out ⟨wr.heap.size, 0, none⟩ 1 1 [.int .i32 32] rfl rfl HNEW.out HONE.out (by omega) HMX.out HMY.out HBA.out _ rfl ?_)
          intro g9 cap9 w3 hown3 hgrow hor hlt3
          have hr3 := HROW.out.grown hgrow (HROW.out.apart HOWN.out (by decide)); have qp : w3.cell? ⟨w.heap.size + 1 + 1, 2, none⟩ = some (.slice a1 k ak) := hr3.cell 2; have fp := hr3.free 2; have HN := Lib.hid (HNX.out g9 cap9 w3 _ HV.out hown3 hgrow); clear hown3 hgrow hor hlt3 hr3
          go_wp2
          go_roundw
          case rel => exact ⟨k + 1, _, cap9, by omega, by go_num, HN.out⟩
          case measure => simp [intOf]; omega
    · obtain rfl : k = m := by omega
      obtain ⟨a9, c9, he, hq⟩ := KRow.of_own hown
      injection he with he1 _ he2
      subst he1 he2
      have HE : Hid (∀ fB' fS' fT', PlnTold S' r' true (fun j => elC tn g 32 (at' j)) k fB' fS' fT' 0 w (wr.setRow (w.heap.size + 1) (plC s1 r' c1 true a1 k ak none 0 0)) (.returned (.agg (plC s1 r' c1 true a1 k ak none 0 0)))) :=
        Lib.hid fun fB' fS' fT' => ans_pln ⟨_, _, _, _, _, _, rfl, k4, hq, QRow.nought _ _ _ (Nat.zero_le _) _ _ _⟩ hbl r1 (Nat.le_succ _)
      have HR0 := Lib.hid r1
      have HRP := Lib.hid hrp
      clear hbl hfar hrp hown k1 k2 k3 k4 k5 r0 r1 hq
      go_wp2_with (first
        | (refine ld_pln rfl (.tmp 7) rfl (w.heap.size + 1 + 1) rfl HRP.out ?_)
        | (refine st_pln rfl (.tmp 6) (.tmp 72) rfl (w.heap.size + 1) rfl _ _ _ _ _ _ _ _ _ _ rfl HR0.out rfl ?_))
      exact bodyPost_ret (res_pln Tryz.results51 rfl (HR0.out.put _) rfl) rfl HE.out
set_option linter.unusedSimpArgs false in
set_option maxHeartbeats 6400000 in
set_option maxRecDepth 100000 in
theorem r6PickN_any (cs : Array Value) (S : Nat → Int) (r : Nat) (g : Nat → Int) (nn : Nat) (fB : Nat → Bool) (fS fT : Nat → ByteArray) (s1 : Option Addr) (r' c1 : Nat) (S' : Nat → Int) (t1 : Option Addr) (m d1 : Nat) (at' : Nat → Int) (w : World) (h : PlnAt w cs S r false g 0 fB fS fT nn) (hs : KRow w .i64 s1 r' c1 S') (ht : KRow w .i64 t1 m d1 at') (hm : m ≤ 1000000) (hL : nn ≤ 1000000) :
    Calls Tryz.prog 51 #[.agg cs, .slice s1 r' c1, .slice t1 m d1] w fun e w' => ∀ g', PlnTold S' r' false g' 0 (fun j => elB nn fB (at' j)) (fun j => elS nn fS (rS 0) (at' j)) (fun j => elS nn fT (str (dec 1)) (at' j)) m w w' e := by
  have LN := Lib.hid (fun wz cs p => r6Len_any cs S r false g 0 fB fS fT nn wz p (by omega) (by omega))
  obtain ⟨sa, sc, ta, tc, na, nc, rfl, h1, h2, h3⟩ := h
  have hl := ht.len
  obtain ⟨i0, hi, hz0, hz1, hz2⟩ := info_parts infoN
  have BB := Lib.hid ((((((((Bag.start w).krow h1).krow h2).qrow h3).krow hs).krow ht).newRow (plC sa r sc false ta 0 tc na nn nc) 26).newRow plZer 26 |>.newRow (plC s1 r' c1 false none 0 0 none 0 0) 26)
  simp only [World.size_alloc] at BB
  have LN := Lib.hid (fun wz a b c => LN.out wz (plC sa r sc false ta 0 tc na nn nc) ⟨sa, sc, ta, tc, na, nc, rfl, a, b, c⟩)
  have eL : ((0 + nn : Nat) : Int) = (nn : Int) := by omega
  rw [eL] at LN
  have hni := noInt_pl s1 r' c1 false none 0 0 none 0 0
  have hns := noStr_pl s1 r' c1 false none 0 0 none 0 0
  have K1 := BB.out.now.2.2.2.2.2.2.2.1
  have K2 := BB.out.now.2.2.2.2.2.2.1
  have K3 := BB.out.now.2.2.2.2.2.1
  have K4 := BB.out.now.2.2.2.2.1
  have K5 := BB.out.now.2.2.2.1
  have KEEP : Hid (∀ wr, Far (w.heap.size + 1 + 1) (((w.alloc (.cells (plC sa r sc false ta 0 tc na nn nc) 26)).alloc (.cells plZer 26)).alloc (.cells (plC s1 r' c1 false none 0 0 none 0 0) 26)) wr →
      KRow wr .i64 sa r sc S ∧ KRow wr .i32 ta 0 tc g ∧ QRow wr na nn nc fB fS fT ∧ KRow wr .i64 s1 r' c1 S' ∧ KRow wr .i64 t1 m d1 at' ∧ Row wr w.heap.size 26 (plC sa r sc false ta 0 tc na nn nc) ∧ Row wr (w.heap.size + 1) 26 plZer) := Lib.hid fun wr hf =>
    ⟨K1.away (K1.apart BB.out.now.1 hni) hf, K2.away (K2.apart BB.out.now.1 hni) hf, K3.away (K3.apart BB.out.now.1 hns) hf, K4.away (K4.apart BB.out.now.1 hni) hf, K5.away (K5.apart BB.out.now.1 hni) hf,
      (hf.block _ (by omega) BB.out.now.2.2.1.lt).trans BB.out.now.2.2.1, (hf.block _ (by omega) BB.out.now.2.1.lt).trans BB.out.now.2.1⟩
  have hsz := BB.out.now.1.lt
  unfold plZer plC at BB KEEP
  unfold plC at LN
  unfold plC
  clear h1 h2 h3 hs ht K1 K2 K3 K4 K5 eL hni hns
  go_enter Tryz.func51, Tryz.ntmps51
  go_wp2_with fail
  generalize ((w.alloc (.cells #[.slice sa r sc, .bool false, .slice ta 0 tc, .slice na nn nc] 26)).alloc (.cells #[.slice none 0 0, .bool false, .slice none 0 0, .slice none 0 0] 26)).alloc (.cells #[.slice s1 r' c1, .bool false, .slice none 0 0, .slice none 0 0] 26) = y0 at *
  go_loopw [8] (fun i wr => ∃ (k : Nat) (a1 : Option Addr) (ak : Nat), k ≤ m ∧ i = .int .i64 k ∧ Hid (Below w.heap.size w wr ∧ Far (w.heap.size + 1 + 1) y0 wr ∧ Row wr (w.heap.size + 1 + 1) 26 (plC s1 r' c1 false none 0 0 a1 k ak) ∧ wr.ownsRow y0.heap.size 65 3 (.slice a1 k ak) k (qcs (fun j => elB nn fB (at' j)) (fun j => elS nn fS (rS 0) (at' j)) (fun j => elS nn fT (str (dec 1)) (at' j)) k))) (fun i _ => m - (intOf i).toNat)
  case atStart => exact ⟨0, none, 0, by omega, rfl, BB.out.below, Far.refl _ _, BB.out.now.1, World.ownsRow_nil _ _ _ _⟩
  case round =>
    obtain ⟨k, a1, ak, hk, rfl, hrel⟩ := hrel
    obtain ⟨hbl, hfar, hrp, hown⟩ := hrel.out
    obtain ⟨k1, k2, k3, k4, k5, r0, r1⟩ := KEEP.out wr hfar
    by_cases hlt : k < m
    · obtain ⟨b, off, rfl, hb, hc⟩ := k5.get hlt
      have B1 := Lib.hid ((((((Bag.start wr).krow k1).krow k2).qrow k3).own hown).row hrp |>.row r0)
      have HBL := Lib.hid hbl
      have HF := Lib.hid hfar
      have q3 : wr.cell? ⟨w.heap.size + 1 + 1, 3, none⟩ = some (.slice a1 k ak) := hrp.cell 3
      have p0 : wr.cell? ⟨w.heap.size, 0, none⟩ = some (.slice sa r sc) := r0.cell 0
      have p1 : wr.cell? ⟨w.heap.size, 1, none⟩ = some (.bool false) := r0.cell 1
      have p2 : wr.cell? ⟨w.heap.size, 2, none⟩ = some (.slice ta 0 tc) := r0.cell 2
      have p3 : wr.cell? ⟨w.heap.size, 3, none⟩ = some (.slice na nn nc) := r0.cell 3
      have HMX := Lib.hid (show k + 1 ≤ maxLen by unfold maxLen; omega)
      have HMY := Lib.hid (show (k + 1) * 40 ≤ 140737488355328 by omega)
      have hk0 : (0 : Int) ≤ k := by omega
      have hk1 : (k : Int) < m := by omega
      have hk2 : (k : Int) ≤ m := by omega
      clear hbl hfar hrp hown k1 k2 k3 k4 k5 r0 r1
      by_cases hin : 0 ≤ at' k ∧ at' k < nn
      · obtain ⟨h0, h1⟩ := hin
        obtain ⟨q, hq⟩ : ∃ q : Nat, at' k = q := ⟨(at' k).toNat, by omega⟩
        have hqn : q < nn := by omega
        have HV := Lib.hid (show fB q = elB nn fB (at' k) ∧ fS q = elS nn fS (rS 0) (at' k) ∧ fT q = elS nn fT (str (dec 1)) (at' k) by unfold elB elS; rw [if_pos ⟨h0, h1⟩, if_pos ⟨h0, h1⟩, if_pos ⟨h0, h1⟩, hq]; exact ⟨rfl, rfl, rfl⟩)
        obtain ⟨b2, off2, rfl, hbb2, hcc, hcd, hce⟩ := B1.out.now.2.2.2.1.get hqn
        rw [hq] at hc h0 h1
        clear hq
        have hq0 : (q : Int) < nn := by omega
        generalize fB q = y1 at *
        generalize fS q = y2 at *
        generalize fT q = y3 at *
        go_wp2_with fail
        go_at_call 50
        (with_reducible refine (LN.out _ B1.out.now.2.2.2.2.2.1 B1.out.now.2.2.2.2.1 B1.out.now.2.2.2.1).mono ?_)
        rintro e w2 ⟨rfl, hb2⟩
        have B2 := Lib.hid (B1.out.go hb2)
        have HB2 := Lib.hid hb2
        clear hb2 q3 p0 p1 p2 p3
        have q3 : w2.cell? ⟨w.heap.size + 1 + 1, 3, none⟩ = some (.slice a1 k ak) := B2.out.now.2.1.cell 3
        have p1 : w2.cell? ⟨w.heap.size, 1, none⟩ = some (.bool false) := B2.out.now.1.cell 1
        have p2 : w2.cell? ⟨w.heap.size, 2, none⟩ = some (.slice ta 0 tc) := B2.out.now.1.cell 2
        have p3 : w2.cell? ⟨w.heap.size, 3, none⟩ = some (.slice (some ⟨b2, off2, none⟩) nn nc) := B2.out.now.1.cell 3
        have hcc2 : w2.cell? ⟨b2, off2 + q * 3, none⟩ = some (.bool y1) := (HB2.out.cell (p := ⟨b2, _, none⟩) hbb2).trans hcc
        have hcd2 : w2.cell? ⟨b2, off2 + q * 3 + 1, none⟩ = some (.string y2) := (HB2.out.cell (p := ⟨b2, _, none⟩) hbb2).trans hcd
        have hce2 : w2.cell? ⟨b2, off2 + q * 3 + 2, none⟩ = some (.string y3) := (HB2.out.cell (p := ⟨b2, _, none⟩) hbb2).trans hce
        have HONE := Lib.hid (show ∀ u ∈ ([.bool y1, .string y2, .string y3] : List Value), u.oneCell' = true by intro u hu; simp at hu; rcases hu with rfl | rfl | rfl <;> rfl)
        have B3 := Lib.hid ((B2.out.newRow #[.bool y1, .string y2, .string y3] 65).drew)
        have qp3 : (w2.alloc (.cells #[.bool y1, .string y2, .string y3] 65)).cell? ⟨w.heap.size + 1 + 1, 3, none⟩ = some (.slice a1 k ak) := B3.out.now.2.2.1.cell 3
        have HROW := Lib.hid B3.out.now.2.2.1
        have HOWN := Lib.hid B3.out.now.2.2.2.1
        have HNEW := Lib.hid (World.news_of_block B3.out.now.1)
        have HBA := Lib.hid (Nat.le_trans HF.out.size B3.out.below.size)
        have HNX := Lib.hid (pl_step HBL.out HF.out B3.out.below HROW.out HOWN.out (by decide) (by omega) BB.out.below.size)
        clear hcc hcd hce
        go_wp2_with fail
        go_region_law (refine step_append_lies _ rfl (.tmp 57) (.tmp 63) 24 rfl y0.heap.size 65 i0 _ 3 40 Tryz.underlying24 hi hz0 hz1 hz2 rfl (by omega) (.slice a1 k ak) k _ rfl HOWN.out ⟨w2.heap.size, 0, none⟩ 1 1 [.bool y1, .string y2, .string y3] rfl rfl HNEW.out HONE.out (by omega) HMX.out HMY.out HBA.out _ rfl ?_; intro g9 cap9 w3 hown3 hgrow hor hlt3; have hr3 := HROW.out.grown hgrow (HROW.out.apart HOWN.out (by decide)); have qp : w3.cell? ⟨w.heap.size + 1 + 1, 3, none⟩ = some (.slice a1 k ak) := hr3.cell 3; have fp := hr3.free 3; have HN := Lib.hid (HNX.out g9 cap9 w3 (by rw [← HV.out.1, ← HV.out.2.1, ← HV.out.2.2]; exact hown3) hgrow); clear hown3 hgrow hor hlt3 hr3)
        all_goals
          go_wp2
          go_roundw
          case rel => exact ⟨k + 1, _, cap9, by omega, by go_num, HN.out⟩
          case measure => simp [intOf]; omega
      · have HV := Lib.hid (show rB 0 = elB nn fB (at' k) ∧ rS 0 = elS nn fS (rS 0) (at' k) ∧ str (dec 1) = elS nn fT (str (dec 1)) (at' k) by unfold elB elS; rw [if_neg hin, if_neg hin, if_neg hin]; exact ⟨rfl, rfl, rfl⟩)
        obtain ⟨z1, hz1'⟩ : ∃ z, elB nn fB (at' k) = z := ⟨_, rfl⟩
        obtain ⟨z2, hz2'⟩ : ∃ z, elS nn fS (rS 0) (at' k) = z := ⟨_, rfl⟩
        obtain ⟨z3, hz3'⟩ : ∃ z, elS nn fT (str (dec 1)) (at' k) = z := ⟨_, rfl⟩
        have ZR := Lib.hid (fun wz => r3Zero_any wz)
        unfold NumTold at ZR
        rw [HV.out.1, HV.out.2.1, HV.out.2.2, hz1', hz2', hz3'] at ZR
        have HV := Lib.hid (And.intro hz1'.symm (And.intro hz2'.symm hz3'.symm))
        clear hz1' hz2' hz3'
        obtain ⟨x, hx⟩ : ∃ x, at' k = x := ⟨_, rfl⟩
        rw [hx] at hc hin
        clear hx
        by_cases h0 : 0 ≤ x
        · have h1 : ¬ x < (nn : Int) := by omega
          clear hin
          go_wp2_with fail
          go_at_call 50
          (with_reducible refine (LN.out _ B1.out.now.2.2.2.2.2.1 B1.out.now.2.2.2.2.1 B1.out.now.2.2.2.1).mono ?_)
          rintro e w2 ⟨rfl, hb2⟩
          have B2 := Lib.hid (B1.out.go hb2)
          have HB2 := Lib.hid hb2
          clear hb2 q3 p0 p1 p2 p3
          have q3 : w2.cell? ⟨w.heap.size + 1 + 1, 3, none⟩ = some (.slice a1 k ak) := B2.out.now.2.1.cell 3
          have p1 : w2.cell? ⟨w.heap.size, 1, none⟩ = some (.bool false) := B2.out.now.1.cell 1
          have p2 : w2.cell? ⟨w.heap.size, 2, none⟩ = some (.slice ta 0 tc) := B2.out.now.1.cell 2
          have p3 : w2.cell? ⟨w.heap.size, 3, none⟩ = some (.slice na nn nc) := B2.out.now.1.cell 3
          have HONE := Lib.hid (show ∀ u ∈ ([.bool z1, .string z2, .string z3] : List Value), u.oneCell' = true by intro u hu; simp at hu; rcases hu with rfl | rfl | rfl <;> rfl)
          go_wp2_with fail
          go_region_law (first
            | (go_simp; go_at_call 89; (with_reducible refine (ZR.out _).mono ?_); rintro e w4 ⟨rfl, hb4⟩;
                have B4 := Lib.hid (B2.out.drew.go hb4);
                have q4 : w4.cell? ⟨w.heap.size + 1 + 1, 3, none⟩ = some (.slice a1 k ak) := B4.out.now.2.1.cell 3;
                have B3 := Lib.hid (B4.out.newRow #[.bool z1, .string z2, .string z3] 65);
                have qp3 : (w4.alloc (.cells #[.bool z1, .string z2, .string z3] 65)).cell? ⟨w.heap.size + 1 + 1, 3, none⟩ = some (.slice a1 k ak) := B3.out.now.2.2.1.cell 3;
                have HROW := Lib.hid B3.out.now.2.2.1;
                have HOWN := Lib.hid B3.out.now.2.2.2.1;
                have HNEW := Lib.hid (World.news_of_block B3.out.now.1);
                have HBA := Lib.hid (Nat.le_trans HF.out.size B3.out.below.size);
                have HNX := Lib.hid (pl_step HBL.out HF.out B3.out.below HROW.out HOWN.out (by decide) (by omega) BB.out.below.size);
                clear hb4)
            | (refine step_append_lies _ rfl (.tmp 67) (.tmp 69) 24 rfl y0.heap.size 65 i0 _ 3 40 Tryz.underlying24 hi hz0 hz1 hz2 rfl (by omega) (.slice a1 k ak) k _ rfl HOWN.out ⟨w4.heap.size, 0, none⟩ 1 1 [.bool z1, .string z2, .string z3] rfl rfl HNEW.out HONE.out (by omega) HMX.out HMY.out HBA.out _ rfl ?_; intro g9 cap9 w3 hown3 hgrow hor hlt3; have hr3 := HROW.out.grown hgrow (HROW.out.apart HOWN.out (by decide)); have qp : w3.cell? ⟨w.heap.size + 1 + 1, 3, none⟩ = some (.slice a1 k ak) := hr3.cell 3; have fp := hr3.free 3; have HN := Lib.hid (HNX.out g9 cap9 w3 (by rw [← HV.out.1, ← HV.out.2.1, ← HV.out.2.2]; exact hown3) hgrow); clear hown3 hgrow hor hlt3 hr3))
          all_goals
            go_wp2
            go_roundw
            case rel => exact ⟨k + 1, _, cap9, by omega, by go_num, HN.out⟩
            case measure => simp [intOf]; omega
        · clear hin
          have HONE := Lib.hid (show ∀ u ∈ ([.bool z1, .string z2, .string z3] : List Value), u.oneCell' = true by intro u hu; simp at hu; rcases hu with rfl | rfl | rfl <;> rfl)
          go_wp2_with fail
          go_region_law (first
            | (go_simp; go_at_call 89; (with_reducible refine (ZR.out _).mono ?_); rintro e w4 ⟨rfl, hb4⟩;
                have B4 := Lib.hid (B1.out.drew.go hb4);
                have q4 : w4.cell? ⟨w.heap.size + 1 + 1, 3, none⟩ = some (.slice a1 k ak) := B4.out.now.2.1.cell 3;
                have B3 := Lib.hid (B4.out.newRow #[.bool z1, .string z2, .string z3] 65);
                have qp3 : (w4.alloc (.cells #[.bool z1, .string z2, .string z3] 65)).cell? ⟨w.heap.size + 1 + 1, 3, none⟩ = some (.slice a1 k ak) := B3.out.now.2.2.1.cell 3;
                have HROW := Lib.hid B3.out.now.2.2.1;
                have HOWN := Lib.hid B3.out.now.2.2.2.1;
                have HNEW := Lib.hid (World.news_of_block B3.out.now.1);
                have HBA := Lib.hid (Nat.le_trans HF.out.size B3.out.below.size);
                have HNX := Lib.hid (pl_step HBL.out HF.out B3.out.below HROW.out HOWN.out (by decide) (by omega) BB.out.below.size);
                clear hb4)
            | (refine step_append_lies _ rfl (.tmp 67) (.tmp 69) 24 rfl y0.heap.size 65 i0 _ 3 40 Tryz.underlying24 hi hz0 hz1 hz2 rfl (by omega) (.slice a1 k ak) k _ rfl HOWN.out ⟨w4.heap.size, 0, none⟩ 1 1 [.bool z1, .string z2, .string z3] rfl rfl HNEW.out HONE.out (by omega) HMX.out HMY.out HBA.out _ rfl ?_; intro g9 cap9 w3 hown3 hgrow hor hlt3; have hr3 := HROW.out.grown hgrow (HROW.out.apart HOWN.out (by decide)); have qp : w3.cell? ⟨w.heap.size + 1 + 1, 3, none⟩ = some (.slice a1 k ak) := hr3.cell 3; have fp := hr3.free 3; have HN := Lib.hid (HNX.out g9 cap9 w3 (by rw [← HV.out.1, ← HV.out.2.1, ← HV.out.2.2]; exact hown3) hgrow); clear hown3 hgrow hor hlt3 hr3))
          all_goals
            go_wp2
            go_roundw
            case rel => exact ⟨k + 1, _, cap9, by omega, by go_num, HN.out⟩
            case measure => simp [intOf]; omega
    · obtain rfl : k = m := by omega
      obtain ⟨a9, c9, he, hq⟩ := QRow.of_own hown
      injection he with he1 _ he2
      subst he1 he2
      have HE : Hid (∀ g', PlnTold S' r' false g' 0 (fun j => elB nn fB (at' j)) (fun j => elS nn fS (rS 0) (at' j)) (fun j => elS nn fT (str (dec 1)) (at' j)) k w (wr.setRow (w.heap.size + 1) (plC s1 r' c1 false none 0 0 a1 k ak)) (.returned (.agg (plC s1 r' c1 false none 0 0 a1 k ak)))) :=
        Lib.hid fun g' => ans_pln ⟨_, _, _, _, _, _, rfl, k4, KRow.nought _ _ _ _ (Nat.zero_le _) _, hq⟩ hbl r1 (Nat.le_succ _)
      have HR0 := Lib.hid r1
      have HRP := Lib.hid hrp
      clear hbl hfar hrp hown k1 k2 k3 k4 k5 r0 r1 hq
      go_wp2_with (first
        | (refine ld_pln rfl (.tmp 7) rfl (w.heap.size + 1 + 1) rfl HRP.out ?_)
        | (refine st_pln rfl (.tmp 6) (.tmp 72) rfl (w.heap.size + 1) rfl _ _ _ _ _ _ _ _ _ _ rfl HR0.out rfl ?_))
      exact bodyPost_ret (res_pln Tryz.results51 rfl (HR0.out.put _) rfl) rfl HE.out
theorem el_same {fB : Nat → Bool} {fS fT : Nat → ByteArray} {fP : Nat → Int} {fQ : Nat → Nat} {n : Nat} (h : NumOk fB fS fT fP fQ n) (i : Int) : elB n fB i = rB (elP n fP i) ∧ elS n fS (rS 0) i = rS (elP n fP i) ∧ elS n fT (str (dec 1)) i = str (dec (elQ n fQ i)) := by
  unfold elB elS elP elQ
  by_cases hi : 0 ≤ i ∧ i < n
  · rw [if_pos hi, if_pos hi, if_pos hi, if_pos hi, if_pos hi]
    obtain ⟨e1, e2, e3, _⟩ := h i.toNat (by omega)
    exact ⟨e1, e2, e3⟩
  · rw [if_neg hi, if_neg hi, if_neg hi, if_neg hi, if_neg hi]
    exact ⟨rfl, rfl, rfl⟩
end Go.Proofs.YtkljpofljkgkdaaGreatDoor

namespace Go.Proofs.YtkljpofljkgkdaaGreatDoor
open Go.RowKit
theorem el_cmp {fP : Nat → Int} {fQ : Nat → Nat} {n : Nat} (h : CmpOk 7 fP fQ n) (at' : Nat → Int) (m : Nat) : CmpOk 7 (fun j => elP n fP (at' j)) (fun j => elQ n fQ (at' j)) m := by
  intro j _
  show 0 < elQ n fQ (at' j) ∧ (elP n fP (at' j)).natAbs < _ ∧ elQ n fQ (at' j) < _
  unfold elP elQ
  by_cases hi : 0 ≤ at' j ∧ at' j < n
  · rw [if_pos hi, if_pos hi]
    exact h (at' j).toNat (by omega)
  · rw [if_neg hi, if_neg hi]
    exact ⟨Nat.one_pos, by decide, by decide⟩
end Go.Proofs.YtkljpofljkgkdaaGreatDoor

namespace Go.Proofs.YtkljpofljkgkdaaGreatDoor
open Go.RowKit
theorem rpick8_any (cs : Array Value) (S : Nat → Int) (r : Nat) (ch : Bool) (L : Nat) (g : Nat → Int) (fB : Nat → Bool) (fS fT : Nat → ByteArray) (s1 : Option Addr) (r' c1 : Nat) (T : Nat → Int) (t1 : Option Addr) (m d1 : Nat) (G : Nat → Int) (w : World) (h : Pln w cs S r ch L g fB fS fT) (hs : KRow w .i64 s1 r' c1 T) (ht : KRow w .i64 t1 m d1 G) (hm : m ≤ 1000000) (hL : L ≤ 1000000) :
    Calls Tryz.prog 51 #[.agg cs, .slice s1 r' c1, .slice t1 m d1] w fun e w' => ∃ cs', e = .returned (.agg cs') ∧ Pln w' cs' T r' ch m (fun j => elC L g 32 (G j)) (fun j => elB L fB (G j)) (fun j => elS L fS (rS 0) (G j)) (fun j => elS L fT (str (dec 1)) (G j)) ∧ Below w.heap.size w w' := by
  cases ch with
  | true =>
    refine (r6PickC_any cs S r g L fB fS fT s1 r' c1 T t1 m d1 G w h hs ht hm hL).mono ?_
    intro e w' hq
    exact hq _ _ _
  | false =>
    refine (r6PickN_any cs S r g L fB fS fT s1 r' c1 T t1 m d1 G w h hs ht hm hL).mono ?_
    intro e w' hq
    exact hq _
end Go.Proofs.YtkljpofljkgkdaaGreatDoor

namespace Go.Proofs.YtkljpofljkgkdaaGreatDoor
open Go.RowKit
/-- A row of integers, nil or not, appended to a row that the call owns. -/
theorem run_append_krow {w : World} (ty : TypeId) (base : Nat) (v : Value) (n : Nat) (xs : List Value) (hown : w.ownsRow base 3 1 v n xs) (a : Option Addr) (m c : Nat) (f : Nat → Int) (h : KRow w .i64 a m c f) (hn : a = none → c = 0) (h1 : n + m ≤ 1000000) (hbase : base ≤ w.heap.size) :
    ∃ v' w', (Builtin.append_ #[22, 22] ty #[v, .slice a m c]).run Tryz.prog w = .ok v' w' ∧ w'.ownsRow base 3 1 v' (n + m) (xs ++ kcs .i64 f m) ∧ w.grownBy w' v.ownBlock := by
  obtain ⟨i0, hi, hz0, hz1, hz2⟩ := info_parts infoI
  cases a with
  | none =>
    have hc := hn rfl
    subst hc
    have hm : m = 0 := by have := h.1; omega
    subst hm
    refine ⟨v, w, run_append_owned_none w base _ ty _ i0 1 Tryz.underlying22 hi v n xs hown, ?_, ⟨rfl, rfl, rfl, Nat.le_refl _, fun _ _ _ => rfl⟩⟩
    rw [show kcs .i64 f 0 = [] from rfl, List.append_nil]
    exact hown
  | some ad =>
    obtain ⟨b9, off9, sp⟩ := ad
    have hnews : ∀ i u, (kcs .i64 f m)[i]? = some u → w.cell? ((⟨b9, off9, sp⟩ : Addr).add i) = some u := by
      rcases h.2.2 with h0 | ⟨_, _, e, _⟩
      · rw [h0]; intro i u hu; simp [kcs] at hu
      · cases e; exact krow_news h
    obtain ⟨v', w', e1, e2, e3, _⟩ := run_append_own (P := Tryz.prog) w base 22 ty 3 i0 _ 1 8 Tryz.underlying22 hi hz0 hz1 hz2 rfl (by omega) v n xs hown ⟨b9, off9, sp⟩ m c (kcs .i64 f m) (by rw [kcs_length, Nat.mul_one]) hnews (kcs_one .i64 f m) (by unfold maxLen; omega) (by omega) hbase
    exact ⟨v', w', e1, e2, e3⟩
end Go.Proofs.YtkljpofljkgkdaaGreatDoor

namespace Go.Proofs.YtkljpofljkgkdaaGreatDoor
open Go.RowKit
attribute [local go_sem ↓] Go.wp_at_zero Go.wp_at_succ
theorem lenZ_any (w : World) : Calls Tryz.prog 32 #[.agg zerC] w fun e w' => e = .returned (.int .i64 0) ∧ Below w.heap.size w w' :=
  len_any false 0 (fun _ => 0) none 0 0 none 0 0 w
set_option maxHeartbeats 800000 in
set_option maxRecDepth 100000 in
theorem showsNo_any (E : Int) (hE : E ≠ 0) (sa : Option Addr) (sn sc : Nat) (ch : Bool) (ta : Option Addr) (tn tc : Nat) (na : Option Addr) (nn nc : Nat) (w : World) :
    Calls Tryz.prog 19 #[.agg zerC, .int .i64 E, .agg (plC sa sn sc ch ta tn tc na nn nc), .int .i64 E] w fun e w' => e = .returned (.bool true) ∧ Below w.heap.size w w' := by
  have LZ := Lib.hid (fun wz => lenZ_any wz)
  have BB := Lib.hid (((Bag.start w).newRow zerC 34).newRow (plC sa sn sc ch ta tn tc na nn nc) 26)
  simp only [World.size_alloc] at BB
  have HR := Lib.hid BB.out.now.2.1
  have d1 : (E != E) = false := bne_self_eq_false _
  have d2 : (E != 0) = true := bne_iff_ne.2 hE
  clear hE
  unfold zerC arrC plC
  unfold zerC at LZ
  unfold zerC at HR
  go_enter Tryz.func19, Tryz.ntmps19
  go_wp2_with (refine ld_arr rfl (.tmp 4) rfl w.heap.size rfl HR.out ?_)
  go_at_call 32
  (with_reducible refine (LZ.out _).mono ?_)
  rintro e w2 ⟨rfl, hb2⟩
  have HE := Lib.hid (BB.out.go hb2).below
  clear hb2
  go_wp2
  go_ret
  exact ⟨rfl, HE.out⟩
end Go.Proofs.YtkljpofljkgkdaaGreatDoor

namespace Go.Proofs.YtkljpofljkgkdaaGreatDoor
open Go.RowKit
theorem Good.pos {S : Nat → Int} {r : Nat} {ch : Bool} {L : Nat} {fB : Nat → Bool} {fS fT : Nat → ByteArray} (h : Good S r ch L fB fS fT) : ch = false → ∀ j, j < L → 0 < gQ fB fS fT j := fun e j hj => (h.small e j hj).1
end Go.Proofs.YtkljpofljkgkdaaGreatDoor

namespace Go.Proofs.YtkljpofljkgkdaaGreatDoor
open Go.RowKit
/-- A row of integers that the call makes and that grows. -/
def OwnI (y0 w : World) (a : Option Addr) (k c : Nat) (f : Nat → Int) : Prop := Below y0.heap.size y0 w ∧ w.ownsRow y0.heap.size 3 1 (.slice a k c) k (kcs .i64 f k)
theorem OwnI.nil (y0 : World) (f : Nat → Int) : OwnI y0 y0 none 0 0 f := ⟨Below.refl _ _, World.ownsRow_nil _ _ _ _⟩
theorem OwnI.go {y0 w w' : World} {a : Option Addr} {k c : Nat} {f : Nat → Int} (h : OwnI y0 w a k c f) (hb : Below w.heap.size w w') : OwnI y0 w' a k c f := ⟨h.1.trans (hb.mono h.1.size), own_below h.2 hb⟩
theorem OwnI.krow {y0 w : World} {a : Option Addr} {k c : Nat} {f : Nat → Int} (h : OwnI y0 w a k c f) : KRow w .i64 a k c f := by
  obtain ⟨a', c', e, q⟩ := KRow.of_own h.2
  cases e
  exact q
/-- One number more. -/
theorem app1_step {y0 wr : World} {a : Option Addr} {k c : Nat} {f : Nat → Int} (h : OwnI y0 wr a k c f) {x : Int} (hx : x = f k) (hk : k + 1 ≤ 1000000) :
    ∃ a' c' y1, (Builtin.append_ #[22, 22] 22 #[.slice a k c, .slice (some ⟨wr.heap.size, 0, none⟩) 1 1]).run Tryz.prog (wr.alloc (.cells #[.int .i64 x] 3)) = .ok (.slice a' (k + 1) c') y1 ∧ OwnI y0 y1 a' (k + 1) c' f := by
  have hb : Below wr.heap.size wr (wr.alloc (.cells #[.int .i64 x] 3)) := (Below.refl _ _).alloc (Nat.le_refl _) _
  have h2 := own_below h.2 hb
  obtain ⟨v', w', e1, e2, e3⟩ := run_append_krow 22 y0.heap.size (.slice a k c) k _ h2 (some ⟨wr.heap.size, 0, none⟩) 1 1 (fun _ => x) (KRow.one' wr .i64 x 3) (fun e => by cases e) hk (by have := h.1.size; rw [World.size_alloc]; omega)
  have e4 : kcs .i64 f k ++ kcs .i64 (fun _ => x) 1 = kcs .i64 f (k + 1) := by rw [hx]; rfl
  rw [e4] at e2
  obtain ⟨a', c', rfl, _⟩ := KRow.of_own e2
  refine ⟨a', c', w', e1, ?_, e2⟩
  refine (h.1.trans (hb.mono h.1.size)).trans ⟨e3.os, e3.tape, e3.output, e3.size, fun j hj => e3.block j (Nat.lt_of_lt_of_le hj (by have := h.1.size; rw [World.size_alloc]; omega)) (fun e => ?_)⟩
  have := (h2.lt j e.symm).1
  omega
theorem wh_eq (ch : Bool) (L : Nat) (fP : Nat → Int) (fQ : Nat → Nat) : (decide (tnO ch L = 0) && whB fP fQ (nnO ch L)) = whC ch L fP fQ := by
  cases ch with
  | true => show (decide (L = 0) && true) = decide (L = 0); rw [Bool.and_true]
  | false => rfl
theorem wh_nn {ch : Bool} {L : Nat} {fP : Nat → Int} {fQ : Nat → Nat} (h : whC ch L fP fQ = true) : nnO ch L = L := by
  cases ch with
  | true => have : L = 0 := of_decide_eq_true h; subst this; rfl
  | false => rfl
theorem nnO_le (ch : Bool) (L : Nat) : nnO ch L ≤ L ∧ tnO ch L ≤ L := by unfold nnO tnO; cases ch <;> simp
theorem Pln.put {w : World} {cs : Array Value} {S : Nat → Int} {r : Nat} {ch : Bool} {L : Nat} {g : Nat → Int} {fB : Nat → Bool} {fS fT : Nat → ByteArray} (h : Pln w cs S r ch L g fB fS fT) {k : Nat} {t : TypeId} (hr : Row w k t plZer) (cs' : Array Value) : Pln (w.setRow k cs') cs S r ch L g fB fS fT := PlnAt.away h hr (noInt_pl _ _ _ _ _ _ _ _ _ _) (noStr_pl _ _ _ _ _ _ _ _ _ _) (Far.setRow _ _ _)
/-- What the document's functions answer: a plain array and an error. -/
def PoTold (E : Int) (S : Nat → Int) (r : Nat) (ch : Bool) (L : Nat) (g : Nat → Int) (fB : Nat → Bool) (fS fT : Nat → ByteArray) (w w' : World) (e : Ending) : Prop :=
  ∃ cs, e = .returned (.tuple #[.agg cs, .int .i64 E]) ∧ (E = 0 → Pln w' cs S r ch L g fB fS fT) ∧ (E ≠ 0 → cs = plZer) ∧ Below w.heap.size w w'
theorem PoTold.no {E : Int} (hE : E ≠ 0) {S : Nat → Int} {r : Nat} {ch : Bool} {L : Nat} {g : Nat → Int} {fB : Nat → Bool} {fS fT : Nat → ByteArray} {w w' : World} (hb : Below w.heap.size w w') : PoTold E S r ch L g fB fS fT w w' (.returned (.tuple #[.agg plZer, .int .i64 E])) :=
  ⟨plZer, rfl, fun e => absurd e hE, fun _ => rfl, hb⟩
theorem PoTold.yes {S : Nat → Int} {r : Nat} {ch : Bool} {L : Nat} {g : Nat → Int} {fB : Nat → Bool} {fS fT : Nat → ByteArray} {w w' : World} {cs : Array Value} (h : Pln w' cs S r ch L g fB fS fT) (hb : Below w.heap.size w w') : PoTold 0 S r ch L g fB fS fT w w' (.returned (.tuple #[.agg cs, .int .i64 0])) :=
  ⟨cs, rfl, fun _ => h, fun e => absurd rfl e, hb⟩
theorem Pln.form {w : World} {cs : Array Value} {S : Nat → Int} {r : Nat} {ch : Bool} {L : Nat} {g : Nat → Int} {fB : Nat → Bool} {fS fT : Nat → ByteArray} (h : Pln w cs S r ch L g fB fS fT) : ∃ sa sc ta tc na nc, cs = plC sa r sc ch ta (tnO ch L) tc na (nnO ch L) nc ∧ KRow w .i64 sa r sc S := by
  obtain ⟨sa, sc, ta, tc, na, nc, e, h1, _⟩ := h
  exact ⟨sa, sc, ta, tc, na, nc, e, h1⟩
theorem res_pln2 {fn : Func} {p q : Tmp} {tmps : Array Value} {w : World} {g : Nat} {cs : Array Value} {v : Value} (h : fn.results = #[.cell p 26, .tmp q]) (hp : tmps.getD p undef = .pointer (some ⟨g, 0, none⟩)) (hq : tmps.getD q undef = v) (hg : Row w g 26 cs) (hs : cs.size = 4) :
    (results fn tmps).run Tryz.prog w = .ok (.tuple #[.agg cs, v]) w := by
  have hp' : tmps[p]?.getD undef = .pointer (some ⟨g, 0, none⟩) := by simpa using hp
  have hq' : tmps[q]?.getD undef = v := by simpa using hq
  simp [results, h, hp', hq', asAddr, run_loadVar_row w g 26 26 cs (0, 0) _ hg Tryz.underlying26 rfl (by rw [pln4, hs])]
set_option maxHeartbeats 1600000 in
set_option maxRecDepth 100000 in
theorem rlist_any (cs : Array Value) (S : Nat → Int) (r : Nat) (ch : Bool) (L : Nat) (g : Nat → Int) (fB : Nat → Bool) (fS fT : Nat → ByteArray) (fP : Nat → Int) (fQ : Nat → Nat) (w : World) (h : Pln w cs S r ch L g fB fS fT) (hN : NumOk fB fS fT fP fQ (nnO ch L)) (hL : L ≤ 1000000) :
    Calls Tryz.prog 48 #[.agg cs] w fun e w' => LiTold (liE r (whC ch L fP fQ)) L fP w w' e := by
  have HP := Lib.hid h
  obtain ⟨sa, sc, ta, tc, na, nc, rfl, hk⟩ := h.form
  have hl := hk.len
  have WH : ∀ wz, Pln wz (plC sa r sc ch ta (tnO ch L) tc na (nnO ch L) nc) S r ch L g fB fS fT → Calls Tryz.prog 65 #[.agg (plC sa r sc ch ta (tnO ch L) tc na (nnO ch L) nc)] wz fun e w' => WhTold (whC ch L fP fQ) (nnO ch L) fP wz w' e := fun wz h => by
    have := r6Whole_any (plC sa r sc ch ta (tnO ch L) tc na (nnO ch L) nc) S r ch g (tnO ch L) fB fS fT (nnO ch L) fP fQ wz h hN (by have := nnO_le ch L; omega)
    rw [wh_eq] at this
    exact this
  have hnn : whC ch L fP fQ = true → nnO ch L = L := wh_nn
  have BB := Lib.hid ((Bag.start w).newRow (plC sa r sc ch ta (tnO ch L) tc na (nnO ch L) nc) 26)
  generalize whC ch L fP fQ = b at *
  clear h hN hk
  by_cases h1 : 1 < r
  · have d1 : (1 : Int) < (r : Int) := by omega
    have hE : liE r b = 23 := by unfold liE; rw [if_pos h1]
    rw [hE]
    have HE := Lib.hid BB.out.below
    clear h1 hE WH hnn
    unfold plC at HE
    unfold plC
    go_enter Tryz.func48, Tryz.ntmps48
    go_wp2
    exact bodyPost_ret (v := .tuple #[.slice none 0 0, .int .i64 23]) (by simp [results, Tryz.results48, go_sem]) rfl ⟨none, 0, 0, rfl, fun e => (by cases e), HE.out⟩
  · have d1 : ¬ ((1 : Int) < (r : Int)) := by omega
    have hE : liE r b = if b then 0 else 22 := by unfold liE; rw [if_neg h1]
    rw [hE]
    have HR := Lib.hid BB.out.now.1
    cases b with
    | false =>
      have WH := Lib.hid (fun wz h => (WH wz h).mono (fun _ _ hw => (show _ from by
        obtain ⟨a, m, c, he, h2, hb⟩ := hw
        rw [if_neg (by decide)] at h2
        exact (⟨a, m, c, he, hb⟩ : ∃ a m c, _ = Ending.returned (.tuple #[.slice a m c, .bool false]) ∧ _))))
      clear h1 hE hnn
      unfold plC
      go_enter Tryz.func48, Tryz.ntmps48
      go_wp2_with (refine ld_pln rfl (.tmp 1) rfl w.heap.size rfl HR.out ?_)
      go_at_call 65
      (with_reducible refine (WH.out _ ?_).mono ?_)
      · exact HP.out.below BB.out.below
      rintro e w3 ⟨a, m, c, rfl, hb3⟩
      have HE := Lib.hid (BB.out.go hb3).below
      clear hb3
      go_wp2
      exact bodyPost_ret (v := .tuple #[.slice none 0 0, .int .i64 22]) (by simp [results, Tryz.results48, go_sem]) rfl ⟨none, 0, 0, rfl, fun e => (by cases e), HE.out⟩
    | true =>
      have WH : Hid (∀ wz, Pln wz (plC sa r sc ch ta (tnO ch L) tc na (nnO ch L) nc) S r ch L g fB fS fT → Calls Tryz.prog 65 #[.agg (plC sa r sc ch ta (tnO ch L) tc na (nnO ch L) nc)] wz fun e w' => ∃ a c, e = .returned (.tuple #[.slice a L c, .bool true]) ∧ KRow w' .i64 a L c fP ∧ Below wz.heap.size wz w') := Lib.hid (fun wz h => (WH wz h).mono (by
        rintro e w' ⟨a, m, c, he, h2, hb⟩
        rw [if_pos rfl, hnn rfl] at h2
        obtain ⟨rfl, hk⟩ := h2
        exact ⟨a, c, he, hk, hb⟩))
      clear h1 hE hnn
      unfold plC
      go_enter Tryz.func48, Tryz.ntmps48
      go_wp2_with (refine ld_pln rfl (.tmp 1) rfl w.heap.size rfl HR.out ?_)
      go_at_call 65
      (with_reducible refine (WH.out _ ?_).mono ?_)
      · exact HP.out.below BB.out.below
      rintro e w3 ⟨a, c, rfl, hk, hb3⟩
      have HE := Lib.hid (BB.out.go hb3).below
      have HK := Lib.hid hk
      clear hb3 hk
      go_wp2
      exact bodyPost_ret (v := .tuple #[.slice a L c, .int .i64 0]) (by simp [results, Tryz.results48, go_sem]) rfl ⟨a, L, c, rfl, fun _ => ⟨rfl, HK.out⟩, HE.out⟩
end Go.Proofs.YtkljpofljkgkdaaGreatDoor

namespace Go.Proofs.YtkljpofljkgkdaaGreatDoor
open Go.RowKit
set_option maxHeartbeats 1600000 in
set_option maxRecDepth 100000 in
theorem rAxis_any (cs : Array Value) (S : Nat → Int) (r : Nat) (ch : Bool) (L : Nat) (g : Nat → Int) (fB : Nat → Bool) (fS fT : Nat → ByteArray) (i : Int) (w : World) (h : Pln w cs S r ch L g fB fS fT) (hr : r ≤ 1000000) :
    Calls Tryz.prog 12 #[.agg cs, .int .i64 i] w fun e w' => e = .returned (.tuple #[.int .i64 (axI r i), .bool (axQ r i)]) ∧ Below w.heap.size w w' := by
  obtain ⟨sa, sc, ta, tc, na, nc, rfl, hk⟩ := h.form
  have BB := Lib.hid ((Bag.start w).newRow (plC sa r sc ch ta (tnO ch L) tc na (nnO ch L) nc) 26)
  have HE := Lib.hid BB.out.below
  have w1 := IntWalk.i64_in ((r : Int) - 1) (by omega)
  unfold plC at BB HE
  unfold plC
  obtain ⟨x0, x1, x2, x3⟩ := pl_cells BB.out.now.1
  clear h hk
  by_cases hn : i < 0
  · have hx : axI r i = (r : Int) - 1 := by unfold axI; rw [if_pos hn]
    by_cases d1 : 0 ≤ (r : Int) - 1
    · have hq : axQ r i = true := by unfold axQ; rw [hx, decide_eq_true d1, decide_eq_true (show (r : Int) - 1 < r by omega)]; rfl
      rw [hq, hx]
      have d2 : (r : Int) - 1 < r := by omega
      have dz : decide ((1 : Int) ≤ (r : Int)) = true := decide_eq_true (by omega)
      clear hx hq
      go_enter Tryz.func12, Tryz.ntmps12
      go_wp2_with fail
      go_quiet (fail)
      have HE := Lib.hid (below_drewN HE.out nq)
      go_wp2
      exact bodyPost_ret (v := .tuple #[.int .i64 ((r : Int) - 1), .bool true]) (by simp [results, Tryz.results12, go_sem]) rfl ⟨rfl, HE.out⟩
    · have hq : axQ r i = false := by unfold axQ; rw [hx, decide_eq_false d1]; rfl
      rw [hq, hx]
      have dz : decide ((1 : Int) ≤ (r : Int)) = false := decide_eq_false (by omega)
      clear hx hq
      go_enter Tryz.func12, Tryz.ntmps12
      go_wp2_with fail
      go_quiet (fail)
      have HE := Lib.hid (below_drewN HE.out nq)
      go_wp2
      exact bodyPost_ret (v := .tuple #[.int .i64 ((r : Int) - 1), .bool false]) (by simp [results, Tryz.results12, go_sem]) rfl ⟨rfl, HE.out⟩
  · have hx : axI r i = i := by unfold axI; rw [if_neg hn]
    have d1 : 0 ≤ i := by omega
    have hq : axQ r i = decide (i < (r : Int)) := by unfold axQ; rw [hx, decide_eq_true d1]; rfl
    rw [hq, hx]
    clear hx hq w1
    obtain ⟨b, hb⟩ : ∃ b, decide (i < (r : Int)) = b := ⟨_, rfl⟩
    rw [hb]
    go_enter Tryz.func12, Tryz.ntmps12
    go_wp2_with fail
    go_quiet (fail)
    have HE := Lib.hid (below_drewN HE.out nq)
    go_wp2
    exact bodyPost_ret (v := .tuple #[.int .i64 i, .bool b]) (by simp [results, Tryz.results12, go_sem]) rfl ⟨rfl, HE.out⟩
end Go.Proofs.YtkljpofljkgkdaaGreatDoor

namespace Go.Proofs.YtkljpofljkgkdaaGreatDoor
open Go.RowKit
theorem tn_nn (ch : Bool) (L : Nat) : tnO ch L + nnO ch L = L := by unfold tnO nnO; cases ch <;> simp
theorem Pln.len {cs : Array Value} {S : Nat → Int} {r : Nat} {ch : Bool} {L : Nat} {g : Nat → Int} {fB : Nat → Bool} {fS fT : Nat → ByteArray} (wz : World) (h : Pln wz cs S r ch L g fB fS fT) (hL : L ≤ 1000000) :
    Calls Tryz.prog 50 #[.agg cs] wz fun e w' => e = .returned (.int .i64 (L : Nat)) ∧ Below wz.heap.size wz w' := by
  have := r6Len_any cs S r ch g (tnO ch L) fB fS fT (nnO ch L) wz h (by have := nnO_le ch L; omega) (by have := nnO_le ch L; omega)
  rw [tn_nn] at this
  exact this
/-- Where the document takes the elements that go again and again. -/
def arH (L : Nat) : Nat → Int := fun j => if L = 0 then -1 else ((j % L : Nat) : Int)
theorem arH_pos {L : Nat} (h : 0 < L) : arH L = arG L := funext fun j => by unfold arH arG; rw [if_neg (by omega), if_neg (by omega)]
theorem elC_ar (L : Nat) (g : Nat → Int) (z : Int) : (fun j => elC L g z (arH L j)) = fun j => elC L g z (arG L j) := by
  rcases Nat.eq_zero_or_pos L with h | h
  · subst h; funext j; unfold elC; rw [if_neg (by omega), if_neg (by omega)]
  · rw [arH_pos h]
theorem elB_ar (L : Nat) (f : Nat → Bool) : (fun j => elB L f (arH L j)) = fun j => elB L f (arG L j) := by
  rcases Nat.eq_zero_or_pos L with h | h
  · subst h; funext j; unfold elB; rw [if_neg (by omega), if_neg (by omega)]
  · rw [arH_pos h]
theorem elS_ar (L : Nat) (f : Nat → ByteArray) (z : ByteArray) : (fun j => elS L f z (arH L j)) = fun j => elS L f z (arG L j) := by
  rcases Nat.eq_zero_or_pos L with h | h
  · subst h; funext j; unfold elS; rw [if_neg (by omega), if_neg (by omega)]
  · rw [arH_pos h]
set_option maxHeartbeats 6400000 in
set_option maxRecDepth 100000 in
theorem rReshape_any (cs0 : Array Value) (S0 : Nat → Int) (r0 : Nat) (ch0 : Bool) (L0 : Nat) (g0 : Nat → Int) (fB0 : Nat → Bool) (fS0 fT0 : Nat → ByteArray) (P0 : Nat → Int) (Q0 : Nat → Nat) (cs : Array Value) (S : Nat → Int) (r : Nat) (ch : Bool) (L : Nat) (g : Nat → Int) (fB : Nat → Bool) (fS fT : Nat → ByteArray) (w : World)
    (h0 : Pln w cs0 S0 r0 ch0 L0 g0 fB0 fS0 fT0) (h : Pln w cs S r ch L g fB fS fT) (hN0 : NumOk fB0 fS0 fT0 P0 Q0 (nnO ch0 L0)) (hL0 : L0 ≤ 1000000) (hL : L ≤ 1000000) :
    Calls Tryz.prog 18 #[.agg cs0, .agg cs] w fun e w' => PoTold (rsE r0 ch0 L0 P0 Q0) P0 L0 ch (itm P0 L0).toNat (fun j => elC L g 32 (arG L j)) (fun j => elB L fB (arG L j)) (fun j => elS L fS (rS 0) (arG L j)) (fun j => elS L fT (str (dec 1)) (arG L j)) w w' e := by
  rw [← elC_ar, ← elB_ar, ← elS_ar, ← elS_ar]
  obtain ⟨sb, scb, tb, tcb, nb, ncb, hcs0, _⟩ := h0.form
  subst hcs0
  obtain ⟨sa, sc, ta, tc, na, nc, hcs, _⟩ := h.form
  subst hcs
  have H0 := Lib.hid h0
  have H := Lib.hid h
  have LI := Lib.hid (fun wz h => rlist_any (plC sb r0 scb ch0 tb (tnO ch0 L0) tcb nb (nnO ch0 L0) ncb) S0 r0 ch0 L0 g0 fB0 fS0 fT0 P0 Q0 wz h hN0 hL0)
  have LN := Lib.hid (fun wz (q : Pln wz (plC sa r sc ch ta (tnO ch L) tc na (nnO ch L) nc) S r ch L g fB fS fT) => q.len wz hL)
  have BB := Lib.hid ((((Bag.start w).newRow (plC sb r0 scb ch0 tb (tnO ch0 L0) tcb nb (nnO ch0 L0) ncb) 26).newRow (plC sa r sc ch ta (tnO ch L) tc na (nnO ch L) nc) 26).newRow plZer 26)
  simp only [World.size_alloc] at BB
  have HR1 := Lib.hid BB.out.now.2.2.1
  unfold LiTold at LI
  unfold rsE
  have HI : Hid (liE r0 (whC ch0 L0 P0 Q0) = 0 → In64 P0 L0) := Lib.hid (fun e => whC_in (liE_wh e))
  generalize liE r0 (whC ch0 L0 P0 Q0) = E0 at *
  clear h0 h hN0
  by_cases hE : E0 = 0
  · rw [if_pos hE]
    have hin := HI.out hE
    subst hE
    clear HI
    cases hng : negB P0 L0 with
    | true =>
      rw [if_pos rfl]
      have HNG : Hid (¬ ∀ j, j < L0 → 0 ≤ P0 j) := fun e => by rw [negB_iff.2 e] at hng; cases hng
      have HE : Hid (∀ y, Below w.heap.size w y → PoTold 22 P0 L0 ch (itm P0 L0).toNat (fun j => elC L g 32 (arH L j)) (fun j => elB L fB (arH L j)) (fun j => elS L fS (rS 0) (arH L j)) (fun j => elS L fT (str (dec 1)) (arH L j)) w y (.returned (.tuple #[.agg plZer, .int .i64 22]))) := Lib.hid (fun y hb => PoTold.no (by decide) hb)
      clear hin hng H LN
      unfold plC
      go_enter Tryz.func18, Tryz.ntmps18
      go_wp2_with (refine ld_pln rfl (.tmp 2) rfl w.heap.size rfl HR1.out ?_)
      go_at_call 48
      (with_reducible refine (LI.out _ ?_).mono ?_)
      · exact H0.out.below BB.out.below
      rintro e w2 ⟨a6, m6, c6, rfl, hk6, hb2⟩
      obtain ⟨hm6, hk7⟩ := hk6 trivial
      clear hk6
      subst m6
      have BB := Lib.hid ((BB.out.go hb2).krow hk7)
      have HZ := Lib.hid BB.out.now.2.1
      have hl := hk7.len
      clear hk7 hb2
      go_wp2_with fail
      go_loopw [8] (fun i wr => ∃ k : Nat, k ≤ L0 ∧ i = .int .i64 k ∧ Hid (∀ j, j < k → 0 ≤ P0 j) ∧ wr = w2) (fun i _ => L0 - (intOf i).toNat)
      case atStart => exact ⟨0, by omega, rfl, Lib.hid (fun j hj => absurd hj (Nat.not_lt_zero _)), rfl⟩
      case round =>
        obtain ⟨k, hk, rfl, HK, rfl⟩ := hrel
        by_cases hlt : k < L0
        · obtain ⟨b, off, rfl, hb, hc⟩ := BB.out.now.1.get hlt
          have hk0 : (0 : Int) ≤ k := by omega
          have hk1 : (k : Int) < L0 := by omega
          by_cases hx : P0 k < 0
          · have HE := Lib.hid (HE.out _ (below_put BB.out.below (show w.heap.size ≤ w.heap.size + 1 + 1 by omega) plZer))
            go_wp2_with (refine st_pln rfl (.tmp 4) (.tmp 34) rfl (w.heap.size + 1 + 1) rfl none 0 0 false none 0 0 none 0 0 rfl HZ.out rfl ?_)
            exact bodyPost_ret (res_pln2 Tryz.results18 rfl rfl (HZ.out.put _) rfl) rfl HE.out
          · have HK2 : Hid (∀ j, j < k + 1 → 0 ≤ P0 j) := Lib.hid (fun j hj => by
              rcases Nat.lt_or_ge j k with h | h
              · exact HK.out j h
              · obtain rfl : j = k := by omega
                omega)
            go_wp2
            go_roundw
            case rel => exact ⟨k + 1, by omega, by go_num, HK2, trivial⟩
            case measure => simp [intOf]; omega
        · have hkL : k = L0 := by omega
          subst k
          exact absurd HK.out HNG.out
    | false =>
      rw [if_neg (by decide)]
      have HNG := Lib.hid (negB_iff.1 hng)
      have CN := Lib.hid (fun a c wz (h : KRow wz .i64 a L0 c P0) => r6Count_any a L0 c P0 wz h hin)
      unfold CntTold at CN
      obtain ⟨EE, hEE⟩ : ∃ EE : Int, (if 8 < L0 then 23 else if shB P0 L0 then 0 else 26) = EE := ⟨_, rfl⟩
      rw [hEE]
      have HEE := Lib.hid hEE
      have HNO : Hid (∀ E : Int, EE = E → E ≠ 0 → ∀ y, Below w.heap.size w y → PoTold EE P0 L0 ch (itm P0 L0).toNat (fun j => elC L g 32 (arH L j)) (fun j => elB L fB (arH L j)) (fun j => elS L fS (rS 0) (arH L j)) (fun j => elS L fT (str (dec 1)) (arH L j)) w y (.returned (.tuple #[.agg plZer, .int .i64 E]))) := Lib.hid (fun E e hE y hb => e ▸ PoTold.no (e ▸ hE) hb)
      have FIN : Hid (EE = 0 → ∀ (M : Nat) eC eB eS eT, (itm P0 L0).toNat = M → (fun j => elC L g 32 (arH L j)) = eC → (fun j => elB L fB (arH L j)) = eB → (fun j => elS L fS (rS 0) (arH L j)) = eS → (fun j => elS L fT (str (dec 1)) (arH L j)) = eT → ∀ y v, PoTold 0 P0 L0 ch M eC eB eS eT w y v → PoTold EE P0 L0 ch (itm P0 L0).toNat (fun j => elC L g 32 (arH L j)) (fun j => elB L fB (arH L j)) (fun j => elS L fS (rS 0) (arH L j)) (fun j => elS L fT (str (dec 1)) (arH L j)) w y v) := by
        rintro e _ _ _ _ _ rfl rfl rfl rfl rfl y v q
        rw [e]
        exact q
      clear hng hin hEE
      unfold plC
      go_enter Tryz.func18, Tryz.ntmps18
      go_wp2_with (refine ld_pln rfl (.tmp 2) rfl w.heap.size rfl HR1.out ?_)
      go_at_call 48
      (with_reducible refine (LI.out _ ?_).mono ?_)
      · exact H0.out.below BB.out.below
      rintro e w2 ⟨a6, m6, c6, rfl, hk6, hb2⟩
      obtain ⟨hm6, hk7⟩ := hk6 trivial
      clear hk6
      subst m6
      have BB := Lib.hid ((BB.out.go hb2).krow hk7)
      have HZ := Lib.hid BB.out.now.2.1
      have hl := hk7.len
      clear hk7 hb2
      go_wp2_with fail
      go_loopw [8] (fun i wr => ∃ k : Nat, k ≤ L0 ∧ i = .int .i64 k ∧ wr = w2) (fun i _ => L0 - (intOf i).toNat)
      case atStart => exact ⟨0, by omega, rfl, rfl⟩
      case round =>
        obtain ⟨k, hk, rfl, rfl⟩ := hrel
        by_cases hlt : k < L0
        · obtain ⟨b, off, rfl, hb, hc⟩ := BB.out.now.1.get hlt
          have hx := HNG.out k hlt
          have hk0 : (0 : Int) ≤ k := by omega
          have hk1 : (k : Int) < L0 := by omega
          go_wp2
          go_roundw
          case rel => exact ⟨k + 1, by omega, by go_num, trivial⟩
          case measure => simp [intOf]; omega
        · have hkL : k = L0 := by omega
          subst k
          clear hlt hk
          obtain ⟨y2, hy2⟩ : ∃ y2, y2 = wr := ⟨_, rfl⟩
          subst hy2
          by_cases h8 : 8 < L0
          · have d8 : (8 : Int) < (L0 : Int) := by omega
            have HE := Lib.hid (HNO.out 23 (by rw [← HEE.out, if_pos h8]) (by decide) _ (below_put BB.out.below (show w.heap.size ≤ w.heap.size + 1 + 1 by omega) plZer))
            clear h8 HEE HNO FIN
            go_wp2_with (refine st_pln rfl (.tmp 4) (.tmp 38) rfl (w.heap.size + 1 + 1) rfl none 0 0 false none 0 0 none 0 0 rfl HZ.out rfl ?_)
            exact bodyPost_ret (res_pln2 Tryz.results18 rfl rfl (HZ.out.put _) rfl) rfl HE.out
          · have d8 : ¬ ((8 : Int) < (L0 : Int)) := by omega
            cases hsh : shB P0 L0 with
            | false =>
              have HE := Lib.hid (HNO.out 26 (by rw [← HEE.out, if_neg h8, hsh, if_neg (by decide)]) (by decide) _ (below_put BB.out.below (show w.heap.size ≤ w.heap.size + 1 + 1 by omega) plZer))
              rw [hsh] at CN
              generalize cntI P0 L0 = x at CN
              clear h8 hsh HEE HNO FIN
              go_wp2_with fail
              go_at_call 49
              (with_reducible refine (CN.out _ _ _ BB.out.now.1).mono ?_)
              rintro e w4 ⟨rfl, rfl⟩
              go_wp2_with (refine st_pln rfl (.tmp 4) (.tmp 46) rfl (w.heap.size + 1 + 1) rfl none 0 0 false none 0 0 none 0 0 rfl HZ.out rfl ?_)
              exact bodyPost_ret (res_pln2 Tryz.results18 rfl rfl (HZ.out.put _) rfl) rfl HE.out
            | true =>
              have hbd := ax_bd (sh_ax hsh).2
              obtain ⟨M, hM⟩ : ∃ M : Nat, itm P0 L0 = M := ⟨(itm P0 L0).toNat, by omega⟩
              have hM4 : M ≤ 4096 := by omega
              have hx : cntI P0 L0 = (M : Nat) := by unfold cntI; rw [hsh, if_pos rfl, hM]
              have RP := Lib.hid (fun a1 c1 a2 c2 wz (q : Pln wz (plC sa r sc ch ta (tnO ch L) tc na (nnO ch L) nc) S r ch L g fB fS fT) (k1 : KRow wz .i64 a1 L0 c1 P0) (k2 : KRow wz .i64 a2 M c2 (arH L)) => rpick8_any (plC sa r sc ch ta (tnO ch L) tc na (nnO ch L) nc) S r ch L g fB fS fT a1 L0 c1 P0 a2 M c2 (arH L) wz q k1 k2 (by omega) hL)
              have FIN := Lib.hid (FIN.out (by rw [← HEE.out, if_neg h8, hsh, if_pos rfl]) M)
              have hMM : (itm P0 L0).toNat = M := by omega
              rw [hsh, hx] at CN
              obtain ⟨eC, heC⟩ : ∃ eC, (fun j => elC L g 32 (arH L j)) = eC := ⟨_, rfl⟩
              obtain ⟨eB, heB⟩ : ∃ eB, (fun j => elB L fB (arH L j)) = eB := ⟨_, rfl⟩
              obtain ⟨eS, heS⟩ : ∃ eS, (fun j => elS L fS (rS 0) (arH L j)) = eS := ⟨_, rfl⟩
              obtain ⟨eT, heT⟩ : ∃ eT, (fun j => elS L fT (str (dec 1)) (arH L j)) = eT := ⟨_, rfl⟩
              rw [heC, heB, heS, heT] at RP
              have FIN := Lib.hid (FIN.out eC eB eS eT hMM heC heB heS heT)
              clear heC heB heS heT HEE HNO hMM
              obtain ⟨G, hGG⟩ : ∃ G, arH L = G := ⟨_, rfl⟩
              rw [hGG] at RP
              have HG : Hid (∀ k, L = 0 → (-1 : Int) = G k) := Lib.hid (fun k e => by rw [← hGG]; unfold arH; rw [if_pos e])
              have HG2 : Hid (∀ k : Nat, L ≠ 0 → (k : Int) % (L : Int) = G k) := Lib.hid (fun k e => by rw [← hGG]; unfold arH; rw [if_neg e]; rfl)
              clear hGG h8 hsh hbd hM hx HNG
              go_wp2_with fail
              go_at_call 49
              (with_reducible refine (CN.out _ _ _ BB.out.now.1).mono ?_)
              rintro e w4 ⟨rfl, hw4⟩
              have BB := Lib.hid (hw4 ▸ BB.out)
              clear hw4 HZ
              go_wp2_with fail
              go_loopw [11, 12, 13] (fun s i v wr => ∃ (k : Nat) (a : Option Addr) (c : Nat), k ≤ M ∧ s = .slice a k c ∧ i = .int .i64 k ∧ (∃ v6, v6 = v) ∧ Hid (OwnI w4 wr a k c G)) (fun _ i _ _ => M - (intOf i).toNat)
              case atStart => exact ⟨0, none, 0, by omega, rfl, rfl, ⟨_, rfl⟩, OwnI.nil _ _⟩
              case round =>
                obtain ⟨k, a, c, hk, rfl, rfl, ⟨v6, rfl⟩, ho⟩ := hrel
                have BW := Lib.hid (BB.out.go ho.out.1)
                have HR3 := Lib.hid BW.out.now.2.2.1
                by_cases hlt : k < M
                · have LC := Lib.hid (LN.out _ (H.out.below BW.out.below))
                  have hk0 : (0 : Int) ≤ k := by omega
                  have hk1 : (k : Int) < M := by omega
                  by_cases hz : L = 0
                  · have d0 : ¬ ((0 : Int) < (L : Nat)) := by omega
                    have HX := Lib.hid (HG.out k hz)
                    clear hz
                    go_wp2_with (refine ld_pln rfl (.tmp 3) rfl (w.heap.size + 1) rfl HR3.out ?_)
                    go_at_call 50
                    (with_reducible refine (LC.out).mono ?_)
                    rintro e w5 ⟨rfl, hb5⟩
                    obtain ⟨a', c', y1, hr, ho'⟩ := app1_step (ho.out.go hb5) HX.out (by omega)
                    have HO' := Lib.hid ho'
                    clear ho' hb5
                    go_wp2_with (at_builtin; refine Lib.wpList_append_run _ rfl _ _ _ _ rfl _ _ rfl rfl _ _ hr ?_)
                    go_roundw
                    case rel => exact ⟨k + 1, a', c', by omega, rfl, by go_num, ⟨_, rfl⟩, HO'⟩
                    case measure => simp [intOf]; omega
                  · have d0 : (0 : Int) < (L : Nat) := by omega
                    have HX := Lib.hid (HG2.out k hz)
                    have e0 : ((L : Nat) : Int) ≠ 0 := by omega
                    have e1 : Int.tmod (k : Nat) (L : Nat) = (k : Int) % (L : Int) := rfl
                    go_wp2_with (refine ld_pln rfl (.tmp 3) rfl (w.heap.size + 1) rfl HR3.out ?_)
                    go_at_call 50
                    (with_reducible refine (LC.out).mono ?_)
                    rintro e w5 ⟨rfl, hb5⟩
                    have BW := Lib.hid (BW.out.go hb5)
                    have HO := Lib.hid (ho.out.go hb5)
                    have HR4 := Lib.hid BW.out.now.2.2.1
                    have LC := Lib.hid (LN.out _ (H.out.below BW.out.below))
                    clear hb5
                    go_wp2_with (refine ld_pln rfl (.tmp 3) rfl (w.heap.size + 1) rfl HR4.out ?_)
                    go_at_call 50
                    (with_reducible refine (LC.out).mono ?_)
                    rintro e w6 ⟨rfl, hb6⟩
                    obtain ⟨a', c', y1, hr, ho'⟩ := app1_step (HO.out.go hb6) HX.out (by omega)
                    have HO' := Lib.hid ho'
                    clear ho' hb6
                    go_wp2_with (at_builtin; refine Lib.wpList_append_run _ rfl _ _ _ _ rfl _ _ rfl rfl _ _ hr ?_)
                    go_roundw
                    case rel => exact ⟨k + 1, a', c', by omega, rfl, by go_num, ⟨_, rfl⟩, HO'⟩
                    case measure => simp [intOf]; omega
                · have hkM : k = M := by omega
                  subst k
                  have HK := Lib.hid ho.out.krow
                  clear hk hlt ho
                  go_wp2_with (refine ld_pln rfl (.tmp 3) rfl (w.heap.size + 1) rfl HR3.out ?_)
                  go_at_call 51
                  (with_reducible refine (RP.out _ _ _ _ _ ?_ ?_ ?_).mono ?_)
                  · exact H.out.below BW.out.below
                  · exact BW.out.now.1
                  · exact HK.out
                  rintro e w5 ⟨cs', rfl, hq, hb5⟩
                  have BW := Lib.hid (BW.out.go hb5)
                  obtain ⟨sq, scq, tq, tcq, nq, ncq, rfl, _⟩ := hq.form
                  have HZ := Lib.hid BW.out.now.2.1
                  have HE := Lib.hid (FIN.out _ _ (PoTold.yes (hq.put HZ.out _) (below_put BW.out.below (show w.heap.size ≤ w.heap.size + 1 + 1 by omega) (plC sq L0 scq ch tq (tnO ch M) tcq nq (nnO ch M) ncq))))
                  clear hq hb5
                  go_wp2_with (refine st_pln rfl (.tmp 4) (.tmp 66) rfl (w.heap.size + 1 + 1) rfl _ _ _ _ _ _ _ _ _ _ rfl HZ.out rfl ?_)
                  exact bodyPost_ret (res_pln2 Tryz.results18 rfl rfl (HZ.out.put _) rfl) rfl HE.out
  · rw [if_neg hE]
    have dE : (E0 != 0) = true := bne_iff_ne.2 hE
    have HE0 := Lib.hid hE
    clear hE HI
    unfold plC
    go_enter Tryz.func18, Tryz.ntmps18
    go_wp2_with (refine ld_pln rfl (.tmp 2) rfl w.heap.size rfl HR1.out ?_)
    go_at_call 48
    (with_reducible refine (LI.out _ ?_).mono ?_)
    · exact H0.out.below BB.out.below
    rintro e w2 ⟨a6, m6, c6, rfl, hk6, hb2⟩
    have BB := Lib.hid (BB.out.go hb2)
    have HZ := Lib.hid BB.out.now.1
    clear hb2 hk6
    have HE := Lib.hid (PoTold.no (S := P0) (r := L0) (ch := ch) (L := (itm P0 L0).toNat) (g := fun j => elC L g 32 (arH L j)) (fB := fun j => elB L fB (arH L j)) (fS := fun j => elS L fS (rS 0) (arH L j)) (fT := fun j => elS L fT (str (dec 1)) (arH L j)) (E := E0) HE0.out (below_put BB.out.below (show w.heap.size ≤ w.heap.size + 1 + 1 by omega) plZer))
    go_wp2_with (refine st_pln rfl (.tmp 4) (.tmp 21) rfl (w.heap.size + 1 + 1) rfl none 0 0 false none 0 0 none 0 0 rfl HZ.out rfl ?_)
    exact bodyPost_ret (res_pln2 Tryz.results18 rfl rfl (HZ.out.put _) rfl) rfl HE.out
end Go.Proofs.YtkljpofljkgkdaaGreatDoor

namespace Go.Proofs.YtkljpofljkgkdaaGreatDoor
open Go.RowKit
/-- An array and an error, as the program answers them. -/
def MoR (w : World) (x : Array Value) (E : Int) (S : Nat → Int) (r : Nat) (ch : Bool) (L : Nat) (g fP : Nat → Int) (fQ : Nat → Nat) : Prop := IsA x ∧ (E = 0 → Arr w x S r ch L g fP fQ) ∧ (E ≠ 0 → x = zerC)
theorem MoR.below {w w' : World} {x : Array Value} {E : Int} {S : Nat → Int} {r : Nat} {ch : Bool} {L : Nat} {g fP : Nat → Int} {fQ : Nat → Nat} (h : MoR w x E S r ch L g fP fQ) (hb : Below w.heap.size w w') : MoR w' x E S r ch L g fP fQ := ⟨h.1, fun e => (h.2.1 e).below hb, h.2.2⟩
theorem MoR.store {w : World} {x : Array Value} {E : Int} {S : Nat → Int} {r : Nat} {ch : Bool} {L : Nat} {g fP : Nat → Int} {fQ : Nat → Nat} (h : MoR w x E S r ch L g fP fQ) {k : Nat} {t : TypeId} {z : Array Value} (hr : Row w k t z) (hz : IsA z) (cs' : Array Value) : MoR (w.setRow k cs') x E S r ch L g fP fQ := ⟨h.1, fun e => (h.2.1 e).store hr hz cs', h.2.2⟩
theorem MoTold.res {E : Int} {S : Nat → Int} {r : Nat} {ch : Bool} {L : Nat} {g fP : Nat → Int} {fQ : Nat → Nat} {w w' : World} {e : Ending} (h : MoTold E S r ch L g fP fQ w w' e) :
    ∃ x, e = .returned (.tuple #[.agg x, .int .i64 E]) ∧ MoR w' x E S r ch L g fP fQ ∧ Below w.heap.size w w' := by
  obtain ⟨x, he, h1, h2, hb⟩ := h
  refine ⟨x, he, ⟨?_, h1, h2⟩, hb⟩
  by_cases hE : E = 0
  · exact (h1 hE).isA
  · rw [h2 hE]
    exact IsA.zer
/-- A plain array and an error, as the document answers them. -/
def IsP (p : Array Value) : Prop := ∃ sa sn sc ch ta tn tc na nn nc, p = plC sa sn sc ch ta tn tc na nn nc
theorem IsP.size {p : Array Value} (h : IsP p) : p.size = 4 := by
  obtain ⟨_, _, _, _, _, _, _, _, _, _, rfl⟩ := h
  rfl
def PoR (w : World) (p : Array Value) (E : Int) (S : Nat → Int) (r : Nat) (ch : Bool) (L : Nat) (g : Nat → Int) (fB : Nat → Bool) (fS fT : Nat → ByteArray) : Prop := IsP p ∧ (E = 0 → Pln w p S r ch L g fB fS fT)
theorem PoR.below {w w' : World} {p : Array Value} {E : Int} {S : Nat → Int} {r : Nat} {ch : Bool} {L : Nat} {g : Nat → Int} {fB : Nat → Bool} {fS fT : Nat → ByteArray} (h : PoR w p E S r ch L g fB fS fT) (hb : Below w.heap.size w w') : PoR w' p E S r ch L g fB fS fT := ⟨h.1, fun e => (h.2 e).below hb⟩
theorem PoR.put {w : World} {p : Array Value} {E : Int} {S : Nat → Int} {r : Nat} {ch : Bool} {L : Nat} {g : Nat → Int} {fB : Nat → Bool} {fS fT : Nat → ByteArray} (h : PoR w p E S r ch L g fB fS fT) {k : Nat} {t : TypeId} (hr : Row w k t plZer) (cs' : Array Value) : PoR (w.setRow k cs') p E S r ch L g fB fS fT := ⟨h.1, fun e => (h.2 e).put hr cs'⟩
theorem PoTold.res {E : Int} {S : Nat → Int} {r : Nat} {ch : Bool} {L : Nat} {g : Nat → Int} {fB : Nat → Bool} {fS fT : Nat → ByteArray} {w w' : World} {e : Ending} (h : PoTold E S r ch L g fB fS fT w w' e) :
    ∃ x, e = .returned (.tuple #[.agg x, .int .i64 E]) ∧ PoR w' x E S r ch L g fB fS fT ∧ Below w.heap.size w w' := by
  obtain ⟨x, he, h1, h2, hb⟩ := h
  refine ⟨x, he, ⟨?_, h1⟩, hb⟩
  by_cases hE : E = 0
  · obtain ⟨_, _, _, _, _, _, e, _⟩ := (h1 hE).form
    exact ⟨_, _, _, _, _, _, _, _, _, _, e⟩
  · rw [h2 hE]
    exact ⟨_, _, _, _, _, _, _, _, _, _, rfl⟩
/-- What the elements say, on both sides. -/
def ElSame (ch : Bool) (L : Nat) (fP : Nat → Int) (fQ : Nat → Nat) (fB : Nat → Bool) (fS fT : Nat → ByteArray) : Prop := Small ch L fP fQ ∧ ∀ j, j < nnO ch L → rB (fP j) = fB j ∧ rS (fP j) = fS j ∧ str (dec (fQ j)) = fT j
theorem Good.els {S : Nat → Int} {r : Nat} {ch : Bool} {L : Nat} {fB : Nat → Bool} {fS fT : Nat → ByteArray} (h : Good S r ch L fB fS fT) (G : Nat → Int) (M : Nat) : ElSame ch M (fun j => elP L (gP fB fS fT) (G j)) (fun j => elQ L (gQ fB fS fT) (G j)) (fun j => elB L fB (G j)) (fun j => elS L fS (rS 0) (G j)) (fun j => elS L fT (str (dec 1)) (G j)) := by
  have h1 := h.num
  have h2 := h.small
  cases ch with
  | true => exact ⟨fun e => (by cases e), fun j hj => absurd hj (Nat.not_lt_zero _)⟩
  | false => exact ⟨fun _ => el_cmp (h2 rfl) G M, fun j _ => ⟨(el_same h1 (G j)).1.symm, (el_same h1 (G j)).2.1.symm, (el_same h1 (G j)).2.2.symm⟩⟩
theorem shows8_any (x p : Array Value) (E : Int) (S : Nat → Int) (r : Nat) (ch : Bool) (L : Nat) (g fP : Nat → Int) (fQ : Nat → Nat) (fB : Nat → Bool) (fS fT : Nat → ByteArray) (w : World) (h : MoR w x E S r ch L g fP fQ) (hp : PoR w p E S r ch L g fB fS fT) (hr : E = 0 → r ≤ 8 ∧ L ≤ 1000000) (he : ElSame ch L fP fQ fB fS fT) :
    Calls Tryz.prog 19 #[.agg x, .int .i64 E, .agg p, .int .i64 E] w fun e w' => e = .returned (.bool true) ∧ Below w.heap.size w w' := by
  by_cases hE : E = 0
  · subst hE
    exact showsOk_any x p w ⟨S, r, ch, L, g, fP, fQ, S, g, fB, fS, fT, h.2.1 rfl, hp.2 rfl, (hr rfl).1, (hr rfl).2, he.1, fun _ _ => rfl, fun _ _ => rfl, he.2⟩
  · rw [h.2.2 hE]
    obtain ⟨⟨sa, sn, sc, ch, ta, tn, tc, na, nn, nc, rfl⟩, _⟩ := hp
    exact showsNo_any E hE _ _ _ _ _ _ _ _ _ _ w
theorem pints_any (a : Option Addr) (n c : Nat) (g : Nat → Int) (w : World) (h : KRow w .i64 a n c g) (hg : In64 g n) (hn : n ≤ 1000000) :
    Calls Tryz.prog 16 #[.slice a n c] w fun e w' => ∃ p, e = .returned (.agg p) ∧ (∀ T, Pln w' p (fun _ => (n : Int)) 1 false n T (fun j => rB (g j)) (fun j => rS (g j)) (fun _ => str (dec 1))) ∧ Below w.heap.size w w' :=
  (r6Ints_any a n c g w h hg hn).mono (by
    intro e w' q
    obtain ⟨p, he, hp, hb⟩ := q (fun _ => 0)
    refine ⟨p, he, fun T => ?_, hb⟩
    obtain ⟨p', he', hp', _⟩ := q T
    rw [he] at he'
    cases he'
    exact hp')
end Go.Proofs.YtkljpofljkgkdaaGreatDoor

namespace Go.Proofs.YtkljpofljkgkdaaGreatDoor
open Go.RowKit
theorem ld8G {ops : Array Oper} {rest : List Oper} {o : Oper} {a : Act} {w : World} {Q : Exit → Act → World → Prop} (hw : Region.wanted o (yielded ops a.tmps) = true) (d : Nat) (ho : o.op = .load 34 (.tmp d)) (g : Nat) (cs : Array Value) (hx : a.eval (.tmp d) = .pointer (some ⟨g, 0, none⟩)) (hr : Row w g 34 cs) (hs : cs.size = 12)
    (h : wpList Tryz.prog ops Q rest (a.put o.dst (.agg cs)) w) : wpList Tryz.prog ops Q (o :: rest) a w := by
  show if Region.wanted o (yielded ops a.tmps) = true then _ else _
  rw [if_pos hw]
  exact Or.inl (wp_load_row 34 (.tmp d) ho g hx 34 cs (0, 0) _ hr Tryz.underlying34 rfl (by rw [arr12, hs]) h)
theorem ldPG {ops : Array Oper} {rest : List Oper} {o : Oper} {a : Act} {w : World} {Q : Exit → Act → World → Prop} (hw : Region.wanted o (yielded ops a.tmps) = true) (d : Nat) (ho : o.op = .load 26 (.tmp d)) (g : Nat) (cs : Array Value) (hx : a.eval (.tmp d) = .pointer (some ⟨g, 0, none⟩)) (hr : Row w g 26 cs) (hs : cs.size = 4)
    (h : wpList Tryz.prog ops Q rest (a.put o.dst (.agg cs)) w) : wpList Tryz.prog ops Q (o :: rest) a w := by
  show if Region.wanted o (yielded ops a.tmps) = true then _ else _
  rw [if_pos hw]
  exact Or.inl (wp_load_row 26 (.tmp d) ho g hx 26 cs (0, 0) _ hr Tryz.underlying26 rfl (by rw [pln4, hs]) h)
theorem ax_le4 {S : Nat → Int} {r j : Nat} (h : shB S r = true) (hj : j < r) : 0 ≤ S j ∧ S j ≤ 4096 := by
  obtain ⟨_, hax⟩ := sh_ax h
  have h1 := ax_bd (ax_le (show j + 1 ≤ r by omega) hax)
  have h2 := rm_pos S j
  have h3 : 1 * max (S j) 1 ≤ rm S j * max (S j) 1 := Int.mul_le_mul h2 (Int.le_refl _) (by omega) (by omega)
  have h4 : rm S (j + 1) = rm S j * max (S j) 1 := rfl
  have h5 := ax_nn hax hj
  omega
end Go.Proofs.YtkljpofljkgkdaaGreatDoor
