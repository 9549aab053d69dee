/-
  Texts of this seat, laid together.
-/
import Derived.Laws.BytesArg
import Derived.WalkKit
import Derived.WalkSpells
import Derived.Deep.Draws
import Derived.Lib.Hide
import Derived.Lib.TrimByte
import Derived.WalkLawsBesides
import Derived.Laws.CopyOwn
import Derived.Deep.QuietTactic
import Derived.BigQuiet
import Derived.BigRegion
import Derived.RegionTactic
import Derived.Deep.RegionWith
import Derived.StillTailTactics
import Derived.IntWalk
import Derived.Test.YtkljpofljkgkdaaGreatDoorRows
import Derived.Lib.ItoaNum
import Derived.Test.YtkljpofljkgkdaaGreatDoorShelf
import Derived.Deep.RegionHeld3
import Derived.Deep.DrawnRows
import Derived.Laws.BitsLemmas
import Derived.Deep.MidRow
import Derived.Deep.AppendLies
import Derived.Deep.RegionLaw
import Derived.Lib.SliceRun
import Derived.Lib.Walk
import Derived.Below
import Derived.Laws.StructEq
import Derived.ChangeKeysEq
import Derived.Lib.AppendZeros
import Derived.Laws.AppendOwnNone
import Derived.Shelf.Abstract
import Derived.Laws.EntriesVeiled
import Derived.Test.YtkljpofljkgkdaaGreatDoorQ1
import Derived.Test.YtkljpofljkgkdaaGreatDoorQ2
import Derived.Test.YtkljpofljkgkdaaGreatDoorQ3
import Derived.Test.YtkljpofljkgkdaaGreatDoorQ4
import Derived.Test.YtkljpofljkgkdaaGreatDoorQ5
import Derived.Test.YtkljpofljkgkdaaGreatDoorQ6
import Derived.Test.YtkljpofljkgkdaaGreatDoorQ7
import Derived.Test.YtkljpofljkgkdaaGreatDoorQ8
import Derived.Test.YtkljpofljkgkdaaGreatDoorQ9

namespace Go.Proofs.YtkljpofljkgkdaaGreatDoor
open Go.RowKit
end Go.Proofs.YtkljpofljkgkdaaGreatDoor
namespace Go.Proofs.YtkljpofljkgkdaaGreatDoor
open Go.RowKit
end Go.Proofs.YtkljpofljkgkdaaGreatDoor
namespace Go.Proofs.YtkljpofljkgkdaaGreatDoor
open Go.RowKit
end Go.Proofs.YtkljpofljkgkdaaGreatDoor
namespace Go.Proofs.YtkljpofljkgkdaaGreatDoor
open Go.RowKit
theorem numOf_append (b : List UInt8) : ∀ a : List UInt8, numOf (a ++ b) = numOf a * 10 ^ b.length + numOf b
  | [] => by simp [numOf]
  | c :: a => by
    rw [List.cons_append, numOf, numOf_append b a, numOf, List.length_append, Nat.pow_add, Nat.add_mul, Nat.mul_assoc]
    omega
theorem numOf_take_le (l : List UInt8) (k : Nat) : numOf (l.take k) ≤ numOf l := by
  have h := numOf_append (l.drop k) (l.take k)
  rw [List.take_append_drop] at h
  have := Nat.le_mul_of_pos_right (numOf (l.take k)) (Nat.pow_pos (n := (l.drop k).length) (show 0 < 10 by omega))
  omega
theorem dec_dig (N : Nat) : ∀ c ∈ dec N, 48 ≤ c.toNat ∧ c.toNat ≤ 57 := by
  intro c hc
  obtain ⟨j, hj⟩ := List.getElem?_of_mem hc
  unfold dec at hj
  have hjl : j < dl N := by
    rcases Nat.lt_or_ge j (dl N) with h | h
    · exact h
    · rw [List.getElem?_eq_none (by rw [sdig_length]; exact h)] at hj; cases hj
  rw [sdig_get N _ _ hjl] at hj
  cases hj
  rw [dgt_toNat]
  have := Nat.mod_lt (N / 10 ^ (dl N - 1 - j)) (show 0 < 10 by omega)
  omega
theorem dec_max : dec 18446744073709551615 = [49, 56, 52, 52, 54, 55, 52, 52, 48, 55, 51, 55, 48, 57, 53, 53, 49, 54, 49, 53] := by
  rw [← dec_of_top (k := 20) (by decide) (.inr ⟨by decide, by decide⟩)]
  decide
/-- A text of digits at place k: its digit, and what stands before. -/
theorem dec_at {N : Nat} {s : ByteArray} (hs : s.data.toList = dec N) {k : Nat} (hk : k < s.size) :
    ∃ c x : Nat, s[k].toNat = c ∧ c = 48 + x ∧ x < 10 ∧ numOf (s.data.toList.take (k + 1)) = 10 * numOf (s.data.toList.take k) + x := by
  have hm : s[k] ∈ dec N := by
    rw [← hs]
    exact List.getElem_mem (l := s.data.toList) (by simpa using hk)
  obtain ⟨h1, h2⟩ := dec_dig N _ hm
  refine ⟨_, s[k].toNat - 48, rfl, by omega, by omega, ?_⟩
  rw [take_snoc s k hk, numOf_snoc]
def uI (N : Nat) : Nat := if N < 18446744073709551616 then N else 0
set_option maxHeartbeats 800000 in
set_option maxRecDepth 100000 in
theorem runi_any (N : Nat) (w : World) (hl : dl N ≤ 1000) : Calls Tryz.prog 144 #[.string (str (dec N))] w fun e w' => e = .returned (.tuple #[.int .u64 (uI N), .bool (decide (N < 18446744073709551616))]) ∧ w = w' := by
  have hc : ∀ wz, Calls Tryz.prog 159 #[.string (str (dec N)), .string ⟨#[49, 56, 52, 52, 54, 55, 52, 52, 48, 55, 51, 55, 48, 57, 53, 53, 49, 54, 49, 53]⟩] wz fun e w' => e = .returned (.int .i64 (cmpI N 18446744073709551615)) ∧ wz = w' := by
    intro wz
    have h := rcmp_any N 18446744073709551615 wz (by omega) (by have := dl_le 18446744073709551615 20 (by omega) (by decide); omega)
    rw [dec_max] at h
    exact h
  have hsz : (str (dec N)).size = dl N := by rw [str_size]; exact sdig_length _ _
  have hda : (str (dec N)).data.toList = dec N := rfl
  generalize str (dec N) = s at *
  by_cases hbig : 18446744073709551615 < N
  · have h1 : cmpI N 18446744073709551615 = 1 := by unfold cmpI; rw [if_neg (by omega), if_neg (by omega)]
    rw [h1] at hc
    have HC := Lib.hid hc
    have HE : Hid (uI N = 0 ∧ decide (N < 18446744073709551616) = false) := ⟨by unfold uI; rw [if_neg (by omega)], decide_eq_false (by omega)⟩
    clear hc h1 hbig hsz hda
    rw [HE.out.1, HE.out.2]
    go_enter Tryz.func144, Tryz.ntmps144
    go_wp2_with (go_at_call 159; refine (HC.out _).mono ?_; rintro e w1 ⟨rfl, rfl⟩)
    go_ret2
    exact ⟨rfl, rfl⟩
  · obtain ⟨cm, hcm⟩ : ∃ cm, cmpI N 18446744073709551615 = cm := ⟨_, rfl⟩
    have hcl : cm ≤ 0 := by
      rw [← hcm]; unfold cmpI
      split
      · omega
      · split
        · omega
        · omega
    rw [hcm] at hc
    have HC := Lib.hid hc
    have d0 : decide ((0 : Int) < cm) = false := decide_eq_false (by omega)
    have HE : Hid (uI N = N ∧ decide (N < 18446744073709551616) = true) := ⟨by unfold uI; rw [if_pos (by omega)], decide_eq_true (by omega)⟩
    have HN : Hid (N < 18446744073709551616) := by show _ < _; omega
    have HDA := Lib.hid hda
    have HSZ := Lib.hid hsz
    have hsl : s.size ≤ 1000 := by omega
    rw [HE.out.1, HE.out.2]
    clear hc hcm hbig hsz hda HE hl
    go_enter Tryz.func144, Tryz.ntmps144
    go_wp2_with (go_at_call 159; refine (HC.out _).mono ?_; rintro e w1 ⟨rfl, rfl⟩)
    go_loop [4, 5] (fun a i => ∃ k acc : Nat, k ≤ s.size ∧ i = .int .i64 k ∧ a = .int .u64 acc ∧ Hid (acc = numOf (s.data.toList.take k)))
      (fun _ i => s.size - (intOf i).toNat)
    case atStart => exact ⟨0, 0, by omega, rfl, rfl, by show _ = _; simp [numOf]⟩
    case round =>
      obtain ⟨k, acc, hk, rfl, rfl, hacc⟩ := hrel
      by_cases hlt : k < s.size
      · obtain ⟨c, x, hcx, hc48, hx10, hnum⟩ := dec_at HDA.out hlt
        have hle := numOf_take_le s.data.toList (k + 1)
        rw [HDA.out, numOf_dec, ← HDA.out, hnum, ← hacc.out] at hle
        have hNl := HN.out
        obtain ⟨acc', ha'⟩ : ∃ acc', 10 * acc + x = acc' := ⟨_, rfl⟩
        have hal : acc' < 18446744073709551616 := by omega
        have HNX : Hid (acc' = numOf (s.data.toList.take (k + 1))) := by show _ = _; rw [hnum, ← hacc.out, ha']
        have e0 : (s[k].toNat : Int) - 48 = (x : Int) := by omega
        have e1 : (acc : Int) * 10 + (x : Int) = (acc' : Int) := by omega
        have e2 : (x : Int) % 256 = (x : Int) := by omega
        have e3 : (48 : Int) ≤ (s[k].toNat : Int) := by omega
        have e4 : (acc : Int) * 10 ≤ 18446744073709551615 := by omega
        clear hcx hc48 hnum hle hNl ha' hacc
        go_wp2
        go_round
        case rel => exact ⟨k + 1, acc', by omega, by go_num, rfl, HNX.out⟩
        case measure => simp [intOf]; omega
      · obtain rfl : k = s.size := by omega
        have hE : Hid (acc = N) := by
          show _ = _
          rw [hacc.out, List.take_of_length_le (by show s.data.toList.length ≤ _; exact Nat.le_refl _), HDA.out, numOf_dec]
        go_wp2
        go_ret2
        exact ⟨by rw [hE.out]; rfl, rfl⟩
end Go.Proofs.YtkljpofljkgkdaaGreatDoor
namespace Go.Proofs.YtkljpofljkgkdaaGreatDoor
open Go.RowKit
end Go.Proofs.YtkljpofljkgkdaaGreatDoor

namespace Go.Proofs.YtkljpofljkgkdaaGreatDoor
open Go.RowKit
attribute [local go_sem ↓] Go.wp_at_zero Go.wp_at_succ
theorem dec_is0 (N : Nat) : ((str (dec N)).toList == [48]) = decide (N = 0) := by
  have e : (str (dec N)).toList = dec N := by rw [ByteArray.toList_eq]; rfl
  rw [e, Bool.eq_iff_iff, beq_iff_eq, decide_eq_true_eq]
  constructor
  · intro h
    have := congrArg numOf h
    unfold dec at this
    rw [numOf_sdig, Nat.mod_eq_of_lt (dl_lt N)] at this
    simpa [numOf] using this
  · intro h; rw [h, dec_zero]
theorem rsgn_B (b : Bool) (N : Nat) : rB (sgn b N) = (b && !decide (N = 0)) := sgn_neg b N
theorem rsgn_S (b : Bool) (N : Nat) : rS (sgn b N) = str (dec N) := by unfold rS; rw [sgn_abs]
set_option maxRecDepth 100000 in
theorem rOf_any (b : Bool) (N n : Nat) (w : World) (hn : 0 < n) (hN : N < 10 ^ n) (hl : n ≤ 10000000) :
    Calls Tryz.prog 145 #[.bool b, .string (str (sdig N n))] w fun e w' => RTold w w' e (sgn b N) := by
  have TR := Lib.hid (fun wz => trim_any N n wz hn hN hl)
  have h0 := dec_is0 N
  obtain ⟨s, hs⟩ : ∃ s, str (sdig N n) = s := ⟨_, rfl⟩
  obtain ⟨t, ht⟩ : ∃ t, str (dec N) = t := ⟨_, rfl⟩
  have hx := rsgn_B b N
  have hy := rsgn_S b N
  rw [ht] at TR h0 hy
  rw [hs] at TR ⊢
  obtain ⟨z, hz⟩ : ∃ z, decide (N = 0) = z := ⟨_, rfl⟩
  rw [hz] at h0 hx
  have HX := Lib.hid hx
  have HY := Lib.hid hy
  clear hx hy hs ht hz hN hn hl
  cases b
  · have HE : Hid (RTold w (w.alloc (.cells #[.bool false, .string t] 117)) (.returned (.agg #[.bool false, .string t])) (sgn false N)) := ⟨by rw [HX.out, HY.out]; rfl, (Below.refl _ _).alloc (Nat.le_refl _) _⟩
    go_enter Tryz.func145, Tryz.ntmps145
    go_wp2_with (go_at_call 131; refine (TR.out _).mono ?_; rintro e w2 ⟨rfl, rfl⟩)
    exact bodyPost_ret (v := .agg #[.bool false, .string t]) (by simp [results, Tryz.results145, go_sem]) rfl HE.out
  · have HE : Hid (RTold w (w.alloc (.cells #[.bool (!z), .string t] 117)) (.returned (.agg #[.bool (!z), .string t])) (sgn true N)) := ⟨by rw [HX.out, HY.out]; rfl, (Below.refl _ _).alloc (Nat.le_refl _) _⟩
    cases z
    all_goals
      go_enter Tryz.func145, Tryz.ntmps145
      go_wp2_with (go_at_call 131; refine (TR.out _).mono ?_; rintro e w2 ⟨rfl, rfl⟩)
      exact bodyPost_ret (v := _) (by simp [results, Tryz.results145, go_sem]) rfl HE.out
theorem rOf_dec (b : Bool) (N : Nat) (w : World) (hl : dl N ≤ 10000000) :
    Calls Tryz.prog 145 #[.bool b, .string (str (dec N))] w fun e w' => RTold w w' e (sgn b N) := rOf_any b N (dl N) w (dl_pos N) (dl_lt N) hl
end Go.Proofs.YtkljpofljkgkdaaGreatDoor
namespace Go.Proofs.YtkljpofljkgkdaaGreatDoor
open Go.RowKit
attribute [local go_sem ↓] Go.wp_at_zero Go.wp_at_succ
end Go.Proofs.YtkljpofljkgkdaaGreatDoor
namespace Go.Proofs.YtkljpofljkgkdaaGreatDoor
open Go.RowKit
attribute [local go_sem ↓] Go.wp_at_zero Go.wp_at_succ
set_option maxHeartbeats 1600000 in
set_option maxRecDepth 100000 in
theorem rSmall_any (Z : Int) (w : World) (hl : dl Z.natAbs ≤ 1000) :
    Calls Tryz.prog 125 #[.agg #[.bool (rB Z), .string (rS Z)]] w fun e w' => e = .returned (.tuple #[.int .i64 (fitI Z), .bool (fitB Z)]) ∧ Below w.heap.size w w' := by
  have B0 := ((Bag.start w).box2 (.bool (rB Z)) (.string (rS Z)) 117)
  have q0 := B0.now.1.cell
  have q1 := B0.now.1.cell1
  have hu := fun wz => runi_any Z.natAbs wz hl
  rw [show str (dec Z.natAbs) = rS Z from rfl] at hu
  have BB := Lib.hid B0
  obtain ⟨N, hN⟩ : ∃ N, Z.natAbs = N := ⟨_, rfl⟩
  rw [hN] at hu
  unfold uI at hu
  generalize rS Z = s at *
  by_cases hbig : N < 18446744073709551616
  · rw [if_pos hbig, decide_eq_true hbig] at hu
    have HU := Lib.hid hu
    clear hu B0
    by_cases hz : Z < 0
    · rw [show rB Z = true from decide_eq_true hz] at *
      have hZN : Z = -(N : Int) := by omega
      by_cases h63 : N ≤ 9223372036854775808
      · have HE : Hid (fitI Z = -(N : Int) ∧ fitB Z = true) := by
          have : fitB Z = true := decide_eq_true (by omega)
          exact ⟨by unfold fitI; rw [this, if_pos rfl]; exact hZN, this⟩
        have d2 : decide ((9223372036854775808 : Int) < (N : Int)) = false := decide_eq_false (by omega)
        obtain ⟨N1, hN1⟩ : ∃ N1, N - 1 = N1 := ⟨_, rfl⟩
        have e1 : (N : Int) - 1 = (N1 : Int) := by omega
        have b1 : (N1 : Int) ≤ 9223372036854775807 := by omega
        have b2 : (1 : Int) ≤ (N : Int) := by omega
        have e2 : 0 - (N1 : Int) = -(N1 : Int) := by omega
        have e3 : -(N1 : Int) - 1 = -(N : Int) := by omega
        clear hz hZN hN hbig h63 hN1 hl
        go_enter Tryz.func125, Tryz.ntmps125
        go_wp2_with (go_at_call 144; (with_reducible refine (HU.out _).mono ?_); rintro e w2 ⟨rfl, rfl⟩)
        go_ret2
        exact ⟨ret_ib (by rw [HE.out.1]) HE.out.2.symm, BB.out.below⟩
      · have HE : Hid (fitI Z = 0 ∧ fitB Z = false) := by
          have : fitB Z = false := decide_eq_false (by omega)
          exact ⟨by unfold fitI; rw [this]; rfl, this⟩
        have d2 : decide ((9223372036854775808 : Int) < (N : Int)) = true := decide_eq_true (by omega)
        clear hz hZN hN hbig h63 hl
        go_enter Tryz.func125, Tryz.ntmps125
        go_wp2_with (go_at_call 144; (with_reducible refine (HU.out _).mono ?_); rintro e w2 ⟨rfl, rfl⟩)
        go_ret2
        exact ⟨ret_ib HE.out.1.symm HE.out.2.symm, BB.out.below⟩
    · rw [show rB Z = false from decide_eq_false hz] at *
      have hZN : Z = (N : Int) := by omega
      by_cases h63 : N ≤ 9223372036854775807
      · have HE : Hid (fitI Z = (N : Int) ∧ fitB Z = true) := by
          have : fitB Z = true := decide_eq_true (by omega)
          exact ⟨by unfold fitI; rw [this, if_pos rfl]; exact hZN, this⟩
        have d1 : decide ((9223372036854775807 : Int) < (N : Int)) = false := decide_eq_false (by omega)
        have hl' : (N : Int) ≤ 9223372036854775807 := by omega
        clear hz hZN hN hbig h63 hl
        go_enter Tryz.func125, Tryz.ntmps125
        go_wp2_with (go_at_call 144; (with_reducible refine (HU.out _).mono ?_); rintro e w2 ⟨rfl, rfl⟩)
        go_ret2
        exact ⟨ret_ib HE.out.1.symm HE.out.2.symm, BB.out.below⟩
      · have HE : Hid (fitI Z = 0 ∧ fitB Z = false) := by
          have : fitB Z = false := decide_eq_false (by omega)
          exact ⟨by unfold fitI; rw [this]; rfl, this⟩
        have d1 : decide ((9223372036854775807 : Int) < (N : Int)) = true := decide_eq_true (by omega)
        clear hz hZN hN hbig h63 hl
        go_enter Tryz.func125, Tryz.ntmps125
        go_wp2_with (go_at_call 144; (with_reducible refine (HU.out _).mono ?_); rintro e w2 ⟨rfl, rfl⟩)
        go_ret2
        exact ⟨ret_ib HE.out.1.symm HE.out.2.symm, BB.out.below⟩
  · rw [if_neg hbig, decide_eq_false hbig] at hu
    have HU := Lib.hid hu
    have HE : Hid (fitI Z = 0 ∧ fitB Z = false) := by
      have : fitB Z = false := decide_eq_false (by omega)
      exact ⟨by unfold fitI; rw [this]; rfl, this⟩
    clear hu hbig hN B0 hl
    generalize rB Z = b at *
    go_enter Tryz.func125, Tryz.ntmps125
    go_wp2_with (go_at_call 144; (with_reducible refine (HU.out _).mono ?_); rintro e w2 ⟨rfl, rfl⟩)
    go_ret2
    exact ⟨ret_ib HE.out.1.symm HE.out.2.symm, BB.out.below⟩
end Go.Proofs.YtkljpofljkgkdaaGreatDoor

namespace Go.Proofs.YtkljpofljkgkdaaGreatDoor
open Go.RowKit
theorem KRow.one' (w : World) (ki : IntKind) (x : Int) (t : TypeId) : KRow (w.alloc (.cells #[.int ki x] t)) ki (some ⟨w.heap.size, 0, none⟩) 1 1 (fun _ => x) := by
  refine ⟨Nat.le_refl _, by unfold maxLen; omega, .inr ⟨_, 0, rfl, by simp, fun j hj => ?_⟩⟩
  obtain rfl : j = 0 := by omega
  exact (Row.new w t #[.int ki x]).cell 0
end Go.Proofs.YtkljpofljkgkdaaGreatDoor

namespace Go.Proofs.YtkljpofljkgkdaaGreatDoor
open Go.RowKit
end Go.Proofs.YtkljpofljkgkdaaGreatDoor
namespace Go.Proofs.YtkljpofljkgkdaaGreatDoor
open Go.RowKit
attribute [local go_sem ↓] Go.wp_at_zero Go.wp_at_succ
theorem dec0 : str (dec 0) = ⟨#[48]⟩ := by rw [dec_small (by omega)]; rfl
set_option maxHeartbeats 1600000 in
set_option maxRecDepth 100000 in
theorem r3Zero_any (w : World) : Calls Tryz.prog 89 #[] w fun e w' => NumTold w w' e 0 1 := by
  have B0 := (Bag.start w).alloc (.cells #[.bool false, .string ⟨#[48]⟩, .string ⟨#[49]⟩] 65)
  have HE : Hid (NumTold w (w.alloc (.cells #[.bool false, .string ⟨#[48]⟩, .string ⟨#[49]⟩] 65)) (.returned (.agg #[.bool false, .string ⟨#[48]⟩, .string ⟨#[49]⟩])) 0 1) := ⟨by rw [show rB 0 = false from rfl, show rS 0 = str (dec 0) from rfl, dec0, dec1], B0.below⟩
  go_enter Tryz.func89, Tryz.ntmps89
  go_wp2
  exact bodyPost_ret (v := .agg #[.bool false, .string ⟨#[48]⟩, .string ⟨#[49]⟩]) (by simp [results, Tryz.results89, go_sem]) rfl HE.out
set_option maxHeartbeats 1600000 in
set_option maxRecDepth 100000 in
theorem r3Top_any (P : Int) (t : ByteArray) (w : World) (hl : dl P.natAbs ≤ 10000000) : Calls Tryz.prog 126 #[.agg #[.bool (rB P), .string (rS P), .string t]] w fun e w' => RTold w w' e P := by
  have B0 := ((Bag.start w).box3 (.bool (rB P)) (.string (rS P)) (.string t) 65).box2 (.bool false) (.string ⟨#[]⟩) 117
  simp only [World.size_alloc] at B0
  have OF : Hid (∀ wz, Calls Tryz.prog 145 #[.bool (rB P), .string (rS P)] wz fun e w' => RTold wz w' e P) := by
    intro wz
    have h1 := rOf_dec (rB P) P.natAbs wz hl
    rw [show sgn (rB P) P.natAbs = P from sgn_self P] at h1
    exact h1
  have BB := Lib.hid B0
  have HF := Lib.hid (fun w2 b s (hb : Below w.heap.size w w2) (h1 : rB P = b) (h2 : rS P = s) => RTold.fin (Y := P) hb (show w.heap.size ≤ w.heap.size + 1 by omega) h1 h2)
  obtain ⟨b, hb⟩ : ∃ b, rB P = b := ⟨_, rfl⟩
  obtain ⟨s, hs⟩ : ∃ s, rS P = s := ⟨_, rfl⟩
  have HB := Lib.hid hb
  have HS2 := Lib.hid hs
  unfold RTold at OF
  rw [hb, hs] at OF BB
  rw [hb, hs]
  clear B0 hl hb hs
  go_enter Tryz.func126, Tryz.ntmps126
  go_wp2_with fail
  go_at_call 145
  (with_reducible refine (OF.out _).mono ?_)
  rintro e w2 ⟨rfl, hb2⟩
  have BB := Lib.hid (BB.out.go hb2)
  have hs2 := BB.out.now.1
  have hc1 := hs2.cell
  have hc2 := hs2.cell1
  have hf1 := hs2.free
  have hf2 := hs2.free1
  have HS := hs2.set (.bool b) (.string s)
  have HE := Lib.hid (HF.out w2 b s BB.out.below HB.out HS2.out)
  unfold put2 at HE
  clear hb2 hs2
  go_wp2
  exact bodyPost_ret (v := .agg #[.bool b, .string s]) (by simp [results, Tryz.results126, go_sem, HS]) rfl HE.out
end Go.Proofs.YtkljpofljkgkdaaGreatDoor
namespace Go.Proofs.YtkljpofljkgkdaaGreatDoor
open Go.RowKit
attribute [local go_sem ↓] Go.wp_at_zero Go.wp_at_succ
end Go.Proofs.YtkljpofljkgkdaaGreatDoor
namespace Go.Proofs.YtkljpofljkgkdaaGreatDoor
open Go.RowKit
attribute [local go_sem ↓] Go.wp_at_zero Go.wp_at_succ
end Go.Proofs.YtkljpofljkgkdaaGreatDoor
namespace Go.Proofs.YtkljpofljkgkdaaGreatDoor
open Go.RowKit
attribute [local go_sem ↓] Go.wp_at_zero Go.wp_at_succ
end Go.Proofs.YtkljpofljkgkdaaGreatDoor

namespace Go.Proofs.YtkljpofljkgkdaaGreatDoor
open Go.RowKit
attribute [local go_sem ↓] Go.wp_at_zero Go.wp_at_succ
set_option maxHeartbeats 1600000 in
set_option maxRecDepth 100000 in
theorem r3Int_any (P : Int) (Q : Nat) (w : World) (hl : dl P.natAbs ≤ 1000) :
    Calls Tryz.prog 96 #[.agg #[.bool (rB P), .string (rS P), .string (str (dec Q))]] w fun e w' => e = .returned (.tuple #[.int .i64 (if Q = 1 then fitI P else 0), .bool (decide (Q = 1) && fitB P)]) ∧ Below w.heap.size w w' := by
  have h1 := dec_is1 Q
  have TA : Hid (∀ wz, Calls Tryz.prog 126 #[.agg #[.bool (rB P), .string (rS P), .string (str (dec Q))]] wz fun e w' => RTold wz w' e P) := fun wz => r3Top_any P _ wz (by omega)
  have SM := Lib.hid (fun wz => rSmall_any P wz hl)
  unfold RTold at TA
  have BB := Lib.hid ((Bag.start w).box3 (.bool (rB P)) (.string (rS P)) (.string (str (dec Q))) 65)
  generalize str (dec Q) = t at *
  generalize rB P = b at *
  generalize rS P = s at *
  generalize fitI P = x at *
  generalize fitB P = y at *
  have q0 := BB.out.now.1.cell
  have q1 := BB.out.now.1.cell1
  have q2 := BB.out.now.1.cell2
  clear hl
  by_cases hq : Q = 1
  · rw [decide_eq_true hq] at h1
    rw [if_pos hq, decide_eq_true hq, Bool.true_and]
    clear hq
    go_enter Tryz.func96, Tryz.ntmps96
    go_wp2_with (first
      | (go_at_call 126; (with_reducible refine (TA.out _).mono ?_); rintro e w2 ⟨rfl, hb2⟩; have BB := Lib.hid (BB.out.go hb2))
      | (go_at_call 125; (with_reducible refine (SM.out _).mono ?_); rintro e w3 ⟨rfl, hb3⟩; have BB := Lib.hid (BB.out.go hb3)))
    go_ret2
    exact ⟨rfl, BB.out.below⟩
  · rw [decide_eq_false hq] at h1
    rw [if_neg hq, decide_eq_false hq, Bool.false_and]
    clear hq TA SM
    go_enter Tryz.func96, Tryz.ntmps96
    go_wp2
    go_ret2
    exact ⟨rfl, BB.out.below⟩
end Go.Proofs.YtkljpofljkgkdaaGreatDoor

namespace Go.Proofs.YtkljpofljkgkdaaGreatDoor
open Go.RowKit
set_option maxHeartbeats 1600000 in
set_option maxRecDepth 100000 in
theorem r6Len_any (cs : Array Value) (S : Nat → Int) (r : Nat) (ch : Bool) (g : Nat → Int) (tn : Nat) (fB : Nat → Bool) (fS fT : Nat → ByteArray) (nn : Nat) (w : World) (h : PlnAt w cs S r ch g tn fB fS fT nn) (h1 : tn ≤ 1000000) (h2 : nn ≤ 1000000) :
    Calls Tryz.prog 50 #[.agg cs] w fun e w' => e = .returned (.int .i64 ((tn + nn : Nat) : Int)) ∧ Below w.heap.size w w' := by
  obtain ⟨sa, sc, ta, tc, na, nc, rfl, _, _, _⟩ := h
  have hw := IntWalk.i64_in ((tn : Int) + nn) (by omega)
  have HE : Hid ((tn : Int) + nn = ((tn + nn : Nat) : Int)) := by show _ = _; omega
  have HB : Hid (Below w.heap.size w (w.alloc (.cells (plC sa r sc ch ta tn tc na nn nc) 26))) := (Below.refl _ _).alloc (Nat.le_refl _) _
  unfold plC at HB
  unfold plC
  go_enter Tryz.func50, Tryz.ntmps50
  go_wp2
  go_ret
  exact ⟨ret_int HE.out, HB.out⟩
set_option maxHeartbeats 3200000 in
set_option maxRecDepth 100000 in
theorem r6Whole_any (cs : Array Value) (S : Nat → Int) (r : Nat) (ch : Bool) (g : Nat → Int) (tn : Nat) (fB : Nat → Bool) (fS fT : Nat → ByteArray) (nn : Nat) (fP : Nat → Int) (fQ : Nat → Nat) (w : World) (h : PlnAt w cs S r ch g tn fB fS fT nn) (hN : NumOk fB fS fT fP fQ nn) (hn : nn ≤ 1000000) :
    Calls Tryz.prog 65 #[.agg cs] w fun e w' => WhTold (decide (tn = 0) && whB fP fQ nn) nn fP w w' e := by
  obtain ⟨sa, sc, ta, tc, na, nc, rfl, h1, h2, h3⟩ := h
  have hl := h3.len
  have hl2 := h2.len
  obtain ⟨i0, hi, hz0, hz1, hz2⟩ := info_parts infoI
  have BB := Lib.hid (((Bag.start w).qrow h3).newRow (plC sa r sc ch ta tn tc na nn nc) 26)
  have IN : Hid (∀ j, j < nn → ∀ wz, Calls Tryz.prog 96 #[.agg #[.bool (fB j), .string (fS j), .string (fT j)]] wz fun e w' => e = .returned (.tuple #[.int .i64 (if fQ j = 1 then fitI (fP j) else 0), .bool (decide (fQ j = 1) && fitB (fP j))]) ∧ Below wz.heap.size wz w') := fun j hj wz => by
    obtain ⟨e1, e2, e3, _, e4, e5⟩ := hN j hj
    rw [e1, e2, e3]
    exact r3Int_any (fP j) (fQ j) wz (by omega)
  by_cases h0 : tn = 0
  · rw [decide_eq_true h0, Bool.true_and]
    have d0 : ¬ ((0 : Int) < tn) := by omega
    unfold plC at BB
    unfold plC
    have H0 := Lib.hid BB.out.below
    clear h1 h2 h3 hN h0
    go_enter Tryz.func65, Tryz.ntmps65
    go_wp2_with fail
    generalize w.alloc (.cells #[.slice sa r sc, .bool ch, .slice ta tn tc, .slice na nn nc] 26) = y0 at *
    go_loopw [4, 5] (fun v i wr => ∃ (k : Nat) (a1 : Option Addr) (c1 : Nat), k ≤ nn ∧ i = .int .i64 k ∧ v = .slice a1 k c1 ∧ Hid (Below y0.heap.size y0 wr ∧ wr.ownsRow y0.heap.size 3 1 (.slice a1 k c1) k (kcs .i64 fP k) ∧ whB fP fQ k = true)) (fun _ i _ => nn - (intOf i).toNat)
    case atStart => exact ⟨0, none, 0, by omega, rfl, rfl, Below.refl _ _, World.ownsRow_nil _ _ _ _, rfl⟩
    case round =>
      obtain ⟨k, a1, c1, hk, rfl, rfl, hrel⟩ := hrel
      obtain ⟨hbl, hown, hwh⟩ := hrel.out
      have B4 := Lib.hid (BB.out.go hbl)
      obtain ⟨x0, x1, x2, x3⟩ := pl_cells B4.out.now.1
      by_cases hlt : k < nn
      · obtain ⟨b, off, rfl, hb, c1', c2', c3'⟩ := B4.out.now.2.1.get hlt
        have IK := Lib.hid (IN.out k hlt)
        have HBL := Lib.hid hbl
        have HWH := Lib.hid hwh
        have HOWN := Lib.hid hown
        have hwr := hbl.size
        clear hbl hown hwh
        by_cases hok : (decide (fQ k = 1) && fitB (fP k)) = true
        · have hv : (if fQ k = 1 then fitI (fP k) else 0) = fP k := by
            rw [Bool.and_eq_true, decide_eq_true_eq] at hok
            rw [if_pos hok.1]; unfold fitI; rw [if_pos hok.2]
          have HW2 : Hid (whB fP fQ (k + 1) = true) := by show (whB fP fQ k && _) = true; rw [HWH.out, hok]; rfl
          have HMX := Lib.hid (show k + 1 ≤ maxLen by unfold maxLen; omega)
          have HMY := Lib.hid (show (k + 1) * 8 ≤ 140737488355328 by omega)
          have HK2 : Hid (kcs .i64 fP (k + 1) = kcs .i64 fP k ++ [.int .i64 (fP k)]) := rfl
          rw [hok, hv] at IK
          clear hok hv
          generalize fB k = u1 at *
          generalize fS k = u2 at *
          generalize fT k = u3 at *
          generalize hx : fP k = x at *
          clear hx
          go_wp2_with fail
          go_at_call 96
          (with_reducible refine (IK.out _).mono ?_)
          rintro e w4 ⟨rfl, hb4⟩
          have HO2 := Lib.hid (own_below (own_below HOWN.out hb4) ((Below.refl _ _).alloc (Nat.le_refl _) (.cells #[.int .i64 x] 3)))
          have HNEW := Lib.hid (World.news_of_block (Row.new w4 3 #[.int .i64 x]))
          have HBA : Hid (y0.heap.size ≤ (w4.alloc (.cells #[.int .i64 x] 3)).heap.size) := Lib.hid (by have := HBL.out.size; have := hb4.size; rw [World.size_alloc]; omega)
          have HB2 := Lib.hid ((HBL.out.trans (hb4.mono hwr)).trans ((Below.refl _ _).alloc (by have := HBL.out.size; have := hb4.size; omega) (.cells #[.int .i64 x] 3)))
          clear hb4
          go_wp2_with (at_builtin; refine wpList_append_lies _ rfl (.tmp 30) (.tmp 32) 22 rfl y0.heap.size 3 i0 _ 1 8 Tryz.underlying22 hi hz0 hz1 hz2 rfl (by omega) (.slice a1 k c1) k _ rfl HO2.out ⟨w4.heap.size, 0, none⟩ 1 1 [.int .i64 x] rfl rfl HNEW.out ?q1 (by omega) HMX.out HMY.out HBA.out _ rfl ?_)
          case q1 => intro u hu; simp at hu; subst hu; rfl
          intro g9 cap9 w5 hown5 hgrow _ _
          have HN2 : Hid (Below y0.heap.size y0 w5 ∧ w5.ownsRow y0.heap.size 3 1 (.slice (some ⟨g9, 0, none⟩) (k + 1) cap9) (k + 1) (kcs .i64 fP (k + 1)) ∧ whB fP fQ (k + 1) = true) :=
            Lib.hid ⟨HB2.out.trans ⟨hgrow.os, hgrow.tape, hgrow.output, hgrow.size, fun j hj => hgrow.block j (Nat.lt_of_lt_of_le hj HB2.out.size) (fun e => by have := (HO2.out.lt j e.symm).1; omega)⟩, by rw [HK2.out]; exact hown5, HW2.out⟩
          clear hown5 hgrow
          go_wp2
          go_roundw
          case rel => exact ⟨k + 1, _, cap9, by omega, by go_num, rfl, HN2.out⟩
          case measure => simp [intOf]; omega
        · rw [Bool.not_eq_true] at hok
          have hno : whB fP fQ nn = false := by
            cases hx : whB fP fQ nn with
            | false => rfl
            | true =>
              have := whB_le (k := k + 1) (by omega) hx
              unfold whB at this
              rw [hok, Bool.and_false] at this
              exact this.symm
          have HNO := Lib.hid hno
          rw [hok] at IK
          clear hok hno
          generalize (if fQ k = 1 then fitI (fP k) else 0) = x at *
          generalize fB k = u1 at *
          generalize fS k = u2 at *
          generalize fT k = u3 at *
          go_wp2_with fail
          go_at_call 96
          (with_reducible refine (IK.out _).mono ?_)
          rintro e w4 ⟨rfl, hb4⟩
          have HE : Hid (WhTold (whB fP fQ nn) nn fP w w4 (.returned (.tuple #[.slice none 0 0, .bool false]))) := Lib.hid (by
            rw [HNO.out]
            exact ⟨_, _, _, rfl, by rw [if_neg (by decide)]; exact ⟨rfl, rfl, rfl⟩, (B4.out.go hb4).below⟩)
          clear hb4
          go_wp2
          go_ret2
          exact HE.out
      · obtain rfl : k = nn := by omega
        obtain ⟨a9, c9, he, hq⟩ := KRow.of_own hown
        injection he with he1 _ he2
        subst he1 he2
        have HE : Hid (WhTold (whB fP fQ k) k fP w wr (.returned (.tuple #[.slice a1 k c1, .bool true]))) := Lib.hid (by
          rw [hwh]
          exact ⟨_, _, _, rfl, by rw [if_pos rfl]; exact ⟨rfl, hq⟩, B4.out.below⟩)
        clear hbl hown hwh hq
        go_wp2
        go_ret2
        exact HE.out
  · rw [decide_eq_false h0, Bool.false_and]
    have d1 : (0 : Int) < tn := by omega
    have HE : Hid (WhTold false nn fP w (w.alloc (.cells (plC sa r sc ch ta tn tc na nn nc) 26)) (.returned (.tuple #[.slice none 0 0, .bool false]))) := Lib.hid
      ⟨_, _, _, rfl, by rw [if_neg (by decide)]; exact ⟨rfl, rfl, rfl⟩, BB.out.below⟩
    unfold plC at HE
    unfold plC
    clear h1 h2 h3 hN h0
    go_enter Tryz.func65, Tryz.ntmps65
    go_wp2
    go_ret2
    exact HE.out
end Go.Proofs.YtkljpofljkgkdaaGreatDoor

namespace Go.Proofs.YtkljpofljkgkdaaGreatDoor
open Go.RowKit
/-- One element more in the row of characters that a plain array holds. -/
theorem pt_step {w y0 wr w2 : World} {P : Nat} {sa : Option Addr} {sn sc : Nat} {ch : Bool} {na : Option Addr} {nn nc : Nat} {a : Option Addr} {k c : Nat} {ki : IntKind} {f : Nat → Int} {T E : TypeId} (hbl : Below w.heap.size w wr) (hf : Far P y0 wr) (hb : Below wr.heap.size wr w2)
    (hr : Row w2 P T (plC sa sn sc ch a k c na nn nc)) (ho : w2.ownsRow y0.heap.size E 1 (.slice a k c) k (kcs ki f k)) (hne : E ≠ T) (hP : w.heap.size ≤ P) (hy : w.heap.size ≤ y0.heap.size) :
    ∀ (g cap : Nat) (w3 : World) (x : Int), x = f k → w3.ownsRow y0.heap.size E 1 (.slice (some ⟨g, 0, none⟩) (k + 1) cap) (k + 1) (kcs ki f k ++ [.int ki x]) → w2.grownBy w3 (Value.slice a k c).ownBlock →
    Below w.heap.size w (w3.setCell ⟨P, 2, none⟩ (.slice (some ⟨g, 0, none⟩) (k + 1) cap)) ∧ Far P y0 (w3.setCell ⟨P, 2, none⟩ (.slice (some ⟨g, 0, none⟩) (k + 1) cap)) ∧ Row (w3.setCell ⟨P, 2, none⟩ (.slice (some ⟨g, 0, none⟩) (k + 1) cap)) P T (plC sa sn sc ch (some ⟨g, 0, none⟩) (k + 1) cap na nn nc)
      ∧ (w3.setCell ⟨P, 2, none⟩ (.slice (some ⟨g, 0, none⟩) (k + 1) cap)).ownsRow y0.heap.size E 1 (.slice (some ⟨g, 0, none⟩) (k + 1) cap) (k + 1) (kcs ki f (k + 1)) := by
  intro g cap w3 x hx ho3 hg
  subst hx
  have hlt := ho.lt
  have hr3 := hr.grown hg (hr.apart ho hne)
  have hb2 : Below w.heap.size w w2 := hbl.trans (hb.mono hbl.size)
  have hb3 : Below w.heap.size w w3 := hb2.trans ⟨hg.os, hg.tape, hg.output, hg.size, fun j hj => hg.block j (Nat.lt_of_lt_of_le hj hb2.size) (fun e => by have := (hlt j e.symm).1; omega)⟩
  refine ⟨hb3.setCell (p := ⟨P, 2, none⟩) hP _, ((hf.trans (Far.of_below hb)).of_grown hg (fun x hx => (hlt x hx).1)).trans (Far.setCell _ _ _ _), hr3.set 2 _, own_setCell ho3 _ _ _ (hr3.apart ho3 hne)⟩
/-- A number's parts at a place, or nought's. -/
def elB (n : Nat) (fB : Nat → Bool) (i : Int) : Bool := if 0 ≤ i ∧ i < n then fB i.toNat else rB 0
def elS (n : Nat) (fS : Nat → ByteArray) (z : ByteArray) (i : Int) : ByteArray := if 0 ≤ i ∧ i < n then fS i.toNat else z
set_option linter.unusedSimpArgs false in
set_option maxHeartbeats 6400000 in
set_option maxRecDepth 100000 in
theorem r6PickC_any (cs : Array Value) (S : Nat → Int) (r : Nat) (g : Nat → Int) (tn : Nat) (fB : Nat → Bool) (fS fT : Nat → ByteArray) (s1 : Option Addr) (r' c1 : Nat) (S' : Nat → Int) (t1 : Option Addr) (m d1 : Nat) (at' : Nat → Int) (w : World) (h : PlnAt w cs S r true g tn fB fS fT 0) (hs : KRow w .i64 s1 r' c1 S') (ht : KRow w .i64 t1 m d1 at') (hm : m ≤ 1000000) (hL : tn ≤ 1000000) :
    Calls Tryz.prog 51 #[.agg cs, .slice s1 r' c1, .slice t1 m d1] w fun e w' => ∀ fB' fS' fT', PlnTold S' r' true (fun j => elC tn g 32 (at' j)) m fB' fS' fT' 0 w w' e := by
  have LN := Lib.hid (fun wz cs p => r6Len_any cs S r true g tn fB fS fT 0 wz p (by omega) (by omega))
  obtain ⟨sa, sc, ta, tc, na, nc, rfl, h1, h2, h3⟩ := h
  have hl := ht.len
  obtain ⟨i0, hi, hz0, hz1, hz2⟩ := info_parts infoC
  have BB := Lib.hid ((((((((Bag.start w).krow h1).krow h2).qrow h3).krow hs).krow ht).newRow (plC sa r sc true ta tn tc na 0 nc) 26).newRow plZer 26 |>.newRow (plC s1 r' c1 true none 0 0 none 0 0) 26)
  simp only [World.size_alloc] at BB
  have LN := Lib.hid (fun wz a b c => LN.out wz (plC sa r sc true ta tn tc na 0 nc) ⟨sa, sc, ta, tc, na, nc, rfl, a, b, c⟩)
  have eL : ((tn + 0 : Nat) : Int) = (tn : Int) := by omega
  rw [eL] at LN
  have hni := noInt_pl s1 r' c1 true none 0 0 none 0 0
  have hns := noStr_pl s1 r' c1 true none 0 0 none 0 0
  have K1 := BB.out.now.2.2.2.2.2.2.2.1
  have K2 := BB.out.now.2.2.2.2.2.2.1
  have K3 := BB.out.now.2.2.2.2.2.1
  have K4 := BB.out.now.2.2.2.2.1
  have K5 := BB.out.now.2.2.2.1
  have KEEP : Hid (∀ wr, Far (w.heap.size + 1 + 1) (((w.alloc (.cells (plC sa r sc true ta tn tc na 0 nc) 26)).alloc (.cells plZer 26)).alloc (.cells (plC s1 r' c1 true none 0 0 none 0 0) 26)) wr →
      KRow wr .i64 sa r sc S ∧ KRow wr .i32 ta tn tc g ∧ QRow wr na 0 nc fB fS fT ∧ KRow wr .i64 s1 r' c1 S' ∧ KRow wr .i64 t1 m d1 at' ∧ Row wr w.heap.size 26 (plC sa r sc true ta tn tc na 0 nc) ∧ Row wr (w.heap.size + 1) 26 plZer) := Lib.hid fun wr hf =>
    ⟨K1.away (K1.apart BB.out.now.1 hni) hf, K2.away (K2.apart BB.out.now.1 hni) hf, K3.away (K3.apart BB.out.now.1 hns) hf, K4.away (K4.apart BB.out.now.1 hni) hf, K5.away (K5.apart BB.out.now.1 hni) hf,
      (hf.block _ (by omega) BB.out.now.2.2.1.lt).trans BB.out.now.2.2.1, (hf.block _ (by omega) BB.out.now.2.1.lt).trans BB.out.now.2.1⟩
  have hsz := BB.out.now.1.lt
  unfold plZer plC at BB KEEP
  unfold plC at LN
  unfold plC
  clear h1 h2 h3 hs ht K1 K2 K3 K4 K5 eL hni hns
  go_enter Tryz.func51, Tryz.ntmps51
  go_wp2_with fail
  generalize ((w.alloc (.cells #[.slice sa r sc, .bool true, .slice ta tn tc, .slice na 0 nc] 26)).alloc (.cells #[.slice none 0 0, .bool false, .slice none 0 0, .slice none 0 0] 26)).alloc (.cells #[.slice s1 r' c1, .bool true, .slice none 0 0, .slice none 0 0] 26) = y0 at *
  go_loopw [8] (fun i wr => ∃ (k : Nat) (a1 : Option Addr) (ak : Nat), k ≤ m ∧ i = .int .i64 k ∧ Hid (Below w.heap.size w wr ∧ Far (w.heap.size + 1 + 1) y0 wr ∧ Row wr (w.heap.size + 1 + 1) 26 (plC s1 r' c1 true a1 k ak none 0 0) ∧ wr.ownsRow y0.heap.size 21 1 (.slice a1 k ak) k (kcs .i32 (fun j => elC tn g 32 (at' j)) k))) (fun i _ => m - (intOf i).toNat)
  case atStart => exact ⟨0, none, 0, by omega, rfl, BB.out.below, Far.refl _ _, BB.out.now.1, World.ownsRow_nil _ _ _ _⟩
  case round =>
    obtain ⟨k, a1, ak, hk, rfl, hrel⟩ := hrel
    obtain ⟨hbl, hfar, hrp, hown⟩ := hrel.out
    obtain ⟨k1, k2, k3, k4, k5, r0, r1⟩ := KEEP.out wr hfar
    by_cases hlt : k < m
    · obtain ⟨b, off, rfl, hb, hc⟩ := k5.get hlt
      have B1 := Lib.hid ((((((Bag.start wr).krow k1).krow k2).qrow k3).own hown).row hrp |>.row r0)
      have HBL := Lib.hid hbl
      have HF := Lib.hid hfar
      have q3 : wr.cell? ⟨w.heap.size + 1 + 1, 2, none⟩ = some (.slice a1 k ak) := hrp.cell 2
      have p0 : wr.cell? ⟨w.heap.size, 0, none⟩ = some (.slice sa r sc) := r0.cell 0
      have p1 : wr.cell? ⟨w.heap.size, 1, none⟩ = some (.bool true) := r0.cell 1
      have p2 : wr.cell? ⟨w.heap.size, 2, none⟩ = some (.slice ta tn tc) := r0.cell 2
      have p3 : wr.cell? ⟨w.heap.size, 3, none⟩ = some (.slice na 0 nc) := r0.cell 3
      have HMX := Lib.hid (show k + 1 ≤ maxLen by unfold maxLen; omega)
      have HMY := Lib.hid (show (k + 1) * 4 ≤ 140737488355328 by omega)
      have hk0 : (0 : Int) ≤ k := by omega
      have hk1 : (k : Int) < m := by omega
      have hk2 : (k : Int) ≤ m := by omega
      clear hbl hfar hrp hown k1 k2 k3 k4 k5 r0 r1
      by_cases hin : 0 ≤ at' k ∧ at' k < tn
      · obtain ⟨h0, h1⟩ := hin
        obtain ⟨q, hq⟩ : ∃ q : Nat, at' k = q := ⟨(at' k).toNat, by omega⟩
        have hqn : q < tn := by omega
        have HV := Lib.hid (show g q = elC tn g 32 (at' k) by unfold elC; rw [if_pos ⟨h0, h1⟩, hq]; rfl)
        obtain ⟨b2, off2, rfl, hbb2, hcc⟩ := B1.out.now.2.2.2.2.1.get hqn
        rw [hq] at hc h0 h1
        clear hq
        have hq0 : (q : Int) < tn := by omega
        generalize g q = y at *
        go_wp2_with fail
        go_at_call 50
        (with_reducible refine (LN.out _ B1.out.now.2.2.2.2.2.1 B1.out.now.2.2.2.2.1 B1.out.now.2.2.2.1).mono ?_)
        rintro e w2 ⟨rfl, hb2⟩
        have B2 := Lib.hid (B1.out.go hb2)
        have HB2 := Lib.hid hb2
        clear hb2 q3 p0 p1 p2 p3
        have q3 : w2.cell? ⟨w.heap.size + 1 + 1, 2, none⟩ = some (.slice a1 k ak) := B2.out.now.2.1.cell 2
        have p1 : w2.cell? ⟨w.heap.size, 1, none⟩ = some (.bool true) := B2.out.now.1.cell 1
        have p2 : w2.cell? ⟨w.heap.size, 2, none⟩ = some (.slice (some ⟨b2, off2, none⟩) tn tc) := B2.out.now.1.cell 2
        have p3 : w2.cell? ⟨w.heap.size, 3, none⟩ = some (.slice na 0 nc) := B2.out.now.1.cell 3
        have hcc2 : w2.cell? ⟨b2, off2 + q, none⟩ = some (.int .i32 y) := (HB2.out.cell (p := ⟨b2, _, none⟩) hbb2).trans hcc
        have HONE := Lib.hid (show ∀ u ∈ ([.int .i32 y] : List Value), u.oneCell' = true by intro u hu; simp at hu; subst hu; rfl)
        have B3 := Lib.hid ((B2.out.newRow #[.int .i32 y] 21).drew)
        have qp3 : (w2.alloc (.cells #[.int .i32 y] 21)).cell? ⟨w.heap.size + 1 + 1, 2, none⟩ = some (.slice a1 k ak) := B3.out.now.2.2.1.cell 2
        have HROW := Lib.hid B3.out.now.2.2.1
        have HOWN := Lib.hid B3.out.now.2.2.2.1
        have HNEW := Lib.hid (World.news_of_block B3.out.now.1)
        have HBA := Lib.hid (Nat.le_trans HF.out.size B3.out.below.size)
        have HNX := Lib.hid (pt_step HBL.out HF.out B3.out.below HROW.out HOWN.out (by decide) (by omega) BB.out.below.size)
        clear hcc
        go_wp2_with fail
        go_region_law (refine step_append_lies _ rfl (.tmp 39) (.tmp 45) 23 rfl y0.heap.size 21 i0 _ 1 4 Tryz.underlying23 hi hz0 hz1 hz2 rfl (by omega) (.slice a1 k ak) k _ rfl HOWN.out ⟨w2.heap.size, 0, none⟩ 1 1 [.int .i32 y] rfl rfl HNEW.out HONE.out (by omega) HMX.out HMY.out HBA.out _ rfl ?_; intro g9 cap9 w3 hown3 hgrow hor hlt3; have hr3 := HROW.out.grown hgrow (HROW.out.apart HOWN.out (by decide)); have qp : w3.cell? ⟨w.heap.size + 1 + 1, 2, none⟩ = some (.slice a1 k ak) := hr3.cell 2; have fp := hr3.free 2; have HN := Lib.hid (HNX.out g9 cap9 w3 _ HV.out hown3 hgrow); clear hown3 hgrow hor hlt3 hr3)
        all_goals
          go_wp2
          go_roundw
          case rel => exact ⟨k + 1, _, cap9, by omega, by go_num, HN.out⟩
          case measure => simp [intOf]; omega
      · have HV := Lib.hid (show (32 : Int) = elC tn g 32 (at' k) by unfold elC; rw [if_neg hin])
        obtain ⟨x, hx⟩ : ∃ x, at' k = x := ⟨_, rfl⟩
        rw [hx] at hc hin
        clear hx
        by_cases h0 : 0 ≤ x
        · have h1 : ¬ x < (tn : Int) := by omega
          clear hin
          go_wp2_with fail
          go_at_call 50
          (with_reducible refine (LN.out _ B1.out.now.2.2.2.2.2.1 B1.out.now.2.2.2.2.1 B1.out.now.2.2.2.1).mono ?_)
          rintro e w2 ⟨rfl, hb2⟩
          have B2 := Lib.hid (B1.out.go hb2)
          have HB2 := Lib.hid hb2
          clear hb2 q3 p0 p1 p2 p3
          have q3 : w2.cell? ⟨w.heap.size + 1 + 1, 2, none⟩ = some (.slice a1 k ak) := B2.out.now.2.1.cell 2
          have p1 : w2.cell? ⟨w.heap.size, 1, none⟩ = some (.bool true) := B2.out.now.1.cell 1
          have p2 : w2.cell? ⟨w.heap.size, 2, none⟩ = some (.slice ta tn tc) := B2.out.now.1.cell 2
          have p3 : w2.cell? ⟨w.heap.size, 3, none⟩ = some (.slice na 0 nc) := B2.out.now.1.cell 3
          have HONE := Lib.hid (show ∀ u ∈ ([.int .i32 32] : List Value), u.oneCell' = true by intro u hu; simp at hu; subst hu; rfl)
          have B3 := Lib.hid ((B2.out.newRow #[.int .i32 32] 21))
          have qp3 : (w2.alloc (.cells #[.int .i32 32] 21)).cell? ⟨w.heap.size + 1 + 1, 2, none⟩ = some (.slice a1 k ak) := B3.out.now.2.2.1.cell 2
          have HROW := Lib.hid B3.out.now.2.2.1
          have HOWN := Lib.hid B3.out.now.2.2.2.1
          have HNEW := Lib.hid (World.news_of_block B3.out.now.1)
          have HBA := Lib.hid (Nat.le_trans HF.out.size B3.out.below.size)
          have HNX := Lib.hid (pt_step HBL.out HF.out B3.out.below HROW.out HOWN.out (by decide) (by omega) BB.out.below.size)
          go_wp2_with (at_builtin; refine wpList_append_lies _ rfl (.tmp 51) (.tmp 52) 23 rfl y0.heap.size 21 i0 _ 1 4 Tryz.underlying23 hi hz0 hz1 hz2 rfl (by omega) (.slice a1 k ak) k _ rfl HOWN.out ⟨w2.heap.size, 0, none⟩ 1 1 [.int .i32 32] rfl rfl HNEW.out HONE.out (by omega) HMX.out HMY.out HBA.out _ rfl ?_)
          intro g9 cap9 w3 hown3 hgrow hor hlt3
          have hr3 := HROW.out.grown hgrow (HROW.out.apart HOWN.out (by decide)); have qp : w3.cell? ⟨w.heap.size + 1 + 1, 2, none⟩ = some (.slice a1 k ak) := hr3.cell 2; have fp := hr3.free 2; have HN := Lib.hid (HNX.out g9 cap9 w3 _ HV.out hown3 hgrow); clear hown3 hgrow hor hlt3 hr3
          go_wp2
          go_roundw
          case rel => exact ⟨k + 1, _, cap9, by omega, by go_num, HN.out⟩
          case measure => simp [intOf]; omega
        · clear hin
          have HONE := Lib.hid (show ∀ u ∈ ([.int .i32 32] : List Value), u.oneCell' = true by intro u hu; simp at hu; subst hu; rfl)
          have B3 := Lib.hid ((B1.out.newRow #[.int .i32 32] 21))
          have qp3 : (wr.alloc (.cells #[.int .i32 32] 21)).cell? ⟨w.heap.size + 1 + 1, 2, none⟩ = some (.slice a1 k ak) := B3.out.now.2.2.1.cell 2
          have HROW := Lib.hid B3.out.now.2.2.1
          have HOWN := Lib.hid B3.out.now.2.2.2.1
          have HNEW := Lib.hid (World.news_of_block B3.out.now.1)
          have HBA := Lib.hid (Nat.le_trans HF.out.size B3.out.below.size)
          have HNX := Lib.hid (pt_step HBL.out HF.out B3.out.below HROW.out HOWN.out (by decide) (by omega) BB.out.below.size)
          go_wp2_with (at_builtin; refine wpList_append_lies _ rfl (.tmp 51) (.tmp 52) 23 rfl y0.heap.size 21 i0 _ 1 4 Tryz.underlying23 hi hz0 hz1 hz2 rfl (by omega) (.slice a1 k ak) k _ rfl HOWN.out ⟨wr.heap.size, 0, none⟩ 1 1 [.int .i32 32] rfl rfl HNEW.out HONE.out (by omega) HMX.out HMY.out HBA.out _ rfl ?_)
          intro g9 cap9 w3 hown3 hgrow hor hlt3
          have hr3 := HROW.out.grown hgrow (HROW.out.apart HOWN.out (by decide)); have qp : w3.cell? ⟨w.heap.size + 1 + 1, 2, none⟩ = some (.slice a1 k ak) := hr3.cell 2; have fp := hr3.free 2; have HN := Lib.hid (HNX.out g9 cap9 w3 _ HV.out hown3 hgrow); clear hown3 hgrow hor hlt3 hr3
          go_wp2
          go_roundw
          case rel => exact ⟨k + 1, _, cap9, by omega, by go_num, HN.out⟩
          case measure => simp [intOf]; omega
    · obtain rfl : k = m := by omega
      obtain ⟨a9, c9, he, hq⟩ := KRow.of_own hown
      injection he with he1 _ he2
      subst he1 he2
      have HE : Hid (∀ fB' fS' fT', PlnTold S' r' true (fun j => elC tn g 32 (at' j)) k fB' fS' fT' 0 w (wr.setRow (w.heap.size + 1) (plC s1 r' c1 true a1 k ak none 0 0)) (.returned (.agg (plC s1 r' c1 true a1 k ak none 0 0)))) :=
        Lib.hid fun fB' fS' fT' => ans_pln ⟨_, _, _, _, _, _, rfl, k4, hq, QRow.nought _ _ _ (Nat.zero_le _) _ _ _⟩ hbl r1 (Nat.le_succ _)
      have HR0 := Lib.hid r1
      have HRP := Lib.hid hrp
      clear hbl hfar hrp hown k1 k2 k3 k4 k5 r0 r1 hq
      go_wp2_with (first
        | (refine ld_pln rfl (.tmp 7) rfl (w.heap.size + 1 + 1) rfl HRP.out ?_)
        | (refine st_pln rfl (.tmp 6) (.tmp 72) rfl (w.heap.size + 1) rfl _ _ _ _ _ _ _ _ _ _ rfl HR0.out rfl ?_))
      exact bodyPost_ret (res_pln Tryz.results51 rfl (HR0.out.put _) rfl) rfl HE.out
set_option linter.unusedSimpArgs false in
set_option maxHeartbeats 6400000 in
set_option maxRecDepth 100000 in
theorem r6PickN_any (cs : Array Value) (S : Nat → Int) (r : Nat) (g : Nat → Int) (nn : Nat) (fB : Nat → Bool) (fS fT : Nat → ByteArray) (s1 : Option Addr) (r' c1 : Nat) (S' : Nat → Int) (t1 : Option Addr) (m d1 : Nat) (at' : Nat → Int) (w : World) (h : PlnAt w cs S r false g 0 fB fS fT nn) (hs : KRow w .i64 s1 r' c1 S') (ht : KRow w .i64 t1 m d1 at') (hm : m ≤ 1000000) (hL : nn ≤ 1000000) :
    Calls Tryz.prog 51 #[.agg cs, .slice s1 r' c1, .slice t1 m d1] w fun e w' => ∀ g', PlnTold S' r' false g' 0 (fun j => elB nn fB (at' j)) (fun j => elS nn fS (rS 0) (at' j)) (fun j => elS nn fT (str (dec 1)) (at' j)) m w w' e := by
  have LN := Lib.hid (fun wz cs p => r6Len_any cs S r false g 0 fB fS fT nn wz p (by omega) (by omega))
  obtain ⟨sa, sc, ta, tc, na, nc, rfl, h1, h2, h3⟩ := h
  have hl := ht.len
  obtain ⟨i0, hi, hz0, hz1, hz2⟩ := info_parts infoN
  have BB := Lib.hid ((((((((Bag.start w).krow h1).krow h2).qrow h3).krow hs).krow ht).newRow (plC sa r sc false ta 0 tc na nn nc) 26).newRow plZer 26 |>.newRow (plC s1 r' c1 false none 0 0 none 0 0) 26)
  simp only [World.size_alloc] at BB
  have LN := Lib.hid (fun wz a b c => LN.out wz (plC sa r sc false ta 0 tc na nn nc) ⟨sa, sc, ta, tc, na, nc, rfl, a, b, c⟩)
  have eL : ((0 + nn : Nat) : Int) = (nn : Int) := by omega
  rw [eL] at LN
  have hni := noInt_pl s1 r' c1 false none 0 0 none 0 0
  have hns := noStr_pl s1 r' c1 false none 0 0 none 0 0
  have K1 := BB.out.now.2.2.2.2.2.2.2.1
  have K2 := BB.out.now.2.2.2.2.2.2.1
  have K3 := BB.out.now.2.2.2.2.2.1
  have K4 := BB.out.now.2.2.2.2.1
  have K5 := BB.out.now.2.2.2.1
  have KEEP : Hid (∀ wr, Far (w.heap.size + 1 + 1) (((w.alloc (.cells (plC sa r sc false ta 0 tc na nn nc) 26)).alloc (.cells plZer 26)).alloc (.cells (plC s1 r' c1 false none 0 0 none 0 0) 26)) wr →
      KRow wr .i64 sa r sc S ∧ KRow wr .i32 ta 0 tc g ∧ QRow wr na nn nc fB fS fT ∧ KRow wr .i64 s1 r' c1 S' ∧ KRow wr .i64 t1 m d1 at' ∧ Row wr w.heap.size 26 (plC sa r sc false ta 0 tc na nn nc) ∧ Row wr (w.heap.size + 1) 26 plZer) := Lib.hid fun wr hf =>
    ⟨K1.away (K1.apart BB.out.now.1 hni) hf, K2.away (K2.apart BB.out.now.1 hni) hf, K3.away (K3.apart BB.out.now.1 hns) hf, K4.away (K4.apart BB.out.now.1 hni) hf, K5.away (K5.apart BB.out.now.1 hni) hf,
      (hf.block _ (by omega) BB.out.now.2.2.1.lt).trans BB.out.now.2.2.1, (hf.block _ (by omega) BB.out.now.2.1.lt).trans BB.out.now.2.1⟩
  have hsz := BB.out.now.1.lt
  unfold plZer plC at BB KEEP
  unfold plC at LN
  unfold plC
  clear h1 h2 h3 hs ht K1 K2 K3 K4 K5 eL hni hns
  go_enter Tryz.func51, Tryz.ntmps51
  go_wp2_with fail
  generalize ((w.alloc (.cells #[.slice sa r sc, .bool false, .slice ta 0 tc, .slice na nn nc] 26)).alloc (.cells #[.slice none 0 0, .bool false, .slice none 0 0, .slice none 0 0] 26)).alloc (.cells #[.slice s1 r' c1, .bool false, .slice none 0 0, .slice none 0 0] 26) = y0 at *
  go_loopw [8] (fun i wr => ∃ (k : Nat) (a1 : Option Addr) (ak : Nat), k ≤ m ∧ i = .int .i64 k ∧ Hid (Below w.heap.size w wr ∧ Far (w.heap.size + 1 + 1) y0 wr ∧ Row wr (w.heap.size + 1 + 1) 26 (plC s1 r' c1 false none 0 0 a1 k ak) ∧ wr.ownsRow y0.heap.size 65 3 (.slice a1 k ak) k (qcs (fun j => elB nn fB (at' j)) (fun j => elS nn fS (rS 0) (at' j)) (fun j => elS nn fT (str (dec 1)) (at' j)) k))) (fun i _ => m - (intOf i).toNat)
  case atStart => exact ⟨0, none, 0, by omega, rfl, BB.out.below, Far.refl _ _, BB.out.now.1, World.ownsRow_nil _ _ _ _⟩
  case round =>
    obtain ⟨k, a1, ak, hk, rfl, hrel⟩ := hrel
    obtain ⟨hbl, hfar, hrp, hown⟩ := hrel.out
    obtain ⟨k1, k2, k3, k4, k5, r0, r1⟩ := KEEP.out wr hfar
    by_cases hlt : k < m
    · obtain ⟨b, off, rfl, hb, hc⟩ := k5.get hlt
      have B1 := Lib.hid ((((((Bag.start wr).krow k1).krow k2).qrow k3).own hown).row hrp |>.row r0)
      have HBL := Lib.hid hbl
      have HF := Lib.hid hfar
      have q3 : wr.cell? ⟨w.heap.size + 1 + 1, 3, none⟩ = some (.slice a1 k ak) := hrp.cell 3
      have p0 : wr.cell? ⟨w.heap.size, 0, none⟩ = some (.slice sa r sc) := r0.cell 0
      have p1 : wr.cell? ⟨w.heap.size, 1, none⟩ = some (.bool false) := r0.cell 1
      have p2 : wr.cell? ⟨w.heap.size, 2, none⟩ = some (.slice ta 0 tc) := r0.cell 2
      have p3 : wr.cell? ⟨w.heap.size, 3, none⟩ = some (.slice na nn nc) := r0.cell 3
      have HMX := Lib.hid (show k + 1 ≤ maxLen by unfold maxLen; omega)
      have HMY := Lib.hid (show (k + 1) * 40 ≤ 140737488355328 by omega)
      have hk0 : (0 : Int) ≤ k := by omega
      have hk1 : (k : Int) < m := by omega
      have hk2 : (k : Int) ≤ m := by omega
      clear hbl hfar hrp hown k1 k2 k3 k4 k5 r0 r1
      by_cases hin : 0 ≤ at' k ∧ at' k < nn
      · obtain ⟨h0, h1⟩ := hin
        obtain ⟨q, hq⟩ : ∃ q : Nat, at' k = q := ⟨(at' k).toNat, by omega⟩
        have hqn : q < nn := by omega
        have HV := Lib.hid (show fB q = elB nn fB (at' k) ∧ fS q = elS nn fS (rS 0) (at' k) ∧ fT q = elS nn fT (str (dec 1)) (at' k) by unfold elB elS; rw [if_pos ⟨h0, h1⟩, if_pos ⟨h0, h1⟩, if_pos ⟨h0, h1⟩, hq]; exact ⟨rfl, rfl, rfl⟩)
        obtain ⟨b2, off2, rfl, hbb2, hcc, hcd, hce⟩ := B1.out.now.2.2.2.1.get hqn
        rw [hq] at hc h0 h1
        clear hq
        have hq0 : (q : Int) < nn := by omega
        generalize fB q = y1 at *
        generalize fS q = y2 at *
        generalize fT q = y3 at *
        go_wp2_with fail
        go_at_call 50
        (with_reducible refine (LN.out _ B1.out.now.2.2.2.2.2.1 B1.out.now.2.2.2.2.1 B1.out.now.2.2.2.1).mono ?_)
        rintro e w2 ⟨rfl, hb2⟩
        have B2 := Lib.hid (B1.out.go hb2)
        have HB2 := Lib.hid hb2
        clear hb2 q3 p0 p1 p2 p3
        have q3 : w2.cell? ⟨w.heap.size + 1 + 1, 3, none⟩ = some (.slice a1 k ak) := B2.out.now.2.1.cell 3
        have p1 : w2.cell? ⟨w.heap.size, 1, none⟩ = some (.bool false) := B2.out.now.1.cell 1
        have p2 : w2.cell? ⟨w.heap.size, 2, none⟩ = some (.slice ta 0 tc) := B2.out.now.1.cell 2
        have p3 : w2.cell? ⟨w.heap.size, 3, none⟩ = some (.slice (some ⟨b2, off2, none⟩) nn nc) := B2.out.now.1.cell 3
        have hcc2 : w2.cell? ⟨b2, off2 + q * 3, none⟩ = some (.bool y1) := (HB2.out.cell (p := ⟨b2, _, none⟩) hbb2).trans hcc
        have hcd2 : w2.cell? ⟨b2, off2 + q * 3 + 1, none⟩ = some (.string y2) := (HB2.out.cell (p := ⟨b2, _, none⟩) hbb2).trans hcd
        have hce2 : w2.cell? ⟨b2, off2 + q * 3 + 2, none⟩ = some (.string y3) := (HB2.out.cell (p := ⟨b2, _, none⟩) hbb2).trans hce
        have HONE := Lib.hid (show ∀ u ∈ ([.bool y1, .string y2, .string y3] : List Value), u.oneCell' = true by intro u hu; simp at hu; rcases hu with rfl | rfl | rfl <;> rfl)
        have B3 := Lib.hid ((B2.out.newRow #[.bool y1, .string y2, .string y3] 65).drew)
        have qp3 : (w2.alloc (.cells #[.bool y1, .string y2, .string y3] 65)).cell? ⟨w.heap.size + 1 + 1, 3, none⟩ = some (.slice a1 k ak) := B3.out.now.2.2.1.cell 3
        have HROW := Lib.hid B3.out.now.2.2.1
        have HOWN := Lib.hid B3.out.now.2.2.2.1
        have HNEW := Lib.hid (World.news_of_block B3.out.now.1)
        have HBA := Lib.hid (Nat.le_trans HF.out.size B3.out.below.size)
        have HNX := Lib.hid (pl_step HBL.out HF.out B3.out.below HROW.out HOWN.out (by decide) (by omega) BB.out.below.size)
        clear hcc hcd hce
        go_wp2_with fail
        go_region_law (refine step_append_lies _ rfl (.tmp 57) (.tmp 63) 24 rfl y0.heap.size 65 i0 _ 3 40 Tryz.underlying24 hi hz0 hz1 hz2 rfl (by omega) (.slice a1 k ak) k _ rfl HOWN.out ⟨w2.heap.size, 0, none⟩ 1 1 [.bool y1, .string y2, .string y3] rfl rfl HNEW.out HONE.out (by omega) HMX.out HMY.out HBA.out _ rfl ?_; intro g9 cap9 w3 hown3 hgrow hor hlt3; have hr3 := HROW.out.grown hgrow (HROW.out.apart HOWN.out (by decide)); have qp : w3.cell? ⟨w.heap.size + 1 + 1, 3, none⟩ = some (.slice a1 k ak) := hr3.cell 3; have fp := hr3.free 3; have HN := Lib.hid (HNX.out g9 cap9 w3 (by rw [← HV.out.1, ← HV.out.2.1, ← HV.out.2.2]; exact hown3) hgrow); clear hown3 hgrow hor hlt3 hr3)
        all_goals
          go_wp2
          go_roundw
          case rel => exact ⟨k + 1, _, cap9, by omega, by go_num, HN.out⟩
          case measure => simp [intOf]; omega
      · have HV := Lib.hid (show rB 0 = elB nn fB (at' k) ∧ rS 0 = elS nn fS (rS 0) (at' k) ∧ str (dec 1) = elS nn fT (str (dec 1)) (at' k) by unfold elB elS; rw [if_neg hin, if_neg hin, if_neg hin]; exact ⟨rfl, rfl, rfl⟩)
        obtain ⟨z1, hz1'⟩ : ∃ z, elB nn fB (at' k) = z := ⟨_, rfl⟩
        obtain ⟨z2, hz2'⟩ : ∃ z, elS nn fS (rS 0) (at' k) = z := ⟨_, rfl⟩
        obtain ⟨z3, hz3'⟩ : ∃ z, elS nn fT (str (dec 1)) (at' k) = z := ⟨_, rfl⟩
        have ZR := Lib.hid (fun wz => r3Zero_any wz)
        unfold NumTold at ZR
        rw [HV.out.1, HV.out.2.1, HV.out.2.2, hz1', hz2', hz3'] at ZR
        have HV := Lib.hid (And.intro hz1'.symm (And.intro hz2'.symm hz3'.symm))
        clear hz1' hz2' hz3'
        obtain ⟨x, hx⟩ : ∃ x, at' k = x := ⟨_, rfl⟩
        rw [hx] at hc hin
        clear hx
        by_cases h0 : 0 ≤ x
        · have h1 : ¬ x < (nn : Int) := by omega
          clear hin
          go_wp2_with fail
          go_at_call 50
          (with_reducible refine (LN.out _ B1.out.now.2.2.2.2.2.1 B1.out.now.2.2.2.2.1 B1.out.now.2.2.2.1).mono ?_)
          rintro e w2 ⟨rfl, hb2⟩
          have B2 := Lib.hid (B1.out.go hb2)
          have HB2 := Lib.hid hb2
          clear hb2 q3 p0 p1 p2 p3
          have q3 : w2.cell? ⟨w.heap.size + 1 + 1, 3, none⟩ = some (.slice a1 k ak) := B2.out.now.2.1.cell 3
          have p1 : w2.cell? ⟨w.heap.size, 1, none⟩ = some (.bool false) := B2.out.now.1.cell 1
          have p2 : w2.cell? ⟨w.heap.size, 2, none⟩ = some (.slice ta 0 tc) := B2.out.now.1.cell 2
          have p3 : w2.cell? ⟨w.heap.size, 3, none⟩ = some (.slice na nn nc) := B2.out.now.1.cell 3
          have HONE := Lib.hid (show ∀ u ∈ ([.bool z1, .string z2, .string z3] : List Value), u.oneCell' = true by intro u hu; simp at hu; rcases hu with rfl | rfl | rfl <;> rfl)
          go_wp2_with fail
          go_region_law (first
            | (go_simp; go_at_call 89; (with_reducible refine (ZR.out _).mono ?_); rintro e w4 ⟨rfl, hb4⟩;
                have B4 := Lib.hid (B2.out.drew.go hb4);
                have q4 : w4.cell? ⟨w.heap.size + 1 + 1, 3, none⟩ = some (.slice a1 k ak) := B4.out.now.2.1.cell 3;
                have B3 := Lib.hid (B4.out.newRow #[.bool z1, .string z2, .string z3] 65);
                have qp3 : (w4.alloc (.cells #[.bool z1, .string z2, .string z3] 65)).cell? ⟨w.heap.size + 1 + 1, 3, none⟩ = some (.slice a1 k ak) := B3.out.now.2.2.1.cell 3;
                have HROW := Lib.hid B3.out.now.2.2.1;
                have HOWN := Lib.hid B3.out.now.2.2.2.1;
                have HNEW := Lib.hid (World.news_of_block B3.out.now.1);
                have HBA := Lib.hid (Nat.le_trans HF.out.size B3.out.below.size);
                have HNX := Lib.hid (pl_step HBL.out HF.out B3.out.below HROW.out HOWN.out (by decide) (by omega) BB.out.below.size);
                clear hb4)
            | (refine step_append_lies _ rfl (.tmp 67) (.tmp 69) 24 rfl y0.heap.size 65 i0 _ 3 40 Tryz.underlying24 hi hz0 hz1 hz2 rfl (by omega) (.slice a1 k ak) k _ rfl HOWN.out ⟨w4.heap.size, 0, none⟩ 1 1 [.bool z1, .string z2, .string z3] rfl rfl HNEW.out HONE.out (by omega) HMX.out HMY.out HBA.out _ rfl ?_; intro g9 cap9 w3 hown3 hgrow hor hlt3; have hr3 := HROW.out.grown hgrow (HROW.out.apart HOWN.out (by decide)); have qp : w3.cell? ⟨w.heap.size + 1 + 1, 3, none⟩ = some (.slice a1 k ak) := hr3.cell 3; have fp := hr3.free 3; have HN := Lib.hid (HNX.out g9 cap9 w3 (by rw [← HV.out.1, ← HV.out.2.1, ← HV.out.2.2]; exact hown3) hgrow); clear hown3 hgrow hor hlt3 hr3))
          all_goals
            go_wp2
            go_roundw
            case rel => exact ⟨k + 1, _, cap9, by omega, by go_num, HN.out⟩
            case measure => simp [intOf]; omega
        · clear hin
          have HONE := Lib.hid (show ∀ u ∈ ([.bool z1, .string z2, .string z3] : List Value), u.oneCell' = true by intro u hu; simp at hu; rcases hu with rfl | rfl | rfl <;> rfl)
          go_wp2_with fail
          go_region_law (first
            | (go_simp; go_at_call 89; (with_reducible refine (ZR.out _).mono ?_); rintro e w4 ⟨rfl, hb4⟩;
                have B4 := Lib.hid (B1.out.drew.go hb4);
                have q4 : w4.cell? ⟨w.heap.size + 1 + 1, 3, none⟩ = some (.slice a1 k ak) := B4.out.now.2.1.cell 3;
                have B3 := Lib.hid (B4.out.newRow #[.bool z1, .string z2, .string z3] 65);
                have qp3 : (w4.alloc (.cells #[.bool z1, .string z2, .string z3] 65)).cell? ⟨w.heap.size + 1 + 1, 3, none⟩ = some (.slice a1 k ak) := B3.out.now.2.2.1.cell 3;
                have HROW := Lib.hid B3.out.now.2.2.1;
                have HOWN := Lib.hid B3.out.now.2.2.2.1;
                have HNEW := Lib.hid (World.news_of_block B3.out.now.1);
                have HBA := Lib.hid (Nat.le_trans HF.out.size B3.out.below.size);
                have HNX := Lib.hid (pl_step HBL.out HF.out B3.out.below HROW.out HOWN.out (by decide) (by omega) BB.out.below.size);
                clear hb4)
            | (refine step_append_lies _ rfl (.tmp 67) (.tmp 69) 24 rfl y0.heap.size 65 i0 _ 3 40 Tryz.underlying24 hi hz0 hz1 hz2 rfl (by omega) (.slice a1 k ak) k _ rfl HOWN.out ⟨w4.heap.size, 0, none⟩ 1 1 [.bool z1, .string z2, .string z3] rfl rfl HNEW.out HONE.out (by omega) HMX.out HMY.out HBA.out _ rfl ?_; intro g9 cap9 w3 hown3 hgrow hor hlt3; have hr3 := HROW.out.grown hgrow (HROW.out.apart HOWN.out (by decide)); have qp : w3.cell? ⟨w.heap.size + 1 + 1, 3, none⟩ = some (.slice a1 k ak) := hr3.cell 3; have fp := hr3.free 3; have HN := Lib.hid (HNX.out g9 cap9 w3 (by rw [← HV.out.1, ← HV.out.2.1, ← HV.out.2.2]; exact hown3) hgrow); clear hown3 hgrow hor hlt3 hr3))
          all_goals
            go_wp2
            go_roundw
            case rel => exact ⟨k + 1, _, cap9, by omega, by go_num, HN.out⟩
            case measure => simp [intOf]; omega
    · obtain rfl : k = m := by omega
      obtain ⟨a9, c9, he, hq⟩ := QRow.of_own hown
      injection he with he1 _ he2
      subst he1 he2
      have HE : Hid (∀ g', PlnTold S' r' false g' 0 (fun j => elB nn fB (at' j)) (fun j => elS nn fS (rS 0) (at' j)) (fun j => elS nn fT (str (dec 1)) (at' j)) k w (wr.setRow (w.heap.size + 1) (plC s1 r' c1 false none 0 0 a1 k ak)) (.returned (.agg (plC s1 r' c1 false none 0 0 a1 k ak)))) :=
        Lib.hid fun g' => ans_pln ⟨_, _, _, _, _, _, rfl, k4, KRow.nought _ _ _ _ (Nat.zero_le _) _, hq⟩ hbl r1 (Nat.le_succ _)
      have HR0 := Lib.hid r1
      have HRP := Lib.hid hrp
      clear hbl hfar hrp hown k1 k2 k3 k4 k5 r0 r1 hq
      go_wp2_with (first
        | (refine ld_pln rfl (.tmp 7) rfl (w.heap.size + 1 + 1) rfl HRP.out ?_)
        | (refine st_pln rfl (.tmp 6) (.tmp 72) rfl (w.heap.size + 1) rfl _ _ _ _ _ _ _ _ _ _ rfl HR0.out rfl ?_))
      exact bodyPost_ret (res_pln Tryz.results51 rfl (HR0.out.put _) rfl) rfl HE.out
theorem el_same {fB : Nat → Bool} {fS fT : Nat → ByteArray} {fP : Nat → Int} {fQ : Nat → Nat} {n : Nat} (h : NumOk fB fS fT fP fQ n) (i : Int) : elB n fB i = rB (elP n fP i) ∧ elS n fS (rS 0) i = rS (elP n fP i) ∧ elS n fT (str (dec 1)) i = str (dec (elQ n fQ i)) := by
  unfold elB elS elP elQ
  by_cases hi : 0 ≤ i ∧ i < n
  · rw [if_pos hi, if_pos hi, if_pos hi, if_pos hi, if_pos hi]
    obtain ⟨e1, e2, e3, _⟩ := h i.toNat (by omega)
    exact ⟨e1, e2, e3⟩
  · rw [if_neg hi, if_neg hi, if_neg hi, if_neg hi, if_neg hi]
    exact ⟨rfl, rfl, rfl⟩
end Go.Proofs.YtkljpofljkgkdaaGreatDoor

namespace Go.Proofs.YtkljpofljkgkdaaGreatDoor
open Go.RowKit
theorem el_cmp {fP : Nat → Int} {fQ : Nat → Nat} {n : Nat} (h : CmpOk 7 fP fQ n) (at' : Nat → Int) (m : Nat) : CmpOk 7 (fun j => elP n fP (at' j)) (fun j => elQ n fQ (at' j)) m := by
  intro j _
  show 0 < elQ n fQ (at' j) ∧ (elP n fP (at' j)).natAbs < _ ∧ elQ n fQ (at' j) < _
  unfold elP elQ
  by_cases hi : 0 ≤ at' j ∧ at' j < n
  · rw [if_pos hi, if_pos hi]
    exact h (at' j).toNat (by omega)
  · rw [if_neg hi, if_neg hi]
    exact ⟨Nat.one_pos, by decide, by decide⟩
end Go.Proofs.YtkljpofljkgkdaaGreatDoor

namespace Go.Proofs.YtkljpofljkgkdaaGreatDoor
open Go.RowKit
theorem rpick8_any (cs : Array Value) (S : Nat → Int) (r : Nat) (ch : Bool) (L : Nat) (g : Nat → Int) (fB : Nat → Bool) (fS fT : Nat → ByteArray) (s1 : Option Addr) (r' c1 : Nat) (T : Nat → Int) (t1 : Option Addr) (m d1 : Nat) (G : Nat → Int) (w : World) (h : Pln w cs S r ch L g fB fS fT) (hs : KRow w .i64 s1 r' c1 T) (ht : KRow w .i64 t1 m d1 G) (hm : m ≤ 1000000) (hL : L ≤ 1000000) :
    Calls Tryz.prog 51 #[.agg cs, .slice s1 r' c1, .slice t1 m d1] w fun e w' => ∃ cs', e = .returned (.agg cs') ∧ Pln w' cs' T r' ch m (fun j => elC L g 32 (G j)) (fun j => elB L fB (G j)) (fun j => elS L fS (rS 0) (G j)) (fun j => elS L fT (str (dec 1)) (G j)) ∧ Below w.heap.size w w' := by
  cases ch with
  | true =>
    refine (r6PickC_any cs S r g L fB fS fT s1 r' c1 T t1 m d1 G w h hs ht hm hL).mono ?_
    intro e w' hq
    exact hq _ _ _
  | false =>
    refine (r6PickN_any cs S r g L fB fS fT s1 r' c1 T t1 m d1 G w h hs ht hm hL).mono ?_
    intro e w' hq
    exact hq _
end Go.Proofs.YtkljpofljkgkdaaGreatDoor

namespace Go.Proofs.YtkljpofljkgkdaaGreatDoor
open Go.RowKit
theorem inB_no {f g : Nat → Int} {n j : Nat} (hj : j < n) (h : ¬ (0 ≤ g j ∧ g j < f j)) : inB f g n = false := by
  cases hx : inB f g n with
  | false => rfl
  | true => exact absurd (inB_at hx hj) h
theorem plc_bd {f g : Nat → Int} : ∀ {k : Nat}, axB f k = true → inB f g k = true → 0 ≤ plc f g k ∧ plc f g k < itm f k := by
  intro k
  induction k with
  | zero => intro _ _; exact ⟨Int.le_refl _, by show (0 : Int) < 1; omega⟩
  | succ k ih =>
    intro h1 h2
    have h3 := inB_at h2 (show k < k + 1 by omega)
    obtain ⟨i1, i2⟩ := ih (ax_le (by omega) h1) (inB_le (by omega) h2)
    have h4 : (plc f g k + 1) * f k ≤ itm f k * f k := Int.mul_le_mul_of_nonneg_right (by omega) (by omega)
    have h5 : 0 ≤ plc f g k * f k := Int.mul_nonneg i1 (by omega)
    rw [Int.add_mul, Int.one_mul] at h4
    show 0 ≤ plc f g k * f k + g k ∧ plc f g k * f k + g k < itm f k * f k
    omega
end Go.Proofs.YtkljpofljkgkdaaGreatDoor

namespace Go.Proofs.YtkljpofljkgkdaaGreatDoor
open Go.RowKit
/-- A row of integers, nil or not, appended to a row that the call owns. -/
theorem run_append_krow {w : World} (ty : TypeId) (base : Nat) (v : Value) (n : Nat) (xs : List Value) (hown : w.ownsRow base 3 1 v n xs) (a : Option Addr) (m c : Nat) (f : Nat → Int) (h : KRow w .i64 a m c f) (hn : a = none → c = 0) (h1 : n + m ≤ 1000000) (hbase : base ≤ w.heap.size) :
    ∃ v' w', (Builtin.append_ #[22, 22] ty #[v, .slice a m c]).run Tryz.prog w = .ok v' w' ∧ w'.ownsRow base 3 1 v' (n + m) (xs ++ kcs .i64 f m) ∧ w.grownBy w' v.ownBlock := by
  obtain ⟨i0, hi, hz0, hz1, hz2⟩ := info_parts infoI
  cases a with
  | none =>
    have hc := hn rfl
    subst hc
    have hm : m = 0 := by have := h.1; omega
    subst hm
    refine ⟨v, w, run_append_owned_none w base _ ty _ i0 1 Tryz.underlying22 hi v n xs hown, ?_, ⟨rfl, rfl, rfl, Nat.le_refl _, fun _ _ _ => rfl⟩⟩
    rw [show kcs .i64 f 0 = [] from rfl, List.append_nil]
    exact hown
  | some ad =>
    obtain ⟨b9, off9, sp⟩ := ad
    have hnews : ∀ i u, (kcs .i64 f m)[i]? = some u → w.cell? ((⟨b9, off9, sp⟩ : Addr).add i) = some u := by
      rcases h.2.2 with h0 | ⟨_, _, e, _⟩
      · rw [h0]; intro i u hu; simp [kcs] at hu
      · cases e; exact krow_news h
    obtain ⟨v', w', e1, e2, e3, _⟩ := run_append_own (P := Tryz.prog) w base 22 ty 3 i0 _ 1 8 Tryz.underlying22 hi hz0 hz1 hz2 rfl (by omega) v n xs hown ⟨b9, off9, sp⟩ m c (kcs .i64 f m) (by rw [kcs_length, Nat.mul_one]) hnews (kcs_one .i64 f m) (by unfold maxLen; omega) (by omega) hbase
    exact ⟨v', w', e1, e2, e3⟩
end Go.Proofs.YtkljpofljkgkdaaGreatDoor

namespace Go.Proofs.YtkljpofljkgkdaaGreatDoor
open Go.RowKit
def RPlTold (f : Nat → Int) (n : Nat) (g : Nat → Int) (m : Nat) (w w' : World) (e : Ending) : Prop :=
  ∃ x, e = .returned (.int .i64 x) ∧ (inB f g (min n m) = false → x = -1) ∧ (axB f (min n m) = true → inB f g (min n m) = true → x = plc f g (min n m)) ∧ Below w.heap.size w w'
set_option maxHeartbeats 1600000 in
set_option maxRecDepth 100000 in
theorem r6Place_any (a : Option Addr) (n c : Nat) (f : Nat → Int) (a2 : Option Addr) (m c2 : Nat) (g : Nat → Int) (w : World) (h : KRow w .i64 a n c f) (h2 : KRow w .i64 a2 m c2 g) :
    Calls Tryz.prog 56 #[.slice a n c, .slice a2 m c2] w fun e w' => RPlTold f n g m w w' e := by
  have hl := h.len
  have hl2 := h2.len
  have H1 := Lib.hid h
  have H2 := Lib.hid h2
  clear h h2
  obtain ⟨mn, hmn⟩ : ∃ q, min n m = q := ⟨_, rfl⟩
  have hm1 : mn ≤ n := by omega
  have hm2 : mn ≤ m := by omega
  unfold RPlTold
  rw [hmn]
  go_enter Tryz.func56, Tryz.ntmps56
  go_wp2
  go_loopw [5, 6] (fun t i wr => ∃ (k : Nat) (x : Int), k ≤ mn ∧ i = .int .i64 k ∧ t = .int .i64 x ∧ Hid (inB f g k = true ∧ (axB f k = true → x = plc f g k) ∧ Below w.heap.size w wr)) (fun _ i _ => mn - (intOf i).toNat)
  case atStart => exact ⟨0, 0, by omega, rfl, rfl, rfl, fun _ => rfl, Below.refl _ _⟩
  case round =>
    obtain ⟨k, x, hk, rfl, rfl, hrel⟩ := hrel
    obtain ⟨hin, hpl, hbl⟩ := hrel.out
    by_cases hlt : k < mn
    · obtain ⟨b, off, rfl, hb, hc⟩ := (H1.out.below hbl).get (show k < n by omega)
      obtain ⟨b2, off2, rfl, hb2, hc2⟩ := (H2.out.below hbl).get (show k < m by omega)
      have HBL := Lib.hid hbl
      have hk0 : (0 : Int) ≤ k := by omega
      have hk1 : (k : Int) < n := by omega
      have hk2 : (k : Int) < m := by omega
      by_cases h0 : g k < 0
      · have HN := Lib.hid (inB_no (f := f) (g := g) hlt (by omega))
        clear hbl hin hpl hrel hmn
        generalize g k = y at *
        generalize f k = x' at *
        go_wp2_with fail
        go_quiet (fail)
        have HBE := Lib.hid (below_drewN HBL.out nq)
        go_wp2
        go_ret
        exact ⟨-1, rfl, fun _ => rfl, (fun _ h => by rw [HN.out] at h; cases h), HBE.out⟩
      · by_cases h1 : f k ≤ g k
        · have HN := Lib.hid (inB_no (f := f) (g := g) hlt (by omega))
          clear hbl hin hpl hrel hmn
          generalize g k = y at *
          generalize f k = x' at *
          go_wp2_with fail
          go_quiet (fail)
          have HBE := Lib.hid (below_drewN HBL.out nq)
          go_wp2
          go_ret
          exact ⟨-1, rfl, fun _ => rfl, (fun _ h => by rw [HN.out] at h; cases h), HBE.out⟩
        · have hin' : inB f g (k + 1) = true := by unfold inB; rw [hin, decide_eq_true (show 0 ≤ g k by omega), decide_eq_true (show g k < f k by omega)]; rfl
          have hpl' : axB f (k + 1) = true → wrap64 (wrap64 (x * f k) + g k) = plc f g (k + 1) := fun hax => by
            have hpb := plc_bd hax hin'
            have hpb0 := plc_bd (ax_le (Nat.le_succ k) hax) hin
            have hit := (ax_bd hax).2.2.2
            have hrm := (ax_bd hax).2.1
            have e2 : plc f g (k + 1) = plc f g k * f k + g k := rfl
            rw [e2] at hpb
            have hm0 : 0 ≤ plc f g k * f k := Int.mul_nonneg hpb0.1 (by omega)
            rw [hpl (ax_le (Nat.le_succ k) hax), IntWalk.wrap64_in (plc f g k * f k) (by omega), IntWalk.wrap64_in (plc f g k * f k + g k) (by omega)]
            exact e2.symm
          have HN := Lib.hid (And.intro hin' hpl')
          clear hbl hin hin' hpl hpl' hrel hmn
          generalize g k = y at *
          generalize f k = x' at *
          go_wp2_with fail
          go_quiet (fail)
          go_wp2_with fail
          go_quiet (fail)
          go_wp2
          go_roundw
          case rel => exact ⟨k + 1, _, by omega, by go_num, rfl, HN.out.1, HN.out.2, below_drewN HBL.out _⟩
          case measure => simp [intOf]; omega
    · obtain rfl : k = mn := by omega
      have HE := Lib.hid (And.intro hin (And.intro hpl hbl))
      clear hbl hin hpl hrel
      by_cases hkn : (k : Int) < n
      · have hkm : ¬ (k : Int) < m := by omega
        go_wp2
        go_ret
        exact ⟨x, rfl, fun h => (by rw [HE.out.1] at h; cases h), fun h _ => HE.out.2.1 h, HE.out.2.2⟩
      · go_wp2
        go_ret
        exact ⟨x, rfl, fun h => (by rw [HE.out.1] at h; cases h), fun h _ => HE.out.2.1 h, HE.out.2.2⟩
end Go.Proofs.YtkljpofljkgkdaaGreatDoor

namespace Go.Proofs.YtkljpofljkgkdaaGreatDoor
open Go.RowKit
/-- Is every number an index? -/
theorem inB_of {f g : Nat → Int} : ∀ {n : Nat}, (∀ j, j < n → 0 ≤ g j ∧ g j < f j) → inB f g n = true
  | 0, _ => rfl
  | n + 1, h => by
    have h1 := h n (by omega)
    show (inB f g n && (decide (0 ≤ g n) && decide (g n < f n))) = true
    rw [inB_of (fun j hj => h j (by omega)), decide_eq_true h1.1, decide_eq_true h1.2]; rfl
end Go.Proofs.YtkljpofljkgkdaaGreatDoor

namespace Go.Proofs.YtkljpofljkgkdaaGreatDoor
open Go.RowKit
attribute [local go_sem ↓] Go.wp_at_zero Go.wp_at_succ
theorem lenZ_any (w : World) : Calls Tryz.prog 32 #[.agg zerC] w fun e w' => e = .returned (.int .i64 0) ∧ Below w.heap.size w w' :=
  len_any false 0 (fun _ => 0) none 0 0 none 0 0 w
set_option maxHeartbeats 800000 in
set_option maxRecDepth 100000 in
theorem showsNo_any (E : Int) (hE : E ≠ 0) (sa : Option Addr) (sn sc : Nat) (ch : Bool) (ta : Option Addr) (tn tc : Nat) (na : Option Addr) (nn nc : Nat) (w : World) :
    Calls Tryz.prog 19 #[.agg zerC, .int .i64 E, .agg (plC sa sn sc ch ta tn tc na nn nc), .int .i64 E] w fun e w' => e = .returned (.bool true) ∧ Below w.heap.size w w' := by
  have LZ := Lib.hid (fun wz => lenZ_any wz)
  have BB := Lib.hid (((Bag.start w).newRow zerC 34).newRow (plC sa sn sc ch ta tn tc na nn nc) 26)
  simp only [World.size_alloc] at BB
  have HR := Lib.hid BB.out.now.2.1
  have d1 : (E != E) = false := bne_self_eq_false _
  have d2 : (E != 0) = true := bne_iff_ne.2 hE
  clear hE
  unfold zerC arrC plC
  unfold zerC at LZ
  unfold zerC at HR
  go_enter Tryz.func19, Tryz.ntmps19
  go_wp2_with (refine ld_arr rfl (.tmp 4) rfl w.heap.size rfl HR.out ?_)
  go_at_call 32
  (with_reducible refine (LZ.out _).mono ?_)
  rintro e w2 ⟨rfl, hb2⟩
  have HE := Lib.hid (BB.out.go hb2).below
  clear hb2
  go_wp2
  go_ret
  exact ⟨rfl, HE.out⟩
end Go.Proofs.YtkljpofljkgkdaaGreatDoor

namespace Go.Proofs.YtkljpofljkgkdaaGreatDoor
open Go.RowKit
theorem Good.pos {S : Nat → Int} {r : Nat} {ch : Bool} {L : Nat} {fB : Nat → Bool} {fS fT : Nat → ByteArray} (h : Good S r ch L fB fS fT) : ch = false → ∀ j, j < L → 0 < gQ fB fS fT j := fun e j hj => (h.small e j hj).1
end Go.Proofs.YtkljpofljkgkdaaGreatDoor

namespace Go.Proofs.YtkljpofljkgkdaaGreatDoor
open Go.RowKit
/-- A row of integers that the call makes and that grows. -/
def OwnI (y0 w : World) (a : Option Addr) (k c : Nat) (f : Nat → Int) : Prop := Below y0.heap.size y0 w ∧ w.ownsRow y0.heap.size 3 1 (.slice a k c) k (kcs .i64 f k)
theorem OwnI.nil (y0 : World) (f : Nat → Int) : OwnI y0 y0 none 0 0 f := ⟨Below.refl _ _, World.ownsRow_nil _ _ _ _⟩
theorem OwnI.go {y0 w w' : World} {a : Option Addr} {k c : Nat} {f : Nat → Int} (h : OwnI y0 w a k c f) (hb : Below w.heap.size w w') : OwnI y0 w' a k c f := ⟨h.1.trans (hb.mono h.1.size), own_below h.2 hb⟩
theorem OwnI.krow {y0 w : World} {a : Option Addr} {k c : Nat} {f : Nat → Int} (h : OwnI y0 w a k c f) : KRow w .i64 a k c f := by
  obtain ⟨a', c', e, q⟩ := KRow.of_own h.2
  cases e
  exact q
/-- One number more. -/
theorem app1_step {y0 wr : World} {a : Option Addr} {k c : Nat} {f : Nat → Int} (h : OwnI y0 wr a k c f) {x : Int} (hx : x = f k) (hk : k + 1 ≤ 1000000) :
    ∃ a' c' y1, (Builtin.append_ #[22, 22] 22 #[.slice a k c, .slice (some ⟨wr.heap.size, 0, none⟩) 1 1]).run Tryz.prog (wr.alloc (.cells #[.int .i64 x] 3)) = .ok (.slice a' (k + 1) c') y1 ∧ OwnI y0 y1 a' (k + 1) c' f := by
  have hb : Below wr.heap.size wr (wr.alloc (.cells #[.int .i64 x] 3)) := (Below.refl _ _).alloc (Nat.le_refl _) _
  have h2 := own_below h.2 hb
  obtain ⟨v', w', e1, e2, e3⟩ := run_append_krow 22 y0.heap.size (.slice a k c) k _ h2 (some ⟨wr.heap.size, 0, none⟩) 1 1 (fun _ => x) (KRow.one' wr .i64 x 3) (fun e => by cases e) hk (by have := h.1.size; rw [World.size_alloc]; omega)
  have e4 : kcs .i64 f k ++ kcs .i64 (fun _ => x) 1 = kcs .i64 f (k + 1) := by rw [hx]; rfl
  rw [e4] at e2
  obtain ⟨a', c', rfl, _⟩ := KRow.of_own e2
  refine ⟨a', c', w', e1, ?_, e2⟩
  refine (h.1.trans (hb.mono h.1.size)).trans ⟨e3.os, e3.tape, e3.output, e3.size, fun j hj => e3.block j (Nat.lt_of_lt_of_le hj (by have := h.1.size; rw [World.size_alloc]; omega)) (fun e => ?_)⟩
  have := (h2.lt j e.symm).1
  omega
theorem wh_eq (ch : Bool) (L : Nat) (fP : Nat → Int) (fQ : Nat → Nat) : (decide (tnO ch L = 0) && whB fP fQ (nnO ch L)) = whC ch L fP fQ := by
  cases ch with
  | true => show (decide (L = 0) && true) = decide (L = 0); rw [Bool.and_true]
  | false => rfl
theorem wh_nn {ch : Bool} {L : Nat} {fP : Nat → Int} {fQ : Nat → Nat} (h : whC ch L fP fQ = true) : nnO ch L = L := by
  cases ch with
  | true => have : L = 0 := of_decide_eq_true h; subst this; rfl
  | false => rfl
theorem nnO_le (ch : Bool) (L : Nat) : nnO ch L ≤ L ∧ tnO ch L ≤ L := by unfold nnO tnO; cases ch <;> simp
theorem Pln.put {w : World} {cs : Array Value} {S : Nat → Int} {r : Nat} {ch : Bool} {L : Nat} {g : Nat → Int} {fB : Nat → Bool} {fS fT : Nat → ByteArray} (h : Pln w cs S r ch L g fB fS fT) {k : Nat} {t : TypeId} (hr : Row w k t plZer) (cs' : Array Value) : Pln (w.setRow k cs') cs S r ch L g fB fS fT := PlnAt.away h hr (noInt_pl _ _ _ _ _ _ _ _ _ _) (noStr_pl _ _ _ _ _ _ _ _ _ _) (Far.setRow _ _ _)
/-- What the document's functions answer: a plain array and an error. -/
def PoTold (E : Int) (S : Nat → Int) (r : Nat) (ch : Bool) (L : Nat) (g : Nat → Int) (fB : Nat → Bool) (fS fT : Nat → ByteArray) (w w' : World) (e : Ending) : Prop :=
  ∃ cs, e = .returned (.tuple #[.agg cs, .int .i64 E]) ∧ (E = 0 → Pln w' cs S r ch L g fB fS fT) ∧ (E ≠ 0 → cs = plZer) ∧ Below w.heap.size w w'
theorem PoTold.no {E : Int} (hE : E ≠ 0) {S : Nat → Int} {r : Nat} {ch : Bool} {L : Nat} {g : Nat → Int} {fB : Nat → Bool} {fS fT : Nat → ByteArray} {w w' : World} (hb : Below w.heap.size w w') : PoTold E S r ch L g fB fS fT w w' (.returned (.tuple #[.agg plZer, .int .i64 E])) :=
  ⟨plZer, rfl, fun e => absurd e hE, fun _ => rfl, hb⟩
theorem PoTold.yes {S : Nat → Int} {r : Nat} {ch : Bool} {L : Nat} {g : Nat → Int} {fB : Nat → Bool} {fS fT : Nat → ByteArray} {w w' : World} {cs : Array Value} (h : Pln w' cs S r ch L g fB fS fT) (hb : Below w.heap.size w w') : PoTold 0 S r ch L g fB fS fT w w' (.returned (.tuple #[.agg cs, .int .i64 0])) :=
  ⟨cs, rfl, fun _ => h, fun e => absurd rfl e, hb⟩
theorem Pln.form {w : World} {cs : Array Value} {S : Nat → Int} {r : Nat} {ch : Bool} {L : Nat} {g : Nat → Int} {fB : Nat → Bool} {fS fT : Nat → ByteArray} (h : Pln w cs S r ch L g fB fS fT) : ∃ sa sc ta tc na nc, cs = plC sa r sc ch ta (tnO ch L) tc na (nnO ch L) nc ∧ KRow w .i64 sa r sc S := by
  obtain ⟨sa, sc, ta, tc, na, nc, e, h1, _⟩ := h
  exact ⟨sa, sc, ta, tc, na, nc, e, h1⟩
theorem res_pln2 {fn : Func} {p q : Tmp} {tmps : Array Value} {w : World} {g : Nat} {cs : Array Value} {v : Value} (h : fn.results = #[.cell p 26, .tmp q]) (hp : tmps.getD p undef = .pointer (some ⟨g, 0, none⟩)) (hq : tmps.getD q undef = v) (hg : Row w g 26 cs) (hs : cs.size = 4) :
    (results fn tmps).run Tryz.prog w = .ok (.tuple #[.agg cs, v]) w := by
  have hp' : tmps[p]?.getD undef = .pointer (some ⟨g, 0, none⟩) := by simpa using hp
  have hq' : tmps[q]?.getD undef = v := by simpa using hq
  simp [results, h, hp', hq', asAddr, run_loadVar_row w g 26 26 cs (0, 0) _ hg Tryz.underlying26 rfl (by rw [pln4, hs])]
set_option maxHeartbeats 1600000 in
set_option maxRecDepth 100000 in
theorem rlist_any (cs : Array Value) (S : Nat → Int) (r : Nat) (ch : Bool) (L : Nat) (g : Nat → Int) (fB : Nat → Bool) (fS fT : Nat → ByteArray) (fP : Nat → Int) (fQ : Nat → Nat) (w : World) (h : Pln w cs S r ch L g fB fS fT) (hN : NumOk fB fS fT fP fQ (nnO ch L)) (hL : L ≤ 1000000) :
    Calls Tryz.prog 48 #[.agg cs] w fun e w' => LiTold (liE r (whC ch L fP fQ)) L fP w w' e := by
  have HP := Lib.hid h
  obtain ⟨sa, sc, ta, tc, na, nc, rfl, hk⟩ := h.form
  have hl := hk.len
  have WH : ∀ wz, Pln wz (plC sa r sc ch ta (tnO ch L) tc na (nnO ch L) nc) S r ch L g fB fS fT → Calls Tryz.prog 65 #[.agg (plC sa r sc ch ta (tnO ch L) tc na (nnO ch L) nc)] wz fun e w' => WhTold (whC ch L fP fQ) (nnO ch L) fP wz w' e := fun wz h => by
    have := r6Whole_any (plC sa r sc ch ta (tnO ch L) tc na (nnO ch L) nc) S r ch g (tnO ch L) fB fS fT (nnO ch L) fP fQ wz h hN (by have := nnO_le ch L; omega)
    rw [wh_eq] at this
    exact this
  have hnn : whC ch L fP fQ = true → nnO ch L = L := wh_nn
  have BB := Lib.hid ((Bag.start w).newRow (plC sa r sc ch ta (tnO ch L) tc na (nnO ch L) nc) 26)
  generalize whC ch L fP fQ = b at *
  clear h hN hk
  by_cases h1 : 1 < r
  · have d1 : (1 : Int) < (r : Int) := by omega
    have hE : liE r b = 23 := by unfold liE; rw [if_pos h1]
    rw [hE]
    have HE := Lib.hid BB.out.below
    clear h1 hE WH hnn
    unfold plC at HE
    unfold plC
    go_enter Tryz.func48, Tryz.ntmps48
    go_wp2
    exact bodyPost_ret (v := .tuple #[.slice none 0 0, .int .i64 23]) (by simp [results, Tryz.results48, go_sem]) rfl ⟨none, 0, 0, rfl, fun e => (by cases e), HE.out⟩
  · have d1 : ¬ ((1 : Int) < (r : Int)) := by omega
    have hE : liE r b = if b then 0 else 22 := by unfold liE; rw [if_neg h1]
    rw [hE]
    have HR := Lib.hid BB.out.now.1
    cases b with
    | false =>
      have WH := Lib.hid (fun wz h => (WH wz h).mono (fun _ _ hw => (show _ from by
        obtain ⟨a, m, c, he, h2, hb⟩ := hw
        rw [if_neg (by decide)] at h2
        exact (⟨a, m, c, he, hb⟩ : ∃ a m c, _ = Ending.returned (.tuple #[.slice a m c, .bool false]) ∧ _))))
      clear h1 hE hnn
      unfold plC
      go_enter Tryz.func48, Tryz.ntmps48
      go_wp2_with (refine ld_pln rfl (.tmp 1) rfl w.heap.size rfl HR.out ?_)
      go_at_call 65
      (with_reducible refine (WH.out _ ?_).mono ?_)
      · exact HP.out.below BB.out.below
      rintro e w3 ⟨a, m, c, rfl, hb3⟩
      have HE := Lib.hid (BB.out.go hb3).below
      clear hb3
      go_wp2
      exact bodyPost_ret (v := .tuple #[.slice none 0 0, .int .i64 22]) (by simp [results, Tryz.results48, go_sem]) rfl ⟨none, 0, 0, rfl, fun e => (by cases e), HE.out⟩
    | true =>
      have WH : Hid (∀ wz, Pln wz (plC sa r sc ch ta (tnO ch L) tc na (nnO ch L) nc) S r ch L g fB fS fT → Calls Tryz.prog 65 #[.agg (plC sa r sc ch ta (tnO ch L) tc na (nnO ch L) nc)] wz fun e w' => ∃ a c, e = .returned (.tuple #[.slice a L c, .bool true]) ∧ KRow w' .i64 a L c fP ∧ Below wz.heap.size wz w') := Lib.hid (fun wz h => (WH wz h).mono (by
        rintro e w' ⟨a, m, c, he, h2, hb⟩
        rw [if_pos rfl, hnn rfl] at h2
        obtain ⟨rfl, hk⟩ := h2
        exact ⟨a, c, he, hk, hb⟩))
      clear h1 hE hnn
      unfold plC
      go_enter Tryz.func48, Tryz.ntmps48
      go_wp2_with (refine ld_pln rfl (.tmp 1) rfl w.heap.size rfl HR.out ?_)
      go_at_call 65
      (with_reducible refine (WH.out _ ?_).mono ?_)
      · exact HP.out.below BB.out.below
      rintro e w3 ⟨a, c, rfl, hk, hb3⟩
      have HE := Lib.hid (BB.out.go hb3).below
      have HK := Lib.hid hk
      clear hb3 hk
      go_wp2
      exact bodyPost_ret (v := .tuple #[.slice a L c, .int .i64 0]) (by simp [results, Tryz.results48, go_sem]) rfl ⟨a, L, c, rfl, fun _ => ⟨rfl, HK.out⟩, HE.out⟩
end Go.Proofs.YtkljpofljkgkdaaGreatDoor

namespace Go.Proofs.YtkljpofljkgkdaaGreatDoor
open Go.RowKit
set_option maxHeartbeats 1600000 in
set_option maxRecDepth 100000 in
theorem rhas_any (a : Option Addr) (n c : Nat) (f : Nat → Int) (x : Int) (w : World) (h : KRow w .i64 a n c f) :
    Calls Tryz.prog 70 #[.slice a n c, .int .i64 x] w fun e w' => e = .returned (.bool (hasB f x n)) ∧ w = w' := by
  have hl := h.len
  have H1 := Lib.hid h
  have HN : Hid (∀ k, k ≤ n → hasB f x k = false → k = n → hasB f x n = false) := fun k _ h e => e ▸ h
  have HY : Hid (∀ k, k < n → f k = x → hasB f x n = true) := fun k hk e => by
    cases hq : hasB f x n with
    | true => rfl
    | false => exact absurd e (hasB_no.1 hq k hk)
  have HS : Hid (∀ k, hasB f x k = false → f k ≠ x → hasB f x (k + 1) = false) := fun k h e => by
    show (hasB f x k || decide (f k = x)) = false
    rw [h, decide_eq_false e]
    rfl
  clear h
  go_enter Tryz.func70, Tryz.ntmps70
  go_wp2_with fail
  go_loopw [5] (fun i wr => ∃ k : Nat, k ≤ n ∧ i = .int .i64 k ∧ Hid (hasB f x k = false) ∧ wr = w) (fun i _ => n - (intOf i).toNat)
  case atStart => exact ⟨0, by omega, rfl, rfl, rfl⟩
  case round =>
    obtain ⟨k, hk, rfl, HK, rfl⟩ := hrel
    by_cases hlt : k < n
    · obtain ⟨b, off, rfl, hb, hc⟩ := H1.out.get hlt
      have hk0 : (0 : Int) ≤ k := by omega
      have hk1 : (k : Int) < n := by omega
      by_cases hx : f k = x
      · have HQ := Lib.hid (HY.out k hlt hx)
        rw [hx] at hc
        have d1 : (x == x) = true := beq_self_eq_true x
        clear hx
        go_wp2
        exact bodyPost_ret (v := .bool true) (by simp [results, Tryz.results70, go_sem]) rfl ⟨by rw [HQ.out], rfl⟩
      · have HQ := Lib.hid (HS.out k HK.out hx)
        have d1 : (f k == x) = false := beq_eq_false_iff_ne.2 hx
        generalize f k = y at hc d1
        clear hx
        go_wp2
        go_roundw
        case rel => exact ⟨k + 1, by omega, by go_num, HQ, trivial⟩
        case measure => simp [intOf]; omega
    · obtain rfl : k = n := by omega
      have HQ := Lib.hid HK.out
      go_wp2
      exact bodyPost_ret (v := .bool false) (by simp [results, Tryz.results70, go_sem]) rfl ⟨by rw [HQ.out], rfl⟩
end Go.Proofs.YtkljpofljkgkdaaGreatDoor

namespace Go.Proofs.YtkljpofljkgkdaaGreatDoor
open Go.RowKit
theorem tn_nn (ch : Bool) (L : Nat) : tnO ch L + nnO ch L = L := by unfold tnO nnO; cases ch <;> simp
theorem Pln.len {cs : Array Value} {S : Nat → Int} {r : Nat} {ch : Bool} {L : Nat} {g : Nat → Int} {fB : Nat → Bool} {fS fT : Nat → ByteArray} (wz : World) (h : Pln wz cs S r ch L g fB fS fT) (hL : L ≤ 1000000) :
    Calls Tryz.prog 50 #[.agg cs] wz fun e w' => e = .returned (.int .i64 (L : Nat)) ∧ Below wz.heap.size wz w' := by
  have := r6Len_any cs S r ch g (tnO ch L) fB fS fT (nnO ch L) wz h (by have := nnO_le ch L; omega) (by have := nnO_le ch L; omega)
  rw [tn_nn] at this
  exact this
end Go.Proofs.YtkljpofljkgkdaaGreatDoor

namespace Go.Proofs.YtkljpofljkgkdaaGreatDoor
open Go.RowKit
/-- The cells of a row of slices of one length. -/
def sls (A : Nat → Option Addr) (C : Nat → Nat) (L : Nat) : Nat → List Value
  | 0 => []
  | k + 1 => sls A C L k ++ [.slice (A k) L (C k)]
theorem sls_length (A : Nat → Option Addr) (C : Nat → Nat) (L : Nat) : ∀ k, (sls A C L k).length = k
  | 0 => rfl
  | k + 1 => by unfold sls; rw [List.length_append, sls_length A C L k]; rfl
theorem sls_get (A : Nat → Option Addr) (C : Nat → Nat) (L : Nat) : ∀ k j, j < k → (sls A C L k)[j]? = some (.slice (A j) L (C j))
  | 0, j, h => absurd h (Nat.not_lt_zero _)
  | k + 1, j, h => by
    have hl := sls_length A C L k
    unfold sls
    rcases Nat.lt_or_ge j k with h1 | h1
    · rw [List.getElem?_append_left (by omega)]
      exact sls_get A C L k j h1
    · obtain rfl : j = k := by omega
      rw [List.getElem?_append_right (by omega), hl, Nat.sub_self]
      rfl
theorem sls_congr {A A' : Nat → Option Addr} {C C' : Nat → Nat} {L : Nat} : ∀ {n : Nat}, (∀ j, j < n → A j = A' j ∧ C j = C' j) → sls A C L n = sls A' C' L n
  | 0, _ => rfl
  | n + 1, h => by unfold sls; rw [sls_congr (fun j hj => h j (by omega)), (h n (by omega)).1, (h n (by omega)).2]
theorem infoS : (Tryz.prog.info? 22).map (fun i => (i.zero, i.size, i.bytes)) = some (some (.slice none 0 0), 1, 24) := by kernel_rfl
/-- The rows of the next axis in the making. -/
def AllSt (y0 wr : World) (f : Nat → Int) (i cnt : Nat) (v : Value) : Prop :=
  Below y0.heap.size y0 wr ∧ ∃ A C, wr.ownsRow y0.heap.size 22 1 v cnt (sls A C (i + 1) cnt) ∧ ∀ r, r < cnt → KRow wr .i64 (A r) (i + 1) (C r) (dgs f (i + 1) (r : Nat)) ∧ ∃ g, A r = some ⟨g, 0, none⟩
theorem AllSt.nought (y0 : World) (f : Nat → Int) (i : Nat) : AllSt y0 y0 f i 0 (.slice none 0 0) := ⟨Below.refl _ _, fun _ => none, fun _ => 0, World.ownsRow_nil _ _ _ _, fun _ h => absurd h (Nat.not_lt_zero _)⟩
/-- All rows of an axis, as a row of rows. -/
theorem AllSt.done {y0 wr : World} {f : Nat → Int} {i cnt : Nat} {v : Value} (h : AllSt y0 wr f i cnt v) : ∃ la lc A C, v = .slice la cnt lc ∧ LRow wr la cnt lc A (fun _ => i + 1) C (fun r => dgs f (i + 1) (r : Nat)) := by
  obtain ⟨_, A, C, ho, hk⟩ := h
  have hA : ∀ r, r < cnt → A r ≠ none := fun r hr e => by
    obtain ⟨g, e2⟩ := (hk r hr).2
    rw [e] at e2
    cases e2
  rcases ho.2 with ⟨rfl, rfl⟩ | ⟨g, cap, cur, rfl, _, hh, h1, h2, _, _⟩
  · exact ⟨none, 0, A, C, rfl, Nat.le_refl _, Nat.zero_le _, .inl rfl⟩
  · refine ⟨some ⟨g, 0, none⟩, cap, A, C, rfl, h1, h2, .inr ⟨g, 0, rfl, Row.lt (t := 22) hh, fun j hj => ⟨?_, (hk j hj).1, fun e => absurd e (hA j hj)⟩⟩⟩
    have := ho.cells (g := g) rfl j _ (sls_get A C (i + 1) cnt j hj)
    rwa [show (⟨g, 0, none⟩ : Addr).add j = ⟨g, 0 + j, none⟩ by unfold Addr.add; split <;> simp_all] at this
theorem add_zero0 (g j : Nat) : (⟨g, 0, none⟩ : Addr).add j = ⟨g, 0 + j, none⟩ := by unfold Addr.add; split <;> simp_all
/-- One more row: the row of the axes before, and one number more. -/
theorem all_step {y0 wr : World} {f : Nat → Int} {i cnt k m : Nat} {v : Value} {ak : Option Addr} {ck : Nat} (h : AllSt y0 wr f i cnt v) (hk : KRow wr .i64 ak i ck (dgs f i (k : Nat))) (hn : ak = none → ck = 0) (hi8 : i ≤ 8) (hcnt : cnt ≤ 5000) (hf : f i = ((f i).toNat : Nat)) (hm : m < (f i).toNat) (hc : cnt = k * (f i).toNat + m) :
    ∃ v1 y1, (Builtin.append_ #[22, 22] 22 #[.slice (some ⟨wr.heap.size, 0, none⟩) 0 0, .slice ak i ck]).run Tryz.prog (wr.alloc (.cells #[] 3)) = .ok v1 y1 ∧
    ∃ a2 c2 y3, (Builtin.append_ #[22, 22] 22 #[v1, .slice (some ⟨y1.heap.size, 0, none⟩) 1 1]).run Tryz.prog (y1.alloc (.cells #[.int .i64 (m : Nat)] 3)) = .ok (.slice a2 (i + 1) c2) y3 ∧
    ∃ v9 y5, (Builtin.append_ #[92, 92] 92 #[v, .slice (some ⟨y3.heap.size, 0, none⟩) 1 1]).run Tryz.prog (y3.alloc (.cells #[.slice a2 (i + 1) c2] 22)) = .ok v9 y5 ∧ AllSt y0 y5 f i (cnt + 1) v9 := by
  obtain ⟨hbl, A, C, ho, hrows⟩ := h
  have hwr := hbl.size
  have g0 : Below wr.heap.size wr (wr.alloc (.cells #[] 3)) := (Below.refl _ _).alloc (Nat.le_refl _) _
  have o0 := World.ownsRow_lit (e := 3) (size := 1) wr #[] 0 (Nat.le_refl _) (Nat.zero_le _) rfl
  obtain ⟨v1, y1, r1, o1, q1⟩ := run_append_krow (w := wr.alloc (.cells #[] 3)) 22 wr.heap.size _ 0 _ o0 ak i ck _ (hk.below g0) hn (by omega) g0.size
  have g1 := g0.grown q1 g0.size (fun z hz => (o0.lt z hz).1)
  rw [Nat.zero_add, List.nil_append] at o1
  refine ⟨v1, y1, r1, ?_⟩
  have g2 : Below wr.heap.size wr (y1.alloc (.cells #[.int .i64 (m : Nat)] 3)) := g1.alloc g1.size _
  have o1' := own_below o1 ((Below.refl y1.heap.size y1).alloc (Nat.le_refl _) (.cells #[.int .i64 (m : Nat)] 3))
  have kone : KRow (y1.alloc (.cells #[.int .i64 (m : Nat)] 3)) .i64 (some ⟨y1.heap.size, 0, none⟩) 1 1 (fun _ => (m : Nat)) := by
    refine ⟨Nat.le_refl _, by unfold maxLen; omega, .inr ⟨_, 0, rfl, by simp, fun j hj => ?_⟩⟩
    obtain rfl : j = 0 := by omega
    exact (Row.new y1 3 #[.int .i64 (m : Nat)]).cell 0
  obtain ⟨v2, y3, r2, o2, q2⟩ := run_append_krow (w := y1.alloc (.cells #[.int .i64 (m : Nat)] 3)) 22 wr.heap.size _ i _ o1' (some ⟨y1.heap.size, 0, none⟩) 1 1 _ kone (fun e => by cases e) (by omega) g2.size
  have g3 := g2.grown q2 g2.size (fun z hz => (o1'.lt z hz).1)
  have hd : ∀ j, j < i + 1 → app (dgs f i (k : Nat)) i (fun _ => (m : Nat)) j = dgs f (i + 1) (cnt : Nat) j := fun j hj => by
    have e0 : ((cnt : Nat) : Int) = (m : Nat) + f i * (k : Nat) := by rw [hc, hf]; simp [Int.mul_comm, Int.add_comm]
    have hfp : (0 : Int) < f i := by omega
    have e1 : ((cnt : Nat) : Int) % f i = m := by rw [e0, Int.add_mul_emod_self_left]; exact Int.emod_eq_of_lt (by omega) (by omega)
    have e2 : ((cnt : Nat) : Int) / f i = k := by rw [e0, Int.add_mul_ediv_left _ _ (by omega), Int.ediv_eq_zero_of_lt (by omega) (by omega), Int.zero_add]
    unfold app
    by_cases e : j < i
    · rw [if_pos e, dgs_low _ e, e2]
    · obtain rfl : j = i := by omega
      rw [if_neg e, dgs_top, e1]
  rw [← kcs_app, kcs_congr hd] at o2
  obtain ⟨a2, c2, rfl, hk2⟩ := KRow.of_own o2
  refine ⟨a2, c2, y3, r2, ?_⟩
  have g4 : Below wr.heap.size wr (y3.alloc (.cells #[.slice a2 (i + 1) c2] 22)) := g3.alloc g3.size _
  have ho4 := own_below ho g4
  obtain ⟨i0, hi, hz0, hz1, hz2⟩ := info_parts infoS
  obtain ⟨v9, y5, r3, o3, q3, _⟩ := run_append_own (P := Tryz.prog) (y3.alloc (.cells #[.slice a2 (i + 1) c2] 22)) y0.heap.size 92 92 22 i0 _ 1 24 Tryz.underlying92 hi hz0 hz1 hz2 rfl (by omega) v cnt _ ho4 ⟨y3.heap.size, 0, none⟩ 1 1 [.slice a2 (i + 1) c2] rfl (World.news_of_block (Row.new y3 22 #[.slice a2 (i + 1) c2])) (by intro u hu; simp at hu; subst hu; rfl) (by unfold maxLen; omega) (by omega) (Nat.le_trans hwr g4.size)
  refine ⟨v9, y5, r3, (hbl.trans (g4.mono hwr)).grown q3 (Nat.le_trans hwr g4.size) (fun z hz => (ho4.lt z hz).1), (fun r => if r = cnt then a2 else A r), (fun r => if r = cnt then c2 else C r), ?_, fun r hr => ?_⟩
  · show y5.ownsRow _ _ _ _ _ (sls _ _ (i + 1) cnt ++ [_])
    simp only [if_true]
    rw [sls_congr (A' := A) (C' := C) (fun j hj => ⟨if_neg (by omega), if_neg (by omega)⟩)]
    exact o3
  · have far : ∀ (ad : Option Addr) (cd : Nat) (h : Nat → Int), KRow (y3.alloc (.cells #[.slice a2 (i + 1) c2] 22)) .i64 ad (i + 1) cd h → (∀ b off, ad = some ⟨b, off, none⟩ → v.ownBlock ≠ some b) → KRow y5 .i64 ad (i + 1) cd h := fun ad cd h hkk hne => by
      refine ⟨hkk.1, hkk.2.1, hkk.2.2.imp id ?_⟩
      rintro ⟨b, off, rfl, hl, hcc⟩
      exact ⟨b, off, rfl, Nat.lt_of_lt_of_le hl q3.size, fun j hj => (World.cell?_of_block (a := ⟨b, off + j, none⟩) (q3.block b hl (fun e => hne b off rfl e.symm))).trans (hcc j hj)⟩
    by_cases e : r = cnt
    · subst e
      simp only [if_true]
      obtain ⟨gz, cz, ez, _, _⟩ := o2.form (show 0 < i + 1 by omega)
      injection ez with ez _ _
      refine ⟨far _ _ _ (hk2.below ((Below.refl y3.heap.size y3).alloc (Nat.le_refl _) _)) (fun b off e hb => ?_), gz, ez⟩
      have h1 := (ho.lt b hb).2
      subst e
      have h2 := (o2.lt b rfl).1
      omega
    · simp only [if_neg e]
      refine ⟨far _ _ _ ((hrows r (by omega)).1.below g4) (fun b off e2 hb => ?_), (hrows r (by omega)).2⟩
      obtain ⟨b', off', e3, hlb, hc3⟩ := (hrows r (by omega)).1.get (show 0 < i + 1 by omega)
      obtain ⟨gz, ez⟩ := (hrows r (by omega)).2
      rw [e2] at e3 ez
      cases e3
      cases ez
      rcases ho.2 with ⟨rfl, _⟩ | ⟨g, cap, cur, rfl, _, hh, _⟩
      · cases hb
      · have hgb : g = b := by simpa [Value.ownBlock] using hb
        subst hgb
        have h6 := ho.cells (g := g) rfl 0 _ (sls_get A C (i + 1) cnt 0 (by omega))
        rw [add_zero0, hc3] at h6
        cases h6
set_option maxHeartbeats 6400000 in
set_option maxRecDepth 100000 in
theorem r6All_any (a : Option Addr) (n c : Nat) (f : Nat → Int) (M0 : Nat) (w : World) (h : KRow w .i64 a n c f) (hs : shB f n = true) (hM0 : itm f n = (M0 : Nat)) :
    Calls Tryz.prog 55 #[.slice a n c] w fun e w' => ∃ a' c' A C, e = .returned (.slice a' M0 c') ∧ LRow w' a' M0 c' A (fun _ => n) C (fun r => dgs f n (r : Nat)) ∧ Below w.heap.size w w' := by
  obtain ⟨h8, hax⟩ := sh_ax hs
  have hl := h.len
  have H := Lib.hid h
  have HAX := Lib.hid hax
  have H0 : Hid (itm f 0 = ((1 : Nat) : Int) ∧ Below w.heap.size w ((w.alloc (.cells #[] 3)).alloc (.cells #[.slice (some ⟨w.heap.size, 0, none⟩) 0 0] 22)) ∧ LRow ((w.alloc (.cells #[] 3)).alloc (.cells #[.slice (some ⟨w.heap.size, 0, none⟩) 0 0] 22)) (some ⟨w.heap.size + 1, 0, none⟩) 1 1 (fun _ => some ⟨w.heap.size, 0, none⟩) (fun _ => 0) (fun _ => 0) (fun r => dgs f 0 (r : Nat))) := Lib.hid (by
    have r1 := Row.new (w.alloc (.cells #[] 3)) 22 #[.slice (some ⟨w.heap.size, 0, none⟩) 0 0]
    rw [World.size_alloc] at r1
    refine ⟨rfl, ((Below.refl _ _).alloc (Nat.le_refl _) _).alloc (by simp) _, Nat.le_refl _, by unfold maxLen; omega, .inr ⟨_, 0, rfl, r1.lt, fun j hj => ?_⟩⟩
    obtain rfl : j = 0 := by omega
    exact ⟨r1.cell 0, KRow.nought _ _ _ _ (Nat.zero_le _) _, fun e => by cases e⟩)
  clear h hs hax
  go_enter Tryz.func55, Tryz.ntmps55
  go_wp2_with fail
  go_loopw [3, 4] (fun l j wr => ∃ (i M : Nat) (la : Option Addr) (lc : Nat), i ≤ n ∧ j = .int .i64 i ∧ l = .slice la M lc ∧ Hid (itm f i = (M : Nat) ∧ Below w.heap.size w wr ∧ ∃ A C, LRow wr la M lc A (fun _ => i) C (fun r => dgs f i (r : Nat)))) (fun _ j _ => n - (intOf j).toNat)
  case atStart => exact ⟨0, 1, _, 1, by omega, rfl, rfl, H0.out.1, H0.out.2.1, _, _, H0.out.2.2⟩
  case round =>
    obtain ⟨i, M, la, lc, hi, rfl, rfl, hrel⟩ := hrel
    obtain ⟨hM, hbl, A, C, hL⟩ := hrel.out
    by_cases hlt : i < n
    · obtain ⟨F, hF⟩ : ∃ F, (f i).toNat = F := ⟨_, rfl⟩
      have hf0 := ax_nn HAX.out hlt
      have hfF : f i = (F : Nat) := by omega
      have hb1 := ax_bd (ax_le (show i + 1 ≤ n by omega) HAX.out)
      have hF4 : F ≤ 4096 := by
        have h2 := rm_pos f i
        have h3 : 1 * max (f i) 1 ≤ rm f i * max (f i) 1 := Int.mul_le_mul h2 (Int.le_refl _) (by omega) (by omega)
        have h4 : rm f (i + 1) = rm f i * max (f i) 1 := rfl
        omega
      have hMF : itm f (i + 1) = ((M * F : Nat) : Int) := by
        show itm f i * f i = _
        rw [hM, hfF, Int.natCast_mul]
      have hMF4 : M * F ≤ 4096 := by rw [hMF] at hb1; omega
      have HMF := Lib.hid (And.intro hMF hMF4)
      have HBL := Lib.hid hbl
      have HL := Lib.hid hL
      have HFF := Lib.hid (And.intro hF hfF)
      have hlen := hL.1
      have H1 := Lib.hid (AllSt.nought wr f i)
      have HK := Lib.hid (H.out.below hbl)
      have hml : M ≤ 9223372036854775807 := by have := hL.1; have := hL.2.1; unfold maxLen at this; omega
      clear hrel hbl hL hb1 hMF hMF4 hF hf0 hM
      have hwr := HBL.out.size
      obtain ⟨y0, hy0⟩ : ∃ y0, y0 = wr := ⟨_, rfl⟩
      subst hy0
      go_wp2_with fail
      go_loopw [5, 6] (fun v kk wk => ∃ (k : Nat) (v5 : Value), k ≤ M ∧ kk = .int .i64 k ∧ v5 = v ∧ Hid (AllSt y0 wk f i (k * F) v5)) (fun _ kk _ => M - (intOf kk).toNat)
      case atStart => exact ⟨0, _, by omega, rfl, rfl, by rw [Nat.zero_mul]; exact H1.out⟩
      case round =>
        obtain ⟨k, v5, hk, rfl, hv5, hst⟩ := hrel
        subst hv5
        by_cases hkM : k < M
        · have HST := Lib.hid hst.out
          have hkF : k * F + F ≤ M * F := by
            have := Nat.mul_le_mul_right F (show k + 1 ≤ M by omega)
            rwa [Nat.add_mul, Nat.one_mul] at this
          have HKF := Lib.hid hkF
          clear hst hkF
          obtain ⟨y1, hy1⟩ : ∃ y1, y1 = wr := ⟨_, rfl⟩
          subst hy1
          go_wp2_with fail
          go_loopw [5, 7] (fun v mm wm => ∃ (m : Nat) (v6 : Value), m ≤ F ∧ mm = .int .i64 m ∧ v6 = v ∧ Hid (AllSt y0 wm f i (k * F + m) v6)) (fun _ mm _ => F - (intOf mm).toNat)
          case atStart => exact ⟨0, _, by omega, rfl, rfl, HST.out⟩
          case round =>
            obtain ⟨m, v6, hm, rfl, hv6, hst⟩ := hrel
            subst hv6
            obtain ⟨b0, off0, hab, hb0, hc0⟩ := (HK.out.below hst.out.1).get hlt
            subst hab
            rw [HFF.out.2] at hc0
            by_cases hmF : m < F
            · have hL := HL.out
              obtain ⟨b, off, hlab, hb, hcl, hkr, hnn⟩ := (hL.below hst.out.1).get hkM
              subst hlab
              obtain ⟨v1, y2, r1, a2, c2, y3, r2, v9, y5, r3, hnew⟩ := all_step (m := m) (k := k) hst.out hkr hnn (by omega) (by have := HKF.out; have := HMF.out.2; omega) (by rw [HFF.out.1]; exact HFF.out.2) (by rw [HFF.out.1]; exact hmF) (by rw [HFF.out.1])
              have HN := Lib.hid hnew
              have d1 : (m : Int) < F := by omega
              have d2 : (m : Int) < 4096 := by omega
              clear hst hnew hL hkr hnn
              generalize A k = ak at *
              generalize C k = ck at *
              go_wp2_with (first
                | (at_builtin; refine Lib.wpList_append_run _ rfl (.tmp 35) (.tmp 39) 22 22 rfl _ _ rfl rfl _ _ r1 ?_)
                | (at_builtin; refine Lib.wpList_append_run _ rfl (.tmp 40) (.tmp 42) 22 22 rfl _ _ rfl rfl _ _ r2 ?_)
                | (at_builtin; refine Lib.wpList_append_run _ rfl (.tmp 34) (.tmp 44) 92 92 rfl _ _ rfl rfl _ _ r3 ?_))
              go_roundw
              case rel => exact ⟨m + 1, v9, by omega, by go_num, rfl, HN.out⟩
              case measure => simp [intOf]; omega
            · obtain rfl : m = F := by omega
              have HN : Hid (AllSt y0 wr f i ((k + 1) * m) v6) := Lib.hid (by rw [Nat.add_mul, Nat.one_mul]; exact hst.out)
              clear hst
              go_wp2
              go_roundw
              case rel => exact ⟨k + 1, v6, by omega, by go_num, rfl, HN.out⟩
              case measure => simp [intOf]; omega
        · obtain rfl : k = M := by omega
          obtain ⟨la2, lc2, A2, C2, hv, hL2⟩ := hst.out.done
          subst hv
          have HN : Hid (itm f (i + 1) = ((k * F : Nat) : Int) ∧ Below w.heap.size w wr ∧ ∃ A C, LRow wr la2 (k * F) lc2 A (fun _ => i + 1) C (fun r => dgs f (i + 1) (r : Nat))) := Lib.hid ⟨HMF.out.1, HBL.out.trans (hst.out.1.mono hwr), _, _, hL2⟩
          clear hst hL2
          go_wp2
          go_roundw
          case rel => exact ⟨i + 1, k * F, la2, lc2, by omega, by go_num, rfl, HN.out⟩
          case measure => simp [intOf]; omega
    · obtain rfl : i = n := by omega
      have hMM : M = M0 := by rw [hM0] at hM; omega
      subst hMM
      have HE : Hid (∃ A C, LRow wr la M lc A (fun _ => i) C (fun r => dgs f i (r : Nat))) := Lib.hid ⟨A, C, hL⟩
      have HBL := Lib.hid hbl
      clear hrel hbl hL hM
      go_wp2
      go_ret
      obtain ⟨A, C, hL⟩ := HE.out
      exact ⟨_, _, A, C, rfl, hL, HBL.out⟩
end Go.Proofs.YtkljpofljkgkdaaGreatDoor

namespace Go.Proofs.YtkljpofljkgkdaaGreatDoor
open Go.RowKit
theorem Pln.on {w : World} {cs : Array Value} {S : Nat → Int} {r : Nat} {ch : Bool} {L : Nat} {g g' : Nat → Int} {fB fB' : Nat → Bool} {fS fT fS' fT' : Nat → ByteArray} (h : Pln w cs S r ch L g fB fS fT) (e0 : ∀ j, j < L → g j = g' j) (e1 : ∀ j, j < L → fB j = fB' j) (e2 : ∀ j, j < L → fS j = fS' j) (e3 : ∀ j, j < L → fT j = fT' j) : Pln w cs S r ch L g' fB' fS' fT' := by
  obtain ⟨sa, sc, ta, tc, na, nc, e, h1, h2, h3⟩ := h
  have hn := nnO_le ch L
  exact ⟨sa, sc, ta, tc, na, nc, e, h1, h2.congr (fun j hj => e0 j (by omega)), h3.congr (fun j hj => ⟨e1 j (by omega), e2 j (by omega), e3 j (by omega)⟩)⟩
/-- A plain array is its elements, each at its own place. -/
theorem Pln.self {w : World} {cs : Array Value} {S : Nat → Int} {r : Nat} {ch : Bool} {L : Nat} {g : Nat → Int} {fB : Nat → Bool} {fS fT : Nat → ByteArray} (h : Pln w cs S r ch L g fB fS fT) {G : Nat → Int} (hG : ∀ j, j < L → G j = (j : Int)) : Pln w cs S r ch L (fun j => elC L g 32 (G j)) (fun j => elB L fB (G j)) (fun j => elS L fS (rS 0) (G j)) (fun j => elS L fT (str (dec 1)) (G j)) := by
  have hh : ∀ j, j < L → (0 : Int) ≤ (j : Nat) ∧ ((j : Nat) : Int) < (L : Nat) := fun j hj => by omega
  exact h.on (fun j hj => by rw [hG j hj]; unfold elC; rw [if_pos (hh j hj)]; rfl) (fun j hj => by rw [hG j hj]; unfold elB; rw [if_pos (hh j hj)]; rfl) (fun j hj => by rw [hG j hj]; unfold elS; rw [if_pos (hh j hj)]; rfl) (fun j hj => by rw [hG j hj]; unfold elS; rw [if_pos (hh j hj)]; rfl)
/-- The document's place of an index that lies within. -/
theorem rplc_any (a : Option Addr) (n c : Nat) (f : Nat → Int) (a2 : Option Addr) (c2 : Nat) (g : Nat → Int) (w : World) (h : KRow w .i64 a n c f) (h2 : KRow w .i64 a2 n c2 g) (hax : axB f n = true) (hin : inB f g n = true) :
    Calls Tryz.prog 56 #[.slice a n c, .slice a2 n c2] w fun e w' => e = .returned (.int .i64 (plc f g n)) ∧ Below w.heap.size w w' :=
  (r6Place_any a n c f a2 n c2 g w h h2).mono (by
    rintro e w' ⟨x, rfl, _, h1, hb⟩
    rw [Nat.min_self] at h1
    rw [h1 hax hin]
    exact ⟨rfl, hb⟩)
end Go.Proofs.YtkljpofljkgkdaaGreatDoor

namespace Go.Proofs.YtkljpofljkgkdaaGreatDoor
open Go.RowKit
/-- The axes in the other order. -/
def rvT (r : Nat) : Nat → Int := fun j => (r : Int) - 1 - j
theorem rvT_cn : ∀ (r n : Nat), n ≤ r → 0 < n → cnN (rvT r) n = (r : Int)
  | r, 0, _, h => absurd h (Nat.not_lt_zero _)
  | r, n + 1, h, _ => by
    show max (cnN (rvT r) n) (rvT r n + 1) = (r : Int)
    rcases Nat.eq_zero_or_pos n with h0 | h0
    · subst h0
      show max 0 ((r : Int) - 1 - ((0 : Nat) : Int) + 1) = (r : Int)
      omega
    · rw [rvT_cn r n (by omega) h0]
      show max (r : Int) ((r : Int) - 1 - n + 1) = (r : Int)
      omega
theorem rvT_count (r : Nat) : cnN (rvT r) r = (r : Int) := by
  rcases Nat.eq_zero_or_pos r with h | h
  · subst h; rfl
  · exact rvT_cn r r (Nat.le_refl _) h
theorem rvT_shape {S : Nat → Int} {r : Nat} (hsh : shB S r = true) : shB (mnF S (rvT r) r) r = true :=
  moved_shape hsh (fun x hx => ⟨r - 1 - x, by omega, by show (r : Int) - 1 - ((r - 1 - x : Nat) : Int) = x; omega⟩)
set_option linter.unusedSimpArgs false in
set_option maxHeartbeats 3200000 in
set_option maxRecDepth 100000 in
theorem transpose_any (cs : Array Value) (S : Nat → Int) (r : Nat) (ch : Bool) (L : Nat) (g fP : Nat → Int) (fQ : Nat → Nat) (M : Nat) (w : World) (h : Arr w cs S r ch L g fP fQ) (hS : In64 S r) (hsh : shB S r = true) (hM : itm (mnF S (rvT r) r) r = (M : Nat)) :
    Calls Tryz.prog 26 #[.agg cs] w fun e w' => ∃ cs', e = .returned (.agg cs') ∧ Arr w' cs' (mnF S (rvT r) r) r ch M (fun j => elC L g 32 (mvG S (rvT r) r r j)) (fun j => elP L fP (mvG S (rvT r) r r j)) (fun j => elQ L fQ (mvG S (rvT r) r r j)) ∧ Below w.heap.size w w' := by
  obtain ⟨na, nn, nc, ta, tn, tc, hcs, _⟩ := h.form
  subst hcs
  obtain ⟨h8, hax⟩ := sh_ax hsh
  obtain ⟨i0, hi, hz0, hz1, hz2⟩ := info_parts infoI
  have hmk := fun wz => run_make (P := Tryz.prog) wz 22 3 i0 _ Tryz.underlying22 hi hz0 .i64 .i64 r r (by omega) (by omega) (by rw [hz2]; omega) (by omega)
  simp only [Int.toNat_natCast, hz1, Nat.mul_one] at hmk
  have H := Lib.hid h
  have RK := Lib.hid (fun wz h => rank8_any (arrC ch ((r : Int) - 1) (dm S r) na nn nc ta tn tc) S r ch L g fP fQ wz h (by omega))
  have MV := Lib.hid (fun aT cT wz (q : Arr wz (arrC ch ((r : Int) - 1) (dm S r) na nn nc ta tn tc) S r ch L g fP fQ) z => moved_any (arrC ch ((r : Int) - 1) (dm S r) na nn nc ta tn tc) S r ch L g fP fQ aT cT (rvT r) r M wz q hS hsh z (fun j hj => by show 0 ≤ (r : Int) - 1 - j ∧ (r : Int) - 1 - j < r; omega) (rvT_count r) (rvT_shape hsh) hM)
  have BB := Lib.hid (((Bag.start w).newRow (arrC ch ((r : Int) - 1) (dm S r) na nn nc ta tn tc) 34).newRow zerC 34)
  simp only [World.size_alloc] at BB
  have HR1 := Lib.hid BB.out.now.2.1
  have w0 := IntWalk.i64_in ((r : Int) - 1) (by omega)
  generalize (fun j => elC L g 32 (mvG S (rvT r) r r j)) = eC at *
  generalize (fun j => elP L fP (mvG S (rvT r) r r j)) = eP at *
  generalize (fun j => elQ L fQ (mvG S (rvT r) r r j)) = eQ at *
  clear h hS hsh hM hax hi hz0 hz1 hz2
  unfold arrC
  go_enter Tryz.func26, Tryz.ntmps26
  go_wp2_with (refine ld_arr rfl (.tmp 1) rfl w.heap.size rfl HR1.out ?_)
  go_at_call 33
  (with_reducible refine (RK.out _ ?_).mono ?_)
  · exact H.out.below BB.out.below
  rintro e w2 ⟨rfl, hb2⟩
  have BB := Lib.hid (BB.out.go hb2)
  have hs2 := BB.out.below.size
  have B3 := BB.out.alloc (.cells (madeCells (Value.cells (.int .i64 0)) r) 3)
  have KT := KTo.made w2 r 3 (rvT r) rfl
  have HR3 := Lib.hid B3.now.2.1
  have hlt1 := BB.out.now.1.lt
  have hlt2 := BB.out.now.2.1.lt
  have H0 : Hid (Below w.heap.size w (w2.alloc (.cells (madeCells (Value.cells (.int .i64 0)) r) 3)) ∧ Row (w2.alloc (.cells (madeCells (Value.cells (.int .i64 0)) r) 3)) w.heap.size 34 (arrC ch ((r : Int) - 1) (dm S r) na nn nc ta tn tc) ∧ Row (w2.alloc (.cells (madeCells (Value.cells (.int .i64 0)) r) 3)) (w.heap.size + 1) 34 zerC ∧ KTo (w2.alloc (.cells (madeCells (Value.cells (.int .i64 0)) r) 3)) w2.heap.size r 0 (rvT r)) :=
    Lib.hid ⟨B3.below, B3.now.2.1, B3.now.1, KT⟩
  clear hb2 B3 KT
  go_wp2_with (refine ld_arr rfl (.tmp 1) rfl w.heap.size rfl HR3.out ?_)
  go_at_call 33
  (with_reducible refine (RK.out _ ?_).mono ?_)
  · exact H.out.below H0.out.1
  rintro e w3 ⟨rfl, hb3⟩
  have H1 : Hid (Below w.heap.size w w3 ∧ Row w3 w.heap.size 34 (arrC ch ((r : Int) - 1) (dm S r) na nn nc ta tn tc) ∧ Row w3 (w.heap.size + 1) 34 zerC ∧ KTo w3 w2.heap.size r 0 (rvT r)) :=
    Lib.hid ⟨H0.out.1.trans (hb3.mono H0.out.1.size), H0.out.2.1.below hb3, H0.out.2.2.1.below hb3, H0.out.2.2.2.below hb3⟩
  clear hb3 H0
  go_wp2_with fail
  go_loopw [10] (fun i wr => ∃ k : Nat, k ≤ r ∧ i = .int .i64 k ∧ Hid (Below w.heap.size w wr ∧ Row wr w.heap.size 34 (arrC ch ((r : Int) - 1) (dm S r) na nn nc ta tn tc) ∧ Row wr (w.heap.size + 1) 34 zerC ∧ KTo wr w2.heap.size r k (rvT r))) (fun i _ => r - (intOf i).toNat)
  case atStart => exact ⟨0, by omega, rfl, H1.out⟩
  case round =>
    obtain ⟨k, hk, rfl, hrel⟩ := hrel
    obtain ⟨hbl, hr0, hr1, hto⟩ := hrel.out
    by_cases hlt : k < r
    · have HBL := Lib.hid hbl
      have HR0 := Lib.hid hr0
      have HRZ := Lib.hid hr1
      have HTO := Lib.hid hto
      have hk0 : (0 : Int) ≤ k := by omega
      have hk1 : (k : Int) < r := by omega
      have w1 := IntWalk.i64_in ((r : Int) - 1 - k) (by omega)
      clear hrel hbl hr0 hr1 hto
      go_wp2_with (refine ld_arr rfl (.tmp 1) rfl w.heap.size rfl HR0.out ?_)
      go_at_call 33
      (with_reducible refine (RK.out _ ?_).mono ?_)
      · exact H.out.below HBL.out
      rintro e w4 ⟨rfl, hb4⟩
      have hto := HTO.out.below hb4
      obtain ⟨⟨z0, x1⟩, y1⟩ := hto.place hlt
      have HN : Hid (Below w.heap.size w (w4.setCell ⟨w2.heap.size, k, none⟩ (.int .i64 ((r : Int) - 1 - k))) ∧ Row (w4.setCell ⟨w2.heap.size, k, none⟩ (.int .i64 ((r : Int) - 1 - k))) w.heap.size 34 (arrC ch ((r : Int) - 1) (dm S r) na nn nc ta tn tc) ∧ Row (w4.setCell ⟨w2.heap.size, k, none⟩ (.int .i64 ((r : Int) - 1 - k))) (w.heap.size + 1) 34 zerC ∧ KTo (w4.setCell ⟨w2.heap.size, k, none⟩ (.int .i64 ((r : Int) - 1 - k))) w2.heap.size r (k + 1) (rvT r)) :=
        Lib.hid ⟨(HBL.out.trans (hb4.mono HBL.out.size)).setCell (p := ⟨w2.heap.size, k, none⟩) hs2 _, (HR0.out.below hb4).far (a := ⟨w2.heap.size, k, none⟩) (by show w.heap.size ≠ w2.heap.size; omega) _, (HRZ.out.below hb4).far (a := ⟨w2.heap.size, k, none⟩) (by show w.heap.size + 1 ≠ w2.heap.size; omega) _, hto.step hlt⟩
      clear hto hb4
      go_wp2
      go_roundw
      case rel => exact ⟨k + 1, by omega, by go_num, HN.out⟩
      case measure => simp [intOf]; omega
    · obtain rfl : k = r := by omega
      have HBL := Lib.hid hbl
      have HR0 := Lib.hid hr0
      have HRZ := Lib.hid hr1
      have HKT := Lib.hid (hto.done (by unfold maxLen; omega))
      clear hrel hbl hr0 hr1 hto
      go_wp2_with (refine ld_arr rfl (.tmp 1) rfl w.heap.size rfl HR0.out ?_)
      go_at_call 69
      (refine (MV.out _ _ _ (H.out.below HBL.out) HKT.out).mono ?_)
      rintro e w5 ⟨cs5, rfl, hcs5, hb5⟩
      have HZ := Lib.hid (HRZ.out.below hb5)
      have HE : Hid (Arr (w5.setRow (w.heap.size + 1) cs5) cs5 (mnF S (rvT k) k) k ch M eC eP eQ ∧ Below w.heap.size w (w5.setRow (w.heap.size + 1) cs5)) := Lib.hid ⟨hcs5.put HZ.out _, below_put (HBL.out.trans (hb5.mono HBL.out.size)) (by omega) _⟩
      obtain ⟨na3, nn3, nc3, ta3, tn3, tc3, hcs3, _⟩ := hcs5.form
      subst hcs3
      clear hcs5 hb5
      unfold arrC
      go_wp2_with (refine st_arr rfl (.tmp 2) (.tmp 24) rfl (w.heap.size + 1) rfl _ _ _ _ _ _ _ _ _ rfl HZ.out rfl ?_)
      exact bodyPost_ret (res_arr Tryz.results26 rfl (HZ.out.put _) rfl) rfl ⟨_, rfl, HE.out⟩
end Go.Proofs.YtkljpofljkgkdaaGreatDoor

namespace Go.Proofs.YtkljpofljkgkdaaGreatDoor
open Go.RowKit
theorem ldPG {ops : Array Oper} {rest : List Oper} {o : Oper} {a : Act} {w : World} {Q : Exit → Act → World → Prop} (hw : Region.wanted o (yielded ops a.tmps) = true) (d : Nat) (ho : o.op = .load 26 (.tmp d)) (g : Nat) (cs : Array Value) (hx : a.eval (.tmp d) = .pointer (some ⟨g, 0, none⟩)) (hr : Row w g 26 cs) (hs : cs.size = 4)
    (h : wpList Tryz.prog ops Q rest (a.put o.dst (.agg cs)) w) : wpList Tryz.prog ops Q (o :: rest) a w := by
  show if Region.wanted o (yielded ops a.tmps) = true then _ else _
  rw [if_pos hw]
  exact Or.inl (wp_load_row 26 (.tmp d) ho g hx 26 cs (0, 0) _ hr Tryz.underlying26 rfl (by rw [pln4, hs]) h)
theorem ax_le4 {S : Nat → Int} {r j : Nat} (h : shB S r = true) (hj : j < r) : 0 ≤ S j ∧ S j ≤ 4096 := by
  obtain ⟨_, hax⟩ := sh_ax h
  have h1 := ax_bd (ax_le (show j + 1 ≤ r by omega) hax)
  have h2 := rm_pos S j
  have h3 : 1 * max (S j) 1 ≤ rm S j * max (S j) 1 := Int.mul_le_mul h2 (Int.le_refl _) (by omega) (by omega)
  have h4 : rm S (j + 1) = rm S j * max (S j) 1 := rfl
  have h5 := ax_nn hax hj
  omega
end Go.Proofs.YtkljpofljkgkdaaGreatDoor

namespace Go.Proofs.YtkljpofljkgkdaaGreatDoor
open Go.RowKit
theorem step_append_run {P : Program} (w : World) {ops : Array Oper} {o : Oper} {a : Act} {K : Act → World → Prop} {Q : Exit → Act → World → Prop} {E : Prop} (hgd : o.guard = none) (s x : Operand) (t tn : TypeId)
    (ho : o.op = .call { callee := .builtin .append, args := #[s, x], argTypes := #[t, tn] }) (vs vx : Value) (hs : a.eval s = vs) (hx : a.eval x = vx)
    (v' : Value) (w' : World) (hr : (Builtin.append_ #[t, tn] o.type #[vs, vx]).run P w = .ok v' w') (h : K (a.put o.dst v') w') : if Region.wanted o (yielded ops a.tmps) = true then Oper.wp P o a w K Q else E := by
  have hw : Region.wanted o (yielded ops a.tmps) = true := by simp [Region.wanted, hgd]
  rw [if_pos hw]
  exact Lib.wp_append_run w s x t tn ho vs vx hs hx v' w' hr h
set_option maxHeartbeats 6400000 in
set_option maxRecDepth 100000 in
theorem rturned_any (al : Option Addr) (cl : Nat) (tf : Nat → Int) (cs : Array Value) (S : Nat → Int) (r : Nat) (ch : Bool) (L : Nat) (g : Nat → Int) (fB : Nat → Bool) (fS fT : Nat → ByteArray) (C M : Nat) (w : World) (hk : KRow w .i64 al r cl tf) (h : Pln w cs S r ch L g fB fS fT)
    (ht : ∀ j, j < r → 0 ≤ tf j ∧ tf j < (C : Int)) (hC : cnN tf r = C) (hC8 : C ≤ 8) (hsh : shB S r = true) (hs2 : shB (mnF S tf r) C = true) (hM : itm (mnF S tf r) C = (M : Nat)) (hL : L ≤ 1000000) :
    Calls Tryz.prog 71 #[.slice al r cl, .agg cs] w fun e w' => ∃ cs', e = .returned (.agg cs') ∧ Pln w' cs' (mnF S tf r) C ch M (fun j => elC L g 32 (mvG S tf r C j)) (fun j => elB L fB (mvG S tf r C j)) (fun j => elS L fS (rS 0) (mvG S tf r C j)) (fun j => elS L fT (str (dec 1)) (mvG S tf r C j)) ∧ Below w.heap.size w w' := by
  obtain ⟨sa, sc, ta, tc, na, nc, hcs, hks⟩ := h.form
  subst hcs
  obtain ⟨h8, hax⟩ := sh_ax hsh
  have hbd2 := ax_bd (sh_ax hs2).2
  have hM4 : M ≤ 4096 := by omega
  have H := Lib.hid h
  have HT := Lib.hid ht
  have B0 := Lib.hid (((((Bag.start w).krow hks).krow hk).newRow (plC sa r sc ch ta (tnO ch L) tc na (nnO ch L) nc) 26).newRow plZer 26)
  simp only [World.size_alloc] at B0
  have HC : Hid (∀ k, k ≤ r → 0 ≤ cnN tf k ∧ cnN tf k ≤ C) := Lib.hid (fun k hk => cnN_bd (by omega) (fun j hj => by have := ht j (by omega); omega))
  have HS : Hid (∀ j, j < r → 0 ≤ S j ∧ S j ≤ 4096) := Lib.hid (fun j hj => ax_le4 hsh hj)
  have ALL := Lib.hid (fun a c wz (q : KRow wz .i64 a C c (mnF S tf r)) => r6All_any a C c (mnF S tf r) M wz q hs2 hM)
  have PLC := Lib.hid (fun a2 c2 f wz (k1 : KRow wz .i64 sa r sc S) (k2 : KRow wz .i64 a2 r c2 f) (hin : inB S f r = true) => rplc_any sa r sc S a2 c2 f wz k1 k2 hax hin)
  have HG : Hid (∀ j, j < M → inB S (fun ax => dgs (mnF S tf r) C (j : Nat) (tf ax).toNat) r = true ∧ plc S (fun ax => dgs (mnF S tf r) C (j : Nat) (tf ax).toNat) r = mvG S tf r C j) := Lib.hid (fun j hj => ⟨inB_of (mv_in hs2 ht (by omega)), rfl⟩)
  have RP := Lib.hid (fun a1 c1 a2 c2 wz (q : Pln wz (plC sa r sc ch ta (tnO ch L) tc na (nnO ch L) nc) S r ch L g fB fS fT) (k1 : KRow wz .i64 a1 C c1 (mnF S tf r)) (k2 : KRow wz .i64 a2 M c2 (mvG S tf r C)) => rpick8_any (plC sa r sc ch ta (tnO ch L) tc na (nnO ch L) nc) S r ch L g fB fS fT a1 C c1 (mnF S tf r) a2 M c2 (mvG S tf r C) wz q k1 k2 (by omega) hL)
  have hl := hk.len
  have hl2 := hks.len
  obtain ⟨G, hGG⟩ : ∃ G, mvG S tf r C = G := ⟨_, rfl⟩
  rw [hGG] at HG RP ⊢
  clear h hk hks ht hsh hs2 hM hax hbd2 hGG
  unfold plC
  go_enter Tryz.func71, Tryz.ntmps71
  go_wp2_with fail
  generalize hW : (World.alloc (World.alloc w _) _) = Y0
  have BB : Hid (Bag w (fun y => Row y (w.heap.size + 1) 26 plZer ∧ Row y w.heap.size 26 (plC sa r sc ch ta (tnO ch L) tc na (nnO ch L) nc) ∧ KRow y .i64 al r cl tf ∧ KRow y .i64 sa r sc S ∧ True) Y0) := by
    subst hW
    exact B0
  clear hW B0
  go_loopw [5, 6] (fun m i wr => ∃ k : Nat, k ≤ r ∧ i = .int .i64 k ∧ m = .int .i64 (cnN tf k - 1) ∧ wr = Y0) (fun _ i _ => r - (intOf i).toNat)
  case atStart => exact ⟨0, by omega, rfl, rfl, rfl⟩
  case round =>
    obtain ⟨k, hk, rfl, rfl, rfl⟩ := hrel
    by_cases hlt : k < r
    · obtain ⟨b, off, rfl, hb, hc⟩ := BB.out.now.2.2.1.get hlt
      have hm : cnN tf (k + 1) = max (cnN tf k) (tf k + 1) := rfl
      have HM := Lib.hid hm
      clear hm
      have hk0 : (0 : Int) ≤ k := by omega
      have hk1 : (k : Int) < r := by omega
      have b1 := HC.out k hk
      have b2 := HT.out k hlt
      generalize cnN tf k = s at *
      generalize tf k = x at *
      by_cases hgt : s - 1 < x
      · have HM2 := Lib.hid (show cnN tf (k + 1) - 1 = x by rw [HM.out]; omega)
        clear b1 b2
        go_wp2
        go_roundw
        case rel => exact ⟨k + 1, by omega, by go_num, by rw [HM2.out], trivial⟩
        case measure => simp [intOf]; omega
      · have HM2 := Lib.hid (show cnN tf (k + 1) - 1 = s - 1 by rw [HM.out]; omega)
        clear b1 b2
        go_wp2
        go_roundw
        case rel => exact ⟨k + 1, by omega, by go_num, by rw [HM2.out], trivial⟩
        case measure => simp [intOf]; omega
    · have hkr : k = r := by omega
      subst k
      rw [hC]
      clear hlt hk
      obtain ⟨y1, hy1⟩ : ∃ y1, y1 = wr := ⟨_, rfl⟩
      subst hy1
      go_wp2_with fail
      go_loopw [7, 8, 9, 10] (fun s kk d ii wr => ∃ (k : Nat) (a : Option Addr) (c : Nat), k ≤ C ∧ s = .slice a k c ∧ kk = .int .i64 k ∧ (∃ v6, v6 = d) ∧ (∃ v7, v7 = ii) ∧ Hid (OwnI y1 wr a k c (mnF S tf r))) (fun _ kk _ _ _ => C - (intOf kk).toNat)
      case atStart => exact ⟨0, none, 0, by omega, rfl, rfl, ⟨_, rfl⟩, ⟨_, rfl⟩, OwnI.nil _ _⟩
      case round =>
        obtain ⟨k, a, c, hk, rfl, rfl, ⟨v6, rfl⟩, ⟨v7, rfl⟩, ho⟩ := hrel
        by_cases hlt : k < C
        · have hk0 : (0 : Int) ≤ k := by omega
          have hk1 : (k : Int) ≤ (C : Int) - 1 := by omega
          have BW := Lib.hid (BB.out.go ho.out.1)
          obtain ⟨y2, hy2⟩ : ∃ y2, y2 = wr := ⟨_, rfl⟩
          subst hy2
          go_wp2_with fail
          go_loopw [9, 10] (fun d ii wr => ∃ i : Nat, i ≤ r ∧ ii = .int .i64 i ∧ d = .int .i64 (mnF S tf i k) ∧ wr = y2) (fun _ ii _ => r - (intOf ii).toNat)
          case atStart => exact ⟨0, by omega, rfl, rfl, rfl⟩
          case round =>
            obtain ⟨i, hi, rfl, rfl, rfl⟩ := hrel
            by_cases hlt2 : i < r
            · obtain ⟨b, off, rfl, hb, hc⟩ := BW.out.now.2.2.1.get hlt2
              obtain ⟨bs, os, rfl, hbs, hcs⟩ := BW.out.now.2.2.2.1.get hlt2
              have x0 : wr.cell? ⟨w.heap.size, 0, none⟩ = some (.slice (some ⟨bs, os, none⟩) r sc) := BW.out.now.2.1.cell 0
              have hm : mnF S tf (i + 1) k = if tf i = (k : Int) then min (mnF S tf i k) (S i) else mnF S tf i k := rfl
              have hi0 : (0 : Int) ≤ i := by omega
              have hi1 : (i : Int) < r := by omega
              by_cases he : tf i = (k : Int)
              · rw [if_pos he] at hm
                rw [he] at hc
                have dq : (((k : Nat) : Int) == (k : Nat)) = true := beq_self_eq_true _
                have HM := Lib.hid hm
                clear hm he
                generalize mnF S tf i k = s at *
                generalize S i = x at *
                by_cases hgt : x < s
                · have HM2 := Lib.hid (show mnF S tf (i + 1) k = x by rw [HM.out]; omega)
                  go_wp2
                  go_roundw
                  case rel => exact ⟨i + 1, by omega, by go_num, by rw [HM2.out], trivial⟩
                  case measure => simp [intOf]; omega
                · have HM2 := Lib.hid (show mnF S tf (i + 1) k = s by rw [HM.out]; omega)
                  go_wp2
                  go_roundw
                  case rel => exact ⟨i + 1, by omega, by go_num, by rw [HM2.out], trivial⟩
                  case measure => simp [intOf]; omega
              · rw [if_neg he] at hm
                have dq : (tf i == (k : Int)) = false := beq_eq_false_iff_ne.2 he
                have HM2 := Lib.hid hm
                clear hm he
                generalize mnF S tf i k = s at *
                generalize tf i = x at *
                go_wp2
                go_roundw
                case rel => exact ⟨i + 1, by omega, by go_num, by rw [HM2.out], trivial⟩
                case measure => simp [intOf]; omega
            · have hir : i = r := by omega
              subst i
              obtain ⟨a', c', y3, hr3, ho'⟩ := app1_step ho.out (x := mnF S tf r k) rfl (by omega)
              have HO' := Lib.hid ho'
              clear ho' hi hlt2
              generalize mnF S tf r k = s at *
              go_wp2_with (at_builtin; refine Lib.wpList_append_run _ rfl _ _ _ _ rfl _ _ rfl rfl _ _ hr3 ?_)
              go_roundw
              case rel => exact ⟨k + 1, a', c', by omega, rfl, by go_num, ⟨_, rfl⟩, ⟨_, rfl⟩, HO'⟩
              case measure => simp [intOf]; omega
        · have hkC : k = C := by omega
          subst k
          have hk1 : ¬ ((C : Int) ≤ (C : Int) - 1) := by omega
          have HKM := Lib.hid ho.out.krow
          have BB := Lib.hid ((BB.out.go ho.out.1).krow HKM.out)
          clear hk hlt ho
          go_wp2_with fail
          go_at_call 55
          (with_reducible refine (ALL.out _ _ _ ?_).mono ?_)
          · exact BB.out.now.1
          rintro e y4 ⟨a8, c8, A, CC, rfl, hlr, hb3⟩
          have BB := Lib.hid (BB.out.go hb3)
          have HLR := Lib.hid hlr
          have hl8 := hlr.1
          have hl9 := hlr.2.1
          unfold maxLen at hl9
          clear hb3 hlr HKM hk1
          go_wp2_with fail
          go_loopw [12, 13, 14, 15] (fun s ii ix kk wr => ∃ (j : Nat) (a : Option Addr) (c : Nat), j ≤ M ∧ s = .slice a j c ∧ ii = .int .i64 j ∧ (∃ v6, v6 = ix) ∧ (∃ v7, v7 = kk) ∧ Hid (OwnI y4 wr a j c G)) (fun _ ii _ _ _ => M - (intOf ii).toNat)
          case atStart => exact ⟨0, none, 0, by omega, rfl, rfl, ⟨_, rfl⟩, ⟨_, rfl⟩, OwnI.nil _ _⟩
          case round =>
            obtain ⟨j, a, c, hj, rfl, rfl, ⟨v6, rfl⟩, ⟨v7, rfl⟩, ho⟩ := hrel
            have BW := Lib.hid (BB.out.go ho.out.1)
            by_cases hlt : j < M
            · have hj0 : (0 : Int) ≤ j := by omega
              have hj1 : (j : Int) < M := by omega
              obtain ⟨y5, hy5⟩ : ∃ y5, y5 = wr := ⟨_, rfl⟩
              subst hy5
              have HL := Lib.hid (HLR.out.below ho.out.1)
              go_wp2_with fail
              go_loopw [14, 15] (fun s kk wr => ∃ (k : Nat) (a : Option Addr) (c : Nat), k ≤ r ∧ s = .slice a k c ∧ kk = .int .i64 k ∧ Hid (OwnI y5 wr a k c (fun ax => dgs (mnF S tf r) C (j : Nat) (tf ax).toNat))) (fun _ kk _ => r - (intOf kk).toNat)
              case atStart => exact ⟨0, none, 0, by omega, rfl, rfl, OwnI.nil _ _⟩
              case round =>
                obtain ⟨k, ai, ci, hk, rfl, rfl, hoi⟩ := hrel
                have BV := Lib.hid (BW.out.go hoi.out.1)
                by_cases hlt2 : k < r
                · obtain ⟨b, off, rfl, hb, hc, hrow, _⟩ := HL.out.get hlt
                  obtain ⟨bl, ol, rfl, hbl, hcl⟩ := BW.out.now.2.2.2.1.get hlt2
                  have htk := HT.out k hlt2
                  obtain ⟨tk, htk2⟩ : ∃ n : Nat, tf k = n := ⟨(tf k).toNat, by omega⟩
                  obtain ⟨br, orr, haj, hbr, hcr⟩ := hrow.get (j := tk) (by omega)
                  have hk0 : (0 : Int) ≤ k := by omega
                  have hk1 : (k : Int) < r := by omega
                  have ht0 : (0 : Int) ≤ tk := by omega
                  have ht1 : (tk : Int) < C := by omega
                  rw [htk2] at hcl
                  have hval : dgs (mnF S tf r) C (j : Nat) tk = (fun ax => dgs (mnF S tf r) C (j : Nat) (tf ax).toNat) k := by
                    show _ = dgs (mnF S tf r) C (j : Nat) (tf k).toNat
                    rw [htk2, Int.toNat_natCast]
                  rw [haj] at hc
                  have BD : Hid (Below y5.heap.size y5 wr.drew) := Lib.hid hoi.out.1.drew
                  have HSZ : Hid (y5.heap.size ≤ wr.drew.heap.size) := Lib.hid hoi.out.1.drew.size
                  obtain ⟨a', c', y6, hr6, ho6⟩ := app1_step (y0 := y5) (wr := wr.drew) (hoi.out.go (Below.refl _ wr).drew) hval (by omega)
                  have HO6 := Lib.hid ho6
                  clear ho6 hrow haj htk htk2 hval
                  generalize dgs (mnF S tf r) C (j : Nat) tk = d at *
                  generalize CC j = cj at *
                  have HSF : Hid (∀ y, Below y5.heap.size y5 y → y.cell? ⟨b, off + j, none⟩ = some (.slice (some ⟨br, orr, none⟩) C cj) ∧ y.cell? ⟨bl, ol + k, none⟩ = some (.int .i64 tk) ∧ y.cell? ⟨br, orr + tk, none⟩ = some (.int .i64 d)) := Lib.hid (fun y hy => ⟨(hy.cell (p := ⟨b, off + j, none⟩) hb).trans hc, (hy.cell (p := ⟨bl, ol + k, none⟩) hbl).trans hcl, (hy.cell (p := ⟨br, orr + tk, none⟩) hbr).trans hcr⟩)
                  clear hc hcl hcr
                  go_wp2_with fail
                  go_region_held3 (fun y => y.cell? ⟨b, off + j, none⟩ = some (.slice (some ⟨br, orr, none⟩) C cj) ∧ y.cell? ⟨bl, ol + k, none⟩ = some (.int .i64 tk) ∧ y.cell? ⟨br, orr + tk, none⟩ = some (.int .i64 d))
                    (first
                      | exact HSF.out _ HO6.out.1
                      | exact HSF.out _ BD.out
                      | exact HSF.out _ (BD.out.alloc HSZ.out _))
                    ((refine step_append_run _ rfl (.tmp 81) (.tmp 92) _ _ rfl _ _ rfl rfl _ _ hr6 ?_))
                  go_wp2
                  go_roundw
                  case rel => exact ⟨k + 1, a', c', by omega, rfl, by go_num, HO6⟩
                  case measure => simp [intOf]; omega
                · have hkr : k = r := by omega
                  subst k
                  have HKI := Lib.hid hoi.out.krow
                  have HIN := Lib.hid (HG.out j hlt)
                  have x0 : wr.cell? ⟨w.heap.size, 0, none⟩ = some (.slice sa r sc) := BV.out.now.2.2.1.cell 0
                  clear hk hlt2
                  generalize (fun ax => dgs (mnF S tf r) C (j : Nat) (tf ax).toNat) = F at *
                  go_wp2_with fail
                  go_at_call 56
                  (refine (PLC.out _ _ _ _ BV.out.now.2.2.2.2.1 HKI.out HIN.out.1).mono ?_)
                  rintro e w9 ⟨rfl, hb9⟩
                  obtain ⟨a', c', y7, hr7, ho7⟩ := app1_step (ho.out.go (hoi.out.1.trans (hb9.mono hoi.out.1.size))) HIN.out.2 (by omega)
                  have HO7 := Lib.hid ho7
                  clear ho7 hb9 x0
                  go_wp2_with (at_builtin; refine Lib.wpList_append_run _ rfl _ _ _ _ rfl _ _ rfl rfl _ _ hr7 ?_)
                  go_roundw
                  case rel => exact ⟨j + 1, a', c', by omega, rfl, by go_num, ⟨_, rfl⟩, ⟨_, rfl⟩, HO7⟩
                  case measure => simp [intOf]; omega
            · have hjM : j = M := by omega
              subst j
              have HKK := Lib.hid ho.out.krow
              have HR3 := Lib.hid BW.out.now.2.2.1
              clear hj hlt ho
              go_wp2_with (refine ld_pln rfl (.tmp 3) rfl w.heap.size rfl HR3.out ?_)
              go_at_call 51
              (with_reducible refine (RP.out _ _ _ _ _ ?_ ?_ ?_).mono ?_)
              · exact H.out.below BW.out.below
              · exact BW.out.now.1
              · exact HKK.out
              rintro e w9 ⟨cs', rfl, hq, hb9⟩
              have BW := Lib.hid (BW.out.go hb9)
              obtain ⟨sq, scq, tq, tcq, nq, ncq, rfl, _⟩ := hq.form
              have HZ := Lib.hid BW.out.now.2.1
              have HE := Lib.hid (And.intro (hq.put HZ.out (plC sq C scq ch tq (tnO ch M) tcq nq (nnO ch M) ncq)) (below_put BW.out.below (show w.heap.size ≤ w.heap.size + 1 by omega) (plC sq C scq ch tq (tnO ch M) tcq nq (nnO ch M) ncq)))
              clear hq hb9
              go_wp2_with (refine st_pln rfl (.tmp 4) (.tmp 104) rfl (w.heap.size + 1) rfl _ _ _ _ _ _ _ _ _ _ rfl HZ.out rfl ?_)
              exact bodyPost_ret (res_pln Tryz.results71 rfl (HZ.out.put _) rfl) rfl ⟨_, rfl, HE.out⟩
end Go.Proofs.YtkljpofljkgkdaaGreatDoor

namespace Go.Proofs.YtkljpofljkgkdaaGreatDoor
open Go.RowKit
set_option maxHeartbeats 3200000 in
set_option maxRecDepth 100000 in
theorem rTranspose_any (cs : Array Value) (S : Nat → Int) (r : Nat) (ch : Bool) (L : Nat) (g : Nat → Int) (fB : Nat → Bool) (fS fT : Nat → ByteArray) (M : Nat) (w : World) (h : Pln w cs S r ch L g fB fS fT) (hsh : shB S r = true) (hM : itm (mnF S (rvT r) r) r = (M : Nat)) (hL : L ≤ 1000000) :
    Calls Tryz.prog 27 #[.agg cs] w fun e w' => ∃ cs', e = .returned (.agg cs') ∧ Pln w' cs' (mnF S (rvT r) r) r ch M (fun j => elC L g 32 (mvG S (rvT r) r r j)) (fun j => elB L fB (mvG S (rvT r) r r j)) (fun j => elS L fS (rS 0) (mvG S (rvT r) r r j)) (fun j => elS L fT (str (dec 1)) (mvG S (rvT r) r r j)) ∧ Below w.heap.size w w' := by
  obtain ⟨sa, sc, ta, tc, na, nc, hcs, _⟩ := h.form
  subst hcs
  have h8 := (sh_ax hsh).1
  have H := Lib.hid h
  have TU := Lib.hid (fun al cl wz (k : KRow wz .i64 al r cl (rvT r)) (q : Pln wz (plC sa r sc ch ta (tnO ch L) tc na (nnO ch L) nc) S r ch L g fB fS fT) => rturned_any al cl (rvT r) (plC sa r sc ch ta (tnO ch L) tc na (nnO ch L) nc) S r ch L g fB fS fT r M wz k q (fun j hj => by unfold rvT; omega) (rvT_count r) h8 hsh (rvT_shape hsh) hM hL)
  generalize (fun j => elC L g 32 (mvG S (rvT r) r r j)) = eC at *
  generalize (fun j => elB L fB (mvG S (rvT r) r r j)) = eB at *
  generalize (fun j => elS L fS (rS 0) (mvG S (rvT r) r r j)) = eS at *
  generalize (fun j => elS L fT (str (dec 1)) (mvG S (rvT r) r r j)) = eT at *
  have B0 := Lib.hid (((Bag.start w).newRow (plC sa r sc ch ta (tnO ch L) tc na (nnO ch L) nc) 26).newRow plZer 26)
  simp only [World.size_alloc] at B0
  clear h hsh hM
  unfold plC
  go_enter Tryz.func27, Tryz.ntmps27
  go_wp2_with fail
  generalize hW : (World.alloc (World.alloc w _) _) = Y0
  have BB : Hid (Bag w (fun y => Row y (w.heap.size + 1) 26 plZer ∧ Row y w.heap.size 26 (plC sa r sc ch ta (tnO ch L) tc na (nnO ch L) nc) ∧ True) Y0) := by
    subst hW
    exact B0
  clear hW B0
  go_loopw [3, 4] (fun s i wr => ∃ (k : Nat) (a : Option Addr) (c : Nat), k ≤ r ∧ s = .slice a k c ∧ i = .int .i64 k ∧ Hid (OwnI Y0 wr a k c (rvT r))) (fun _ i _ => r - (intOf i).toNat)
  case atStart => exact ⟨0, none, 0, by omega, rfl, rfl, OwnI.nil _ _⟩
  case round =>
    obtain ⟨k, a, c, hk, rfl, rfl, ho⟩ := hrel
    have BW := Lib.hid (BB.out.go ho.out.1)
    have x0 : wr.cell? ⟨w.heap.size, 0, none⟩ = some (.slice sa r sc) := BW.out.now.2.1.cell 0
    by_cases hlt : k < r
    · have hk0 : (0 : Int) ≤ k := by omega
      have hk1 : (k : Int) < r := by omega
      have hw1 := IntWalk.i64_in ((r : Int) - 1) (by omega)
      have hw2 := IntWalk.i64_in ((r : Int) - 1 - k) (by omega)
      obtain ⟨a', c', y3, hr3, ho'⟩ := app1_step ho.out (x := (r : Int) - 1 - k) rfl (by omega)
      have HO' := Lib.hid ho'
      clear ho'
      go_wp2_with (at_builtin; refine Lib.wpList_append_run _ rfl _ _ _ _ rfl _ _ rfl rfl _ _ hr3 ?_)
      go_roundw
      case rel => exact ⟨k + 1, a', c', by omega, rfl, by go_num, HO'⟩
      case measure => simp [intOf]; omega
    · have hkr : k = r := by omega
      subst k
      have HKK := Lib.hid ho.out.krow
      have HR3 := Lib.hid BW.out.now.2.1
      clear hk hlt ho
      go_wp2_with (refine ld_pln rfl (.tmp 1) rfl w.heap.size rfl HR3.out ?_)
      go_at_call 71
      (with_reducible refine (TU.out _ _ _ HKK.out ?_).mono ?_)
      · exact H.out.below BW.out.below
      rintro e w9 ⟨cs', rfl, hq, hb9⟩
      have BW := Lib.hid (BW.out.go hb9)
      obtain ⟨sq, scq, tq, tcq, nq, ncq, rfl, _⟩ := hq.form
      have HZ := Lib.hid BW.out.now.1
      have HE := Lib.hid (And.intro (hq.put HZ.out (plC sq r scq ch tq (tnO ch M) tcq nq (nnO ch M) ncq)) (below_put BW.out.below (show w.heap.size ≤ w.heap.size + 1 by omega) (plC sq r scq ch tq (tnO ch M) tcq nq (nnO ch M) ncq)))
      clear hq hb9 x0
      go_wp2_with (refine st_pln rfl (.tmp 2) (.tmp 23) rfl (w.heap.size + 1) rfl _ _ _ _ _ _ _ _ _ _ rfl HZ.out rfl ?_)
      exact bodyPost_ret (res_pln Tryz.results27 rfl (HZ.out.put _) rfl) rfl ⟨_, rfl, HE.out⟩
end Go.Proofs.YtkljpofljkgkdaaGreatDoor

namespace Go.Proofs.YtkljpofljkgkdaaGreatDoor
open Go.RowKit
theorem rgB_of {f : Nat → Int} {o : Int} {m : Nat} : ∀ {n : Nat}, (∀ j, j < n → o ≤ f j ∧ f j - o < (m : Int)) → rgB f o m n = true
  | 0, _ => rfl
  | n + 1, h => by
    unfold rgB
    rw [rgB_of (fun j hj => h j (by omega)), decide_eq_true (h n (by omega)).1, decide_eq_true (h n (by omega)).2]
    rfl
theorem alB_of {t : Nat → Int} {n : Nat} : ∀ {m : Nat}, (∀ j, j < m → hasB t (j : Nat) n = true) → alB t n m = true
  | 0, _ => rfl
  | m + 1, h => by
    unfold alB
    rw [alB_of (fun j hj => h j (by omega)), h m (by omega)]
    rfl
theorem cn_has {t : Nat → Int} : ∀ {n : Nat}, 0 < cnN t n → ∃ j, j < n ∧ t j = cnN t n - 1
  | 0, h => absurd h (by show ¬ (0 : Int) < 0; omega)
  | n + 1, h => by
    have e : cnN t (n + 1) = max (cnN t n) (t n + 1) := rfl
    rw [e] at h ⊢
    by_cases hh : cnN t n ≤ t n + 1
    · exact ⟨n, by omega, by omega⟩
    · obtain ⟨j, h1, h2⟩ := cn_has (t := t) (n := n) (by omega)
      exact ⟨j, by omega, by omega⟩
set_option maxHeartbeats 6400000 in
set_option maxRecDepth 100000 in
theorem rTransposeBy_any (cs0 : Array Value) (S0 : Nat → Int) (r0 : Nat) (ch0 : Bool) (L0 : Nat) (g0 : Nat → Int) (fB0 : Nat → Bool) (fS0 fT0 : Nat → ByteArray) (P0 : Nat → Int) (Q0 : Nat → Nat) (cs : Array Value) (S : Nat → Int) (r : Nat) (ch : Bool) (L : Nat) (g : Nat → Int) (fB : Nat → Bool) (fS fT : Nat → ByteArray) (o : Int) (w : World)
    (h0 : Pln w cs0 S0 r0 ch0 L0 g0 fB0 fS0 fT0) (h : Pln w cs S r ch L g fB fS fT) (hN0 : NumOk fB0 fS0 fT0 P0 Q0 (nnO ch0 L0)) (hL0 : L0 ≤ 1000000) (hsh : shB S r = true) (hL : L ≤ 1000000) (hor : 0 ≤ o ∧ o ≤ 1) :
    Calls Tryz.prog 25 #[.agg cs0, .agg cs, .int .i64 o] w fun e w' => PoTold (tbE r0 ch0 L0 P0 Q0 r o) (mnF S (toF P0 o) r) (cnN (toF P0 o) r).toNat ch (itm (mnF S (toF P0 o) r) (cnN (toF P0 o) r).toNat).toNat (fun j => elC L g 32 (mvG S (toF P0 o) r (cnN (toF P0 o) r).toNat j)) (fun j => elB L fB (mvG S (toF P0 o) r (cnN (toF P0 o) r).toNat j)) (fun j => elS L fS (rS 0) (mvG S (toF P0 o) r (cnN (toF P0 o) r).toNat j)) (fun j => elS L fT (str (dec 1)) (mvG S (toF P0 o) r (cnN (toF P0 o) r).toNat j)) w w' e := by
  obtain ⟨sb, scb, tb, tcb, nb, ncb, hcs0, _⟩ := h0.form
  subst hcs0
  obtain ⟨sa, sc, ta, tc, na, nc, hcs, _⟩ := h.form
  subst hcs
  have h8 := (sh_ax hsh).1
  have H0 := Lib.hid h0
  have H := Lib.hid h
  have LI := Lib.hid (fun wz h => rlist_any (plC sb r0 scb ch0 tb (tnO ch0 L0) tcb nb (nnO ch0 L0) ncb) S0 r0 ch0 L0 g0 fB0 fS0 fT0 P0 Q0 wz h hN0 hL0)
  have BB := Lib.hid ((((Bag.start w).newRow (plC sb r0 scb ch0 tb (tnO ch0 L0) tcb nb (nnO ch0 L0) ncb) 26).newRow (plC sa r sc ch ta (tnO ch L) tc na (nnO ch L) nc) 26).newRow plZer 26)
  simp only [World.size_alloc] at BB
  have HR1 := Lib.hid BB.out.now.2.2.1
  unfold LiTold at LI
  obtain ⟨EE, hEE⟩ : ∃ EE, tbE r0 ch0 L0 P0 Q0 r o = EE := ⟨_, rfl⟩
  rw [hEE]
  unfold tbE at hEE
  have HI : Hid (liE r0 (whC ch0 L0 P0 Q0) = 0 → In64 P0 L0) := Lib.hid (fun e => whC_in (liE_whole e))
  generalize liE r0 (whC ch0 L0 P0 Q0) = E0 at *
  obtain ⟨T, hTT⟩ : ∃ T, toF P0 o = T := ⟨_, rfl⟩
  rw [hTT]
  obtain ⟨CC, hCC⟩ : ∃ C, (cnN T r).toNat = C := ⟨_, rfl⟩
  rw [hCC]
  obtain ⟨MM, hMM⟩ : ∃ C, (itm (mnF S T r) CC).toNat = C := ⟨_, rfl⟩
  rw [hMM]
  obtain ⟨eC, heC⟩ : ∃ f : Nat → Int, (fun j => elC L g 32 (mvG S T r CC j)) = f := ⟨_, rfl⟩
  obtain ⟨eB, heB⟩ : ∃ f : Nat → Bool, (fun j => elB L fB (mvG S T r CC j)) = f := ⟨_, rfl⟩
  obtain ⟨eS, heS⟩ : ∃ f : Nat → ByteArray, (fun j => elS L fS (rS 0) (mvG S T r CC j)) = f := ⟨_, rfl⟩
  obtain ⟨eT, heT⟩ : ∃ f : Nat → ByteArray, (fun j => elS L fT (str (dec 1)) (mvG S T r CC j)) = f := ⟨_, rfl⟩
  rw [heC, heB, heS, heT]
  have HNO : Hid (∀ (E : Int) wz, EE = E → E ≠ 0 → Below w.heap.size w wz → PoTold EE (mnF S T r) CC ch MM eC eB eS eT w (wz.setRow (w.heap.size + 1 + 1) plZer) (.returned (.tuple #[.agg plZer, .int .i64 E]))) := Lib.hid (fun E wz e hE hb => by
    subst e
    exact PoTold.no hE (below_put hb (show w.heap.size ≤ w.heap.size + 1 + 1 by omega) plZer))
  have HFIN : Hid (EE = 0 → ∀ y v, PoTold 0 (mnF S T r) CC ch MM eC eB eS eT w y v → PoTold EE (mnF S T r) CC ch MM eC eB eS eT w y v) := Lib.hid (fun e y v q => by rw [e]; exact q)
  by_cases hE : E0 = 0
  · have hin := HI.out hE
    rw [if_pos hE] at hEE
    subst hE
    clear HI hN0
    by_cases hlr : L0 = r
    · subst hlr
      rw [if_pos rfl] at hEE
      have d1 : ((L0 : Int) != L0) = false := bne_self_eq_false _
      have HB1 : Hid (∀ k, k < L0 → ¬ (o ≤ P0 k ∧ P0 k - o < (L0 : Int)) → EE = 22) := Lib.hid (fun k hk hb => by
        rw [← hEE]
        unfold mvB
        rw [rgB_no hk hb]
        rfl)
      have HCN : Hid ((∀ j, j < L0 → o ≤ P0 j ∧ P0 j - o < (L0 : Int)) → cnN T L0 = (CC : Nat)) := Lib.hid (fun hok => by
        have := (cnN_bd (f := T) (B := 8) (by omega) (n := L0) (fun j hj => by have := hok j hj; rw [← hTT]; show P0 j - o + 1 ≤ 8; omega)).1
        omega)
      have HC8 : Hid ((∀ j, j < L0 → o ≤ P0 j ∧ P0 j - o < (L0 : Int)) → CC ≤ 8) := Lib.hid (fun hok => by
        have := (cnN_bd (f := T) (B := 8) (by omega) (n := L0) (fun j hj => by have := hok j hj; rw [← hTT]; show P0 j - o + 1 ≤ 8; omega)).2
        omega)
      have HB2 : Hid ((∀ j, j < L0 → o ≤ P0 j ∧ P0 j - o < (L0 : Int)) → ∀ k, k < CC → hasB T (k : Nat) L0 = false → EE = 22) := Lib.hid (fun hok k hk hb => by
        rw [← hEE]
        unfold mvB
        rw [rgB_of hok, hTT, hCC, alB_no hk hb]
        rfl)
      have HGOOD : Hid ((∀ j, j < L0 → o ≤ P0 j ∧ P0 j - o < (L0 : Int)) → (∀ k, k < CC → hasB T (k : Nat) L0 = true) → EE = 0 ∧ mvB P0 o L0 = true) := Lib.hid (fun hok hh => by
        have e : mvB P0 o L0 = true := by
          unfold mvB
          rw [rgB_of hok, hTT, hCC, alB_of hh]
          rfl
        exact ⟨by rw [← hEE, e, if_pos rfl], e⟩)
      have HTOP : Hid ((∀ j, j < L0 → o ≤ P0 j ∧ P0 j - o < (L0 : Int)) → ∀ j, (j : Nat) + 1 = CC → hasB T (j : Nat) L0 = true) := Lib.hid (fun hok j hj => by
        have h1 := HCN.out hok
        obtain ⟨x, hx, he⟩ := cn_has (t := T) (n := L0) (by omega)
        exact hasB_yes.2 ⟨x, hx, by omega⟩)
      have TU : Hid (mvB P0 o L0 = true → ∀ al cl wz, KRow wz .i64 al L0 cl T → Pln wz (plC sa L0 sc ch ta (tnO ch L) tc na (nnO ch L) nc) S L0 ch L g fB fS fT → Calls Tryz.prog 71 #[.slice al L0 cl, .agg (plC sa L0 sc ch ta (tnO ch L) tc na (nnO ch L) nc)] wz fun e w' => ∃ cs', e = .returned (.agg cs') ∧ Pln w' cs' (mnF S T L0) CC ch MM eC eB eS eT ∧ Below wz.heap.size wz w') := Lib.hid (fun hmv al cl wz k q => by
        obtain ⟨C, M, hC, hM, ht, hs2⟩ := mv_good (S := S) hmv h8 hsh
        rw [hTT] at hC hM ht hs2
        have e1 : C = CC := by omega
        subst e1
        have e2 : M = MM := by omega
        subst e2
        have hC8 : C ≤ 8 := (sh_ax hs2).1
        have := rturned_any al cl T (plC sa L0 sc ch ta (tnO ch L) tc na (nnO ch L) nc) S L0 ch L g fB fS fT C M wz k q ht hC hC8 hsh hs2 hM hL
        rw [heC, heB, heS, heT] at this
        exact this)
      have hp64 : ∀ k, k < L0 → -9223372036854775808 ≤ P0 k ∧ P0 k ≤ 9223372036854775807 := fun k hk => hin k hk
      clear hEE hCC hMM heC heB heS heT h0 h hin hsh
      unfold plC
      go_enter Tryz.func25, Tryz.ntmps25
      go_wp2_with (refine ld_pln rfl (.tmp 3) rfl w.heap.size rfl HR1.out ?_)
      go_at_call 48
      (with_reducible refine (LI.out _ ?_).mono ?_)
      · exact H0.out.below BB.out.below
      rintro e w2 ⟨a6, m6, c6, rfl, hk6, hb2⟩
      obtain ⟨hm6, hk7⟩ := hk6 trivial
      clear hk6
      subst m6
      have BB := Lib.hid ((BB.out.go hb2).krow hk7)
      have hl := hk7.len
      clear hk7 hb2
      have x1 : w2.cell? ⟨w.heap.size + 1, 0, none⟩ = some (.slice sa L0 sc) := BB.out.now.2.2.1.cell 0
      go_wp2_with fail
      go_loopw [10, 11, 12] (fun ms s i wr => ∃ (k : Nat) (a : Option Addr) (c : Nat), k ≤ L0 ∧ s = .slice a k c ∧ i = .int .i64 k ∧ ms = .int .i64 (cnN T k - 1) ∧ Hid (OwnI w2 wr a k c T ∧ ∀ j, j < k → o ≤ P0 j ∧ P0 j - o < (L0 : Int))) (fun _ _ i _ => L0 - (intOf i).toNat)
      case atStart => exact ⟨0, none, 0, by omega, rfl, rfl, rfl, OwnI.nil _ _, fun j hj => absurd hj (Nat.not_lt_zero _)⟩
      case round =>
        obtain ⟨k, a, c, hk, rfl, rfl, rfl, ho⟩ := hrel
        have BW := Lib.hid (BB.out.go ho.out.1.1)
        by_cases hlt : k < L0
        · obtain ⟨b, off, rfl, hb2, hc2⟩ := BB.out.now.1.get hlt
          have hc := (ho.out.1.1.cell (p := ⟨b, off + k, none⟩) hb2).trans hc2
          have hb := Nat.lt_of_lt_of_le hb2 ho.out.1.1.size
          have HC2 := Lib.hid hc2
          have HB2' := Lib.hid hb2
          have hk0 : (0 : Int) ≤ k := by omega
          have hk1 : (k : Int) < L0 := by omega
          have hw1 := IntWalk.i64_in (o + (L0 : Int)) (by omega)
          clear hc2 hb2
          by_cases h1 : P0 k < o
          · have HQ : Hid (EE = 22) := Lib.hid (HB1.out k hlt (by omega))
            generalize P0 k = x at *
            have HZ := Lib.hid BW.out.now.2.1
            have HE := Lib.hid (HNO.out 22 _ HQ.out (by decide) BW.out.below)
            go_wp2_with (refine st_pln rfl (.tmp 6) (.tmp 53) rfl (w.heap.size + 1 + 1) rfl none 0 0 false none 0 0 none 0 0 rfl HZ.out rfl ?_)
            exact bodyPost_ret (res_pln2 Tryz.results25 rfl rfl (HZ.out.put _) rfl) rfl HE.out
          · by_cases h2 : o + (L0 : Int) ≤ P0 k
            · have HQ : Hid (EE = 22) := Lib.hid (HB1.out k hlt (by omega))
              have h3 : ¬ (P0 k < o + (L0 : Int)) := by omega
              generalize P0 k = x at *
              have HZ := Lib.hid BW.out.now.2.1
              have HE := Lib.hid (HNO.out 22 _ HQ.out (by decide) BW.out.below)
              go_wp2_with (refine st_pln rfl (.tmp 6) (.tmp 53) rfl (w.heap.size + 1 + 1) rfl none 0 0 false none 0 0 none 0 0 rfl HZ.out rfl ?_)
              exact bodyPost_ret (res_pln2 Tryz.results25 rfl rfl (HZ.out.put _) rfl) rfl HE.out
            · have hw2 := IntWalk.i64_in (P0 k - o) (by omega)
              have h3 : P0 k < o + (L0 : Int) := by omega
              have HOK2 : Hid (∀ j, j < k + 1 → o ≤ P0 j ∧ P0 j - o < (L0 : Int)) := Lib.hid (fun j hj => by
                rcases Nat.lt_or_ge j k with h | h
                · exact ho.out.2 j h
                · obtain rfl : j = k := by omega
                  omega)
              have htk : P0 k - o = T k := by rw [← hTT]; rfl
              have hm : cnN T (k + 1) = max (cnN T k) (T k + 1) := rfl
              rw [← htk] at hm
              have HM := Lib.hid hm
              obtain ⟨a', c', y3, hr3, ho'⟩ := app1_step ho.out.1 htk (by omega)
              have HO' := Lib.hid (And.intro ho' HOK2.out)
              have c3 : y3.cell? ⟨b, off + k, none⟩ = some (.int .i64 (P0 k)) := (ho'.1.cell (p := ⟨b, off + k, none⟩) HB2'.out).trans HC2.out
              clear ho' htk hm HOK2 ho
              generalize cnN T k = s at *
              generalize P0 k = x at *
              by_cases hgt : s - 1 < x - o
              · have HM2 := Lib.hid (show cnN T (k + 1) - 1 = x - o by rw [HM.out]; omega)
                go_wp2_with (at_builtin; refine Lib.wpList_append_run _ rfl _ _ _ _ rfl _ _ rfl rfl _ _ hr3 ?_)
                go_roundw
                case rel => exact ⟨k + 1, a', c', by omega, rfl, by go_num, by rw [HM2.out], HO'⟩
                case measure => simp [intOf]; omega
              · have HM2 := Lib.hid (show cnN T (k + 1) - 1 = s - 1 by rw [HM.out]; omega)
                go_wp2_with (at_builtin; refine Lib.wpList_append_run _ rfl _ _ _ _ rfl _ _ rfl rfl _ _ hr3 ?_)
                go_roundw
                case rel => exact ⟨k + 1, a', c', by omega, rfl, by go_num, by rw [HM2.out], HO'⟩
                case measure => simp [intOf]; omega
        · have hkL : k = L0 := by omega
          subst k
          have hok := ho.out.2
          have hcn := HCN.out hok
          have hc8 := HC8.out hok
          rw [hcn]
          have HOK := Lib.hid hok
          have HKM := Lib.hid ho.out.1.krow
          clear hk hlt hok hcn ho
          obtain ⟨y4, hy4⟩ : ∃ y4, y4 = wr := ⟨_, rfl⟩
          subst hy4
          go_wp2_with fail
          go_loopw [13] (fun i wr => ∃ k : Nat, k ≤ CC ∧ i = .int .i64 k ∧ Hid (∀ j, j < k → hasB T (j : Nat) L0 = true) ∧ wr = y4) (fun i _ => CC - (intOf i).toNat)
          case atStart => exact ⟨0, by omega, rfl, Lib.hid (fun j hj => absurd hj (Nat.not_lt_zero _)), rfl⟩
          case round =>
            obtain ⟨k, hk, rfl, HH, rfl⟩ := hrel
            by_cases hlt : (k : Int) < (CC : Int) - 1
            · have hk0 : (0 : Int) ≤ k := by omega
              have RH := Lib.hid (rhas_any a L0 c T (k : Nat) _ HKM.out)
              cases hh : hasB T (k : Nat) L0 with
              | false =>
                rw [hh] at RH
                have HQ : Hid (EE = 22) := Lib.hid (HB2.out HOK.out k (by omega) hh)
                clear hh
                go_wp2_with fail
                go_at_call 70
                (with_reducible refine RH.out.mono ?_)
                rintro e w5 ⟨rfl, rfl⟩
                have HZ := Lib.hid BW.out.now.2.1
                have HE := Lib.hid (HNO.out 22 _ HQ.out (by decide) BW.out.below)
                go_wp2_with (refine st_pln rfl (.tmp 6) (.tmp 86) rfl (w.heap.size + 1 + 1) rfl none 0 0 false none 0 0 none 0 0 rfl HZ.out rfl ?_)
                exact bodyPost_ret (res_pln2 Tryz.results25 rfl rfl (HZ.out.put _) rfl) rfl HE.out
              | true =>
                rw [hh] at RH
                have HH2 : Hid (∀ j, j < k + 1 → hasB T (j : Nat) L0 = true) := Lib.hid (fun j hj => by
                  rcases Nat.lt_or_ge j k with h | h
                  · exact HH.out j h
                  · obtain rfl : j = k := by omega
                    exact hh)
                clear hh
                go_wp2_with fail
                go_at_call 70
                (with_reducible refine RH.out.mono ?_)
                rintro e w5 ⟨rfl, rfl⟩
                go_wp2
                go_roundw
                case rel => exact ⟨k + 1, by omega, by go_num, HH2, trivial⟩
                case measure => simp [intOf]; omega
            · have HG := HGOOD.out HOK.out (fun j hj => by
                rcases Nat.lt_or_ge j k with h | h
                · exact HH.out j h
                · exact HTOP.out HOK.out j (by omega))
              have TU := Lib.hid (TU.out HG.2)
              have HFIN := Lib.hid (HFIN.out HG.1)
              have HR3 := Lib.hid BW.out.now.2.2.1
              clear hk HG
              go_wp2_with (refine ld_pln rfl (.tmp 4) rfl (w.heap.size + 1) rfl HR3.out ?_)
              go_at_call 71
              (with_reducible refine (TU.out _ _ _ HKM.out ?_).mono ?_)
              · exact H.out.below BW.out.below
              rintro e w9 ⟨cs', rfl, hq, hb9⟩
              have BW := Lib.hid (BW.out.go hb9)
              obtain ⟨sq, scq, tq, tcq, nq, ncq, rfl, _⟩ := hq.form
              have HZ := Lib.hid BW.out.now.2.1
              have HE := Lib.hid (HFIN.out _ _ (PoTold.yes (hq.put HZ.out _) (below_put BW.out.below (show w.heap.size ≤ w.heap.size + 1 + 1 by omega) (plC sq CC scq ch tq (tnO ch MM) tcq nq (nnO ch MM) ncq))))
              clear hq hb9
              go_wp2_with (refine st_pln rfl (.tmp 6) (.tmp 89) rfl (w.heap.size + 1 + 1) rfl _ _ _ _ _ _ _ _ _ _ rfl HZ.out rfl ?_)
              exact bodyPost_ret (res_pln2 Tryz.results25 rfl rfl (HZ.out.put _) rfl) rfl HE.out
    · rw [if_neg hlr] at hEE
      have HQ : Hid (EE = 24) := Lib.hid hEE.symm
      have d1 : (((L0 : Nat) : Int) != ((r : Nat) : Int)) = true := bne_iff_ne.2 (by omega)
      clear hEE hCC hMM heC heB heS heT hTT h0 h hin hsh hlr HFIN
      unfold plC
      go_enter Tryz.func25, Tryz.ntmps25
      go_wp2_with (refine ld_pln rfl (.tmp 3) rfl w.heap.size rfl HR1.out ?_)
      go_at_call 48
      (with_reducible refine (LI.out _ ?_).mono ?_)
      · exact H0.out.below BB.out.below
      rintro e w2 ⟨a6, m6, c6, rfl, hk6, hb2⟩
      obtain ⟨hm6, hk7⟩ := hk6 trivial
      clear hk6
      subst m6
      have BB := Lib.hid ((BB.out.go hb2).krow hk7)
      have hl := hk7.len
      clear hk7 hb2
      have x1 : w2.cell? ⟨w.heap.size + 1, 0, none⟩ = some (.slice sa r sc) := BB.out.now.2.2.1.cell 0
      have HZ := Lib.hid BB.out.now.2.1
      have HE := Lib.hid (HNO.out 24 _ HQ.out (by decide) BB.out.below)
      go_wp2_with (refine st_pln rfl (.tmp 6) (.tmp 29) rfl (w.heap.size + 1 + 1) rfl none 0 0 false none 0 0 none 0 0 rfl HZ.out rfl ?_)
      exact bodyPost_ret (res_pln2 Tryz.results25 rfl rfl (HZ.out.put _) rfl) rfl HE.out
  · rw [if_neg hE] at hEE
    have HQ : Hid (EE = E0) := Lib.hid hEE.symm
    have dE : (E0 != 0) = true := bne_iff_ne.2 hE
    have HE0 := Lib.hid hE
    clear hEE hCC hMM heC heB heS heT hTT h0 h hsh hE HI hN0 HFIN
    unfold plC
    go_enter Tryz.func25, Tryz.ntmps25
    go_wp2_with (refine ld_pln rfl (.tmp 3) rfl w.heap.size rfl HR1.out ?_)
    go_at_call 48
    (with_reducible refine (LI.out _ ?_).mono ?_)
    · exact H0.out.below BB.out.below
    rintro e w2 ⟨a6, m6, c6, rfl, hk6, hb2⟩
    have BB := Lib.hid (BB.out.go hb2)
    clear hb2 hk6
    have HZ := Lib.hid BB.out.now.1
    have HE := Lib.hid (HNO.out E0 _ HQ.out HE0.out BB.out.below)
    go_wp2_with (refine st_pln rfl (.tmp 6) (.tmp 21) rfl (w.heap.size + 1 + 1) rfl none 0 0 false none 0 0 none 0 0 rfl HZ.out rfl ?_)
    exact bodyPost_ret (res_pln2 Tryz.results25 rfl rfl (HZ.out.put _) rfl) rfl HE.out
end Go.Proofs.YtkljpofljkgkdaaGreatDoor
