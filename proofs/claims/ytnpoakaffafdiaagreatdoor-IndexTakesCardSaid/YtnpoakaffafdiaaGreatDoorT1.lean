/-
  Texts of this seat, laid together.
-/
import Derived.Laws.BytesArg
import Derived.Lib.ItoaNum
import Derived.IntWalk
import Derived.Test.YtnpoakaffafdiaaGreatDoorShelf
import Derived.WalkKit
import Derived.WalkSpells
import Derived.Deep.Draws
import Derived.Lib.Hide
import Derived.Lib.TrimByte
import Derived.WalkLawsBesides
import Derived.Laws.CopyOwn
import Derived.Deep.QuietTactic
import Derived.BigQuiet
import Derived.BigRegion
import Derived.RegionTactic
import Derived.Deep.RegionWith
import Derived.StillTailTactics
import Derived.Test.YtnpoakaffafdiaaGreatDoorRows
import Derived.Deep.RegionHeld3
import Derived.Deep.DrawnRows
import Derived.Laws.BitsLemmas
import Derived.Deep.AppendLies
import Derived.Deep.RegionLaw
import Derived.Deep.MidRow
import Derived.Lib.SliceRun
import Derived.Lib.Walk
import Derived.Laws.StructEq
import Derived.ChangeKeysEq
import Derived.Below
import Derived.Shelf.Abstract
import Derived.Lib.AppendZeros
import Derived.Laws.AppendOwnNone
import Derived.Laws.EntriesVeiled
import Derived.Laws.OwnMore
import Derived.Deep.Grids
import Derived.ProofKit
import Derived.Carry
import Derived.Deep.Slices
import Derived.Lib.SmallJoins
import Derived.Deep.Strs
import Derived.OpenShut
import Derived.Test.YtnpoakaffafdiaaGreatDoorQ1
import Derived.Test.YtnpoakaffafdiaaGreatDoorQ2
import Derived.Test.YtnpoakaffafdiaaGreatDoorQ3
import Derived.Test.YtnpoakaffafdiaaGreatDoorQ4
import Derived.Test.YtnpoakaffafdiaaGreatDoorQ5
import Derived.Test.YtnpoakaffafdiaaGreatDoorQ6
import Derived.Test.YtnpoakaffafdiaaGreatDoorQ7
import Derived.Test.YtnpoakaffafdiaaGreatDoorQ8
import Derived.Test.YtnpoakaffafdiaaGreatDoorQ9
import Derived.Test.YtnpoakaffafdiaaGreatDoorQ10
set_option maxHeartbeats 12800000
set_option maxRecDepth 100000
set_option linter.unusedSimpArgs false
set_option linter.unusedVariables false
namespace Go.Proofs.YtnpoakaffafdiaaGreatDoor
open Go.RowKit
theorem numOf_append (b : List UInt8) : ∀ a : List UInt8, numOf (a ++ b) = numOf a * 10 ^ b.length + numOf b
 | [] => by simp [numOf]
 | c :: a => by
  rw [List.cons_append, numOf, numOf_append b a, numOf, List.length_append, Nat.pow_add, Nat.add_mul, Nat.mul_assoc]
  omega
theorem numOf_take_le (l : List UInt8) (k : Nat) : numOf (l.take k) <= numOf l := by
 have h := numOf_append (l.drop k) (l.take k)
 rw [List.take_append_drop] at h
 have := Nat.le_mul_of_pos_right (numOf (l.take k)) (Nat.pow_pos (n := (l.drop k).length) (show 0 < 10 by omega))
 omega
theorem dec_dig (N : Nat) : ∀ c ∈ dec N, 48 <= c.toNat /\ c.toNat <= 57 := by
 intro c hc
 obtain ⟨j, hj⟩ := List.getElem?_of_mem hc
 unfold dec at hj
 have hjl : j < dl N := by
  rcases Nat.lt_or_ge j (dl N) with h | h
  · exact h
  · rw [List.getElem?_eq_none (by rw [sdig_length]; exact h)] at hj; cases hj
 rw [sdig_get N _ _ hjl] at hj
 cases hj
 rw [dgt_toNat]
 have := Nat.mod_lt (N / 10 ^ (dl N - 1 - j)) (show 0 < 10 by omega)
 omega
theorem dec_max : dec 18446744073709551615 = [49, 56, 52, 52, 54, 55, 52, 52, 48, 55, 51, 55, 48, 57, 53, 53, 49, 54, 49, 53] := by
 rw [← dec_of_top (k := 20) (by decide) (.inr ⟨by decide, by decide⟩)]
 decide
theorem dec_at {N : Nat} {s : ByteArray} (hs : s.data.toList = dec N) {k : Nat} (hk : k < s.size) :
    ∃ c x : Nat, s[k].toNat = c /\ c = 48 + x /\ x < 10 /\ numOf (s.data.toList.take (k + 1)) = 10 * numOf (s.data.toList.take k) + x := by
 have hm : s[k] ∈ dec N := by
  rw [← hs]
  exact List.getElem_mem (l := s.data.toList) (by simpa using hk)
 obtain ⟨h1, h2⟩ := dec_dig N _ hm
 refine ⟨_, s[k].toNat - 48, rfl, by omega, by omega, ?_⟩
 rw [take_snoc s k hk, numOf_snoc]
def uI (N : Nat) : Nat := if N < 18446744073709551616 then N else 0
theorem runi_any (N : Nat) (w : World) (hl : dl N <= 1000) : Calls Tryz.prog 191 #[.string (str (dec N))] w fun e w' => e = .returned (.tuple #[.int .u64 (uI N), .bool (decide (N < 18446744073709551616))]) /\ w = w' := by
 have hc : ∀ wz, Calls Tryz.prog 179 #[.string (str (dec N)), .string ⟨#[49, 56, 52, 52, 54, 55, 52, 52, 48, 55, 51, 55, 48, 57, 53, 53, 49, 54, 49, 53]⟩] wz fun e w' => e = .returned (.int .i64 (cmpI N 18446744073709551615)) /\ wz = w' := by
  intro wz
  have h := rcmp_any N 18446744073709551615 wz (by omega) (by have := dl_le 18446744073709551615 20 (by omega) (by decide); omega)
  rw [dec_max] at h
  exact h
 have hsz : (str (dec N)).size = dl N := by rw [str_size]; exact sdig_length _ _
 have hda : (str (dec N)).data.toList = dec N := rfl
 generalize str (dec N) = s at *
 by_cases hbig : 18446744073709551615 < N
 · have h1 : cmpI N 18446744073709551615 = 1 := by unfold cmpI; rw [if_neg (by omega), if_neg (by omega)]
   rw [h1] at hc
   have HC := Lib.hid hc
   have HE : Hid (uI N = 0 /\ decide (N < 18446744073709551616) = false) := ⟨by unfold uI; rw [if_neg (by omega)], decide_eq_false (by omega)⟩
   clear hc h1 hbig hsz hda
   rw [HE.out.1, HE.out.2]
   go_enter Tryz.func191, Tryz.ntmps191
   go_wp2_with (go_at_call 179; refine (HC.out _).mono ?_; rintro e w1 ⟨rfl, rfl⟩)
   go_ret2
   exact ⟨rfl, rfl⟩
 · obtain ⟨cm, hcm⟩ : ∃ cm, cmpI N 18446744073709551615 = cm := ⟨_, rfl⟩
   have hcl : cm <= 0 := by
    rw [← hcm]; unfold cmpI
    split
    · omega
    · split
      · omega
      · omega
   rw [hcm] at hc
   have HC := Lib.hid hc
   have d0 : decide ((0 : Int) < cm) = false := decide_eq_false (by omega)
   have HE : Hid (uI N = N /\ decide (N < 18446744073709551616) = true) := ⟨by unfold uI; rw [if_pos (by omega)], decide_eq_true (by omega)⟩
   have HN : Hid (N < 18446744073709551616) := by show _ < _; omega
   have HDA := Lib.hid hda
   have HSZ := Lib.hid hsz
   have hsl : s.size <= 1000 := by omega
   rw [HE.out.1, HE.out.2]
   clear hc hcm hbig hsz hda HE hl
   go_enter Tryz.func191, Tryz.ntmps191
   go_wp2_with (go_at_call 179; refine (HC.out _).mono ?_; rintro e w1 ⟨rfl, rfl⟩)
   go_loop [4, 5] (fun a i => ∃ k acc : Nat, k <= s.size /\ i = .int .i64 k /\ a = .int .u64 acc /\ Hid (acc = numOf (s.data.toList.take k)))
    (fun _ i => s.size - (intOf i).toNat)
   case atStart => exact ⟨0, 0, by omega, rfl, rfl, by show _ = _; simp [numOf]⟩
   case round =>
    obtain ⟨k, acc, hk, rfl, rfl, hacc⟩ := hrel
    by_cases hlt : k < s.size
    · obtain ⟨c, x, hcx, hc48, hx10, hnum⟩ := dec_at HDA.out hlt
      have hle := numOf_take_le s.data.toList (k + 1)
      rw [HDA.out, numOf_dec, ← HDA.out, hnum, ← hacc.out] at hle
      have hNl := HN.out
      obtain ⟨acc', ha'⟩ : ∃ acc', 10 * acc + x = acc' := ⟨_, rfl⟩
      have hal : acc' < 18446744073709551616 := by omega
      have HNX : Hid (acc' = numOf (s.data.toList.take (k + 1))) := by show _ = _; rw [hnum, ← hacc.out, ha']
      have e0 : (s[k].toNat : Int) - 48 = (x : Int) := by omega
      have e1 : (acc : Int) * 10 + (x : Int) = (acc' : Int) := by omega
      have e2 : (x : Int) % 256 = (x : Int) := by omega
      have e3 : (48 : Int) <= (s[k].toNat : Int) := by omega
      have e4 : (acc : Int) * 10 <= 18446744073709551615 := by omega
      clear hcx hc48 hnum hle hNl ha' hacc
      go_wp2
      go_round
      case rel => exact ⟨k + 1, acc', by omega, by go_num, rfl, HNX.out⟩
      case measure => simp [intOf]; omega
    · obtain rfl : k = s.size := by omega
      have hE : Hid (acc = N) := by
       show _ = _
       rw [hacc.out, List.take_of_length_le (by show s.data.toList.length <= _; exact Nat.le_refl _), HDA.out, numOf_dec]
      go_wp2
      go_ret2
      exact ⟨by rw [hE.out]; rfl, rfl⟩
end Go.Proofs.YtnpoakaffafdiaaGreatDoor
namespace Go.Proofs.YtnpoakaffafdiaaGreatDoor
open Go.RowKit
attribute [local go_sem ↓] Go.wp_at_zero Go.wp_at_succ
theorem dec_is0 (N : Nat) : ((str (dec N)).toList == [48]) = decide (N = 0) := by
 have e : (str (dec N)).toList = dec N := by rw [ByteArray.toList_eq]; rfl
 rw [e, Bool.eq_iff_iff, beq_iff_eq, decide_eq_true_eq]
 constructor
 · intro h
   have := congrArg numOf h
   unfold dec at this
   rw [numOf_sdig, Nat.mod_eq_of_lt (dl_lt N)] at this
   simpa [numOf] using this
 · intro h; rw [h, dec_zero]
theorem rsgn_B (b : Bool) (N : Nat) : rB (sgn b N) = (b && !decide (N = 0)) := sgn_neg b N
theorem rsgn_S (b : Bool) (N : Nat) : rS (sgn b N) = str (dec N) := by unfold rS; rw [sgn_abs]
theorem rOf_any (b : Bool) (N n : Nat) (w : World) (hn : 0 < n) (hN : N < 10 ^ n) (hl : n <= 10000000) :
    Calls Tryz.prog 129 #[.bool b, .string (str (sdig N n))] w fun e w' => RTold w w' e (sgn b N) := by
 have TR := Lib.hid (fun wz => trim_any N n wz hn hN hl)
 have h0 := dec_is0 N
 obtain ⟨s, hs⟩ : ∃ s, str (sdig N n) = s := ⟨_, rfl⟩
 obtain ⟨t, ht⟩ : ∃ t, str (dec N) = t := ⟨_, rfl⟩
 have hx := rsgn_B b N
 have hy := rsgn_S b N
 rw [ht] at TR h0 hy
 rw [hs] at TR ⊢
 obtain ⟨z, hz⟩ : ∃ z, decide (N = 0) = z := ⟨_, rfl⟩
 rw [hz] at h0 hx
 have HX := Lib.hid hx
 have HY := Lib.hid hy
 clear hx hy hs ht hz hN hn hl
 cases b
 · have HE : Hid (RTold w (w.alloc (.cells #[.bool false, .string t] 116)) (.returned (.agg #[.bool false, .string t])) (sgn false N)) := ⟨by rw [HX.out, HY.out]; rfl, (Below.refl _ _).alloc (Nat.le_refl _) _⟩
   go_enter Tryz.func129, Tryz.ntmps129
   go_wp2_with (go_at_call 115; refine (TR.out _).mono ?_; rintro e w2 ⟨rfl, rfl⟩)
   exact bodyPost_ret (v := .agg #[.bool false, .string t]) (by simp [results, Tryz.results129, go_sem]) rfl HE.out
 · have HE : Hid (RTold w (w.alloc (.cells #[.bool (!z), .string t] 116)) (.returned (.agg #[.bool (!z), .string t])) (sgn true N)) := ⟨by rw [HX.out, HY.out]; rfl, (Below.refl _ _).alloc (Nat.le_refl _) _⟩
   cases z
   all_goals
    go_enter Tryz.func129, Tryz.ntmps129
    go_wp2_with (go_at_call 115; refine (TR.out _).mono ?_; rintro e w2 ⟨rfl, rfl⟩)
    exact bodyPost_ret (v := _) (by simp [results, Tryz.results129, go_sem]) rfl HE.out
theorem rOf_dec (b : Bool) (N : Nat) (w : World) (hl : dl N <= 10000000) :
    Calls Tryz.prog 129 #[.bool b, .string (str (dec N))] w fun e w' => RTold w w' e (sgn b N) := rOf_any b N (dl N) w (dl_pos N) (dl_lt N) hl
theorem rSmall_any (Z : Int) (w : World) (hl : dl Z.natAbs <= 1000) :
    Calls Tryz.prog 175 #[.agg #[.bool (rB Z), .string (rS Z)]] w fun e w' => e = .returned (.tuple #[.int .i64 (fitI Z), .bool (fitB Z)]) /\ Below w.heap.size w w' := by
 have B0 := ((Bag.start w).box2 (.bool (rB Z)) (.string (rS Z)) 116)
 have q0 := B0.now.1.cell
 have q1 := B0.now.1.cell1
 have hu := fun wz => runi_any Z.natAbs wz hl
 rw [show str (dec Z.natAbs) = rS Z from rfl] at hu
 have BB := Lib.hid B0
 obtain ⟨N, hN⟩ : ∃ N, Z.natAbs = N := ⟨_, rfl⟩
 rw [hN] at hu
 unfold uI at hu
 generalize rS Z = s at *
 by_cases hbig : N < 18446744073709551616
 · rw [if_pos hbig, decide_eq_true hbig] at hu
   have HU := Lib.hid hu
   clear hu B0
   by_cases hz : Z < 0
   · rw [show rB Z = true from decide_eq_true hz] at *
     have hZN : Z = -(N : Int) := by omega
     by_cases h63 : N <= 9223372036854775808
     · have HE : Hid (fitI Z = -(N : Int) /\ fitB Z = true) := by
         have : fitB Z = true := decide_eq_true (by omega)
         exact ⟨by unfold fitI; rw [this, if_pos rfl]; exact hZN, this⟩
       have d2 : decide ((9223372036854775808 : Int) < (N : Int)) = false := decide_eq_false (by omega)
       obtain ⟨N1, hN1⟩ : ∃ N1, N - 1 = N1 := ⟨_, rfl⟩
       have e1 : (N : Int) - 1 = (N1 : Int) := by omega
       have b1 : (N1 : Int) <= 9223372036854775807 := by omega
       have b2 : (1 : Int) <= (N : Int) := by omega
       have e2 : 0 - (N1 : Int) = -(N1 : Int) := by omega
       have e3 : -(N1 : Int) - 1 = -(N : Int) := by omega
       clear hz hZN hN hbig h63 hN1 hl
       go_enter Tryz.func175, Tryz.ntmps175
       go_wp2_with (go_at_call 191; (with_reducible refine (HU.out _).mono ?_); rintro e w2 ⟨rfl, rfl⟩)
       go_ret2
       exact ⟨ret_ib (by rw [HE.out.1]) HE.out.2.symm, BB.out.below⟩
     · have HE : Hid (fitI Z = 0 /\ fitB Z = false) := by
         have : fitB Z = false := decide_eq_false (by omega)
         exact ⟨by unfold fitI; rw [this]; rfl, this⟩
       have d2 : decide ((9223372036854775808 : Int) < (N : Int)) = true := decide_eq_true (by omega)
       clear hz hZN hN hbig h63 hl
       go_enter Tryz.func175, Tryz.ntmps175
       go_wp2_with (go_at_call 191; (with_reducible refine (HU.out _).mono ?_); rintro e w2 ⟨rfl, rfl⟩)
       go_ret2
       exact ⟨ret_ib HE.out.1.symm HE.out.2.symm, BB.out.below⟩
   · rw [show rB Z = false from decide_eq_false hz] at *
     have hZN : Z = (N : Int) := by omega
     by_cases h63 : N <= 9223372036854775807
     · have HE : Hid (fitI Z = (N : Int) /\ fitB Z = true) := by
         have : fitB Z = true := decide_eq_true (by omega)
         exact ⟨by unfold fitI; rw [this, if_pos rfl]; exact hZN, this⟩
       have d1 : decide ((9223372036854775807 : Int) < (N : Int)) = false := decide_eq_false (by omega)
       have hl' : (N : Int) <= 9223372036854775807 := by omega
       clear hz hZN hN hbig h63 hl
       go_enter Tryz.func175, Tryz.ntmps175
       go_wp2_with (go_at_call 191; (with_reducible refine (HU.out _).mono ?_); rintro e w2 ⟨rfl, rfl⟩)
       go_ret2
       exact ⟨ret_ib HE.out.1.symm HE.out.2.symm, BB.out.below⟩
     · have HE : Hid (fitI Z = 0 /\ fitB Z = false) := by
         have : fitB Z = false := decide_eq_false (by omega)
         exact ⟨by unfold fitI; rw [this]; rfl, this⟩
       have d1 : decide ((9223372036854775807 : Int) < (N : Int)) = true := decide_eq_true (by omega)
       clear hz hZN hN hbig h63 hl
       go_enter Tryz.func175, Tryz.ntmps175
       go_wp2_with (go_at_call 191; (with_reducible refine (HU.out _).mono ?_); rintro e w2 ⟨rfl, rfl⟩)
       go_ret2
       exact ⟨ret_ib HE.out.1.symm HE.out.2.symm, BB.out.below⟩
 · rw [if_neg hbig, decide_eq_false hbig] at hu
   have HU := Lib.hid hu
   have HE : Hid (fitI Z = 0 /\ fitB Z = false) := by
    have : fitB Z = false := decide_eq_false (by omega)
    exact ⟨by unfold fitI; rw [this]; rfl, this⟩
   clear hu hbig hN B0 hl
   generalize rB Z = b at *
   go_enter Tryz.func175, Tryz.ntmps175
   go_wp2_with (go_at_call 191; (with_reducible refine (HU.out _).mono ?_); rintro e w2 ⟨rfl, rfl⟩)
   go_ret2
   exact ⟨ret_ib HE.out.1.symm HE.out.2.symm, BB.out.below⟩
end Go.Proofs.YtnpoakaffafdiaaGreatDoor
namespace Go.Proofs.YtnpoakaffafdiaaGreatDoor
open Go.RowKit
end Go.Proofs.YtnpoakaffafdiaaGreatDoor
namespace Go.Proofs.YtnpoakaffafdiaaGreatDoor
open Go.RowKit
attribute [local go_sem ↓] Go.wp_at_zero Go.wp_at_succ
theorem dec0 : str (dec 0) = ⟨#[48]⟩ := by rw [dec_small (by omega)]; rfl
theorem r3Zero_any (w : World) : Calls Tryz.prog 68 #[] w fun e w' => NumTold w w' e 0 1 := by
 have B0 := (Bag.start w).alloc (.cells #[.bool false, .string ⟨#[48]⟩, .string ⟨#[49]⟩] 53)
 have HE : Hid (NumTold w (w.alloc (.cells #[.bool false, .string ⟨#[48]⟩, .string ⟨#[49]⟩] 53)) (.returned (.agg #[.bool false, .string ⟨#[48]⟩, .string ⟨#[49]⟩])) 0 1) := ⟨by rw [show rB 0 = false from rfl, show rS 0 = str (dec 0) from rfl, dec0, dec1], B0.below⟩
 go_enter Tryz.func68, Tryz.ntmps68
 go_wp2
 exact bodyPost_ret (v := .agg #[.bool false, .string ⟨#[48]⟩, .string ⟨#[49]⟩]) (by simp [results, Tryz.results68, go_sem]) rfl HE.out
theorem r3Top_any (P : Int) (t : ByteArray) (w : World) (hl : dl P.natAbs <= 10000000) : Calls Tryz.prog 72 #[.agg #[.bool (rB P), .string (rS P), .string t]] w fun e w' => RTold w w' e P := by
 have B0 := ((Bag.start w).box3 (.bool (rB P)) (.string (rS P)) (.string t) 53).box2 (.bool false) (.string ⟨#[]⟩) 116
 simp only [World.size_alloc] at B0
 have OF : Hid (∀ wz, Calls Tryz.prog 129 #[.bool (rB P), .string (rS P)] wz fun e w' => RTold wz w' e P) := by
  intro wz
  have h1 := rOf_dec (rB P) P.natAbs wz hl
  rw [show sgn (rB P) P.natAbs = P from sgn_self P] at h1
  exact h1
 have BB := Lib.hid B0
 have HF := Lib.hid (fun w2 b s (hb : Below w.heap.size w w2) (h1 : rB P = b) (h2 : rS P = s) => RTold.fin (Y := P) hb (show w.heap.size <= w.heap.size + 1 by omega) h1 h2)
 obtain ⟨b, hb⟩ : ∃ b, rB P = b := ⟨_, rfl⟩
 obtain ⟨s, hs⟩ : ∃ s, rS P = s := ⟨_, rfl⟩
 have HB := Lib.hid hb
 have HS2 := Lib.hid hs
 unfold RTold at OF
 rw [hb, hs] at OF BB
 rw [hb, hs]
 clear B0 hl hb hs
 go_enter Tryz.func72, Tryz.ntmps72
 go_wp2_with fail
 go_at_call 129
 (with_reducible refine (OF.out _).mono ?_)
 rintro e w2 ⟨rfl, hb2⟩
 have BB := Lib.hid (BB.out.go hb2)
 have hs2 := BB.out.now.1
 have hc1 := hs2.cell
 have hc2 := hs2.cell1
 have hf1 := hs2.free
 have hf2 := hs2.free1
 have HS := hs2.set (.bool b) (.string s)
 have HE := Lib.hid (HF.out w2 b s BB.out.below HB.out HS2.out)
 unfold put2 at HE
 clear hb2 hs2
 go_wp2
 exact bodyPost_ret (v := .agg #[.bool b, .string s]) (by simp [results, Tryz.results72, go_sem, HS]) rfl HE.out
theorem r3Int_any (P : Int) (Q : Nat) (w : World) (hl : dl P.natAbs <= 1000) :
    Calls Tryz.prog 143 #[.agg #[.bool (rB P), .string (rS P), .string (str (dec Q))]] w fun e w' => e = .returned (.tuple #[.int .i64 (if Q = 1 then fitI P else 0), .bool (decide (Q = 1) && fitB P)]) /\ Below w.heap.size w w' := by
 have h1 := dec_is1 Q
 have TA : Hid (∀ wz, Calls Tryz.prog 72 #[.agg #[.bool (rB P), .string (rS P), .string (str (dec Q))]] wz fun e w' => RTold wz w' e P) := fun wz => r3Top_any P _ wz (by omega)
 have SM := Lib.hid (fun wz => rSmall_any P wz hl)
 unfold RTold at TA
 have BB := Lib.hid ((Bag.start w).box3 (.bool (rB P)) (.string (rS P)) (.string (str (dec Q))) 53)
 generalize str (dec Q) = t at *
 generalize rB P = b at *
 generalize rS P = s at *
 generalize fitI P = x at *
 generalize fitB P = y at *
 have q0 := BB.out.now.1.cell
 have q1 := BB.out.now.1.cell1
 have q2 := BB.out.now.1.cell2
 clear hl
 by_cases hq : Q = 1
 · rw [decide_eq_true hq] at h1
   rw [if_pos hq, decide_eq_true hq, Bool.true_and]
   clear hq
   go_enter Tryz.func143, Tryz.ntmps143
   go_wp2_with (first
    | (go_at_call 72; (with_reducible refine (TA.out _).mono ?_); rintro e w2 ⟨rfl, hb2⟩; have BB := Lib.hid (BB.out.go hb2))
    | (go_at_call 175; (with_reducible refine (SM.out _).mono ?_); rintro e w3 ⟨rfl, hb3⟩; have BB := Lib.hid (BB.out.go hb3)))
   go_ret2
   exact ⟨rfl, BB.out.below⟩
 · rw [decide_eq_false hq] at h1
   rw [if_neg hq, decide_eq_false hq, Bool.false_and]
   clear hq TA SM
   go_enter Tryz.func143, Tryz.ntmps143
   go_wp2
   go_ret2
   exact ⟨rfl, BB.out.below⟩
end Go.Proofs.YtnpoakaffafdiaaGreatDoor
namespace Go.Proofs.YtnpoakaffafdiaaGreatDoor
open Go.RowKit
theorem pt_step {w y0 wr w2 : World} {P : Nat} {sa : Option Addr} {sn sc : Nat} {ch : Bool} {na : Option Addr} {nn nc : Nat} {a : Option Addr} {k c : Nat} {ki : IntKind} {f : Nat -> Int} {T E : TypeId} (hbl : Below w.heap.size w wr) (hf : Far P y0 wr) (hb : Below wr.heap.size wr w2)
    (hr : Row w2 P T (plC sa sn sc ch a k c na nn nc)) (ho : w2.ownsRow y0.heap.size E 1 (.slice a k c) k (kcs ki f k)) (hne : E ≠ T) (hP : w.heap.size <= P) (hy : w.heap.size <= y0.heap.size) :
    ∀ (g cap : Nat) (w3 : World) (x : Int), x = f k -> w3.ownsRow y0.heap.size E 1 (.slice (some ⟨g, 0, none⟩) (k + 1) cap) (k + 1) (kcs ki f k ++ [.int ki x]) -> w2.grownBy w3 (Value.slice a k c).ownBlock ->
    Below w.heap.size w (w3.setCell ⟨P, 2, none⟩ (.slice (some ⟨g, 0, none⟩) (k + 1) cap)) /\ Far P y0 (w3.setCell ⟨P, 2, none⟩ (.slice (some ⟨g, 0, none⟩) (k + 1) cap)) /\ Row (w3.setCell ⟨P, 2, none⟩ (.slice (some ⟨g, 0, none⟩) (k + 1) cap)) P T (plC sa sn sc ch (some ⟨g, 0, none⟩) (k + 1) cap na nn nc)
     /\ (w3.setCell ⟨P, 2, none⟩ (.slice (some ⟨g, 0, none⟩) (k + 1) cap)).ownsRow y0.heap.size E 1 (.slice (some ⟨g, 0, none⟩) (k + 1) cap) (k + 1) (kcs ki f (k + 1)) := by
 intro g cap w3 x hx ho3 hg
 subst hx
 have hlt := ho.lt
 have hr3 := hr.grown hg (hr.apart ho hne)
 have hb2 : Below w.heap.size w w2 := hbl.trans (hb.mono hbl.size)
 have hb3 : Below w.heap.size w w3 := hb2.trans ⟨hg.os, hg.tape, hg.output, hg.size, fun j hj => hg.block j (Nat.lt_of_lt_of_le hj hb2.size) (fun e => by have := (hlt j e.symm).1; omega)⟩
 refine ⟨hb3.setCell (p := ⟨P, 2, none⟩) hP _, ((hf.trans (Far.of_below hb)).of_grown hg (fun x hx => (hlt x hx).1)).trans (Far.setCell _ _ _ _), hr3.set 2 _, own_setCell ho3 _ _ _ (hr3.apart ho3 hne)⟩
def elB (n : Nat) (fB : Nat -> Bool) (i : Int) : Bool := if 0 <= i /\ i < n then fB i.toNat else rB 0
def elS (n : Nat) (fS : Nat -> ByteArray) (z : ByteArray) (i : Int) : ByteArray := if 0 <= i /\ i < n then fS i.toNat else z
theorem r6PickC_any (cs : Array Value) (S : Nat -> Int) (r : Nat) (g : Nat -> Int) (tn : Nat) (fB : Nat -> Bool) (fS fT : Nat -> ByteArray) (s1 : Option Addr) (r' c1 : Nat) (S' : Nat -> Int) (t1 : Option Addr) (m d1 : Nat) (at' : Nat -> Int) (w : World) (h : PlnAt w cs S r true g tn fB fS fT 0) (hs : KRow w .i64 s1 r' c1 S') (ht : KRow w .i64 t1 m d1 at') (hm : m <= 1000000) (hL : tn <= 1000000) :
    Calls Tryz.prog 44 #[.agg cs, .slice s1 r' c1, .slice t1 m d1] w fun e w' => ∀ fB' fS' fT', PlnTold S' r' true (fun j => elC tn g 32 (at' j)) m fB' fS' fT' 0 w w' e := by
 have LN := Lib.hid (fun wz cs p => r6Len_any cs S r true g tn fB fS fT 0 wz p (by omega) (by omega))
 obtain ⟨sa, sc, ta, tc, na, nc, rfl, h1, h2, h3⟩ := h
 have hl := ht.len
 obtain ⟨i0, hi, hz0, hz1, hz2⟩ := info_parts infoC
 have BB := Lib.hid ((((((((Bag.start w).krow h1).krow h2).qrow h3).krow hs).krow ht).newRow (plC sa r sc true ta tn tc na 0 nc) 26).newRow plZer 26 |>.newRow (plC s1 r' c1 true none 0 0 none 0 0) 26)
 simp only [World.size_alloc] at BB
 have LN := Lib.hid (fun wz a b c => LN.out wz (plC sa r sc true ta tn tc na 0 nc) ⟨sa, sc, ta, tc, na, nc, rfl, a, b, c⟩)
 have eL : ((tn + 0 : Nat) : Int) = (tn : Int) := by omega
 rw [eL] at LN
 have hni := noInt_pl s1 r' c1 true none 0 0 none 0 0
 have hns := noStr_pl s1 r' c1 true none 0 0 none 0 0
 have K1 := BB.out.now.2.2.2.2.2.2.2.1
 have K2 := BB.out.now.2.2.2.2.2.2.1
 have K3 := BB.out.now.2.2.2.2.2.1
 have K4 := BB.out.now.2.2.2.2.1
 have K5 := BB.out.now.2.2.2.1
 have KEEP : Hid (∀ wr, Far (w.heap.size + 1 + 1) (((w.alloc (.cells (plC sa r sc true ta tn tc na 0 nc) 26)).alloc (.cells plZer 26)).alloc (.cells (plC s1 r' c1 true none 0 0 none 0 0) 26)) wr ->
     KRow wr .i64 sa r sc S /\ KRow wr .i32 ta tn tc g /\ QRow wr na 0 nc fB fS fT /\ KRow wr .i64 s1 r' c1 S' /\ KRow wr .i64 t1 m d1 at' /\ Row wr w.heap.size 26 (plC sa r sc true ta tn tc na 0 nc) /\ Row wr (w.heap.size + 1) 26 plZer) := Lib.hid fun wr hf =>
  ⟨K1.away (K1.apart BB.out.now.1 hni) hf, K2.away (K2.apart BB.out.now.1 hni) hf, K3.away (K3.apart BB.out.now.1 hns) hf, K4.away (K4.apart BB.out.now.1 hni) hf, K5.away (K5.apart BB.out.now.1 hni) hf,
    (hf.block _ (by omega) BB.out.now.2.2.1.lt).trans BB.out.now.2.2.1, (hf.block _ (by omega) BB.out.now.2.1.lt).trans BB.out.now.2.1⟩
 have hsz := BB.out.now.1.lt
 unfold plZer plC at BB KEEP
 unfold plC at LN
 unfold plC
 clear h1 h2 h3 hs ht K1 K2 K3 K4 K5 eL hni hns
 go_enter Tryz.func44, Tryz.ntmps44
 go_wp2_with fail
 generalize ((w.alloc (.cells #[.slice sa r sc, .bool true, .slice ta tn tc, .slice na 0 nc] 26)).alloc (.cells #[.slice none 0 0, .bool false, .slice none 0 0, .slice none 0 0] 26)).alloc (.cells #[.slice s1 r' c1, .bool true, .slice none 0 0, .slice none 0 0] 26) = y0 at *
 go_loopw [8] (fun i wr => ∃ (k : Nat) (a1 : Option Addr) (ak : Nat), k <= m /\ i = .int .i64 k /\ Hid (Below w.heap.size w wr /\ Far (w.heap.size + 1 + 1) y0 wr /\ Row wr (w.heap.size + 1 + 1) 26 (plC s1 r' c1 true a1 k ak none 0 0) /\ wr.ownsRow y0.heap.size 21 1 (.slice a1 k ak) k (kcs .i32 (fun j => elC tn g 32 (at' j)) k))) (fun i _ => m - (intOf i).toNat)
 case atStart => exact ⟨0, none, 0, by omega, rfl, BB.out.below, Far.refl _ _, BB.out.now.1, World.ownsRow_nil _ _ _ _⟩
 case round =>
  obtain ⟨k, a1, ak, hk, rfl, hrel⟩ := hrel
  obtain ⟨hbl, hfar, hrp, hown⟩ := hrel.out
  obtain ⟨k1, k2, k3, k4, k5, r0, r1⟩ := KEEP.out wr hfar
  by_cases hlt : k < m
  · obtain ⟨b, off, rfl, hb, hc⟩ := k5.get hlt
    have B1 := Lib.hid ((((((Bag.start wr).krow k1).krow k2).qrow k3).own hown).row hrp |>.row r0)
    have HBL := Lib.hid hbl
    have HF := Lib.hid hfar
    have q3 : wr.cell? ⟨w.heap.size + 1 + 1, 2, none⟩ = some (.slice a1 k ak) := hrp.cell 2
    have p0 : wr.cell? ⟨w.heap.size, 0, none⟩ = some (.slice sa r sc) := r0.cell 0
    have p1 : wr.cell? ⟨w.heap.size, 1, none⟩ = some (.bool true) := r0.cell 1
    have p2 : wr.cell? ⟨w.heap.size, 2, none⟩ = some (.slice ta tn tc) := r0.cell 2
    have p3 : wr.cell? ⟨w.heap.size, 3, none⟩ = some (.slice na 0 nc) := r0.cell 3
    have HMX := Lib.hid (show k + 1 <= maxLen by unfold maxLen; omega)
    have HMY := Lib.hid (show (k + 1) * 4 <= 140737488355328 by omega)
    have hk0 : (0 : Int) <= k := by omega
    have hk1 : (k : Int) < m := by omega
    have hk2 : (k : Int) <= m := by omega
    clear hbl hfar hrp hown k1 k2 k3 k4 k5 r0 r1
    by_cases hin : 0 <= at' k /\ at' k < tn
    · obtain ⟨h0, h1⟩ := hin
      obtain ⟨q, hq⟩ : ∃ q : Nat, at' k = q := ⟨(at' k).toNat, by omega⟩
      have hqn : q < tn := by omega
      have HV := Lib.hid (show g q = elC tn g 32 (at' k) by unfold elC; rw [if_pos ⟨h0, h1⟩, hq]; rfl)
      obtain ⟨b2, off2, rfl, hbb2, hcc⟩ := B1.out.now.2.2.2.2.1.get hqn
      rw [hq] at hc h0 h1
      clear hq
      have hq0 : (q : Int) < tn := by omega
      generalize g q = y at *
      go_wp2_with fail
      go_at_call 34
      (with_reducible refine (LN.out _ B1.out.now.2.2.2.2.2.1 B1.out.now.2.2.2.2.1 B1.out.now.2.2.2.1).mono ?_)
      rintro e w2 ⟨rfl, hb2⟩
      have B2 := Lib.hid (B1.out.go hb2)
      have HB2 := Lib.hid hb2
      clear hb2 q3 p0 p1 p2 p3
      have q3 : w2.cell? ⟨w.heap.size + 1 + 1, 2, none⟩ = some (.slice a1 k ak) := B2.out.now.2.1.cell 2
      have p1 : w2.cell? ⟨w.heap.size, 1, none⟩ = some (.bool true) := B2.out.now.1.cell 1
      have p2 : w2.cell? ⟨w.heap.size, 2, none⟩ = some (.slice (some ⟨b2, off2, none⟩) tn tc) := B2.out.now.1.cell 2
      have p3 : w2.cell? ⟨w.heap.size, 3, none⟩ = some (.slice na 0 nc) := B2.out.now.1.cell 3
      have hcc2 : w2.cell? ⟨b2, off2 + q, none⟩ = some (.int .i32 y) := (HB2.out.cell (p := ⟨b2, _, none⟩) hbb2).trans hcc
      have HONE := Lib.hid (show ∀ u ∈ ([.int .i32 y] : List Value), u.oneCell' = true by intro u hu; simp at hu; subst hu; rfl)
      have B3 := Lib.hid ((B2.out.newRow #[.int .i32 y] 21).drew)
      have qp3 : (w2.alloc (.cells #[.int .i32 y] 21)).cell? ⟨w.heap.size + 1 + 1, 2, none⟩ = some (.slice a1 k ak) := B3.out.now.2.2.1.cell 2
      have HROW := Lib.hid B3.out.now.2.2.1
      have HOWN := Lib.hid B3.out.now.2.2.2.1
      have HNEW := Lib.hid (World.news_of_block B3.out.now.1)
      have HBA := Lib.hid (Nat.le_trans HF.out.size B3.out.below.size)
      have HNX := Lib.hid (pt_step HBL.out HF.out B3.out.below HROW.out HOWN.out (by decide) (by omega) BB.out.below.size)
      clear hcc
      go_wp2_with fail
      go_region_law (refine step_append_lies _ rfl (.tmp 39) (.tmp 45) 23 rfl y0.heap.size 21 i0 _ 1 4 Tryz.underlying23 hi hz0 hz1 hz2 rfl (by omega) (.slice a1 k ak) k _ rfl HOWN.out ⟨w2.heap.size, 0, none⟩ 1 1 [.int .i32 y] rfl rfl HNEW.out HONE.out (by omega) HMX.out HMY.out HBA.out _ rfl ?_; intro g9 cap9 w3 hown3 hgrow hor hlt3; have hr3 := HROW.out.grown hgrow (HROW.out.apart HOWN.out (by decide)); have qp : w3.cell? ⟨w.heap.size + 1 + 1, 2, none⟩ = some (.slice a1 k ak) := hr3.cell 2; have fp := hr3.free 2; have HN := Lib.hid (HNX.out g9 cap9 w3 _ HV.out hown3 hgrow); clear hown3 hgrow hor hlt3 hr3)
      all_goals
       go_wp2
       go_roundw
       case rel => exact ⟨k + 1, _, cap9, by omega, by go_num, HN.out⟩
       case measure => simp [intOf]; omega
    · have HV := Lib.hid (show (32 : Int) = elC tn g 32 (at' k) by unfold elC; rw [if_neg hin])
      obtain ⟨x, hx⟩ : ∃ x, at' k = x := ⟨_, rfl⟩
      rw [hx] at hc hin
      clear hx
      by_cases h0 : 0 <= x
      · have h1 : ¬ x < (tn : Int) := by omega
        clear hin
        go_wp2_with fail
        go_at_call 34
        (with_reducible refine (LN.out _ B1.out.now.2.2.2.2.2.1 B1.out.now.2.2.2.2.1 B1.out.now.2.2.2.1).mono ?_)
        rintro e w2 ⟨rfl, hb2⟩
        have B2 := Lib.hid (B1.out.go hb2)
        have HB2 := Lib.hid hb2
        clear hb2 q3 p0 p1 p2 p3
        have q3 : w2.cell? ⟨w.heap.size + 1 + 1, 2, none⟩ = some (.slice a1 k ak) := B2.out.now.2.1.cell 2
        have p1 : w2.cell? ⟨w.heap.size, 1, none⟩ = some (.bool true) := B2.out.now.1.cell 1
        have p2 : w2.cell? ⟨w.heap.size, 2, none⟩ = some (.slice ta tn tc) := B2.out.now.1.cell 2
        have p3 : w2.cell? ⟨w.heap.size, 3, none⟩ = some (.slice na 0 nc) := B2.out.now.1.cell 3
        have HONE := Lib.hid (show ∀ u ∈ ([.int .i32 32] : List Value), u.oneCell' = true by intro u hu; simp at hu; subst hu; rfl)
        have B3 := Lib.hid ((B2.out.newRow #[.int .i32 32] 21))
        have qp3 : (w2.alloc (.cells #[.int .i32 32] 21)).cell? ⟨w.heap.size + 1 + 1, 2, none⟩ = some (.slice a1 k ak) := B3.out.now.2.2.1.cell 2
        have HROW := Lib.hid B3.out.now.2.2.1
        have HOWN := Lib.hid B3.out.now.2.2.2.1
        have HNEW := Lib.hid (World.news_of_block B3.out.now.1)
        have HBA := Lib.hid (Nat.le_trans HF.out.size B3.out.below.size)
        have HNX := Lib.hid (pt_step HBL.out HF.out B3.out.below HROW.out HOWN.out (by decide) (by omega) BB.out.below.size)
        go_wp2_with (at_builtin; refine wpList_append_lies _ rfl (.tmp 51) (.tmp 52) 23 rfl y0.heap.size 21 i0 _ 1 4 Tryz.underlying23 hi hz0 hz1 hz2 rfl (by omega) (.slice a1 k ak) k _ rfl HOWN.out ⟨w2.heap.size, 0, none⟩ 1 1 [.int .i32 32] rfl rfl HNEW.out HONE.out (by omega) HMX.out HMY.out HBA.out _ rfl ?_)
        intro g9 cap9 w3 hown3 hgrow hor hlt3
        have hr3 := HROW.out.grown hgrow (HROW.out.apart HOWN.out (by decide)); have qp : w3.cell? ⟨w.heap.size + 1 + 1, 2, none⟩ = some (.slice a1 k ak) := hr3.cell 2; have fp := hr3.free 2; have HN := Lib.hid (HNX.out g9 cap9 w3 _ HV.out hown3 hgrow); clear hown3 hgrow hor hlt3 hr3
        go_wp2
        go_roundw
        case rel => exact ⟨k + 1, _, cap9, by omega, by go_num, HN.out⟩
        case measure => simp [intOf]; omega
      · clear hin
        have HONE := Lib.hid (show ∀ u ∈ ([.int .i32 32] : List Value), u.oneCell' = true by intro u hu; simp at hu; subst hu; rfl)
        have B3 := Lib.hid ((B1.out.newRow #[.int .i32 32] 21))
        have qp3 : (wr.alloc (.cells #[.int .i32 32] 21)).cell? ⟨w.heap.size + 1 + 1, 2, none⟩ = some (.slice a1 k ak) := B3.out.now.2.2.1.cell 2
        have HROW := Lib.hid B3.out.now.2.2.1
        have HOWN := Lib.hid B3.out.now.2.2.2.1
        have HNEW := Lib.hid (World.news_of_block B3.out.now.1)
        have HBA := Lib.hid (Nat.le_trans HF.out.size B3.out.below.size)
        have HNX := Lib.hid (pt_step HBL.out HF.out B3.out.below HROW.out HOWN.out (by decide) (by omega) BB.out.below.size)
        go_wp2_with (at_builtin; refine wpList_append_lies _ rfl (.tmp 51) (.tmp 52) 23 rfl y0.heap.size 21 i0 _ 1 4 Tryz.underlying23 hi hz0 hz1 hz2 rfl (by omega) (.slice a1 k ak) k _ rfl HOWN.out ⟨wr.heap.size, 0, none⟩ 1 1 [.int .i32 32] rfl rfl HNEW.out HONE.out (by omega) HMX.out HMY.out HBA.out _ rfl ?_)
        intro g9 cap9 w3 hown3 hgrow hor hlt3
        have hr3 := HROW.out.grown hgrow (HROW.out.apart HOWN.out (by decide)); have qp : w3.cell? ⟨w.heap.size + 1 + 1, 2, none⟩ = some (.slice a1 k ak) := hr3.cell 2; have fp := hr3.free 2; have HN := Lib.hid (HNX.out g9 cap9 w3 _ HV.out hown3 hgrow); clear hown3 hgrow hor hlt3 hr3
        go_wp2
        go_roundw
        case rel => exact ⟨k + 1, _, cap9, by omega, by go_num, HN.out⟩
        case measure => simp [intOf]; omega
  · obtain rfl : k = m := by omega
    obtain ⟨a9, c9, he, hq⟩ := KRow.of_own hown
    injection he with he1 _ he2
    subst he1 he2
    have HE : Hid (∀ fB' fS' fT', PlnTold S' r' true (fun j => elC tn g 32 (at' j)) k fB' fS' fT' 0 w (wr.setRow (w.heap.size + 1) (plC s1 r' c1 true a1 k ak none 0 0)) (.returned (.agg (plC s1 r' c1 true a1 k ak none 0 0)))) :=
     Lib.hid fun fB' fS' fT' => ans_pln ⟨_, _, _, _, _, _, rfl, k4, hq, QRow.nought _ _ _ (Nat.zero_le _) _ _ _⟩ hbl r1 (Nat.le_succ _)
    have HR0 := Lib.hid r1
    have HRP := Lib.hid hrp
    clear hbl hfar hrp hown k1 k2 k3 k4 k5 r0 r1 hq
    go_wp2_with (first
     | (refine ld_pln rfl (.tmp 7) rfl (w.heap.size + 1 + 1) rfl HRP.out ?_)
     | (refine st_pln rfl (.tmp 6) (.tmp 72) rfl (w.heap.size + 1) rfl _ _ _ _ _ _ _ _ _ _ rfl HR0.out rfl ?_))
    exact bodyPost_ret (res_pln Tryz.results44 rfl (HR0.out.put _) rfl) rfl HE.out
theorem r6PickN_any (cs : Array Value) (S : Nat -> Int) (r : Nat) (g : Nat -> Int) (nn : Nat) (fB : Nat -> Bool) (fS fT : Nat -> ByteArray) (s1 : Option Addr) (r' c1 : Nat) (S' : Nat -> Int) (t1 : Option Addr) (m d1 : Nat) (at' : Nat -> Int) (w : World) (h : PlnAt w cs S r false g 0 fB fS fT nn) (hs : KRow w .i64 s1 r' c1 S') (ht : KRow w .i64 t1 m d1 at') (hm : m <= 1000000) (hL : nn <= 1000000) :
    Calls Tryz.prog 44 #[.agg cs, .slice s1 r' c1, .slice t1 m d1] w fun e w' => ∀ g', PlnTold S' r' false g' 0 (fun j => elB nn fB (at' j)) (fun j => elS nn fS (rS 0) (at' j)) (fun j => elS nn fT (str (dec 1)) (at' j)) m w w' e := by
 have LN := Lib.hid (fun wz cs p => r6Len_any cs S r false g 0 fB fS fT nn wz p (by omega) (by omega))
 obtain ⟨sa, sc, ta, tc, na, nc, rfl, h1, h2, h3⟩ := h
 have hl := ht.len
 obtain ⟨i0, hi, hz0, hz1, hz2⟩ := info_parts infoN
 have BB := Lib.hid ((((((((Bag.start w).krow h1).krow h2).qrow h3).krow hs).krow ht).newRow (plC sa r sc false ta 0 tc na nn nc) 26).newRow plZer 26 |>.newRow (plC s1 r' c1 false none 0 0 none 0 0) 26)
 simp only [World.size_alloc] at BB
 have LN := Lib.hid (fun wz a b c => LN.out wz (plC sa r sc false ta 0 tc na nn nc) ⟨sa, sc, ta, tc, na, nc, rfl, a, b, c⟩)
 have eL : ((0 + nn : Nat) : Int) = (nn : Int) := by omega
 rw [eL] at LN
 have hni := noInt_pl s1 r' c1 false none 0 0 none 0 0
 have hns := noStr_pl s1 r' c1 false none 0 0 none 0 0
 have K1 := BB.out.now.2.2.2.2.2.2.2.1
 have K2 := BB.out.now.2.2.2.2.2.2.1
 have K3 := BB.out.now.2.2.2.2.2.1
 have K4 := BB.out.now.2.2.2.2.1
 have K5 := BB.out.now.2.2.2.1
 have KEEP : Hid (∀ wr, Far (w.heap.size + 1 + 1) (((w.alloc (.cells (plC sa r sc false ta 0 tc na nn nc) 26)).alloc (.cells plZer 26)).alloc (.cells (plC s1 r' c1 false none 0 0 none 0 0) 26)) wr ->
     KRow wr .i64 sa r sc S /\ KRow wr .i32 ta 0 tc g /\ QRow wr na nn nc fB fS fT /\ KRow wr .i64 s1 r' c1 S' /\ KRow wr .i64 t1 m d1 at' /\ Row wr w.heap.size 26 (plC sa r sc false ta 0 tc na nn nc) /\ Row wr (w.heap.size + 1) 26 plZer) := Lib.hid fun wr hf =>
  ⟨K1.away (K1.apart BB.out.now.1 hni) hf, K2.away (K2.apart BB.out.now.1 hni) hf, K3.away (K3.apart BB.out.now.1 hns) hf, K4.away (K4.apart BB.out.now.1 hni) hf, K5.away (K5.apart BB.out.now.1 hni) hf,
    (hf.block _ (by omega) BB.out.now.2.2.1.lt).trans BB.out.now.2.2.1, (hf.block _ (by omega) BB.out.now.2.1.lt).trans BB.out.now.2.1⟩
 have hsz := BB.out.now.1.lt
 unfold plZer plC at BB KEEP
 unfold plC at LN
 unfold plC
 clear h1 h2 h3 hs ht K1 K2 K3 K4 K5 eL hni hns
 go_enter Tryz.func44, Tryz.ntmps44
 go_wp2_with fail
 generalize ((w.alloc (.cells #[.slice sa r sc, .bool false, .slice ta 0 tc, .slice na nn nc] 26)).alloc (.cells #[.slice none 0 0, .bool false, .slice none 0 0, .slice none 0 0] 26)).alloc (.cells #[.slice s1 r' c1, .bool false, .slice none 0 0, .slice none 0 0] 26) = y0 at *
 go_loopw [8] (fun i wr => ∃ (k : Nat) (a1 : Option Addr) (ak : Nat), k <= m /\ i = .int .i64 k /\ Hid (Below w.heap.size w wr /\ Far (w.heap.size + 1 + 1) y0 wr /\ Row wr (w.heap.size + 1 + 1) 26 (plC s1 r' c1 false none 0 0 a1 k ak) /\ wr.ownsRow y0.heap.size 53 3 (.slice a1 k ak) k (qcs (fun j => elB nn fB (at' j)) (fun j => elS nn fS (rS 0) (at' j)) (fun j => elS nn fT (str (dec 1)) (at' j)) k))) (fun i _ => m - (intOf i).toNat)
 case atStart => exact ⟨0, none, 0, by omega, rfl, BB.out.below, Far.refl _ _, BB.out.now.1, World.ownsRow_nil _ _ _ _⟩
 case round =>
  obtain ⟨k, a1, ak, hk, rfl, hrel⟩ := hrel
  obtain ⟨hbl, hfar, hrp, hown⟩ := hrel.out
  obtain ⟨k1, k2, k3, k4, k5, r0, r1⟩ := KEEP.out wr hfar
  by_cases hlt : k < m
  · obtain ⟨b, off, rfl, hb, hc⟩ := k5.get hlt
    have B1 := Lib.hid ((((((Bag.start wr).krow k1).krow k2).qrow k3).own hown).row hrp |>.row r0)
    have HBL := Lib.hid hbl
    have HF := Lib.hid hfar
    have q3 : wr.cell? ⟨w.heap.size + 1 + 1, 3, none⟩ = some (.slice a1 k ak) := hrp.cell 3
    have p0 : wr.cell? ⟨w.heap.size, 0, none⟩ = some (.slice sa r sc) := r0.cell 0
    have p1 : wr.cell? ⟨w.heap.size, 1, none⟩ = some (.bool false) := r0.cell 1
    have p2 : wr.cell? ⟨w.heap.size, 2, none⟩ = some (.slice ta 0 tc) := r0.cell 2
    have p3 : wr.cell? ⟨w.heap.size, 3, none⟩ = some (.slice na nn nc) := r0.cell 3
    have HMX := Lib.hid (show k + 1 <= maxLen by unfold maxLen; omega)
    have HMY := Lib.hid (show (k + 1) * 40 <= 140737488355328 by omega)
    have hk0 : (0 : Int) <= k := by omega
    have hk1 : (k : Int) < m := by omega
    have hk2 : (k : Int) <= m := by omega
    clear hbl hfar hrp hown k1 k2 k3 k4 k5 r0 r1
    by_cases hin : 0 <= at' k /\ at' k < nn
    · obtain ⟨h0, h1⟩ := hin
      obtain ⟨q, hq⟩ : ∃ q : Nat, at' k = q := ⟨(at' k).toNat, by omega⟩
      have hqn : q < nn := by omega
      have HV := Lib.hid (show fB q = elB nn fB (at' k) /\ fS q = elS nn fS (rS 0) (at' k) /\ fT q = elS nn fT (str (dec 1)) (at' k) by unfold elB elS; rw [if_pos ⟨h0, h1⟩, if_pos ⟨h0, h1⟩, if_pos ⟨h0, h1⟩, hq]; exact ⟨rfl, rfl, rfl⟩)
      obtain ⟨b2, off2, rfl, hbb2, hcc, hcd, hce⟩ := B1.out.now.2.2.2.1.get hqn
      rw [hq] at hc h0 h1
      clear hq
      have hq0 : (q : Int) < nn := by omega
      generalize fB q = y1 at *
      generalize fS q = y2 at *
      generalize fT q = y3 at *
      go_wp2_with fail
      go_at_call 34
      (with_reducible refine (LN.out _ B1.out.now.2.2.2.2.2.1 B1.out.now.2.2.2.2.1 B1.out.now.2.2.2.1).mono ?_)
      rintro e w2 ⟨rfl, hb2⟩
      have B2 := Lib.hid (B1.out.go hb2)
      have HB2 := Lib.hid hb2
      clear hb2 q3 p0 p1 p2 p3
      have q3 : w2.cell? ⟨w.heap.size + 1 + 1, 3, none⟩ = some (.slice a1 k ak) := B2.out.now.2.1.cell 3
      have p1 : w2.cell? ⟨w.heap.size, 1, none⟩ = some (.bool false) := B2.out.now.1.cell 1
      have p2 : w2.cell? ⟨w.heap.size, 2, none⟩ = some (.slice ta 0 tc) := B2.out.now.1.cell 2
      have p3 : w2.cell? ⟨w.heap.size, 3, none⟩ = some (.slice (some ⟨b2, off2, none⟩) nn nc) := B2.out.now.1.cell 3
      have hcc2 : w2.cell? ⟨b2, off2 + q * 3, none⟩ = some (.bool y1) := (HB2.out.cell (p := ⟨b2, _, none⟩) hbb2).trans hcc
      have hcd2 : w2.cell? ⟨b2, off2 + q * 3 + 1, none⟩ = some (.string y2) := (HB2.out.cell (p := ⟨b2, _, none⟩) hbb2).trans hcd
      have hce2 : w2.cell? ⟨b2, off2 + q * 3 + 2, none⟩ = some (.string y3) := (HB2.out.cell (p := ⟨b2, _, none⟩) hbb2).trans hce
      have HONE := Lib.hid (show ∀ u ∈ ([.bool y1, .string y2, .string y3] : List Value), u.oneCell' = true by intro u hu; simp at hu; rcases hu with rfl | rfl | rfl <;> rfl)
      have B3 := Lib.hid ((B2.out.newRow #[.bool y1, .string y2, .string y3] 53).drew)
      have qp3 : (w2.alloc (.cells #[.bool y1, .string y2, .string y3] 53)).cell? ⟨w.heap.size + 1 + 1, 3, none⟩ = some (.slice a1 k ak) := B3.out.now.2.2.1.cell 3
      have HROW := Lib.hid B3.out.now.2.2.1
      have HOWN := Lib.hid B3.out.now.2.2.2.1
      have HNEW := Lib.hid (World.news_of_block B3.out.now.1)
      have HBA := Lib.hid (Nat.le_trans HF.out.size B3.out.below.size)
      have HNX := Lib.hid (pl_step HBL.out HF.out B3.out.below HROW.out HOWN.out (by decide) (by omega) BB.out.below.size)
      clear hcc hcd hce
      go_wp2_with fail
      go_region_law (refine step_append_lies _ rfl (.tmp 57) (.tmp 63) 24 rfl y0.heap.size 53 i0 _ 3 40 Tryz.underlying24 hi hz0 hz1 hz2 rfl (by omega) (.slice a1 k ak) k _ rfl HOWN.out ⟨w2.heap.size, 0, none⟩ 1 1 [.bool y1, .string y2, .string y3] rfl rfl HNEW.out HONE.out (by omega) HMX.out HMY.out HBA.out _ rfl ?_; intro g9 cap9 w3 hown3 hgrow hor hlt3; have hr3 := HROW.out.grown hgrow (HROW.out.apart HOWN.out (by decide)); have qp : w3.cell? ⟨w.heap.size + 1 + 1, 3, none⟩ = some (.slice a1 k ak) := hr3.cell 3; have fp := hr3.free 3; have HN := Lib.hid (HNX.out g9 cap9 w3 (by rw [← HV.out.1, ← HV.out.2.1, ← HV.out.2.2]; exact hown3) hgrow); clear hown3 hgrow hor hlt3 hr3)
      all_goals
       go_wp2
       go_roundw
       case rel => exact ⟨k + 1, _, cap9, by omega, by go_num, HN.out⟩
       case measure => simp [intOf]; omega
    · have HV := Lib.hid (show rB 0 = elB nn fB (at' k) /\ rS 0 = elS nn fS (rS 0) (at' k) /\ str (dec 1) = elS nn fT (str (dec 1)) (at' k) by unfold elB elS; rw [if_neg hin, if_neg hin, if_neg hin]; exact ⟨rfl, rfl, rfl⟩)
      obtain ⟨z1, hz1'⟩ : ∃ z, elB nn fB (at' k) = z := ⟨_, rfl⟩
      obtain ⟨z2, hz2'⟩ : ∃ z, elS nn fS (rS 0) (at' k) = z := ⟨_, rfl⟩
      obtain ⟨z3, hz3'⟩ : ∃ z, elS nn fT (str (dec 1)) (at' k) = z := ⟨_, rfl⟩
      have ZR := Lib.hid (fun wz => r3Zero_any wz)
      unfold NumTold at ZR
      rw [HV.out.1, HV.out.2.1, HV.out.2.2, hz1', hz2', hz3'] at ZR
      have HV := Lib.hid (And.intro hz1'.symm (And.intro hz2'.symm hz3'.symm))
      clear hz1' hz2' hz3'
      obtain ⟨x, hx⟩ : ∃ x, at' k = x := ⟨_, rfl⟩
      rw [hx] at hc hin
      clear hx
      by_cases h0 : 0 <= x
      · have h1 : ¬ x < (nn : Int) := by omega
        clear hin
        go_wp2_with fail
        go_at_call 34
        (with_reducible refine (LN.out _ B1.out.now.2.2.2.2.2.1 B1.out.now.2.2.2.2.1 B1.out.now.2.2.2.1).mono ?_)
        rintro e w2 ⟨rfl, hb2⟩
        have B2 := Lib.hid (B1.out.go hb2)
        have HB2 := Lib.hid hb2
        clear hb2 q3 p0 p1 p2 p3
        have q3 : w2.cell? ⟨w.heap.size + 1 + 1, 3, none⟩ = some (.slice a1 k ak) := B2.out.now.2.1.cell 3
        have p1 : w2.cell? ⟨w.heap.size, 1, none⟩ = some (.bool false) := B2.out.now.1.cell 1
        have p2 : w2.cell? ⟨w.heap.size, 2, none⟩ = some (.slice ta 0 tc) := B2.out.now.1.cell 2
        have p3 : w2.cell? ⟨w.heap.size, 3, none⟩ = some (.slice na nn nc) := B2.out.now.1.cell 3
        have HONE := Lib.hid (show ∀ u ∈ ([.bool z1, .string z2, .string z3] : List Value), u.oneCell' = true by intro u hu; simp at hu; rcases hu with rfl | rfl | rfl <;> rfl)
        go_wp2_with fail
        go_region_law (first
         | (go_simp; go_at_call 68; (with_reducible refine (ZR.out _).mono ?_); rintro e w4 ⟨rfl, hb4⟩;
             have B4 := Lib.hid (B2.out.drew.go hb4);
             have q4 : w4.cell? ⟨w.heap.size + 1 + 1, 3, none⟩ = some (.slice a1 k ak) := B4.out.now.2.1.cell 3;
             have B3 := Lib.hid (B4.out.newRow #[.bool z1, .string z2, .string z3] 53);
             have qp3 : (w4.alloc (.cells #[.bool z1, .string z2, .string z3] 53)).cell? ⟨w.heap.size + 1 + 1, 3, none⟩ = some (.slice a1 k ak) := B3.out.now.2.2.1.cell 3;
             have HROW := Lib.hid B3.out.now.2.2.1;
             have HOWN := Lib.hid B3.out.now.2.2.2.1;
             have HNEW := Lib.hid (World.news_of_block B3.out.now.1);
             have HBA := Lib.hid (Nat.le_trans HF.out.size B3.out.below.size);
             have HNX := Lib.hid (pl_step HBL.out HF.out B3.out.below HROW.out HOWN.out (by decide) (by omega) BB.out.below.size);
             clear hb4)
         | (refine step_append_lies _ rfl (.tmp 67) (.tmp 69) 24 rfl y0.heap.size 53 i0 _ 3 40 Tryz.underlying24 hi hz0 hz1 hz2 rfl (by omega) (.slice a1 k ak) k _ rfl HOWN.out ⟨w4.heap.size, 0, none⟩ 1 1 [.bool z1, .string z2, .string z3] rfl rfl HNEW.out HONE.out (by omega) HMX.out HMY.out HBA.out _ rfl ?_; intro g9 cap9 w3 hown3 hgrow hor hlt3; have hr3 := HROW.out.grown hgrow (HROW.out.apart HOWN.out (by decide)); have qp : w3.cell? ⟨w.heap.size + 1 + 1, 3, none⟩ = some (.slice a1 k ak) := hr3.cell 3; have fp := hr3.free 3; have HN := Lib.hid (HNX.out g9 cap9 w3 (by rw [← HV.out.1, ← HV.out.2.1, ← HV.out.2.2]; exact hown3) hgrow); clear hown3 hgrow hor hlt3 hr3))
        all_goals
         go_wp2
         go_roundw
         case rel => exact ⟨k + 1, _, cap9, by omega, by go_num, HN.out⟩
         case measure => simp [intOf]; omega
      · clear hin
        have HONE := Lib.hid (show ∀ u ∈ ([.bool z1, .string z2, .string z3] : List Value), u.oneCell' = true by intro u hu; simp at hu; rcases hu with rfl | rfl | rfl <;> rfl)
        go_wp2_with fail
        go_region_law (first
         | (go_simp; go_at_call 68; (with_reducible refine (ZR.out _).mono ?_); rintro e w4 ⟨rfl, hb4⟩;
             have B4 := Lib.hid (B1.out.drew.go hb4);
             have q4 : w4.cell? ⟨w.heap.size + 1 + 1, 3, none⟩ = some (.slice a1 k ak) := B4.out.now.2.1.cell 3;
             have B3 := Lib.hid (B4.out.newRow #[.bool z1, .string z2, .string z3] 53);
             have qp3 : (w4.alloc (.cells #[.bool z1, .string z2, .string z3] 53)).cell? ⟨w.heap.size + 1 + 1, 3, none⟩ = some (.slice a1 k ak) := B3.out.now.2.2.1.cell 3;
             have HROW := Lib.hid B3.out.now.2.2.1;
             have HOWN := Lib.hid B3.out.now.2.2.2.1;
             have HNEW := Lib.hid (World.news_of_block B3.out.now.1);
             have HBA := Lib.hid (Nat.le_trans HF.out.size B3.out.below.size);
             have HNX := Lib.hid (pl_step HBL.out HF.out B3.out.below HROW.out HOWN.out (by decide) (by omega) BB.out.below.size);
             clear hb4)
         | (refine step_append_lies _ rfl (.tmp 67) (.tmp 69) 24 rfl y0.heap.size 53 i0 _ 3 40 Tryz.underlying24 hi hz0 hz1 hz2 rfl (by omega) (.slice a1 k ak) k _ rfl HOWN.out ⟨w4.heap.size, 0, none⟩ 1 1 [.bool z1, .string z2, .string z3] rfl rfl HNEW.out HONE.out (by omega) HMX.out HMY.out HBA.out _ rfl ?_; intro g9 cap9 w3 hown3 hgrow hor hlt3; have hr3 := HROW.out.grown hgrow (HROW.out.apart HOWN.out (by decide)); have qp : w3.cell? ⟨w.heap.size + 1 + 1, 3, none⟩ = some (.slice a1 k ak) := hr3.cell 3; have fp := hr3.free 3; have HN := Lib.hid (HNX.out g9 cap9 w3 (by rw [← HV.out.1, ← HV.out.2.1, ← HV.out.2.2]; exact hown3) hgrow); clear hown3 hgrow hor hlt3 hr3))
        all_goals
         go_wp2
         go_roundw
         case rel => exact ⟨k + 1, _, cap9, by omega, by go_num, HN.out⟩
         case measure => simp [intOf]; omega
  · obtain rfl : k = m := by omega
    obtain ⟨a9, c9, he, hq⟩ := QRow.of_own hown
    injection he with he1 _ he2
    subst he1 he2
    have HE : Hid (∀ g', PlnTold S' r' false g' 0 (fun j => elB nn fB (at' j)) (fun j => elS nn fS (rS 0) (at' j)) (fun j => elS nn fT (str (dec 1)) (at' j)) k w (wr.setRow (w.heap.size + 1) (plC s1 r' c1 false none 0 0 a1 k ak)) (.returned (.agg (plC s1 r' c1 false none 0 0 a1 k ak)))) :=
     Lib.hid fun g' => ans_pln ⟨_, _, _, _, _, _, rfl, k4, KRow.nought _ _ _ _ (Nat.zero_le _) _, hq⟩ hbl r1 (Nat.le_succ _)
    have HR0 := Lib.hid r1
    have HRP := Lib.hid hrp
    clear hbl hfar hrp hown k1 k2 k3 k4 k5 r0 r1 hq
    go_wp2_with (first
     | (refine ld_pln rfl (.tmp 7) rfl (w.heap.size + 1 + 1) rfl HRP.out ?_)
     | (refine st_pln rfl (.tmp 6) (.tmp 72) rfl (w.heap.size + 1) rfl _ _ _ _ _ _ _ _ _ _ rfl HR0.out rfl ?_))
    exact bodyPost_ret (res_pln Tryz.results44 rfl (HR0.out.put _) rfl) rfl HE.out
theorem el_same {fB : Nat -> Bool} {fS fT : Nat -> ByteArray} {fP : Nat -> Int} {fQ : Nat -> Nat} {n : Nat} (h : NumOk fB fS fT fP fQ n) (i : Int) : elB n fB i = rB (elP n fP i) /\ elS n fS (rS 0) i = rS (elP n fP i) /\ elS n fT (str (dec 1)) i = str (dec (elQ n fQ i)) := by
 unfold elB elS elP elQ
 by_cases hi : 0 <= i /\ i < n
 · rw [if_pos hi, if_pos hi, if_pos hi, if_pos hi, if_pos hi]
   obtain ⟨e1, e2, e3, _⟩ := h i.toNat (by omega)
   exact ⟨e1, e2, e3⟩
 · rw [if_neg hi, if_neg hi, if_neg hi, if_neg hi, if_neg hi]
   exact ⟨rfl, rfl, rfl⟩
theorem el_cmp {fP : Nat -> Int} {fQ : Nat -> Nat} {n : Nat} (h : CmpOk 7 fP fQ n) (at' : Nat -> Int) (m : Nat) : CmpOk 7 (fun j => elP n fP (at' j)) (fun j => elQ n fQ (at' j)) m := by
 intro j _
 show 0 < elQ n fQ (at' j) /\ (elP n fP (at' j)).natAbs < _ /\ elQ n fQ (at' j) < _
 unfold elP elQ
 by_cases hi : 0 <= at' j /\ at' j < n
 · rw [if_pos hi, if_pos hi]
   exact h (at' j).toNat (by omega)
 · rw [if_neg hi, if_neg hi]
   exact ⟨Nat.one_pos, by decide, by decide⟩
theorem rpick8_any (cs : Array Value) (S : Nat -> Int) (r : Nat) (ch : Bool) (L : Nat) (g : Nat -> Int) (fB : Nat -> Bool) (fS fT : Nat -> ByteArray) (s1 : Option Addr) (r' c1 : Nat) (T : Nat -> Int) (t1 : Option Addr) (m d1 : Nat) (G : Nat -> Int) (w : World) (h : Pln w cs S r ch L g fB fS fT) (hs : KRow w .i64 s1 r' c1 T) (ht : KRow w .i64 t1 m d1 G) (hm : m <= 1000000) (hL : L <= 1000000) :
    Calls Tryz.prog 44 #[.agg cs, .slice s1 r' c1, .slice t1 m d1] w fun e w' => ∃ cs', e = .returned (.agg cs') /\ Pln w' cs' T r' ch m (fun j => elC L g 32 (G j)) (fun j => elB L fB (G j)) (fun j => elS L fS (rS 0) (G j)) (fun j => elS L fT (str (dec 1)) (G j)) /\ Below w.heap.size w w' := by
 cases ch with
 | true =>
  refine (r6PickC_any cs S r g L fB fS fT s1 r' c1 T t1 m d1 G w h hs ht hm hL).mono ?_
  intro e w' hq
  exact hq _ _ _
 | false =>
  refine (r6PickN_any cs S r g L fB fS fT s1 r' c1 T t1 m d1 G w h hs ht hm hL).mono ?_
  intro e w' hq
  exact hq _
theorem inB_no {f g : Nat -> Int} {n j : Nat} (hj : j < n) (h : ¬ (0 <= g j /\ g j < f j)) : inB f g n = false := by
 cases hx : inB f g n with
 | false => rfl
 | true => exact absurd (inB_at hx hj) h
def RPlTold (f : Nat -> Int) (n : Nat) (g : Nat -> Int) (m : Nat) (w w' : World) (e : Ending) : Prop :=
 ∃ x, e = .returned (.int .i64 x) /\ (inB f g (min n m) = false -> x = -1) /\ (axB f (min n m) = true -> inB f g (min n m) = true -> x = plc f g (min n m)) /\ Below w.heap.size w w'
theorem r6Place_any (a : Option Addr) (n c : Nat) (f : Nat -> Int) (a2 : Option Addr) (m c2 : Nat) (g : Nat -> Int) (w : World) (h : KRow w .i64 a n c f) (h2 : KRow w .i64 a2 m c2 g) :
    Calls Tryz.prog 101 #[.slice a n c, .slice a2 m c2] w fun e w' => RPlTold f n g m w w' e := by
 have hl := h.len
 have hl2 := h2.len
 have H1 := Lib.hid h
 have H2 := Lib.hid h2
 clear h h2
 obtain ⟨mn, hmn⟩ : ∃ q, min n m = q := ⟨_, rfl⟩
 have hm1 : mn <= n := by omega
 have hm2 : mn <= m := by omega
 unfold RPlTold
 rw [hmn]
 go_enter Tryz.func101, Tryz.ntmps101
 go_wp2
 go_loopw [5, 6] (fun t i wr => ∃ (k : Nat) (x : Int), k <= mn /\ i = .int .i64 k /\ t = .int .i64 x /\ Hid (inB f g k = true /\ (axB f k = true -> x = plc f g k) /\ Below w.heap.size w wr)) (fun _ i _ => mn - (intOf i).toNat)
 case atStart => exact ⟨0, 0, by omega, rfl, rfl, rfl, fun _ => rfl, Below.refl _ _⟩
 case round =>
  obtain ⟨k, x, hk, rfl, rfl, hrel⟩ := hrel
  obtain ⟨hin, hpl, hbl⟩ := hrel.out
  by_cases hlt : k < mn
  · obtain ⟨b, off, rfl, hb, hc⟩ := (H1.out.below hbl).get (show k < n by omega)
    obtain ⟨b2, off2, rfl, hb2, hc2⟩ := (H2.out.below hbl).get (show k < m by omega)
    have HBL := Lib.hid hbl
    have hk0 : (0 : Int) <= k := by omega
    have hk1 : (k : Int) < n := by omega
    have hk2 : (k : Int) < m := by omega
    by_cases h0 : g k < 0
    · have HN := Lib.hid (inB_no (f := f) (g := g) hlt (by omega))
      clear hbl hin hpl hrel hmn
      generalize g k = y at *
      generalize f k = x' at *
      go_wp2_with fail
      go_quiet (fail)
      have HBE := Lib.hid (below_drewN HBL.out nq)
      go_wp2
      go_ret
      exact ⟨-1, rfl, fun _ => rfl, (fun _ h => by rw [HN.out] at h; cases h), HBE.out⟩
    · by_cases h1 : f k <= g k
      · have HN := Lib.hid (inB_no (f := f) (g := g) hlt (by omega))
        clear hbl hin hpl hrel hmn
        generalize g k = y at *
        generalize f k = x' at *
        go_wp2_with fail
        go_quiet (fail)
        have HBE := Lib.hid (below_drewN HBL.out nq)
        go_wp2
        go_ret
        exact ⟨-1, rfl, fun _ => rfl, (fun _ h => by rw [HN.out] at h; cases h), HBE.out⟩
      · have hin' : inB f g (k + 1) = true := by unfold inB; rw [hin, decide_eq_true (show 0 <= g k by omega), decide_eq_true (show g k < f k by omega)]; rfl
        have hpl' : axB f (k + 1) = true -> wrap64 (wrap64 (x * f k) + g k) = plc f g (k + 1) := fun hax => by
         have hpb := plc_bd hax hin'
         have hpb0 := plc_bd (ax_le (Nat.le_succ k) hax) hin
         have hit := (ax_bd hax).2.2.2
         have hrm := (ax_bd hax).2.1
         have e2 : plc f g (k + 1) = plc f g k * f k + g k := rfl
         rw [e2] at hpb
         have hm0 : 0 <= plc f g k * f k := Int.mul_nonneg hpb0.1 (by omega)
         rw [hpl (ax_le (Nat.le_succ k) hax), IntWalk.wrap64_in (plc f g k * f k) (by omega), IntWalk.wrap64_in (plc f g k * f k + g k) (by omega)]
         exact e2.symm
        have HN := Lib.hid (And.intro hin' hpl')
        clear hbl hin hin' hpl hpl' hrel hmn
        generalize g k = y at *
        generalize f k = x' at *
        go_wp2_with fail
        go_quiet (fail)
        go_wp2_with fail
        go_quiet (fail)
        go_wp2
        go_roundw
        case rel => exact ⟨k + 1, _, by omega, by go_num, rfl, HN.out.1, HN.out.2, below_drewN HBL.out _⟩
        case measure => simp [intOf]; omega
  · obtain rfl : k = mn := by omega
    have HE := Lib.hid (And.intro hin (And.intro hpl hbl))
    clear hbl hin hpl hrel
    by_cases hkn : (k : Int) < n
    · have hkm : ¬ (k : Int) < m := by omega
      go_wp2
      go_ret
      exact ⟨x, rfl, fun h => (by rw [HE.out.1] at h; cases h), fun h _ => HE.out.2.1 h, HE.out.2.2⟩
    · go_wp2
      go_ret
      exact ⟨x, rfl, fun h => (by rw [HE.out.1] at h; cases h), fun h _ => HE.out.2.1 h, HE.out.2.2⟩
end Go.Proofs.YtnpoakaffafdiaaGreatDoor
namespace Go.Proofs.YtnpoakaffafdiaaGreatDoor
open Go.RowKit
attribute [local go_sem ↓] Go.wp_at_zero Go.wp_at_succ
theorem lenZ_any (w : World) : Calls Tryz.prog 19 #[.agg zerC] w fun e w' => e = .returned (.int .i64 0) /\ Below w.heap.size w w' :=
 len_any false 0 (fun _ => 0) none 0 0 none 0 0 w
end Go.Proofs.YtnpoakaffafdiaaGreatDoor
namespace Go.Proofs.YtnpoakaffafdiaaGreatDoor
open Go.RowKit
theorem dm_congr {f f' : Nat -> Int} {n : Nat} (h : ∀ j, j < n -> f j = f' j) : dm f n = dm f' n := by
 funext j
 unfold dm
 split
 · rename_i hj; exact h j hj
 · rfl
theorem Arr.shape {w : World} {cs : Array Value} {S S' : Nat -> Int} {r : Nat} {ch : Bool} {L : Nat} {g fP : Nat -> Int} {fQ : Nat -> Nat} (h : Arr w cs S r ch L g fP fQ) (e : ∀ j, j < r -> S j = S' j) : Arr w cs S' r ch L g fP fQ := by
 refine ⟨fun q => ?_, fun q => ?_⟩
 · obtain ⟨ta, tc, h1, h2⟩ := h.1 q
   exact ⟨ta, tc, by rw [h1, dm_congr e], h2⟩
 · obtain ⟨na, nc, h1, h2⟩ := h.2 q
   exact ⟨na, nc, by rw [h1, dm_congr e], h2⟩
theorem wh_eq (ch : Bool) (L : Nat) (fP : Nat -> Int) (fQ : Nat -> Nat) : (decide (tnO ch L = 0) && whB fP fQ (nnO ch L)) = whC ch L fP fQ := by
 cases ch with
 | true => show (decide (L = 0) && true) = decide (L = 0); rw [Bool.and_true]
 | false => rfl
theorem wh_nn {ch : Bool} {L : Nat} {fP : Nat -> Int} {fQ : Nat -> Nat} (h : whC ch L fP fQ = true) : nnO ch L = L := by
 cases ch with
 | true => have : L = 0 := of_decide_eq_true h; subst this; rfl
 | false => rfl
theorem res_pln2 {fn : Func} {p q : Tmp} {tmps : Array Value} {w : World} {g : Nat} {cs : Array Value} {v : Value} (h : fn.results = #[.cell p 26, .tmp q]) (hp : tmps.getD p undef = .pointer (some ⟨g, 0, none⟩)) (hq : tmps.getD q undef = v) (hg : Row w g 26 cs) (hs : cs.size = 4) :
    (results fn tmps).run Tryz.prog w = .ok (.tuple #[.agg cs, v]) w := by
 have hp' : tmps[p]?.getD undef = .pointer (some ⟨g, 0, none⟩) := by simpa using hp
 have hq' : tmps[q]?.getD undef = v := by simpa using hq
 simp [results, h, hp', hq', asAddr, run_loadVar_row w g 26 26 cs (0, 0) _ hg Tryz.underlying26 rfl (by rw [pln4, hs])]
theorem sls_congr {A A' : Nat -> Option Addr} {C C' : Nat -> Nat} {L : Nat} : ∀ {n : Nat}, (∀ j, j < n -> A j = A' j /\ C j = C' j) -> sls A C L n = sls A' C' L n
 | 0, _ => rfl
 | n + 1, h => by unfold sls; rw [sls_congr (fun j hj => h j (by omega)), (h n (by omega)).1, (h n (by omega)).2]
theorem infoS : (Tryz.prog.info? 22).map (fun i => (i.zero, i.size, i.bytes)) = some (some (.slice none 0 0), 1, 24) := by kernel_rfl
theorem add_zero0 (g j : Nat) : (⟨g, 0, none⟩ : Addr).add j = ⟨g, 0 + j, none⟩ := by unfold Addr.add; split <;> simp_all
theorem rplk_any (a : Option Addr) (n c : Nat) (f : Nat -> Int) (a2 : Option Addr) (c2 : Nat) (g : Nat -> Int) (w : World) (h : KRow w .i64 a n c f) (h2 : KRow w .i64 a2 n c2 g) (hax : axB f n = true) :
    Calls Tryz.prog 101 #[.slice a n c, .slice a2 n c2] w fun e w' => e = .returned (.int .i64 (if inB f g n then plc f g n else -1)) /\ Below w.heap.size w w' :=
 (r6Place_any a n c f a2 n c2 g w h h2).mono (by
   rintro e w' ⟨x, rfl, h0, h1, hb⟩
   rw [Nat.min_self] at h0 h1
   refine ⟨?_, hb⟩
   cases hq : inB f g n with
   | true => rw [h1 hax hq, if_pos rfl]
   | false => rw [h0 hq, if_neg (by decide)])
theorem append_none1 {P : Program} {w : World} (base : Nat) (t e : TypeId) (i : TypeInfo) (size : Nat) (ht : P.underlying t = some (.slice e)) (hi : P.info? e = some i) (v : Value) (n : Nat) (xs : List Value) (c : Nat) (hown : w.ownsRow base e size v n xs) : (Builtin.append_ #[t, t] t #[v, .slice none 0 c]).run P w = .ok v w := by
 rcases hown.2 with ⟨rfl, rfl⟩ | ⟨g, cap, cur, rfl, _, _, hnc, _⟩
 · simp [Builtin.append_, run_underlying ht, sizeOf, typeInfo, hi, Builtin.lenOf, Builtin.firstCells]
 · simp [Builtin.append_, run_underlying ht, sizeOf, typeInfo, hi, Builtin.lenOf, Builtin.firstCells, hnc, storeCells]
theorem kcs_app1 (ki : IntKind) {F f g : Nat -> Int} {k : Nat} (h1 : ∀ j, j < k -> F j = f j) {m : Nat} (h2 : ∀ j, j < m -> F (k + j) = g j) : kcs ki f k ++ kcs ki g m = kcs ki F (k + m) := by
 rw [← kcs_app]
 refine kcs_congr fun j hj => ?_
 unfold app
 by_cases e : j < k
 · rw [if_pos e, h1 j e]
 · rw [if_neg e, ← h2 (j - k) (by omega)]; congr 1; omega
theorem KRow.ofRow1 {w : World} {g : Nat} {t : TypeId} {ki : IntKind} {x : Int} (h : Row w g t #[.int ki x]) : KRow w ki (some ⟨g, 0, none⟩) 1 1 (fun _ => x) := by
 refine ⟨Nat.le_refl _, by unfold maxLen; omega, .inr ⟨g, 0, rfl, h.lt, fun j hj => ?_⟩⟩
 obtain rfl : j = 0 := by omega
 exact h.cell 0
theorem ownI_more {y0 wr : World} {a a2 : Option Addr} {k c m c2 N : Nat} {f g F : Nat -> Int} (h : OwnI y0 wr a k c f) (h2 : KRow wr .i64 a2 m c2 g) (hN : k + m = N) (hm : N <= 1000000) (e1 : ∀ j, j < k -> F j = f j) (e2 : ∀ j, j < m -> F (k + j) = g j) :
    ∃ a' c' y1, (Builtin.append_ #[22, 22] 22 #[.slice a k c, .slice a2 m c2]).run Tryz.prog wr = .ok (.slice a' N c') y1 /\ OwnI y0 y1 a' N c' F /\ wr.grownBy y1 (Value.slice a k c).ownBlock := by
 obtain ⟨i0, hi, hz0, hz1, hz2⟩ := info_parts infoI
 have hs0 := h.1.size
 have ek := kcs_app1 .i64 e1 e2
 subst hN
 cases a2 with
 | none =>
  have hm : m = 0 := by
   rcases h2.2.2 with h | ⟨_, _, h, _⟩
   · exact h
   · cases h
  subst hm
  have ho := h.2
  rw [show kcs .i64 g 0 = [] from rfl, List.append_nil] at ek
  rw [ek] at ho
  exact ⟨_, _, _, append_none1 y0.heap.size _ 3 i0 1 Tryz.underlying22 hi _ _ _ c2 ho, ⟨h.1, ho⟩, rfl, rfl, rfl, Nat.le_refl _, fun _ _ _ => rfl⟩
 | some ad =>
  obtain ⟨v', w', r1, r2, r3⟩ := run_append_krow 22 y0.heap.size _ k _ h.2 (some ad) m c2 g h2 (fun e => by cases e) hm hs0
  rw [ek] at r2
  obtain ⟨a', c', rfl, _⟩ := KRow.of_own r2
  exact ⟨a', c', w', r1, ⟨h.1.grown r3 (by omega) (fun q hq => (h.2.lt q hq).1), r2⟩, r3⟩
theorem step_ownI {ops : Array Oper} {o : Oper} {a : Act} {K : Act -> World -> Prop} {Q : Exit -> Act -> World -> Prop} {E : Prop} {y0 wr : World} (hgd : o.guard = none) (s x : Operand)
    (ho : o.op = .call { callee := .builtin .append, args := #[s, x], argTypes := #[22, 22] }) (hot : o.type = 22) {a0 a2 : Option Addr} {k c m c2 N : Nat} {f g F : Nat -> Int} (hs : a.eval s = .slice a0 k c) (hx : a.eval x = .slice a2 m c2)
    (h : OwnI y0 wr a0 k c f) (h2 : KRow wr .i64 a2 m c2 g) (hN : k + m = N) (hm : N <= 1000000) (e1 : ∀ j, j < k -> F j = f j) (e2 : ∀ j, j < m -> F (k + j) = g j)
    (hK : ∀ a' c' y1, OwnI y0 y1 a' N c' F -> wr.grownBy y1 (Value.slice a0 k c).ownBlock -> K (a.put o.dst (.slice a' N c')) y1) : if Region.wanted o (yielded ops a.tmps) = true then Oper.wp Tryz.prog o a wr K Q else E := by
 obtain ⟨a', c', y1, r1, r2, r3⟩ := ownI_more h h2 hN hm e1 e2
 exact step_append_run9 wr hgd s x _ _ ho _ _ hs hx _ _ (by rw [hot]; exact r1) (hK a' c' y1 r2 r3)
theorem ownI_new (y0 w : World) (f : Nat -> Int) (hb : Below y0.heap.size y0 w) : OwnI y0 (w.alloc (.cells #[] 3)) (some ⟨w.heap.size, 0, none⟩) 0 0 f :=
 ⟨hb.alloc hb.size _, ⟨rfl, .inr ⟨w.heap.size, 0, #[], rfl, hb.size, heap_alloc_new w _, Nat.le_refl _, Nat.zero_le _, rfl, rfl⟩⟩⟩
end Go.Proofs.YtnpoakaffafdiaaGreatDoor
namespace Go.Proofs.YtnpoakaffafdiaaGreatDoor
open Go.RowKit
attribute [local go_sem ↓] Go.wp_at_zero Go.wp_at_succ
def RowSt (y0 wr : World) (R : Nat -> Nat -> Int) (i cnt : Nat) (v : Value) : Prop :=
 Below y0.heap.size y0 wr /\ ∃ A C, wr.ownsRow y0.heap.size 22 1 v cnt (sls A C (i + 1) cnt) /\ ∀ r, r < cnt -> KRow wr .i64 (A r) (i + 1) (C r) (R r) /\ ∃ g, A r = some ⟨g, 0, none⟩
theorem RowSt.nought (y0 : World) (R : Nat -> Nat -> Int) (i : Nat) : RowSt y0 y0 R i 0 (.slice none 0 0) := ⟨Below.refl _ _, fun _ => none, fun _ => 0, World.ownsRow_nil _ _ _ _, fun _ h => absurd h (Nat.not_lt_zero _)⟩
theorem RowSt.done {y0 wr : World} {R : Nat -> Nat -> Int} {i cnt : Nat} {v : Value} (h : RowSt y0 wr R i cnt v) : ∃ la lc A C, v = .slice la cnt lc /\ LRow wr la cnt lc A (fun _ => i + 1) C (fun r => R r) := by
 obtain ⟨_, A, C, ho, hk⟩ := h
 have hA : ∀ r, r < cnt -> A r ≠ none := fun r hr e => by
  obtain ⟨g, e2⟩ := (hk r hr).2
  rw [e] at e2
  cases e2
 rcases ho.2 with ⟨rfl, rfl⟩ | ⟨g, cap, cur, rfl, _, hh, h1, h2, _, _⟩
 · exact ⟨none, 0, A, C, rfl, Nat.le_refl _, Nat.zero_le _, .inl rfl⟩
 · refine ⟨some ⟨g, 0, none⟩, cap, A, C, rfl, h1, h2, .inr ⟨g, 0, rfl, Row.lt (t := 22) hh, fun j hj => ⟨?_, (hk j hj).1, fun e => absurd e (hA j hj)⟩⟩⟩
   have := ho.cells (g := g) rfl j _ (sls_get A C (i + 1) cnt j hj)
   rwa [show (⟨g, 0, none⟩ : Addr).add j = ⟨g, 0 + j, none⟩ by unfold Addr.add; split <;> simp_all] at this
theorem row_add {y0 wr y3 : World} {R : Nat -> Nat -> Int} {i cnt : Nat} {v : Value} {a2 : Option Addr} {c2 : Nat} (h : RowSt y0 wr R i cnt v) (h7 : OwnI wr y3 a2 (i + 1) c2 (R cnt)) (hcnt : cnt <= 5000) :
    ∃ v9 y5, (Builtin.append_ #[90, 90] 90 #[v, .slice (some ⟨y3.heap.size, 0, none⟩) 1 1]).run Tryz.prog (y3.alloc (.cells #[.slice a2 (i + 1) c2] 22)) = .ok v9 y5 /\ RowSt y0 y5 R i (cnt + 1) v9 := by
 obtain ⟨hbl, A, C, ho, hrows⟩ := h
 have hwr := hbl.size
 have g3 := h7.1
 have o2 := h7.2
 have hk2 := h7.krow
 have g4 : Below wr.heap.size wr (y3.alloc (.cells #[.slice a2 (i + 1) c2] 22)) := g3.alloc g3.size _
 have ho4 := own_below ho g4
 obtain ⟨i0, hi, hz0, hz1, hz2⟩ := info_parts infoS
 obtain ⟨v9, y5, r3, o3, q3, _⟩ := run_append_own (P := Tryz.prog) (y3.alloc (.cells #[.slice a2 (i + 1) c2] 22)) y0.heap.size 90 90 22 i0 _ 1 24 Tryz.underlying90 hi hz0 hz1 hz2 rfl (by omega) v cnt _ ho4 ⟨y3.heap.size, 0, none⟩ 1 1 [.slice a2 (i + 1) c2] rfl (World.news_of_block (Row.new y3 22 #[.slice a2 (i + 1) c2])) (by intro u hu; simp at hu; subst hu; rfl) (by unfold maxLen; omega) (by omega) (Nat.le_trans hwr g4.size)
 refine ⟨v9, y5, r3, (hbl.trans (g4.mono hwr)).grown q3 (Nat.le_trans hwr g4.size) (fun z hz => (ho4.lt z hz).1), (fun r => if r = cnt then a2 else A r), (fun r => if r = cnt then c2 else C r), ?_, fun r hr => ?_⟩
 · show y5.ownsRow _ _ _ _ _ (sls _ _ (i + 1) cnt ++ [_])
   simp only [if_true]
   rw [sls_congr (A' := A) (C' := C) (fun j hj => ⟨if_neg (by omega), if_neg (by omega)⟩)]
   exact o3
 · have far : ∀ (ad : Option Addr) (cd : Nat) (h : Nat -> Int), KRow (y3.alloc (.cells #[.slice a2 (i + 1) c2] 22)) .i64 ad (i + 1) cd h -> (∀ b off, ad = some ⟨b, off, none⟩ -> v.ownBlock ≠ some b) -> KRow y5 .i64 ad (i + 1) cd h := fun ad cd h hkk hne => by
     refine ⟨hkk.1, hkk.2.1, hkk.2.2.imp id ?_⟩
     rintro ⟨b, off, rfl, hl, hcc⟩
     exact ⟨b, off, rfl, Nat.lt_of_lt_of_le hl q3.size, fun j hj => (World.cell?_of_block (a := ⟨b, off + j, none⟩) (q3.block b hl (fun e => hne b off rfl e.symm))).trans (hcc j hj)⟩
   by_cases e : r = cnt
   · subst e
     simp only [if_true]
     obtain ⟨gz, cz, ez, _, _⟩ := o2.form (show 0 < i + 1 by omega)
     injection ez with ez _ _
     refine ⟨far _ _ _ (hk2.below ((Below.refl y3.heap.size y3).alloc (Nat.le_refl _) _)) (fun b off e hb => ?_), gz, ez⟩
     have h1 := (ho.lt b hb).2
     subst e
     have h2 := (o2.lt b rfl).1
     omega
   · simp only [if_neg e]
     refine ⟨far _ _ _ ((hrows r (by omega)).1.below g4) (fun b off e2 hb => ?_), (hrows r (by omega)).2⟩
     obtain ⟨b', off', e3, hlb, hc3⟩ := (hrows r (by omega)).1.get (show 0 < i + 1 by omega)
     obtain ⟨gz, ez⟩ := (hrows r (by omega)).2
     rw [e2] at e3 ez
     cases e3
     cases ez
     rcases ho.2 with ⟨rfl, _⟩ | ⟨g, cap, cur, rfl, _, hh, _⟩
     · cases hb
     · have hgb : g = b := by simpa [Value.ownBlock] using hb
       subst hgb
       have h6 := ho.cells (g := g) rfl 0 _ (sls_get A C (i + 1) cnt 0 (by omega))
       rw [add_zero0, hc3] at h6
       cases h6
theorem step_rowSt {ops : Array Oper} {o : Oper} {a : Act} {K : Act -> World -> Prop} {Q : Exit -> Act -> World -> Prop} {E : Prop} {y0 wr y3 : World} (hgd : o.guard = none) (s x : Operand)
    (ho : o.op = .call { callee := .builtin .append, args := #[s, x], argTypes := #[90, 90] }) (hot : o.type = 90) {R : Nat -> Nat -> Int} {i cnt : Nat} {v : Value} {a2 : Option Addr} {c2 : Nat} (hs : a.eval s = v) (hx : a.eval x = .slice (some ⟨y3.heap.size, 0, none⟩) 1 1)
    (h : RowSt y0 wr R i cnt v) (h7 : OwnI wr y3 a2 (i + 1) c2 (R cnt)) (hcnt : cnt <= 5000)
    (hK : ∀ v9 y5, RowSt y0 y5 R i (cnt + 1) v9 -> K (a.put o.dst v9) y5) : if Region.wanted o (yielded ops a.tmps) = true then Oper.wp Tryz.prog o a (y3.alloc (.cells #[.slice a2 (i + 1) c2] 22)) K Q else E := by
 obtain ⟨v9, y5, r1, r2⟩ := row_add h h7 hcnt
 exact step_append_run9 _ hgd s x _ _ ho _ _ hs hx _ _ (by rw [hot]; exact r1) (hK v9 y5 r2)
theorem ix_row {T : Nat -> Nat} {F : Nat -> Nat -> Int} {i k m : Nat} (hm : m < T i) : ∀ j, j < i + 1 -> app (pkI F (dgs (lnF T) i (k : Nat))) i (fun _ => F i m) j = pkI F (dgs (lnF T) (i + 1) ((k * T i + m : Nat) : Int)) j := fun j hj => by
 have e0 : lnF T i = ((T i : Nat) : Int) := rfl
 obtain ⟨q1, q2⟩ := wv_dm (i := k) hm
 unfold app
 by_cases e : j < i
 · rw [if_pos e]
   show F j (dgs (lnF T) i (k : Nat) j).toNat = F j (dgs (lnF T) (i + 1) ((k * T i + m : Nat) : Int) j).toNat
   rw [dgs_low _ e, e0, ← Int.natCast_ediv, q2]
 · obtain rfl : j = i := by omega
   rw [if_neg e]
   show F j m = F j (dgs (lnF T) (j + 1) ((k * T j + m : Nat) : Int) j).toNat
   rw [dgs_top, e0, ← Int.natCast_emod, q1]
   rfl
theorem rplaces_any (a : Option Addr) (n c : Nat) (S : Nat -> Int) (aL : Option Addr) (cL : Nat) (A : Nat -> Option Addr) (T C : Nat -> Nat) (F : Nat -> Nat -> Int) (o : Int) (M0 : Nat) (w : World) (h : KRow w .i64 a n c S) (hL : LRow w aL n cL A T C (fun j q => F j q + o)) (hax : axB S n = true) (hT : axB (lnF T) n = true) (hM0 : itm (lnF T) n = (M0 : Nat))
    (hn : n <= 8) (hF : ∀ j, j < n -> ∀ q, q < T j -> 0 <= F j q /\ F j q <= 4096) :
    Calls Tryz.prog 45 #[.slice a n c, .slice aL n cL, .int .i64 o] w fun e w' => ∃ a' c', e = .returned (.slice a' M0 c') /\ KRow w' .i64 a' M0 c' (pkG S (lnF T) n F) /\ Below w.heap.size w w' := by
 have hl := h.len
 have H := Lib.hid h
 have HL0 := Lib.hid hL
 have HAX := Lib.hid hT
 have HF := Lib.hid hF
 have HSA := Lib.hid hax
 have hlL := hL.1
 have hlM := hL.2.1
 unfold maxLen at hlM
 have H0 : Hid (itm (lnF T) 0 = ((1 : Nat) : Int) /\ Below w.heap.size w ((w.alloc (.cells #[] 3)).alloc (.cells #[.slice (some ⟨w.heap.size, 0, none⟩) 0 0] 22)) /\ LRow ((w.alloc (.cells #[] 3)).alloc (.cells #[.slice (some ⟨w.heap.size, 0, none⟩) 0 0] 22)) (some ⟨w.heap.size + 1, 0, none⟩) 1 1 (fun _ => some ⟨w.heap.size, 0, none⟩) (fun _ => 0) (fun _ => 0) (fun r => pkI F (dgs (lnF T) 0 (r : Nat)))) := Lib.hid (by
  have r1 := Row.new (w.alloc (.cells #[] 3)) 22 #[.slice (some ⟨w.heap.size, 0, none⟩) 0 0]
  rw [World.size_alloc] at r1
  refine ⟨rfl, ((Below.refl _ _).alloc (Nat.le_refl _) _).alloc (by simp) _, Nat.le_refl _, by unfold maxLen; omega, .inr ⟨_, 0, rfl, r1.lt, fun j hj => ?_⟩⟩
  obtain rfl : j = 0 := by omega
  exact ⟨r1.cell 0, KRow.nought _ _ _ _ (Nat.zero_le _) _, fun e => by cases e⟩)
 clear h hL hT hF hax
 go_enter Tryz.func45, Tryz.ntmps45
 go_wp2_with fail
 go_loopw [7, 8] (fun l j wr => ∃ (i M : Nat) (la : Option Addr) (lc : Nat), i <= n /\ j = .int .i64 i /\ l = .slice la M lc /\ Hid (itm (lnF T) i = (M : Nat) /\ Below w.heap.size w wr /\ ∃ A C, LRow wr la M lc A (fun _ => i) C (fun r => pkI F (dgs (lnF T) i (r : Nat))))) (fun _ j _ => n - (intOf j).toNat)
 case atStart => exact ⟨0, 1, _, 1, by omega, rfl, rfl, H0.out.1, H0.out.2.1, _, _, H0.out.2.2⟩
 case round =>
  obtain ⟨i, M, la, lc, hi, rfl, rfl, hrel⟩ := hrel
  obtain ⟨hM, hbl, A1, C1, hL⟩ := hrel.out
  by_cases hlt : i < n
  · obtain ⟨M', hM1, hMF, hM4, hMF4, hF4⟩ := ax_ln HAX.out hlt
    obtain rfl : M = M' := by rw [hM] at hM1; omega
    have HT2 : Hid (∀ k m, m < T i -> ∀ j, j < i + 1 -> app (pkI F (dgs (lnF T) i (k : Nat))) i (fun _ => F i m) j = pkI F (dgs (lnF T) (i + 1) ((k * T i + m : Nat) : Int)) j) := Lib.hid (fun k m hm => ix_row hm)
    obtain ⟨bL, oL, haL, hbL, hcL, hkL, _⟩ := (HL0.out.below hbl).get hlt
    subst haL
    have hlk := hkL.len
    have HFB : Hid (∀ q, q < T i -> 0 <= F i q /\ F i q <= 4096) := Lib.hid (fun q hq => HF.out i hlt q hq)
    obtain ⟨G, hG⟩ : ∃ G, T i = G := ⟨_, rfl⟩
    rw [hG] at hcL hkL hMF hMF4 hF4 hlk HT2 HFB
    have HKL := Lib.hid hkL
    have HBL := Lib.hid hbl
    have HL := Lib.hid hL
    have HMF := Lib.hid (And.intro hMF hMF4)
    have HCL := Lib.hid hcL
    have hlen := hL.1
    have hml : M <= 9223372036854775807 := by have := hL.1; have := hL.2.1; unfold maxLen at this; omega
    have H1 := Lib.hid (RowSt.nought wr (fun r => pkI F (dgs (lnF T) (i + 1) (r : Nat))) i)
    clear hrel hbl hL hMF hMF4 hM hM1 hcL hkL hG
    have hwr := HBL.out.size
    obtain ⟨y0, hy0⟩ : ∃ y0, y0 = wr := ⟨_, rfl⟩
    subst hy0
    generalize hCi : C i = ci at *
    generalize hAi : A i = ai at *
    go_wp2_with fail
    go_loopw [9, 10] (fun v kk wk => ∃ (k : Nat) (v5 : Value), k <= M /\ kk = .int .i64 k /\ v5 = v /\ Hid (RowSt y0 wk (fun r => pkI F (dgs (lnF T) (i + 1) (r : Nat))) i (k * G) v5)) (fun _ kk _ => M - (intOf kk).toNat)
    case atStart => exact ⟨0, _, by omega, rfl, rfl, by rw [Nat.zero_mul]; exact H1.out⟩
    case round =>
     obtain ⟨k, v5, hk, rfl, hv5, hst⟩ := hrel
     subst hv5
     by_cases hkM : k < M
     · have HST := Lib.hid hst.out
       have hkF : k * G + G <= M * G := by
        have := Nat.mul_le_mul_right G (show k + 1 <= M by omega)
        rwa [Nat.add_mul, Nat.one_mul] at this
       have hkF4 : k * G + G <= 4096 := by have := HMF.out.2; omega
       clear hst hkF
       obtain ⟨y1, hy1⟩ : ∃ y1, y1 = wr := ⟨_, rfl⟩
       subst hy1
       have hcl0 := (HST.out.1.cell (p := ⟨bL, oL + i, none⟩) hbL).trans HCL.out
       go_wp2_with fail
       go_loopw [9, 11] (fun v mm wm => ∃ (m : Nat) (v6 : Value), m <= G /\ mm = .int .i64 m /\ v6 = v /\ Hid (RowSt y0 wm (fun r => pkI F (dgs (lnF T) (i + 1) (r : Nat))) i (k * G + m) v6)) (fun _ mm _ => G - (intOf mm).toNat)
       case atStart => exact ⟨0, _, by omega, rfl, rfl, HST.out⟩
       case round =>
        obtain ⟨m, v6, hm, rfl, hv6, hst⟩ := hrel
        subst hv6
        have hcl := (hst.out.1.cell (p := ⟨bL, oL + i, none⟩) hbL).trans HCL.out
        by_cases hmG : m < G
        · obtain ⟨bl, ol, hlab, hbl2, hcl2, hkr, _⟩ := HL.out.get hkM
          subst hlab
          obtain ⟨bm, om, ham, hbm, hcm⟩ := HKL.out.get hmG
          subst ham
          have hx := HFB.out m hmG
          have hd := HT2.out k m hmG
          have BZ : Hid (Below y0.heap.size y0 wr) := Lib.hid hst.out.1
          have HRS := Lib.hid hst.out
          have w9 := IntWalk.i64_in (F i m) (by omega)
          have w8 : F i m + o - o = F i m := by omega
          have hm1 : (m : Int) < G := by omega
          have hm0 : (0 : Int) <= m := by omega
          have hk1 : (k : Int) < M := by omega
          have hk0 : (0 : Int) <= k := by omega
          have hi1 : (i : Int) < n := by omega
          have hi0 : (0 : Int) <= i := by omega
          obtain ⟨FR, hFR⟩ : ∃ f, pkI F (dgs (lnF T) (i + 1) ((k * G + m : Nat) : Int)) = f := ⟨_, rfl⟩
          rw [hFR] at hd
          have HFR := Lib.hid hFR
          obtain ⟨FK, hFK⟩ : ∃ f, pkI F (dgs (lnF T) i (k : Nat)) = f := ⟨_, rfl⟩
          have hkr : KRow y0 .i64 (A1 k) i (C1 k) FK := by rw [← hFK]; exact hkr
          rw [hFK] at hd
          have K1 := Lib.hid (hkr.below BZ.out)
          generalize hxx : F i m = xx at *
          have E1 : Hid (∀ j, j < i -> FR (0 + j) = FK j) := Lib.hid (fun j hj => by have := hd j (by omega); unfold app at this; rw [if_pos hj] at this; rw [Nat.zero_add]; exact this.symm)
          have E3 : Hid (∀ j, j < 1 -> FR (i + j) = xx) := Lib.hid (fun j hj => by
           have h0 : j = 0 := by omega
           have := hd i (by omega)
           unfold app at this
           rw [if_neg (by omega)] at this
           rw [h0]
           exact this.symm)
          have HSF : Hid (∀ y, Below y0.heap.size y0 y -> y.cell? ⟨bl, ol + k, none⟩ = some (.slice (A1 k) i (C1 k)) /\ y.cell? ⟨bL, oL + i, none⟩ = some (.slice (some ⟨bm, om, none⟩) G ci) /\ y.cell? ⟨bm, om + m, none⟩ = some (.int .i64 (xx + o))) := Lib.hid (fun y hb => ⟨(hb.cell (p := ⟨bl, ol + k, none⟩) hbl2).trans hcl2, (hb.cell (p := ⟨bL, oL + i, none⟩) (Nat.lt_of_lt_of_le hbL (Nat.le_refl _))).trans HCL.out, (hb.cell (p := ⟨bm, om + m, none⟩) hbm).trans hcm⟩)
          have B0 : Hid (Below wr.heap.size wr wr.drew) := Lib.hid (Below.refl _ wr).drew
          have BU : Hid (∀ y, Below wr.heap.size wr y -> Below y0.heap.size y0 y) := Lib.hid (fun y hb => BZ.out.trans (hb.mono BZ.out.size))
          have HA := Lib.hid (ownI_new wr wr.drew FR B0.out)
          have HB := Lib.hid (HA.out.go ((Below.refl (wr.drew.alloc (.cells #[] 3)).heap.size (wr.drew.alloc (.cells #[] 3))).alloc (Nat.le_refl _) (.cells #[.int .i64 xx] 3)))
          have HB1 : Hid (Row ((wr.drew.alloc (.cells #[] 3)).alloc (.cells #[.int .i64 xx] 3)) (wr.heap.size + 1) 3 #[.int .i64 xx]) := Lib.hid (by have q := Row.new (wr.drew.alloc (.cells #[] 3)) 3 #[.int .i64 xx]; rw [World.size_alloc] at q; exact q)
          have HC : Hid (OwnI wr ((wr.drew.alloc (.cells #[.int .i64 xx] 3)).alloc (.cells #[] 3)) (some ⟨wr.heap.size + 1, 0, none⟩) 0 0 FR) := Lib.hid (by have q := ownI_new wr (wr.drew.alloc (.cells #[.int .i64 xx] 3)) FR (B0.out.alloc B0.out.size _); rw [World.size_alloc] at q; exact q)
          have HC1 := Lib.hid ((Row.new wr.drew 3 #[.int .i64 xx]).below ((Below.refl _ _).alloc (Nat.le_refl _) (.cells #[] 3)))
          have HD : Hid (Below wr.heap.size wr (wr.drew.alloc (.cells #[] 3)) /\ Below wr.heap.size wr (wr.drew.alloc (.cells #[.int .i64 xx] 3))) := Lib.hid ⟨B0.out.alloc B0.out.size _, B0.out.alloc B0.out.size _⟩
          have BD2 : Hid (Below wr.heap.size wr (wr.alloc (.cells #[] 3)).drew /\ Below wr.heap.size wr (wr.alloc (.cells #[.int .i64 xx] 3)).drew /\ Below wr.heap.size wr ((wr.alloc (.cells #[] 3)).alloc (.cells #[.int .i64 xx] 3)).drew /\ Below wr.heap.size wr ((wr.alloc (.cells #[.int .i64 xx] 3)).alloc (.cells #[] 3)).drew) := Lib.hid ⟨((Below.refl _ _).alloc (Nat.le_refl _) _).drew, ((Below.refl _ _).alloc (Nat.le_refl _) _).drew, (((Below.refl _ _).alloc (Nat.le_refl _) _).alloc (by rw [World.size_alloc]; omega) _).drew, (((Below.refl _ _).alloc (Nat.le_refl _) _).alloc (by rw [World.size_alloc]; omega) _).drew⟩
          have hcnt : k * G + m <= 5000 := by omega
          clear hst hkr hd hcl2 hcm hFR hFK
          generalize A1 k = ak at *
          generalize C1 k = ck at *
          go_wp2_with fail
          go_region_held3 (fun y => y.cell? ⟨bl, ol + k, none⟩ = some (.slice ak i ck) /\ y.cell? ⟨bL, oL + i, none⟩ = some (.slice (some ⟨bm, om, none⟩) G ci) /\ y.cell? ⟨bm, om + m, none⟩ = some (.int .i64 (xx + o)))
           (first
             | with_reducible exact HSF.out _ (BU.out _ B0.out)
             | with_reducible exact HSF.out _ (BU.out _ HD.out.1)
             | with_reducible exact HSF.out _ (BU.out _ HD.out.2)
             | with_reducible exact HSF.out _ (BU.out _ BD2.out.1)
             | with_reducible exact HSF.out _ (BU.out _ BD2.out.2.1)
             | with_reducible exact HSF.out _ (BU.out _ BD2.out.2.2.1)
             | with_reducible exact HSF.out _ (BU.out _ BD2.out.2.2.2)
             | with_reducible exact HSF.out _ (BU.out _ HA.out.1)
             | with_reducible exact HSF.out _ (BU.out _ HB.out.1)
             | with_reducible exact HSF.out _ (BU.out _ HC.out.1)
             | (have hq := ho4.1; with_reducible exact HSF.out _ (BU.out _ hq))
             | (have hq := ho4.1; with_reducible exact HSF.out _ (BU.out _ (hq.alloc hq.size _)))
             | (have hq := ho6.1; with_reducible exact HSF.out _ (BU.out _ hq))
             | (have hq := ho6.1; with_reducible exact HSF.out _ (BU.out _ (hq.alloc hq.size _)))
             | (have hq := ho9.1; with_reducible exact HSF.out _ hq))
           (first
             | (refine step_ownI rfl (.tmp 38) (.tmp 42) rfl rfl rfl rfl HA.out (K1.out.below HA.out.1) (Nat.zero_add i) (by omega) (fun _ h => absurd h (Nat.not_lt_zero _)) E1.out ?_; intro a4 c4 y4 ho4 hg4)
             | (refine step_ownI rfl (.tmp 38) (.tmp 42) rfl rfl rfl rfl HB.out (K1.out.below HB.out.1) (Nat.zero_add i) (by omega) (fun _ h => absurd h (Nat.not_lt_zero _)) E1.out ?_; intro a4 c4 y4 ho4 hg4)
             | (refine step_ownI rfl (.tmp 38) (.tmp 42) rfl rfl rfl rfl HC.out (K1.out.below HC.out.1) (Nat.zero_add i) (by omega) (fun _ h => absurd h (Nat.not_lt_zero _)) E1.out ?_; intro a4 c4 y4 ho4 hg4)
             | (refine step_ownI rfl (.tmp 43) (.tmp 53) rfl rfl rfl rfl (ho4.go ((Below.refl _ _).alloc (Nat.le_refl _) _)) (KRow.one' y4 .i64 xx _) rfl (by omega) (fun _ _ => rfl) E3.out ?_; intro a6 c6 y6 ho6 hg6)
             | (refine step_ownI rfl (.tmp 43) (.tmp 53) rfl rfl rfl rfl ho4 (KRow.ofRow1 (HB1.out.grown hg4 (by simp [Value.ownBlock]))) rfl (by omega) (fun _ _ => rfl) E3.out ?_; intro a6 c6 y6 ho6 hg6)
             | (refine step_ownI rfl (.tmp 43) (.tmp 53) rfl rfl rfl rfl ho4 (KRow.ofRow1 (HC1.out.grown hg4 (by simp [Value.ownBlock]))) rfl (by omega) (fun _ _ => rfl) E3.out ?_; intro a6 c6 y6 ho6 hg6)
             | (refine step_rowSt rfl (.tmp 37) (.tmp 55) rfl rfl rfl rfl HRS.out (by rw [HFR.out]; exact ho6) hcnt ?_; intro v9 y9 ho9))
          all_goals have HN := Lib.hid ho9
          all_goals clear ho4 hg4 ho6 hg6 ho9
          all_goals go_wp2_with fail
          all_goals go_roundw
          all_goals first
           | exact ⟨m + 1, v9, by omega, by go_num, rfl, HN.out⟩
           | (simp [intOf]; omega)
        · obtain rfl : m = G := by omega
          have HN : Hid (RowSt y0 wr (fun r => pkI F (dgs (lnF T) (i + 1) (r : Nat))) i ((k + 1) * m) v6) := Lib.hid (by rw [Nat.add_mul, Nat.one_mul]; exact hst.out)
          clear hst
          go_wp2
          go_roundw
          case rel => exact ⟨k + 1, v6, by omega, by go_num, rfl, HN.out⟩
          case measure => simp [intOf]; omega
     · obtain rfl : k = M := by omega
       obtain ⟨la2, lc2, A2, C2, hv, hL2⟩ := hst.out.done
       subst hv
       have HN : Hid (itm (lnF T) (i + 1) = ((k * G : Nat) : Int) /\ Below w.heap.size w wr /\ ∃ A C, LRow wr la2 (k * G) lc2 A (fun _ => i + 1) C (fun r => pkI F (dgs (lnF T) (i + 1) (r : Nat)))) := Lib.hid ⟨HMF.out.1, HBL.out.trans (hst.out.1.mono hwr), _, _, hL2⟩
       clear hst hL2
       go_wp2
       go_roundw
       case rel => exact ⟨i + 1, k * G, la2, lc2, by omega, by go_num, rfl, HN.out⟩
       case measure => simp [intOf]; omega
  · obtain rfl : i = n := by omega
    have hMM : M = M0 := by rw [hM0] at hM; omega
    subst hMM
    have HL := Lib.hid hL
    have HBL := Lib.hid hbl
    have hlen := hL.1
    have hml : M <= 9223372036854775807 := by have := hL.1; have := hL.2.1; unfold maxLen at this; omega
    have hM4 : M <= 4096 := by
     have := ax_bd HAX.out
     omega
    have PLC := Lib.hid (fun a2 c2 f wz (k1 : KRow wz .i64 a i c S) (k2 : KRow wz .i64 a2 i c2 f) => rplk_any a i c S a2 c2 f wz k1 k2 HSA.out)
    have HG : Hid (∀ j : Nat, pkG S (lnF T) i F j = if inB S (pkI F (dgs (lnF T) i (j : Nat))) i then plc S (pkI F (dgs (lnF T) i (j : Nat))) i else -1) := Lib.hid (fun _ => rfl)
    obtain ⟨G, hGE⟩ : ∃ G, pkG S (lnF T) i F = G := ⟨_, rfl⟩
    have HGE := Lib.hid hGE
    rw [hGE] at HG
    clear hGE
    clear hrel hbl hL hM hM0
    obtain ⟨y0, hy0⟩ : ∃ y0, y0 = wr := ⟨_, rfl⟩
    subst hy0
    go_wp2_with fail
    go_loopw [12, 13] (fun s ii wk => ∃ (j : Nat) (a5 : Option Addr) (c5 : Nat), j <= M /\ s = .slice a5 j c5 /\ ii = .int .i64 j /\ Hid (OwnI y0 wk a5 j c5 G)) (fun _ ii _ => M - (intOf ii).toNat)
    case atStart => exact ⟨0, none, 0, by omega, rfl, rfl, OwnI.nil _ _⟩
    case round =>
     obtain ⟨j, a5, c5, hj, rfl, rfl, ho⟩ := hrel
     by_cases hlt2 : j < M
     · obtain ⟨bl, ol, rfl, hbl2, hcl2, hkr, _⟩ := (HL.out.below ho.out.1).get hlt2
       have hj0 : (0 : Int) <= j := by omega
       have hj1 : (j : Int) < M := by omega
       have hgj := HG.out j
       have HKR := Lib.hid hkr
       have HO := Lib.hid ho.out
       obtain ⟨FJ, hFJ⟩ : ∃ f, pkI F (dgs (lnF T) i (j : Nat)) = f := ⟨_, rfl⟩
       rw [hFJ] at hgj HKR
       have HGJ := Lib.hid hgj
       generalize A1 j = aj at *
       generalize C1 j = cj at *
       clear ho hkr hgj hFJ
       go_wp2_with fail
       go_at_call 101
       (refine (PLC.out _ _ _ _ ((H.out.below HBL.out).below HO.out.1) HKR.out).mono ?_)
       rintro e w9 ⟨rfl, hb9⟩
       rw [← HGJ.out]
       obtain ⟨x, hx⟩ : ∃ x, G j = x := ⟨_, rfl⟩
       rw [hx]
       obtain ⟨a', c', y7, hr7, ho7⟩ := app1_step (HO.out.go hb9) hx.symm (by omega)
       have HO7 := Lib.hid ho7
       clear ho7 hb9 hx hcl2
       go_wp2_with (at_builtin; refine Lib.wpList_append_run _ rfl (.tmp 64) (.tmp 71) 22 22 rfl _ _ rfl rfl _ _ hr7 ?_)
       go_roundw
       case rel => exact ⟨j + 1, a', c', by omega, rfl, by go_num, HO7.out⟩
       case measure => simp [intOf]; omega
     · obtain rfl : j = M := by omega
       have HE := Lib.hid (And.intro ho.out.krow (HBL.out.trans (ho.out.1.mono HBL.out.size)))
       clear ho
       go_wp2
       go_ret
       exact ⟨_, _, rfl, by rw [HGE.out]; exact HE.out⟩
end Go.Proofs.YtnpoakaffafdiaaGreatDoor
namespace Go.Proofs.YtnpoakaffafdiaaGreatDoor
open Go.RowKit
def ElSame (ch : Bool) (L : Nat) (fP : Nat -> Int) (fQ : Nat -> Nat) (fB : Nat -> Bool) (fS fT : Nat -> ByteArray) : Prop := Small ch L fP fQ /\ ∀ j, j < nnO ch L -> rB (fP j) = fB j /\ rS (fP j) = fS j /\ str (dec (fQ j)) = fT j
theorem Good.els {S : Nat -> Int} {r : Nat} {ch : Bool} {L : Nat} {fB : Nat -> Bool} {fS fT : Nat -> ByteArray} (h : Good S r ch L fB fS fT) (G : Nat -> Int) (M : Nat) : ElSame ch M (fun j => elP L (gP fB fS fT) (G j)) (fun j => elQ L (gQ fB fS fT) (G j)) (fun j => elB L fB (G j)) (fun j => elS L fS (rS 0) (G j)) (fun j => elS L fT (str (dec 1)) (G j)) := by
 have h1 := h.num
 have h2 := h.small
 cases ch with
 | true => exact ⟨fun e => (by cases e), fun j hj => absurd hj (Nat.not_lt_zero _)⟩
 | false => exact ⟨fun _ => el_cmp (h2 rfl) G M, fun j _ => ⟨(el_same h1 (G j)).1.symm, (el_same h1 (G j)).2.1.symm, (el_same h1 (G j)).2.2.symm⟩⟩
theorem run_append_none9 {w : World} (base : Nat) (v : Value) (n : Nat) (xs : List Value) (c : Nat) (hown : w.ownsRow base 3 1 v n xs) : (Builtin.append_ #[22, 22] 22 #[v, .slice none 0 c]).run Tryz.prog w = .ok v w := by
 obtain ⟨i0, hi, hz0, hz1, hz2⟩ := info_parts infoI
 have ht := Tryz.underlying22
 rcases hown.2 with ⟨rfl, rfl⟩ | ⟨g, cap, cur, rfl, _, _, hnc, _⟩
 · simp [Builtin.append_, run_underlying ht, sizeOf, typeInfo, hi, Builtin.lenOf, Builtin.firstCells]
 · simp [Builtin.append_, run_underlying ht, sizeOf, typeInfo, hi, Builtin.lenOf, Builtin.firstCells, hnc, storeCells]
theorem OwnII.right {y0 w : World} {a a2 : Option Addr} {k c c2 : Nat} {f f2 : Nat -> Int} (h : OwnII y0 w a c f a2 c2 f2 k) : KRow w .i64 a2 k c2 f2 := h.2.1.krow
def LArr (w : World) (x : Array Value) (n : Nat) (f : Nat -> Int) : Prop := Arr w x (fun _ => (n : Int)) 1 false n (fun _ => 0) f (fun _ => 1)
theorem LArr.below {w w' : World} {x : Array Value} {n : Nat} {f : Nat -> Int} (h : LArr w x n f) (hb : Below w.heap.size w w') : LArr w' x n f := Arr.below h hb
theorem pkG_one {S T : Nat -> Int} {F : Nat -> Nat -> Int} {N M j : Nat} (hS : S 0 = N) (hT : T 0 = M) (hj : j < M) : pkG S T 1 F j = if 0 <= F 0 j /\ F 0 j < N then F 0 j else -1 := by
 have e : dgs T 1 (j : Nat) 0 = j := by
  show (if 0 = 0 then (j : Int) % T 0 else _) = _
  rw [if_pos rfl, hT]
  exact Int.emod_eq_of_lt (by omega) (by omega)
 have e2 : pkI F (dgs T 1 (j : Nat)) 0 = F 0 j := by unfold pkI; rw [e]; rfl
 unfold pkG
 have h1 : inB S (pkI F (dgs T 1 (j : Nat))) 1 = (decide (0 <= F 0 j) && decide (F 0 j < N)) := by
  show (true && (decide (0 <= pkI F (dgs T 1 (j : Nat)) 0) && decide (pkI F (dgs T 1 (j : Nat)) 0 < S 0))) = _
  rw [e2, hS, Bool.true_and]
 have h2 : plc S (pkI F (dgs T 1 (j : Nat))) 1 = F 0 j := by
  show 0 * S 0 + pkI F (dgs T 1 (j : Nat)) 0 = F 0 j
  rw [e2]; omega
 rw [h1, h2]
 by_cases h : 0 <= F 0 j /\ F 0 j < N
 · rw [if_pos h, decide_eq_true h.1, decide_eq_true h.2]; rfl
 · rw [if_neg h]
   have : (decide (0 <= F 0 j) && decide (F 0 j < (N : Int))) = false := by
    rw [Bool.and_eq_false_iff, decide_eq_false_iff_not, decide_eq_false_iff_not]
    omega
   rw [this]; rfl
theorem itm_one9 {T : Nat -> Int} {M : Nat} (hT : T 0 = M) : (itm T 1).toNat = M := by
 show (1 * T 0).toNat = M
 rw [hT]; omega
theorem LArr.of {w : World} {x : Array Value} {S T : Nat -> Int} {r : Nat} {F : Nat -> Nat -> Int} {n M : Nat} {G f f' : Nat -> Int} (hr : r = 1) (h : Arr w x T r false (itm T r).toNat G (fun j => elP n f (pkG S T r F j)) (fun j => elQ n (fun _ => 1) (pkG S T r F j))) (hS : S 0 = (n : Int)) (hT : T 0 = (M : Int))
    (hf : ∀ j, j < M -> (0 <= F 0 j /\ F 0 j < n /\ f' j = f (F 0 j).toNat) ∨ (¬ (0 <= F 0 j /\ F 0 j < n) /\ f' j = 0)) : LArr w x M f' := by
 subst hr
 rw [itm_one9 hT] at h
 have h1 : Arr w x T 1 false M (fun _ => 0) _ _ := ⟨(fun e => by cases e), h.2⟩
 refine (h1.on (fun _ _ => rfl) (fun j hj => ?_) (fun j hj => ?_)).shape (fun j hj => ?_)
 · show elP n f (pkG S T 1 F j) = f' j
   rw [pkG_one hS hT hj]
   rcases hf j hj with ⟨a, b, c⟩ | ⟨a, c⟩
   · rw [if_pos ⟨a, b⟩, c]; unfold elP; rw [if_pos ⟨a, b⟩]
   · rw [if_neg a, c]; rfl
 · show elQ n (fun _ => 1) (pkG S T 1 F j) = 1
   unfold elQ
   split <;> rfl
 · obtain rfl : j = 0 := by omega
   exact hT
end Go.Proofs.YtnpoakaffafdiaaGreatDoor
namespace Go.Proofs.YtnpoakaffafdiaaGreatDoor
open Go.ChangeShapes Go.WideShapes Go.ChangeAt Go.RowKit
def BRow (w : World) (a : Option Addr) (n c : Nat) (f : Nat -> Bool) : Prop := n <= c /\ c <= maxLen /\ (n = 0 ∨ ∃ b off, a = some ⟨b, off, none⟩ /\ b < w.heap.size /\ ∀ j, j < n -> w.cell? ⟨b, off + j, none⟩ = some (.bool (f j)))
theorem BRow.below {w w' : World} {a : Option Addr} {n c : Nat} {f : Nat -> Bool} (h : BRow w a n c f) (hb : Below w.heap.size w w') : BRow w' a n c f := by
 obtain ⟨h1, h2, h3⟩ := h
 refine ⟨h1, h2, h3.imp id ?_⟩
 rintro ⟨b, off, rfl, hl, hc⟩
 exact ⟨b, off, rfl, Nat.lt_of_lt_of_le hl hb.size, fun j hj => (hb.cell (p := ⟨b, off + j, none⟩) hl).trans (hc j hj)⟩
theorem BRow.get {w : World} {a : Option Addr} {n c : Nat} {f : Nat -> Bool} (h : BRow w a n c f) {j : Nat} (hj : j < n) : ∃ b off, a = some ⟨b, off, none⟩ /\ b < w.heap.size /\ w.cell? ⟨b, off + j, none⟩ = some (.bool (f j)) := by
 rcases h.2.2 with h | ⟨b, off, rfl, hl, hc⟩
 · omega
 · exact ⟨b, off, rfl, hl, hc j hj⟩
theorem BRow.len {w : World} {a : Option Addr} {n c : Nat} {f : Nat -> Bool} (h : BRow w a n c f) : n <= c /\ n <= 9223372036854775807 := by
 have h1 := h.1
 have h2 := h.2.1
 unfold maxLen at h2
 exact ⟨h1, by omega⟩
def OwnIJ (y0 w : World) (a : Option Addr) (k c : Nat) (f : Nat -> Int) (a2 : Option Addr) (k2 c2 : Nat) (f2 : Nat -> Int) : Prop :=
 OwnI y0 w a k c f /\ OwnI y0 w a2 k2 c2 f2 /\ ∀ b, (Value.slice a k c).ownBlock = some b -> (Value.slice a2 k2 c2).ownBlock ≠ some b
theorem OwnIJ.nil (y0 : World) (f f2 : Nat -> Int) : OwnIJ y0 y0 none 0 0 f none 0 0 f2 := ⟨OwnI.nil _ _, OwnI.nil _ _, fun b h => by cases h⟩
theorem OwnIJ.symm {y0 w : World} {a a2 : Option Addr} {k c k2 c2 : Nat} {f f2 : Nat -> Int} (h : OwnIJ y0 w a k c f a2 k2 c2 f2) : OwnIJ y0 w a2 k2 c2 f2 a k c f := ⟨h.2.1, h.1, fun b hb e => h.2.2 b e hb⟩
theorem kcs_app9 (ki : IntKind) {F f g : Nat -> Int} {k : Nat} (h1 : ∀ j, j < k -> F j = f j) : ∀ {m : Nat}, (∀ j, j < m -> F (k + j) = g j) -> kcs ki f k ++ kcs ki g m = kcs ki F (k + m)
 | 0, _ => by
  have : ∀ n, n <= k -> kcs ki f n = kcs ki F n := by
   intro n
   induction n with
   | zero => intro _; rfl
   | succ n ih => intro hn; unfold kcs; rw [ih (by omega), h1 n (by omega)]
  rw [show kcs ki g 0 = [] from rfl, List.append_nil]
  exact this k (Nat.le_refl _)
 | m + 1, h2 => by
  have ih := kcs_app9 ki h1 (g := g) (m := m) (fun j hj => h2 j (by omega))
  show kcs ki f k ++ (kcs ki g m ++ [.int ki (g m)]) = kcs ki F (k + m) ++ [.int ki (F (k + m))]
  rw [← List.append_assoc, ih, h2 m (by omega)]
end Go.Proofs.YtnpoakaffafdiaaGreatDoor
namespace Go.Proofs.YtnpoakaffafdiaaGreatDoor
open Go.RowKit
attribute [local go_sem ↓] Go.wp_at_zero Go.wp_at_succ
theorem own_base {w : World} {b b' : Nat} {e : TypeId} {size n : Nat} {v : Value} {xs : List Value} (h : w.ownsRow b e size v n xs) (hb : b' <= b) : w.ownsRow b' e size v n xs := by
 refine ⟨h.1, h.2.imp id ?_⟩
 rintro ⟨g, cap, cur, e1, e2, e3⟩
 exact ⟨g, cap, cur, e1, by omega, e3⟩
def WhToldN (b : Bool) (n : Nat) (fP : Nat -> Int) (w w' : World) (e : Ending) : Prop := ∃ a m c, e = .returned (.tuple #[.slice a m c, .bool b]) /\ (if b then m = n /\ OwnI w w' a n c fP else a = none /\ m = 0 /\ c = 0) /\ Below w.heap.size w w'
theorem r6WholeN_any (cs : Array Value) (S : Nat -> Int) (r : Nat) (ch : Bool) (g : Nat -> Int) (tn : Nat) (fB : Nat -> Bool) (fS fT : Nat -> ByteArray) (nn : Nat) (fP : Nat -> Int) (fQ : Nat -> Nat) (w : World) (h : PlnAt w cs S r ch g tn fB fS fT nn) (hN : NumOk fB fS fT fP fQ nn) (hn : nn <= 1000000) :
    Calls Tryz.prog 100 #[.agg cs] w fun e w' => WhToldN (decide (tn = 0) && whB fP fQ nn) nn fP w w' e := by
 obtain ⟨sa, sc, ta, tc, na, nc, rfl, h1, h2, h3⟩ := h
 have hl := h3.len
 have hl2 := h2.len
 obtain ⟨i0, hi, hz0, hz1, hz2⟩ := info_parts infoI
 have BB := Lib.hid (((Bag.start w).qrow h3).newRow (plC sa r sc ch ta tn tc na nn nc) 26)
 have IN : Hid (∀ j, j < nn -> ∀ wz, Calls Tryz.prog 143 #[.agg #[.bool (fB j), .string (fS j), .string (fT j)]] wz fun e w' => e = .returned (.tuple #[.int .i64 (if fQ j = 1 then fitI (fP j) else 0), .bool (decide (fQ j = 1) && fitB (fP j))]) /\ Below wz.heap.size wz w') := fun j hj wz => by
  obtain ⟨e1, e2, e3, _, e4, e5⟩ := hN j hj
  rw [e1, e2, e3]
  exact r3Int_any (fP j) (fQ j) wz (by omega)
 by_cases h0 : tn = 0
 · rw [decide_eq_true h0, Bool.true_and]
   have d0 : ¬ ((0 : Int) < tn) := by omega
   unfold plC at BB
   unfold plC
   have H0 := Lib.hid BB.out.below
   clear h1 h2 h3 hN h0
   go_enter Tryz.func100, Tryz.ntmps100
   go_wp2_with fail
   generalize w.alloc (.cells #[.slice sa r sc, .bool ch, .slice ta tn tc, .slice na nn nc] 26) = y0 at *
   go_loopw [4, 5] (fun v i wr => ∃ (k : Nat) (a1 : Option Addr) (c1 : Nat), k <= nn /\ i = .int .i64 k /\ v = .slice a1 k c1 /\ Hid (Below y0.heap.size y0 wr /\ wr.ownsRow y0.heap.size 3 1 (.slice a1 k c1) k (kcs .i64 fP k) /\ whB fP fQ k = true)) (fun _ i _ => nn - (intOf i).toNat)
   case atStart => exact ⟨0, none, 0, by omega, rfl, rfl, Below.refl _ _, World.ownsRow_nil _ _ _ _, rfl⟩
   case round =>
    obtain ⟨k, a1, c1, hk, rfl, rfl, hrel⟩ := hrel
    obtain ⟨hbl, hown, hwh⟩ := hrel.out
    have B4 := Lib.hid (BB.out.go hbl)
    obtain ⟨x0, x1, x2, x3⟩ := pl_cells B4.out.now.1
    by_cases hlt : k < nn
    · obtain ⟨b, off, rfl, hb, c1', c2', c3'⟩ := B4.out.now.2.1.get hlt
      have IK := Lib.hid (IN.out k hlt)
      have HBL := Lib.hid hbl
      have HWH := Lib.hid hwh
      have HOWN := Lib.hid hown
      have hwr := hbl.size
      clear hbl hown hwh
      by_cases hok : (decide (fQ k = 1) && fitB (fP k)) = true
      · have hv : (if fQ k = 1 then fitI (fP k) else 0) = fP k := by
          rw [Bool.and_eq_true, decide_eq_true_eq] at hok
          rw [if_pos hok.1]; unfold fitI; rw [if_pos hok.2]
        have HW2 : Hid (whB fP fQ (k + 1) = true) := by show (whB fP fQ k && _) = true; rw [HWH.out, hok]; rfl
        have HMX := Lib.hid (show k + 1 <= maxLen by unfold maxLen; omega)
        have HMY := Lib.hid (show (k + 1) * 8 <= 140737488355328 by omega)
        have HK2 : Hid (kcs .i64 fP (k + 1) = kcs .i64 fP k ++ [.int .i64 (fP k)]) := rfl
        rw [hok, hv] at IK
        clear hok hv
        generalize fB k = u1 at *
        generalize fS k = u2 at *
        generalize fT k = u3 at *
        generalize hx : fP k = x at *
        clear hx
        go_wp2_with fail
        go_at_call 143
        (with_reducible refine (IK.out _).mono ?_)
        rintro e w4 ⟨rfl, hb4⟩
        have HO2 := Lib.hid (own_below (own_below HOWN.out hb4) ((Below.refl _ _).alloc (Nat.le_refl _) (.cells #[.int .i64 x] 3)))
        have HNEW := Lib.hid (World.news_of_block (Row.new w4 3 #[.int .i64 x]))
        have HBA : Hid (y0.heap.size <= (w4.alloc (.cells #[.int .i64 x] 3)).heap.size) := Lib.hid (by have := HBL.out.size; have := hb4.size; rw [World.size_alloc]; omega)
        have HB2 := Lib.hid ((HBL.out.trans (hb4.mono hwr)).trans ((Below.refl _ _).alloc (by have := HBL.out.size; have := hb4.size; omega) (.cells #[.int .i64 x] 3)))
        clear hb4
        go_wp2_with (at_builtin; refine wpList_append_lies _ rfl (.tmp 30) (.tmp 32) 22 rfl y0.heap.size 3 i0 _ 1 8 Tryz.underlying22 hi hz0 hz1 hz2 rfl (by omega) (.slice a1 k c1) k _ rfl HO2.out ⟨w4.heap.size, 0, none⟩ 1 1 [.int .i64 x] rfl rfl HNEW.out ?q1 (by omega) HMX.out HMY.out HBA.out _ rfl ?_)
        case q1 => intro u hu; simp at hu; subst hu; rfl
        intro g9 cap9 w5 hown5 hgrow _ _
        have HN2 : Hid (Below y0.heap.size y0 w5 /\ w5.ownsRow y0.heap.size 3 1 (.slice (some ⟨g9, 0, none⟩) (k + 1) cap9) (k + 1) (kcs .i64 fP (k + 1)) /\ whB fP fQ (k + 1) = true) :=
         Lib.hid ⟨HB2.out.trans ⟨hgrow.os, hgrow.tape, hgrow.output, hgrow.size, fun j hj => hgrow.block j (Nat.lt_of_lt_of_le hj HB2.out.size) (fun e => by have := (HO2.out.lt j e.symm).1; omega)⟩, by rw [HK2.out]; exact hown5, HW2.out⟩
        clear hown5 hgrow
        go_wp2
        go_roundw
        case rel => exact ⟨k + 1, _, cap9, by omega, by go_num, rfl, HN2.out⟩
        case measure => simp [intOf]; omega
      · rw [Bool.not_eq_true] at hok
        have hno : whB fP fQ nn = false := by
         cases hx : whB fP fQ nn with
         | false => rfl
         | true =>
          have := whB_le (k := k + 1) (by omega) hx
          unfold whB at this
          rw [hok, Bool.and_false] at this
          exact this.symm
        have HNO := Lib.hid hno
        rw [hok] at IK
        clear hok hno
        generalize (if fQ k = 1 then fitI (fP k) else 0) = x at *
        generalize fB k = u1 at *
        generalize fS k = u2 at *
        generalize fT k = u3 at *
        go_wp2_with fail
        go_at_call 143
        (with_reducible refine (IK.out _).mono ?_)
        rintro e w4 ⟨rfl, hb4⟩
        have HE : Hid (WhToldN (whB fP fQ nn) nn fP w w4 (.returned (.tuple #[.slice none 0 0, .bool false]))) := Lib.hid (by
         rw [HNO.out]
         exact ⟨_, _, _, rfl, by rw [if_neg (by decide)]; exact ⟨rfl, rfl, rfl⟩, (B4.out.go hb4).below⟩)
        clear hb4
        go_wp2
        go_ret2
        exact HE.out
    · obtain rfl : k = nn := by omega
      obtain ⟨a9, c9, he, hq⟩ := KRow.of_own hown
      injection he with he1 _ he2
      subst he1 he2
      have hbase := BB.out.below.size
      have HE : Hid (WhToldN (whB fP fQ k) k fP w wr (.returned (.tuple #[.slice a1 k c1, .bool true]))) := Lib.hid (by
       rw [hwh]
       exact ⟨_, _, _, rfl, by rw [if_pos rfl]; exact ⟨rfl, B4.out.below, own_base hown hbase⟩, B4.out.below⟩)
      clear hbl hown hwh hq
      go_wp2
      go_ret2
      exact HE.out
 · rw [decide_eq_false h0, Bool.false_and]
   have d1 : (0 : Int) < tn := by omega
   have HE : Hid (WhToldN false nn fP w (w.alloc (.cells (plC sa r sc ch ta tn tc na nn nc) 26)) (.returned (.tuple #[.slice none 0 0, .bool false]))) := Lib.hid
    ⟨_, _, _, rfl, by rw [if_neg (by decide)]; exact ⟨rfl, rfl, rfl⟩, BB.out.below⟩
   unfold plC at HE
   unfold plC
   clear h1 h2 h3 hN h0
   go_enter Tryz.func100, Tryz.ntmps100
   go_wp2
   go_ret2
   exact HE.out
def slv (A : Nat -> Option Addr) (N C : Nat -> Nat) : Nat -> List Value
 | 0 => []
 | k + 1 => slv A N C k ++ [.slice (A k) (N k) (C k)]
theorem slv_length (A : Nat -> Option Addr) (N C : Nat -> Nat) : ∀ k, (slv A N C k).length = k
 | 0 => rfl
 | k + 1 => by unfold slv; rw [List.length_append, slv_length A N C k]; rfl
theorem slv_get (A : Nat -> Option Addr) (N C : Nat -> Nat) : ∀ k j, j < k -> (slv A N C k)[j]? = some (.slice (A j) (N j) (C j))
 | 0, j, h => absurd h (Nat.not_lt_zero _)
 | k + 1, j, h => by
  have hl := slv_length A N C k
  unfold slv
  rcases Nat.lt_or_ge j k with h1 | h1
  · rw [List.getElem?_append_left (by omega)]
    exact slv_get A N C k j h1
  · obtain rfl : j = k := by omega
    rw [List.getElem?_append_right (by omega), hl, Nat.sub_self]
    rfl
theorem slv_congr {A A' : Nat -> Option Addr} {N C C' : Nat -> Nat} : ∀ {n : Nat}, (∀ j, j < n -> A j = A' j /\ C j = C' j) -> slv A N C n = slv A' N C' n
 | 0, _ => rfl
 | n + 1, h => by unfold slv; rw [slv_congr (fun j hj => h j (by omega)), (h n (by omega)).1, (h n (by omega)).2]
theorem own_kinds {w : World} {b1 b2 : Nat} {e1 e2 : TypeId} {s1 s2 n1 n2 : Nat} {v1 v2 : Value} {x1 x2 : List Value} (h1 : w.ownsRow b1 e1 s1 v1 n1 x1) (h2 : w.ownsRow b2 e2 s2 v2 n2 x2) (he : e1 ≠ e2) : v1.ownBlock = none ∨ v1.ownBlock ≠ v2.ownBlock := by
 rcases h1.2 with ⟨rfl, _⟩ | ⟨g, cap, cur, rfl, _, hh, _⟩
 · exact .inl rfl
 · refine .inr (fun e => ?_)
   rcases h2.2 with ⟨rfl, _⟩ | ⟨g', cap', cur', rfl, _, hh', _⟩
   · cases e
   · have e' : g = g' := by simpa [Value.ownBlock] using e
     subst e'
     rw [hh] at hh'
     cases hh'
     exact he rfl
theorem own_ints_slices : 3 ≠ 22 := by decide
theorem own_fresh {w w' : World} {b : Nat} {v1 v2 : Value} {n1 n2 s1 s2 : Nat} {e1 e2 : TypeId} {x1 x2 : List Value} (h1 : w.ownsRow b e1 s1 v1 n1 x1) (h2 : w'.ownsRow w.heap.size e2 s2 v2 n2 x2) : ∀ k, v2.ownBlock = some k -> v1.ownBlock ≠ some k := fun k hk e => by
 have := (h1.lt k e).2
 have := (h2.lt k hk).1
 omega
theorem run_append_zero {w : World} (base : Nat) (v : Value) (n : Nat) (xs : List Value) (ad : Addr) (c : Nat) (hown : w.ownsRow base 3 1 v n xs) : (Builtin.append_ #[22, 22] 22 #[v, .slice (some ad) 0 c]).run Tryz.prog w = .ok v w := by
 obtain ⟨i0, hi, hz0, hz1, hz2⟩ := info_parts infoI
 have ht := Tryz.underlying22
 rcases hown.2 with ⟨rfl, rfl⟩ | ⟨g, cap, cur, rfl, _, _, hnc, _⟩
 · simp [Builtin.append_, run_underlying ht, sizeOf, typeInfo, hi, Builtin.lenOf, Builtin.firstCells, loadCells, go_sem]
 · simp [Builtin.append_, run_underlying ht, sizeOf, typeInfo, hi, Builtin.lenOf, Builtin.firstCells, hnc, storeCells, loadCells, go_sem]
theorem own_moreK {y0 wr : World} {a a2 : Option Addr} {k c m c2 : Nat} {f g : Nat -> Int} (h : OwnI y0 wr a k c f) (h2 : KRow wr .i64 a2 m c2 g) (hm : k + m <= 1000000) :
    ∃ a' c' y1, (Builtin.append_ #[22, 22] 22 #[.slice a k c, .slice a2 m c2]).run Tryz.prog wr = .ok (.slice a' (k + m) c') y1 /\ OwnI y0 y1 a' (k + m) c' (app f k g) /\ wr.grownBy y1 (Value.slice a k c).ownBlock /\ ((Value.slice a' (k + m) c').ownBlock = (Value.slice a k c).ownBlock ∨ (Value.slice a' (k + m) c').ownBlock = some wr.heap.size) := by
 have hs0 := h.1.size
 have e1 : ∀ j, j < k -> app f k g j = f j := fun j hj => if_pos hj
 have e2 : ∀ j, j < m -> app f k g (k + j) = g j := fun j _ => by
  unfold app
  rw [if_neg (by omega), show k + j - k = j by omega]
 have ek := kcs_app9 .i64 e1 e2
 have hgb : ∀ (b : Option Nat), wr.grownBy wr b := fun b => ⟨rfl, rfl, rfl, Nat.le_refl _, fun _ _ _ => rfl⟩
 rcases Nat.eq_zero_or_pos m with hm0 | hm0
 · subst hm0
   have ho := h.2
   rw [show kcs .i64 g 0 = [] from rfl, List.append_nil] at ek
   rw [ek] at ho
   cases a2 with
   | none => exact ⟨_, _, _, run_append_none9 y0.heap.size _ _ _ c2 ho, ⟨h.1, ho⟩, hgb _, .inl rfl⟩
   | some ad =>
    exact ⟨_, _, _, run_append_zero y0.heap.size _ _ _ ad c2 ho, ⟨h.1, ho⟩, hgb _, .inl rfl⟩
 · obtain ⟨b2, off, rfl, hb2, hc2⟩ := h2.get hm0
   obtain ⟨i0, hi, hz0, hz1, hz2⟩ := info_parts infoI
   obtain ⟨g1, cap1, y1, r1, o1', q1, hor1, hlt1⟩ := run_append_lies (P := Tryz.prog) wr 22 22 y0.heap.size 3 i0 _ 1 8 Tryz.underlying22 hi hz0 hz1 hz2 rfl (by omega) (.slice a k c) k _ h.2 ⟨b2, off, none⟩ m c2 (kcs .i64 g m) (by rw [kcs_length]; omega) (krow_news h2) (kcs_one _ _ _) hm0 (by unfold maxLen; omega) (by omega) hs0 _ rfl
   rw [ek] at o1'
   refine ⟨some ⟨g1, 0, none⟩, cap1, y1, r1, ⟨h.1.grown q1 (by omega) (fun q hq => (h.2.lt q hq).1), o1'⟩, q1, ?_⟩
   rcases hor1 with e | e
   · left; rw [e]; rfl
   · right; rw [e]; rfl
def AxSt (y0 wr : World) (N : Nat -> Nat) (F : Nat -> Nat -> Int) (i : Nat) (v : Value) (ao : Option Addr) (k co : Nat) (T : Nat -> Int) : Prop :=
 Below y0.heap.size y0 wr /\ OwnI y0 wr ao k co T /\ ∃ A C, wr.ownsRow y0.heap.size 22 1 v i (slv A N C i) /\ ∀ r, r < i -> wr.ownsRow y0.heap.size 3 1 (.slice (A r) (N r) (C r)) (N r) (kcs .i64 (F r) (N r)) /\ ∀ b, (Value.slice (A r) (N r) (C r)).ownBlock = some b -> (Value.slice ao k co).ownBlock ≠ some b
theorem AxSt.nil (y0 : World) (N : Nat -> Nat) (F : Nat -> Nat -> Int) (T : Nat -> Int) : AxSt y0 y0 N F 0 (.slice none 0 0) none 0 0 T :=
 ⟨Below.refl _ _, OwnI.nil _ _, fun _ => none, fun _ => 0, World.ownsRow_nil _ _ _ _, fun _ h => absurd h (Nat.not_lt_zero _)⟩
theorem AxSt.go {y0 w w' : World} {N : Nat -> Nat} {F : Nat -> Nat -> Int} {i : Nat} {v : Value} {ao : Option Addr} {k co : Nat} {T : Nat -> Int} (h : AxSt y0 w N F i v ao k co T) (hb : Below w.heap.size w w') : AxSt y0 w' N F i v ao k co T := by
 obtain ⟨h1, h2, A, C, h3, h4⟩ := h
 exact ⟨h1.trans (hb.mono h1.size), h2.go hb, A, C, own_below h3 hb, fun r hr => ⟨own_below (h4 r hr).1 hb, (h4 r hr).2⟩⟩
theorem ax_row {y0 wr y3 : World} {N : Nat -> Nat} {F : Nat -> Nat -> Int} {i : Nat} {v : Value} {ao : Option Addr} {k co : Nat} {T : Nat -> Int} {a : Option Addr} {c : Nat} (h : AxSt y0 wr N F i v ao k co T) (h7 : OwnI wr y3 a (N i) c (F i)) (hi5 : i <= 5000) :
    ∃ v9 y5, (Builtin.append_ #[90, 90] 90 #[v, .slice (some ⟨y3.heap.size, 0, none⟩) 1 1]).run Tryz.prog (y3.alloc (.cells #[.slice a (N i) c] 22)) = .ok v9 y5 /\ AxSt y0 y5 N F (i + 1) v9 ao k co T /\ ∀ z, wr.heap.size <= z -> z < y3.heap.size -> y5.heap[z]? = y3.heap[z]? := by
 obtain ⟨hbl, h2, A, C, ho, hrows⟩ := h
 have hwr := hbl.size
 have g3 := h7.1
 have hs3 := g3.size
 have g4 : Below wr.heap.size wr (y3.alloc (.cells #[.slice a (N i) c] 22)) := g3.alloc g3.size _
 have gy : Below y3.heap.size y3 (y3.alloc (.cells #[.slice a (N i) c] 22)) := (Below.refl _ _).alloc (Nat.le_refl _) _
 have ho4 := own_below ho g4
 have hn4 := own_below h7.2 gy
 have h24 := own_below h2.2 g4
 obtain ⟨i0, hi, hz0, hz1, hz2⟩ := info_parts infoS
 obtain ⟨v9, y5, r3, o3, q3, _⟩ := run_append_own (P := Tryz.prog) (y3.alloc (.cells #[.slice a (N i) c] 22)) y0.heap.size 90 90 22 i0 _ 1 24 Tryz.underlying90 hi hz0 hz1 hz2 rfl (by omega) v i _ ho4 ⟨y3.heap.size, 0, none⟩ 1 1 [.slice a (N i) c] rfl (World.news_of_block (Row.new y3 22 #[.slice a (N i) c])) (by intro u hu; simp at hu; subst hu; rfl) (by unfold maxLen; omega) (by omega) (Nat.le_trans hwr g4.size)
 have hb5 : Below y0.heap.size y0 y5 := (hbl.trans (g4.mono hwr)).grown q3 (Nat.le_trans hwr g4.size) (fun z hz => (ho4.lt z hz).1)
 refine ⟨v9, y5, r3, ⟨hb5, ⟨hb5, h24.kept q3 (own_kinds h24 ho4 own_ints_slices)⟩, (fun r => if r = i then a else A r), (fun r => if r = i then c else C r), ?_, fun r hr => ?_⟩, fun z hz1 hz2 => ?_⟩
 · show y5.ownsRow _ _ _ _ _ (slv _ _ _ i ++ [_])
   simp only [if_true]
   rw [slv_congr (A' := A) (C' := C) (fun j hj => ⟨if_neg (by omega), if_neg (by omega)⟩)]
   exact o3
 · by_cases e : r = i
   · subst e
     simp only [if_true]
     refine ⟨own_base (hn4.kept q3 (own_kinds hn4 ho4 own_ints_slices)) hwr, own_fresh h2.2 h7.2⟩
   · simp only [if_neg e]
     have hr4 := own_below (hrows r (by omega)).1 g4
     exact ⟨hr4.kept q3 (own_kinds hr4 ho4 own_ints_slices), (hrows r (by omega)).2⟩
 · exact (q3.block z (Nat.lt_of_lt_of_le hz2 gy.size) (fun e => by have := (ho.lt z e.symm).2; omega)).trans (gy.block z hz2)
theorem Row.kept9 {w w' : World} {k : Nat} {t : TypeId} {cs : Array Value} (h : Row w k t cs) (e : w'.heap[k]? = w.heap[k]?) : Row w' k t cs := Eq.trans e h
theorem KRow.kept9 {w w' : World} {b off n c : Nat} {f : Nat -> Int} (h : KRow w .i64 (some ⟨b, off, none⟩) n c f) (e : w'.heap[b]? = w.heap[b]?) (hl : b < w'.heap.size) : KRow w' .i64 (some ⟨b, off, none⟩) n c f := by
 refine ⟨h.1, h.2.1, h.2.2.imp id ?_⟩
 rintro ⟨b', off', e2, _, hc⟩
 cases e2
 exact ⟨b, off, rfl, hl, fun j hj => (World.cell?_of_block (a := ⟨b, off + j, none⟩) e).trans (hc j hj)⟩
theorem ax_shape {y0 wr : World} {N : Nat -> Nat} {F : Nat -> Nat -> Int} {i : Nat} {v : Value} {ao : Option Addr} {k co : Nat} {T : Nat -> Int} {sa : Option Addr} {m sc : Nat} {g : Nat -> Int} (h : AxSt y0 wr N F i v ao k co T) (h2 : KRow wr .i64 sa m sc g) (hm : k + m <= 1000000) :
    ∃ a' c' y1, (Builtin.append_ #[22, 22] 22 #[.slice ao k co, .slice sa m sc]).run Tryz.prog wr = .ok (.slice a' (k + m) c') y1 /\ AxSt y0 y1 N F i v a' (k + m) c' (app T k g) := by
 obtain ⟨hbl, ho, A, C, hv, hrows⟩ := h
 obtain ⟨a', c', y1, r1, o1, q1, hor⟩ := own_moreK ho h2 hm
 refine ⟨a', c', y1, r1, o1.1, o1, A, C, hv.kept q1 (own_kinds hv ho.2 (Ne.symm own_ints_slices)), fun r hr => ?_⟩
 obtain ⟨hr1, hr2⟩ := hrows r hr
 refine ⟨hr1.kept q1 ?_, fun b hb e => ?_⟩
 · cases hx : (Value.slice (A r) (N r) (C r)).ownBlock with
   | none => exact .inl rfl
   | some b => exact .inr (fun e => hr2 b hx e.symm)
 · rcases hor with e1 | e1
   · rw [e1] at e
     exact hr2 b hb e
   · rw [e1] at e
     cases e
     have := (hr1.lt _ hb).2
     omega
theorem AxSt.done {y0 wr : World} {N : Nat -> Nat} {F : Nat -> Nat -> Int} {i : Nat} {v : Value} {ao : Option Addr} {k co : Nat} {T : Nat -> Int} (h : AxSt y0 wr N F i v ao k co T) : ∃ la lc A C, v = .slice la i lc /\ LRow wr la i lc A N C F := by
 obtain ⟨_, _, A, C, ho, hk⟩ := h
 rcases ho.2 with ⟨rfl, rfl⟩ | ⟨g, cap, cur, rfl, _, hh, h1, h2, _, _⟩
 · exact ⟨none, 0, A, C, rfl, Nat.le_refl _, Nat.zero_le _, .inl rfl⟩
 · refine ⟨some ⟨g, 0, none⟩, cap, A, C, rfl, h1, h2, .inr ⟨g, 0, rfl, Row.lt (t := 22) hh, fun j hj => ⟨?_, ?_, fun e => ?_⟩⟩⟩
   · have := ho.cells (g := g) rfl j _ (slv_get A N C i j hj)
     rwa [show (⟨g, 0, none⟩ : Addr).add j = ⟨g, 0 + j, none⟩ by unfold Addr.add; split <;> simp_all] at this
   · obtain ⟨a', c', e, q⟩ := KRow.of_own (hk j hj).1
     cases e
     exact q
   · rcases (hk j hj).1.2 with ⟨e1, _⟩ | ⟨g', cap', cur', e1, _⟩
     · injection e1
     · rw [e] at e1
       cases e1
theorem r6IntsN_any (a : Option Addr) (n c : Nat) (g : Nat -> Int) (w : World) (h : KRow w .i64 a n c g) (hg : In64 g n) (hn : n <= 1000000) :
    Calls Tryz.prog 38 #[.slice a n c] w fun e w' => (∃ a1 c1, e = .returned (.agg (plC (some ⟨w.heap.size + 1, 0, none⟩) 1 1 false none 0 0 a1 n c1))) /\ ∀ T, PlnTold (fun _ => (n : Int)) 1 false T 0 (fun j => rB (g j)) (fun j => rS (g j)) (fun _ => str (dec 1)) n w w' e := by
 have hl := h.len
 obtain ⟨i0, hi, hz0, hz1, hz2⟩ := info_parts infoN
 have FR := Lib.hid (fun X wz hx => r3From_any X wz hx)
 unfold NumTold at FR
 have HG := Lib.hid hg
 have KR := KRow.one (w.alloc (.cells plZer 26)) n 3
 have BB := Lib.hid ((((((Bag.start w).krow h).newRow plZer 26).alloc (.cells #[.int .i64 n] 3)).krow KR).newRow (plC (some ⟨w.heap.size + 1, 0, none⟩) 1 1 false none 0 0 none 0 0) 26)
 simp only [World.size_alloc] at BB
 clear h hg KR
 unfold plZer plC at BB
 go_enter Tryz.func38, Tryz.ntmps38
 go_wp2_with fail
 generalize ((w.alloc (.cells #[.slice none 0 0, .bool false, .slice none 0 0, .slice none 0 0] 26)).alloc (.cells #[.int .i64 n] 3)).alloc (.cells #[.slice (some ⟨w.heap.size + 1, 0, none⟩) 1 1, .bool false, .slice none 0 0, .slice none 0 0] 26) = y0 at *
 go_loopw [4] (fun i wr => ∃ (k : Nat) (a1 : Option Addr) (c1 : Nat), k <= n /\ i = .int .i64 k /\ Hid (Below w.heap.size w wr /\ Far (w.heap.size + 1 + 1) y0 wr /\ Row wr (w.heap.size + 1 + 1) 26 (plC (some ⟨w.heap.size + 1, 0, none⟩) 1 1 false none 0 0 a1 k c1) /\ wr.ownsRow y0.heap.size 53 3 (.slice a1 k c1) k (qcs (fun j => rB (g j)) (fun j => rS (g j)) (fun _ => str (dec 1)) k))) (fun i _ => n - (intOf i).toNat)
 case atStart => exact ⟨0, none, 0, by omega, rfl, BB.out.below, Far.refl _ _, BB.out.now.1, World.ownsRow_nil _ _ _ _⟩
 case round =>
  obtain ⟨k, a1, c1, hk, rfl, hrel⟩ := hrel
  obtain ⟨hbl, hfar, hrp, hown⟩ := hrel.out
  have hni := noInt_pl (some ⟨w.heap.size + 1, 0, none⟩) 1 1 false none 0 0 none 0 0
  have hsz := BB.out.now.1.lt
  by_cases hlt : k < n
  · have hkr := BB.out.now.2.2.2.1.away (BB.out.now.2.2.2.1.apart BB.out.now.1 hni) hfar
    obtain ⟨b, off, rfl, hb, hc⟩ := hkr.get hlt
    have HX := Lib.hid (HG.out k hlt)
    have B1 := Lib.hid (((Bag.start wr).own hown).row hrp)
    have HBL := Lib.hid hbl
    have HF := Lib.hid hfar
    have qp : wr.cell? ⟨w.heap.size + 1 + 1, 3, none⟩ = some (.slice a1 k c1) := hrp.cell 3
    have HMX := Lib.hid (show k + 1 <= maxLen by unfold maxLen; omega)
    have HMY := Lib.hid (show (k + 1) * 40 <= 140737488355328 by omega)
    have HONE := Lib.hid (show ∀ u ∈ ([.bool (rB (g k)), .string (rS (g k)), .string (str (dec 1))] : List Value), u.oneCell' = true by intro u hu; simp at hu; rcases hu with rfl | rfl | rfl <;> rfl)
    have hk0 : (0 : Int) <= k := by omega
    have hk1 : (k : Int) < n := by omega
    have hk2 : (k : Int) <= n := by omega
    clear hbl hfar hrp hown hkr hni
    go_wp2_with fail
    go_region_law (first
     | (go_simp; go_at_call 64; (with_reducible refine (FR.out _ _ HX.out).mono ?_); rintro e w2 ⟨rfl, hb2⟩;
         have B2 := Lib.hid ((B1.out.drew.go hb2).newRow #[.bool (rB (g k)), .string (rS (g k)), .string (str (dec 1))] 53);
         have qp2 : w2.cell? ⟨w.heap.size + 1 + 1, 3, none⟩ = some (.slice a1 k c1) := (B1.out.drew.go hb2).now.1.cell 3;
         have qp3 : (w2.alloc (.cells #[.bool (rB (g k)), .string (rS (g k)), .string (str (dec 1))] 53)).cell? ⟨w.heap.size + 1 + 1, 3, none⟩ = some (.slice a1 k c1) := B2.out.now.2.1.cell 3;
         have HROW := Lib.hid B2.out.now.2.1;
         have HOWN := Lib.hid B2.out.now.2.2.1;
         have HNEW := Lib.hid (World.news_of_block B2.out.now.1);
         have HBA := Lib.hid (Nat.le_trans HF.out.size B2.out.below.size);
         have HNX := Lib.hid (pl_step HBL.out HF.out B2.out.below HROW.out HOWN.out (by decide) (by omega) BB.out.below.size);
         clear hb2)
     | (refine step_append_lies _ rfl (.tmp 16) (.tmp 22) 24 rfl y0.heap.size 53 i0 _ 3 40 Tryz.underlying24 hi hz0 hz1 hz2 rfl (by omega) (.slice a1 k c1) k _ rfl HOWN.out ⟨w2.heap.size, 0, none⟩ 1 1 [.bool (rB (g k)), .string (rS (g k)), .string (str (dec 1))] rfl rfl HNEW.out HONE.out (by omega) HMX.out HMY.out HBA.out _ rfl ?_; intro g9 cap9 w3 hown3 hgrow hor hlt3;
         have hr3 := HROW.out.grown hgrow (HROW.out.apart HOWN.out (by decide)); have qp : w3.cell? ⟨w.heap.size + 1 + 1, 3, none⟩ = some (.slice a1 k c1) := hr3.cell 3; have fp := hr3.free 3; have HN := Lib.hid (HNX.out g9 cap9 w3 hown3 hgrow); clear hown3 hgrow hor hlt3 hr3))
    all_goals
     go_wp2
     go_roundw
     case rel => exact ⟨k + 1, _, cap9, by omega, by go_num, HN.out⟩
     case measure => simp [intOf]; omega
  · obtain rfl : k = n := by omega
    have hr0 : Row wr w.heap.size 26 plZer := (hfar.block _ (by omega) BB.out.now.2.2.1.lt).trans BB.out.now.2.2.1
    have hks := BB.out.now.2.1.away (BB.out.now.2.1.apart BB.out.now.1 hni) hfar
    obtain ⟨a9, c9, he, hq⟩ := QRow.of_own hown
    injection he with he1 _ he2
    subst he1 he2
    have HE : Hid (∀ T, PlnTold (fun _ => (k : Int)) 1 false T 0 (fun j => rB (g j)) (fun j => rS (g j)) (fun _ => str (dec 1)) k w (wr.setRow w.heap.size (plC (some ⟨w.heap.size + 1, 0, none⟩) 1 1 false none 0 0 a1 k c1)) (.returned (.agg (plC (some ⟨w.heap.size + 1, 0, none⟩) 1 1 false none 0 0 a1 k c1)))) :=
     Lib.hid fun T => ans_pln ⟨_, _, _, _, _, _, rfl, hks, KRow.nought _ _ _ _ (Nat.zero_le _) _, hq⟩ hbl hr0 (Nat.le_refl _)
    have HR0 := Lib.hid hr0
    have HRP := Lib.hid hrp
    clear hbl hfar hrp hown hks hq hr0 hni
    go_wp2_with (first
     | (refine ld_pln rfl (.tmp 3) rfl (w.heap.size + 1 + 1) rfl HRP.out ?_)
     | (refine st_pln rfl (.tmp 2) (.tmp 25) rfl w.heap.size rfl _ _ _ _ _ _ _ _ _ _ rfl HR0.out rfl ?_))
    exact bodyPost_ret (res_pln Tryz.results38 rfl (HR0.out.put _) rfl) rfl ⟨⟨_, _, rfl⟩, HE.out⟩
theorem rwhole11_any (s o : Int) (w : World) (hs : 0 <= s /\ s <= 4096) (ho : 0 <= o /\ o <= 1) :
    Calls Tryz.prog 99 #[.int .i64 s, .int .i64 o] w fun e w' => ∃ z a1 c1, e = .returned (.agg (plC (some ⟨z, 0, none⟩) 1 1 false none 0 0 a1 s.toNat c1)) /\ w.heap.size <= z /\ z < w'.heap.size /\ (∀ T, Pln w' (plC (some ⟨z, 0, none⟩) 1 1 false none 0 0 a1 s.toNat c1) (fun _ => s) 1 false s.toNat T (fun j => rB ((j : Int) + o)) (fun j => rS ((j : Int) + o)) (fun _ => str (dec 1))) /\ Below w.heap.size w w' := by
 obtain ⟨n, rfl⟩ : ∃ n : Nat, s = n := ⟨s.toNat, by omega⟩
 rw [Int.toNat_natCast]
 have IN : Hid (∀ a c wz, KRow wz .i64 a n c (fun j => (j : Int) + o) -> Calls Tryz.prog 38 #[.slice a n c] wz fun e w' => ∃ a1 c1, e = .returned (.agg (plC (some ⟨wz.heap.size + 1, 0, none⟩) 1 1 false none 0 0 a1 n c1)) /\ (∀ T, Pln w' (plC (some ⟨wz.heap.size + 1, 0, none⟩) 1 1 false none 0 0 a1 n c1) (fun _ => (n : Int)) 1 false n T (fun j => rB ((j : Int) + o)) (fun j => rS ((j : Int) + o)) (fun _ => str (dec 1))) /\ Below wz.heap.size wz w') := Lib.hid (fun a c wz h => by
  refine (r6IntsN_any a n c (fun j => (j : Int) + o) wz h (fun j hj => by dsimp only; omega) (by omega)).mono ?_
  rintro e w' ⟨⟨a1, c1, rfl⟩, hq⟩
  obtain ⟨_, _, _, hb⟩ := hq (fun _ => 0)
  refine ⟨a1, c1, rfl, fun T => ?_, hb⟩
  obtain ⟨cs, e1, h1, _⟩ := hq T
  cases e1
  exact h1)
 have BB := Lib.hid ((Bag.start w).newRow plZer 26)
 go_enter Tryz.func99, Tryz.ntmps99
 go_wp2_with fail
 unfold plZer plC at BB
 obtain ⟨Y0, hY0⟩ : ∃ Y0, w.alloc (.cells #[.slice none 0 0, .bool false, .slice none 0 0, .slice none 0 0] 26) = Y0 := ⟨_, rfl⟩
 rw [hY0] at BB
 simp only [hY0]
 clear hY0
 go_loopw [5, 6] (fun l i wr => ∃ (k : Nat) (a : Option Addr) (c : Nat), k <= n /\ l = .slice a k c /\ i = .int .i64 k /\ Hid (OwnI Y0 wr a k c (fun j => (j : Int) + o))) (fun _ i _ => n - (intOf i).toNat)
 case atStart => exact ⟨0, none, 0, by omega, rfl, rfl, OwnI.nil _ _⟩
 case round =>
  obtain ⟨k, a, c, hk, rfl, rfl, ho2⟩ := hrel
  by_cases hlt : k < n
  · have hk0 : (0 : Int) <= k := by omega
    have hk1 : (k : Int) < n := by omega
    have hw1 := IntWalk.i64_in (o + (k : Int)) (by omega)
    obtain ⟨a', c', y3, hr3, ho'⟩ := app1_step ho2.out (x := o + (k : Int)) (Int.add_comm _ _) (by omega)
    have HO' := Lib.hid ho'
    clear ho' ho2
    go_wp2_with (at_builtin; refine Lib.wpList_append_run _ rfl _ _ _ _ rfl _ _ rfl rfl _ _ hr3 ?_)
    go_roundw
    case rel => exact ⟨k + 1, a', c', by omega, rfl, by go_num, HO'⟩
    case measure => simp [intOf]; omega
  · have hkr : k = n := by omega
    subst k
    have BW := Lib.hid (BB.out.go ho2.out.1)
    have HKK := Lib.hid ho2.out.krow
    clear hk hlt ho2
    go_wp2_with fail
    go_at_call 38
    (refine (IN.out _ _ _ HKK.out).mono ?_)
    rintro e w9 ⟨a1, c1, rfl, hq, hb9⟩
    have hz0 := BW.out.now.1.lt
    have hz1 : wr.heap.size + 1 < w9.heap.size := by
     obtain ⟨sq, scq, tq, tcq, nq, ncq, e1, k1, _⟩ := hq (fun _ => 0)
     have e2 : some (⟨wr.heap.size + 1, 0, none⟩ : Addr) = sq := by
      simp [plC] at e1
      exact e1.1.1
     obtain ⟨bb, oo, e3, hl, _⟩ := k1.get (show 0 < 1 by omega)
     rw [← e2] at e3
     cases e3
     exact hl
    have BW := Lib.hid (BW.out.go hb9)
    have HZ := Lib.hid BW.out.now.1
    obtain ⟨Z, hZ⟩ : ∃ Z, wr.heap.size + 1 = Z := ⟨_, rfl⟩
    rw [hZ] at hq hz1
    have HE : Hid (w.heap.size <= Z /\ Z < (w9.setRow w.heap.size (plC (some ⟨Z, 0, none⟩) 1 1 false none 0 0 a1 n c1)).heap.size /\ (∀ T, Pln (w9.setRow w.heap.size (plC (some ⟨Z, 0, none⟩) 1 1 false none 0 0 a1 n c1)) (plC (some ⟨Z, 0, none⟩) 1 1 false none 0 0 a1 n c1) (fun _ => (n : Int)) 1 false n T (fun j => rB ((j : Int) + o)) (fun j => rS ((j : Int) + o)) (fun _ => str (dec 1))) /\ Below w.heap.size w (w9.setRow w.heap.size (plC (some ⟨Z, 0, none⟩) 1 1 false none 0 0 a1 n c1))) := Lib.hid ⟨by omega, by simpa [World.setRow] using hz1, fun T => (hq T).put HZ.out _, below_put BW.out.below (Nat.le_refl _) _⟩
    clear hq hb9 hz0 hz1
    rw [hZ]
    clear hZ
    go_wp2_with (refine st_pln rfl (.tmp 4) (.tmp 19) rfl w.heap.size rfl _ _ _ _ _ _ _ _ _ _ rfl HZ.out rfl ?_)
    exact bodyPost_ret (res_pln Tryz.results99 rfl (HZ.out.put _) rfl) rfl ⟨_, _, _, rfl, HE.out⟩
end Go.Proofs.YtnpoakaffafdiaaGreatDoor
