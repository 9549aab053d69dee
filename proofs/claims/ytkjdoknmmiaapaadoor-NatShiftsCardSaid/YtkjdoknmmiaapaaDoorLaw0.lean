/-
  Package typeballlaw01: awake returns true (the chapter's examples).
-/
import Derived.Test.YtkjdoknmmiaapaaDoorNat22
import Derived.Test.YtkjdoknmmiaapaaDoorRef1
namespace Go.Proofs.YtkjdoknmmiaapaaDoor
open Go.RowKit

theorem dec_small {N : Nat} (h : N < 10) : dec N = [UInt8.ofNat (48 + N)] := by
  have : dl N = 1 := by unfold dl; rw [dif_pos h]
  unfold dec; rw [this, sdig, sdig]
  unfold dgt
  rw [Nat.pow_zero, Nat.div_one, Nat.mod_eq_of_lt h]

/-- A number that is told, its value's parts named. -/
def NatTold (w w' : World) (e : Ending) (N : Nat) : Prop := ∃ a n c, e = .returned (.agg #[.slice a n c]) ∧ NatIs w' (.agg #[.slice a n c]) N ∧ Below w.heap.size w w'
theorem NatOut.told {w w' : World} {e : Ending} {N : Nat} (h : NatOut w w' e N) : NatTold w w' e N := by
  obtain ⟨v, rfl, hv, hb⟩ := h
  obtain ⟨a, n, c, f, rfl, hs, hv, ht⟩ := hv
  exact ⟨a, n, c, rfl, ⟨a, n, c, f, rfl, hs, hv, ht⟩, hb⟩
theorem NatIs.alloc {w : World} {v : Value} {N : Nat} (h : NatIs w v N) (o : Obj) : NatIs (w.alloc o) v N := h.below ((Below.refl _ _).alloc (Nat.le_refl _) _)

theorem of_told (x : Nat) (w : World) (hx : x < 18446744073709551616) : Calls Tryd.prog 29 #[.int .u64 x] w fun e w' => NatTold w w' e x :=
  (of_any x w hx).mono fun _ _ h => h.told

def Parse7 (w w' : World) (e : Ending) : Prop := ∃ a n c, e = .returned (.tuple #[.agg #[.slice a n c], .bool true]) ∧ NatIs w' (.agg #[.slice a n c]) 7 ∧ Below w.heap.size w w'
theorem parse7 (w : World) : Calls Tryd.prog 16 #[.string ⟨#[48, 48, 55]⟩] w fun e w' => Parse7 w w' e := by
  refine (parse_any ⟨#[48, 48, 55]⟩ w (by unfold maxLen; decide)).mono ?_
  rintro e w' ⟨a, n, c, rfl, hv, _, hb⟩
  have h1 : okB (⟨#[48, 48, 55]⟩ : ByteArray).data.toList = true := by decide
  have h2 : numOf (⟨#[48, 48, 55]⟩ : ByteArray).data.toList = 7 := by decide
  rw [h1, if_pos rfl, h2] at hv
  exact ⟨a, n, c, by rw [h1], hv, hb⟩

def Div104 (w w' : World) (e : Ending) : Prop := ∃ a n c a2 n2 c2, e = .returned (.tuple #[.agg #[.slice a n c], .agg #[.slice a2 n2 c2], .bool true]) ∧ NatIs w' (.agg #[.slice a n c]) 2 ∧ NatIs w' (.agg #[.slice a2 n2 c2]) 2 ∧ Below w.heap.size w w'
theorem div104 (v u : Value) (w : World) (h : NatIs w v 10) (g : NatIs w u 4) : Calls Tryd.prog 38 #[v, u] w fun e w' => Div104 w w' e := by
  refine (divMod_any v u 10 4 w h g 1 (by omega) (by rw [Nat.pow_one]; omega)).mono ?_
  rintro e w' ⟨x, y, rfl, hx, hy, hb⟩
  obtain ⟨a, n, c, f, rfl, hs, hv, ht⟩ := hx
  obtain ⟨a2, n2, c2, f2, rfl, hs2, hv2, ht2⟩ := hy
  exact ⟨a, n, c, a2, n2, c2, rfl, ⟨a, n, c, f, rfl, hs, hv, ht⟩, ⟨a2, n2, c2, f2, rfl, hs2, hv2, ht2⟩, hb⟩

theorem text7 (v : Value) (w : World) (h : NatIs w v 7) : Calls Tryd.prog 21 #[v] w fun e w' => e = .returned (.string ⟨#[55]⟩) ∧ Below w.heap.size w w' := by
  refine (text_any v 7 w h 1 (by omega) (by rw [Nat.pow_one]; omega)).mono ?_
  rintro e w' ⟨rfl, hb⟩
  exact ⟨by rw [dec_small (by omega)]; rfl, hb⟩
theorem text2 (v : Value) (w : World) (h : NatIs w v 2) : Calls Tryd.prog 21 #[v] w fun e w' => e = .returned (.string ⟨#[50]⟩) ∧ Below w.heap.size w w' := by
  refine (text_any v 2 w h 1 (by omega) (by rw [Nat.pow_one]; omega)).mono ?_
  rintro e w' ⟨rfl, hb⟩
  exact ⟨by rw [dec_small (by omega)]; rfl, hb⟩
theorem limbs33 (v : Value) (w : World) (h : NatIs w v 4294967296) : Calls Tryd.prog 27 #[v] w fun e w' => e = .returned (.int .i64 2) ∧ Below w.heap.size w w' := by
  refine (limbs_any v _ w h).mono ?_
  rintro e w' ⟨n, rfl, _, h0, h1, hb⟩
  refine ⟨?_, hb⟩
  obtain ⟨h2, h3⟩ := h1.out
  have : n = 2 := by
    rcases Nat.lt_or_ge n 2 with h4 | h4
    · have := pow_mono32 (show n ≤ 1 by omega)
      rw [Nat.pow_one] at this; omega
    · rcases Nat.lt_or_ge 2 n with h5 | h5
      · have := h3 (by omega)
        have h6 := pow_mono32 (show 2 ≤ n - 1 by omega)
        have e : (4294967296 : Nat) ^ 2 = 18446744073709551616 := by decide
        omega
      · omega
  rw [this]; rfl
theorem bits33 (v : Value) (w : World) (h : NatIs w v 4294967296) : Calls Tryd.prog 25 #[v] w fun e w' => e = .returned (.int .i64 33) ∧ Below w.heap.size w w' := by
  refine (bits_any v _ w h).mono ?_
  rintro e w' ⟨rfl, hb⟩
  exact ⟨by rw [nbits_eq (b := 32) (by decide) (by decide)]; rfl, hb⟩

set_option maxHeartbeats 1600000 in
set_option maxRecDepth 100000 in
theorem awake_any (w : World) : Calls Tryd.prog 15 #[] w fun e w' => e = .returned (.bool true) ∧ Below w.heap.size w w' := by
  have P7 := parse7 w
  go_enter Tryd.func15, Tryd.ntmps15
  go_wp2_with fail
  go_at_call 16
  refine P7.mono ?_
  clear P7
  rintro e w1 ⟨a1, n1, c1, rfl, hi1, hb1⟩
  have HI1 := Lib.hid (hi1.alloc (.cells #[.slice a1 n1 c1] 25))
  have HB1 := Lib.hid (hb1.alloc hb1.size (.cells #[.slice a1 n1 c1] 25))
  have S1 := Lib.hid (Slot.new w1 (.slice a1 n1 c1) 25)
  clear hi1 hb1
  go_wp2_with fail
  go_at_call 29
  refine (of_told 10 _ (by omega)).mono ?_
  rintro e w2 ⟨a2, n2, c2, rfl, hi2, hb2⟩
  have HI2 := Lib.hid hi2
  have HB2 := Lib.hid (HB1.out.trans (hb2.mono HB1.out.size))
  have HJ1 := Lib.hid (HI1.out.below hb2)
  have T1 := Lib.hid (S1.out.below hb2)
  clear hi2 hb2
  go_wp2_with fail
  go_at_call 29
  refine (of_told 4 _ (by omega)).mono ?_
  rintro e w3 ⟨a3, n3, c3, rfl, hi3, hb3⟩
  have HI3 := Lib.hid hi3
  have HJ2 := Lib.hid (HI2.out.below hb3)
  have HK1 := Lib.hid (HJ1.out.below hb3)
  have U1 := Lib.hid (T1.out.below hb3)
  have HB3 := Lib.hid (HB2.out.trans (hb3.mono HB2.out.size))
  clear hi3 hb3
  go_wp2_with fail
  go_at_call 38
  refine (div104 _ _ _ HJ2.out HI3.out).mono ?_
  rintro e w4 ⟨a4, n4, c4, a5, n5, c5, rfl, hi4, hi5, hb4⟩
  have HL1 := Lib.hid (((HK1.out.below hb4).alloc (.cells #[.slice a4 n4 c4] 25)).alloc (.cells #[.slice a5 n5 c5] 25))
  have HL4 := Lib.hid ((hi4.alloc (.cells #[.slice a4 n4 c4] 25)).alloc (.cells #[.slice a5 n5 c5] 25))
  have HL5 := Lib.hid ((hi5.alloc (.cells #[.slice a4 n4 c4] 25)).alloc (.cells #[.slice a5 n5 c5] 25))
  have V1 := Lib.hid (((U1.out.below hb4).alloc (.cells #[.slice a4 n4 c4] 25)).alloc (.cells #[.slice a5 n5 c5] 25))
  have V4 := Lib.hid ((Slot.new w4 (.slice a4 n4 c4) 25).alloc (.cells #[.slice a5 n5 c5] 25))
  have V5 := Lib.hid (Slot.new1 w4 (.cells #[.slice a4 n4 c4] 25) (.slice a5 n5 c5) 25)
  have hb4' := HB3.out.trans (hb4.mono HB3.out.size)
  have HB4 := Lib.hid ((hb4'.alloc hb4'.size (.cells #[.slice a4 n4 c4] 25)).alloc (by rw [World.size_alloc]; have := hb4'.size; omega) (.cells #[.slice a5 n5 c5] 25))
  clear hi4 hi5 hb4 hb4'
  have q1 := V1.out.cell
  go_wp2_with fail
  go_at_call 21
  refine (text7 _ _ HL1.out).mono ?_
  rintro e w5 ⟨rfl, hb5⟩
  clear q1
  have X4 := Lib.hid (HL4.out.below hb5)
  have X5 := Lib.hid (HL5.out.below hb5)
  have Y4 := Lib.hid (V4.out.below hb5)
  have Y5 := Lib.hid (V5.out.below hb5)
  have HB5 := Lib.hid (HB4.out.trans (hb5.mono HB4.out.size))
  clear hb5
  have q4 := Y4.out.cell
  go_wp2_with fail
  go_at_call 21
  refine (text2 _ _ X4.out).mono ?_
  rintro e w6 ⟨rfl, hb6⟩
  clear q4
  have Z5 := Lib.hid (X5.out.below hb6)
  have R5 := Lib.hid (Y5.out.below hb6)
  have HB6 := Lib.hid (HB5.out.trans (hb6.mono HB5.out.size))
  clear hb6
  have q5 := R5.out.cell
  go_wp2_with fail
  go_at_call 21
  refine (text2 _ _ Z5.out).mono ?_
  rintro e w7 ⟨rfl, hb7⟩
  clear q5
  have HB7 := Lib.hid (HB6.out.trans (hb7.mono HB6.out.size))
  clear hb7
  go_wp2_with fail
  go_at_call 29
  refine (of_told 4294967296 _ (by omega)).mono ?_
  rintro e w8 ⟨a8, n8, c8, rfl, hi8, hb8⟩
  have HI8 := Lib.hid hi8
  have HB8 := Lib.hid (HB7.out.trans (hb8.mono HB7.out.size))
  clear hi8 hb8
  go_wp2_with fail
  go_at_call 27
  refine (limbs33 _ _ HI8.out).mono ?_
  rintro e w9 ⟨rfl, hb9⟩
  have HB9 := Lib.hid (HB8.out.trans (hb9.mono HB8.out.size))
  clear hb9
  go_wp2_with fail
  go_at_call 29
  refine (of_told 4294967296 _ (by omega)).mono ?_
  rintro e w10 ⟨a10, n10, c10, rfl, hi10, hb10⟩
  have HI10 := Lib.hid hi10
  have HB10 := Lib.hid (HB9.out.trans (hb10.mono HB9.out.size))
  clear hi10 hb10
  go_wp2_with fail
  go_at_call 25
  refine (bits33 _ _ HI10.out).mono ?_
  rintro e w11 ⟨rfl, hb11⟩
  have HB11 := Lib.hid (HB10.out.trans (hb11.mono HB10.out.size))
  clear hb11
  go_wp2
  go_ret
  exact ⟨rfl, HB11.out⟩

end Go.Proofs.YtkjdoknmmiaapaaDoor
