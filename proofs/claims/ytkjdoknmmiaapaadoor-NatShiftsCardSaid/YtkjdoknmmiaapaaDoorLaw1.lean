/-
  Package typeballlaw01: read, by contract: a text of at most 120 digits is a number; another is none.
-/
import Derived.Test.YtkjdoknmmiaapaaDoorLaw0
import Derived.Test.YtkjdoknmmiaapaaDoorRef3
namespace Go.Proofs.YtkjdoknmmiaapaaDoor
open Go.RowKit

theorem read_bound {s : ByteArray} (h : s.size ≤ 120) (hok : okB s.data.toList = true) : numOf s.data.toList < 10 ^ 120 ∧ dl (numOf s.data.toList) ≤ 120 := by
  obtain ⟨h1, h2, h3⟩ := okB_digs hok
  have h4 := numOf_lt _ h3
  have h5 : s.data.toList.length = s.size := rfl
  have h6 : numOf s.data.toList < 10 ^ 120 := Nat.lt_of_lt_of_le h4 (Nat.pow_le_pow_right (by omega) (by omega))
  exact ⟨h6, dl_le _ 120 (by omega) h6⟩
theorem lim120 {N : Nat} (h : N < 10 ^ 120) : N < 4294967296 ^ 13 := Nat.lt_trans h (by decide)

def ReadYes (w w' : World) (e : Ending) (N : Nat) : Prop := ∃ a n c, e = .returned (.tuple #[.agg #[.slice a n c], .string (str (dec N)), .bool true]) ∧ NatIs w' (.agg #[.slice a n c]) N ∧ Below w.heap.size w w'
def ReadNo (w w' : World) (e : Ending) : Prop := e = .returned (.tuple #[.agg #[.slice none 0 0], .string ⟨#[]⟩, .bool false]) ∧ Below w.heap.size w w'

set_option maxHeartbeats 1600000 in
set_option maxRecDepth 100000 in
theorem read_no (s : ByteArray) (w : World) (hs : s.size ≤ maxLen) (h : 120 < s.size ∨ okB s.data.toList = false) : Calls Tryd.prog 31 #[.string s] w fun e w' => ReadNo w w' e := by
  have HR := Lib.hid (fun wz => right_any s wz hs)
  have hsl : s.data.toList.length = s.size := rfl
  unfold maxLen at hs
  have s0 := Slot.new w (.slice none 0 0) 25
  have hE : ReadNo w (w.alloc (.cells #[.slice none 0 0] 25)) (.returned (.tuple #[.agg #[.slice none 0 0], .string ⟨#[]⟩, .bool false])) := ⟨rfl, (Below.refl _ _).alloc (Nat.le_refl _) _⟩
  have HE := Lib.hid hE
  clear hsl s0 hE
  by_cases h1 : 120 < s.size
  · have d1 : decide ((120 : Int) < (s.size : Int)) = true := decide_eq_true (by omega)
    clear h
    go_enter Tryd.func31, Tryd.ntmps31
    go_wp2
    exact bodyPost_ret (v := .tuple #[.agg #[.slice none 0 0], .string ⟨#[]⟩, .bool false]) (by simp [results, Tryd.results31, go_sem]) rfl HE.out
  · have d1 : decide ((120 : Int) < (s.size : Int)) = false := decide_eq_false (by omega)
    have hok : okB s.data.toList = false := h.resolve_left h1
    rw [hok] at HR
    clear h hok
    go_enter Tryd.func31, Tryd.ntmps31
    go_wp2_with (go_at_call 17; refine (HR.out _).mono ?_; rintro e w1 ⟨rfl, rfl⟩)
    exact bodyPost_ret (v := .tuple #[.agg #[.slice none 0 0], .string ⟨#[]⟩, .bool false]) (by simp [results, Tryd.results31, go_sem]) rfl HE.out

set_option maxHeartbeats 1600000 in
set_option maxRecDepth 100000 in
theorem read_yes (s : ByteArray) (w : World) (hs : s.size ≤ 120) (hok : okB s.data.toList = true) : Calls Tryd.prog 31 #[.string s] w fun e w' => ReadYes w w' e (numOf s.data.toList) := by
  have HR := Lib.hid (fun wz => right_any s wz (by unfold maxLen; omega))
  have HP := Lib.hid (fun wz => parse_any s wz (by unfold maxLen; omega))
  rw [hok] at HR
  obtain ⟨g1, g2, g3⟩ := okB_digs hok
  have hsl : s.data.toList.length = s.size := rfl
  have HT : Hid (∀ wz, Calls Tryd.prog 18 #[.string s] wz fun e w' => e = .returned (.string (str (dec (numOf s.data.toList)))) ∧ wz = w') := by
    intro wz
    have h1 := trim_any (numOf s.data.toList) s.data.toList.length wz g1 (numOf_lt _ g3) (by omega)
    rw [sdig_numOf _ g3] at h1
    exact h1
  obtain ⟨N, hN⟩ : ∃ N, numOf s.data.toList = N := ⟨_, rfl⟩
  have HPP : Hid (∀ wz, Calls Tryd.prog 16 #[.string s] wz fun e w' => ∃ a n c, e = .returned (.tuple #[.agg #[.slice a n c], .bool true]) ∧ NatIs w' (.agg #[.slice a n c]) N ∧ (∀ x, a = some x → wz.heap.size ≤ x.block) ∧ Below wz.heap.size wz w') := by
    intro wz
    refine (HP.out wz).mono ?_
    rintro e w' ⟨a, n, c, rfl, hv, hp, hb⟩
    rw [hok, if_pos rfl, hN] at hv
    exact ⟨a, n, c, by rw [hok], hv, hp, hb⟩
  rw [hN] at HT ⊢
  obtain ⟨D, hD⟩ : ∃ D, str (dec N) = D := ⟨_, rfl⟩
  rw [hD] at HT
  have HD := Lib.hid hD
  have S0 := Lib.hid (Slot.new w (.slice none 0 0) 25)
  have hB0 : Below w.heap.size w (w.alloc (.cells #[.slice none 0 0] 25)) := (Below.refl _ _).alloc (Nat.le_refl _) _
  have HB0 := Lib.hid hB0
  have d1 : decide ((120 : Int) < (s.size : Int)) = false := decide_eq_false (by omega)
  clear g1 g2 g3 hsl hN hD HP hok hB0
  go_enter Tryd.func31, Tryd.ntmps31
  go_wp2_with (go_at_call 17; refine (HR.out _).mono ?_; rintro e w1 ⟨rfl, rfl⟩)
  go_at_call 16
  refine (HPP.out _).mono ?_
  rintro e w2 ⟨a, n, c, rfl, hi2, hpl, hb2⟩
  have S2 := (S0.out.below hb2).alloc (.cells #[.slice a n c] 25)
  have T2 := Slot.new w2 (.slice a n c) 25
  have HB2 := HB0.out.trans (hb2.mono HB0.out.size)
  have hz2 : w.heap.size < w2.heap.size := Nat.lt_of_lt_of_le S0.out.lt hb2.size
  have hi3 := hi2.alloc (.cells #[.slice a n c] 25)
  obtain ⟨w3, hw3⟩ : ∃ w3, w2.alloc (.cells #[.slice a n c] 25) = w3 := ⟨_, rfl⟩
  have HB3 := HB2.alloc HB2.size (.cells #[.slice a n c] 25)
  rw [hw3] at S2 T2 hi3 HB3
  have HE : ReadYes w (w3.setCell ⟨w.heap.size, 0, none⟩ (.slice a n c)).drew (.returned (.tuple #[.agg #[.slice a n c], .string D, .bool true])) N := by
    obtain ⟨a', n', c', f, he, hs', hv', ht'⟩ := hi3
    cases he
    refine ⟨a, n, c, by rw [HD.out], ⟨a, n, c, f, rfl, ?_, hv', ht'⟩, (HB3.setCell (Nat.le_refl _) _).drew⟩
    exact hs'.wrote (((Wrote.refl w.heap.size 0 1 w3).setCell (Nat.le_refl _) (by omega) _).drew) (fun x hx => by have := hpl x hx; rw [World.size_alloc] at this; omega)
  have HE' := Lib.hid HE
  have hc1 := S2.cell
  have hf1 := S2.free
  have hc2 := T2.cell
  clear hb2 S2 T2 HB2 hi3 HB3 HE hi2 hpl
  go_wp2_with fail
  clear hw3
  go_region_with (go_at_call 18; refine (HT.out _).mono ?_; rintro e w4 ⟨rfl, rfl⟩)
  all_goals
    go_wp2
    exact bodyPost_ret (v := .tuple #[.agg #[.slice a n c], .string D, .bool true]) (by simp [results, Tryd.results31, go_sem, hc1]) rfl HE'.out

end Go.Proofs.YtkjdoknmmiaapaaDoor
