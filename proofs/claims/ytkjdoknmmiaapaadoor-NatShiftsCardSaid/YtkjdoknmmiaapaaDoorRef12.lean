/-
  The document's answers (package typeballref01): Two, by contract.
-/
import Derived.Test.YtkjdoknmmiaapaaDoorRef3
namespace Go.Proofs.YtkjdoknmmiaapaaDoor
open Go.RowKit

theorem dl_two (k : Nat) : dl (2 ^ k) ≤ k + 1 := by
  refine dl_le _ _ (by omega) ?_
  have h1 : (2 : Nat) ^ k ≤ 10 ^ k := Nat.pow_le_pow_left (by omega) k
  rw [Nat.pow_succ]
  have := Nat.pow_pos (n := k) (show 0 < 10 by omega)
  omega

set_option maxHeartbeats 800000 in
set_option maxRecDepth 100000 in
theorem rtwo_any (n : Nat) (w : World) (hn : n ≤ 900) : Calls Tryd.prog 44 #[.int .i64 n] w fun e w' => e = .returned (.string (str (dec (2 ^ n)))) ∧ Below w.heap.size w w' := by
  have h1 : (⟨#[49]⟩ : ByteArray) = str (dec (2 ^ 0)) := by
    have : dl 1 = 1 := by unfold dl; rfl
    rw [Nat.pow_zero]; unfold dec; rw [this]; rfl
  have H1 := Lib.hid h1
  clear h1
  go_enter Tryd.func44, Tryd.ntmps44
  go_wp2
  go_loopw [3, 4] (fun s i wr => ∃ (k : Nat) (t : ByteArray), k ≤ n ∧ i = .int .i64 k ∧ s = .string t ∧ Hid (t = str (dec (2 ^ k))) ∧ Below w.heap.size w wr) (fun _ i _ => n - (intOf i).toNat)
  case atStart => exact ⟨0, _, by omega, rfl, rfl, H1.out, Below.refl _ _⟩
  case round =>
    obtain ⟨k, t, hk, rfl, rfl, ht, hbl⟩ := hrel
    by_cases hlt : k < n
    · have hd := dl_two k
      have AD := fun wz => radd_any (2 ^ k) (dl (2 ^ k)) (2 ^ k) (dl (2 ^ k)) wz (dl_lt _) (dl_lt _) (by omega) (by omega)
      rw [show str (sdig (2 ^ k) (dl (2 ^ k))) = t from ht.out.symm, show 2 ^ k + 2 ^ k = 2 ^ (k + 1) by rw [Nat.pow_succ]; omega] at AD
      obtain ⟨u, hu⟩ : ∃ u, str (dec (2 ^ (k + 1))) = u := ⟨_, rfl⟩
      rw [hu] at AD
      have HU : Hid (u = str (dec (2 ^ (k + 1)))) := hu.symm
      have HA := Lib.hid AD
      have HB := Lib.hid hbl
      clear hd AD hu hbl ht
      go_wp2_with fail
      go_at_call 36
      (with_reducible refine (HA.out _).mono ?_)
      rintro e w2 ⟨rfl, hb2⟩
      have HB2 := Lib.hid (HB.out.trans (hb2.mono HB.out.size))
      clear hb2
      go_wp2
      go_roundw
      case rel => exact ⟨k + 1, u, by omega, by go_num, rfl, HU.out, HB2.out⟩
      case measure => simp [intOf]; omega
    · obtain rfl : k = n := by omega
      have HB := Lib.hid hbl
      clear hbl
      go_wp2
      go_ret
      exact ⟨ret_str ht.out, HB.out⟩

end Go.Proofs.YtkjdoknmmiaapaaDoor
