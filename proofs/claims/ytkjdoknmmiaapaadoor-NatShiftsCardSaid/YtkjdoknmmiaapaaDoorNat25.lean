/-
  Package nat: shift, Shr, by contract.
-/
import Derived.Test.YtkjdoknmmiaapaaDoorWh7
import Derived.IntWalk
namespace Go.Proofs.YtkjdoknmmiaapaaDoor
open Go.RowKit

def shN (n : Int) : Nat := n.toNat
set_option maxRecDepth 100000 in
theorem shift_any (n : Int) (w : World) (h : -9223372036854775808 ≤ n ∧ n ≤ 9223372036854775807) : Calls Tryd.prog 86 #[.int .i64 n] w fun e w' => e = .returned (.tuple #[.int .i64 (shN n / 32 : Nat), .int .i64 (shN n % 32 : Nat)]) ∧ w = w' := by
  go_enter Tryd.func86, Tryd.ntmps86
  go_wp2
  go_ret2
  exact ⟨ret_two (by unfold shN; omega) (by unfold shN; omega), rfl⟩

theorem shr_split (N n : Nat) : N / 2 ^ n = N / 4294967296 ^ (n / 32) / 2 ^ (n % 32) := by
  rw [Nat.div_div_eq_div_mul, show (4294967296 : Nat) = 2 ^ 32 by decide, ← Nat.pow_mul, ← Nat.pow_add, Nat.div_add_mod]
theorem val_skip (f : Nat → Nat) (q n : Nat) (hq : q ≤ n) (hf : ∀ j, j < n → f j < 4294967296) : val f n / 4294967296 ^ q = val (fun j => f (q + j)) (n - q) := by
  have h := val_shift f q (n - q)
  rw [show q + (n - q) = n by omega] at h
  rw [h, Nat.add_mul_div_left _ _ (pow_pos32 q), Nat.div_eq_of_lt (val_lt f q (fun j hj => hf j (by omega))), Nat.zero_add]

set_option maxHeartbeats 1600000 in
set_option maxRecDepth 100000 in
theorem shr_any (a : Option Addr) (len c N : Nat) (n : Int) (w : World) (h : NatIs w (.agg #[.slice a len c]) N) (hn : -9223372036854775808 ≤ n ∧ n ≤ 9223372036854775807) :
    Calls Tryd.prog 46 #[.agg #[.slice a len c], .int .i64 n] w fun e w' => NatOf3 w w' e (N / 2 ^ shN n) := by
  have SH := Lib.hid (fun wz => shift_any n wz hn)
  have hsp := shr_split N (shN n)
  have hb0 : shN n ≤ 9223372036854775807 := by unfold shN; omega
  obtain ⟨q, hq⟩ : ∃ q, shN n / 32 = q := ⟨_, rfl⟩
  obtain ⟨u, hu⟩ : ∃ u, shN n % 32 = u := ⟨_, rfl⟩
  rw [hq, hu] at SH hsp
  have hu32 : u < 32 := by omega
  have hql : q ≤ 9223372036854775807 := by omega
  have B0 := (((Bag.start w).nat h).box (.slice a len c) 25).box (.slice none 0 0) 25
  rw [World.size_alloc] at B0
  have BB := Lib.hid B0
  obtain ⟨_, _, _, f, he, hs, hv, ht⟩ := h
  cases he
  have hnl := NatIs.len hs
  have hlc := hs.1
  by_cases hle : len ≤ q
  · have d1 : decide ((len : Int) ≤ (q : Int)) = true := decide_eq_true (by omega)
    have h0 : N / 2 ^ shN n = 0 := by
      rw [hsp]
      have h1 := val_lt f len hs.2.2.1
      have h2 := pow_mono32 hle
      rw [hv] at h1
      rw [Nat.div_eq_of_lt (Nat.lt_of_lt_of_le h1 h2), Nat.zero_div]
    have HE : Hid (NatOf3 w ((w.alloc (.cells #[.slice a len c] 25)).alloc (.cells #[.slice none 0 0] 25)) (.returned (.agg #[.slice none 0 0])) (N / 2 ^ shN n)) := ⟨none, 0, 0, rfl, by rw [h0]; exact NatIs.zero _, B0.below⟩
    have q0 := B0.now.2.1.cell
    clear hsp hq hu hs hv ht h0 hn B0
    go_enter Tryd.func46, Tryd.ntmps46
    go_wp2_with (go_at_call 86; (with_reducible refine (SH.out _).mono ?_); rintro e w2 ⟨rfl, rfl⟩)
    exact bodyPost_ret (v := .agg #[.slice none 0 0]) (by simp [results, Tryd.results46, go_sem]) rfl HE.out
  · have d1 : decide ((len : Int) ≤ (q : Int)) = false := decide_eq_false (by omega)
    obtain ⟨b, off, rfl, hbl, hcc⟩ := hs.at (by omega)
    obtain ⟨m, hm⟩ : ∃ m, len - q = m := ⟨_, rfl⟩
    have e1 : (len : Int) - (q : Int) = (m : Int) := by omega
    have nq : ¬ c = q := by omega
    have i1 : (q : Int) ≤ (len : Int) := by omega
    have i2 : (len : Int) ≤ (c : Int) := by omega
    have i0 : (0 : Int) ≤ (q : Int) := by omega
    have q0 := B0.now.2.1.cell
    have hml : m ≤ 1000000 := by omega
    have hwm : IntKind.i64.wrap (m : Int) = (m : Int) := IntWalk.i64_in _ (by omega)
    have hsl : SlAt w .u32 4294967296 (some ⟨b, off + q, none⟩) m (c - q) (fun j => f (q + j)) := ⟨by omega, by omega, fun j hj => hs.2.2.1 _ (by omega), .inr ⟨b, off + q, rfl, hbl, fun j hj => by have := hcc (q + j) (by omega); rw [← Nat.add_assoc] at this; exact this⟩⟩
    have CP := Lib.hid (copied_own _ m (c - q) (fun j => f (q + j)) m _ (hsl.below B0.drew.below) (Nat.le_refl _) hml)
    have HV : Hid (val (fun j => f (q + j)) m / 2 ^ u = N / 2 ^ shN n) := by
      show _ = _
      rw [hsp, ← hv, val_skip f q len (by omega) hs.2.2.1, hm]
    clear hsp hq hu hs hv ht hn B0 hsl hcc
    go_enter Tryd.func46, Tryd.ntmps46
    go_wp2_with (go_at_call 86; (with_reducible refine (SH.out _).mono ?_); rintro e w2 ⟨rfl, rfl⟩)
    go_region_with (go_at_call 73; (with_reducible refine CP.out.mono ?_); rintro e w2 ⟨bb, rfl, ho, hb2⟩; have BB := Lib.hid (BB.out.drew.go hb2); have HO := Lib.hid ho; have hq2 := BB.out.now.2.1.cell; clear ho hb2)
    all_goals
      have hbb : w.heap.size + 1 < bb := by have := HO.out.ge; simp at this; omega
      go_wp2_with fail
      go_at_call 88
      refine (shiftDown_own _ bb m m _ u w2 HO.out (Nat.le_refl _) hml hu32).mono ?_
      rintro e w3 ⟨rfl, ho3, hw3⟩
      obtain ⟨gg, hg, hgv⟩ := ho3.slAt hml
      have HG := Lib.hid hg
      have HGV := Lib.hid (hgv.trans HV.out)
      have T3 := Lib.hid (BB.out.now.1.wrote hw3 (by omega))
      have HB3 : Hid (Below w.heap.size w w3) := hw3.below BB.out.below (by omega) BB.out.below.size
      clear ho3 hw3 hg hgv hq2
      go_wp2_with fail
      go_at_call 72
      refine (trimmed_pl _ m m gg w3 HG.out).mono ?_
      rintro e w4 ⟨a3, n3, c3, f3, rfl, hs3, hv3, ht3, hp3, hb3⟩
      have U3 := T3.out.below hb3
      have hc4 := U3.cell
      have hf4 := U3.free
      have HE := Lib.hid (natOut_store (u := .slice a3 n3 c3) (k := w.heap.size + 1) (HB3.out.trans (hb3.mono HB3.out.size)) (by omega) hs3 (hv3.trans HGV.out) ht3 (by rintro x rfl; rcases hp3 with h | h <;> cases h; simp; omega)).three
      clear hs3 hv3 ht3 hb3 hp3 U3
      go_wp2
      exact bodyPost_ret (v := .agg #[.slice a3 n3 c3]) (by simp [results, Tryd.results46, go_sem, hc4]) rfl HE.out

end Go.Proofs.YtkjdoknmmiaapaaDoor
