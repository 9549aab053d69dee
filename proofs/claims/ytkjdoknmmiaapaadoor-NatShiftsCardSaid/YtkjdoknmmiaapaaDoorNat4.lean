/-
  Package nat: takeTimes (a row less part times a limb) and divideBy (a row by a limb), by contract.
-/
import Derived.Test.YtkjdoknmmiaapaaDoorNat2
import Derived.Test.YtkjdoknmmiaapaaDoorNat3
namespace Go.Proofs.YtkjdoknmmiaapaaDoor
open Go.RowKit

/-- The row so far, what is borrowed and what is carried. -/
def TakeR (s p : Nat → Nat) (m : Nat) (k hi c : Nat) (d : Nat → Nat) : Prop := c ≤ 1 ∧ hi * 4294967296 ^ k ≤ m * val p k ∧ val d k + m * val p k = val s k + (hi + c) * 4294967296 ^ k

theorem takeR_step {s p : Nat → Nat} {m k hi c lo hi' : Nat} (hs : s k < 4294967296) (hlo : lo < 4294967296) (hp : hi + p k * m = hi' * 4294967296 + lo) :
    ∀ d d', TakeR s p m k hi c d → (∀ j, k ≤ j → d j = s j) → (∀ j, j < k → d' j = d j) → d' k = subD (s k) lo c → TakeR s p m (k + 1) hi' (subB (s k) lo c) d' := by
  intro d d' h _ h2 h3
  obtain ⟨h0, hle, h1⟩ := h
  obtain ⟨e1, e2, e3⟩ := sub_spec hs hlo h0
  refine ⟨e2, ?_⟩
  rw [val, val, val, pow_succ32, val_congr k h2, h3]
  generalize subD (s k) lo c = D at *
  generalize subB (s k) lo c = B at *
  generalize 4294967296 ^ k = P at *
  generalize val d k = vd at *
  generalize val p k = vp at *
  generalize val s k = vs at *
  generalize s k = x at *
  generalize p k = y at *
  -- m * (vp + y*P) + vd + D*P = vs + x*P + (hi' + B) * (2^32 * P)
  have a1 : (x + B * 4294967296) * P = (D + lo + c) * P := by rw [e3]
  have a2 : (hi + y * m) * P = (hi' * 4294967296 + lo) * P := by rw [hp]
  have b1 : m * (vp + y * P) = m * vp + y * m * P := by rw [Nat.mul_add, ← Nat.mul_assoc, Nat.mul_comm m y]
  have b2 : (hi' + B) * (4294967296 * P) = hi' * 4294967296 * P + B * 4294967296 * P := by rw [Nat.add_mul, ← Nat.mul_assoc, ← Nat.mul_assoc]
  rw [Nat.add_mul] at a1 a2
  rw [Nat.add_mul, Nat.add_mul] at a1
  rw [Nat.add_mul (hi' * 4294967296)] at a2
  rw [Nat.add_mul] at h1
  rw [b1, b2]
  have b3 : hi' * (4294967296 * P) = hi' * 4294967296 * P := by rw [Nat.mul_assoc]
  rw [b3]
  constructor <;> omega

theorem mul_bound {y m : Nat} (hy : y < 4294967296) (hm : m < 4294967296) : y * m ≤ 18446744065119617025 := Nat.mul_le_mul (show y ≤ 4294967295 by omega) (show m ≤ 4294967295 by omega)

set_option maxHeartbeats 800000 in
set_option maxRecDepth 100000 in
theorem takeTimes_any (b off n cs : Nat) (s : Nat → Nat) (pa : Option Addr) (pn pc : Nat) (p : Nat → Nat) (m : Nat) (w : World) (hf : Free w b) (hc : Cells w .u32 b off n s)
    (hsl : ∀ j, j < n → s j < 4294967296) (hn : n ≤ 1000000) (hp : SlAt w .u32 4294967296 pa pn pc p) (hne : ∀ x, pa = some x → x.block ≠ b) (hm : m < 4294967296) :
    Calls Tryd.prog 80 #[.slice (some ⟨b, off, none⟩) n cs, .slice pa pn pc, .int .u32 m] w fun e w' => ∃ c hi, e = .returned (.bool (decide (0 < c))) ∧
      RowRel b off n s w w' n (TakeR s (fun j => if j < pn then p j else 0) m n hi c) := by
  have H0 := RowRel.start (R := TakeR s (fun j => if j < pn then p j else 0) m 0 0 0) hf hc hsl ⟨by omega, by simp, by simp [val]⟩
  have HNE := Lib.hid hne
  have HP := Lib.hid hp
  clear hf hc hsl hne hp
  go_enter Tryd.func80, Tryd.ntmps80
  go_wp2
  go_loopw [7, 8, 12] (fun pr c i wr => ∃ k hi cy : Nat, k ≤ n ∧ i = .int .i64 k ∧ cy ≤ 1 ∧ c = .int .u32 cy ∧ hi < 4294967296 ∧ pr = .int .u64 hi ∧ RowRel b off n s w wr k (TakeR s (fun j => if j < pn then p j else 0) m k hi cy))
    (fun _ _ i _ => n - (intOf i).toNat)
  case atStart => exact ⟨0, 0, 0, by omega, rfl, by omega, rfl, by omega, rfl, H0⟩
  case round =>
    obtain ⟨k, hi, cy, hk, rfl, hcy, rfl, hhi, rfl, hr⟩ := hrel
    by_cases hlt : k < n
    · obtain ⟨hck, hfk, hdl⟩ := hr.read hlt
      have hpw : SlAt wr .u32 4294967296 pa pn pc p := HP.out.wrote hr.1 HNE.out
      have hyl : (if k < pn then p k else 0) < 4294967296 := by
        split
        · exact hpw.2.2.1 k (by assumption)
        · omega
      have hla := limbAt_any pa pn pc p k wr hpw
      obtain ⟨pr, hpr⟩ : ∃ pr, hi + (if k < pn then p k else 0) * m = pr := ⟨_, rfl⟩
      have hprm := mul_bound hyl hm
      obtain ⟨lo, hlo⟩ : ∃ lo, pr % 4294967296 = lo := ⟨_, rfl⟩
      obtain ⟨hi', hhi'⟩ : ∃ hi', pr / 4294967296 = hi' := ⟨_, rfl⟩
      have hst := takeR_step (s := s) (p := fun j => if j < pn then p j else 0) (m := m) (k := k) (hi := hi) (c := cy) (lo := lo) (hi' := hi') hdl (by omega) (by show hi + (if k < pn then p k else 0) * m = _; rw [hpr]; omega)
      have hsu := fun W => sub32_any (s k) lo cy hdl (by omega) hcy W
      obtain ⟨hb1, hb2, hb3⟩ := sub_spec (x := s k) (y := lo) (c := cy) hdl (by omega) hcy
      generalize hD : subD (s k) lo cy = D at *
      generalize hB : subB (s k) lo cy = B at *
      have hrn : RowRel b off n s w (wr.setCell ⟨b, off + k, none⟩ (.int .u32 D)) (k + 1) (TakeR s (fun j => if j < pn then p j else 0) m (k + 1) hi' B) := hr.step hlt hb1 hst
      have hpl : pr < 18446744073709551616 := by omega
      have hhl : hi' < 4294967296 := by omega
      generalize (if k < pn then p k else 0) = y at *
      generalize s k = x at *
      have e1 : (hi : Int) + (y : Int) * (m : Int) = (pr : Int) := by rw [← hpr, Int.natCast_add, Int.natCast_mul]
      have e2 : (pr : Int) % 4294967296 = (lo : Int) := by omega
      have e3 : (pr : Int) / 4294967296 = (hi' : Int) := by omega
      have i1 : (y : Int) * (m : Int) ≤ 18446744065119617025 := by rw [← Int.natCast_mul]; omega
      have i0 : 0 ≤ (y : Int) * (m : Int) := by rw [← Int.natCast_mul]; omega
      have HLA := Lib.hid hla
      have HSU := Lib.hid hsu
      have HRN := Lib.hid hrn
      clear hla hsu hrn hpw hst hr hpr hlo hhi' hD hB hb3 hprm
      have hk0 : (0 : Int) ≤ (k : Int) := by omega
      have hkn : (k : Int) < (n : Int) := by omega
      have hkt : ((k : Int)).toNat = k := by omega
      go_wp2_with (first | (go_at_call 100; refine HLA.out.mono ?_; rintro e w1 ⟨rfl, rfl⟩) | (go_at_call 101; refine (HSU.out _).mono ?_; rintro e w1 ⟨rfl, rfl⟩))
      go_roundw
      case rel => exact ⟨k + 1, hi', B, by omega, by go_num, hb2, rfl, hhl, rfl, HRN.out⟩
      case measure => simp [intOf]; omega
    · obtain rfl : k = n := by omega
      have HR := Lib.hid hr
      clear hr
      go_wp2
      go_ret
      exact ⟨cy, hi, by simp, HR.out⟩

end Go.Proofs.YtkjdoknmmiaapaaDoor
