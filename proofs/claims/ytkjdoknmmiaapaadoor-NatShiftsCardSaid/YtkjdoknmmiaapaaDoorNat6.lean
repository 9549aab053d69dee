/-
  Package nat: addTimes, shiftUp, shiftDown, by contract.
-/
import Derived.Test.YtkjdoknmmiaapaaDoorNat5
namespace Go.Proofs.YtkjdoknmmiaapaaDoor
open Go.RowKit

def MulR (s p : Nat → Nat) (m k c : Nat) (d : Nat → Nat) : Prop := val d k + c * 4294967296 ^ k = val s k + m * val p k

theorem mulR_step {s p : Nat → Nat} {m k c c' lo : Nat} (hp : c + (p k * m + s k) = c' * 4294967296 + lo) :
    ∀ d d', MulR s p m k c d → (∀ j, j ≠ k → d' j = d j) → d' k = lo → MulR s p m (k + 1) c' d' := by
  intro d d' h h2 h3
  unfold MulR at *
  rw [val, val, val, pow_succ32, val_congr k (f := d') (g := d) (fun j hj => h2 j (by omega)), h3]
  generalize 4294967296 ^ k = P at *
  generalize val d k = vd at *
  generalize val p k = vp at *
  generalize val s k = vs at *
  generalize s k = x at *
  generalize p k = y at *
  have a2 : (c + (y * m + x)) * P = (c' * 4294967296 + lo) * P := by rw [hp]
  have b1 : m * (vp + y * P) = m * vp + y * m * P := by rw [Nat.mul_add, ← Nat.mul_assoc, Nat.mul_comm m y]
  rw [Nat.add_mul, Nat.add_mul, Nat.add_mul, Nat.mul_assoc c'] at a2
  rw [b1]
  omega

def MulEnd (s p : Nat → Nat) (m k : Nat) (d : Nat → Nat) : Prop := val d (k + 1) = val s k + m * val p k

theorem mul_bound' {y m : Nat} (hy : y < 4294967296) (hm : m < 4294967296) : y * m ≤ 18446744065119617025 := Nat.mul_le_mul (show y ≤ 4294967295 by omega) (show m ≤ 4294967295 by omega)

set_option maxHeartbeats 800000 in
set_option maxRecDepth 100000 in
theorem addTimes_any (b off n cs : Nat) (s : Nat → Nat) (pa : Option Addr) (pn pc : Nat) (p : Nat → Nat) (m : Nat) (w : World) (hf : Free w b) (hc : Cells w .u32 b off n s)
    (hsl : ∀ j, j < n → s j < 4294967296) (hn : n ≤ 1000000) (hp : SlAt w .u32 4294967296 pa pn pc p) (hne : ∀ x, pa = some x → x.block ≠ b) (hm : m < 4294967296) (hpn : pn < n) :
    Calls Tryd.prog 85 #[.slice (some ⟨b, off, none⟩) n cs, .slice pa pn pc, .int .u32 m] w fun e w' => e = .returned (.tuple #[]) ∧
      RowU b off n s w w' (fun j => pn < j) (MulEnd s p m pn) := by
  have H0 := RowU.start (U := fun j => 0 ≤ j) (R := MulR s p m 0 0) hf hc hsl (by simp [MulR, val])
  have HNE := Lib.hid hne
  have HP := Lib.hid hp
  clear hf hc hsl hne hp
  go_enter Tryd.func85, Tryd.ntmps85
  go_wp2
  go_loopw [6, 10] (fun pr i wr => ∃ k c : Nat, k ≤ pn ∧ i = .int .i64 k ∧ c < 4294967296 ∧ pr = .int .u64 c ∧ RowU b off n s w wr (fun j => k ≤ j) (MulR s p m k c))
    (fun _ i _ => pn - (intOf i).toNat)
  case atStart => exact ⟨0, 0, by omega, rfl, by omega, rfl, H0⟩
  case round =>
    obtain ⟨k, c, hk, rfl, hc, rfl, hr⟩ := hrel
    by_cases hlt : k < pn
    · obtain ⟨hck, hfk, hdl⟩ := hr.read (show k < n by omega) (Nat.le_refl _)
      have hpw : SlAt wr .u32 4294967296 pa pn pc p := HP.out.wrote hr.1 HNE.out
      obtain ⟨b2, o2, rfl, hb2, hcp, hyl⟩ := hpw.limb hlt
      obtain ⟨pr, hpr⟩ : ∃ pr, c + (p k * m + s k) = pr := ⟨_, rfl⟩
      have hprm := mul_bound' hyl hm
      obtain ⟨lo, hlo⟩ : ∃ lo, pr % 4294967296 = lo := ⟨_, rfl⟩
      obtain ⟨c', hc'⟩ : ∃ c', pr / 4294967296 = c' := ⟨_, rfl⟩
      have hst := mulR_step (s := s) (p := p) (m := m) (k := k) (c := c) (c' := c') (lo := lo) (by rw [hpr]; omega)
      have hrn : RowU b off n s w (wr.setCell ⟨b, off + k, none⟩ (.int .u32 lo)) (fun j => k + 1 ≤ j) (MulR s p m (k + 1) c') := hr.step (show k < n by omega) (by omega) (fun j hj => by omega) hst
      have hpl : pr < 18446744073709551616 := by omega
      have hcl : c' < 4294967296 := by omega
      generalize p k = y at *
      generalize s k = x at *
      have e0 : (y : Int) * (m : Int) + (x : Int) = ((y * m + x : Nat) : Int) := by rw [Int.natCast_add, Int.natCast_mul]
      have e1 : (c : Int) + ((y : Int) * (m : Int) + (x : Int)) = (pr : Int) := by rw [← hpr, Int.natCast_add, Int.natCast_add, Int.natCast_mul]
      have e2 : (pr : Int) % 4294967296 = (lo : Int) := by omega
      have e3 : (pr : Int) / 4294967296 = (c' : Int) := by omega
      have i1 : (y : Int) * (m : Int) ≤ 18446744065119617025 := by rw [← Int.natCast_mul]; omega
      have i0 : 0 ≤ (y : Int) * (m : Int) := by rw [← Int.natCast_mul]; omega
      have HRN := Lib.hid hrn
      clear hrn hpw hst hr hpr hlo hc' hprm e0
      have hk0 : (0 : Int) ≤ (k : Int) := by omega
      have hkn : (k : Int) < (n : Int) := by omega
      have hkp : (k : Int) < (pn : Int) := by omega
      have hkt : ((k : Int)).toNat = k := by omega
      go_wp2_with fail
      go_quiet (fail)
      go_wp2
      go_roundw
      case rel => exact ⟨k + 1, c', by omega, by go_num, hcl, rfl, HRN.out.drewN _⟩
      case measure => simp [intOf]; omega
    · obtain rfl : k = pn := by omega
      obtain ⟨hck, hfk, hdl⟩ := hr.read (show k < n by omega) (Nat.le_refl _)
      have hrn : RowU b off n s w (wr.setCell ⟨b, off + k, none⟩ (.int .u32 c)) (fun j => k < j) (MulEnd s p m k) :=
        hr.step (show k < n by omega) hc (fun j hj => by omega) (fun d d' h h2 h3 => by
          unfold MulR at h
          unfold MulEnd
          rw [val, val_congr k (f := d') (g := d) (fun j hj => h2 j (by omega)), h3]; exact h)
      have HR := Lib.hid hrn
      have e2 : (c : Int) % 4294967296 = (c : Int) := by omega
      clear hr hrn hdl
      go_wp2
      go_end0
      exact ⟨rfl, HR.out⟩

end Go.Proofs.YtkjdoknmmiaapaaDoor
