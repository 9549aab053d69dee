/-
  Package nat: shiftUp, shiftDown, by contract.
-/
import Derived.IntWalk
import Derived.Test.YtkjdoknmmiaapaaDoorNat5
import Derived.StillTailTactics
namespace Go.Proofs.YtkjdoknmmiaapaaDoor
open Go.RowKit

def UpR (s : Nat → Nat) (by_ k c : Nat) (d : Nat → Nat) : Prop := val d k + c * 4294967296 ^ k = val s k * 2 ^ by_

theorem two32 {u : Nat} (hu : u < 32) : 2 ^ (32 - u) * 2 ^ u = 4294967296 := by
  rw [← Nat.pow_add, show 32 - u + u = 32 by omega]

theorem up_limb {x c u : Nat} (hx : x < 4294967296) (hu : u < 32) (hc : c < 2 ^ u) :
    ((x : Int) / 2 ^ (32 - u) = ((x / 2 ^ (32 - u) : Nat) : Int)) ∧ x / 2 ^ (32 - u) < 2 ^ u ∧ bits .or .u32 ((x : Int) * 2 ^ u % 4294967296) c = ((x * 2 ^ u % 4294967296 + c : Nat) : Int) ∧
      x * 2 ^ u % 4294967296 + c < 4294967296 ∧ x * 2 ^ u + c = x / 2 ^ (32 - u) * 4294967296 + (x * 2 ^ u % 4294967296 + c) := by
  have h2 := two32 hu
  have hp : 0 < 2 ^ u := Nat.two_pow_pos u
  have hd : x * 2 ^ u / 4294967296 = x / 2 ^ (32 - u) := by
    rw [← h2]; exact Nat.mul_div_mul_right _ _ hp
  have hm : x * 2 ^ u % 4294967296 % 2 ^ u = 0 := by
    rw [Nat.mod_mod_of_dvd _ ⟨2 ^ (32 - u), by rw [Nat.mul_comm]; exact h2.symm⟩]; exact Nat.mul_mod_left _ _
  have hl : x * 2 ^ u % 4294967296 < 4294967296 := Nat.mod_lt _ (by omega)
  have hcl : c < 4294967296 := Nat.lt_of_lt_of_le hc (by rw [← h2]; exact Nat.le_mul_of_pos_left _ (Nat.two_pow_pos _))
  have hs : x * 2 ^ u % 4294967296 + c < 4294967296 := by
    obtain ⟨q, hq⟩ : ∃ q, x * 2 ^ u % 4294967296 = q * 2 ^ u := ⟨_, (Nat.div_mul_cancel (Nat.dvd_of_mod_eq_zero hm)).symm⟩
    rw [hq] at hl ⊢
    rw [← h2] at hl ⊢
    have : q < 2 ^ (32 - u) := Nat.lt_of_mul_lt_mul_right hl
    have : (q + 1) * 2 ^ u ≤ 2 ^ (32 - u) * 2 ^ u := Nat.mul_le_mul_right _ this
    rw [Nat.add_mul] at this
    omega
  refine ⟨?_, ?_, ?_, hs, ?_⟩
  · simp
  · rw [Nat.div_lt_iff_lt_mul (Nat.two_pow_pos _), Nat.mul_comm, h2]; exact hx
  · have e : (x : Int) * 2 ^ u % 4294967296 = ((x * 2 ^ u % 4294967296 : Nat) : Int) := by simp
    rw [e, u32_or_nat _ _ hl hcl, nat_join u _ _ hm hc]
  · rw [← hd]; omega

theorem upR_step {s : Nat → Nat} {u k c c' lo : Nat} (hp : s k * 2 ^ u + c = c' * 4294967296 + lo) :
    ∀ d d', UpR s u k c d → (∀ j, j ≠ k → d' j = d j) → d' k = lo → UpR s u (k + 1) c' d' := by
  intro d d' h h2 h3
  unfold UpR at *
  rw [val, val, pow_succ32, val_congr k (f := d') (g := d) (fun j hj => h2 j (by omega)), h3]
  generalize 4294967296 ^ k = P at *
  generalize 2 ^ u = U at *
  generalize s k = x at *
  have a : (x * U + c) * P = (c' * 4294967296 + lo) * P := by rw [hp]
  rw [Nat.add_mul, Nat.add_mul, Nat.mul_assoc c'] at a
  have b : (val s k + x * P) * U = val s k * U + x * U * P := by rw [Nat.add_mul, Nat.mul_assoc, Nat.mul_comm P U, ← Nat.mul_assoc]
  rw [b]; omega

set_option maxHeartbeats 800000 in
set_option maxRecDepth 100000 in
theorem shiftUp_any (b off n cs : Nat) (s : Nat → Nat) (u : Nat) (w : World) (hf : Free w b) (hc : Cells w .u32 b off n s)
    (hsl : ∀ j, j < n → s j < 4294967296) (hn : n ≤ 1000000) (hu : u < 32) :
    Calls Tryd.prog 87 #[.slice (some ⟨b, off, none⟩) n cs, .int .i64 u] w fun e w' => e = .returned (.tuple #[]) ∧
      ∃ c, Hid (c < 2 ^ u) ∧ RowU b off n s w w' (fun j => n ≤ j) (UpR s u n c) := by
  have H0 := RowU.start (U := fun j => 0 ≤ j) (R := UpR s u 0 0) hf hc hsl (by simp [UpR, val])
  clear hf hc hsl
  have hu0 : (0 : Int) ≤ (u : Int) := by omega
  go_enter Tryd.func87, Tryd.ntmps87
  go_wp2
  go_loopw [4, 8] (fun pr i wr => ∃ k c : Nat, k ≤ n ∧ i = .int .i64 k ∧ Hid (c < 2 ^ u) ∧ pr = .int .u32 c ∧ RowU b off n s w wr (fun j => k ≤ j) (UpR s u k c))
    (fun _ i _ => n - (intOf i).toNat)
  case atStart => exact ⟨0, 0, by omega, rfl, Nat.two_pow_pos u, rfl, H0⟩
  case round =>
    obtain ⟨k, c, hk, rfl, hc, rfl, hr⟩ := hrel
    by_cases hlt : k < n
    · obtain ⟨hck, hfk, hdl⟩ := hr.read hlt (Nat.le_refl _)
      obtain ⟨u1, u2, u3, u4, u5⟩ := up_limb hdl hu hc.out
      have hst := upR_step (s := s) (u := u) (k := k) (c := c) u5
      have hrn := hr.step hlt u4 (U' := fun j => k + 1 ≤ j) (fun j hj => by omega) hst
      have HU1 := Lib.hid u1
      have HU2 := Lib.hid u2
      have HU3 := Lib.hid u3
      have HRN := Lib.hid hrn
      clear u1 u2 u3 u4 u5 hst hrn hr
      generalize s k = x at *
      have hk0 : (0 : Int) ≤ (k : Int) := by omega
      have hkn : (k : Int) < (n : Int) := by omega
      have hkt : ((k : Int)).toNat = k := by omega
      go_wp2_with fail
      go_region
      go_wp2
      go_roundw
      case rel =>
        rw [HU1.out, HU3.out]
        exact ⟨k + 1, _, by omega, by go_num, HU2.out, rfl, HRN.out.drew⟩
      case measure => simp [intOf]; omega
    · obtain rfl : k = n := by omega
      have HR := Lib.hid hr
      clear hr
      go_wp2
      go_end0
      exact ⟨rfl, c, hc, HR.out⟩

/-- The limb that is shifted down into from the next one. -/
def nxt (s : Nat → Nat) (n k : Nat) : Nat := if k + 1 < n then s (k + 1) else 0

def DownR (s : Nat → Nat) (n u k : Nat) (d : Nat → Nat) : Prop := ∀ j, j < k → d j = s j / 2 ^ u + nxt s n j * 2 ^ (32 - u) % 4294967296

theorem down_limb {x y u : Nat} (hx : x < 4294967296) (hu : u < 32) :
    ((x : Int) / 2 ^ u = ((x / 2 ^ u : Nat) : Int)) ∧ bits .or .u32 ((x : Int) / 2 ^ u) ((y : Int) * 2 ^ (32 - u) % 4294967296) = ((x / 2 ^ u + y * 2 ^ (32 - u) % 4294967296 : Nat) : Int) ∧
      x / 2 ^ u + y * 2 ^ (32 - u) % 4294967296 < 4294967296 := by
  have h2 := two32 hu
  have hp : 0 < 2 ^ (32 - u) := Nat.two_pow_pos _
  have hm : y * 2 ^ (32 - u) % 4294967296 % 2 ^ (32 - u) = 0 := by
    rw [Nat.mod_mod_of_dvd _ ⟨2 ^ u, h2.symm⟩]; exact Nat.mul_mod_left _ _
  have hl : y * 2 ^ (32 - u) % 4294967296 < 4294967296 := Nat.mod_lt _ (by omega)
  have hx2 : x / 2 ^ u < 2 ^ (32 - u) := by rw [Nat.div_lt_iff_lt_mul (Nat.two_pow_pos _), h2]; exact hx
  have hxl : x / 2 ^ u < 4294967296 := Nat.lt_of_le_of_lt (Nat.div_le_self _ _) hx
  have hs : y * 2 ^ (32 - u) % 4294967296 + x / 2 ^ u < 4294967296 := by
    obtain ⟨q, hq⟩ : ∃ q, y * 2 ^ (32 - u) % 4294967296 = q * 2 ^ (32 - u) := ⟨_, (Nat.div_mul_cancel (Nat.dvd_of_mod_eq_zero hm)).symm⟩
    rw [hq] at hl ⊢
    rw [← h2, Nat.mul_comm (2 ^ (32 - u))] at hl ⊢
    have : q < 2 ^ u := Nat.lt_of_mul_lt_mul_right hl
    have : (q + 1) * 2 ^ (32 - u) ≤ 2 ^ u * 2 ^ (32 - u) := Nat.mul_le_mul_right _ this
    rw [Nat.add_mul] at this
    omega
  have e1 : (x : Int) / 2 ^ u = ((x / 2 ^ u : Nat) : Int) := by simp
  refine ⟨e1, ?_, by omega⟩
  have e : (y : Int) * 2 ^ (32 - u) % 4294967296 = ((y * 2 ^ (32 - u) % 4294967296 : Nat) : Int) := by simp
  rw [e1, e, u32_or_nat _ _ hxl hl, Nat.or_comm, nat_join (32 - u) _ _ hm hx2, Nat.add_comm]

set_option maxHeartbeats 800000 in
set_option maxRecDepth 100000 in
theorem shiftDown_any (b off n cs : Nat) (s : Nat → Nat) (u : Nat) (w : World) (hb : b < w.heap.size) (hnc : n ≤ cs) (hcc : cs ≤ 1000000) (hf : Free w b) (hc : Cells w .u32 b off n s)
    (hsl : ∀ j, j < n → s j < 4294967296) (hu : u < 32) :
    Calls Tryd.prog 88 #[.slice (some ⟨b, off, none⟩) n cs, .int .i64 u] w fun e w' => e = .returned (.tuple #[]) ∧
      RowU b off n s w w' (fun j => n ≤ j) (DownR s n u n) := by
  have H0 := RowU.start (U := fun j => 0 ≤ j) (R := DownR s n u 0) hf hc hsl (fun j hj => by omega)
  clear hf hc hsl
  have hu0 : (0 : Int) ≤ (u : Int) := by omega
  go_enter Tryd.func88, Tryd.ntmps88
  go_wp2
  go_loopw [7] (fun i wr => ∃ k : Nat, k ≤ n ∧ i = .int .i64 k ∧ RowU b off n s w wr (fun j => k ≤ j) (DownR s n u k))
    (fun i _ => n - (intOf i).toNat)
  case atStart => exact ⟨0, by omega, rfl, H0⟩
  case round =>
    obtain ⟨k, hk, rfl, hr⟩ := hrel
    by_cases hlt : k < n
    · obtain ⟨hck, hfk, hdl⟩ := hr.read hlt (Nat.le_refl _)
      obtain ⟨u1, u2, u3⟩ := down_limb (y := nxt s n k) hdl hu
      have hrn := hr.step hlt u3 (U' := fun j => k + 1 ≤ j) (R' := DownR s n u (k + 1)) (fun j hj => by omega) (fun d d' h h2 h3 j hj => by
        by_cases e : j = k
        · subst e; exact h3
        · rw [h2 j e]; exact h j (by omega))
      obtain ⟨dd, hdc, hdl2, hdu⟩ : ∃ dd, Cells wr .u32 b off n dd ∧ (∀ j, j < n → dd j < 4294967296) ∧ (∀ j, k ≤ j → dd j = s j) := by
        obtain ⟨a1, a2, d, a3, a4, a5, a6⟩ := hr
        exact ⟨d, a3, a4, a5⟩
      have hsl : SlAt wr.drew .u32 4294967296 (some ⟨b, off, none⟩) n cs dd := ⟨hnc, by omega, hdl2, .inr ⟨b, off, rfl, Nat.lt_of_lt_of_le hb hr.1.size, hdc⟩⟩
      have hla := limbAt_any (some ⟨b, off, none⟩) n cs dd (k + 1) wr.drew hsl
      have hnx : (if k + 1 < n then dd (k + 1) else 0) = nxt s n k := by unfold nxt; rw [hdu (k + 1) (by omega)]
      rw [hnx, Int.natCast_add, Int.natCast_one] at hla
      generalize nxt s n k = y at *
      have HLA := Lib.hid hla
      have HU2 := Lib.hid u2
      have HRN := Lib.hid hrn
      clear u1 u2 u3 hrn hr hla hnx hsl hdc hdl2 hdu
      generalize s k = x at *
      have hk0 : (0 : Int) ≤ (k : Int) := by omega
      have hkn : (k : Int) < (n : Int) := by omega
      have hkt : ((k : Int)).toNat = k := by omega
      go_wp2_with fail
      have hw1 : IntKind.i64.wrap ((k : Int) + 1) = (k : Int) + 1 := IntWalk.i64_in _ (by omega)
      have hw2 : IntKind.i64.wrap (32 - (u : Int)) = 32 - (u : Int) := IntWalk.i64_in _ (by omega)
      refine wp_region_still_tail 17 (by kernel_rfl) (by kernel_rfl) ?_
      simp only [List.take_succ_cons, List.take_zero, List.drop_succ_cons, List.drop_zero]
      repeat still_step
      still_call (HLA.out.mono fun _ _ ⟨h1, h2⟩ => ⟨h1, h2.symm⟩)
      repeat still_step
      refine wpStill_nil ?_
      change wpList _ _ _ _ _ wr.drew
      clear hw1 hw2
      go_wp2
      go_roundw
      case rel =>
        rw [HU2.out]
        exact ⟨k + 1, by omega, by go_num, HRN.out.drew⟩
      case measure => simp [intOf]; omega
    · obtain rfl : k = n := by omega
      have HR := Lib.hid hr
      clear hr
      go_wp2
      go_end0
      exact ⟨rfl, HR.out⟩

end Go.Proofs.YtkjdoknmmiaapaaDoor
