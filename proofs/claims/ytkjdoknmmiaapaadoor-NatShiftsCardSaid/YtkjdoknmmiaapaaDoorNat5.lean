/-
  Package nat: divideBy (a row by a limb, in place), by contract.
-/
import Derived.Test.YtkjdoknmmiaapaaDoorNat2
import Derived.Test.YtkjdoknmmiaapaaDoorNat3
namespace Go.Proofs.YtkjdoknmmiaapaaDoor
open Go.RowKit

/-- The part of the number that the limbs from m on are. -/
def seg (f : Nat → Nat) (m : Nat) : Nat → Nat
  | 0 => 0
  | n + 1 => if m ≤ n then seg f m n + f n * 4294967296 ^ n else 0

theorem seg_self (f : Nat → Nat) (m : Nat) : ∀ n, n ≤ m → seg f m n = 0
  | 0, _ => rfl
  | n + 1, h => by rw [seg, if_neg (by omega)]

theorem seg_zero (f : Nat → Nat) : ∀ n, seg f 0 n = val f n
  | 0 => rfl
  | n + 1 => by rw [seg, if_pos (by omega), seg_zero f n, val]

theorem seg_head (f : Nat → Nat) (m : Nat) : ∀ n, m < n → seg f m n = f m * 4294967296 ^ m + seg f (m + 1) n
  | 0, h => by omega
  | n + 1, h => by
    by_cases e : m = n
    · subst e; rw [seg, if_pos (by omega), seg_self f m m (by omega), seg_self f (m + 1) (m + 1) (by omega)]; omega
    · rw [seg, if_pos (by omega), seg_head f m n (by omega), seg, if_pos (by omega)]; omega

theorem seg_congr {f g : Nat → Nat} (m : Nat) : ∀ n, (∀ j, m ≤ j → j < n → f j = g j) → seg f m n = seg g m n
  | 0, _ => rfl
  | n + 1, h => by
    rw [seg, seg]
    split
    · rw [seg_congr m n (fun j h1 h2 => h j h1 (by omega)), h n (by assumption) (by omega)]
    · rfl

theorem val_seg (f : Nat → Nat) (m : Nat) : ∀ n, m ≤ n → val f n = val f m + seg f m n
  | 0, h => by obtain rfl : m = 0 := by omega
               rfl
  | n + 1, h => by
    by_cases e : m = n + 1
    · subst e; rw [seg_self f _ _ (Nat.le_refl _)]; rfl
    · rw [val, val_seg f m n (by omega), seg, if_pos (by omega)]; omega

/-- A row in the making: where U holds it is still as it was. -/
def RowU (b off n : Nat) (s : Nat → Nat) (w wr : World) (U : Nat → Prop) (R : (Nat → Nat) → Prop) : Prop :=
  Wrote b off (off + n) w wr ∧ Free wr b ∧ ∃ d, Cells wr .u32 b off n d ∧ (∀ j, j < n → d j < 4294967296) ∧ (∀ j, U j → d j = s j) ∧ R d

theorem RowU.start {b off n : Nat} {s : Nat → Nat} {w : World} {U : Nat → Prop} {R : (Nat → Nat) → Prop} (hf : Free w b) (hc : Cells w .u32 b off n s) (hs : ∀ j, j < n → s j < 4294967296) (hr : R s) : RowU b off n s w w U R :=
  ⟨Wrote.refl _ _ _ _, hf, s, hc, hs, fun _ _ => rfl, hr⟩

theorem RowU.step {b off n : Nat} {s : Nat → Nat} {w wr : World} {t r : Nat} {U U' : Nat → Prop} {R R' : (Nat → Nat) → Prop} (h : RowU b off n s w wr U R) (ht : t < n) (hr : r < 4294967296) (hU : ∀ j, U' j → U j ∧ j ≠ t)
    (hR : ∀ d d', R d → (∀ j, j ≠ t → d' j = d j) → d' t = r → R' d') : RowU b off n s w (wr.setCell ⟨b, off + t, none⟩ (.int .u32 r)) U' R' := by
  obtain ⟨h1, h2, d, h3, h4, h5, h6⟩ := h
  refine ⟨h1.setCell (by omega) (by omega) _, h2.set _ _, _, h3.set ht, fun j hj => ?_, fun j hj => ?_, hR d _ h6 (fun j hj => ?_) (by simp)⟩
  · split; · exact hr
    · exact h4 j hj
  · rw [if_neg (hU j hj).2]; exact h5 j (hU j hj).1
  · rw [if_neg hj]

theorem RowU.drew {b off n : Nat} {s : Nat → Nat} {w wr : World} {U : Nat → Prop} {R : (Nat → Nat) → Prop} (h : RowU b off n s w wr U R) : RowU b off n s w wr.drew U R :=
  ⟨h.1.drew, h.2.1, h.2.2⟩
theorem RowU.drewN {b off n : Nat} {s : Nat → Nat} {w wr : World} {U : Nat → Prop} {R : (Nat → Nat) → Prop} (h : RowU b off n s w wr U R) (q : Nat) : RowU b off n s w (wr.drewN q) U R :=
  ⟨h.1.drewN q, h.2.1, h.2.2⟩

theorem RowU.read {b off n : Nat} {s : Nat → Nat} {w wr : World} {t : Nat} {U : Nat → Prop} {R : (Nat → Nat) → Prop} (h : RowU b off n s w wr U R) (ht : t < n) (hU : U t) :
    wr.cell? ⟨b, off + t, none⟩ = some (.int .u32 (s t)) ∧ wr.frozen? ⟨b, off + t, none⟩ = false ∧ s t < 4294967296 := by
  obtain ⟨h1, h2, d, h3, h4, h5, h6⟩ := h
  have e := h5 t hU
  exact ⟨by rw [← e]; exact h3 t ht, h2 _, by rw [← e]; exact h4 t ht⟩

def DivR (s : Nat → Nat) (n m k rest : Nat) (d : Nat → Nat) : Prop := m * seg d (n - k) n + rest * 4294967296 ^ (n - k) = seg s (n - k) n

theorem divR_step {s : Nat → Nat} {n m k rest : Nat} (hk : k < n) : ∀ d d', DivR s n m k rest d → (∀ j, j ≠ n - 1 - k → d' j = d j) → d' (n - 1 - k) = (rest * 4294967296 + s (n - 1 - k)) / m →
    DivR s n m (k + 1) ((rest * 4294967296 + s (n - 1 - k)) % m) d' := by
  intro d d' h h1 h2
  unfold DivR at *
  obtain ⟨t, rfl⟩ : ∃ t, n = t + 1 + k := ⟨n - 1 - k, by omega⟩
  have e1 : t + 1 + k - k = t + 1 := by omega
  have e2 : t + 1 + k - (k + 1) = t := by omega
  have e3 : t + 1 + k - 1 - k = t := by omega
  rw [e3] at h1 h2 ⊢
  rw [e1] at h
  rw [e2, seg_head s t _ (by omega), seg_head d' t _ (by omega), h2, seg_congr (t + 1) (t + 1 + k) (f := d') (g := d) (fun j hj _ => h1 j (by omega)), ← h, pow_succ32]
  have e := Nat.div_add_mod (rest * 4294967296 + s t) m
  generalize (rest * 4294967296 + s t) / m = q at *
  generalize (rest * 4294967296 + s t) % m = r at *
  generalize 4294967296 ^ t = P at *
  generalize seg d (t + 1) (t + 1 + k) = S at *
  have a1 : (m * q + r) * P = (rest * 4294967296 + s t) * P := by rw [e]
  have a2 : m * (q * P + S) = m * q * P + m * S := by rw [Nat.mul_add, Nat.mul_assoc]
  have a3 : rest * (4294967296 * P) = rest * 4294967296 * P := by rw [Nat.mul_assoc]
  rw [Nat.add_mul, Nat.add_mul] at a1
  rw [a2, a3]; omega

def DivEnd (s : Nat → Nat) (n m r : Nat) (d : Nat → Nat) : Prop := m * val d n + r = val s n

set_option maxHeartbeats 800000 in
set_option maxRecDepth 100000 in
theorem divideBy_any (b off n cs : Nat) (s : Nat → Nat) (m : Nat) (w : World) (hf : Free w b) (hc : Cells w .u32 b off n s) (hsl : ∀ j, j < n → s j < 4294967296) (hn : n ≤ 1000000) (hm : m < 4294967296) (hm0 : 0 < m) :
    Calls Tryd.prog 74 #[.slice (some ⟨b, off, none⟩) n cs, .int .u32 m] w fun e w' => ∃ r : Nat, e = .returned (.int .u32 r) ∧ r < m ∧
      RowU b off n s w w' (fun _ => False) (DivEnd s n m r) := by
  have H0 := RowU.start (U := fun j => j < n - 0) (R := DivR s n m 0 0) hf hc hsl (by unfold DivR; simp [seg_self])
  clear hf hc hsl
  go_enter Tryd.func74, Tryd.ntmps74
  go_wp2
  go_loopw [5, 11] (fun r i wr => ∃ k rest : Nat, k ≤ n ∧ i = .int .i64 k ∧ rest < m ∧ r = .int .u32 rest ∧ RowU b off n s w wr (fun j => j < n - k) (DivR s n m k rest))
    (fun _ i _ => n - (intOf i).toNat)
  case atStart => exact ⟨0, 0, by omega, rfl, by omega, rfl, H0⟩
  case round =>
    obtain ⟨k, rest, hk, rfl, hrest, rfl, hr⟩ := hrel
    by_cases hlt : k < n
    · obtain ⟨t, ht⟩ : ∃ t, n - 1 - k = t := ⟨_, rfl⟩
      have htn : t < n := by omega
      obtain ⟨hck, hfk, hdl⟩ := hr.read htn (by omega)
      have hdv := fun W => div32_any rest (s t) m hrest hdl hm W
      have hst := divR_step (s := s) (m := m) (rest := rest) hlt
      have hql := div_lt_32 hrest hdl
      have hrl := Nat.mod_lt (rest * 4294967296 + s t) hm0
      rw [ht] at hst
      generalize hq : (rest * 4294967296 + s t) / m = q at *
      generalize hrr : (rest * 4294967296 + s t) % m = r at *
      have hrn : RowU b off n s w (wr.setCell ⟨b, off + t, none⟩ (.int .u32 q)) (fun j => j < n - (k + 1)) (DivR s n m (k + 1) r) := hr.step htn hql (fun j hj => by omega) hst
      generalize s t = x at *
      have HDV := Lib.hid hdv
      have HRN := Lib.hid hrn
      have e1 : (n : Int) - 1 - (k : Int) = (t : Int) := by omega
      have ht0 : (0 : Int) ≤ (t : Int) := by omega
      have htn' : (t : Int) < (n : Int) := by omega
      have htt : ((t : Int)).toNat = t := by omega
      clear hdv hrn hst hr hq hrr ht
      go_wp2_with (go_at_call 95; refine (HDV.out _).mono ?_; rintro e w1 ⟨rfl, nq, rfl⟩)
      go_roundw
      case rel => exact ⟨k + 1, r, by omega, by go_num, hrl, rfl, HRN.out.drewN nq⟩
      case measure => simp [intOf]; omega
    · obtain rfl : k = n := by omega
      have HR : RowU b off k s w wr (fun _ => False) (DivEnd s k m rest) := by
        obtain ⟨a1, a2, d, a3, a4, a5, a6⟩ := hr
        refine ⟨a1, a2, d, a3, a4, fun _ h => h.elim, ?_⟩
        unfold DivR at a6
        unfold DivEnd
        simpa [seg_zero] using a6
      have HRH := Lib.hid HR
      clear hr HR
      go_wp2
      go_ret
      exact ⟨rest, rfl, hrest, HRH.out⟩

end Go.Proofs.YtkjdoknmmiaapaaDoor
