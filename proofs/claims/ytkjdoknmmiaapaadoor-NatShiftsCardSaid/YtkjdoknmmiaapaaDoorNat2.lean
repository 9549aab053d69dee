/-
  Package nat, the loops that write into a row of their own: addTo, takeTimes, addTimes, divideBy, by contract.
-/
import Derived.Test.YtkjdoknmmiaapaaDoorNat1
import Derived.BigRegion
import Derived.RegionTactic
import Derived.Deep.RegionWith
import Derived.StillTailTactics
namespace Go.Proofs.YtkjdoknmmiaapaaDoor
open Go.RowKit

/-- One step of an addition. -/
theorem add_step (s p d : Nat → Nat) (k c : Nat) (h : val d k + c * 4294967296 ^ k = val s k + val p k) (hd : d k = (s k + p k + c) % 4294967296) :
    val d (k + 1) + ((s k + p k + c) / 4294967296) * 4294967296 ^ (k + 1) = val s (k + 1) + val p (k + 1) := by
  rw [val, val, val, hd, pow_succ32]
  have e := Nat.div_add_mod (s k + p k + c) 4294967296
  generalize (s k + p k + c) / 4294967296 = q at e ⊢
  generalize (s k + p k + c) % 4294967296 = r at e ⊢
  generalize 4294967296 ^ k = P at h ⊢
  have e2 : (4294967296 * q + r) * P = (s k + p k + c) * P := by rw [e]
  have e3 : (4294967296 * q + r) * P = q * (4294967296 * P) + r * P := by rw [Nat.add_mul, Nat.mul_comm 4294967296 q, Nat.mul_assoc]
  have e4 : (s k + p k + c) * P = s k * P + p k * P + c * P := by rw [Nat.add_mul, Nat.add_mul]
  omega

/-- What holds at the head of round k of a loop that fills a row. -/
def RowRel (b off n : Nat) (s : Nat → Nat) (w wr : World) (k : Nat) (R : (Nat → Nat) → Prop) : Prop :=
  Wrote b off (off + n) w wr ∧ Free wr b ∧ ∃ d, Cells wr .u32 b off n d ∧ (∀ j, j < n → d j < 4294967296) ∧ (∀ j, k ≤ j → d j = s j) ∧ R d

theorem RowRel.start {b off n : Nat} {s : Nat → Nat} {w : World} {R : (Nat → Nat) → Prop} (hf : Free w b) (hc : Cells w .u32 b off n s) (hs : ∀ j, j < n → s j < 4294967296) (hr : R s) : RowRel b off n s w w 0 R :=
  ⟨Wrote.refl _ _ _ _, hf, s, hc, hs, fun _ _ => rfl, hr⟩

/-- The row with r at k: the next round's head. -/
theorem RowRel.step {b off n : Nat} {s : Nat → Nat} {w wr : World} {k r : Nat} {R R' : (Nat → Nat) → Prop} (h : RowRel b off n s w wr k R) (hk : k < n) (hr : r < 4294967296)
    (hR : ∀ d d', R d → (∀ j, k ≤ j → d j = s j) → (∀ j, j < k → d' j = d j) → d' k = r → R' d') : RowRel b off n s w (wr.setCell ⟨b, off + k, none⟩ (.int .u32 r)) (k + 1) R' := by
  obtain ⟨h1, h2, d, h3, h4, h5, h6⟩ := h
  refine ⟨h1.setCell (by omega) (by omega) _, h2.set _ _, _, h3.set hk, fun j hj => ?_, fun j hj => ?_, hR d _ h6 h5 (fun j hj => ?_) (by simp)⟩
  · split; · exact hr
    · exact h4 j hj
  · rw [if_neg (by omega)]; exact h5 j (by omega)
  · rw [if_neg (by omega)]

theorem RowRel.drew {b off n : Nat} {s : Nat → Nat} {w wr : World} {k : Nat} {R : (Nat → Nat) → Prop} (h : RowRel b off n s w wr k R) : RowRel b off n s w wr.drew k R :=
  ⟨h.1.drew, h.2.1, h.2.2⟩

/-- What round k reads. -/
theorem RowRel.read {b off n : Nat} {s : Nat → Nat} {w wr : World} {k : Nat} {R : (Nat → Nat) → Prop} (h : RowRel b off n s w wr k R) (hk : k < n) :
    wr.cell? ⟨b, off + k, none⟩ = some (.int .u32 (s k)) ∧ wr.frozen? ⟨b, off + k, none⟩ = false ∧ s k < 4294967296 := by
  obtain ⟨h1, h2, d, h3, h4, h5, h6⟩ := h
  have e := h5 k (Nat.le_refl _)
  exact ⟨by rw [← e]; exact h3 k hk, h2 _, by rw [← e]; exact h4 k hk⟩

def AddR (s p : Nat → Nat) (k c : Nat) (d : Nat → Nat) : Prop := c ≤ 1 ∧ val d k + c * 4294967296 ^ k = val s k + val p k
theorem addR_step {s p : Nat → Nat} {k c : Nat} (hs : s k < 4294967296) (hp : p k < 4294967296) : ∀ d d', AddR s p k c d → (∀ j, k ≤ j → d j = s j) → (∀ j, j < k → d' j = d j) → d' k = (s k + p k + c) % 4294967296 → AddR s p (k + 1) ((s k + p k + c) / 4294967296) d' := by
  intro d d' h _ h2 h3
  refine ⟨by have := h.1; omega, add_step s p d' k c ?_ h3⟩
  rw [val_congr k h2]; exact h.2

set_option maxHeartbeats 400000 in
set_option maxRecDepth 100000 in
theorem addTo_any (b off n cs : Nat) (s : Nat → Nat) (pa : Option Addr) (pn pc : Nat) (p : Nat → Nat) (w : World) (hf : Free w b) (hc : Cells w .u32 b off n s)
    (hsl : ∀ j, j < n → s j < 4294967296) (hn : n ≤ 1000000) (hp : SlAt w .u32 4294967296 pa pn pc p) (hne : ∀ x, pa = some x → x.block ≠ b) :
    Calls Tryd.prog 82 #[.slice (some ⟨b, off, none⟩) n cs, .slice pa pn pc] w fun e w' => e = .returned (.tuple #[]) ∧
      ∃ c, RowRel b off n s w w' n (AddR s (fun j => if j < pn then p j else 0) n c) := by
  have H0 := RowRel.start (R := AddR s (fun j => if j < pn then p j else 0) 0 0) hf hc hsl ⟨by omega, by simp [val]⟩
  have HNE := Lib.hid hne
  have HP := Lib.hid hp
  clear hf hc hsl hne hp
  go_enter Tryd.func82, Tryd.ntmps82
  go_wp2
  go_loopw [4, 8] (fun c i wr => ∃ k cy : Nat, k ≤ n ∧ i = .int .i64 k ∧ cy ≤ 1 ∧ c = .int .u32 cy ∧ RowRel b off n s w wr k (AddR s (fun j => if j < pn then p j else 0) k cy))
    (fun _ i _ => n - (intOf i).toNat)
  case atStart => exact ⟨0, 0, by omega, rfl, by omega, rfl, H0⟩
  case round =>
    obtain ⟨k, cy, hk, rfl, hcy, rfl, hr⟩ := hrel
    by_cases hlt : k < n
    · obtain ⟨hck, hfk, hdl⟩ := hr.read hlt
      have hpw : SlAt wr.drew .u32 4294967296 pa pn pc p := HP.out.wrote hr.1.drew HNE.out
      have hyl : (if k < pn then p k else 0) < 4294967296 := by
        split
        · exact hpw.2.2.1 k (by assumption)
        · omega
      have hla := limbAt_any pa pn pc p k wr.drew hpw
      have hst := addR_step (s := s) (p := fun j => if j < pn then p j else 0) (k := k) (c := cy) hdl hyl
      obtain ⟨r, hr1⟩ : ∃ r, (s k + (if k < pn then p k else 0) + cy) % 4294967296 = r := ⟨_, rfl⟩
      obtain ⟨q, hq1⟩ : ∃ q, (s k + (if k < pn then p k else 0) + cy) / 4294967296 = q := ⟨_, rfl⟩
      have had := fun W => add32_any (s k) (if k < pn then p k else 0) cy hdl hyl hcy W
      rw [hr1, hq1] at had
      simp only [hr1, hq1] at hst
      have hrn : RowRel b off n s w ((wr.setCell ⟨b, off + k, none⟩ (.int .u32 r)).drew) (k + 1) (AddR s (fun j => if j < pn then p j else 0) (k + 1) q) := (hr.step hlt (by omega) hst).drew
      have hq2 : q ≤ 1 := by omega
      generalize (if k < pn then p k else 0) = y at *
      generalize s k = x at *
      have HLA := Lib.hid hla
      have HAD := Lib.hid had
      have HRN := Lib.hid hrn
      clear hla had hrn hpw hst hr hr1 hq1
      have hk0 : (0 : Int) ≤ (k : Int) := by omega
      have hkn : (k : Int) < (n : Int) := by omega
      have hkt : ((k : Int)).toNat = k := by omega
      go_wp2_with fail
      go_region_with (first | (go_at_call 100; refine HLA.out.mono ?_; rintro e w1 ⟨rfl, rfl⟩) | (go_at_call 102; refine (HAD.out _).mono ?_; rintro e w1 ⟨rfl, rfl⟩))
      all_goals
        go_wp2
        go_roundw
        case rel => exact ⟨k + 1, q, by omega, by go_num, hq2, rfl, HRN.out⟩
        case measure => simp [intOf]; omega
    · obtain rfl : k = n := by omega
      have HR := Lib.hid hr
      clear hr
      go_wp2
      go_end0
      exact ⟨rfl, cy, HR.out⟩

end Go.Proofs.YtkjdoknmmiaapaaDoor
