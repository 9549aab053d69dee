/-
  Package nat: takeDigit, by contract: the digit of the quotient; the rest is what is left.
-/
import Derived.Test.YtkjdoknmmiaapaaDoorNat4
import Derived.Test.YtkjdoknmmiaapaaDoorNat8
namespace Go.Proofs.YtkjdoknmmiaapaaDoor
open Go.RowKit

theorem val_pad (p : Nat → Nat) (n : Nat) : ∀ k, val (fun j => if j < n then p j else 0) k = val p (min k n)
  | 0 => by simp [val]
  | k + 1 => by
    rw [val, val_pad p n k]
    by_cases h : k < n
    · rw [if_pos h, Nat.min_eq_left (by omega), Nat.min_eq_left (by omega), val]
    · rw [if_neg h, Nat.min_eq_right (by omega), Nat.min_eq_right (by omega)]; omega

/-- What is left in the row once it is done: the number N. -/
def RowIs (b off n : Nat) (w w' : World) (N : Nat) : Prop := Wrote b off (off + n) w w' ∧ Free w' b ∧ ∃ d, Cells w' .u32 b off n d ∧ (∀ j, j < n → d j < 4294967296) ∧ val d n = N

theorem take_fits {R D g d hi c M : Nat} (h : d + g * D = R + (hi + c) * M) (hd : d < M) (hg : g * D ≤ R) : c = 0 ∧ d = R - g * D := by
  have : (hi + c) * M < 1 * M := by omega
  have := Nat.lt_of_mul_lt_mul_right this
  obtain ⟨rfl, rfl⟩ : hi = 0 ∧ c = 0 := by omega
  omega

theorem take_over {R D g d hi c M : Nat} (h : d + g * D = R + (hi + c) * M) (hc : c ≤ 1) (hh : hi * M ≤ g * D) (hM : g * D < M) (hg : ¬ g * D ≤ R) : c = 1 ∧ d = R + M - g * D := by
  have : hi * M < 1 * M := by omega
  have := Nat.lt_of_mul_lt_mul_right this
  obtain rfl : hi = 0 := by omega
  rcases Nat.eq_zero_or_pos c with h0 | h0
  · subst h0; omega
  · obtain rfl : c = 1 := by omega
    omega

theorem digit_is {R D g : Nat} (hD : 0 < D) (h : GuessOk R D g) : (g * D ≤ R → g = R / D ∧ R - g * D = R % D) ∧ (¬ g * D ≤ R → 1 ≤ g ∧ g - 1 = R / D ∧ R - (g - 1) * D = R % D) := by
  obtain ⟨h1, h2, h3⟩ := h
  have e := Nat.div_add_mod R D
  have hm := Nat.mod_lt R hD
  constructor
  · intro h
    have : g = R / D := Nat.le_antisymm ((Nat.le_div_iff_mul_le hD).2 h) h2
    subst this
    rw [Nat.mul_comm] at e
    exact ⟨rfl, by omega⟩
  · intro h
    have hlt : R / D < g := by
      rcases Nat.lt_or_ge (R / D) g with h' | h'
      · exact h'
      · exact absurd (Nat.le_trans (Nat.mul_le_mul_right D h') (Nat.div_mul_le_self R D)) h
    have : g - 1 = R / D := Nat.le_antisymm ((Nat.le_div_iff_mul_le hD).2 h3) (by omega)
    rw [this]
    rw [Nat.mul_comm] at e
    exact ⟨by omega, rfl, by omega⟩

theorem RowRel.toIs {b off n : Nat} {s : Nat → Nat} {w wr : World} {k : Nat} {R : (Nat → Nat) → Prop} {N : Nat} (h : RowRel b off n s w wr k R) (hN : ∀ d, (∀ j, j < n → d j < 4294967296) → R d → val d n = N) : RowIs b off n w wr N := by
  obtain ⟨h1, h2, d, h3, h4, _, h6⟩ := h
  exact ⟨h1, h2, d, h3, h4, hN d h4 h6⟩

theorem SlAt.drawn {w w' : World} {ki : IntKind} {m : Nat} {a : Option Addr} {n c : Nat} {f : Nat → Nat} (h : SlAt w ki m a n c f) (hd : Drawn w w') : SlAt w' ki m a n c f := by
  obtain ⟨q, rfl⟩ := hd; exact h
theorem Wrote.of_drawn {k lo hi : Nat} {a b : World} (hd : Drawn a b) : Wrote k lo hi a b := by
  obtain ⟨q, rfl⟩ := hd; exact (Wrote.refl _ _ _ _).drewN q

set_option maxHeartbeats 800000 in
set_option maxRecDepth 100000 in
theorem takeDigit_any (rb ro rc : Nat) (ba : Option Addr) (bc m n : Nat) (r d : Nat → Nat) (w : World) (hn : n = m + 2) (hr : SlAt w .u32 4294967296 (some ⟨rb, ro, none⟩) (n + 1) rc r) (hf : Free w rb)
    (hd : SlAt w .u32 4294967296 ba n bc d) (hne : ∀ x, ba = some x → x.block ≠ rb) (htop : 0 < d (n - 1)) (hlt : val r (n + 1) < val d n * 4294967296) :
    Calls Tryd.prog 104 #[.slice (some ⟨rb, ro, none⟩) (n + 1) rc, .slice ba n bc] w fun e w' => ∃ q : Nat, e = .returned (.int .u32 q) ∧ q < 4294967296 ∧ q = val r (n + 1) / val d n ∧
      RowIs rb ro (n + 1) w w' (val r (n + 1) % val d n) := by
  obtain ⟨bb, bo, rfl, _, _⟩ := hd.at (by omega)
  have hnl : n + 1 ≤ 1000000 := by have := hr.1; have := hr.2.1; omega
  have hrc : Cells w .u32 rb ro (n + 1) r := fun j hj => (hr.cell hj).1
  have hrs : ∀ j, j < n + 1 → r j < 4294967296 := hr.2.2.1
  have hD0 : 0 < val d n := by
    rcases Nat.eq_zero_or_pos (val d n) with h | h
    · rw [h] at hlt; omega
    · exact h
  have hDl : val d n < 4294967296 ^ n := val_lt d n hd.2.2.1
  have hpad : val (fun j => if j < n then d j else 0) (n + 1) = val d n := by rw [val_pad, Nat.min_eq_right (by omega)]
  have hgu := guess_any rb ro rc bb bo bc m (m + 1) n r d w rfl hn hr hd (by rw [show m + 1 = n - 1 by omega]; exact htop) hlt
  obtain ⟨R, hR⟩ : ∃ R, val r (n + 1) = R := ⟨_, rfl⟩
  obtain ⟨D, hD⟩ : ∃ D, val d n = D := ⟨_, rfl⟩
  rw [hR, hD] at hgu ⊢
  rw [hD] at hpad hD0 hDl
  obtain ⟨DV, hDV⟩ : ∃ q, R / D = q := ⟨_, rfl⟩
  obtain ⟨MO, hMO⟩ : ∃ q, R % D = q := ⟨_, rfl⟩
  rw [hDV, hMO]
  have hrb : rb < w.heap.size := by
    obtain ⟨b, o, e, h, _⟩ := hr.at (by omega)
    simp only [Option.some.injEq, Addr.mk.injEq, and_true] at e
    rw [e.1]; exact h
  have hbb : bb < w.heap.size := by
    obtain ⟨b, o, e, h, _⟩ := hd.at (by omega)
    simp only [Option.some.injEq, Addr.mk.injEq, and_true] at e
    rw [e.1]; exact h
  obtain ⟨N1, hN1⟩ : ∃ N1, n + 1 = N1 := ⟨_, rfl⟩
  have hsz : val r N1 = R := by rw [← hN1]; exact hR
  have hpow : 4294967296 * 4294967296 ^ n = 4294967296 ^ N1 := by rw [← hN1, pow_succ32]
  have HT1 : ∀ (g : Nat) (w1 : World), Drawn w w1 → g < 4294967296 → Calls Tryd.prog 80 #[.slice (some ⟨rb, ro, none⟩) N1 rc, .slice (some ⟨bb, bo, none⟩) n bc, .int .u32 g] w1 fun e w' =>
      ∃ c hi, e = .returned (.bool (decide (0 < c))) ∧ RowRel rb ro N1 r w1 w' N1 (TakeR r (fun j => if j < n then d j else 0) g N1 hi c) := by
    intro g w1 h1 hg
    rw [← hN1]
    exact takeTimes_any rb ro (n + 1) rc r (some ⟨bb, bo, none⟩) n bc d g w1 (hf.wrote (Wrote.of_drawn (k := rb) (lo := 0) (hi := 0) h1) hrb) (hrc.wrote (Wrote.of_drawn (k := rb) (lo := 0) (hi := 0) h1) hrb (fun _ j _ => .inr (by omega))) hrs (by omega) (hd.drawn h1) hne hg
  have hg1 : ∀ g c hi dd, g * D ≤ R → (∀ j, j < N1 → dd j < 4294967296) → TakeR r (fun j => if j < n then d j else 0) g N1 hi c dd → c = 0 ∧ val dd N1 = R - g * D := by
    intro g c hi dd h1 h2 ⟨_, h3, h4⟩
    rw [← hN1, hpad, hN1, hsz] at h4
    exact take_fits h4 (val_lt dd N1 h2) h1
  have hg2 : ∀ g c hi dd, g < 4294967296 → ¬ g * D ≤ R → TakeR r (fun j => if j < n then d j else 0) g N1 hi c dd → c = 1 ∧ val dd N1 = R + 4294967296 ^ N1 - g * D := by
    intro g c hi dd h0 h1 ⟨h2, h3, h4⟩
    rw [← hN1, hpad, hN1] at h3
    rw [← hN1, hpad, hN1, hsz] at h4
    refine take_over h4 h2 h3 ?_ h1
    rw [← hpow]
    exact Nat.lt_of_le_of_lt (Nat.mul_le_mul_right D (show g ≤ 4294967295 by omega)) (by omega)
  have HA : ∀ (s2 : Nat → Nat) (w2 : World) (bnd : ∀ j, j < N1 → s2 j < 4294967296), Cells w2 .u32 rb ro N1 s2 → Free w2 rb → Wrote rb ro (ro + N1) w w2 → Calls Tryd.prog 82 #[.slice (some ⟨rb, ro, none⟩) N1 rc, .slice (some ⟨bb, bo, none⟩) n bc] w2 fun e w' =>
      e = .returned (.tuple #[]) ∧ ∃ c, RowRel rb ro N1 s2 w2 w' N1 (AddR s2 (fun j => if j < n then d j else 0) N1 c) := by
    intro s2 w2 bnd h1 h2 h3
    refine addTo_any rb ro N1 rc s2 (some ⟨bb, bo, none⟩) n bc d w2 h2 h1 bnd (by omega) (hd.wrote h3 hne) hne
  have hM : D < 4294967296 ^ N1 := by rw [← hpow]; omega
  have hdig := fun g (h : GuessOk R D g) => digit_is hD0 h
  rw [hDV, hMO] at hdig
  have hRl : R < 4294967296 ^ N1 := by rw [← hsz, ← hN1]; exact val_lt r (n + 1) hrs
  have HT1' := Lib.hid HT1
  have hg1' := Lib.hid hg1
  have hg2' := Lib.hid hg2
  have HA' := Lib.hid HA
  have hdig' := Lib.hid hdig
  have hM' := Lib.hid hM
  have hRl' := Lib.hid hRl
  have hpad' := Lib.hid hpad
  have hN1' := Lib.hid hN1
  have hf' := Lib.hid hf
  rw [hN1] at hgu
  have HGU := Lib.hid hgu
  rw [hN1]
  clear HT1 hg1 hg2 HA hdig hM hRl hpad hN1 hf hgu hr hd hne htop hlt hrc hrs hD0 hDl hR hD hDV hMO hsz hpow hn hrb hbb
  go_enter Tryd.func104, Tryd.ntmps104
  go_wp2_with (go_at_call 110; refine HGU.out.mono ?_; rintro e w1 ⟨g, rfl, hG, hdr⟩)
  have hgB := hG.1
  by_cases hle : g * D ≤ R
  · obtain ⟨e1, e2⟩ := (hdig'.out g hG).1 hle
    have HT : Calls Tryd.prog 80 #[.slice (some ⟨rb, ro, none⟩) N1 rc, .slice (some ⟨bb, bo, none⟩) n bc, .int .u32 g] w1 fun e w' => e = .returned (.bool false) ∧ RowIs rb ro N1 w w' MO := by
      refine (HT1'.out g w1 hdr hgB).mono ?_
      rintro e w2 ⟨c, hi, rfl, hr2⟩
      have hc := fun dd hb hR => (hg1'.out g c hi dd hle hb hR)
      have hc0 : c = 0 := by
        obtain ⟨_, _, dd, _, hb, _, hR⟩ := hr2
        exact (hc dd hb hR).1
      have h := hr2.toIs (N := R - g * D) (fun dd hb hR => (hc dd hb hR).2)
      rw [e2] at h
      exact ⟨by rw [hc0]; rfl, (Wrote.of_drawn hdr).trans h.1, h.2⟩
    have HT2 := Lib.hid HT
    have e1' := Lib.hid e1
    clear hG hdr hle e1 HT e2
    go_wp2_with (go_at_call 80; refine HT2.out.mono ?_; rintro e w2 ⟨rfl, hr2⟩)
    go_ret
    exact ⟨g, rfl, hgB, e1'.out, hr2⟩
  · obtain ⟨e0, e1, e2⟩ := (hdig'.out g hG).2 hle
    have HT : Calls Tryd.prog 80 #[.slice (some ⟨rb, ro, none⟩) N1 rc, .slice (some ⟨bb, bo, none⟩) n bc, .int .u32 g] w1 fun e w' => e = .returned (.bool true) ∧ RowIs rb ro N1 w w' (R + 4294967296 ^ N1 - g * D) := by
      refine (HT1'.out g w1 hdr hgB).mono ?_
      rintro e w2 ⟨c, hi, rfl, hr2⟩
      have hc := fun dd hR => (hg2'.out g c hi dd hgB hle hR)
      have hc0 : c = 1 := by
        obtain ⟨_, _, dd, _, hb, _, hR⟩ := hr2
        exact (hc dd hR).1
      have h := hr2.toIs (N := R + 4294967296 ^ N1 - g * D) (fun dd hb hR => (hc dd hR).2)
      exact ⟨by rw [hc0]; rfl, (Wrote.of_drawn hdr).trans h.1, h.2⟩
    have HT2 := Lib.hid HT
    have hg0' := Lib.hid hG.2.2
    have hle' := Lib.hid hle
    have e1' := Lib.hid e1
    have e2' := Lib.hid e2
    clear hG hdr hle e1 HT e2
    go_wp2_with (go_at_call 80; refine HT2.out.mono ?_; rintro e w2 ⟨rfl, hr2⟩)
    obtain ⟨hw2, hf2, dd, hcd, hbd, hval⟩ := hr2
    have HAD := HA'.out dd w2 hbd hcd hf2 hw2
    have HAD' := Lib.hid HAD
    have hval' := Lib.hid hval
    have hww' := Lib.hid hw2
    clear HAD hval hbd hcd hf2 hw2
    go_wp2_with (go_at_call 82; refine HAD'.out.mono ?_; rintro e w3 ⟨rfl, c2, hr3⟩)
    have HIS : RowIs rb ro N1 w w3 MO := by
      have h := hr3.toIs (N := MO) (fun d3 hb3 hR3 => by
        obtain ⟨hc2, h4⟩ := hR3
        have hp := hpad'.out
        rw [hN1'.out] at hp
        rw [hp, hval'.out] at h4
        have hd3 := val_lt d3 N1 hb3
        have hgm : g * D = (g - 1) * D + D := by
          obtain ⟨x, rfl⟩ : ∃ x, g = x + 1 := ⟨g - 1, by omega⟩
          rw [Nat.add_sub_cancel, Nat.add_mul, Nat.one_mul]
        have := hg0'.out
        have := hle'.out
        have := hM'.out
        have := hRl'.out
        rw [← e2'.out]
        rcases Nat.eq_zero_or_pos c2 with h0 | h0
        · subst h0; omega
        · obtain rfl : c2 = 1 := by omega
          omega)
      exact ⟨hww'.out.trans h.1, h.2⟩
    have HIS' := Lib.hid HIS
    clear hr3 HIS
    go_wp2
    go_ret
    have := e1'.out
    exact ⟨g - 1, ret_int (by omega), by omega, this, HIS'.out⟩

end Go.Proofs.YtkjdoknmmiaapaaDoor
