/-
  Package nat: guessDigit, by contract: the digit, or one more.
-/
import Derived.IntWalk
import Derived.Test.YtkjdoknmmiaapaaDoorNat5
namespace Go.Proofs.YtkjdoknmmiaapaaDoor
open Go.RowKit

theorem guess_start {P rl dl A r2 b1 b2 q R D : Nat} (hrl : rl < P) (hr2 : r2 < 4294967296) (hR : R = rl + (A * 4294967296 + r2) * P) (hD : D = dl + (b1 * 4294967296 + b2) * P)
    (hq : q * D ≤ R) : q * b1 ≤ A := by
  have h0 : b1 * (4294967296 * P) ≤ D := by
    rw [hD, Nat.add_mul, Nat.mul_assoc]; omega
  have h1 : (q * b1) * (4294967296 * P) ≤ q * D := by
    rw [Nat.mul_assoc]; exact Nat.mul_le_mul_left _ h0
  have h2 : R < (A + 1) * (4294967296 * P) := by
    have : (A * 4294967296 + r2 + 1) * P ≤ ((A + 1) * 4294967296) * P := Nat.mul_le_mul_right _ (by omega)
    rw [Nat.add_mul _ 1 P, Nat.mul_assoc (A + 1)] at this
    omega
  have h3 : (q * b1) * (4294967296 * P) < (A + 1) * (4294967296 * P) := by omega
  have := Nat.lt_of_mul_lt_mul_right h3
  omega

theorem guess_step {P rl dl A r2 b1 b2 q R D g left : Nat} (hrl : rl < P) (hR : R = rl + (A * 4294967296 + r2) * P) (hD : D = dl + (b1 * 4294967296 + b2) * P)
    (hq : q * D ≤ R) (hg : g * b1 + left = A) (hc : left * 4294967296 + r2 < g * b2) : q + 1 ≤ g := by
  rcases Nat.lt_or_ge q g with h | h
  · exact h
  · exfalso
    have h0 : g * D ≤ R := Nat.le_trans (Nat.mul_le_mul_right _ h) hq
    have h1 : (g * (b1 * 4294967296 + b2)) * P ≤ g * D := by
      rw [Nat.mul_assoc]; exact Nat.mul_le_mul_left _ (by omega)
    have h2 : R < (A * 4294967296 + r2 + 1) * P := by rw [Nat.add_mul _ 1 P]; omega
    have h3 := Nat.lt_of_mul_lt_mul_right (Nat.lt_of_le_of_lt (Nat.le_trans h1 h0) h2)
    rw [Nat.mul_add, ← Nat.mul_assoc] at h3
    generalize g * b1 = u at *
    generalize g * b2 = v at *
    omega

theorem guess_end {P rl dl A r2 b1 b2 R D g left : Nat} (hdl : dl < P) (hR : R = rl + (A * 4294967296 + r2) * P) (hD : D = dl + (b1 * 4294967296 + b2) * P) (hb : 0 < b1) (hgB : g < 4294967296)
    (hg : g * b1 + left = A) (hc : g * b2 ≤ left * 4294967296 + r2) : (g - 1) * D ≤ R := by
  cases g with
  | zero => simp
  | succ h =>
    have e : h + 1 - 1 = h := rfl
    rw [e]
    have h1 : (h + 1) * D ≤ ((h + 1) * (b1 * 4294967296 + b2) + (h + 1)) * P := by
      rw [hD, Nat.add_mul ((h + 1) * _), Nat.mul_add (h + 1) dl, Nat.mul_assoc (h + 1) _ P]
      have : (h + 1) * dl ≤ (h + 1) * P := Nat.mul_le_mul_left _ (by omega)
      omega
    have h2 : (h + 1) * (b1 * 4294967296 + b2) ≤ A * 4294967296 + r2 := by
      rw [Nat.mul_add, ← Nat.mul_assoc]
      generalize (h + 1) * b1 = u at *
      generalize (h + 1) * b2 = v at *
      omega
    have h3 : (h + 1) * D = h * D + D := by rw [Nat.add_mul]; omega
    have h4 : ((h + 1) * (b1 * 4294967296 + b2) + (h + 1)) * P ≤ (A * 4294967296 + r2 + b1 * 4294967296) * P := Nat.mul_le_mul_right _ (by omega)
    have h5 : (A * 4294967296 + r2 + b1 * 4294967296) * P = (A * 4294967296 + r2) * P + b1 * 4294967296 * P := by rw [Nat.add_mul _ (b1 * _)]
    have h6 : b1 * 4294967296 * P ≤ D := by rw [hD, Nat.add_mul _ b2]; omega
    omega

theorem top_le {P rl dl rn r1 r2 b1 b2 R D : Nat} (hdl : dl < P) (hb2 : b2 < 4294967296) (hR : R = rl + ((rn * 4294967296 + r1) * 4294967296 + r2) * P) (hD : D = dl + (b1 * 4294967296 + b2) * P)
    (h : R < D * 4294967296) : rn ≤ b1 := by
  have h1 : (rn * 4294967296 * 4294967296) * P ≤ R := by
    rw [hR, Nat.add_mul (rn * _), Nat.add_mul _ r2, Nat.add_mul (rn * _ * _)]; omega
  have h2 : D < (b1 + 1) * 4294967296 * P := by
    have : (b1 * 4294967296 + b2 + 1) * P ≤ (b1 + 1) * 4294967296 * P := Nat.mul_le_mul_right _ (by omega)
    rw [Nat.add_mul _ 1 P] at this; omega
  have h3 : (rn * 4294967296 * 4294967296) * P < ((b1 + 1) * 4294967296 * 4294967296) * P := by
    rw [Nat.mul_assoc ((b1 + 1) * 4294967296), Nat.mul_comm 4294967296 P, ← Nat.mul_assoc]; omega
  have := Nat.lt_of_mul_lt_mul_right h3
  omega

theorem val_top3 (f : Nat → Nat) (m : Nat) : val f (m + 3) = val f m + ((f (m + 2) * 4294967296 + f (m + 1)) * 4294967296 + f m) * 4294967296 ^ m := by
  rw [val, val, val, pow_succ32 (m + 1), pow_succ32 m, Nat.add_mul _ (f m), Nat.add_mul (f (m + 2) * 4294967296), Nat.add_mul (f (m + 2) * 4294967296 * 4294967296)]
  rw [Nat.mul_assoc (f (m + 2) * 4294967296), Nat.mul_assoc (f (m + 2)), Nat.mul_assoc (f (m + 1))]
  omega
theorem val_top2 (f : Nat → Nat) (m : Nat) : val f (m + 2) = val f m + (f (m + 1) * 4294967296 + f m) * 4294967296 ^ m := by
  rw [val, val, pow_succ32, Nat.add_mul _ (f m), Nat.mul_assoc (f (m + 1))]
  omega

theorem vint {k : IntKind} {a b : Int} (h : a = b) : Value.int k a = Value.int k b := by rw [h]

/-- What a guess is good for. -/
def GuessOk (R D g : Nat) : Prop := g < 4294967296 ∧ R / D ≤ g ∧ (g - 1) * D ≤ R

def GInv (R D A b1 g left : Nat) : Prop := g * b1 + left = A ∧ R / D ≤ g ∧ left < 8589934592

theorem gEnd {R D P rl dl A r2 b1 b2 g left : Nat} (hdl : dl < P) (hR : R = rl + (A * 4294967296 + r2) * P) (hD : D = dl + (b1 * 4294967296 + b2) * P) (hb : 0 < b1) (hb2 : b2 < 4294967296) (hA : A < (b1 + 1) * 4294967296)
    (h : GInv R D A b1 g left) (hc : 4294967296 ≤ left ∨ (g < 4294967296 ∧ g * b2 ≤ left * 4294967296 + r2)) : GuessOk R D g := by
  obtain ⟨h1, h2, h3⟩ := h
  have hg : g < 4294967296 := by
    rcases hc with hc | hc
    · have : g * b1 < 4294967296 * b1 := by rw [Nat.add_mul] at hA; omega
      exact Nat.lt_of_mul_lt_mul_right this
    · exact hc.1
  refine ⟨hg, h2, guess_end hdl hR hD hb hg h1 ?_⟩
  rcases hc with hc | hc
  · have : g * b2 ≤ 4294967296 * 4294967296 := Nat.mul_le_mul (by omega) (by omega)
    omega
  · exact hc.2

theorem SlAt.cell {w : World} {b off n c : Nat} {f : Nat → Nat} (h : SlAt w .u32 4294967296 (some ⟨b, off, none⟩) n c f) {k : Nat} (hk : k < n) : w.cell? ⟨b, off + k, none⟩ = some (.int .u32 (f k)) ∧ f k < 4294967296 := by
  obtain ⟨b', off', e, _, h3, h4⟩ := h.limb hk
  simp only [Option.some.injEq, Addr.mk.injEq, and_true] at e
  obtain ⟨rfl, rfl⟩ := e
  exact ⟨h3, h4⟩

/-- The world as it was but for draws. -/
def Drawn (w w' : World) : Prop := ∃ q, w' = w.drewN q
theorem Drawn.refl (w : World) : Drawn w w := ⟨0, rfl⟩
theorem Drawn.more {w w' : World} (h : Drawn w w') (q : Nat) : Drawn w (w'.drewN q) := by
  obtain ⟨a, rfl⟩ := h
  exact ⟨a + q, by rw [World.drewN_drewN]⟩
theorem Drawn.cell {w w' : World} (h : Drawn w w') (a : Addr) : w'.cell? a = w.cell? a := by
  obtain ⟨q, rfl⟩ := h; rfl

set_option maxHeartbeats 1600000 in
set_option maxRecDepth 100000 in
theorem guess_any (rb ro rc bb bo bc m n1 n : Nat) (r d : Nat → Nat) (w : World) (hn1 : n1 = m + 1) (hn : n = m + 2) (hr : SlAt w .u32 4294967296 (some ⟨rb, ro, none⟩) (n + 1) rc r) (hd : SlAt w .u32 4294967296 (some ⟨bb, bo, none⟩) n bc d)
    (htop : 0 < d n1) (hlt : val r (n + 1) < val d n * 4294967296) :
    Calls Tryd.prog 110 #[.slice (some ⟨rb, ro, none⟩) (n + 1) rc, .slice (some ⟨bb, bo, none⟩) n bc] w fun e w' => ∃ g : Nat, e = .returned (.int .u32 g) ∧ GuessOk (val r (n + 1)) (val d n) g ∧ Drawn w w' := by
  have hml : n ≤ 1000000 := by have := hr.1; have := hr.2.1; omega
  obtain ⟨c3, l3⟩ := hr.cell (show n < n + 1 by omega)
  obtain ⟨c2, l2⟩ := hr.cell (show n1 < n + 1 by omega)
  obtain ⟨c1, l1⟩ := hr.cell (show m < n + 1 by omega)
  obtain ⟨k2, j2⟩ := hd.cell (show n1 < n by omega)
  obtain ⟨k1, j1⟩ := hd.cell (show m < n by omega)
  have hR : val r (n + 1) = val r m + ((r n * 4294967296 + r n1) * 4294967296 + r m) * 4294967296 ^ m := by rw [hn, hn1]; exact val_top3 r m
  have hD : val d n = val d m + (d n1 * 4294967296 + d m) * 4294967296 ^ m := by rw [hn, hn1]; exact val_top2 d m
  have hrl : val r m < 4294967296 ^ m := val_lt r m (fun j hj => hr.2.2.1 j (by omega))
  have hdl : val d m < 4294967296 ^ m := val_lt d m (fun j hj => hd.2.2.1 j (by omega))
  have e1 : (n : Int) - 1 = (n1 : Int) := by omega
  have e2 : (n : Int) - 2 = (m : Int) := by omega
  have i1 : (n1 : Int) < (n : Int) := by omega
  have i2 : (m : Int) < (n : Int) := by omega
  have i3 : (n : Int) < (n : Int) + 1 := by omega
  have i4 : (n1 : Int) < (n : Int) + 1 := by omega
  have i5 : (m : Int) < (n : Int) + 1 := by omega
  clear hr hd hn hn1
  generalize val r (n + 1) = R at *
  generalize val d n = D at *
  generalize val r m = rl at *
  generalize val d m = dl at *
  generalize 4294967296 ^ m = P at *
  generalize hrn : r n = x3 at *
  generalize hrn1 : r n1 = x2 at *
  generalize hrm : r m = x1 at *
  generalize hdn1 : d n1 = y2 at *
  generalize hdm : d m = y1 at *
  clear hrn hrn1 hrm hdn1 hdm
  have hx : x3 ≤ y2 := top_le hdl j1 hR hD hlt
  obtain ⟨A, hA⟩ : ∃ A, x3 * 4294967296 + x2 = A := ⟨_, rfl⟩
  rw [hA] at hR
  have hor : bits .or .u64 ((x3 : Int) * 4294967296) x2 = (A : Int) := by
    rw [← hA]
    have := u64_or_nat (x3 * 4294967296) x2 (by omega) (by omega)
    rw [nat_join 32 _ _ (by simp) (by omega)] at this
    rw [← this]; simp
  have hAl : A < (y2 + 1) * 4294967296 := by omega
  have hAu : A < 18446744073709551616 := by omega
  have h0 : GInv R D A y2 (A / y2) (A % y2) := by
    refine ⟨by rw [Nat.mul_comm]; exact Nat.div_add_mod A y2, ?_, by have := Nat.mod_lt A htop; omega⟩
    rw [Nat.le_div_iff_mul_le htop]
    exact guess_start hrl l1 hR hD (Nat.div_mul_le_self R D)
  have HR := Lib.hid hR
  have HD := Lib.hid hD
  have HRL := Lib.hid hrl
  have HDL := Lib.hid hdl
  have HT := Lib.hid htop
  have hlt' := Lib.hid hlt
  have HAL := Lib.hid hAl
  have hy0 : ((y2 : Int) == 0) = false := by simp; omega
  have hyne : ¬ (y2 : Int) = 0 := by omega
  have hdi : IntKind.u64.wrap ((A : Int).tdiv (y2 : Int)) = ((A / y2 : Nat) : Int) := by
    have t1 : (A : Int).tdiv y2 = ((A / y2 : Nat) : Int) := by simp [Int.tdiv]
    have := Nat.div_le_self A y2
    rw [t1, IntKind.wrap_u64]
    generalize A / y2 = q at *
    omega
  have hmo : (A : Int).tmod (y2 : Int) = ((A % y2 : Nat) : Int) := by simp [Int.tmod]
  have hdi' : IntKind.u64.wrap ((A : Int) / (y2 : Int)) = ((A / y2 : Nat) : Int) := by
    have := Nat.div_le_self A y2
    rw [← Int.natCast_ediv, IntKind.wrap_u64]
    generalize A / y2 = q at *
    omega
  have hmo' : (A : Int) % (y2 : Int) = ((A % y2 : Nat) : Int) := by simp
  have hgA : A / y2 * y2 ≤ A := Nat.div_mul_le_self A y2
  generalize A / y2 = g0 at *
  generalize A % y2 = t0 at *
  have hgl : g0 < 18446744073709551616 := by
    have : g0 ≤ A := Nat.le_trans (Nat.le_mul_of_pos_right _ htop) hgA
    omega
  clear hlt hR hD hrl hdl hA hAl htop
  go_enter Tryd.func110, Tryd.ntmps110
  go_wp2
  go_quiet (fail)
  clear hor
  go_wp2
  go_quiet (fail)
  go_wp2
  go_loopw [7, 8] (fun g t wr => ∃ gn tn : Nat, g = .int .u64 gn ∧ t = .int .u64 tn ∧ gn < 18446744073709551616 ∧ GInv R D A y2 gn tn ∧ Drawn w wr)
    (fun g _ _ => (intOf g).toNat)
  case atStart => exact ⟨g0, t0, rfl, rfl, hgl, h0, ((Drawn.refl w).more _).more _⟩
  case round =>
    obtain ⟨g, t, rfl, rfl, hgl, hinv, hdr⟩ := hrel
    have hq1 := hdr.cell ⟨rb, ro + m, none⟩
    have hq2 := hdr.cell ⟨bb, bo + n1, none⟩
    have hq3 := hdr.cell ⟨bb, bo + m, none⟩
    rw [c1] at hq1
    rw [k2] at hq2
    rw [k1] at hq3
    have htl := hinv.2.2
    by_cases ht : t < 4294967296
    · have d1 : decide ((t : Int) < 4294967296) = true := by simp; omega
      have hbl : R / D < 4294967296 := Nat.div_lt_of_lt_mul hlt'.out
      have hj : 1 ≤ g → GInv R D A y2 (g - 1) (t + y2) ∨ g ≤ R / D := by
        intro h1
        rcases Nat.lt_or_ge (R / D) g with h | h
        · obtain ⟨h2, h3, h4⟩ := hinv
          refine .inl ⟨?_, by omega, by omega⟩
          obtain ⟨q, rfl⟩ : ∃ q, g = q + 1 := ⟨g - 1, by omega⟩
          rw [Nat.add_mul] at h2
          simp only [Nat.add_sub_cancel]
          omega
        · exact .inr h
      by_cases hg : 4294967296 ≤ g
      · have hnx : GInv R D A y2 (g - 1) (t + y2) := (hj (by omega)).resolve_right (by omega)
        have d2 : decide ((4294967296 : Int) ≤ (g : Int)) = true := by simp; omega
        have hg0 : (4294967296 : Int) ≤ (g : Int) := by omega
        have HNX := Lib.hid hnx
        have HDR := Lib.hid hdr
        clear hj hnx hinv hdr
        go_wp2
        go_quiet (fail)
        go_wp2
        go_roundw
        case rel => exact ⟨g - 1, t + y2, vint (by omega), vint (by omega), by omega, HNX.out, HDR.out.more _⟩
        case measure => simp [intOf]; omega
      · have hor : ∃ T, t * 4294967296 + x1 = T ∧ bits .or .u64 ((t : Int) * 4294967296) x1 = (T : Int) := by
          refine ⟨_, rfl, ?_⟩
          have := u64_or_nat (t * 4294967296) x1 (by omega) (by omega)
          rw [nat_join 32 _ _ (by simp) (by omega)] at this
          rw [← this]; simp
        obtain ⟨T, hT, hor⟩ := hor
        have hG : ∃ G, g * y1 = G ∧ IntKind.u64.wrap ((g : Int) * (y1 : Int)) = (G : Int) := by
          refine ⟨_, rfl, ?_⟩
          have : g * y1 ≤ 18446744065119617025 := Nat.mul_le_mul (show g ≤ 4294967295 by omega) (show y1 ≤ 4294967295 by omega)
          rw [← Int.natCast_mul, IntKind.wrap_u64]
          omega
        obtain ⟨G, hG, hGw⟩ := hG
        have d2 : decide ((4294967296 : Int) ≤ (g : Int)) = false := by simp; omega
        have hw3 : IntKind.u64.wrap ((t : Int) * 4294967296) = (t : Int) * 4294967296 := IntWalk.u64_in _ (by omega)
        by_cases hTG : T < G
        · have hg1 : 1 ≤ g := by
            rcases Nat.eq_zero_or_pos g with h | h
            · subst h; rw [Nat.zero_mul] at hG; omega
            · exact h
          have hnx : GInv R D A y2 (g - 1) (t + y2) := (hj hg1).resolve_right (fun h => by
            have := guess_step HRL.out HR.out HD.out (Nat.div_mul_le_self R D) hinv.1 (by rw [hT, hG]; exact hTG)
            omega)
          have HNX := Lib.hid hnx
          have HDR := Lib.hid hdr
          have d3 : decide (T < G) = true := by simp; omega
          have hg0 : (1 : Int) ≤ (g : Int) := by omega
          clear hj hnx hinv hdr hT hG
          go_wp2
          go_quiet (fail)
          clear hor hGw hw3
          go_wp2
          go_roundw
          case rel => exact ⟨g - 1, t + y2, vint (by omega), vint (by omega), by omega, HNX.out, HDR.out.more _⟩
          case measure => simp [intOf]; omega
        · have hend : GuessOk R D g := gEnd HDL.out HR.out HD.out HT.out j1 HAL.out hinv (.inr ⟨by omega, by rw [hT, hG]; omega⟩)
          have HE := Lib.hid hend
          have HDR := Lib.hid hdr
          have d3 : decide (T < G) = false := by simp; omega
          clear hj hinv hdr hT hG hend
          go_wp2
          go_quiet (fail)
          clear hor hGw hw3
          go_wp2
          go_ret
          exact ⟨g, ret_int (by omega), HE.out, HDR.out.more _⟩
    · have hend : GuessOk R D g := gEnd HDL.out HR.out HD.out HT.out j1 HAL.out hinv (.inl (by omega))
      have hgB := hend.1
      have d1 : decide ((t : Int) < 4294967296) = false := by simp; omega
      have HE := Lib.hid hend
      have HDR := Lib.hid hdr
      clear hinv hdr hend
      go_wp2
      go_quiet (fail)
      go_wp2
      go_ret
      exact ⟨g, ret_int (by omega), HE.out, HDR.out.more _⟩

end Go.Proofs.YtkjdoknmmiaapaaDoor
