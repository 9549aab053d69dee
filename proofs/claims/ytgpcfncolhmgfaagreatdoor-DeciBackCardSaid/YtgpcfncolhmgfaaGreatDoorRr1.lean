/-
  The document's answers (package typeballref01): Gcd, by contract.
  The document's answers (package typeballref03): Zero, Whole, From, Top, Bot, New, by contract.
  The document's answers (package typeballref03): Bot, From, Minus, New, by contract.
  The document's answers (package typeballref03): From, Minus, Limited, Limbs, Int, by contract.
  The document's answers (package typeballref03): Div, Cmp, by contract.
-/
import Derived.Test.YtgpcfncolhmgfaaGreatDoorK5
import Derived.Test.YtgpcfncolhmgfaaGreatDoorRa4
import Derived.Test.YtgpcfncolhmgfaaGreatDoorRa9
import Derived.Test.YtgpcfncolhmgfaaGreatDoorK9
import Derived.Test.YtgpcfncolhmgfaaGreatDoorK10
namespace Go.Proofs.YtgpcfncolhmgfaaGreatDoor
open Go.RowKit

/-- How many divisions Euclid's rounds take. -/
def eus (A B : Nat) : Nat := if h : B = 0 then 0 else eus B (A % B) + 1
termination_by B
decreasing_by exact Nat.mod_lt _ (Nat.pos_of_ne_zero h)

theorem eus_zero (A : Nat) : eus A 0 = 0 := by unfold eus; rw [dif_pos rfl]
theorem eus_step (A : Nat) {B : Nat} (h : B ≠ 0) : eus A B = eus B (A % B) + 1 := by rw [eus, dif_neg h]

theorem eus_le : ∀ k A B, B < 2 ^ k → eus A B ≤ 2 * k + 1 := by
  intro k
  induction k with
  | zero =>
    intro A B h
    obtain rfl : B = 0 := by simpa using h
    rw [eus_zero]; omega
  | succ k ih =>
    intro A B h
    by_cases h0 : B = 0
    · subst h0; rw [eus_zero]; omega
    · rw [eus_step A h0]
      have h1 := Nat.mod_lt A (Nat.pos_of_ne_zero h0)
      obtain ⟨C, hC⟩ : ∃ C, A % B = C := ⟨_, rfl⟩
      rw [hC] at h1 ⊢
      by_cases hc0 : C = 0
      · subst hc0; rw [eus_zero]; omega
      · rw [eus_step B hc0]
        have h2 := Nat.mod_lt B (Nat.pos_of_ne_zero hc0)
        have h3 := Nat.div_add_mod B C
        have h4 : 1 ≤ B / C := Nat.div_pos (by omega) (Nat.pos_of_ne_zero hc0)
        have h5 : C * 1 ≤ C * (B / C) := Nat.mul_le_mul_left _ h4
        have h6 : B % C < 2 ^ k := by rw [Nat.pow_succ] at h; omega
        have := ih C (B % C) h6
        omega

theorem gcd_step (A B : Nat) : Nat.gcd B (A % B) = Nat.gcd A B := by
  rw [Nat.gcd_comm A B, Nat.gcd_rec B A, Nat.gcd_comm]

theorem dec_isnt0 (N : Nat) : ((str (dec N)).toList == [48]) = decide (N = 0) := by
  have e : (str (dec N)).toList = dec N := by rw [ByteArray.toList_eq]; rfl
  rw [e, Bool.eq_iff_iff, beq_iff_eq, decide_eq_true_eq]
  constructor
  · intro h
    have := congrArg numOf h
    unfold dec at this
    rw [numOf_sdig, Nat.mod_eq_of_lt (dl_lt N)] at this
    simpa [numOf] using this
  · intro h; rw [h, dec_zero]

theorem dl_mod {A B : Nat} (h : 0 < B) : dl (A % B) ≤ dl B := dl_le _ _ (dl_pos B) (Nat.lt_trans (Nat.mod_lt _ h) (dl_lt B))

set_option maxHeartbeats 1600000 in
set_option maxRecDepth 100000 in
theorem rgcd_any (x y : Nat) (w : World) (hx : dl x ≤ 900) (hy : dl y ≤ 900) (k0 : Nat) (hk0 : k0 ≤ 4000) (hy2 : y < 2 ^ k0) :
    Calls Tryz.prog 61 #[.string (str (dec x)), .string (str (dec y))] w fun e w' => e = .returned (.string (str (dec (Nat.gcd x y)))) ∧ Below w.heap.size w w' := by
  have hst : 0 + eus x y ≤ 10000 := by have := eus_le k0 x y hy2; omega
  obtain ⟨a0, ha0⟩ : ∃ a0, str (dec x) = a0 := ⟨_, rfl⟩
  obtain ⟨b0, hb0⟩ : ∃ b0, str (dec y) = b0 := ⟨_, rfl⟩
  rw [ha0, hb0]
  have H0 : Hid (a0 = str (dec x) ∧ b0 = str (dec y) ∧ dl x ≤ 900 ∧ dl y ≤ 900 ∧ 0 + eus x y ≤ 10000) := ⟨ha0.symm, hb0.symm, hx, hy, hst⟩
  clear hst ha0 hb0 hx hy hy2 hk0
  go_enter Tryz.func61, Tryz.ntmps61
  go_wp2
  go_loopw [0, 1, 5] (fun a b i wr => ∃ (k A B : Nat) (s t : ByteArray), a = .string s ∧ b = .string t ∧ i = .int .i64 k ∧ k ≤ 10000 ∧ Hid (s = str (dec A) ∧ t = str (dec B) ∧ dl A ≤ 900 ∧ dl B ≤ 900 ∧ k + eus A B ≤ 10000 ∧ Nat.gcd A B = Nat.gcd x y) ∧ Below w.heap.size w wr)
    (fun _ _ i _ => 20000 - (intOf i).toNat)
  case atStart => exact ⟨0, x, y, _, _, rfl, rfl, rfl, by omega, ⟨H0.out.1, H0.out.2.1, H0.out.2.2.1, H0.out.2.2.2.1, H0.out.2.2.2.2, rfl⟩, Below.refl _ _⟩
  case round =>
    obtain ⟨k, A, B, s, t, rfl, rfl, rfl, hk, hr, hbl⟩ := hrel
    have hz := dec_isnt0 B
    rw [← hr.out.2.1] at hz
    have d1 : decide ((k : Int) < 20000) = true := decide_eq_true (by omega)
    by_cases h0 : B = 0
    · rw [decide_eq_true h0] at hz
      have HE : Hid (s = str (dec (Nat.gcd x y))) := by
        show _ = _
        rw [hr.out.1, ← hr.out.2.2.2.2.2, h0, Nat.gcd_zero_right]
      have HBL := Lib.hid hbl
      clear hr hbl h0
      go_wp2
      go_ret
      exact ⟨ret_str HE.out, HBL.out⟩
    · rw [decide_eq_false h0] at hz
      have hB0 : 0 < B := Nat.pos_of_ne_zero h0
      have DM := fun wz => rdivMod_any A B wz hr.out.2.2.1 hr.out.2.2.2.1 hB0
      rw [← hr.out.1, ← hr.out.2.1] at DM
      obtain ⟨u, hu⟩ : ∃ u, str (dec (A / B)) = u := ⟨_, rfl⟩
      obtain ⟨v, hv⟩ : ∃ v, str (dec (A % B)) = v := ⟨_, rfl⟩
      rw [hu, hv] at DM
      have hes := eus_step A h0
      have hkk : k + 1 ≤ 10000 := by have := hr.out.2.2.2.2.1; omega
      have HN : Hid (t = str (dec B) ∧ v = str (dec (A % B)) ∧ dl B ≤ 900 ∧ dl (A % B) ≤ 900 ∧ (k + 1) + eus B (A % B) ≤ 10000 ∧ Nat.gcd B (A % B) = Nat.gcd x y) :=
        ⟨hr.out.2.1, hv.symm, hr.out.2.2.2.1, Nat.le_trans (dl_mod hB0) hr.out.2.2.2.1, by have := hr.out.2.2.2.2.1; omega, by rw [gcd_step]; exact hr.out.2.2.2.2.2⟩
      have HD := Lib.hid DM
      have HBL := Lib.hid hbl
      clear DM hu hv hes hr hbl h0 hB0
      go_wp2_with fail
      go_at_call 94
      (with_reducible refine (HD.out _).mono ?_)
      rintro e w2 ⟨rfl, hb2⟩
      have HB2 := Lib.hid (HBL.out.trans (hb2.mono HBL.out.size))
      clear hb2
      go_wp2
      go_roundw
      case rel => exact ⟨k + 1, B, A % B, _, _, rfl, rfl, by go_num, hkk, HN.out, HB2.out⟩
      case measure => simp [intOf]; omega

end Go.Proofs.YtgpcfncolhmgfaaGreatDoor

namespace Go.Proofs.YtgpcfncolhmgfaaGreatDoor
open Go.RowKit
attribute [local go_sem ↓] Go.wp_at_zero Go.wp_at_succ

def NumTold3 (w w' : World) (e : Ending) (P : Int) (Q : Nat) (ok : Bool) : Prop := e = .returned (.tuple #[.agg #[.bool (rB P), .string (rS P), .string (str (dec Q))], .bool ok]) ∧ Below w.heap.size w w'

theorem dec0 : str (dec 0) = ⟨#[48]⟩ := by rw [dec_small (by omega)]; rfl
theorem dec1 : str (dec 1) = ⟨#[49]⟩ := by rw [dec_small (by omega)]; rfl

set_option maxHeartbeats 1600000 in
set_option maxRecDepth 100000 in
theorem r3Zero_any (w : World) : Calls Tryz.prog 20 #[] w fun e w' => NumTold w w' e 0 1 := by
  have B0 := (Bag.start w).alloc (.cells #[.bool false, .string ⟨#[48]⟩, .string ⟨#[49]⟩] 34)
  have HE : Hid (NumTold w (w.alloc (.cells #[.bool false, .string ⟨#[48]⟩, .string ⟨#[49]⟩] 34)) (.returned (.agg #[.bool false, .string ⟨#[48]⟩, .string ⟨#[49]⟩])) 0 1) := ⟨by rw [show rB 0 = false from rfl, show rS 0 = str (dec 0) from rfl, dec0, dec1], B0.below⟩
  go_enter Tryz.func20, Tryz.ntmps20
  go_wp2
  exact bodyPost_ret (v := .agg #[.bool false, .string ⟨#[48]⟩, .string ⟨#[49]⟩]) (by simp [results, Tryz.results20, go_sem]) rfl HE.out

set_option maxHeartbeats 1600000 in
set_option maxRecDepth 100000 in
theorem r3Whole_any (Z : Int) (w : World) : Calls Tryz.prog 23 #[.agg #[.bool (rB Z), .string (rS Z)]] w fun e w' => NumTold w w' e Z 1 := by
  have B0 := ((Bag.start w).alloc (.cells #[.bool (rB Z), .string (rS Z)] 56)).alloc (.cells #[.bool (rB Z), .string (rS Z), .string ⟨#[49]⟩] 34)
  have HE : Hid (NumTold w ((w.alloc (.cells #[.bool (rB Z), .string (rS Z)] 56)).alloc (.cells #[.bool (rB Z), .string (rS Z), .string ⟨#[49]⟩] 34)) (.returned (.agg #[.bool (rB Z), .string (rS Z), .string ⟨#[49]⟩])) Z 1) := ⟨by rw [dec1], B0.below⟩
  generalize rB Z = b at *
  generalize rS Z = s at *
  clear B0
  go_enter Tryz.func23, Tryz.ntmps23
  go_wp2
  exact bodyPost_ret (v := .agg #[.bool b, .string s, .string ⟨#[49]⟩]) (by simp [results, Tryz.results23, go_sem]) rfl HE.out

set_option maxHeartbeats 1600000 in
set_option maxRecDepth 100000 in
theorem r3Top_any (P : Int) (t : ByteArray) (w : World) (hl : dl P.natAbs ≤ 10000000) : Calls Tryz.prog 87 #[.agg #[.bool (rB P), .string (rS P), .string t]] w fun e w' => RTold w w' e P := by
  have B0 := ((Bag.start w).box3 (.bool (rB P)) (.string (rS P)) (.string t) 34).box2 (.bool false) (.string ⟨#[]⟩) 56
  simp only [World.size_alloc] at B0
  have OF : Hid (∀ wz, Calls Tryz.prog 24 #[.bool (rB P), .string (rS P)] wz fun e w' => RTold wz w' e P) := by
    intro wz
    have h1 := rOf_dec (rB P) P.natAbs wz hl
    rw [show sgn (rB P) P.natAbs = P from sgn_self P] at h1
    exact h1
  have BB := Lib.hid B0
  have HF := Lib.hid (fun w2 b s (hb : Below w.heap.size w w2) (h1 : rB P = b) (h2 : rS P = s) => RTold.fin (Y := P) hb (show w.heap.size ≤ w.heap.size + 1 by omega) h1 h2)
  obtain ⟨b, hb⟩ : ∃ b, rB P = b := ⟨_, rfl⟩
  obtain ⟨s, hs⟩ : ∃ s, rS P = s := ⟨_, rfl⟩
  have HB := Lib.hid hb
  have HS2 := Lib.hid hs
  unfold RTold at OF
  rw [hb, hs] at OF BB
  rw [hb, hs]
  clear B0 hl hb hs
  go_enter Tryz.func87, Tryz.ntmps87
  go_wp2_with fail
  go_at_call 24
  (with_reducible refine (OF.out _).mono ?_)
  rintro e w2 ⟨rfl, hb2⟩
  have BB := Lib.hid (BB.out.go hb2)
  have hs2 := BB.out.now.1
  have hc1 := hs2.cell
  have hc2 := hs2.cell1
  have hf1 := hs2.free
  have hf2 := hs2.free1
  have HS := hs2.set (.bool b) (.string s)
  have HE := Lib.hid (HF.out w2 b s BB.out.below HB.out HS2.out)
  unfold put2 at HE
  clear hb2 hs2
  go_wp2
  exact bodyPost_ret (v := .agg #[.bool b, .string s]) (by simp [results, Tryz.results87, go_sem, HS]) rfl HE.out

end Go.Proofs.YtgpcfncolhmgfaaGreatDoor

namespace Go.Proofs.YtgpcfncolhmgfaaGreatDoor
open Go.RowKit
attribute [local go_sem ↓] Go.wp_at_zero Go.wp_at_succ

theorem rB_nat (Q : Nat) : rB (Q : Int) = false := by unfold rB; exact decide_eq_false (by omega)
theorem rS_nat (Q : Nat) : rS (Q : Int) = str (dec Q) := by unfold rS; rw [Int.natAbs_natCast]

set_option maxHeartbeats 1600000 in
set_option maxRecDepth 100000 in
theorem r3Bot_any (b : Bool) (s : ByteArray) (Q : Nat) (w : World) (hl : dl Q ≤ 10000000) : Calls Tryz.prog 88 #[.agg #[.bool b, .string s, .string (str (dec Q))]] w fun e w' => RTold w w' e (Q : Int) := by
  have B0 := ((Bag.start w).box3 (.bool b) (.string s) (.string (str (dec Q))) 34).box2 (.bool false) (.string ⟨#[]⟩) 56
  simp only [World.size_alloc] at B0
  have OF : Hid (∀ wz, Calls Tryz.prog 24 #[.bool false, .string (str (dec Q))] wz fun e w' => RTold wz w' e (Q : Int)) := by
    intro wz
    have h1 := rOf_dec false Q wz hl
    rw [show sgn false Q = (Q : Int) from rfl] at h1
    exact h1
  have BB := Lib.hid B0
  have HF := Lib.hid (fun w2 b s (hb : Below w.heap.size w w2) (h1 : rB (Q : Int) = b) (h2 : rS (Q : Int) = s) => RTold.fin (Y := Q) hb (show w.heap.size ≤ w.heap.size + 1 by omega) h1 h2)
  unfold RTold at OF
  rw [rB_nat, rS_nat] at OF
  rw [rB_nat, rS_nat] at HF
  generalize str (dec Q) = t at *
  clear B0 hl
  go_enter Tryz.func88, Tryz.ntmps88
  go_wp2_with fail
  go_at_call 24
  (with_reducible refine (OF.out _).mono ?_)
  rintro e w2 ⟨rfl, hb2⟩
  have BB := Lib.hid (BB.out.go hb2)
  have hs2 := BB.out.now.1
  have hc1 := hs2.cell
  have hc2 := hs2.cell1
  have hf1 := hs2.free
  have hf2 := hs2.free1
  have HS := hs2.set (.bool false) (.string t)
  have HE := Lib.hid (HF.out w2 false t BB.out.below rfl rfl)
  unfold put2 at HE
  clear hb2 hs2
  go_wp2
  exact bodyPost_ret (v := .agg #[.bool false, .string t]) (by simp [results, Tryz.results88, go_sem, HS]) rfl HE.out

set_option maxHeartbeats 1600000 in
set_option maxRecDepth 100000 in
theorem r3New_zero (Z : Int) (w : World) : Calls Tryz.prog 85 #[.agg #[.bool (rB Z), .string (rS Z)], .agg #[.bool (rB 0), .string (rS 0)]] w fun e w' => NumTold3 w w' e 0 1 false := by
  have h0 := rS_is0 0
  rw [decide_eq_true rfl] at h0
  have ZE := Lib.hid (fun wz => r3Zero_any wz)
  have HF : Hid (rB (0 : Int) = false ∧ rS (0 : Int) = ⟨#[48]⟩ ∧ str (dec 1) = ⟨#[49]⟩) := ⟨rfl, dec0, dec1⟩
  unfold NumTold at ZE
  rw [HF.out.1, HF.out.2.1, HF.out.2.2] at ZE
  rw [HF.out.2.1] at h0
  have BB := Lib.hid (((Bag.start w).box2 (.bool (rB Z)) (.string (rS Z)) 56).box2 (.bool (rB 0)) (.string (rS 0)) 56 |>.box3 (.bool false) (.string ⟨#[]⟩) (.string ⟨#[]⟩) 34)
  simp only [World.size_alloc] at BB
  rw [HF.out.1, HF.out.2.1] at BB ⊢
  generalize rB Z = b at *
  generalize rS Z = s at *
  go_enter Tryz.func85, Tryz.ntmps85
  go_wp2_with fail
  go_at_call 20
  (with_reducible refine (ZE.out _).mono ?_)
  rintro e w2 ⟨rfl, hb2⟩
  have BB := Lib.hid (BB.out.go hb2)
  have hs := BB.out.now.1
  have u0 := hs.cell
  have u1 := hs.cell1
  have u2 := hs.cell2
  have g0 := hs.free
  have g1 := hs.free1
  have g2 := hs.free2
  have HS := hs.set (.bool false) (.string ⟨#[48]⟩) (.string ⟨#[49]⟩)
  have HE : Hid (NumTold3 w (((w2.setCell ⟨w.heap.size + 1 + 1, 0, none⟩ (.bool false)).setCell ⟨w.heap.size + 1 + 1, 1, none⟩ (.string ⟨#[48]⟩)).setCell ⟨w.heap.size + 1 + 1, 2, none⟩ (.string ⟨#[49]⟩)) (.returned (.tuple #[.agg #[.bool false, .string ⟨#[48]⟩, .string ⟨#[49]⟩], .bool false])) 0 1 false) :=
    ⟨by rw [HF.out.1, HF.out.2.1, HF.out.2.2], ((BB.out.below.setCell (p := ⟨w.heap.size + 1 + 1, 0, none⟩) (show w.heap.size ≤ w.heap.size + 1 + 1 by omega) _).setCell (p := ⟨w.heap.size + 1 + 1, 1, none⟩) (show w.heap.size ≤ w.heap.size + 1 + 1 by omega) _).setCell (p := ⟨w.heap.size + 1 + 1, 2, none⟩) (show w.heap.size ≤ w.heap.size + 1 + 1 by omega) _⟩
  clear hs hb2
  go_wp2
  exact bodyPost_ret (v := .tuple #[.agg #[.bool false, .string ⟨#[48]⟩, .string ⟨#[49]⟩], .bool false]) (by simp [results, Tryz.results85, go_sem, HS]) rfl HE.out


theorem nw_abs (Z Y : Int) : (nwP Z Y).natAbs = Z.natAbs / Nat.gcd Z.natAbs Y.natAbs ∧ nwQ Z Y = Y.natAbs / Nat.gcd Z.natAbs Y.natAbs := by
  unfold nwP nwQ loQ rg
  rw [loP_abs]
  unfold rg
  rw [upZ_abs]
  exact ⟨rfl, rfl⟩
theorem nw_sgn (Z : Int) {Y : Int} : rB (nwP Z Y) = ((rB Z != rB Y) && !decide (Z = 0)) := by
  unfold nwP rB
  rw [loP_neg, upZ_sgn]

set_option maxHeartbeats 3200000 in
set_option maxRecDepth 100000 in
theorem r3New_some (Z Y : Int) (w : World) (hY : Y ≠ 0) (hl : dl Z.natAbs ≤ 900) (hl2 : dl Y.natAbs ≤ 900) :
    Calls Tryz.prog 85 #[.agg #[.bool (rB Z), .string (rS Z)], .agg #[.bool (rB Y), .string (rS Y)]] w fun e w' => NumTold3 w w' e (nwP Z Y) (nwQ Z Y) true := by
  have h0 := rS_is0 Y
  rw [decide_eq_false hY] at h0
  have hg0 : 0 < Nat.gcd Z.natAbs Y.natAbs := Nat.gcd_pos_of_pos_right _ (by omega)
  have hgl : dl (Nat.gcd Z.natAbs Y.natAbs) ≤ 900 := Nat.le_trans (dl_mono (Nat.gcd_le_right _ (by omega))) hl2
  have GC : Hid (∀ wz, Calls Tryz.prog 61 #[.string (rS Z), .string (rS Y)] wz fun e w' => e = .returned (.string (str (dec (Nat.gcd Z.natAbs Y.natAbs)))) ∧ Below wz.heap.size wz w') := fun wz =>
    rgcd_any Z.natAbs Y.natAbs wz hl hl2 (4 * 900) (by omega) (Nat.lt_of_lt_of_le (Nat.lt_of_lt_of_le (dl_lt _) (Nat.pow_le_pow_right (by omega) hl2)) (ten_two 900))
  have D1 : Hid (∀ wz, Calls Tryz.prog 94 #[.string (rS Z), .string (str (dec (Nat.gcd Z.natAbs Y.natAbs)))] wz fun e w' => e = .returned (.tuple #[.string (rS (nwP Z Y)), .string (str (dec (Z.natAbs % Nat.gcd Z.natAbs Y.natAbs)))]) ∧ Below wz.heap.size wz w') := fun wz => by
    have := rdivMod_any Z.natAbs (Nat.gcd Z.natAbs Y.natAbs) wz hl hgl hg0
    rw [← (nw_abs Z Y).1] at this
    exact this
  have D2 : Hid (∀ wz, Calls Tryz.prog 94 #[.string (rS Y), .string (str (dec (Nat.gcd Z.natAbs Y.natAbs)))] wz fun e w' => e = .returned (.tuple #[.string (str (dec (nwQ Z Y))), .string (str (dec (Y.natAbs % Nat.gcd Z.natAbs Y.natAbs)))]) ∧ Below wz.heap.size wz w') := fun wz => by
    have := rdivMod_any Y.natAbs (Nat.gcd Z.natAbs Y.natAbs) wz hl2 hgl hg0
    rw [← (nw_abs Z Y).2] at this
    exact this
  have hx0 : ((rS (nwP Z Y)).toList == [48]) = decide (Z = 0) := by
    rw [rS_is0, Bool.eq_iff_iff, decide_eq_true_eq, decide_eq_true_eq]
    unfold nwP
    rw [loP_zero]
    unfold upZ
    split <;> omega
  have HS0 := Lib.hid (nw_sgn Z (Y := Y))
  have BB := Lib.hid (((Bag.start w).box2 (.bool (rB Z)) (.string (rS Z)) 56).box2 (.bool (rB Y)) (.string (rS Y)) 56 |>.box3 (.bool false) (.string ⟨#[]⟩) (.string ⟨#[]⟩) 34)
  simp only [World.size_alloc] at BB
  have HF := Lib.hid (fun w2 b x y (hb : Below w.heap.size w w2) (h1 : rB (nwP Z Y) = b) (h2 : rS (nwP Z Y) = x) (h3 : str (dec (nwQ Z Y)) = y) => (show NumTold3 w (((w2.setCell ⟨w.heap.size + 1 + 1, 0, none⟩ (.bool b)).setCell ⟨w.heap.size + 1 + 1, 1, none⟩ (.string x)).setCell ⟨w.heap.size + 1 + 1, 2, none⟩ (.string y)) (.returned (.tuple #[.agg #[.bool b, .string x, .string y], .bool true])) (nwP Z Y) (nwQ Z Y) true from
    ⟨by rw [h1, h2, h3], ((hb.setCell (p := ⟨w.heap.size + 1 + 1, 0, none⟩) (show w.heap.size ≤ w.heap.size + 1 + 1 by omega) _).setCell (p := ⟨w.heap.size + 1 + 1, 1, none⟩) (show w.heap.size ≤ w.heap.size + 1 + 1 by omega) _).setCell (p := ⟨w.heap.size + 1 + 1, 2, none⟩) (show w.heap.size ≤ w.heap.size + 1 + 1 by omega) _⟩))
  obtain ⟨x, hx⟩ : ∃ x, rS (nwP Z Y) = x := ⟨_, rfl⟩
  obtain ⟨y, hy⟩ : ∃ y, str (dec (nwQ Z Y)) = y := ⟨_, rfl⟩
  have HX := Lib.hid hx
  have HY := Lib.hid hy
  rw [hx] at D1 hx0
  rw [hy] at D2
  obtain ⟨z, hz⟩ : ∃ z, decide (Z = 0) = z := ⟨_, rfl⟩
  have HS1 : Hid (rB (nwP Z Y) = ((rB Z != rB Y) && !z)) := by show _ = _; rw [← hz]; exact HS0.out
  rw [hz] at hx0
  generalize rS Z = s at *
  generalize rS Y = t at *
  generalize str (dec (Nat.gcd Z.natAbs Y.natAbs)) = g at *
  generalize str (dec (Z.natAbs % Nat.gcd Z.natAbs Y.natAbs)) = r1 at *
  generalize str (dec (Y.natAbs % Nat.gcd Z.natAbs Y.natAbs)) = r2 at *
  generalize rB Z = b at *
  generalize rB Y = b2 at *
  clear hx hy hz hg0 hgl hl hl2 hY HS0
  have q0 := BB.out.now.2.2.1.cell
  have q1 := BB.out.now.2.2.1.cell1
  have p0 := BB.out.now.2.1.cell
  have p1 := BB.out.now.2.1.cell1
  cases b <;> cases b2 <;> cases z
  all_goals
    go_enter Tryz.func85, Tryz.ntmps85
    go_wp2_with (first
      | (go_at_call 61; (with_reducible refine (GC.out _).mono ?_); rintro e w2 ⟨rfl, hb2⟩; have BB := Lib.hid (BB.out.go hb2); clear hb2; have q0 := BB.out.now.2.2.1.cell; have q1 := BB.out.now.2.2.1.cell1; have p0 := BB.out.now.2.1.cell; have p1 := BB.out.now.2.1.cell1)
      | (go_at_call 94; (with_reducible refine (D1.out _).mono ?_); rintro e w3 ⟨rfl, hb3⟩; have BB := Lib.hid (BB.out.go hb3); clear hb3; have q0 := BB.out.now.2.2.1.cell; have q1 := BB.out.now.2.2.1.cell1; have p0 := BB.out.now.2.1.cell; have p1 := BB.out.now.2.1.cell1)
      | (go_at_call 94; (with_reducible refine (D2.out _).mono ?_); rintro e w4 ⟨rfl, hb4⟩; have BB := Lib.hid (BB.out.go hb4); clear hb4; have q0 := BB.out.now.2.2.1.cell; have q1 := BB.out.now.2.2.1.cell1; have p0 := BB.out.now.2.1.cell; have p1 := BB.out.now.2.1.cell1; have hs := BB.out.now.1; have u0 := hs.cell; have u1 := hs.cell1; have u2 := hs.cell2; have g0 := hs.free; have g1 := hs.free1; have g2 := hs.free2))
    first
        | (have HS := BB.out.now.1.set (.bool false) (.string x) (.string y)
           have HE := Lib.hid (HF.out _ false x y BB.out.below HS1.out HX.out HY.out)
           exact bodyPost_ret (v := .tuple #[.agg #[.bool false, .string x, .string y], .bool true]) (by simp [results, Tryz.results85, go_sem, HS]) rfl HE.out)
        | (have HS := BB.out.now.1.set (.bool true) (.string x) (.string y)
           have HE := Lib.hid (HF.out _ true x y BB.out.below HS1.out HX.out HY.out)
           exact bodyPost_ret (v := .tuple #[.agg #[.bool true, .string x, .string y], .bool true]) (by simp [results, Tryz.results85, go_sem, HS]) rfl HE.out)

end Go.Proofs.YtgpcfncolhmgfaaGreatDoor

namespace Go.Proofs.YtgpcfncolhmgfaaGreatDoor
open Go.RowKit
attribute [local go_sem ↓] Go.wp_at_zero Go.wp_at_succ

theorem dec_is1 (N : Nat) : ((str (dec N)).toList == [49]) = decide (N = 1) := dec_eq_digit N 1 (by omega)
theorem dec_is0' (N : Nat) : ((str (dec N)).toList == [48]) = decide (N = 0) := dec_eq_digit N 0 (by omega)

set_option maxHeartbeats 1600000 in
set_option maxRecDepth 100000 in
theorem r3From_any (X : Int) (w : World) (h : -9223372036854775808 ≤ X ∧ X ≤ 9223372036854775807) : Calls Tryz.prog 73 #[.int .i64 X] w fun e w' => NumTold w w' e X 1 := by
  have FR := Lib.hid (fun wz => rFrom_any X wz h)
  unfold RTold at FR
  have BB := Lib.hid ((Bag.start w).box3 (.bool false) (.string ⟨#[]⟩) (.string ⟨#[]⟩) 34)
  have HF := Lib.hid (fun w2 b x y (hb : Below w.heap.size w w2) (h1 : rB X = b) (h2 : rS X = x) (h3 : str (dec 1) = y) => NumTold.done (k := w.heap.size) X 1 hb (Nat.le_refl _) h1 h2 h3)
  obtain ⟨b, hb⟩ : ∃ b, rB X = b := ⟨_, rfl⟩
  obtain ⟨s, hs⟩ : ∃ s, rS X = s := ⟨_, rfl⟩
  have HB := Lib.hid hb
  have HS2 := Lib.hid hs
  rw [hb, hs] at FR
  clear hb hs h
  go_enter Tryz.func73, Tryz.ntmps73
  go_wp2_with fail
  go_at_call 109
  (with_reducible refine (FR.out _).mono ?_)
  rintro e w2 ⟨rfl, hb2⟩
  have BB := Lib.hid ((BB.out.go hb2).box2 (.bool b) (.string s) 56)
  have q0 := BB.out.now.1.cell
  have q1 := BB.out.now.1.cell1
  have hs := BB.out.now.2.1
  have u0 := hs.cell
  have u1 := hs.cell1
  have u2 := hs.cell2
  have g0 := hs.free
  have g1 := hs.free1
  have g2 := hs.free2
  have HS := hs.set (.bool b) (.string s) (.string ⟨#[49]⟩)
  have HE := Lib.hid (HF.out _ b s ⟨#[49]⟩ BB.out.below HB.out HS2.out dec1)
  clear hs hb2
  go_wp2
  exact bodyPost_ret (v := .agg #[.bool b, .string s, .string ⟨#[49]⟩]) (by simp [results, Tryz.results73, go_sem, HS]) rfl HE.out

end Go.Proofs.YtgpcfncolhmgfaaGreatDoor

namespace Go.Proofs.YtgpcfncolhmgfaaGreatDoor
open Go.RowKit
attribute [local go_sem ↓] Go.wp_at_zero Go.wp_at_succ

theorem dl_mul4 {x y : Nat} (h : dl x ≤ 400) (g : dl y ≤ 400) : dl (x * y) ≤ 800 := by
  obtain ⟨K, hK⟩ : ∃ K, K = 400 := ⟨_, rfl⟩
  refine Nat.le_trans (dl_le _ (K + K) (by omega) ?_) (by omega)
  rw [Nat.pow_add]
  exact Nat.mul_lt_mul'' (Nat.lt_of_lt_of_le (dl_lt x) (Nat.pow_le_pow_right (by omega) (by omega))) (Nat.lt_of_lt_of_le (dl_lt y) (Nat.pow_le_pow_right (by omega) (by omega)))
theorem dl_mulZ {Z : Int} {y : Nat} (h : dl Z.natAbs ≤ 400) (g : dl y ≤ 400) : dl (Z * (y : Int)).natAbs ≤ 800 := by rw [Int.natAbs_mul, Int.natAbs_natCast]; exact dl_mul4 h g
theorem dl_mulY {Z : Int} {y : Nat} (h : dl Z.natAbs ≤ 400) (g : dl y ≤ 400) : dl ((y : Int) * Z).natAbs ≤ 800 := by rw [Int.mul_comm]; exact dl_mulZ h g

set_option maxHeartbeats 6400000 in
set_option maxRecDepth 100000 in
theorem r3Div_walk (P : Int) (Q : Nat) (P' : Int) (Q' : Nat) (w : World) (h1 : dl P.natAbs ≤ 400) (h2 : dl Q ≤ 400) (h3 : dl P'.natAbs ≤ 400) (h4 : dl Q' ≤ 400) (X1 : Int) (X2 : Nat) (ok : Bool)
    (NW : Hid (∀ wz, Calls Tryz.prog 85 #[.agg #[.bool (rB (P * Q')), .string (rS (P * Q'))], .agg #[.bool (rB ((Q : Int) * P')), .string (rS ((Q : Int) * P'))]] wz fun e w' => NumTold3 wz w' e X1 X2 ok)) :
    Calls Tryz.prog 51 #[.agg #[.bool (rB P), .string (rS P), .string (str (dec Q))], .agg #[.bool (rB P'), .string (rS P'), .string (str (dec Q'))]] w fun e w' => NumTold3 w w' e X1 X2 ok := by
  have BB := Lib.hid (((Bag.start w).box3 (.bool (rB P)) (.string (rS P)) (.string (str (dec Q))) 34).box3 (.bool (rB P')) (.string (rS P')) (.string (str (dec Q'))) 34 |>.box3 (.bool false) (.string ⟨#[]⟩) (.string ⟨#[]⟩) 34 |>.drew)
  simp only [World.size_alloc] at BB
  have TA : Hid (∀ wz, Calls Tryz.prog 87 #[.agg #[.bool (rB P), .string (rS P), .string (str (dec Q))]] wz fun e w' => RTold wz w' e P) := fun wz => r3Top_any P _ wz (by omega)
  have TB : Hid (∀ wz, Calls Tryz.prog 87 #[.agg #[.bool (rB P'), .string (rS P'), .string (str (dec Q'))]] wz fun e w' => RTold wz w' e P') := fun wz => r3Top_any P' _ wz (by omega)
  have BA : Hid (∀ wz, Calls Tryz.prog 88 #[.agg #[.bool (rB P), .string (rS P), .string (str (dec Q))]] wz fun e w' => RTold wz w' e (Q : Int)) := fun wz => r3Bot_any _ _ Q wz (by omega)
  have BB2 : Hid (∀ wz, Calls Tryz.prog 88 #[.agg #[.bool (rB P'), .string (rS P'), .string (str (dec Q'))]] wz fun e w' => RTold wz w' e (Q' : Int)) := fun wz => r3Bot_any _ _ Q' wz (by omega)
  have M1 := Lib.hid (fun wz => rMul_any P (Q' : Int) wz (by omega) (by rw [Int.natAbs_natCast]; omega))
  have M2 := Lib.hid (fun wz => rMul_any (Q : Int) P' wz (by rw [Int.natAbs_natCast]; omega) (by omega))
  have HF := Lib.hid (fun w2 b x y (hb : Below w.heap.size w w2) (h1 : rB X1 = b) (h2 : rS X1 = x) (h3 : str (dec X2) = y) => (show NumTold3 w (((w2.setCell ⟨w.heap.size + 1 + 1, 0, none⟩ (.bool b)).setCell ⟨w.heap.size + 1 + 1, 1, none⟩ (.string x)).setCell ⟨w.heap.size + 1 + 1, 2, none⟩ (.string y)) (.returned (.tuple #[.agg #[.bool b, .string x, .string y], .bool ok])) X1 X2 ok from
    ⟨by rw [h1, h2, h3], ((hb.setCell (p := ⟨w.heap.size + 1 + 1, 0, none⟩) (show w.heap.size ≤ w.heap.size + 1 + 1 by omega) _).setCell (p := ⟨w.heap.size + 1 + 1, 1, none⟩) (show w.heap.size ≤ w.heap.size + 1 + 1 by omega) _).setCell (p := ⟨w.heap.size + 1 + 1, 2, none⟩) (show w.heap.size ≤ w.heap.size + 1 + 1 by omega) _⟩))
  unfold RTold at TA TB BA BB2 M1 M2
  unfold NumTold3 at NW
  obtain ⟨x1, hx1⟩ : ∃ x, rB X1 = x := ⟨_, rfl⟩
  obtain ⟨x2, hx2⟩ : ∃ x, rS X1 = x := ⟨_, rfl⟩
  obtain ⟨x3, hx3⟩ : ∃ x, str (dec X2) = x := ⟨_, rfl⟩
  rw [hx1, hx2, hx3] at NW
  have HX := Lib.hid (And.intro hx1 (And.intro hx2 hx3))
  generalize rB (P * (Q' : Int)) = u1 at *
  generalize rS (P * (Q' : Int)) = u2 at *
  generalize rB ((Q : Int) * P') = v1 at *
  generalize rS ((Q : Int) * P') = v2 at *
  generalize rB (Q : Int) = qb at *
  generalize rS (Q : Int) = qs at *
  generalize rB (Q' : Int) = qb' at *
  generalize rS (Q' : Int) = qs' at *
  generalize rB P = pb at *
  generalize rS P = ps at *
  generalize rB P' = pb' at *
  generalize rS P' = ps' at *
  generalize str (dec Q) = q at *
  generalize str (dec Q') = q' at *
  clear h1 h2 h3 h4 hx1 hx2 hx3
  have he : w.heap.size ≠ w.heap.size + 1 + 1 ∧ w.heap.size + 1 ≠ w.heap.size + 1 + 1 := by omega
  go_enter Tryz.func51, Tryz.ntmps51
  go_wp2_with fail
  go_region_held3 (fun y => (y.cell? ⟨w.heap.size, 0, none⟩ = some (.bool pb) ∧ y.cell? ⟨w.heap.size, 1, none⟩ = some (.string ps) ∧ y.cell? ⟨w.heap.size, 2, none⟩ = some (.string q)) ∧ y.cell? ⟨w.heap.size + 1, 0, none⟩ = some (.bool pb') ∧ y.cell? ⟨w.heap.size + 1, 1, none⟩ = some (.string ps') ∧ y.cell? ⟨w.heap.size + 1, 2, none⟩ = some (.string q'))
    (first
      | (exact ⟨⟨z0.cell, z0.cell1, z0.cell2⟩, z1.cell, z1.cell1, z1.cell2⟩)
      | (exact ⟨⟨BB.out.now.2.2.1.cell, BB.out.now.2.2.1.cell1, BB.out.now.2.2.1.cell2⟩, BB.out.now.2.1.cell, BB.out.now.2.1.cell1, BB.out.now.2.1.cell2⟩))
    (first
      | (go_at_call 87; (with_reducible refine (TA.out _).mono ?_); rintro e w2 ⟨rfl, hb2⟩; have BB := Lib.hid (BB.out.go hb2))
      | (go_at_call 87; (with_reducible refine (TB.out _).mono ?_); rintro e w2 ⟨rfl, hb2⟩; have BB := Lib.hid (BB.out.go hb2))
      | (go_at_call 88; (with_reducible refine (BA.out _).mono ?_); rintro e w2 ⟨rfl, hb2⟩; have BB := Lib.hid (BB.out.go hb2))
      | (go_at_call 88; (with_reducible refine (BB2.out _).mono ?_); rintro e w2 ⟨rfl, hb2⟩; have BB := Lib.hid (BB.out.go hb2))
      | (go_at_call 86; (with_reducible refine (M1.out _).mono ?_); rintro e w2 ⟨rfl, hb2⟩; have BB := Lib.hid (BB.out.go hb2))
      | (go_at_call 86; (with_reducible refine (M2.out _).mono ?_); rintro e w2 ⟨rfl, hb2⟩; have BB := Lib.hid (BB.out.go hb2))
      | (go_at_call 85; (with_reducible refine (NW.out _).mono ?_); rintro e w9 ⟨rfl, hb9⟩; have BB := Lib.hid (BB.out.go hb9); have hs := BB.out.now.1; have r0 := hs.cell; have r1 := hs.cell1; have r2 := hs.cell2; have g0 := hs.free; have g1 := hs.free1; have g2 := hs.free2; have HS := hs.set (.bool x1) (.string x2) (.string x3); have z0 := BB.out.now.2.2.1.set3o he.1 (.bool x1) (.string x2) (.string x3); have z1 := BB.out.now.2.1.set3o he.2 (.bool x1) (.string x2) (.string x3); have HE := Lib.hid (HF.out _ x1 x2 x3 BB.out.below HX.out.1 HX.out.2.1 HX.out.2.2)))
  go_wp2
  exact bodyPost_ret (v := .tuple #[.agg #[.bool x1, .string x2, .string x3], .bool ok]) (by simp [results, Tryz.results51, go_sem, HS]) rfl HE.out

theorem r3Div_zero (P : Int) (Q Q' : Nat) (w : World) (h1 : dl P.natAbs ≤ 400) (h2 : dl Q ≤ 400) (h4 : dl Q' ≤ 400) :
    Calls Tryz.prog 51 #[.agg #[.bool (rB P), .string (rS P), .string (str (dec Q))], .agg #[.bool (rB 0), .string (rS 0), .string (str (dec Q'))]] w fun e w' => NumTold3 w w' e 0 1 false :=
  r3Div_walk P Q 0 Q' w h1 h2 (Nat.le_trans (dl_le _ 1 (by omega) (by decide)) (by omega)) h4 0 1 false (Lib.hid fun wz => by rw [Int.mul_zero]; exact r3New_zero _ wz)
theorem r3Div_some (P : Int) (Q : Nat) (P' : Int) (Q' : Nat) (w : World) (hQ : 0 < Q) (hP : P' ≠ 0) (h1 : dl P.natAbs ≤ 400) (h2 : dl Q ≤ 400) (h3 : dl P'.natAbs ≤ 400) (h4 : dl Q' ≤ 400) :
    Calls Tryz.prog 51 #[.agg #[.bool (rB P), .string (rS P), .string (str (dec Q))], .agg #[.bool (rB P'), .string (rS P'), .string (str (dec Q'))]] w fun e w' => NumTold3 w w' e (nwP (P * Q') (P' * Q)) (nwQ (P * Q') (P' * Q)) true := by
  rw [Int.mul_comm P' (Q : Int)]
  exact r3Div_walk P Q P' Q' w h1 h2 h3 h4 _ _ true (Lib.hid fun wz => r3New_some _ _ wz (Int.mul_ne_zero (by omega) hP) (Nat.le_trans (dl_mulZ h1 h4) (by omega)) (Nat.le_trans (dl_mulY h3 h2) (by omega)))

set_option maxHeartbeats 6400000 in
set_option maxRecDepth 100000 in
theorem r3Cmp_any (P : Int) (Q : Nat) (P' : Int) (Q' : Nat) (w : World) (h1 : dl P.natAbs ≤ 400) (h2 : dl Q ≤ 400) (h3 : dl P'.natAbs ≤ 400) (h4 : dl Q' ≤ 400) :
    Calls Tryz.prog 72 #[.agg #[.bool (rB P), .string (rS P), .string (str (dec Q))], .agg #[.bool (rB P'), .string (rS P'), .string (str (dec Q'))]] w fun e w' => e = .returned (.int .i64 (cmpZ (P * Q') (P' * Q))) ∧ Below w.heap.size w w' := by
  have BB := Lib.hid (((Bag.start w).box3 (.bool (rB P)) (.string (rS P)) (.string (str (dec Q))) 34).box3 (.bool (rB P')) (.string (rS P')) (.string (str (dec Q'))) 34 |>.drew)
  simp only [World.size_alloc] at BB
  have TA : Hid (∀ wz, Calls Tryz.prog 87 #[.agg #[.bool (rB P), .string (rS P), .string (str (dec Q))]] wz fun e w' => RTold wz w' e P) := fun wz => r3Top_any P _ wz (by omega)
  have TB : Hid (∀ wz, Calls Tryz.prog 87 #[.agg #[.bool (rB P'), .string (rS P'), .string (str (dec Q'))]] wz fun e w' => RTold wz w' e P') := fun wz => r3Top_any P' _ wz (by omega)
  have BA : Hid (∀ wz, Calls Tryz.prog 88 #[.agg #[.bool (rB P), .string (rS P), .string (str (dec Q))]] wz fun e w' => RTold wz w' e (Q : Int)) := fun wz => r3Bot_any _ _ Q wz (by omega)
  have BB2 : Hid (∀ wz, Calls Tryz.prog 88 #[.agg #[.bool (rB P'), .string (rS P'), .string (str (dec Q'))]] wz fun e w' => RTold wz w' e (Q' : Int)) := fun wz => r3Bot_any _ _ Q' wz (by omega)
  have M1 := Lib.hid (fun wz => rMul_any P (Q' : Int) wz (by omega) (by rw [Int.natAbs_natCast]; omega))
  have M2 := Lib.hid (fun wz => rMul_any P' (Q : Int) wz (by omega) (by rw [Int.natAbs_natCast]; omega))
  have CM := Lib.hid (fun wz => rCmp_any (P * Q') (P' * Q) wz (Nat.le_trans (dl_mulZ h1 h4) (by omega)) (Nat.le_trans (dl_mulZ h3 h2) (by omega)))
  unfold RTold at TA TB BA BB2 M1 M2
  generalize rB (P * (Q' : Int)) = u1 at *
  generalize rS (P * (Q' : Int)) = u2 at *
  generalize rB (P' * (Q : Int)) = v1 at *
  generalize rS (P' * (Q : Int)) = v2 at *
  generalize rB (Q : Int) = qb at *
  generalize rS (Q : Int) = qs at *
  generalize rB (Q' : Int) = qb' at *
  generalize rS (Q' : Int) = qs' at *
  generalize rB P = pb at *
  generalize rS P = ps at *
  generalize rB P' = pb' at *
  generalize rS P' = ps' at *
  generalize str (dec Q) = q at *
  generalize str (dec Q') = q' at *
  generalize cmpZ (P * (Q' : Int)) (P' * (Q : Int)) = cc at *
  clear h1 h2 h3 h4
  go_enter Tryz.func72, Tryz.ntmps72
  go_wp2_with fail
  go_region_held3 (fun y => (y.cell? ⟨w.heap.size, 0, none⟩ = some (.bool pb) ∧ y.cell? ⟨w.heap.size, 1, none⟩ = some (.string ps) ∧ y.cell? ⟨w.heap.size, 2, none⟩ = some (.string q)) ∧ y.cell? ⟨w.heap.size + 1, 0, none⟩ = some (.bool pb') ∧ y.cell? ⟨w.heap.size + 1, 1, none⟩ = some (.string ps') ∧ y.cell? ⟨w.heap.size + 1, 2, none⟩ = some (.string q'))
    (exact ⟨⟨BB.out.now.2.1.cell, BB.out.now.2.1.cell1, BB.out.now.2.1.cell2⟩, BB.out.now.1.cell, BB.out.now.1.cell1, BB.out.now.1.cell2⟩)
    (first
      | (go_at_call 87; (with_reducible refine (TA.out _).mono ?_); rintro e w2 ⟨rfl, hb2⟩; have BB := Lib.hid (BB.out.go hb2))
      | (go_at_call 87; (with_reducible refine (TB.out _).mono ?_); rintro e w2 ⟨rfl, hb2⟩; have BB := Lib.hid (BB.out.go hb2))
      | (go_at_call 88; (with_reducible refine (BA.out _).mono ?_); rintro e w2 ⟨rfl, hb2⟩; have BB := Lib.hid (BB.out.go hb2))
      | (go_at_call 88; (with_reducible refine (BB2.out _).mono ?_); rintro e w2 ⟨rfl, hb2⟩; have BB := Lib.hid (BB.out.go hb2))
      | (go_at_call 86; (with_reducible refine (M1.out _).mono ?_); rintro e w2 ⟨rfl, hb2⟩; have BB := Lib.hid (BB.out.go hb2))
      | (go_at_call 86; (with_reducible refine (M2.out _).mono ?_); rintro e w2 ⟨rfl, hb2⟩; have BB := Lib.hid (BB.out.go hb2))
      | (go_at_call 108; (with_reducible refine (CM.out _).mono ?_); rintro e w2 ⟨rfl, hb2⟩; have BB := Lib.hid (BB.out.go hb2)))
  go_wp2
  go_ret
  exact ⟨rfl, BB.out.below⟩

/-- The quotient. -/
def dvP (P : Int) (Q : Nat) (P' : Int) (Q' : Nat) : Int := if P' = 0 then 0 else nwP (P * Q') (P' * Q)
def dvQ (P : Int) (Q : Nat) (P' : Int) (Q' : Nat) : Nat := if P' = 0 then 1 else nwQ (P * Q') (P' * Q)
theorem r3Div_any (P : Int) (Q : Nat) (P' : Int) (Q' : Nat) (w : World) (hQ : 0 < Q) (h1 : dl P.natAbs ≤ 400) (h2 : dl Q ≤ 400) (h3 : dl P'.natAbs ≤ 400) (h4 : dl Q' ≤ 400) :
    Calls Tryz.prog 51 #[.agg #[.bool (rB P), .string (rS P), .string (str (dec Q))], .agg #[.bool (rB P'), .string (rS P'), .string (str (dec Q'))]] w fun e w' => NumTold3 w w' e (dvP P Q P' Q') (dvQ P Q P' Q') (!decide (P' = 0)) := by
  unfold dvP dvQ
  by_cases hP : P' = 0
  · subst hP
    rw [if_pos rfl, if_pos rfl, decide_eq_true rfl]
    exact r3Div_zero P Q Q' w h1 h2 h4
  · rw [if_neg hP, if_neg hP, decide_eq_false hP]
    exact r3Div_some P Q P' Q' w hQ hP h1 h2 h3 h4

end Go.Proofs.YtgpcfncolhmgfaaGreatDoor

