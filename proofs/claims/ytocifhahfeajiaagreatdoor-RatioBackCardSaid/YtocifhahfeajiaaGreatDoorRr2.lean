/-
  The document's answers (package typeballref03): Bot, From, Minus, New, by contract.
-/
import Derived.Test.YtocifhahfeajiaaGreatDoorRr1
import Derived.Test.YtocifhahfeajiaaGreatDoorK9
namespace Go.Proofs.YtocifhahfeajiaaGreatDoor
open Go.RowKit
attribute [local go_sem ↓] Go.wp_at_zero Go.wp_at_succ

theorem rB_nat (Q : Nat) : rB (Q : Int) = false := by unfold rB; exact decide_eq_false (by omega)
theorem rS_nat (Q : Nat) : rS (Q : Int) = str (dec Q) := by unfold rS; rw [Int.natAbs_natCast]

set_option maxHeartbeats 1600000 in
set_option maxRecDepth 100000 in
theorem r3Bot_any (b : Bool) (s : ByteArray) (Q : Nat) (w : World) (hl : dl Q ≤ 10000000) : Calls Tryz.prog 104 #[.agg #[.bool b, .string s, .string (str (dec Q))]] w fun e w' => RTold w w' e (Q : Int) := by
  have B0 := ((Bag.start w).box3 (.bool b) (.string s) (.string (str (dec Q))) 23).box2 (.bool false) (.string ⟨#[]⟩) 76
  simp only [World.size_alloc] at B0
  have OF : Hid (∀ wz, Calls Tryz.prog 51 #[.bool false, .string (str (dec Q))] wz fun e w' => RTold wz w' e (Q : Int)) := by
    intro wz
    have h1 := rOf_dec false Q wz hl
    rw [show sgn false Q = (Q : Int) from rfl] at h1
    exact h1
  have BB := Lib.hid B0
  have HF := Lib.hid (fun w2 b s (hb : Below w.heap.size w w2) (h1 : rB (Q : Int) = b) (h2 : rS (Q : Int) = s) => RTold.fin (Y := Q) hb (show w.heap.size ≤ w.heap.size + 1 by omega) h1 h2)
  unfold RTold at OF
  rw [rB_nat, rS_nat] at OF
  rw [rB_nat, rS_nat] at HF
  generalize str (dec Q) = t at *
  clear B0 hl
  go_enter Tryz.func104, Tryz.ntmps104
  go_wp2_with fail
  go_at_call 51
  (with_reducible refine (OF.out _).mono ?_)
  rintro e w2 ⟨rfl, hb2⟩
  have BB := Lib.hid (BB.out.go hb2)
  have hs2 := BB.out.now.1
  have hc1 := hs2.cell
  have hc2 := hs2.cell1
  have hf1 := hs2.free
  have hf2 := hs2.free1
  have HS := hs2.set (.bool false) (.string t)
  have HE := Lib.hid (HF.out w2 false t BB.out.below rfl rfl)
  unfold put2 at HE
  clear hb2 hs2
  go_wp2
  exact bodyPost_ret (v := .agg #[.bool false, .string t]) (by simp [results, Tryz.results104, go_sem, HS]) rfl HE.out

set_option maxHeartbeats 1600000 in
set_option maxRecDepth 100000 in
theorem r3New_zero (Z : Int) (w : World) : Calls Tryz.prog 105 #[.agg #[.bool (rB Z), .string (rS Z)], .agg #[.bool (rB 0), .string (rS 0)]] w fun e w' => NumTold3 w w' e 0 1 false := by
  have h0 := rS_is0 0
  rw [decide_eq_true rfl] at h0
  have ZE := Lib.hid (fun wz => r3Zero_any wz)
  have HF : Hid (rB (0 : Int) = false ∧ rS (0 : Int) = ⟨#[48]⟩ ∧ str (dec 1) = ⟨#[49]⟩) := ⟨rfl, dec0, dec1⟩
  unfold NumTold at ZE
  rw [HF.out.1, HF.out.2.1, HF.out.2.2] at ZE
  rw [HF.out.2.1] at h0
  have BB := Lib.hid (((Bag.start w).box2 (.bool (rB Z)) (.string (rS Z)) 76).box2 (.bool (rB 0)) (.string (rS 0)) 76 |>.box3 (.bool false) (.string ⟨#[]⟩) (.string ⟨#[]⟩) 23)
  simp only [World.size_alloc] at BB
  rw [HF.out.1, HF.out.2.1] at BB ⊢
  generalize rB Z = b at *
  generalize rS Z = s at *
  go_enter Tryz.func105, Tryz.ntmps105
  go_wp2_with fail
  go_at_call 47
  (with_reducible refine (ZE.out _).mono ?_)
  rintro e w2 ⟨rfl, hb2⟩
  have BB := Lib.hid (BB.out.go hb2)
  have hs := BB.out.now.1
  have u0 := hs.cell
  have u1 := hs.cell1
  have u2 := hs.cell2
  have g0 := hs.free
  have g1 := hs.free1
  have g2 := hs.free2
  have HS := hs.set (.bool false) (.string ⟨#[48]⟩) (.string ⟨#[49]⟩)
  have HE : Hid (NumTold3 w (((w2.setCell ⟨w.heap.size + 1 + 1, 0, none⟩ (.bool false)).setCell ⟨w.heap.size + 1 + 1, 1, none⟩ (.string ⟨#[48]⟩)).setCell ⟨w.heap.size + 1 + 1, 2, none⟩ (.string ⟨#[49]⟩)) (.returned (.tuple #[.agg #[.bool false, .string ⟨#[48]⟩, .string ⟨#[49]⟩], .bool false])) 0 1 false) :=
    ⟨by rw [HF.out.1, HF.out.2.1, HF.out.2.2], ((BB.out.below.setCell (p := ⟨w.heap.size + 1 + 1, 0, none⟩) (show w.heap.size ≤ w.heap.size + 1 + 1 by omega) _).setCell (p := ⟨w.heap.size + 1 + 1, 1, none⟩) (show w.heap.size ≤ w.heap.size + 1 + 1 by omega) _).setCell (p := ⟨w.heap.size + 1 + 1, 2, none⟩) (show w.heap.size ≤ w.heap.size + 1 + 1 by omega) _⟩
  clear hs hb2
  go_wp2
  exact bodyPost_ret (v := .tuple #[.agg #[.bool false, .string ⟨#[48]⟩, .string ⟨#[49]⟩], .bool false]) (by simp [results, Tryz.results105, go_sem, HS]) rfl HE.out


theorem nw_abs (Z Y : Int) : (nwP Z Y).natAbs = Z.natAbs / Nat.gcd Z.natAbs Y.natAbs ∧ nwQ Z Y = Y.natAbs / Nat.gcd Z.natAbs Y.natAbs := by
  unfold nwP nwQ loQ rg
  rw [loP_abs]
  unfold rg
  rw [upZ_abs]
  exact ⟨rfl, rfl⟩
theorem nw_sgn (Z : Int) {Y : Int} : rB (nwP Z Y) = ((rB Z != rB Y) && !decide (Z = 0)) := by
  unfold nwP rB
  rw [loP_neg, upZ_sgn]

set_option maxHeartbeats 3200000 in
set_option maxRecDepth 100000 in
theorem r3New_some (Z Y : Int) (w : World) (hY : Y ≠ 0) (hl : dl Z.natAbs ≤ 900) (hl2 : dl Y.natAbs ≤ 900) :
    Calls Tryz.prog 105 #[.agg #[.bool (rB Z), .string (rS Z)], .agg #[.bool (rB Y), .string (rS Y)]] w fun e w' => NumTold3 w w' e (nwP Z Y) (nwQ Z Y) true := by
  have h0 := rS_is0 Y
  rw [decide_eq_false hY] at h0
  have hg0 : 0 < Nat.gcd Z.natAbs Y.natAbs := Nat.gcd_pos_of_pos_right _ (by omega)
  have hgl : dl (Nat.gcd Z.natAbs Y.natAbs) ≤ 900 := Nat.le_trans (dl_mono (Nat.gcd_le_right _ (by omega))) hl2
  have GC : Hid (∀ wz, Calls Tryz.prog 66 #[.string (rS Z), .string (rS Y)] wz fun e w' => e = .returned (.string (str (dec (Nat.gcd Z.natAbs Y.natAbs)))) ∧ Below wz.heap.size wz w') := fun wz =>
    rgcd_any Z.natAbs Y.natAbs wz hl hl2 (4 * 900) (by omega) (Nat.lt_of_lt_of_le (Nat.lt_of_lt_of_le (dl_lt _) (Nat.pow_le_pow_right (by omega) hl2)) (ten_two 900))
  have D1 : Hid (∀ wz, Calls Tryz.prog 109 #[.string (rS Z), .string (str (dec (Nat.gcd Z.natAbs Y.natAbs)))] wz fun e w' => e = .returned (.tuple #[.string (rS (nwP Z Y)), .string (str (dec (Z.natAbs % Nat.gcd Z.natAbs Y.natAbs)))]) ∧ Below wz.heap.size wz w') := fun wz => by
    have := rdivMod_any Z.natAbs (Nat.gcd Z.natAbs Y.natAbs) wz hl hgl hg0
    rw [← (nw_abs Z Y).1] at this
    exact this
  have D2 : Hid (∀ wz, Calls Tryz.prog 109 #[.string (rS Y), .string (str (dec (Nat.gcd Z.natAbs Y.natAbs)))] wz fun e w' => e = .returned (.tuple #[.string (str (dec (nwQ Z Y))), .string (str (dec (Y.natAbs % Nat.gcd Z.natAbs Y.natAbs)))]) ∧ Below wz.heap.size wz w') := fun wz => by
    have := rdivMod_any Y.natAbs (Nat.gcd Z.natAbs Y.natAbs) wz hl2 hgl hg0
    rw [← (nw_abs Z Y).2] at this
    exact this
  have hx0 : ((rS (nwP Z Y)).toList == [48]) = decide (Z = 0) := by
    rw [rS_is0, Bool.eq_iff_iff, decide_eq_true_eq, decide_eq_true_eq]
    unfold nwP
    rw [loP_zero]
    unfold upZ
    split <;> omega
  have HS0 := Lib.hid (nw_sgn Z (Y := Y))
  have BB := Lib.hid (((Bag.start w).box2 (.bool (rB Z)) (.string (rS Z)) 76).box2 (.bool (rB Y)) (.string (rS Y)) 76 |>.box3 (.bool false) (.string ⟨#[]⟩) (.string ⟨#[]⟩) 23)
  simp only [World.size_alloc] at BB
  have HF := Lib.hid (fun w2 b x y (hb : Below w.heap.size w w2) (h1 : rB (nwP Z Y) = b) (h2 : rS (nwP Z Y) = x) (h3 : str (dec (nwQ Z Y)) = y) => (show NumTold3 w (((w2.setCell ⟨w.heap.size + 1 + 1, 0, none⟩ (.bool b)).setCell ⟨w.heap.size + 1 + 1, 1, none⟩ (.string x)).setCell ⟨w.heap.size + 1 + 1, 2, none⟩ (.string y)) (.returned (.tuple #[.agg #[.bool b, .string x, .string y], .bool true])) (nwP Z Y) (nwQ Z Y) true from
    ⟨by rw [h1, h2, h3], ((hb.setCell (p := ⟨w.heap.size + 1 + 1, 0, none⟩) (show w.heap.size ≤ w.heap.size + 1 + 1 by omega) _).setCell (p := ⟨w.heap.size + 1 + 1, 1, none⟩) (show w.heap.size ≤ w.heap.size + 1 + 1 by omega) _).setCell (p := ⟨w.heap.size + 1 + 1, 2, none⟩) (show w.heap.size ≤ w.heap.size + 1 + 1 by omega) _⟩))
  obtain ⟨x, hx⟩ : ∃ x, rS (nwP Z Y) = x := ⟨_, rfl⟩
  obtain ⟨y, hy⟩ : ∃ y, str (dec (nwQ Z Y)) = y := ⟨_, rfl⟩
  have HX := Lib.hid hx
  have HY := Lib.hid hy
  rw [hx] at D1 hx0
  rw [hy] at D2
  obtain ⟨z, hz⟩ : ∃ z, decide (Z = 0) = z := ⟨_, rfl⟩
  have HS1 : Hid (rB (nwP Z Y) = ((rB Z != rB Y) && !z)) := by show _ = _; rw [← hz]; exact HS0.out
  rw [hz] at hx0
  generalize rS Z = s at *
  generalize rS Y = t at *
  generalize str (dec (Nat.gcd Z.natAbs Y.natAbs)) = g at *
  generalize str (dec (Z.natAbs % Nat.gcd Z.natAbs Y.natAbs)) = r1 at *
  generalize str (dec (Y.natAbs % Nat.gcd Z.natAbs Y.natAbs)) = r2 at *
  generalize rB Z = b at *
  generalize rB Y = b2 at *
  clear hx hy hz hg0 hgl hl hl2 hY HS0
  have q0 := BB.out.now.2.2.1.cell
  have q1 := BB.out.now.2.2.1.cell1
  have p0 := BB.out.now.2.1.cell
  have p1 := BB.out.now.2.1.cell1
  cases b <;> cases b2 <;> cases z
  all_goals
    go_enter Tryz.func105, Tryz.ntmps105
    go_wp2_with (first
      | (go_at_call 66; (with_reducible refine (GC.out _).mono ?_); rintro e w2 ⟨rfl, hb2⟩; have BB := Lib.hid (BB.out.go hb2); clear hb2; have q0 := BB.out.now.2.2.1.cell; have q1 := BB.out.now.2.2.1.cell1; have p0 := BB.out.now.2.1.cell; have p1 := BB.out.now.2.1.cell1)
      | (go_at_call 109; (with_reducible refine (D1.out _).mono ?_); rintro e w3 ⟨rfl, hb3⟩; have BB := Lib.hid (BB.out.go hb3); clear hb3; have q0 := BB.out.now.2.2.1.cell; have q1 := BB.out.now.2.2.1.cell1; have p0 := BB.out.now.2.1.cell; have p1 := BB.out.now.2.1.cell1)
      | (go_at_call 109; (with_reducible refine (D2.out _).mono ?_); rintro e w4 ⟨rfl, hb4⟩; have BB := Lib.hid (BB.out.go hb4); clear hb4; have q0 := BB.out.now.2.2.1.cell; have q1 := BB.out.now.2.2.1.cell1; have p0 := BB.out.now.2.1.cell; have p1 := BB.out.now.2.1.cell1; have hs := BB.out.now.1; have u0 := hs.cell; have u1 := hs.cell1; have u2 := hs.cell2; have g0 := hs.free; have g1 := hs.free1; have g2 := hs.free2))
    first
        | (have HS := BB.out.now.1.set (.bool false) (.string x) (.string y)
           have HE := Lib.hid (HF.out _ false x y BB.out.below HS1.out HX.out HY.out)
           exact bodyPost_ret (v := .tuple #[.agg #[.bool false, .string x, .string y], .bool true]) (by simp [results, Tryz.results105, go_sem, HS]) rfl HE.out)
        | (have HS := BB.out.now.1.set (.bool true) (.string x) (.string y)
           have HE := Lib.hid (HF.out _ true x y BB.out.below HS1.out HX.out HY.out)
           exact bodyPost_ret (v := .tuple #[.agg #[.bool true, .string x, .string y], .bool true]) (by simp [results, Tryz.results105, go_sem, HS]) rfl HE.out)

end Go.Proofs.YtocifhahfeajiaaGreatDoor
