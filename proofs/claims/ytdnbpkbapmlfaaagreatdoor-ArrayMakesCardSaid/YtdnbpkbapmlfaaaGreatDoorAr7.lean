/-
  Package array: Bytes; the document's layer 6: IntsSame, by contract.
-/
import Derived.Test.YtdnbpkbapmlfaaaGreatDoorAr6
namespace Go.Proofs.YtdnbpkbapmlfaaaGreatDoor
open Go.RowKit

/-- What the first numbers take. -/
def byt (fP : Nat → Int) (fQ : Nat → Nat) : Nat → Nat
  | 0 => 0
  | k + 1 => byt fP fQ k + (8 + 4 * (lbs (fP k).natAbs + lbs (fQ k)))
theorem byt_le {fP : Nat → Int} {fQ : Nat → Nat} {n L : Nat} (h : ∀ j, j < n → lbs (fP j).natAbs ≤ L ∧ lbs (fQ j) ≤ L) : ∀ k, k ≤ n → byt fP fQ k ≤ k * (8 + 8 * L) := by
  intro k
  induction k with
  | zero => intro _; simp [byt]
  | succ k ih =>
    intro hk
    have h1 := ih (by omega)
    obtain ⟨h2, h3⟩ := h k (by omega)
    have h4 := Nat.succ_mul k (8 + 8 * L)
    rw [show k.succ = k + 1 from rfl] at h4
    unfold byt
    omega
theorem top_field (a : Option Addr) (n c : Nat) (m : Bool) (w : World) : (Instr.field 28 (.agg #[.slice a n c, .bool m]) 0).run Tryz.prog w = .ok (.agg #[.slice a n c]) w := by kernel_rfl

set_option maxHeartbeats 3200000 in
set_option maxRecDepth 100000 in
theorem bytes_any (ch : Bool) (d : Nat → Int) (r : Nat) (na : Option Addr) (n nc : Nat) (ta : Option Addr) (tn tc : Nat) (fP : Nat → Int) (fQ : Nat → Nat) (w : World) (hr : r ≤ 1000) (h : RRow w na n nc fP fQ) (hQ : ∀ j, j < n → 0 < fQ j) (hn : n ≤ 1000000) (ht : tn ≤ 1000000)
    (hL : ∀ j, j < n → lbs (fP j).natAbs ≤ 1000000 ∧ lbs (fQ j) ≤ 1000000) :
    Calls Tryz.prog 38 #[.agg (arrC ch ((r : Int) - 1) d na n nc ta tn tc)] w fun e w' => e = .returned (.int .i64 (16 + 4 * r + tn + byt fP fQ n : Nat)) ∧ Below w.heap.size w w' := by
  have RK := Lib.hid (fun wz => rank_any ch d r na n nc ta tn tc wz hr)
  have BB := Lib.hid ((Bag.start w).newRow (arrC ch ((r : Int) - 1) d na n nc ta tn tc) 50)
  have HR := Lib.hid h
  have hl := h.len
  unfold arrC at RK
  unfold arrC at BB
  unfold arrC
  clear h
  go_enter Tryz.func38, Tryz.ntmps38
  go_wp2_with fail
  have BB := Lib.hid BB.out.drew
  generalize (r : Int) - 1 = more at *
  go_region_held3 (fun y => y.cell? ⟨w.heap.size, 0, none⟩ = some (.bool ch) ∧ y.cell? ⟨w.heap.size, 1, none⟩ = some (.int .i64 more) ∧ y.cell? ⟨w.heap.size, 2, none⟩ = some (.int .i64 (d 0)) ∧ y.cell? ⟨w.heap.size, 3, none⟩ = some (.int .i64 (d 1)) ∧ y.cell? ⟨w.heap.size, 4, none⟩ = some (.int .i64 (d 2)) ∧ y.cell? ⟨w.heap.size, 5, none⟩ = some (.int .i64 (d 3)) ∧ y.cell? ⟨w.heap.size, 6, none⟩ = some (.int .i64 (d 4)) ∧ y.cell? ⟨w.heap.size, 7, none⟩ = some (.int .i64 (d 5)) ∧ y.cell? ⟨w.heap.size, 8, none⟩ = some (.int .i64 (d 6)) ∧ y.cell? ⟨w.heap.size, 9, none⟩ = some (.int .i64 (d 7)) ∧ y.cell? ⟨w.heap.size, 10, none⟩ = some (.slice na n nc) ∧ y.cell? ⟨w.heap.size, 11, none⟩ = some (.slice ta tn tc))
    (exact ⟨BB.out.now.1.cell 0, BB.out.now.1.cell 1, BB.out.now.1.cell 2, BB.out.now.1.cell 3, BB.out.now.1.cell 4, BB.out.now.1.cell 5, BB.out.now.1.cell 6, BB.out.now.1.cell 7, BB.out.now.1.cell 8, BB.out.now.1.cell 9, BB.out.now.1.cell 10, BB.out.now.1.cell 11⟩)
    ((go_at_call 27; (with_reducible refine (RK.out _).mono ?_); rintro e w2 ⟨rfl, hb2⟩; have BB := Lib.hid (BB.out.go hb2)))
  go_wp2_with fail
  have B2 := BB.out
  have H0 : Hid (Below w.heap.size w w2) := B2.below
  have hw1 := IntWalk.i64_in (4 * (r : Int)) (by omega)
  have hw2 := IntWalk.i64_in (16 + 4 * (r : Int)) (by omega)
  have hw3 := IntWalk.i64_in (tn : Int) (by omega)
  have hw4 := IntWalk.i64_in (16 + 4 * (r : Int) + tn) (by omega)
  have HT : Hid (IntKind.i64.wrap (IntKind.i64.wrap (16 + IntKind.i64.wrap (4 * (r : Int))) + IntKind.i64.wrap (tn : Int)) = 16 + 4 * (r : Int) + tn + (byt fP fQ 0 : Nat)) := by
    show _ = _
    rw [hw1, hw2, hw3, hw4]
    simp [byt]
  have HBY : Hid (∀ k, k ≤ n → byt fP fQ k ≤ k * 8000008) := byt_le (L := 1000000) hL
  have HLL := Lib.hid hL
  have HQQ := Lib.hid hQ
  have TP := Lib.hid (fun a n c m a2 n2 c2 P Q wz h => top_any a n c m a2 n2 c2 P Q wz h)
  have BT := Lib.hid (fun a n c m a2 n2 c2 P Q wz h hq => bot_any a n c m a2 n2 c2 P Q wz h hq)
  have LM : Hid (∀ a n c N wz, NatIs wz (.agg #[.slice a n c]) N → Calls Tryz.prog 81 #[.agg #[.slice a n c]] wz fun e w' => e = .returned (.int .i64 (lbs N : Nat)) ∧ Below wz.heap.size wz w') := fun a n c N wz h => limbs_bits _ N wz h
  unfold IntTold2 at TP
  unfold NatTold at BT
  clear B2 hw1 hw2 hw3 hw4 hL hQ hb2 BB
  go_loopw [3, 18] (fun s i wr => ∃ k : Nat, k ≤ n ∧ i = .int .i64 k ∧ s = .int .i64 (16 + 4 * (r : Int) + tn + (byt fP fQ k : Nat)) ∧ Hid (Below w.heap.size w wr)) (fun _ i _ => n - (intOf i).toNat)
  case atStart => exact ⟨0, by omega, rfl, vint HT.out, H0.out⟩
  case round =>
    obtain ⟨k, hk, rfl, rfl, hbl⟩ := hrel
    have hwr := hbl.out.size
    have hb1 := HBY.out k hk
    by_cases hlt : k < n
    · obtain ⟨b, off, a', n', c', m', a2', n2', c2', rfl, hlb, e1, e2, e3, hi'⟩ := (HR.out.below hbl.out).get hlt
      have hq := HQQ.out k hlt
      obtain ⟨l1, l2⟩ := HLL.out k hlt
      have hb2 := HBY.out (k + 1) (by omega)
      have hs : byt fP fQ (k + 1) = byt fP fQ k + (8 + 4 * (lbs (fP k).natAbs + lbs (fQ k))) := rfl
      have HS : Hid ((16 + 4 * (r : Int) + tn + (byt fP fQ k : Nat)) + (8 + 4 * ((lbs (fP k).natAbs : Nat) + (lbs (fQ k) : Nat) : Int)) = 16 + 4 * (r : Int) + tn + (byt fP fQ (k + 1) : Nat)) := by
        show _ = _
        rw [hs]; omega
      have BB := Lib.hid (((Bag.start wr).rat hi').box3 (.slice a' n' c') (.bool m') (.slice a2' n2' c2') 30)
      have HLX := Lib.hid l1
      have HLY := Lib.hid l2
      have w1 := IntWalk.i64_in ((lbs (fP k).natAbs : Nat) + (lbs (fQ k) : Nat) : Int) (by omega)
      have w2 := IntWalk.i64_in (4 * ((lbs (fP k).natAbs : Nat) + (lbs (fQ k) : Nat) : Int)) (by omega)
      have w3 := IntWalk.i64_in (8 + 4 * ((lbs (fP k).natAbs : Nat) + (lbs (fQ k) : Nat) : Int)) (by omega)
      have w4 := IntWalk.i64_in ((16 + 4 * (r : Int) + tn + (byt fP fQ k : Nat)) + (8 + 4 * ((lbs (fP k).natAbs : Nat) + (lbs (fQ k) : Nat) : Int))) (by omega)
      have LX := Lib.hid (fun a n c wz h => LM.out a n c (fP k).natAbs wz h)
      have LY := Lib.hid (fun a n c wz h => LM.out a n c (fQ k) wz h)
      have TPk := Lib.hid (fun wz h => TP.out a' n' c' m' a2' n2' c2' (fP k) (fQ k) wz h)
      have BTk := Lib.hid (fun wz h => BT.out a' n' c' m' a2' n2' c2' (fP k) (fQ k) wz h hq)
      clear hb1 hb2 hs l1 l2 hi' hq
      generalize lbs (fP k).natAbs = lx at *
      generalize lbs (fQ k) = ly at *
      generalize 16 + 4 * (r : Int) + tn + (byt fP fQ k : Nat) = sm at *
      have hfd := fun wz => top_field a' n' c' m' wz
      go_wp2_with fail
      have BB := Lib.hid BB.out.drew
      go_region_held3 (fun y => y.cell? ⟨wr.heap.size, 0, none⟩ = some (.slice a' n' c') ∧ y.cell? ⟨wr.heap.size, 1, none⟩ = some (.bool m') ∧ y.cell? ⟨wr.heap.size, 2, none⟩ = some (.slice a2' n2' c2'))
        (exact ⟨BB.out.now.1.cell, BB.out.now.1.cell1, BB.out.now.1.cell2⟩)
        (first
          | (go_at_call 65; (with_reducible refine (TPk.out _ BB.out.now.2.1).mono ?_); rintro e w5 ⟨rfl, hi5, hb5⟩; have BB := Lib.hid (BB.out.go hb5))
          | (go_at_call 81; (with_reducible refine (LX.out _ _ _ _ hi5.nt).mono ?_); rintro e w6 ⟨rfl, hb6⟩; have BB := Lib.hid (BB.out.go hb6))
          | (go_at_call 62; (with_reducible refine (BTk.out _ BB.out.now.2.1).mono ?_); rintro e w7 ⟨a7, n7, c7, rfl, hi7, hb7⟩; have BB := Lib.hid (BB.out.go hb7))
          | (go_at_call 81; (with_reducible refine (LY.out _ _ _ _ hi7).mono ?_); rintro e w8 ⟨rfl, hb8⟩; have BB := Lib.hid (BB.out.go hb8)))
      have HBE := Lib.hid (hbl.out.trans (BB.out.below.mono hwr))
      go_wp2
      go_roundw
      case rel => exact ⟨k + 1, by omega, by go_num, vint HS.out, HBE.out⟩
      case measure => simp [intOf]; omega
    · obtain rfl : k = n := by omega
      have HE : Hid (Ending.returned (.int .i64 (16 + 4 * (r : Int) + tn + (byt fP fQ k : Nat))) = .returned (.int .i64 (16 + 4 * r + tn + byt fP fQ k : Nat)) ∧ Below w.heap.size w wr) := ⟨ret_int (by omega), hbl.out⟩
      generalize 16 + 4 * (r : Int) + tn + (byt fP fQ k : Nat) = sm at *
      clear hb1
      go_wp2
      go_ret
      exact HE.out

/-- Are the first integers alike? -/
def sameB (f g : Nat → Int) : Nat → Bool
  | 0 => true
  | k + 1 => sameB f g k && decide (f k = g k)
theorem sameB_le {f g : Nat → Int} : ∀ {k m : Nat}, k ≤ m → sameB f g m = true → sameB f g k = true := by
  intro k m
  induction m with
  | zero => intro h h2; obtain rfl : k = 0 := by omega
            exact h2
  | succ m ih =>
    intro h h2
    rcases Nat.lt_or_ge k (m + 1) with h3 | h3
    · refine ih (by omega) ?_
      unfold sameB at h2
      rw [Bool.and_eq_true] at h2
      exact h2.1
    · obtain rfl : k = m + 1 := by omega
      exact h2
theorem sameB_iff {f g : Nat → Int} {n : Nat} : sameB f g n = true ↔ ∀ j, j < n → f j = g j := by
  induction n with
  | zero => exact ⟨fun _ j h => absurd h (Nat.not_lt_zero _), fun _ => rfl⟩
  | succ n ih =>
    show (sameB f g n && decide (f n = g n)) = true ↔ _
    rw [Bool.and_eq_true, ih, decide_eq_true_eq]
    constructor
    · rintro ⟨h1, h2⟩ j hj
      rcases Nat.lt_or_ge j n with h | h
      · exact h1 j h
      · obtain rfl : j = n := by omega
        exact h2
    · exact fun h => ⟨fun j hj => h j (by omega), h n (by omega)⟩
/-- What IntsSame answers. -/
def SameTold (b : Bool) (w w' : World) (e : Ending) : Prop := e = .returned (.bool b) ∧ Below w.heap.size w w'

set_option maxHeartbeats 1600000 in
set_option maxRecDepth 100000 in
theorem r6Same_any (a : Option Addr) (n c : Nat) (f : Nat → Int) (a2 : Option Addr) (n2 c2 : Nat) (g : Nat → Int) (w : World) (h : KRow w .i64 a n c f) (h2 : KRow w .i64 a2 n2 c2 g) :
    Calls Tryz.prog 25 #[.slice a n c, .slice a2 n2 c2] w fun e w' => SameTold (decide (n = n2) && sameB f g n) w w' e := by
  have hl := h.len
  have hl2 := h2.len
  have H1 := Lib.hid h
  have H2 := Lib.hid h2
  clear h h2
  by_cases hn : n = n2
  · subst hn
    rw [decide_eq_true rfl, Bool.true_and]
    have dn : ((n : Int) != n) = false := bne_self_eq_false _
    go_enter Tryz.func25, Tryz.ntmps25
    go_wp2
    go_loopw [5] (fun i wr => ∃ k : Nat, k ≤ n ∧ i = .int .i64 k ∧ Hid (Below w.heap.size w wr ∧ sameB f g k = true)) (fun i _ => n - (intOf i).toNat)
    case atStart => exact ⟨0, by omega, rfl, Below.refl _ _, rfl⟩
    case round =>
      obtain ⟨k, hk, rfl, hrel⟩ := hrel
      obtain ⟨hbl, hsm⟩ := hrel.out
      by_cases hlt : k < n
      · obtain ⟨b, off, rfl, hb, hc⟩ := (H1.out.below hbl).get hlt
        obtain ⟨b2, off2, rfl, hb2, hc2⟩ := (H2.out.below hbl).get hlt
        have HBL := Lib.hid hbl
        have hk0 : (0 : Int) ≤ k := by omega
        have hk1 : (k : Int) < n := by omega
        have hk2 : (k : Int) ≤ n := by omega
        by_cases hq : f k = g k
        · have hsm2 : Hid (sameB f g (k + 1) = true) := by show (sameB f g k && _) = true; rw [hsm, decide_eq_true hq]; rfl
          have hne : (f k != g k) = false := by rw [hq]; exact bne_self_eq_false _
          clear hbl hsm
          rw [← hq] at hc2
          have hne : (f k != f k) = false := bne_self_eq_false _
          generalize f k = x at *
          clear hq
          go_wp2_with fail
          go_quiet (fail)
          have HBE : Hid (Below w.heap.size w (wr.drewN nq) ∧ sameB f g (k + 1) = true) := ⟨below_drewN HBL.out nq, hsm2.out⟩
          go_wp2
          go_roundw
          case rel => exact ⟨k + 1, by omega, by go_num, HBE.out⟩
          case measure => simp [intOf]; omega
        · have hno : sameB f g n = false := by
            cases hx : sameB f g n with
            | false => rfl
            | true => exact absurd ((sameB_iff.1 hx) k hlt) hq
          have HN := Lib.hid hno
          have hne : (f k != g k) = true := bne_iff_ne.2 hq
          clear hbl hsm hno
          generalize f k = x at *
          generalize g k = y at *
          clear hq
          go_wp2_with fail
          go_quiet (fail)
          have HBE : Hid (SameTold (sameB f g n) w (wr.drewN nq) (.returned (.bool false))) := ⟨by rw [HN.out], below_drewN HBL.out nq⟩
          go_wp2
          go_ret
          exact HBE.out
      · obtain rfl : k = n := by omega
        have HE : Hid (SameTold (sameB f g k) w wr (.returned (.bool true))) := ⟨by rw [hsm], hbl⟩
        clear hbl hsm
        go_wp2
        go_ret
        exact HE.out
  · rw [decide_eq_false hn, Bool.false_and]
    have dn : ((n : Int) != n2) = true := bne_iff_ne.2 (by omega)
    have HE : Hid (SameTold false w w (.returned (.bool false))) := ⟨rfl, Below.refl _ _⟩
    clear hn
    go_enter Tryz.func25, Tryz.ntmps25
    go_wp2
    go_ret
    exact HE.out

end Go.Proofs.YtdnbpkbapmlfaaaGreatDoor
