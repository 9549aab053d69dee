/-
  The document's layer 6: Len, Limbs, Bytes, Whole, by contract.
-/
import Derived.Test.YtdnbpkbapmlfaaaGreatDoorAr18
import Derived.Test.YtdnbpkbapmlfaaaGreatDoorAr19
import Derived.Test.YtdnbpkbapmlfaaaGreatDoorRr5
namespace Go.Proofs.YtdnbpkbapmlfaaaGreatDoor
open Go.RowKit

/-- The numbers of a plain array, told. -/
def NumOk (fB : Nat → Bool) (fS fT : Nat → ByteArray) (fP : Nat → Int) (fQ : Nat → Nat) (n : Nat) : Prop :=
  ∀ j, j < n → fB j = rB (fP j) ∧ fS j = rS (fP j) ∧ fT j = str (dec (fQ j)) ∧ 0 < fQ j ∧ dl (fP j).natAbs ≤ 60 ∧ dl (fQ j) ≤ 60
theorem ofO_dl {b : Bool} {s t : ByteArray} (h : ofO b s t = true) (hs : s.size ≤ 60) (ht : t.size ≤ 60) : dl (ofP b s t).natAbs ≤ 60 ∧ dl (ofQ b s t) ≤ 60 := by
  obtain ⟨_, h2, h3, _, _⟩ := ofO_facts h
  constructor
  · have := congrArg ByteArray.size h2
    unfold rS at this
    rw [str_size, dec_length] at this
    omega
  · have := congrArg ByteArray.size h3
    rw [str_size, dec_length] at this
    omega
theorem ofO_num {fB : Nat → Bool} {fS fT : Nat → ByteArray} {n : Nat} (h : ∀ j, j < n → ofO (fB j) (fS j) (fT j) = true) (hs : Short fS fT n) : NumOk fB fS fT (fun j => ofP (fB j) (fS j) (fT j)) (fun j => ofQ (fB j) (fS j) (fT j)) n :=
  fun j hj => ⟨(ofO_facts (h j hj)).1.symm, (ofO_facts (h j hj)).2.1.symm, (ofO_facts (h j hj)).2.2.1.symm, (ofO_facts (h j hj)).2.2.2.1, ofO_dl (h j hj) (hs j hj).1 (hs j hj).2⟩
theorem ten60 {N : Nat} (h : dl N ≤ 60) : N < 65536 ^ 14 := by
  have big : (10 : Nat) ^ 60 < 65536 ^ 14 := by decide
  exact Nat.lt_of_lt_of_le (dl_lt _) (Nat.le_trans (Nat.pow_le_pow_right (by decide) h) (Nat.le_of_lt big))
theorem lbs_le7 {N : Nat} (h : dl N ≤ 60) : lbs N ≤ 7 := by
  have h1 := ten60 h
  have h2 : nbits N ≤ 224 := nbits_le.2 (Nat.lt_of_lt_of_le h1 (by decide))
  unfold lbs
  omega

set_option maxHeartbeats 1600000 in
set_option maxRecDepth 100000 in
theorem r6Len_any (cs : Array Value) (S : Nat → Int) (r : Nat) (ch : Bool) (g : Nat → Int) (tn : Nat) (fB : Nat → Bool) (fS fT : Nat → ByteArray) (nn : Nat) (w : World) (h : PlnAt w cs S r ch g tn fB fS fT nn) (h1 : tn ≤ 1000000) (h2 : nn ≤ 1000000) :
    Calls Tryz.prog 29 #[.agg cs] w fun e w' => e = .returned (.int .i64 ((tn + nn : Nat) : Int)) ∧ Below w.heap.size w w' := by
  obtain ⟨sa, sc, ta, tc, na, nc, rfl, _, _, _⟩ := h
  have hw := IntWalk.i64_in ((tn : Int) + nn) (by omega)
  have HE : Hid ((tn : Int) + nn = ((tn + nn : Nat) : Int)) := by show _ = _; omega
  have HB : Hid (Below w.heap.size w (w.alloc (.cells (plC sa r sc ch ta tn tc na nn nc) 46))) := (Below.refl _ _).alloc (Nat.le_refl _) _
  unfold plC at HB
  unfold plC
  go_enter Tryz.func29, Tryz.ntmps29
  go_wp2
  go_ret
  exact ⟨ret_int HE.out, HB.out⟩

set_option maxHeartbeats 1600000 in
set_option maxRecDepth 100000 in
theorem r6Limbs_any (cs : Array Value) (S : Nat → Int) (r : Nat) (ch : Bool) (g : Nat → Int) (tn : Nat) (fB : Nat → Bool) (fS fT : Nat → ByteArray) (nn : Nat) (fP : Nat → Int) (fQ : Nat → Nat) (w : World) (h : PlnAt w cs S r ch g tn fB fS fT nn) (hN : NumOk fB fS fT fP fQ nn) :
    Calls Tryz.prog 37 #[.agg cs] w fun e w' => e = .returned (.int .i64 (mxl fP fQ nn : Nat)) ∧ Below w.heap.size w w' := by
  obtain ⟨sa, sc, ta, tc, na, nc, rfl, h1, h2, h3⟩ := h
  have hl := h3.len
  have BB := Lib.hid (((Bag.start w).qrow h3).newRow (plC sa r sc ch ta tn tc na nn nc) 46)
  have LM : Hid (∀ j, j < nn → ∀ wz, Calls Tryz.prog 80 #[.agg #[.bool (fB j), .string (fS j), .string (fT j)]] wz fun e w' => e = .returned (.int .i64 (max (lbs (fP j).natAbs) (lbs (fQ j)) : Nat)) ∧ Below wz.heap.size wz w') := fun j hj wz => by
    obtain ⟨e1, e2, e3, _, e4, e5⟩ := hN j hj
    rw [e2, e3]
    exact r3Limbs_any (fB j) (fP j) (fQ j) 14 wz (by omega) (by omega) (by omega) (ten60 e4) (ten60 e5)
  unfold plC at BB
  unfold plC
  have H0 := Lib.hid BB.out.below
  clear h1 h2 h3 hN
  go_enter Tryz.func37, Tryz.ntmps37
  go_wp2_with fail
  generalize w.alloc (.cells #[.slice sa r sc, .bool ch, .slice ta tn tc, .slice na nn nc] 46) = y0 at *
  go_loopw [3, 4] (fun s i wr => ∃ k : Nat, k ≤ nn ∧ i = .int .i64 k ∧ s = .int .i64 (mxl fP fQ k : Nat) ∧ Hid (Below y0.heap.size y0 wr)) (fun _ i _ => nn - (intOf i).toNat)
  case atStart => exact ⟨0, by omega, rfl, rfl, Below.refl _ _⟩
  case round =>
    obtain ⟨k, hk, rfl, rfl, hbl⟩ := hrel
    have B4 := Lib.hid (BB.out.go hbl.out)
    obtain ⟨x0, x1, x2, x3⟩ := pl_cells B4.out.now.1
    by_cases hlt : k < nn
    · obtain ⟨b, off, rfl, hb, c1, c2, c3⟩ := B4.out.now.2.1.get hlt
      have LK := Lib.hid (LM.out k hlt)
      have HS : Hid (((max (mxl fP fQ k) (max (lbs (fP k).natAbs) (lbs (fQ k))) : Nat) : Int) = (mxl fP fQ (k + 1) : Nat)) := rfl
      have hwr := hbl.out.size
      generalize max (lbs (fP k).natAbs) (lbs (fQ k)) = L at *
      generalize mxl fP fQ k = m at *
      generalize fB k = u1 at *
      generalize fS k = u2 at *
      generalize fT k = u3 at *
      go_wp2_with fail
      go_at_call 80
      (with_reducible refine (LK.out _).mono ?_)
      rintro e w4 ⟨rfl, hb4⟩
      have HN2 := Lib.hid (hbl.out.trans (hb4.mono hwr))
      clear hb4
      by_cases hml : (m : Int) < (L : Int)
      · have HV : Hid ((L : Int) = (mxl fP fQ (k + 1) : Nat)) := by
          have := HS.out
          show _ = _
          omega
        go_wp2
        go_roundw
        case rel => exact ⟨k + 1, by omega, by go_num, vint HV.out, HN2.out⟩
        case measure => simp [intOf]; omega
      · have HV : Hid ((m : Int) = (mxl fP fQ (k + 1) : Nat)) := by
          have := HS.out
          show _ = _
          omega
        go_wp2
        go_roundw
        case rel => exact ⟨k + 1, by omega, by go_num, vint HV.out, HN2.out⟩
        case measure => simp [intOf]; omega
    · obtain rfl : k = nn := by omega
      have HE := Lib.hid B4.out.below
      go_wp2
      go_ret
      exact ⟨rfl, HE.out⟩

/-- Three cells in a row. -/
def Cell3 (w : World) (b o : Nat) (x y z : Value) : Prop := b < w.heap.size ∧ w.cell? ⟨b, o, none⟩ = some x ∧ w.cell? ⟨b, o + 1, none⟩ = some y ∧ w.cell? ⟨b, o + 2, none⟩ = some z
theorem Cell3.below {w w' : World} {b o : Nat} {x y z : Value} (h : Cell3 w b o x y z) (hb : Below w.heap.size w w') : Cell3 w' b o x y z :=
  ⟨Nat.lt_of_lt_of_le h.1 hb.size, (hb.cell (p := ⟨b, _, none⟩) h.1).trans h.2.1, (hb.cell (p := ⟨b, _, none⟩) h.1).trans h.2.2.1, (hb.cell (p := ⟨b, _, none⟩) h.1).trans h.2.2.2⟩
theorem Bag.cell3 {w0 w : World} {B : World → Prop} {b o : Nat} {x y z : Value} (h : Bag w0 B w) (q : Cell3 w b o x y z) : Bag w0 (fun v => Cell3 v b o x y z ∧ B v) w := h.add (fun _ _ hb q => Cell3.below q hb) q

set_option maxHeartbeats 3200000 in
set_option maxRecDepth 100000 in
theorem r6Bytes_any (cs : Array Value) (S : Nat → Int) (r : Nat) (ch : Bool) (g : Nat → Int) (tn : Nat) (fB : Nat → Bool) (fS fT : Nat → ByteArray) (nn : Nat) (fP : Nat → Int) (fQ : Nat → Nat) (w : World) (h : PlnAt w cs S r ch g tn fB fS fT nn) (hN : NumOk fB fS fT fP fQ nn) (hr : r ≤ 1000) (hn : nn ≤ 1000000) (ht : tn ≤ 1000000) :
    Calls Tryz.prog 39 #[.agg cs] w fun e w' => e = .returned (.int .i64 (16 + 4 * r + tn + byt fP fQ nn : Nat)) ∧ Below w.heap.size w w' := by
  obtain ⟨sa, sc, ta, tc, na, nc, rfl, h1, h2, h3⟩ := h
  have hl := h3.len
  have BB := Lib.hid (((Bag.start w).qrow h3).newRow (plC sa r sc ch ta tn tc na nn nc) 46)
  have LM : Hid (∀ j, j < nn → (∀ wz, Calls Tryz.prog 82 #[.string (fS j)] wz fun e w' => e = .returned (.int .i64 (lbs (fP j).natAbs : Nat)) ∧ Below wz.heap.size wz w') ∧ (∀ wz, Calls Tryz.prog 82 #[.string (fT j)] wz fun e w' => e = .returned (.int .i64 (lbs (fQ j) : Nat)) ∧ Below wz.heap.size wz w') ∧ lbs (fP j).natAbs ≤ 1000000 ∧ lbs (fQ j) ≤ 1000000) := fun j hj => by
    obtain ⟨_, e2, e3, _, e4, e5⟩ := hN j hj
    refine ⟨fun wz => ?_, fun wz => ?_, Nat.le_trans (lbs_le7 e4) (by decide), Nat.le_trans (lbs_le7 e5) (by decide)⟩
    · rw [e2]; exact rlimbs_any _ 14 wz (by omega) (by omega) (ten60 e4)
    · rw [e3]; exact rlimbs_any _ 14 wz (by omega) (by omega) (ten60 e5)
  have hw1 := IntWalk.i64_in (4 * (r : Int)) (by omega)
  have hw2 := IntWalk.i64_in (16 + 4 * (r : Int)) (by omega)
  have hw4 := IntWalk.i64_in (16 + 4 * (r : Int) + tn) (by omega)
  have HT : Hid (16 + 4 * (r : Int) + tn = 16 + 4 * (r : Int) + tn + (byt fP fQ 0 : Nat)) := by
    show _ = _
    simp [byt]
  have HBY : Hid (∀ k, k ≤ nn → byt fP fQ k ≤ k * 8000008) := byt_le (L := 1000000) (fun j hj => (LM.out j hj).2.2)
  unfold plC at BB
  unfold plC
  have H0 := Lib.hid BB.out.below
  clear h1 h2 h3 hN
  go_enter Tryz.func39, Tryz.ntmps39
  go_wp2_with fail
  generalize w.alloc (.cells #[.slice sa r sc, .bool ch, .slice ta tn tc, .slice na nn nc] 46) = y0 at *
  go_loopw [3, 4] (fun s i wr => ∃ k : Nat, k ≤ nn ∧ i = .int .i64 k ∧ s = .int .i64 (16 + 4 * (r : Int) + tn + (byt fP fQ k : Nat)) ∧ Hid (Below y0.heap.size y0 wr)) (fun _ i _ => nn - (intOf i).toNat)
  case atStart => exact ⟨0, by omega, rfl, vint HT.out, Below.refl _ _⟩
  case round =>
    obtain ⟨k, hk, rfl, rfl, hbl⟩ := hrel
    have B4 := Lib.hid (BB.out.go hbl.out)
    obtain ⟨x0, x1, x2, x3⟩ := pl_cells B4.out.now.1
    have hb1 := HBY.out k hk
    by_cases hlt : k < nn
    · obtain ⟨b, off, rfl, hb, c1, c2, c3⟩ := B4.out.now.2.1.get hlt
      obtain ⟨L1, L2, l1, l2⟩ := LM.out k hlt
      have L1 := Lib.hid L1
      have L2 := Lib.hid L2
      have hs : byt fP fQ (k + 1) = byt fP fQ k + (8 + 4 * (lbs (fP k).natAbs + lbs (fQ k))) := rfl
      have HS : Hid ((16 + 4 * (r : Int) + tn + (byt fP fQ k : Nat)) + 8 + 4 * ((lbs (fP k).natAbs : Nat) + (lbs (fQ k) : Nat) : Int) = 16 + 4 * (r : Int) + tn + (byt fP fQ (k + 1) : Nat)) := by
        show _ = _
        rw [hs]; omega
      have hwr := hbl.out.size
      have w1 := IntWalk.i64_in ((lbs (fP k).natAbs : Nat) + (lbs (fQ k) : Nat) : Int) (by omega)
      have w2 := IntWalk.i64_in (4 * ((lbs (fP k).natAbs : Nat) + (lbs (fQ k) : Nat) : Int)) (by omega)
      have w3 := IntWalk.i64_in ((16 + 4 * (r : Int) + tn + (byt fP fQ k : Nat)) + 8) (by omega)
      have w4 := IntWalk.i64_in ((16 + 4 * (r : Int) + tn + (byt fP fQ k : Nat)) + 8 + 4 * ((lbs (fP k).natAbs : Nat) + (lbs (fQ k) : Nat) : Int)) (by omega)
      have BX := Lib.hid (((Bag.start wr).row B4.out.now.1).cell3 (b := b) (o := off + k * 3) ⟨hb, c1, c2, c3⟩)
      clear hb1 hs l1 l2
      generalize lbs (fP k).natAbs = lx at *
      generalize lbs (fQ k) = ly at *
      generalize 16 + 4 * (r : Int) + tn + (byt fP fQ k : Nat) = sm at *
      generalize fB k = u1 at *
      generalize fS k = u2 at *
      generalize fT k = u3 at *
      go_wp2_with fail
      have BX := Lib.hid BX.out.drew
      go_region_held3 (fun y => y.cell? ⟨w.heap.size, 0, none⟩ = some (.slice sa r sc) ∧ y.cell? ⟨w.heap.size, 1, none⟩ = some (.bool ch) ∧ y.cell? ⟨w.heap.size, 2, none⟩ = some (.slice ta tn tc) ∧ y.cell? ⟨w.heap.size, 3, none⟩ = some (.slice (some ⟨b, off, none⟩) nn nc) ∧ y.cell? ⟨b, off + k * 3 + 1, none⟩ = some (.string u2) ∧ y.cell? ⟨b, off + k * 3 + 2, none⟩ = some (.string u3))
        (exact ⟨BX.out.now.2.1.cell 0, BX.out.now.2.1.cell 1, BX.out.now.2.1.cell 2, BX.out.now.2.1.cell 3, BX.out.now.1.2.2.1, BX.out.now.1.2.2.2⟩)
        (first
          | (go_at_call 82; (with_reducible refine (L1.out _).mono ?_); rintro e w6 ⟨rfl, hb6⟩; have BX := Lib.hid (BX.out.go hb6))
          | (go_at_call 82; (with_reducible refine (L2.out _).mono ?_); rintro e w7 ⟨rfl, hb7⟩; have BX := Lib.hid (BX.out.go hb7)))
      have HN2 := Lib.hid (hbl.out.trans (BX.out.below.mono hwr))
      go_wp2
      go_roundw
      case rel => exact ⟨k + 1, by omega, by go_num, vint HS.out, HN2.out⟩
      case measure => simp [intOf]; omega
    · obtain rfl : k = nn := by omega
      have HE : Hid (Ending.returned (.int .i64 (16 + 4 * (r : Int) + tn + (byt fP fQ k : Nat))) = .returned (.int .i64 (16 + 4 * r + tn + byt fP fQ k : Nat)) ∧ Below w.heap.size w wr) := ⟨ret_int (by omega), B4.out.below⟩
      generalize 16 + 4 * (r : Int) + tn + (byt fP fQ k : Nat) = sm at *
      clear hb1
      go_wp2
      go_ret
      exact HE.out

/-- The cells of the first integers. -/
def kcs (ki : IntKind) (f : Nat → Int) : Nat → List Value
  | 0 => []
  | k + 1 => kcs ki f k ++ [.int ki (f k)]
theorem kcs_length (ki : IntKind) (f : Nat → Int) : ∀ k, (kcs ki f k).length = k
  | 0 => rfl
  | k + 1 => by unfold kcs; rw [List.length_append, kcs_length ki f k]; rfl
theorem kcs_get (ki : IntKind) (f : Nat → Int) : ∀ k j, j < k → (kcs ki f k)[j]? = some (.int ki (f j))
  | 0, j, h => absurd h (Nat.not_lt_zero _)
  | k + 1, j, h => by
    have hl := kcs_length ki f k
    unfold kcs
    rcases Nat.lt_or_ge j k with h1 | h1
    · rw [List.getElem?_append_left (by omega)]
      exact kcs_get ki f k j h1
    · obtain rfl : j = k := by omega
      rw [List.getElem?_append_right (by omega), hl, Nat.sub_self]
      rfl
theorem KRow.of_own {w : World} {base : Nat} {e : TypeId} {v : Value} {n : Nat} {ki : IntKind} {f : Nat → Int} (h : w.ownsRow base e 1 v n (kcs ki f n)) : ∃ a c, v = .slice a n c ∧ KRow w ki a n c f := by
  rcases h.2 with ⟨rfl, rfl⟩ | ⟨g, cap, cur, rfl, _, hh, h1, h2, _, hcs⟩
  · exact ⟨none, 0, rfl, KRow.nought _ _ _ _ (Nat.zero_le _) _⟩
  · refine ⟨some ⟨g, 0, none⟩, cap, rfl, h1, h2, .inr ⟨g, 0, rfl, Row.lt (t := e) hh, fun j hj => ?_⟩⟩
    have := h.cells (g := g) rfl j _ (kcs_get ki f n j hj)
    rwa [show (⟨g, 0, none⟩ : Addr).add j = ⟨g, 0 + j, none⟩ by unfold Addr.add; split <;> simp_all] at this

set_option maxHeartbeats 3200000 in
set_option maxRecDepth 100000 in
theorem r6Whole_any (cs : Array Value) (S : Nat → Int) (r : Nat) (ch : Bool) (g : Nat → Int) (tn : Nat) (fB : Nat → Bool) (fS fT : Nat → ByteArray) (nn : Nat) (fP : Nat → Int) (fQ : Nat → Nat) (w : World) (h : PlnAt w cs S r ch g tn fB fS fT nn) (hN : NumOk fB fS fT fP fQ nn) (hn : nn ≤ 1000000) :
    Calls Tryz.prog 22 #[.agg cs] w fun e w' => WhTold (decide (tn = 0) && whB fP fQ nn) nn fP w w' e := by
  obtain ⟨sa, sc, ta, tc, na, nc, rfl, h1, h2, h3⟩ := h
  have hl := h3.len
  have hl2 := h2.len
  obtain ⟨i0, hi, hz0, hz1, hz2⟩ := info_parts infoI
  have BB := Lib.hid (((Bag.start w).qrow h3).newRow (plC sa r sc ch ta tn tc na nn nc) 46)
  have IN : Hid (∀ j, j < nn → ∀ wz, Calls Tryz.prog 75 #[.agg #[.bool (fB j), .string (fS j), .string (fT j)]] wz fun e w' => e = .returned (.tuple #[.int .i64 (if fQ j = 1 then fitI (fP j) else 0), .bool (decide (fQ j = 1) && fitB (fP j))]) ∧ Below wz.heap.size wz w') := fun j hj wz => by
    obtain ⟨e1, e2, e3, _, e4, e5⟩ := hN j hj
    rw [e1, e2, e3]
    exact r3Int_any (fP j) (fQ j) wz (by omega)
  by_cases h0 : tn = 0
  · rw [decide_eq_true h0, Bool.true_and]
    have d0 : ¬ ((0 : Int) < tn) := by omega
    unfold plC at BB
    unfold plC
    have H0 := Lib.hid BB.out.below
    clear h1 h2 h3 hN h0
    go_enter Tryz.func22, Tryz.ntmps22
    go_wp2_with fail
    generalize w.alloc (.cells #[.slice sa r sc, .bool ch, .slice ta tn tc, .slice na nn nc] 46) = y0 at *
    go_loopw [4, 5] (fun v i wr => ∃ (k : Nat) (a1 : Option Addr) (c1 : Nat), k ≤ nn ∧ i = .int .i64 k ∧ v = .slice a1 k c1 ∧ Hid (Below y0.heap.size y0 wr ∧ wr.ownsRow y0.heap.size 3 1 (.slice a1 k c1) k (kcs .i64 fP k) ∧ whB fP fQ k = true)) (fun _ i _ => nn - (intOf i).toNat)
    case atStart => exact ⟨0, none, 0, by omega, rfl, rfl, Below.refl _ _, World.ownsRow_nil _ _ _ _, rfl⟩
    case round =>
      obtain ⟨k, a1, c1, hk, rfl, rfl, hrel⟩ := hrel
      obtain ⟨hbl, hown, hwh⟩ := hrel.out
      have B4 := Lib.hid (BB.out.go hbl)
      obtain ⟨x0, x1, x2, x3⟩ := pl_cells B4.out.now.1
      by_cases hlt : k < nn
      · obtain ⟨b, off, rfl, hb, c1', c2', c3'⟩ := B4.out.now.2.1.get hlt
        have IK := Lib.hid (IN.out k hlt)
        have HBL := Lib.hid hbl
        have HWH := Lib.hid hwh
        have HOWN := Lib.hid hown
        have hwr := hbl.size
        clear hbl hown hwh
        by_cases hok : (decide (fQ k = 1) && fitB (fP k)) = true
        · have hv : (if fQ k = 1 then fitI (fP k) else 0) = fP k := by
            rw [Bool.and_eq_true, decide_eq_true_eq] at hok
            rw [if_pos hok.1]; unfold fitI; rw [if_pos hok.2]
          have HW2 : Hid (whB fP fQ (k + 1) = true) := by show (whB fP fQ k && _) = true; rw [HWH.out, hok]; rfl
          have HMX := Lib.hid (show k + 1 ≤ maxLen by unfold maxLen; omega)
          have HMY := Lib.hid (show (k + 1) * 8 ≤ 140737488355328 by omega)
          have HK2 : Hid (kcs .i64 fP (k + 1) = kcs .i64 fP k ++ [.int .i64 (fP k)]) := rfl
          rw [hok, hv] at IK
          clear hok hv
          generalize fB k = u1 at *
          generalize fS k = u2 at *
          generalize fT k = u3 at *
          generalize hx : fP k = x at *
          clear hx
          go_wp2_with fail
          go_at_call 75
          (with_reducible refine (IK.out _).mono ?_)
          rintro e w4 ⟨rfl, hb4⟩
          have HO2 := Lib.hid (own_below (own_below HOWN.out hb4) ((Below.refl _ _).alloc (Nat.le_refl _) (.cells #[.int .i64 x] 3)))
          have HNEW := Lib.hid (World.news_of_block (Row.new w4 3 #[.int .i64 x]))
          have HBA : Hid (y0.heap.size ≤ (w4.alloc (.cells #[.int .i64 x] 3)).heap.size) := Lib.hid (by have := HBL.out.size; have := hb4.size; rw [World.size_alloc]; omega)
          have HB2 := Lib.hid ((HBL.out.trans (hb4.mono hwr)).trans ((Below.refl _ _).alloc (by have := HBL.out.size; have := hb4.size; omega) (.cells #[.int .i64 x] 3)))
          clear hb4
          go_wp2_with (at_builtin; refine wpList_append_lies _ rfl (.tmp 30) (.tmp 32) 43 rfl y0.heap.size 3 i0 _ 1 8 Tryz.underlying43 hi hz0 hz1 hz2 rfl (by omega) (.slice a1 k c1) k _ rfl HO2.out ⟨w4.heap.size, 0, none⟩ 1 1 [.int .i64 x] rfl rfl HNEW.out ?q1 (by omega) HMX.out HMY.out HBA.out _ rfl ?_)
          case q1 => intro u hu; simp at hu; subst hu; rfl
          intro g9 cap9 w5 hown5 hgrow _ _
          have HN2 : Hid (Below y0.heap.size y0 w5 ∧ w5.ownsRow y0.heap.size 3 1 (.slice (some ⟨g9, 0, none⟩) (k + 1) cap9) (k + 1) (kcs .i64 fP (k + 1)) ∧ whB fP fQ (k + 1) = true) :=
            Lib.hid ⟨HB2.out.trans ⟨hgrow.os, hgrow.tape, hgrow.output, hgrow.size, fun j hj => hgrow.block j (Nat.lt_of_lt_of_le hj HB2.out.size) (fun e => by have := (HO2.out.lt j e.symm).1; omega)⟩, by rw [HK2.out]; exact hown5, HW2.out⟩
          clear hown5 hgrow
          go_wp2
          go_roundw
          case rel => exact ⟨k + 1, _, cap9, by omega, by go_num, rfl, HN2.out⟩
          case measure => simp [intOf]; omega
        · rw [Bool.not_eq_true] at hok
          have hno : whB fP fQ nn = false := by
            cases hx : whB fP fQ nn with
            | false => rfl
            | true =>
              have := whB_le (k := k + 1) (by omega) hx
              unfold whB at this
              rw [hok, Bool.and_false] at this
              exact this.symm
          have HNO := Lib.hid hno
          rw [hok] at IK
          clear hok hno
          generalize (if fQ k = 1 then fitI (fP k) else 0) = x at *
          generalize fB k = u1 at *
          generalize fS k = u2 at *
          generalize fT k = u3 at *
          go_wp2_with fail
          go_at_call 75
          (with_reducible refine (IK.out _).mono ?_)
          rintro e w4 ⟨rfl, hb4⟩
          have HE : Hid (WhTold (whB fP fQ nn) nn fP w w4 (.returned (.tuple #[.slice none 0 0, .bool false]))) := Lib.hid (by
            rw [HNO.out]
            exact ⟨_, _, _, rfl, by rw [if_neg (by decide)]; exact ⟨rfl, rfl, rfl⟩, (B4.out.go hb4).below⟩)
          clear hb4
          go_wp2
          go_ret2
          exact HE.out
      · obtain rfl : k = nn := by omega
        obtain ⟨a9, c9, he, hq⟩ := KRow.of_own hown
        injection he with he1 _ he2
        subst he1 he2
        have HE : Hid (WhTold (whB fP fQ k) k fP w wr (.returned (.tuple #[.slice a1 k c1, .bool true]))) := Lib.hid (by
          rw [hwh]
          exact ⟨_, _, _, rfl, by rw [if_pos rfl]; exact ⟨rfl, hq⟩, B4.out.below⟩)
        clear hbl hown hwh hq
        go_wp2
        go_ret2
        exact HE.out
  · rw [decide_eq_false h0, Bool.false_and]
    have d1 : (0 : Int) < tn := by omega
    have HE : Hid (WhTold false nn fP w (w.alloc (.cells (plC sa r sc ch ta tn tc na nn nc) 46)) (.returned (.tuple #[.slice none 0 0, .bool false]))) := Lib.hid
      ⟨_, _, _, rfl, by rw [if_neg (by decide)]; exact ⟨rfl, rfl, rfl⟩, BB.out.below⟩
    unfold plC at HE
    unfold plC
    clear h1 h2 h3 hN h0
    go_enter Tryz.func22, Tryz.ntmps22
    go_wp2
    go_ret2
    exact HE.out

end Go.Proofs.YtdnbpkbapmlfaaaGreatDoor
