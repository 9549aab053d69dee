/-
  Package deci: Show, by contract.
-/
import Derived.Test.YtgpcfncolhmgfaaGreatDoorDe5
import Derived.Test.YtgpcfncolhmgfaaGreatDoorRa1
namespace Go.Proofs.YtgpcfncolhmgfaaGreatDoor
open Go.RowKit
attribute [local go_sem ↓] Go.wp_at_zero Go.wp_at_succ

/-- How many digits: one at least. -/
def shN (many : Int) : Nat := (max many 1).toNat
/-- The number of the digits of a number above nought. -/
def shM (P Q : Nat) (many : Int) : Nat := mM (sT P Q) (sB P Q) (shN many)
/-- A number above nought as a text. -/
def shA (P Q : Nat) (many : Int) : ByteArray := wrS (zd (shM P Q many)) (sE P Q + (dl (shM P Q many) : Int) - (shN many : Int)) (shN many)
/-- A number as a text. -/
def shS (P : Int) (Q : Nat) (many : Int) : ByteArray := if P = 0 then ⟨#[48]⟩ else if P < 0 then hi ++ shA P.natAbs Q many else shA P.natAbs Q many

theorem zd_len (N : Nat) : (zd N).length ≤ dl N := by
  unfold zd
  refine Nat.le_trans (trimR_len _ _) ?_
  unfold dec
  rw [sdig_length]; exact Nat.le_refl _
theorem mM_dl {T B : Nat} (hB : 0 < B) (hTB : T < B) {k : Nat} : dl (mM T B k) ≤ k + 1 := by
  refine dl_le _ _ (by omega) ?_
  rw [mM_full hB]
  have := g_lt hTB k
  have h2 : (10 : Nat) ^ k < 10 ^ (k + 1) := Nat.pow_lt_pow_right (by omega) (by omega)
  split <;> omega
theorem wrS_size (d : List UInt8) (e many : Int) (hd : d.length ≤ 10000) (he : e ≤ 10000 ∧ -10000 ≤ e) : (wrS d e many).size ≤ 100000 := by
  unfold wrS
  have h1 := pt_len d 1
  have h2 := pt_len d (e + 1).toNat
  have h3 := digS_len e hi
  have hdl := dl_le e.natAbs 5 (by omega) (by omega)
  have hh : hi.size = 2 := rfl
  split
  · rw [ByteArray.size_append, ByteArray.size_append, str_size, show (⟨#[69]⟩ : ByteArray).size = 1 from rfl]; omega
  · split
    · rw [ByteArray.size_append, ByteArray.size_append, str_size, str_size, List.length_replicate, show (⟨#[48, 46]⟩ : ByteArray).size = 2 from rfl]; omega
    · rw [str_size]; omega

set_option linter.unusedSimpArgs false in
set_option maxHeartbeats 6400000 in
set_option maxRecDepth 100000 in
theorem deShow_any (a : Option Addr) (n c : Nat) (m : Bool) (a2 : Option Addr) (n2 c2 : Nat) (P : Int) (Q : Nat) (many : Int) (w : World) (h : RatAt w a n c m a2 n2 c2 P Q) (hQ0 : 0 < Q)
    (K : Nat) (hK : K ≤ 1000) (hK2 : 200 ≤ K) (hP : P.natAbs < 4294967296 ^ K) (hQ : Q < 4294967296 ^ K) (hd : dl P.natAbs ≤ 1500) (hd' : dl Q ≤ 1500) (hm : many ≤ 1000) (hm0 : -9223372036854775808 ≤ many) :
    Calls Tryz.prog 12 #[.agg #[.slice a n c, .bool m, .slice a2 n2 c2], .int .i64 many] w fun x w' => x = .returned (.string (shS P Q many)) ∧ Below w.heap.size w w' := by
  have BB := Lib.hid (((Bag.start w).rat h).box3 (.slice a n c) (.bool m) (.slice a2 n2 c2) 30)
  have SG := Lib.hid (fun wz hz => ratSign_any a n c m a2 n2 c2 P Q wz hz)
  clear h
  unfold shS
  by_cases h0 : P = 0
  · subst h0
    rw [if_pos rfl]
    rw [show sgnI 0 = 0 from rfl] at SG
    have q0 := BB.out.now.1.cell
    have q1 := BB.out.now.1.cell1
    have q2 := BB.out.now.1.cell2
    go_enter Tryz.func12, Tryz.ntmps12
    go_wp2_with fail
    go_at_call 27
    refine (SG.out _ BB.out.now.2.1).mono ?_
    rintro x w2 ⟨rfl, hb2⟩
    have BB := Lib.hid (BB.out.go hb2)
    clear hb2 q0 q1 q2
    go_wp2
    go_ret
    exact ⟨rfl, BB.out.below⟩
  · rw [if_neg h0]
    have sb0 : (sgnI P == 0) = false := by
      unfold sgnI
      by_cases h1 : P < 0
      · rw [if_pos h1]; rfl
      · rw [if_neg h1, if_neg h0]; rfl
    have sb1 : decide (sgnI P = 0) = false := by
      unfold sgnI
      by_cases h1 : P < 0
      · rw [if_pos h1]; rfl
      · rw [if_neg h1, if_neg h0]; rfl
    have sb2 : decide (sgnI P < 0) = decide (P < 0) := by
      unfold sgnI
      by_cases h1 : P < 0
      · rw [if_pos h1, decide_eq_true h1]; rfl
      · rw [if_neg h1, if_neg h0, decide_eq_false h1]; rfl
    have TPc := Lib.hid (fun wz hz => top_any a n c m a2 n2 c2 P Q wz hz)
    have SZ := Lib.hid (fun wz hz => size_any a n c m P wz hz)
    have BT := Lib.hid (fun wz hz => bot_any a n c m a2 n2 c2 P Q wz hz hQ0)
    obtain ⟨hT0, hB0, hTB, hBT⟩ := s_spec (P := P.natAbs) (Q := Q) (by omega) hQ0
    obtain ⟨N, hN⟩ : ∃ N, shN many = N := ⟨_, rfl⟩
    have hNb : 1 ≤ N ∧ N ≤ 1000 ∧ (N : Int) = max many 1 := by rw [← hN]; unfold shN; omega
    have hmx : max many 1 = (N : Int) := hNb.2.2.symm
    have hmn : min (N : Int) 2147483647 = (N : Int) := by omega
    have FD := Lib.hid (fun b k l wz (h : NatIs wz (.agg #[.slice a n c]) P.natAbs) (g : NatIs wz (.agg #[.slice b k l]) Q) => firstDigits_any a n c b k l P.natAbs Q N wz h g (by omega) hQ0 K hK hK2 hP hQ hd hd' hNb.1 hNb.2.1)
    have hMd := mM_dl hB0 hTB (k := N)
    have hEb : sE P.natAbs Q ≤ 1501 ∧ -1502 ≤ sE P.natAbs Q := by
      unfold sE e0
      split <;> omega
    have hzl := zd_len (mM (sT P.natAbs Q) (sB P.natAbs Q) N)
    have hMp := dl_pos (mM (sT P.natAbs Q) (sB P.natAbs Q) N)
    have hsA : shA P.natAbs Q many = wrS (zd (mM (sT P.natAbs Q) (sB P.natAbs Q) N)) (sE P.natAbs Q + (dl (mM (sT P.natAbs Q) (sB P.natAbs Q) N) : Int) - (N : Int)) N := by
      unfold shA shM; rw [hN]
    rw [hsA]
    generalize zd (mM (sT P.natAbs Q) (sB P.natAbs Q) N) = d at *
    have heb : sE P.natAbs Q + (dl (mM (sT P.natAbs Q) (sB P.natAbs Q) N) : Int) - (N : Int) ≤ 10000 ∧ -10000 ≤ sE P.natAbs Q + (dl (mM (sT P.natAbs Q) (sB P.natAbs Q) N) : Int) - (N : Int) := by omega
    generalize sE P.natAbs Q + (dl (mM (sT P.natAbs Q) (sB P.natAbs Q) N) : Int) - (N : Int) = e at *
    have WR := Lib.hid (fun wz => deWritten_any d e N wz (by omega) heb)
    have hws := wrS_size d e N (by omega) heb
    unfold IntTold2 at TPc
    unfold NatTold2 at SZ
    unfold NatTold at BT
    clear hsA hMd hEb hzl hMp heb hT0 hB0 hTB hBT hP hQ hd hd' hN hNb
    generalize str d = s1 at *
    generalize wrS d e N = s2 at *
    have HO1 : Hid (P < 0 → (if P < 0 then hi ++ s2 else s2) = hi ++ s2) := fun h => if_pos h
    have HO2 : Hid (¬ P < 0 → (if P < 0 then hi ++ s2 else s2) = s2) := fun h => if_neg h
    generalize (if P < 0 then hi ++ s2 else s2) = out at *
    obtain ⟨sg, hsg⟩ : ∃ sg, sgnI P = sg := ⟨_, rfl⟩
    rw [hsg] at SG sb0 sb1 sb2
    clear hsg
    have q0 := BB.out.now.1.cell
    have q1 := BB.out.now.1.cell1
    have q2 := BB.out.now.1.cell2
    go_enter Tryz.func12, Tryz.ntmps12
    go_wp2_with fail
    go_at_call 27
    refine (SG.out _ BB.out.now.2.1).mono ?_
    rintro x w2 ⟨rfl, hb2⟩
    have BB := Lib.hid (BB.out.go hb2)
    clear hb2 q0 q1 q2
    go_wp2_with fail
    have BB := Lib.hid BB.out.drew
    go_region_held3 (fun y => y.cell? ⟨w.heap.size, 0, none⟩ = some (.slice a n c) ∧ y.cell? ⟨w.heap.size, 1, none⟩ = some (.bool m) ∧ y.cell? ⟨w.heap.size, 2, none⟩ = some (.slice a2 n2 c2))
      (exact ⟨BB.out.now.1.cell, BB.out.now.1.cell1, BB.out.now.1.cell2⟩)
      (first
        | (go_at_call 32; (with_reducible refine (TPc.out _ BB.out.now.2.1).mono ?_); rintro x w3 ⟨rfl, hi3, hb3⟩; have BB := Lib.hid (BB.out.go hb3))
        | (go_at_call 33; (with_reducible refine (SZ.out _ hi3).mono ?_); rintro x w4 ⟨rfl, hn4, hb4⟩; have BB := Lib.hid ((BB.out.go hb4)))
        | (go_at_call 29; (with_reducible refine (BT.out _ BB.out.now.2.1).mono ?_); rintro x w5 ⟨a5, n5, c5, rfl, hn5, hb5⟩; have BB := Lib.hid (BB.out.go hb5))
        | (go_at_call 31; (with_reducible refine (FD.out _ _ _ _ (hn4.below hb5) hn5).mono ?_); rintro x w6 ⟨rfl, hb6⟩; have BB := Lib.hid (BB.out.go hb6)))
    clear TPc SZ BT FD
    go_wp2_with fail
    go_at_call 34
    refine (WR.out _).mono ?_
    rintro x w7 ⟨rfl, hb7⟩
    have BB := Lib.hid (BB.out.go hb7)
    clear hb7
    have q0 := BB.out.now.1.cell
    have q1 := BB.out.now.1.cell1
    have q2 := BB.out.now.1.cell2
    go_wp2_with fail
    go_at_call 27
    refine (SG.out _ BB.out.now.2.1).mono ?_
    rintro x w8 ⟨rfl, hb8⟩
    have BB := Lib.hid (BB.out.go hb8)
    clear hb8 q0 q1 q2
    by_cases h1 : P < 0
    · rw [decide_eq_true h1] at sb2
      obtain rfl := HO1.out h1
      go_wp2
      go_ret
      exact ⟨rfl, BB.out.below⟩
    · rw [decide_eq_false h1] at sb2
      obtain rfl := HO2.out (by omega)
      go_wp2
      go_ret
      exact ⟨rfl, BB.out.below⟩

end Go.Proofs.YtgpcfncolhmgfaaGreatDoor
