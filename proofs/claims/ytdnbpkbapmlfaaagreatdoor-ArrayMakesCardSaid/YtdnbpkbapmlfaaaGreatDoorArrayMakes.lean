/-
  Proved: the law ArrayMakes of package typeballlaw06 returns true for every plain array and place, under the row's own conditions.
-/
import Derived.Test.YtdnbpkbapmlfaaaGreatDoorAr22
import Derived.Test.YtdnbpkbapmlfaaaGreatDoorInv
import Derived.Test.YtdnbpkbapmlfaaaGreatDoorOp0
import Derived.Test.YtdnbpkbapmlfaaaGreatDoorPl0
import Derived.SizedLaws
import Derived.Test.YtdnbpkbapmlfaaaGreatDoorCards
import Derived.Test.YtdnbpkbapmlfaaaGreatDoorTie
import Derived.LaidMore
import Derived.Lay
import Derived.SevenTiedAt
import Derived.Stop.Joined
namespace Go.Proofs.YtdnbpkbapmlfaaaGreatDoor
open Go.ChangeShapes Go.WideShapes Go.ChangeAt Go.RowKit Go.WideMaps Go.WideElems
attribute [local go_sem ↓] Go.wp_at_zero Go.wp_at_succ

theorem wp_cut5 {P : Program} {x1 x2 x3 x4 x5 R : Code} {Q : Exit → Act → World → Prop} {K : Act → World → Prop} (hk : ∀ a w, (x1.seq (x2.seq (x3.seq (x4.seq (x5.seq R))))).wp P Q a w → K a w) :
    ∃ RW : Act → World → Prop, (∀ a w, R.wp P Q a w → RW a w) ∧ ∀ a w, (∀ K1 K2 K3 K4 : Act → World → Prop, (∀ a w, x2.wp P (Exit.then K2 Q) a w → K1 a w) → (∀ a w, x3.wp P (Exit.then K3 Q) a w → K2 a w) → (∀ a w, x4.wp P (Exit.then K4 Q) a w → K3 a w) → (∀ a w, x5.wp P (Exit.then RW Q) a w → K4 a w) → x1.wp P (Exit.then K1 Q) a w) → K a w :=
  ⟨R.wp P Q, fun _ _ h => h, fun a w h => hk a w (wp_seq (h _ _ _ _ (fun _ _ h => wp_seq h) (fun _ _ h => wp_seq h) (fun _ _ h => wp_seq h) (fun _ _ h => wp_seq h)))⟩
theorem ab_cellsM {w : World} {k : Nat} {t : TypeId} {ch : Bool} {more : Int} {d : Nat → Int} {na : Option Addr} {nn nc : Nat} {ta : Option Addr} {tn tc : Nat} (h : Row w k t #[.bool ch, .int .i64 more, .int .i64 (d 0), .int .i64 (d 1), .int .i64 (d 2), .int .i64 (d 3), .int .i64 (d 4), .int .i64 (d 5), .int .i64 (d 6), .int .i64 (d 7), .slice na nn nc, .slice ta tn tc]) :
    w.cell? ⟨k, 0, none⟩ = some (.bool ch) ∧ w.cell? ⟨k, 1, none⟩ = some (.int .i64 more) ∧ w.cell? ⟨k, 2, none⟩ = some (.int .i64 (d 0)) ∧ w.cell? ⟨k, 3, none⟩ = some (.int .i64 (d 1)) ∧ w.cell? ⟨k, 4, none⟩ = some (.int .i64 (d 2)) ∧ w.cell? ⟨k, 5, none⟩ = some (.int .i64 (d 3)) ∧ w.cell? ⟨k, 6, none⟩ = some (.int .i64 (d 4)) ∧ w.cell? ⟨k, 7, none⟩ = some (.int .i64 (d 5)) ∧ w.cell? ⟨k, 8, none⟩ = some (.int .i64 (d 6)) ∧ w.cell? ⟨k, 9, none⟩ = some (.int .i64 (d 7)) ∧ w.cell? ⟨k, 10, none⟩ = some (.slice na nn nc) ∧ w.cell? ⟨k, 11, none⟩ = some (.slice ta tn tc) :=
  ⟨h.cell 0, h.cell 1, h.cell 2, h.cell 3, h.cell 4, h.cell 5, h.cell 6, h.cell 7, h.cell 8, h.cell 9, h.cell 10, h.cell 11⟩
theorem num_cells {w : World} {k : Nat} {t : TypeId} {a b c : Value} (h : Row w k t #[a, b, c]) : w.cell? ⟨k, 0, none⟩ = some a ∧ w.cell? ⟨k, 1, none⟩ = some b ∧ w.cell? ⟨k, 2, none⟩ = some c := ⟨h.cell 0, h.cell 1, h.cell 2⟩
theorem keep2 {w : World} {k6 kp : Nat} {t1 t2 : TypeId} {ch : Bool} {more : Int} {d : Nat → Int} {na2 : Option Addr} {nn nc2 : Nat} {ta2 : Option Addr} {tn tc2 : Nat} {sa : Option Addr} {r sc : Nat} {ta : Option Addr} {tc : Nat} {na : Option Addr} {nc : Nat} (h : Row w k6 t1 #[.bool ch, .int .i64 more, .int .i64 (d 0), .int .i64 (d 1), .int .i64 (d 2), .int .i64 (d 3), .int .i64 (d 4), .int .i64 (d 5), .int .i64 (d 6), .int .i64 (d 7), .slice na2 nn nc2, .slice ta2 tn tc2]) (h2 : Row w kp t2 #[.slice sa r sc, .bool ch, .slice ta tn tc, .slice na nn nc]) :
    w.cell? ⟨k6, 0, none⟩ = some (.bool ch) ∧ w.cell? ⟨k6, 1, none⟩ = some (.int .i64 more) ∧ w.cell? ⟨k6, 2, none⟩ = some (.int .i64 (d 0)) ∧ w.cell? ⟨k6, 3, none⟩ = some (.int .i64 (d 1)) ∧ w.cell? ⟨k6, 4, none⟩ = some (.int .i64 (d 2)) ∧ w.cell? ⟨k6, 5, none⟩ = some (.int .i64 (d 3)) ∧ w.cell? ⟨k6, 6, none⟩ = some (.int .i64 (d 4)) ∧ w.cell? ⟨k6, 7, none⟩ = some (.int .i64 (d 5)) ∧ w.cell? ⟨k6, 8, none⟩ = some (.int .i64 (d 6)) ∧ w.cell? ⟨k6, 9, none⟩ = some (.int .i64 (d 7)) ∧ w.cell? ⟨k6, 10, none⟩ = some (.slice na2 nn nc2) ∧ w.cell? ⟨k6, 11, none⟩ = some (.slice ta2 tn tc2) ∧ w.cell? ⟨kp, 0, none⟩ = some (.slice sa r sc) ∧ w.cell? ⟨kp, 1, none⟩ = some (.bool ch) ∧ w.cell? ⟨kp, 2, none⟩ = some (.slice ta tn tc) ∧ w.cell? ⟨kp, 3, none⟩ = some (.slice na nn nc) :=
  ⟨h.cell 0, h.cell 1, h.cell 2, h.cell 3, h.cell 4, h.cell 5, h.cell 6, h.cell 7, h.cell 8, h.cell 9, h.cell 10, h.cell 11, h2.cell 0, h2.cell 1, h2.cell 2, h2.cell 3⟩
theorem keep3 {w : World} {k9 k6 kp : Nat} {t0 t1 t2 : TypeId} {z1 : Bool} {z2 z3 : ByteArray} {ch : Bool} {more : Int} {d : Nat → Int} {na2 : Option Addr} {nn nc2 : Nat} {ta2 : Option Addr} {tn tc2 : Nat} {sa : Option Addr} {r sc : Nat} {ta : Option Addr} {tc : Nat} {na : Option Addr} {nc : Nat} (h0 : Row w k9 t0 #[.bool z1, .string z2, .string z3]) (h : Row w k6 t1 #[.bool ch, .int .i64 more, .int .i64 (d 0), .int .i64 (d 1), .int .i64 (d 2), .int .i64 (d 3), .int .i64 (d 4), .int .i64 (d 5), .int .i64 (d 6), .int .i64 (d 7), .slice na2 nn nc2, .slice ta2 tn tc2]) (h2 : Row w kp t2 #[.slice sa r sc, .bool ch, .slice ta tn tc, .slice na nn nc]) :
    w.cell? ⟨k6, 0, none⟩ = some (.bool ch) ∧ w.cell? ⟨k6, 1, none⟩ = some (.int .i64 more) ∧ w.cell? ⟨k6, 2, none⟩ = some (.int .i64 (d 0)) ∧ w.cell? ⟨k6, 3, none⟩ = some (.int .i64 (d 1)) ∧ w.cell? ⟨k6, 4, none⟩ = some (.int .i64 (d 2)) ∧ w.cell? ⟨k6, 5, none⟩ = some (.int .i64 (d 3)) ∧ w.cell? ⟨k6, 6, none⟩ = some (.int .i64 (d 4)) ∧ w.cell? ⟨k6, 7, none⟩ = some (.int .i64 (d 5)) ∧ w.cell? ⟨k6, 8, none⟩ = some (.int .i64 (d 6)) ∧ w.cell? ⟨k6, 9, none⟩ = some (.int .i64 (d 7)) ∧ w.cell? ⟨k6, 10, none⟩ = some (.slice na2 nn nc2) ∧ w.cell? ⟨k6, 11, none⟩ = some (.slice ta2 tn tc2) ∧ w.cell? ⟨kp, 0, none⟩ = some (.slice sa r sc) ∧ w.cell? ⟨kp, 1, none⟩ = some (.bool ch) ∧ w.cell? ⟨kp, 2, none⟩ = some (.slice ta tn tc) ∧ w.cell? ⟨kp, 3, none⟩ = some (.slice na nn nc) ∧ w.cell? ⟨k9, 0, none⟩ = some (.bool z1) ∧ w.cell? ⟨k9, 1, none⟩ = some (.string z2) ∧ w.cell? ⟨k9, 2, none⟩ = some (.string z3) :=
  ⟨h.cell 0, h.cell 1, h.cell 2, h.cell 3, h.cell 4, h.cell 5, h.cell 6, h.cell 7, h.cell 8, h.cell 9, h.cell 10, h.cell 11, h2.cell 0, h2.cell 1, h2.cell 2, h2.cell 3, h0.cell 0, h0.cell 1, h0.cell 2⟩
theorem WhTold.row {b : Bool} {n : Nat} {f : Nat → Int} {w w' : World} {e : Ending} (h : WhTold b n f w w' e) : ∃ a m c, e = .returned (.tuple #[.slice a m c, .bool b]) ∧ m = (if b then n else 0) ∧ KRow w' .i64 a m c f ∧ Below w.heap.size w w' := by
  obtain ⟨a, m, c, he, h2, hb⟩ := h
  cases b with
  | true =>
    rw [if_pos rfl] at h2
    obtain ⟨rfl, hk⟩ := h2
    exact ⟨a, m, c, he, rfl, hk, hb⟩
  | false =>
    rw [if_neg (by decide)] at h2
    obtain ⟨rfl, rfl, rfl⟩ := h2
    exact ⟨none, 0, 0, he, rfl, KRow.nought _ _ _ _ (Nat.zero_le _) _, hb⟩
theorem wholeG_any (ch : Bool) (S : Nat → Int) (r : Nat) (na : Option Addr) (nn nc : Nat) (ta : Option Addr) (tn tc : Nat) (fP : Nat → Int) (fQ : Nat → Nat) (g : Nat → Int) (w : World) (h : RRow w na nn nc fP fQ) (h2 : KRow w .i32 ta tn tc g) (hf : ch = false → ta = none ∧ tc = 0) (hg : ch = true → na = none ∧ nc = 0) (h0 : ch = true → nn = 0) (h1 : ch = false → tn = 0) (hQ : ∀ j, j < nn → 0 < fQ j) (hn : nn ≤ 1000000) (ht : tn ≤ 1000000) :
    Calls Tryz.prog 21 #[.agg (arrC ch ((r : Int) - 1) (dm S r) na nn nc ta tn tc)] w fun e w' => ∃ a m c, e = .returned (.tuple #[.slice a m c, .bool (decide (tn = 0) && whB fP fQ nn)]) ∧ m = (if (decide (tn = 0) && whB fP fQ nn) then nn else 0) ∧ KRow w' .i64 a m c fP ∧ Below w.heap.size w w' := by
  cases ch with
  | true =>
    obtain rfl := h0 rfl
    obtain ⟨rfl, rfl⟩ := hg rfl
    refine (wholeC_any _ S r tn g w ⟨ta, tc, rfl, h2⟩ ht).mono ?_
    intro e w' hw
    obtain ⟨a, m, c, he, hm, hk, hb⟩ := hw.row
    have e1 : (decide (tn = 0) && whB fP fQ 0) = decide (tn = 0) := Bool.and_true _
    have hm0 : m = 0 := by rw [hm]; split <;> rfl
    subst hm0
    rw [e1]
    exact ⟨a, 0, c, he, by split <;> rfl, ⟨hk.1, hk.2.1, .inl rfl⟩, hb⟩
  | false =>
    obtain rfl := h1 rfl
    obtain ⟨rfl, rfl⟩ := hf rfl
    rw [decide_eq_true rfl, Bool.true_and]
    exact (whole6_any _ S r nn fP fQ w ⟨na, nc, rfl, h⟩ hQ hn).mono fun e w' hw => hw.row
theorem Bag.numC {w0 w : World} {B : World → Prop} {g : Nat} {t : TypeId} {cs : Array Value} (h : Bag w0 B w) (q : Row w g t cs) : Bag w0 (fun y => Row y g t cs ∧ B y) w := h.row q

set_option linter.unusedSimpArgs false in
set_option maxHeartbeats 6400000 in
set_option maxRecDepth 100000 in
theorem arrayMakes_walk (cs : Array Value) (S : Nat → Int) (r : Nat) (ch : Bool) (g : Nat → Int) (tn : Nat) (fB : Nat → Bool) (fS fT : Nat → ByteArray) (nn : Nat) (i : Int)
    (w : World) (h : PlnAt w cs S r ch g tn fB fS fT nn) (hS : In64 S r) (hz : ∀ j, j < nn → (fS j).size ≤ maxLen ∧ (fT j).size ≤ maxLen) (_ : -9223372036854775808 ≤ i ∧ i ≤ 9223372036854775807) :
    Calls Tryz.prog 5 #[.agg cs, .int .i64 i] w fun e w' => e = .returned (.bool true) ∧ Below w.heap.size w w' := by
  obtain ⟨sa, sc, ta, tc, na, nc, rfl, h1, h2, h3⟩ := h
  have hl1 := h1.len
  have hl2 := h2.len
  have hl3 := h3.len
  have AW := Lib.hid (fun wz => awake6_any wz)
  have BB := Lib.hid ((((Bag.start w).krow h1).krow h2).qrow h3 |>.newRow (plC sa r sc ch ta tn tc na nn nc) 46)
  have OF := Lib.hid (fun wz a b c hs hn ht => of6_any (plC sa r sc ch ta tn tc na nn nc) S r ch g tn fB fS fT nn wz ⟨sa, sc, ta, tc, na, nc, rfl, a, b, c⟩ hS hs hn ht)
  have RG := Lib.hid (fun wz a b c hs => r6Right_any (plC sa r sc ch ta tn tc na nn nc) S r ch g tn fB fS fT nn wz ⟨sa, sc, ta, tc, na, nc, rfl, a, b, c⟩ hS hs)
  unfold OfTold at OF
  unfold SameTold at RG
  unfold plC at BB OF RG
  unfold plC
  clear h1 h2 h3
  by_cases h1 : (300 : Int) < (tn : Int)
  · go_enter Tryz.func5, Tryz.ntmps5
    go_wp2_with fail
    go_at_call 17
    (with_reducible refine (AW.out _).mono ?_)
    rintro e w9 ⟨rfl, hb9⟩
    have HE := Lib.hid (BB.out.go hb9).below
    clear hb9
    go_wp2
    go_ret
    exact ⟨rfl, HE.out⟩
  by_cases h2 : (300 : Int) < (nn : Int)
  · go_enter Tryz.func5, Tryz.ntmps5
    go_wp2_with fail
    go_at_call 17
    (with_reducible refine (AW.out _).mono ?_)
    rintro e w9 ⟨rfl, hb9⟩
    have HE := Lib.hid (BB.out.go hb9).below
    clear hb9
    go_wp2
    go_ret
    exact ⟨rfl, HE.out⟩
  by_cases h3 : (60 : Int) < (r : Int)
  · go_enter Tryz.func5, Tryz.ntmps5
    go_wp2_with fail
    go_at_call 17
    (with_reducible refine (AW.out _).mono ?_)
    rintro e w9 ⟨rfl, hb9⟩
    have HE := Lib.hid (BB.out.go hb9).below
    clear hb9
    go_wp2
    go_ret
    exact ⟨rfl, HE.out⟩
  have HZ := Lib.hid hz
  clear hz
  go_enter Tryz.func5, Tryz.ntmps5
  go_wp2_with fail
  generalize hy0 : w.alloc (.cells #[.slice sa r sc, .bool ch, .slice ta tn tc, .slice na nn nc] 46) = y0 at *
  clear hy0
  go_loopw [5] (fun ii wr => ∃ k : Nat, k ≤ nn ∧ ii = .int .i64 k ∧ Hid (Below y0.heap.size y0 wr ∧ ∀ j, j < k → (fS j).size ≤ 60 ∧ (fT j).size ≤ 60)) (fun ii _ => nn - (intOf ii).toNat)
  case atStart => exact ⟨0, by omega, rfl, Below.refl _ _, fun j hj => absurd hj (Nat.not_lt_zero _)⟩
  case round =>
    obtain ⟨k, hk, rfl, hrel⟩ := hrel
    obtain ⟨hbl, hsm⟩ := hrel.out
    have BB := Lib.hid (BB.out.go hbl)
    obtain ⟨x0, x1, x2, x3⟩ := pl_cells BB.out.now.1
    by_cases hlt : k < nn
    · obtain ⟨b, off, rfl, hb, c1, c2, c3⟩ := BB.out.now.2.1.get hlt
      obtain ⟨z1, z2⟩ := HZ.out k hlt
      have HBL := Lib.hid hbl
      have HSM := Lib.hid hsm
      clear hbl hsm
      have hg1 : (fS k).size ≤ 9223372036854775807 := by unfold maxLen at z1; omega
      have hg2 : (fT k).size ≤ 9223372036854775807 := by unfold maxLen at z2; omega
      by_cases g1 : (40 : Int) < ((fS k).size : Int)
      · generalize fS k = u1 at *
        generalize fT k = u2 at *
        go_wp2_with fail
        go_at_call 17
        (with_reducible refine (AW.out _).mono ?_)
        rintro e w9 ⟨rfl, hb9⟩
        have HE := Lib.hid (BB.out.go hb9).below
        clear hb9
        go_wp2
        go_ret
        exact ⟨rfl, HE.out⟩
      by_cases g2 : (40 : Int) < ((fT k).size : Int)
      · generalize fS k = u1 at *
        generalize fT k = u2 at *
        go_wp2_with fail
        go_at_call 17
        (with_reducible refine (AW.out _).mono ?_)
        rintro e w9 ⟨rfl, hb9⟩
        have HE := Lib.hid (BB.out.go hb9).below
        clear hb9
        go_wp2
        go_ret
        exact ⟨rfl, HE.out⟩
      have HN : Hid (Below y0.heap.size y0 wr ∧ ∀ j, j < k + 1 → (fS j).size ≤ 60 ∧ (fT j).size ≤ 60) :=
        ⟨HBL.out, fun j hj => by
          rcases Nat.lt_or_ge j k with e | e
          · exact HSM.out j e
          · obtain rfl : j = k := by omega
            exact ⟨by omega, by omega⟩⟩
      generalize hu1 : fS k = u1 at *
      generalize hu2 : fT k = u2 at *
      clear hu1 hu2
      go_wp2
      go_roundw
      case rel => exact ⟨k + 1, by omega, by go_num, HN.out⟩
      case measure => simp [intOf]; omega
    · obtain rfl : k = nn := by omega
      have OF := Lib.hid (fun wz a b c => OF.out wz a b c hsm (by omega) (by omega))
      have RG := Lib.hid (fun wz a b c => RG.out wz a b c hsm)
      have HSM := Lib.hid hsm
      clear hbl hsm
      obtain ⟨bb, hbb⟩ : ∃ b, ofB S r ch tn fB fS fT k = b := ⟨_, rfl⟩
      rw [hbb] at OF RG
      have HBB := Lib.hid hbb
      clear hbb
      have ZR := Lib.hid (fun wz => r3Zero_any wz)
      unfold NumTold at ZR
      go_wp2_with fail
      rename_i k8 h8 k0 h0
      obtain ⟨RW, hRW, AX2⟩ := wp_cut5 h8

      clear h8
      have TAIL : Hid (∀ (S : Nat → Int) (r : Nat) (ch : Bool) (g : Nat → Int) (tn : Nat) (fB : Nat → Bool) (fS fT : Nat → ByteArray) (nn : Nat) (P : Nat → Int) (Q : Nat → Nat) (sa : Option Addr) (sc : Nat) (ta : Option Addr) (tc : Nat) (na : Option Addr) (nc : Nat) (na2 : Option Addr) (nc2 : Nat) (ta2 : Option Addr) (tc2 : Nat) (k6 k9 : Nat) (ac : Act) (yw : World),
          r ≤ 8 → tn ≤ 300 → nn ≤ 300 → NumOk fB fS fT P Q nn → CmpOk 7 P Q nn → (ch = true → nn = 0) → (ch = false → tn = 0) → (ch = false → ta2 = none ∧ tc2 = 0) → (ch = true → na2 = none ∧ nc2 = 0) →
          ac.tmps.size = 201 → ac.defers = [] → ac.tmps[1]? = some (.int .i64 i) → ac.tmps[2]? = some (.pointer (some ⟨w.heap.size, 0, none⟩)) → ac.tmps[6]? = some (.pointer (some ⟨k6, 0, none⟩)) → ac.tmps[8]? = some (.int .i32 (elC tn g 0 i)) → ac.tmps[9]? = some (.pointer (some ⟨k9, 0, none⟩)) →
          Bag w (fun y => Row y k9 34 #[.bool (rB (elP nn P i)), .string (rS (elP nn P i)), .string (str (dec (elQ nn Q i)))] ∧ Row y k6 50 (arrC ch ((r : Int) - 1) (dm S r) na2 nn nc2 ta2 tn tc2) ∧ Row y w.heap.size 46 (plC sa r sc ch ta tn tc na nn nc) ∧ KRow y .i32 ta2 tn tc2 g ∧ RRow y na2 nn nc2 P Q ∧ QRow y na nn nc fB fS fT ∧ KRow y .i32 ta tn tc g ∧ KRow y .i64 sa r sc S ∧ True) yw → RW ac yw) := Lib.hid (by
        intro S r ch g tn fB fS fT nn P Q sa sc ta tc na nc na2 nc2 ta2 tc2 k6 k9 ac yw hr ht hn hno hcm h0 h1 hf hg hsz hdf t1 t2 t6 t8 t9 B0
        have hq := el_cmp hcm (fun _ => i) 1 0 (by omega)
        have BB := Lib.hid B0
        have WA := Lib.hid (fun wz a b => wholeG_any ch S r na2 nn nc2 ta2 tn tc2 P Q g wz a b hf hg h0 h1 (fun j hj => (hno j hj).2.2.2.1) (by omega) (by omega))
        have WR := Lib.hid (fun wz a b c => (r6Whole_any (plC sa r sc ch ta tn tc na nn nc) S r ch g tn fB fS fT nn P Q wz ⟨sa, sc, ta, tc, na, nc, rfl, a, b, c⟩ hno (by omega)).mono (fun e w' h => h.row))
        obtain ⟨bw, hbw⟩ : ∃ b, (decide (tn = 0) && whB P Q nn) = b := ⟨_, rfl⟩
        rw [hbw] at WA WR
        clear hbw
        obtain ⟨mw, hmw⟩ : ∃ m, (if bw = true then nn else 0) = m := ⟨_, rfl⟩
        rw [hmw] at WA WR
        clear hmw
        have PL := Lib.hid (fun wz a b => plain_any ch S r na2 nn nc2 ta2 tn tc2 P Q g wz hr a b (by omega) (by omega) (fun j hj => (hcm j hj).1) 7 (by omega) (fun j hj => (hcm j hj).2.1) (fun j hj => (hcm j hj).2.2))
        have HPL : plB ch ch r r S S tn tn g g nn nn (fun j => rB (P j)) (fun j => rS (P j)) (fun j => str (dec (Q j))) fB fS fT = true := plB_of (fun _ _ => rfl) (fun j hj => ⟨(hno j hj).1.symm, (hno j hj).2.1.symm, (hno j hj).2.2.1.symm⟩)
        have PS := Lib.hid (fun wz xx q a b c => pl_same (w := wz) (cs := xx) (cs' := plC sa r sc ch ta tn tc na nn nc) HPL q ⟨sa, sc, ta, tc, na, nc, rfl, a, b, c⟩)
        have SH := Lib.hid (fun wz => shape_any ch S r na2 nn nc2 ta2 tn tc2 wz hr)
        have IS : Hid (∀ a c wz, KRow wz .i64 a r c S → KRow wz .i64 sa r sc S → Calls Tryz.prog 25 #[.slice a r c, .slice sa r sc] wz fun e w' => e = .returned (.bool true) ∧ Below wz.heap.size wz w') := Lib.hid fun a c wz p q => by
          have := r6Same_any a r c S sa r sc S wz p q
          rw [decide_eq_true rfl, sameB_iff.2 (fun _ _ => rfl)] at this
          exact this
        have IW0 : Hid (∀ a c a' c' wz, KRow wz .i64 a mw c P → KRow wz .i64 a' mw c' P → Calls Tryz.prog 25 #[.slice a mw c, .slice a' mw c'] wz fun e w' => e = .returned (.bool true) ∧ Below wz.heap.size wz w') := Lib.hid fun a c a' c' wz p q => by
          have := r6Same_any a mw c P a' mw c' P wz p q
          rw [decide_eq_true rfl, sameB_iff.2 (fun _ _ => rfl)] at this
          exact this
        have R5 : Hid (∀ a c wz, KRow wz .i32 a tn c g → KRow wz .i32 ta tn tc g → Calls Tryz.prog 33 #[.slice a tn c, .slice ta tn tc] wz fun e w' => e = .returned (.bool true) ∧ Below wz.heap.size wz w') := Lib.hid fun a c wz p q => by
          have := r5Runes_any a tn c g ta tn tc g wz p q
          rw [decide_eq_true rfl, sameB_iff.2 (fun _ _ => rfl)] at this
          exact this
        have RK := Lib.hid (fun wz => rank_any ch (dm S r) r na2 nn nc2 ta2 tn tc2 wz (by omega))
        have LE := Lib.hid (fun wz => len_any ch ((r : Int) - 1) (dm S r) na2 nn nc2 ta2 tn tc2 wz)
        have eLE : (if ch = true then (tn : Int) else (nn : Int)) = ((tn + nn : Nat) : Int) := by
          cases ch with
          | true => have := h0 rfl; rw [if_pos rfl]; omega
          | false => have := h1 rfl; rw [if_neg (by decide)]; omega
        rw [eLE] at LE
        clear eLE
        have LR := Lib.hid (fun wz a b c => r6Len_any (plC sa r sc ch ta tn tc na nn nc) S r ch g tn fB fS fT nn wz ⟨sa, sc, ta, tc, na, nc, rfl, a, b, c⟩ (by omega) (by omega))
        generalize ((tn + nn : Nat) : Int) = tot at LE LR
        have IC := Lib.hid (fun wz => isChar_any ch ((r : Int) - 1) (dm S r) na2 nn nc2 ta2 tn tc2 wz)
        have RU := Lib.hid (fun wz q => rune_any ch ((r : Int) - 1) (dm S r) na2 nn nc2 ta2 tn tc2 g i wz q)
        have RT := Lib.hid (fun wz q => elemG_any ch ((r : Int) - 1) (dm S r) na2 nn nc2 ta2 tn tc2 P Q i wz q)
        have NM := Lib.hid (fun a n c m a2 n2 c2 wz h => num_any a n c m a2 n2 c2 (elP nn P i) (elQ nn Q i) wz h hq.1 7 (by omega) hq.2.1 hq.2.2)
        have RS := Lib.hid (fun wz q => runes_any ch ((r : Int) - 1) (dm S r) na2 nn nc2 ta2 tn tc2 g wz q (by omega))
        have AR := Lib.hid (fun wz q => aRats_any ch ((r : Int) - 1) (dm S r) na2 nn nc2 ta2 tn tc2 P Q wz q (by omega))
        have AL := Lib.hid (fun wz q => aLimbs_any ch ((r : Int) - 1) (dm S r) na2 nn nc2 ta2 tn tc2 P Q wz q (fun j hj => (hno j hj).2.2.2.1))
        have RL := Lib.hid (fun wz a b c => r6Limbs_any (plC sa r sc ch ta tn tc na nn nc) S r ch g tn fB fS fT nn P Q wz ⟨sa, sc, ta, tc, na, nc, rfl, a, b, c⟩ hno)
        generalize ((mxl P Q nn : Nat) : Int) = ml at AL RL
        have AB := Lib.hid (fun wz q => bytes_any ch (dm S r) r na2 nn nc2 ta2 tn tc2 P Q wz (by omega) q (fun j hj => (hno j hj).2.2.2.1) (by omega) (by omega) (fun j hj => ⟨Nat.le_trans (lbs_le7 (hno j hj).2.2.2.2.1) (by decide), Nat.le_trans (lbs_le7 (hno j hj).2.2.2.2.2) (by decide)⟩))
        have RB := Lib.hid (fun wz a b c => r6Bytes_any (plC sa r sc ch ta tn tc na nn nc) S r ch g tn fB fS fT nn P Q wz ⟨sa, sc, ta, tc, na, nc, rfl, a, b, c⟩ hno (by omega) (by omega) (by omega))
        generalize ((16 + 4 * r + tn + byt P Q nn : Nat) : Int) = mb at AB RB
        unfold NumTold at NM
        unfold RatTold at RT
        unfold arrC at BB WA PL SH RK LE IC RU RT RS AR AL AB
        unfold plC at BB WR PS LR RL RB
        generalize rB (elP nn P i) = z1 at *
        generalize rS (elP nn P i) = z2 at *
        generalize str (dec (elQ nn Q i)) = z3 at *
        generalize elC tn g 0 i = cc at *
        generalize (r : Int) - 1 = more at *
        generalize dm S r = d at *
        clear B0 hq HPL hno hcm h0 h1 hf hg hr ht hn
        obtain ⟨TV, hTV⟩ : ∃ TV : Nat → Value, ∀ i, (ac.tmps[i]?).getD undef = TV i := ⟨_, fun _ => rfl⟩
        have f1 := (hTV 1).symm.trans (congrArg (fun x => Option.getD x undef) t1)
        have f2 := (hTV 2).symm.trans (congrArg (fun x => Option.getD x undef) t2)
        have f6 := (hTV 6).symm.trans (congrArg (fun x => Option.getD x undef) t6)
        have f8 := (hTV 8).symm.trans (congrArg (fun x => Option.getD x undef) t8)
        have f9 := (hTV 9).symm.trans (congrArg (fun x => Option.getD x undef) t9)
        have hac := act_eq (n := 201) hsz TV hTV
        rw [show ((List.range 201).map TV).toArray = #[TV 0, TV 1, TV 2, TV 3, TV 4, TV 5, TV 6, TV 7, TV 8, TV 9, TV 10, TV 11, TV 12, TV 13, TV 14, TV 15, TV 16, TV 17, TV 18, TV 19, TV 20, TV 21, TV 22, TV 23, TV 24, TV 25, TV 26, TV 27, TV 28, TV 29, TV 30, TV 31, TV 32, TV 33, TV 34, TV 35, TV 36, TV 37, TV 38, TV 39, TV 40, TV 41, TV 42, TV 43, TV 44, TV 45, TV 46, TV 47, TV 48, TV 49, TV 50, TV 51, TV 52, TV 53, TV 54, TV 55, TV 56, TV 57, TV 58, TV 59, TV 60, TV 61, TV 62, TV 63, TV 64, TV 65, TV 66, TV 67, TV 68, TV 69, TV 70, TV 71, TV 72, TV 73, TV 74, TV 75, TV 76, TV 77, TV 78, TV 79, TV 80, TV 81, TV 82, TV 83, TV 84, TV 85, TV 86, TV 87, TV 88, TV 89, TV 90, TV 91, TV 92, TV 93, TV 94, TV 95, TV 96, TV 97, TV 98, TV 99, TV 100, TV 101, TV 102, TV 103, TV 104, TV 105, TV 106, TV 107, TV 108, TV 109, TV 110, TV 111, TV 112, TV 113, TV 114, TV 115, TV 116, TV 117, TV 118, TV 119, TV 120, TV 121, TV 122, TV 123, TV 124, TV 125, TV 126, TV 127, TV 128, TV 129, TV 130, TV 131, TV 132, TV 133, TV 134, TV 135, TV 136, TV 137, TV 138, TV 139, TV 140, TV 141, TV 142, TV 143, TV 144, TV 145, TV 146, TV 147, TV 148, TV 149, TV 150, TV 151, TV 152, TV 153, TV 154, TV 155, TV 156, TV 157, TV 158, TV 159, TV 160, TV 161, TV 162, TV 163, TV 164, TV 165, TV 166, TV 167, TV 168, TV 169, TV 170, TV 171, TV 172, TV 173, TV 174, TV 175, TV 176, TV 177, TV 178, TV 179, TV 180, TV 181, TV 182, TV 183, TV 184, TV 185, TV 186, TV 187, TV 188, TV 189, TV 190, TV 191, TV 192, TV 193, TV 194, TV 195, TV 196, TV 197, TV 198, TV 199, TV 200] from rfl, f1, f2, f6, f8, f9, hdf] at hac
        simp only [Option.getD_some] at hac
        subst hac
        clear hTV f1 f2 f6 f8 f9
        clear t1 t2 t6 t8 t9
        obtain ⟨y0, y1, y2, y3, y4, y5, y6, y7, y8, y9, y10, y11⟩ := ab_cellsM BB.out.now.2.1
        go_wp2_with fail
        go_at_call 21
        (with_reducible refine (WA.out _ ?_ ?_).mono ?_)
        · exact BB.out.now.2.2.2.2.1
        · exact BB.out.now.2.2.2.1
        rintro e w4 ⟨a4, m4, c4, rfl, rfl, hk4, hb4⟩
        have BB := Lib.hid ((BB.out.go hb4).krow hk4)
        clear hk4 hb4 y0 y1 y2 y3 y4 y5 y6 y7 y8 y9 y10 y11
        obtain ⟨y0, y1, y2, y3⟩ := pl_cells BB.out.now.2.2.2.1
        go_wp2_with fail
        go_at_call 22
        (with_reducible refine (WR.out _ ?_ ?_ ?_).mono ?_)
        · exact BB.out.now.2.2.2.2.2.2.2.2.1
        · exact BB.out.now.2.2.2.2.2.2.2.1
        · exact BB.out.now.2.2.2.2.2.2.1
        rintro e w5 ⟨a5, m5, c5, rfl, rfl, hk5, hb5⟩
        have BB := Lib.hid ((BB.out.go hb5).krow hk5)
        have IW := Lib.hid (IW0.out a4 c4 a5 c5)
        clear hk5 hb5 y0 y1 y2 y3 IW0
        go_wp2_with fail
        have BB := Lib.hid BB.out.drew
        go_region_held3 (fun y => y.cell? ⟨k6, 0, none⟩ = some (.bool ch) ∧ y.cell? ⟨k6, 1, none⟩ = some (.int .i64 more) ∧ y.cell? ⟨k6, 2, none⟩ = some (.int .i64 (d 0)) ∧ y.cell? ⟨k6, 3, none⟩ = some (.int .i64 (d 1)) ∧ y.cell? ⟨k6, 4, none⟩ = some (.int .i64 (d 2)) ∧ y.cell? ⟨k6, 5, none⟩ = some (.int .i64 (d 3)) ∧ y.cell? ⟨k6, 6, none⟩ = some (.int .i64 (d 4)) ∧ y.cell? ⟨k6, 7, none⟩ = some (.int .i64 (d 5)) ∧ y.cell? ⟨k6, 8, none⟩ = some (.int .i64 (d 6)) ∧ y.cell? ⟨k6, 9, none⟩ = some (.int .i64 (d 7)) ∧ y.cell? ⟨k6, 10, none⟩ = some (.slice na2 nn nc2) ∧ y.cell? ⟨k6, 11, none⟩ = some (.slice ta2 tn tc2) ∧ y.cell? ⟨w.heap.size, 0, none⟩ = some (.slice sa r sc) ∧ y.cell? ⟨w.heap.size, 1, none⟩ = some (.bool ch) ∧ y.cell? ⟨w.heap.size, 2, none⟩ = some (.slice ta tn tc) ∧ y.cell? ⟨w.heap.size, 3, none⟩ = some (.slice na nn nc) ∧ y.cell? ⟨k9, 0, none⟩ = some (.bool z1) ∧ y.cell? ⟨k9, 1, none⟩ = some (.string z2) ∧ y.cell? ⟨k9, 2, none⟩ = some (.string z3))
          (first | (exact keep3 BB.out.now.2.2.1 BB.out.now.2.2.2.1 BB.out.now.2.2.2.2.1) | (exact keep3 BB.out.now.2.2.2.1 BB.out.now.2.2.2.2.1 BB.out.now.2.2.2.2.2.1) | (exact keep3 BB.out.now.2.2.2.2.1 BB.out.now.2.2.2.2.2.1 BB.out.now.2.2.2.2.2.2.1) | (exact keep3 BB.out.now.2.2.2.2.2.1 BB.out.now.2.2.2.2.2.2.1 BB.out.now.2.2.2.2.2.2.2.1) | (exact keep3 BB.out.now.2.2.2.2.2.2.1 BB.out.now.2.2.2.2.2.2.2.1 BB.out.now.2.2.2.2.2.2.2.2.1))
          (first
            | (go_at_call 24; (with_reducible refine (PL.out _ ?_ ?_).mono ?_); (have B9 := BB.out.now; go_split_ands; assumption); (have B9 := BB.out.now; go_split_ands; assumption); rintro e w6 ⟨cs6, rfl, hp6, hb6⟩; have BB := Lib.hid ((BB.out.go hb6).pln hp6))
            | (go_at_call 23; (with_reducible refine (PS.out _ _ BB.out.now.1 ?_ ?_ ?_).mono ?_); (have B9 := BB.out.now; go_split_ands; assumption); (have B9 := BB.out.now; go_split_ands; assumption); (have B9 := BB.out.now; go_split_ands; assumption); rintro e w6 ⟨rfl, hb6⟩; have BB := Lib.hid (BB.out.go hb6))
            | (go_at_call 26; (with_reducible refine (SH.out _).mono ?_); rintro e w7 ⟨a7, c7, rfl, hk7, hb7⟩; have BB := Lib.hid ((BB.out.go hb7).krow hk7))
            | (go_at_call 25; (with_reducible refine (IS.out _ _ _ BB.out.now.1 ?_).mono ?_); (have B9 := BB.out.now; go_split_ands; assumption); rintro e w6 ⟨rfl, hb6⟩; have BB := Lib.hid (BB.out.go hb6))
            | (go_at_call 25; (with_reducible refine (IW.out _ ?_ ?_).mono ?_); (have B9 := BB.out.now; go_split_ands; assumption); (have B9 := BB.out.now; go_split_ands; assumption); rintro e w6 ⟨rfl, hb6⟩; have BB := Lib.hid (BB.out.go hb6))
            | (go_at_call 27; (with_reducible refine (RK.out _).mono ?_); rintro e w6 ⟨rfl, hb6⟩; have BB := Lib.hid (BB.out.go hb6))
            | (go_at_call 28; (with_reducible refine (LE.out _).mono ?_); rintro e w6 ⟨rfl, hb6⟩; have BB := Lib.hid (BB.out.go hb6))
            | (go_at_call 29; (with_reducible refine (LR.out _ ?_ ?_ ?_).mono ?_); (have B9 := BB.out.now; go_split_ands; assumption); (have B9 := BB.out.now; go_split_ands; assumption); (have B9 := BB.out.now; go_split_ands; assumption); rintro e w6 ⟨rfl, hb6⟩; have BB := Lib.hid (BB.out.go hb6))
            | (go_at_call 30; (with_reducible refine (IC.out _).mono ?_); rintro e w6 ⟨rfl, hb6⟩; have BB := Lib.hid (BB.out.go hb6))
            | (go_at_call 31; (with_reducible refine (RU.out _ ?_).mono ?_); (have B9 := BB.out.now; go_split_ands; assumption); rintro e w6 ⟨rfl, hb6⟩; have BB := Lib.hid (BB.out.go hb6))
            | (go_at_call 32; (with_reducible refine (RT.out _ ?_).mono ?_); (have B9 := BB.out.now; go_split_ands; assumption); rintro e w8 ⟨a8, n8, c8, m8, x8, y8, u8, rfl, hr8, hb8⟩; have BB := Lib.hid ((BB.out.go hb8).rat hr8))
            | (go_at_call 13; (with_reducible refine (NM.out _ _ _ _ _ _ _ _ BB.out.now.1).mono ?_); rintro e w6 ⟨rfl, hb6⟩; have BB := Lib.hid (BB.out.go hb6)))
        go_wp2_with fail
        have BB := Lib.hid BB.out.drew
        go_region_held3 (fun y => y.cell? ⟨k6, 0, none⟩ = some (.bool ch) ∧ y.cell? ⟨k6, 1, none⟩ = some (.int .i64 more) ∧ y.cell? ⟨k6, 2, none⟩ = some (.int .i64 (d 0)) ∧ y.cell? ⟨k6, 3, none⟩ = some (.int .i64 (d 1)) ∧ y.cell? ⟨k6, 4, none⟩ = some (.int .i64 (d 2)) ∧ y.cell? ⟨k6, 5, none⟩ = some (.int .i64 (d 3)) ∧ y.cell? ⟨k6, 6, none⟩ = some (.int .i64 (d 4)) ∧ y.cell? ⟨k6, 7, none⟩ = some (.int .i64 (d 5)) ∧ y.cell? ⟨k6, 8, none⟩ = some (.int .i64 (d 6)) ∧ y.cell? ⟨k6, 9, none⟩ = some (.int .i64 (d 7)) ∧ y.cell? ⟨k6, 10, none⟩ = some (.slice na2 nn nc2) ∧ y.cell? ⟨k6, 11, none⟩ = some (.slice ta2 tn tc2) ∧ y.cell? ⟨w.heap.size, 0, none⟩ = some (.slice sa r sc) ∧ y.cell? ⟨w.heap.size, 1, none⟩ = some (.bool ch) ∧ y.cell? ⟨w.heap.size, 2, none⟩ = some (.slice ta tn tc) ∧ y.cell? ⟨w.heap.size, 3, none⟩ = some (.slice na nn nc))
          (first | (exact keep2 BB.out.now.2.2.2.2.2.1 BB.out.now.2.2.2.2.2.2.1) | (exact keep2 BB.out.now.2.2.2.2.2.2.1 BB.out.now.2.2.2.2.2.2.2.1) | (exact keep2 BB.out.now.2.2.2.2.2.2.2.1 BB.out.now.2.2.2.2.2.2.2.2.1) | (exact keep2 BB.out.now.2.2.2.2.2.2.2.2.1 BB.out.now.2.2.2.2.2.2.2.2.2.1) | (exact keep2 BB.out.now.2.2.2.2.2.2.2.2.2.1 BB.out.now.2.2.2.2.2.2.2.2.2.2.1))
          (first
            | (go_at_call 34; (with_reducible refine (RS.out _ ?_).mono ?_); (have B9 := BB.out.now; go_split_ands; assumption); rintro e w7 ⟨a7, c7, rfl, hk7, hb7⟩; have BB := Lib.hid ((BB.out.go hb7).krow hk7))
            | (go_at_call 33; (with_reducible refine (R5.out _ _ _ BB.out.now.1 ?_).mono ?_); (have B9 := BB.out.now; go_split_ands; assumption); rintro e w6 ⟨rfl, hb6⟩; have BB := Lib.hid (BB.out.go hb6))
            | (go_at_call 35; (with_reducible refine (AR.out _ ?_).mono ?_); (have B9 := BB.out.now; go_split_ands; assumption); rintro e w7 ⟨a7, c7, rfl, hk7, hb7⟩; have BB := Lib.hid ((BB.out.go hb7).rrow hk7))
            | (go_at_call 36; (with_reducible refine (AL.out _ ?_).mono ?_); (have B9 := BB.out.now; go_split_ands; assumption); rintro e w6 ⟨rfl, hb6⟩; have BB := Lib.hid (BB.out.go hb6))
            | (go_at_call 37; (with_reducible refine (RL.out _ ?_ ?_ ?_).mono ?_); (have B9 := BB.out.now; go_split_ands; assumption); (have B9 := BB.out.now; go_split_ands; assumption); (have B9 := BB.out.now; go_split_ands; assumption); rintro e w6 ⟨rfl, hb6⟩; have BB := Lib.hid (BB.out.go hb6))
            | (go_at_call 38; (with_reducible refine (AB.out _ ?_).mono ?_); (have B9 := BB.out.now; go_split_ands; assumption); rintro e w6 ⟨rfl, hb6⟩; have BB := Lib.hid (BB.out.go hb6))
            | (go_at_call 39; (with_reducible refine (RB.out _ ?_ ?_ ?_).mono ?_); (have B9 := BB.out.now; go_split_ands; assumption); (have B9 := BB.out.now; go_split_ands; assumption); (have B9 := BB.out.now; go_split_ands; assumption); rintro e w6 ⟨rfl, hb6⟩; have BB := Lib.hid (BB.out.go hb6))
            | (go_at_call 17; (with_reducible refine (AW.out _).mono ?_); rintro e w6 ⟨rfl, hb6⟩; have BB := Lib.hid (BB.out.go hb6)))
        have HE := Lib.hid BB.out.below
        go_wp2
        go_ret
        exact ⟨rfl, HE.out⟩)
      clear hRW
      go_at_call 18
      (with_reducible refine (OF.out _ BB.out.now.2.2.2.1 BB.out.now.2.2.1 BB.out.now.2.1).mono ?_)
      rintro e w2 ⟨cs2, rfl, hc2, hb2⟩
      have BB := Lib.hid (BB.out.go hb2)
      clear hb2
      cases bb with
      | true =>
        rw [if_pos rfl] at hc2
        obtain ⟨na2, nc2, ta2, tc2, rfl, hr2, ht2, hf2, hg2⟩ := hc2
        have h9 := ofB_true HBB.out
        have hno := ofO_num h9.2.2.2.2 HSM.out
        have hcm := ofO_cmp h9.2.2.2.2 HSM.out
        have hr8 := In64.le8 h9.1
        have BB := Lib.hid ((BB.out.rrow hr2).krow ht2 |>.newRow (arrC ch ((r : Int) - 1) (dm S r) na2 k nc2 ta2 tn tc2) 50)
        clear hr2 ht2
        unfold arrC
        unfold arrC at BB
        go_wp2_with fail

        intro K1 K2 K3 K4 q1 q2 q3 q4
        obtain ⟨y0, y1, y2, y3⟩ := pl_cells BB.out.now.2.2.2.1
        go_wp2_with fail
        go_at_call 19
        (with_reducible refine (RG.out _ BB.out.now.2.2.2.2.2.2.1 BB.out.now.2.2.2.2.2.1 BB.out.now.2.2.2.2.1).mono ?_)
        rintro e w3 ⟨rfl, hb3⟩
        have BB := Lib.hid (BB.out.go hb3)
        clear hb3 y0 y1 y2 y3
        go_wp2_with fail
        go_at_call 20
        (with_reducible refine (ZR.out _).mono ?_)
        rintro e w4 ⟨rfl, hb4⟩
        have BA := Lib.hid (BB.out.go hb4)
        clear hb4 BB
        have BN := Lib.hid (BA.out.newRow #[.bool (rB 0), .string (rS 0), .string (str (dec 1))] 34)
        obtain ⟨y0, y1, y2, y3⟩ := pl_cells BN.out.now.2.2.2.2.1
        by_cases i0 : 0 ≤ i
        · by_cases i1 : i < (tn : Int)
          · obtain ⟨q, hq⟩ : ∃ q : Nat, i = q := ⟨i.toNat, by omega⟩
            subst hq
            have hqn : q < tn := by omega
            have hkn : ¬ (q : Int) < (k : Int) := by
              intro hx
              cases ch with
              | true => have := h9.2.2.1 rfl; omega
              | false => have := h9.2.2.2.1 rfl; omega
            obtain ⟨b, off, rfl, hb, hc⟩ := BN.out.now.2.2.2.2.2.2.1.get hqn
            have e1 : g q = elC tn g 0 q := by unfold elC; rw [if_pos ⟨by omega, by omega⟩]; rfl
            have e2 : elP k (fun j => ofP (fB j) (fS j) (fT j)) q = 0 := by unfold elP; rw [if_neg (by omega)]
            have e3 : elQ k (fun j => ofQ (fB j) (fS j) (fT j)) q = 1 := by unfold elQ; rw [if_neg (by omega)]
            have HF := Lib.hid BN.out
            have HE := Lib.hid (And.intro e1 (And.intro e2 e3))
            have r9' : Row (w4.alloc (.cells #[.bool (rB 0), .string (rS 0), .string (str (dec 1))] 34)) w4.heap.size 34 #[.bool (rB (elP k (fun j => ofP (fB j) (fS j) (fT j)) q)), .string (rS (elP k (fun j => ofP (fB j) (fS j) (fT j)) q)), .string (str (dec (elQ k (fun j => ofQ (fB j) (fS j) (fT j)) q)))] := by
              rw [e2, e3]
              exact BN.out.now.1
            have H9 := Lib.hid r9'
            clear r9'
            clear e1 e2 e3
            go_wp2_with fail
            exact TAIL.out S r ch g tn fB fS fT k (fun j => ofP (fB j) (fS j) (fT j)) (fun j => ofQ (fB j) (fS j) (fT j)) _ _ _ _ _ _ _ _ _ _ w2.heap.size w4.heap.size _ _ hr8 (by omega) (by omega) hno hcm h9.2.2.1 h9.2.2.2.1 hf2 hg2 rfl rfl rfl rfl rfl (congrArg (fun x => some (Value.int .i32 x)) HE.out.1) rfl (((((((((⟨HF.out.below, fun _ _ _ _ => trivial, trivial⟩ : Bag w (fun _ => True) _).krow (HF.out.now.2.2.2.2.2.2.2.1)).krow (HF.out.now.2.2.2.2.2.2.1)).qrow (HF.out.now.2.2.2.2.2.1)).rrow (HF.out.now.2.2.2.1)).krow (HF.out.now.2.2.1)).row (HF.out.now.2.2.2.2.1)).row (HF.out.now.2.1)).row (H9.out))
          · by_cases i2 : i < (k : Int)
            · obtain ⟨q, hq⟩ : ∃ q : Nat, i = q := ⟨i.toNat, by omega⟩
              subst hq
              have hqn : q < k := by omega
              obtain ⟨b, off, rfl, hb, hc1, hc2, hc3⟩ := BN.out.now.2.2.2.2.2.1.get hqn
              have e1 : 0 = elC tn g 0 q := by unfold elC; rw [if_neg (by omega)]
              have e2 : elP k (fun j => ofP (fB j) (fS j) (fT j)) q = ofP (fB q) (fS q) (fT q) := by unfold elP; rw [if_pos ⟨by omega, by omega⟩]; rfl
              have e3 : elQ k (fun j => ofQ (fB j) (fS j) (fT j)) q = ofQ (fB q) (fS q) (fT q) := by unfold elQ; rw [if_pos ⟨by omega, by omega⟩]; rfl
              obtain ⟨n1, n2, n3, _⟩ := hno q hqn
              have HF := BA.out.newRow #[.bool (fB q), .string (fS q), .string (fT q)] 34
              have r9' : Row (w4.alloc (.cells #[.bool (fB q), .string (fS q), .string (fT q)] 34)) w4.heap.size 34 #[.bool (rB (elP k (fun j => ofP (fB j) (fS j) (fT j)) q)), .string (rS (elP k (fun j => ofP (fB j) (fS j) (fT j)) q)), .string (str (dec (elQ k (fun j => ofQ (fB j) (fS j) (fT j)) q)))] := by
                rw [e2, e3, ← n1, ← n2, ← n3]
                exact HF.now.1
              have HF := Lib.hid HF
              have H9 := Lib.hid r9'
              clear r9'
              have HE := Lib.hid (And.intro e1 (And.intro e2 e3))
              clear e1 e2 e3 n1 n2 n3
              go_wp2_with fail
              exact TAIL.out S r ch g tn fB fS fT k (fun j => ofP (fB j) (fS j) (fT j)) (fun j => ofQ (fB j) (fS j) (fT j)) _ _ _ _ _ _ _ _ _ _ w2.heap.size w4.heap.size _ _ hr8 (by omega) (by omega) hno hcm h9.2.2.1 h9.2.2.2.1 hf2 hg2 rfl rfl rfl rfl rfl (congrArg (fun x => some (Value.int .i32 x)) HE.out.1) rfl (((((((((⟨HF.out.below, fun _ _ _ _ => trivial, trivial⟩ : Bag w (fun _ => True) _).krow (HF.out.now.2.2.2.2.2.2.2.1)).krow (HF.out.now.2.2.2.2.2.2.1)).qrow (HF.out.now.2.2.2.2.2.1)).rrow (HF.out.now.2.2.2.1)).krow (HF.out.now.2.2.1)).row (HF.out.now.2.2.2.2.1)).row (HF.out.now.2.1)).row (H9.out))
            · have e1 : 0 = elC tn g 0 i := by unfold elC; rw [if_neg (by omega)]
              have e2 : elP k (fun j => ofP (fB j) (fS j) (fT j)) i = 0 := by unfold elP; rw [if_neg (by omega)]
              have e3 : elQ k (fun j => ofQ (fB j) (fS j) (fT j)) i = 1 := by unfold elQ; rw [if_neg (by omega)]
              have HF := Lib.hid BN.out
              have HE := Lib.hid (And.intro e1 (And.intro e2 e3))
              have r9' : Row (w4.alloc (.cells #[.bool (rB 0), .string (rS 0), .string (str (dec 1))] 34)) w4.heap.size 34 #[.bool (rB (elP k (fun j => ofP (fB j) (fS j) (fT j)) i)), .string (rS (elP k (fun j => ofP (fB j) (fS j) (fT j)) i)), .string (str (dec (elQ k (fun j => ofQ (fB j) (fS j) (fT j)) i)))] := by
                rw [e2, e3]
                exact BN.out.now.1
              have H9 := Lib.hid r9'
              clear r9'
              clear e1 e2 e3
              go_wp2_with fail
              exact TAIL.out S r ch g tn fB fS fT k (fun j => ofP (fB j) (fS j) (fT j)) (fun j => ofQ (fB j) (fS j) (fT j)) _ _ _ _ _ _ _ _ _ _ w2.heap.size w4.heap.size _ _ hr8 (by omega) (by omega) hno hcm h9.2.2.1 h9.2.2.2.1 hf2 hg2 rfl rfl rfl rfl rfl (congrArg (fun x => some (Value.int .i32 x)) HE.out.1) rfl (((((((((⟨HF.out.below, fun _ _ _ _ => trivial, trivial⟩ : Bag w (fun _ => True) _).krow (HF.out.now.2.2.2.2.2.2.2.1)).krow (HF.out.now.2.2.2.2.2.2.1)).qrow (HF.out.now.2.2.2.2.2.1)).rrow (HF.out.now.2.2.2.1)).krow (HF.out.now.2.2.1)).row (HF.out.now.2.2.2.2.1)).row (HF.out.now.2.1)).row (H9.out))
        · have e1 : 0 = elC tn g 0 i := by unfold elC; rw [if_neg (by omega)]
          have e2 : elP k (fun j => ofP (fB j) (fS j) (fT j)) i = 0 := by unfold elP; rw [if_neg (by omega)]
          have e3 : elQ k (fun j => ofQ (fB j) (fS j) (fT j)) i = 1 := by unfold elQ; rw [if_neg (by omega)]
          have HF := Lib.hid BN.out
          have HE := Lib.hid (And.intro e1 (And.intro e2 e3))
          have r9' : Row (w4.alloc (.cells #[.bool (rB 0), .string (rS 0), .string (str (dec 1))] 34)) w4.heap.size 34 #[.bool (rB (elP k (fun j => ofP (fB j) (fS j) (fT j)) i)), .string (rS (elP k (fun j => ofP (fB j) (fS j) (fT j)) i)), .string (str (dec (elQ k (fun j => ofQ (fB j) (fS j) (fT j)) i)))] := by
            rw [e2, e3]
            exact BN.out.now.1
          have H9 := Lib.hid r9'
          clear r9'
          clear e1 e2 e3
          go_wp2_with fail
          exact TAIL.out S r ch g tn fB fS fT k (fun j => ofP (fB j) (fS j) (fT j)) (fun j => ofQ (fB j) (fS j) (fT j)) _ _ _ _ _ _ _ _ _ _ w2.heap.size w4.heap.size _ _ hr8 (by omega) (by omega) hno hcm h9.2.2.1 h9.2.2.2.1 hf2 hg2 rfl rfl rfl rfl rfl (congrArg (fun x => some (Value.int .i32 x)) HE.out.1) rfl (((((((((⟨HF.out.below, fun _ _ _ _ => trivial, trivial⟩ : Bag w (fun _ => True) _).krow (HF.out.now.2.2.2.2.2.2.2.1)).krow (HF.out.now.2.2.2.2.2.2.1)).qrow (HF.out.now.2.2.2.2.2.1)).rrow (HF.out.now.2.2.2.1)).krow (HF.out.now.2.2.1)).row (HF.out.now.2.2.2.2.1)).row (HF.out.now.2.1)).row (H9.out))
      | false =>
        rw [if_neg (by decide)] at hc2
        subst hc2
        have BB := Lib.hid (BB.out.newRow zerC 50)
        unfold zerC arrC
        go_wp2_with fail

        intro K1 K2 K3 K4 q1 q2 q3 q4
        have BB : Hid (Bag w _ (w2.alloc (.cells #[.bool false, .int .i64 0, .int .i64 0, .int .i64 0, .int .i64 0, .int .i64 0, .int .i64 0, .int .i64 0, .int .i64 0, .int .i64 0, .slice none 0 0, .slice none 0 0] 50))) := BB
        obtain ⟨y0, y1, y2, y3⟩ := pl_cells BB.out.now.2.1
        go_wp2_with fail
        go_at_call 19
        (with_reducible refine (RG.out _ BB.out.now.2.2.2.2.1 BB.out.now.2.2.2.1 BB.out.now.2.2.1).mono ?_)
        rintro e w3 ⟨rfl, hb3⟩
        have BB := Lib.hid (BB.out.go hb3)
        clear hb3 y0 y1 y2 y3
        have HKZ := Lib.hid (KRow.one' w3 .i64 0 3)
        have BB := Lib.hid (BB.out.alloc (.cells #[.int .i64 0] 3))
        have HRP : Hid (Row (w3.alloc (.cells #[.int .i64 0] 3)) w.heap.size 46 (plC sa r sc ch ta tn tc na k nc)) := Lib.hid BB.out.now.2.1
        have ez : zerC = arrC false (((1 : Nat) : Int) - 1) (dm (fun _ => 0) 1) none 0 0 none 0 0 := by rw [dm_zero]; rfl
        have hne : w2.heap.size ≠ w.heap.size := Row.ne BB.out.now.1 HRP.out (by decide)
        have rk6 := (BB.out.now.1.puto hne #[.slice (some ⟨w3.heap.size, 0, none⟩) 1 1, .bool false, .slice none 0 0, .slice none 0 0])
        rw [ez] at rk6
        have BC := Lib.hid (((⟨below_put BB.out.below (Nat.le_refl _) #[.slice (some ⟨w3.heap.size, 0, none⟩) 1 1, .bool false, .slice none 0 0, .slice none 0 0], fun _ _ _ _ => trivial, trivial⟩ : Bag w (fun _ => True) _).krow (HKZ.out.away (HKZ.out.apart HRP.out (noInt_pl sa r sc ch ta tn tc na k nc)) (Far.setRow _ w.heap.size #[.slice (some ⟨w3.heap.size, 0, none⟩) 1 1, .bool false, .slice none 0 0, .slice none 0 0]))).row rk6 |>.row (HRP.out.put #[.slice (some ⟨w3.heap.size, 0, none⟩) 1 1, .bool false, .slice none 0 0, .slice none 0 0]))
        clear ez hne rk6
        go_wp2_with (refine st_pln rfl (.tmp 2) (.tmp 69) rfl w.heap.size rfl (some ⟨w3.heap.size, 0, none⟩) 1 1 false none 0 0 none 0 0 rfl HRP.out rfl ?_)
        go_at_call 20
        (with_reducible refine (ZR.out _).mono ?_)
        rintro e w4 ⟨rfl, hb4⟩
        have BA := Lib.hid (BC.out.go hb4)
        clear hb4 BB BC
        have BN := Lib.hid (BA.out.newRow #[.bool (rB 0), .string (rS 0), .string (str (dec 1))] 34)
        obtain ⟨y0, y1, y2, y3⟩ := pl_cells BN.out.now.2.1
        have e1 : 0 = elC 0 (fun _ => 0) 0 i := by unfold elC; split <;> rfl
        have e2 : elP 0 (fun _ => 0) i = 0 := by unfold elP; split <;> rfl
        have e3 : elQ 0 (fun _ => 1) i = 1 := by unfold elQ; split <;> rfl
        have r9' : Row (w4.alloc (.cells #[.bool (rB 0), .string (rS 0), .string (str (dec 1))] 34)) w4.heap.size 34 #[.bool (rB (elP 0 (fun _ => 0) i)), .string (rS (elP 0 (fun _ => 0) i)), .string (str (dec (elQ 0 (fun _ => 1) i)))] := by
          rw [e2, e3]
          exact BN.out.now.1
        have H9 := Lib.hid r9'
        have HE := Lib.hid e1
        clear r9' e1 e2 e3
        by_cases i0 : 0 ≤ i
        · have i3 : ¬ i < 0 := by omega
          go_wp2_with fail
          exact TAIL.out (fun _ => 0) 1 false (fun _ => 0) 0 fB fS fT 0 (fun _ => 0) (fun _ => 1) (some ⟨w3.heap.size, 0, none⟩) 1 none 0 none 0 none 0 none 0 w2.heap.size w4.heap.size _ _ (by omega) (by omega) (by omega) (fun j hj => absurd hj (Nat.not_lt_zero _)) (fun j hj => absurd hj (Nat.not_lt_zero _)) (fun _ => rfl) (fun _ => rfl) (fun _ => ⟨rfl, rfl⟩) (fun _ => ⟨rfl, rfl⟩) rfl rfl rfl rfl rfl (congrArg (fun x => some (Value.int .i32 x)) HE.out) rfl (((((((((⟨BN.out.below, fun _ _ _ _ => trivial, trivial⟩ : Bag w (fun _ => True) _).krow (BN.out.now.2.2.2.1)).krow (KRow.nought _ _ _ _ (Nat.zero_le _) _)).qrow (QRow.nought _ _ _ (Nat.zero_le _) _ _ _)).rrow (RRow.nought _ _ _ (Nat.zero_le _) _ _)).krow (KRow.nought _ _ _ _ (Nat.zero_le _) _)).row (BN.out.now.2.1)).row (BN.out.now.2.2.1)).row (H9.out))
        · go_wp2_with fail
          exact TAIL.out (fun _ => 0) 1 false (fun _ => 0) 0 fB fS fT 0 (fun _ => 0) (fun _ => 1) (some ⟨w3.heap.size, 0, none⟩) 1 none 0 none 0 none 0 none 0 w2.heap.size w4.heap.size _ _ (by omega) (by omega) (by omega) (fun j hj => absurd hj (Nat.not_lt_zero _)) (fun j hj => absurd hj (Nat.not_lt_zero _)) (fun _ => rfl) (fun _ => rfl) (fun _ => ⟨rfl, rfl⟩) (fun _ => ⟨rfl, rfl⟩) rfl rfl rfl rfl rfl (congrArg (fun x => some (Value.int .i32 x)) HE.out) rfl (((((((((⟨BN.out.below, fun _ _ _ _ => trivial, trivial⟩ : Bag w (fun _ => True) _).krow (BN.out.now.2.2.2.1)).krow (KRow.nought _ _ _ _ (Nat.zero_le _) _)).qrow (QRow.nought _ _ _ (Nat.zero_le _) _ _ _)).rrow (RRow.nought _ _ _ (Nat.zero_le _) _ _)).krow (KRow.nought _ _ _ _ (Nat.zero_le _) _)).row (BN.out.now.2.1)).row (BN.out.now.2.2.1)).row (H9.out))

theorem own : ownKnob Tryz.prog.godebug = none := by kernel_rfl
theorem laidOut : laidOutB Tryz.prog = true := by kernel_rfl

set_option maxRecDepth 100000 in
theorem arrayMakes_lifted (os : Os) (started : os.Started) (H : Type) (enc : TypeId × Value → H) :
    ReturnsInHanded {} Tryz.checked os 5 .any (fun w args => (Rows.arrayMakesSpec.pre enc Tryz.prog Tryz.f5 [] false w args ∧ laidMetH Tryz.prog Rows.arrayMakesRow.laid w) ∧ sizedMet enc Tryz.prog Tryz.f5 (OpenSpec.ofChange Rows.arrayMakesSpec) false w args)
      (Rows.arrayMakesSpec.post enc Tryz.prog Tryz.f5 false true false false) := by
  refine returnsInHanded_of_change_and (C := Tryz.checked) (X := fun w _ => laidMetH Tryz.prog Rows.arrayMakesRow.laid w) (fun _ _ _ hh h => h.of_heap hh) own started (by kernel_rfl) Tryz.func5
    (ChangeSpec.witness_shaped (enc := enc) (C := Tryz.checked) (os := os) (X := fun w _ => laidMetH Tryz.prog Rows.arrayMakesRow.laid w) false (World.laidAll Tryz.prog os Rows.arrayMakesRow.laid) #[.agg #[.slice none 0 0, .bool false, .slice none 0 0, .slice none 0 0], .int .i64 0] 8 (World.laidAll_os _ _ _)
      (World.shaped_of_ZipB (by kernel_rfl) (by kernel_rfl)) (by kernel_rfl) (by kernel_rfl) (by kernel_rfl)
      (by rw [MakeChecks.laidMetH_plain _ _ _ (by kernel_rfl)]; exact laidMet_laidAll _ (by kernel_rfl) (by kernel_rfl))) ?_
  intro W base args ds gs before hval0 hW _ _ _ _
  have hval : ∀ (j : Nat) t v, Tryz.f5.params[j]? = some t → args[j]? = some v → Value.okWide Tryz.prog W .any base t v := hval0
  have hW' := hW
  obtain ⟨p, q, hA0, hV, rfl, _, _⟩ := hW
  have hA : DataW.TrodAll enc Tryz.prog W 0 (fun _ => true) true Tryz.f5.params.toList args.toList ds p := hA0
  rw [Tryz.params5] at hA hval
  obtain ⟨v0, v1, d0, d1, p0, p1, rfl, rfl, rfl, h0, h1⟩ := trodAll_two hA
  obtain ⟨rfl, rfl⟩ := trodVars_none hV
  obtain ⟨cs0, S0, q0, ch0, g0, tn0, fB0, fS0, fT0, nn0, rfl, k0, w0, z0⟩ := open_pln (hval 0 46 v0 rfl rfl) h0
  obtain ⟨x1, rfl, rfl, rfl, w1⟩ := open_int Tryz.underlying3 (hval 1 3 v1 rfl rfl) h1
  have b1 : -9223372036854775808 ≤ x1 ∧ x1 ≤ 9223372036854775807 := by simpa [Lit.wf, IntKind.min, IntKind.max, IntKind.signed, IntKind.bits] using w1
  have hlt : ∀ y ∈ p0 ++ ([]), y.block < W.heap.size := fun y hy => by simpa using hW'.lt y (by simpa using hy)
  simp only [List.append_nil] at hW'
  refine (arrayMakes_walk cs0 S0 q0 ch0 g0 tn0 fB0 fS0 fT0 nn0 x1 W k0 w0 z0 b1).mono fun e W' ⟨he, hb⟩ => ?_
  subst he
  exact ⟨_, rfl, _, _, _, [], _, [], hW', trodAll_mk1 (shut_bool Tryz.underlying4 _), trodAll_mk2 (Below.trod laidOut (by kernel_rfl) (of_decide_eq_true (by kernel_rfl)) h0 hb (fun y hy => hlt y (by simp [hy]))) (shut_int Tryz.underlying3 w1), rfl, hb.frame _, fun h => by cases h⟩

theorem arrayMakes_row : Rows.ArrayMakesSaid :=
  OpenClaim.holds_of_wide 5 Tryz.f5 rfl rfl rfl rfl rfl rfl rfl ⟨rfl, rfl, rfl, rfl, rfl⟩ rfl rfl rfl rfl rfl (by kernel_rfl) Tryz.func5 (by kernel_rfl)
    (of_decide_eq_true (by kernel_rfl)) (by unfold Func.isWrapper; first | (rw [if_pos (by decide +kernel)]; kernel_rfl) | (rw [if_neg (by decide +kernel)]; exact ⟨rfl, rfl⟩))
    (fun os started H enc _ => arrayMakes_lifted os started H enc)

theorem arrayMakes_holds : Rows.ArrayMakesCardSaid :=
  Claim7.holds_tied_plain_at .later [] [.data, .pinned] true Rows.arrayMakesCard.stood.harness Rows.arrayMakesCard.stood.looks arrayMakes_row (fun _ h => by cases h) (by kernel_rfl) (fun _ h => by cases h) arrayMakes_row_tie rfl ⟨rfl, rfl⟩ (by kernel_rfl) rfl
    (fun f fn hf hfn => by
      obtain rfl : f = 5 := Option.some.inj ((show Tryz.prog.funcNamed "typeball/typeballlaw06.ArrayMakes" = some 5 by kernel_rfl).symm.trans hf) |>.symm
      obtain rfl : fn = Tryz.f5 := (Option.some.inj (Tryz.func5.symm.trans hfn)).symm
      exact ⟨by kernel_rfl, fun j t ht => by
        rw [Tryz.params5] at ht
        have hm : t ∈ [46, 3] := by simpa using Array.mem_of_getElem? ht
        have hall : ([46, 3].all fun u => !Tryz.prog.wantsStandIn u) = true := by kernel_rfl
        exact (show Tryz.prog.wantsStandIn t = false by simpa using List.all_eq_true.1 hall t hm)⟩)
    (by kernel_rfl)
#print axioms arrayMakes_holds
end Go.Proofs.YtdnbpkbapmlfaaaGreatDoor
