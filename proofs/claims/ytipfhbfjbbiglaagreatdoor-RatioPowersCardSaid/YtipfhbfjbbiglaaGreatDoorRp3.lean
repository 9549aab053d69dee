/-
  The document's answers (package typeballref03): Pow (Rp3), by contract.
-/
import Derived.Test.YtipfhbfjbbiglaaGreatDoorRp0
import Derived.Test.YtipfhbfjbbiglaaGreatDoorRr4
import Derived.Test.YtipfhbfjbbiglaaGreatDoorInw
namespace Go.Proofs.YtipfhbfjbbiglaaGreatDoor
open Go.RowKit
attribute [local go_sem ↓] Go.wp_at_zero Go.wp_at_succ

set_option linter.unusedSimpArgs false in
set_option maxHeartbeats 6400000 in
set_option maxRecDepth 100000 in
theorem r3Pow_down (P : Int) (Q : Nat) (N most : Int) (w : World) (hQ : 0 < Q) (hc : Nat.gcd P.natAbs Q = 1) (hN : N < 0) (hN0 : -9223372036854775808 ≤ N) (hP : P ≠ 0) (hm : most ≤ 12) (d1 : dl P.natAbs ≤ 30) (d2 : dl Q ≤ 30) (hl : (decide (Q = 1) && (decide (P.natAbs = 0) || decide (P.natAbs = 1))) = false) : Calls Tryz.prog 58 #[.agg #[.bool (rB P), .string (rS P), .string (str (dec Q))], .int .i64 N, .int .i64 most] w fun e w' => NumTold3 w w' e (poP P Q N most) (poQ P Q N most) (poO P Q N most) := by
  have z0 : ((rS P).toList == [48]) = false := by rw [rS_is0]; exact decide_eq_false hP
  have BB := Lib.hid ((Bag.start w).box3 (.bool (rB P)) (.string (rS P)) (.string (str (dec Q))) 23 |>.box3 (.bool false) (.string ⟨#[]⟩) (.string ⟨#[]⟩) 23)
  simp only [World.size_alloc] at BB
  have LI := Lib.hid (fun wz => r3Limited_any (rB P) P Q wz)
  rw [hl] at LI
  have FR := Lib.hid (fun wz => r3From_any 1 wz (by omega))
  unfold NumTold at FR
  have DV : Hid (∀ wz, Calls Tryz.prog 48 #[.agg #[.bool (rB 1), .string (rS 1), .string (str (dec 1))], .agg #[.bool (rB P), .string (rS P), .string (str (dec Q))]] wz fun e w' => NumTold3 wz w' e (inP P Q) (inQ P Q) true) := fun wz => r3Div_some 1 1 P Q wz (by omega) hP (Nat.le_trans (dl_le _ 1 (by omega) (by decide)) (by omega)) (Nat.le_trans (dl_le _ 1 (by omega) (by decide)) (by omega)) (by omega) (by omega)
  unfold NumTold3 at DV
  have hu : 0 < upN N ∧ upN N ≤ 9223372036854775807 := by unfold upN; split <;> omega
  have PX : Hid (∀ wz, Calls Tryz.prog 108 #[.string (rS (inP P Q)), .int .i64 (upN N), .int .i64 most] wz fun e w' => e = .returned (.tuple #[.string (str (dec (powN (inP P Q).natAbs (upN N) most).1)), .bool (powN (inP P Q).natAbs (upN N) most).2]) ∧ Below wz.heap.size wz w') := fun wz => rpow_any (inP P Q).natAbs (upN N) most wz (Nat.le_trans (dl_mono (inP_abs P Q)) d2) hm hu.2 (by omega)
  have PY := Lib.hid (fun wz => rpow_any (inQ P Q) (upN N) most wz (Nat.le_trans (dl_mono (inQ_le P Q)) d1) hm hu.2 (by omega))
  obtain ⟨t1, t2, t3⟩ := po_neg hQ hc hN hN0 hP hm hl
  have ho : (!(N.tmod 2 == 0)) = odd2 N := rfl
  obtain ⟨od, hod⟩ : ∃ x, odd2 N = x := ⟨_, rfl⟩
  rw [hod] at ho t2
  have ho2 : (N.tmod 2 != 0) = od := ho
  rw [t1] at t2 t3 ⊢
  generalize poP P Q N most = PP at *
  generalize poQ P Q N most = QQ at *
  generalize (powN (inP P Q).natAbs (upN N) most).2 = k1 at *
  generalize (powN (inQ P Q) (upN N) most).2 = k2 at *
  generalize str (dec (powN (inP P Q).natAbs (upN N) most).1) = xs at *
  have hxq : ∃ xq, str (dec (powN (inQ P Q) (upN N) most).1) = xq := ⟨_, rfl⟩
  obtain ⟨xq, hxq⟩ := hxq
  rw [hxq] at PY
  have ZR := Lib.hid (fun wz => r3Zero_any wz)
  unfold NumTold at ZR
  obtain ⟨y1, hy1⟩ : ∃ x, rB 0 = x := ⟨_, rfl⟩
  obtain ⟨y2, hy2⟩ : ∃ x, rS 0 = x := ⟨_, rfl⟩
  obtain ⟨y3, hy3⟩ : ∃ x, str (dec 1) = x := ⟨_, rfl⟩
  rw [hy1, hy2, hy3] at ZR
  have HN : Hid ((k1 && k2) = false → ∀ w2, Below w.heap.size w w2 → NumTold3 w (((w2.setCell ⟨w.heap.size + 1, 0, none⟩ (.bool y1)).setCell ⟨w.heap.size + 1, 1, none⟩ (.string y2)).setCell ⟨w.heap.size + 1, 2, none⟩ (.string y3)) (.returned (.tuple #[.agg #[.bool y1, .string y2, .string y3], .bool false])) PP QQ (k1 && k2)) := by
    intro hk w2 hb
    obtain ⟨i1, i2⟩ := t3 hk
    rw [i1, i2, hk]
    exact ⟨by rw [hy1, hy2, hy3], ((hb.setCell (p := ⟨w.heap.size + 1, 0, none⟩) (show w.heap.size ≤ w.heap.size + 1 by omega) _).setCell (p := ⟨w.heap.size + 1, 1, none⟩) (show w.heap.size ≤ w.heap.size + 1 by omega) _).setCell (p := ⟨w.heap.size + 1, 2, none⟩) (show w.heap.size ≤ w.heap.size + 1 by omega) _⟩
  have HY : Hid ((k1 && k2) = true → ∀ w2, Below w.heap.size w w2 → NumTold3 w (((w2.setCell ⟨w.heap.size + 1, 0, none⟩ (.bool (rB (inP P Q) && od))).setCell ⟨w.heap.size + 1, 1, none⟩ (.string xs)).setCell ⟨w.heap.size + 1, 2, none⟩ (.string xq)) (.returned (.tuple #[.agg #[.bool (rB (inP P Q) && od), .string xs, .string xq], .bool true])) PP QQ (k1 && k2)) := by
    intro hk w2 hb
    obtain ⟨i1, i2, i3⟩ := t2 hk
    rw [hk]
    exact ⟨by rw [i1, i2, i3, hxq], ((hb.setCell (p := ⟨w.heap.size + 1, 0, none⟩) (show w.heap.size ≤ w.heap.size + 1 by omega) _).setCell (p := ⟨w.heap.size + 1, 1, none⟩) (show w.heap.size ≤ w.heap.size + 1 by omega) _).setCell (p := ⟨w.heap.size + 1, 2, none⟩) (show w.heap.size ≤ w.heap.size + 1 by omega) _⟩
  clear hy1 hy2 hy3 t2 t3 hxq
  have hn1 : N ≠ 0 := by omega
  have hw1 : ¬ N < -9223372036854775807 → -N = upN N := by
    intro h
    unfold upN
    rw [if_neg h]
  have hw5 : ¬ N < -9223372036854775807 → IntKind.i64.wrap (-N) = -N := fun h => IntWalk.i64_in _ (by omega)
  have hw6 : ¬ N < -9223372036854775807 → IntKind.i64.wrap (0 - N) = -N := fun h => by rw [IntWalk.i64_in _ (by omega)]; omega
  have hw2 : N < -9223372036854775807 → (9223372036854775807 : Int) = upN N := by
    intro h
    unfold upN
    rw [if_pos h]
  have hw3 : IntKind.i64.wrap (0 - -9223372036854775807) = 9223372036854775807 := by rw [IntWalk.i64_in _ (by omega)]; rfl
  clear hl hod d1 d2 hm hN0 t1 hQ hc hP hu
  generalize upN N = U at *
  generalize rB (inP P Q) = ib at *
  generalize rS (inP P Q) = is at *
  generalize str (dec (inQ P Q)) = iq at *
  generalize rB 1 = e1 at *
  generalize rS 1 = e2 at *
  generalize str (dec 1) = e3 at *
  generalize rB P = pb at *
  generalize rS P = ps at *
  generalize str (dec Q) = q at *
  have q0 := BB.out.now.2.1.cell
  have q1 := BB.out.now.2.1.cell1
  have q2 := BB.out.now.2.1.cell2
  by_cases hmn : N < -9223372036854775807
  all_goals
    first
      | (have hw4 := hw2 hmn
         subst hw4)
      | (have hw4 := hw1 hmn
         subst hw4
         have hw7 := hw5 hmn
         have hw8 := hw6 hmn)
  all_goals cases od
  all_goals
    clear hw1 hw2 hw5 hw6
    go_enter Tryz.func58, Tryz.ntmps58
    go_wp2_with fail
    go_at_call 38
    (with_reducible refine (LI.out _).mono ?_)
    rintro e w2 ⟨rfl, hb2⟩
    have BB := Lib.hid (BB.out.go hb2)
    clear hb2 q0 q1 q2
    have q0 := BB.out.now.2.1.cell
    have q1 := BB.out.now.2.1.cell1
    have q2 := BB.out.now.2.1.cell2
    go_wp2_with fail
    have BB := Lib.hid BB.out.drew
    go_region_with (first
      | (go_at_call 27; (with_reducible refine (FR.out _).mono ?_); rintro e w3 ⟨rfl, hb3⟩; have BB := Lib.hid (BB.out.go hb3); have q0 := BB.out.now.2.1.cell; have q1 := BB.out.now.2.1.cell1; have q2 := BB.out.now.2.1.cell2)
      | (go_at_call 48; (with_reducible refine (DV.out _).mono ?_); rintro e w4 ⟨rfl, hb4⟩; have B7 := BB.out.go hb4; have hs := B7.now.2.1; have hr := B7.now.1; have l0 := hs.cell; have l1 := hs.cell1; have l2 := hs.cell2; have f0 := hs.free; have f1 := hs.free1; have f2 := hs.free2; have BB := Lib.hid ((((Bag.start w).go (((B7.below.setCell (p := ⟨w.heap.size, 0, none⟩) (Nat.le_refl _) (.bool ib)).setCell (p := ⟨w.heap.size, 1, none⟩) (Nat.le_refl _) (.string is)).setCell (p := ⟨w.heap.size, 2, none⟩) (Nat.le_refl _) (.string iq))).slot3 (hs.set3 (.bool ib) (.string is) (.string iq))).slot3 (hr.set3o (k := w.heap.size) (by omega) (.bool ib) (.string is) (.string iq)))))
    all_goals
      have q0 := BB.out.now.2.1.cell
      have q1 := BB.out.now.2.1.cell1
      have q2 := BB.out.now.2.1.cell2
      go_wp2_with fail
      go_at_call 108
      (with_reducible refine (PX.out _).mono ?_)
      rintro e w5 ⟨rfl, hb5⟩
      have BB := Lib.hid (BB.out.go hb5)
      clear hb5 q0 q1 q2
      have q0 := BB.out.now.2.1.cell
      have q1 := BB.out.now.2.1.cell1
      have q2 := BB.out.now.2.1.cell2
      go_wp2_with fail
      go_at_call 108
      (with_reducible refine (PY.out _).mono ?_)
      rintro e w6 ⟨rfl, hb6⟩
      have BB := Lib.hid (BB.out.go hb6)
      clear hb6 q0 q1 q2
      have q0 := BB.out.now.2.1.cell
      have q1 := BB.out.now.2.1.cell1
      have q2 := BB.out.now.2.1.cell2
      cases k1 with
      | false =>
        go_wp2_with fail
        go_at_call 78
        (with_reducible refine (ZR.out _).mono ?_)
        rintro e w7 ⟨rfl, hb7⟩
        have BB := Lib.hid (BB.out.go hb7)
        clear hb7 q0 q1 q2
        have hs := BB.out.now.1
        have u0 := hs.cell
        have u1 := hs.cell1
        have u2 := hs.cell2
        have g0 := hs.free
        have g1 := hs.free1
        have g2 := hs.free2
        have HS := hs.set (.bool y1) (.string y2) (.string y3)
        have HE := Lib.hid (HN.out rfl _ BB.out.below)
        clear hs
        go_wp2
        exact bodyPost_ret (v := .tuple #[.agg #[.bool y1, .string y2, .string y3], .bool false]) (by simp [results, Tryz.results58, go_sem, HS]) rfl HE.out
      | true =>
        cases k2 with
        | false =>
          go_wp2_with fail
          go_at_call 78
          (with_reducible refine (ZR.out _).mono ?_)
          rintro e w7 ⟨rfl, hb7⟩
          have BB := Lib.hid (BB.out.go hb7)
          clear hb7 q0 q1 q2
          have hs := BB.out.now.1
          have u0 := hs.cell
          have u1 := hs.cell1
          have u2 := hs.cell2
          have g0 := hs.free
          have g1 := hs.free1
          have g2 := hs.free2
          have HS := hs.set (.bool y1) (.string y2) (.string y3)
          have HE := Lib.hid (HN.out rfl _ BB.out.below)
          clear hs
          go_wp2
          exact bodyPost_ret (v := .tuple #[.agg #[.bool y1, .string y2, .string y3], .bool false]) (by simp [results, Tryz.results58, go_sem, HS]) rfl HE.out
        | true =>
          cases ib
          all_goals
            have hs := BB.out.now.1
            have u0 := hs.cell
            have u1 := hs.cell1
            have u2 := hs.cell2
            have g0 := hs.free
            have g1 := hs.free1
            have g2 := hs.free2
            have HT := hs.set (.bool true) (.string xs) (.string xq)
            have HF := hs.set (.bool false) (.string xs) (.string xq)
            have HE := Lib.hid (HY.out rfl _ BB.out.below)
            clear hs
            go_wp2
            first
              | exact bodyPost_ret (v := .tuple #[.agg #[.bool true, .string xs, .string xq], .bool true]) (by simp [results, Tryz.results58, go_sem, HT]) rfl HE.out
              | exact bodyPost_ret (v := .tuple #[.agg #[.bool false, .string xs, .string xq], .bool true]) (by simp [results, Tryz.results58, go_sem, HF]) rfl HE.out

end Go.Proofs.YtipfhbfjbbiglaaGreatDoor
