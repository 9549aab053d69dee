/-
  The document's answers (package typeballref03): Pow (Rp2), by contract.
-/
import Derived.Test.YtipfhbfjbbiglaaGreatDoorRp0
import Derived.Test.YtipfhbfjbbiglaaGreatDoorRr4
import Derived.Test.YtipfhbfjbbiglaaGreatDoorInw
namespace Go.Proofs.YtipfhbfjbbiglaaGreatDoor
open Go.RowKit
attribute [local go_sem ↓] Go.wp_at_zero Go.wp_at_succ

set_option linter.unusedSimpArgs false in
set_option maxHeartbeats 6400000 in
set_option maxRecDepth 100000 in
theorem r3Pow_up (P : Int) (Q : Nat) (N most : Int) (w : World) (hN : 0 < N) (hN2 : N ≤ 9223372036854775807) (hm : most ≤ 12) (d1 : dl P.natAbs ≤ 30) (d2 : dl Q ≤ 30) (hl : (decide (Q = 1) && (decide (P.natAbs = 0) || decide (P.natAbs = 1))) = false) : Calls Tryz.prog 58 #[.agg #[.bool (rB P), .string (rS P), .string (str (dec Q))], .int .i64 N, .int .i64 most] w fun e w' => NumTold3 w w' e (raP P Q N most) (raQ P Q N most) (raO P Q N most) := by
  have z0 := rS_is0 P
  have BB := Lib.hid ((Bag.start w).box3 (.bool (rB P)) (.string (rS P)) (.string (str (dec Q))) 23 |>.box3 (.bool false) (.string ⟨#[]⟩) (.string ⟨#[]⟩) 23)
  simp only [World.size_alloc] at BB
  have LI := Lib.hid (fun wz => r3Limited_any (rB P) P Q wz)
  rw [hl] at LI
  have PX : Hid (∀ wz, Calls Tryz.prog 108 #[.string (rS P), .int .i64 N, .int .i64 most] wz fun e w' => e = .returned (.tuple #[.string (str (dec (powN P.natAbs N most).1)), .bool (powN P.natAbs N most).2]) ∧ Below wz.heap.size wz w') := fun wz => rpow_any P.natAbs N most wz d1 hm hN2 (by omega)
  have PY := Lib.hid (fun wz => rpow_any Q N most wz d2 hm hN2 (by omega))
  obtain ⟨t1, t2, t3⟩ := ra_told P Q N most
  have ho : (!(N.tmod 2 == 0)) = odd2 N := rfl
  rw [← odd2_pos (show 0 ≤ N by omega)] at t2
  obtain ⟨od, hod⟩ : ∃ x, odd2 N = x := ⟨_, rfl⟩
  rw [hod] at ho t2
  have ho2 : (N.tmod 2 != 0) = od := ho
  have ho3 : (N % 2 != 0) = od := by
    rw [← hod, odd2_pos (by omega), Bool.eq_iff_iff, decide_eq_true_eq, bne_iff_ne]; omega
  rw [t1] at t2 t3 ⊢
  obtain ⟨zz, hzz⟩ : ∃ x, decide (P = 0) = x := ⟨_, rfl⟩
  rw [hzz] at z0
  generalize raP P Q N most = PP at *
  generalize raQ P Q N most = QQ at *
  generalize (powN P.natAbs N most).2 = k1 at *
  generalize (powN Q N most).2 = k2 at *
  generalize str (dec (powN P.natAbs N most).1) = xs at *
  have hxq : ∃ xq, str (dec (powN Q N most).1) = xq := ⟨_, rfl⟩
  obtain ⟨xq, hxq⟩ := hxq
  rw [hxq] at PY
  have ZR := Lib.hid (fun wz => r3Zero_any wz)
  unfold NumTold at ZR
  obtain ⟨y1, hy1⟩ : ∃ x, rB 0 = x := ⟨_, rfl⟩
  obtain ⟨y2, hy2⟩ : ∃ x, rS 0 = x := ⟨_, rfl⟩
  obtain ⟨y3, hy3⟩ : ∃ x, str (dec 1) = x := ⟨_, rfl⟩
  rw [hy1, hy2, hy3] at ZR
  have HN : Hid ((k1 && k2) = false → ∀ w2, Below w.heap.size w w2 → NumTold3 w (((w2.setCell ⟨w.heap.size + 1, 0, none⟩ (.bool y1)).setCell ⟨w.heap.size + 1, 1, none⟩ (.string y2)).setCell ⟨w.heap.size + 1, 2, none⟩ (.string y3)) (.returned (.tuple #[.agg #[.bool y1, .string y2, .string y3], .bool false])) PP QQ (k1 && k2)) := by
    intro hk w2 hb
    obtain ⟨i1, i2⟩ := t3 hk
    rw [i1, i2, hk]
    exact ⟨by rw [hy1, hy2, hy3], ((hb.setCell (p := ⟨w.heap.size + 1, 0, none⟩) (show w.heap.size ≤ w.heap.size + 1 by omega) _).setCell (p := ⟨w.heap.size + 1, 1, none⟩) (show w.heap.size ≤ w.heap.size + 1 by omega) _).setCell (p := ⟨w.heap.size + 1, 2, none⟩) (show w.heap.size ≤ w.heap.size + 1 by omega) _⟩
  have HY : Hid ((k1 && k2) = true → ∀ w2, Below w.heap.size w w2 → NumTold3 w (((w2.setCell ⟨w.heap.size + 1, 0, none⟩ (.bool (rB P && od))).setCell ⟨w.heap.size + 1, 1, none⟩ (.string xs)).setCell ⟨w.heap.size + 1, 2, none⟩ (.string xq)) (.returned (.tuple #[.agg #[.bool (rB P && od), .string xs, .string xq], .bool true])) PP QQ (k1 && k2)) := by
    intro hk w2 hb
    obtain ⟨i1, i2, i3⟩ := t2 hk
    rw [hk]
    exact ⟨by rw [i1, i2, i3, hxq], ((hb.setCell (p := ⟨w.heap.size + 1, 0, none⟩) (show w.heap.size ≤ w.heap.size + 1 by omega) _).setCell (p := ⟨w.heap.size + 1, 1, none⟩) (show w.heap.size ≤ w.heap.size + 1 by omega) _).setCell (p := ⟨w.heap.size + 1, 2, none⟩) (show w.heap.size ≤ w.heap.size + 1 by omega) _⟩
  clear hy1 hy2 hy3 t2 t3 hxq
  have hn1 : N ≠ 0 := by omega
  have hn2 : ¬ N < 0 := by omega
  clear hl hzz hod d1 d2 hm hN2 t1
  generalize rB P = pb at *
  generalize rS P = ps at *
  generalize str (dec Q) = q at *
  have q0 := BB.out.now.2.1.cell
  have q1 := BB.out.now.2.1.cell1
  have q2 := BB.out.now.2.1.cell2
  cases zz <;> cases od
  all_goals
    go_enter Tryz.func58, Tryz.ntmps58
    go_wp2_with fail
    go_at_call 38
    (with_reducible refine (LI.out _).mono ?_)
    rintro e w2 ⟨rfl, hb2⟩
    have BB := Lib.hid (BB.out.go hb2)
    clear hb2 q0 q1 q2
    have q0 := BB.out.now.2.1.cell
    have q1 := BB.out.now.2.1.cell1
    have q2 := BB.out.now.2.1.cell2
    go_wp2_with fail
    go_at_call 108
    (with_reducible refine (PX.out _).mono ?_)
    rintro e w5 ⟨rfl, hb5⟩
    have BB := Lib.hid (BB.out.go hb5)
    clear hb5 q0 q1 q2
    have q0 := BB.out.now.2.1.cell
    have q1 := BB.out.now.2.1.cell1
    have q2 := BB.out.now.2.1.cell2
    go_wp2_with fail
    go_at_call 108
    (with_reducible refine (PY.out _).mono ?_)
    rintro e w6 ⟨rfl, hb6⟩
    have BB := Lib.hid (BB.out.go hb6)
    clear hb6 q0 q1 q2
    have q0 := BB.out.now.2.1.cell
    have q1 := BB.out.now.2.1.cell1
    have q2 := BB.out.now.2.1.cell2
    cases k1 with
    | false =>
      go_wp2_with fail
      go_at_call 78
      (with_reducible refine (ZR.out _).mono ?_)
      rintro e w7 ⟨rfl, hb7⟩
      have BB := Lib.hid (BB.out.go hb7)
      clear hb7 q0 q1 q2
      have hs := BB.out.now.1
      have u0 := hs.cell
      have u1 := hs.cell1
      have u2 := hs.cell2
      have g0 := hs.free
      have g1 := hs.free1
      have g2 := hs.free2
      have HS := hs.set (.bool y1) (.string y2) (.string y3)
      have HE := Lib.hid (HN.out rfl _ BB.out.below)
      clear hs
      go_wp2
      exact bodyPost_ret (v := .tuple #[.agg #[.bool y1, .string y2, .string y3], .bool false]) (by simp [results, Tryz.results58, go_sem, HS]) rfl HE.out
    | true =>
      cases k2 with
      | false =>
        go_wp2_with fail
        go_at_call 78
        (with_reducible refine (ZR.out _).mono ?_)
        rintro e w7 ⟨rfl, hb7⟩
        have BB := Lib.hid (BB.out.go hb7)
        clear hb7 q0 q1 q2
        have hs := BB.out.now.1
        have u0 := hs.cell
        have u1 := hs.cell1
        have u2 := hs.cell2
        have g0 := hs.free
        have g1 := hs.free1
        have g2 := hs.free2
        have HS := hs.set (.bool y1) (.string y2) (.string y3)
        have HE := Lib.hid (HN.out rfl _ BB.out.below)
        clear hs
        go_wp2
        exact bodyPost_ret (v := .tuple #[.agg #[.bool y1, .string y2, .string y3], .bool false]) (by simp [results, Tryz.results58, go_sem, HS]) rfl HE.out
      | true =>
        cases pb
        all_goals
          have hs := BB.out.now.1
          have u0 := hs.cell
          have u1 := hs.cell1
          have u2 := hs.cell2
          have g0 := hs.free
          have g1 := hs.free1
          have g2 := hs.free2
          have HT := hs.set (.bool true) (.string xs) (.string xq)
          have HF := hs.set (.bool false) (.string xs) (.string xq)
          have HE := Lib.hid (HY.out rfl _ BB.out.below)
          clear hs
          go_wp2
          first
            | exact bodyPost_ret (v := .tuple #[.agg #[.bool true, .string xs, .string xq], .bool true]) (by simp [results, Tryz.results58, go_sem, HT]) rfl HE.out
            | exact bodyPost_ret (v := .tuple #[.agg #[.bool false, .string xs, .string xq], .bool true]) (by simp [results, Tryz.results58, go_sem, HF]) rfl HE.out

end Go.Proofs.YtipfhbfjbbiglaaGreatDoor
