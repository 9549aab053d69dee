/-
  The document's answers (package typeballref03): Pow (Rp1), by contract.
-/
import Derived.Test.YtipfhbfjbbiglaaGreatDoorRp0
import Derived.Test.YtipfhbfjbbiglaaGreatDoorRr4
import Derived.Test.YtipfhbfjbbiglaaGreatDoorInw
namespace Go.Proofs.YtipfhbfjbbiglaaGreatDoor
open Go.RowKit
attribute [local go_sem ↓] Go.wp_at_zero Go.wp_at_succ

set_option linter.unusedSimpArgs false in
set_option maxHeartbeats 6400000 in
set_option maxRecDepth 100000 in
theorem r3Pow_lim (P N most : Int) (w : World) (hN : N ≠ 0) (hP : (decide (P.natAbs = 0) || decide (P.natAbs = 1)) = true) (h : ¬ (P = 0 ∧ N < 0)) : Calls Tryz.prog 58 #[.agg #[.bool (rB P), .string (rS P), .string (str (dec 1))], .int .i64 N, .int .i64 most] w fun e w' => NumTold3 w w' e (poP P 1 N most) (poQ P 1 N most) (poO P 1 N most) := by
  obtain ⟨s1, s2, s3, s4⟩ := po_lim (most := most) hN hP h
  have z0 := rS_is0 P
  have BB := Lib.hid ((Bag.start w).box3 (.bool (rB P)) (.string (rS P)) (.string (str (dec 1))) 23 |>.box3 (.bool false) (.string ⟨#[]⟩) (.string ⟨#[]⟩) 23)
  simp only [World.size_alloc] at BB
  have LI := Lib.hid (fun wz => r3Limited_any (rB P) P 1 wz)
  rw [decide_eq_true rfl, Bool.true_and, hP] at LI
  have ho : (!(N.tmod 2 == 0)) = odd2 N := rfl
  obtain ⟨od, hod⟩ : ∃ x, odd2 N = x := ⟨_, rfl⟩
  rw [hod] at ho s3
  have ho2 : (N.tmod 2 != 0) = od := ho
  have hN2 : (N == 0) = false := by rw [beq_eq_false_iff_ne]; exact hN
  obtain ⟨zz, hzz⟩ : ∃ x, decide (P = 0) = x := ⟨_, rfl⟩
  obtain ⟨nn, hnn⟩ : ∃ x, decide (N < 0) = x := ⟨_, rfl⟩
  have hzn : (zz && nn) = false := by rw [← hzz, ← hnn, ← Bool.not_eq_true, Bool.and_eq_true, decide_eq_true_eq, decide_eq_true_eq]; exact h
  rw [hzz] at z0
  rw [s1]
  have d1 := dec1
  generalize hPP : poP P 1 N most = PP at *
  generalize hQQ : poQ P 1 N most = QQ at *
  subst s2
  have HR : Hid (rB PP = (rB P && od) ∧ rS PP = rS P ∧ str (dec 1) = ⟨#[49]⟩) := ⟨s3, s4, d1⟩
  clear s3 s4 hPP hQQ h hP hzz hod d1 s1
  generalize rB P = pb at *
  generalize rS P = ps at *
  generalize str (dec 1) = o1 at *
  have q0 := BB.out.now.2.1.cell
  have q1 := BB.out.now.2.1.cell1
  have q2 := BB.out.now.2.1.cell2
  cases pb <;> cases od <;> cases zz <;> cases nn
  all_goals
    first
      | (cases hzn; done)
      | skip
  all_goals
    clear hzn
    go_enter Tryz.func58, Tryz.ntmps58
    go_wp2_with fail
    go_at_call 38
    (with_reducible refine (LI.out _).mono ?_)
    rintro e w2 ⟨rfl, hb2⟩
    have BB := Lib.hid (BB.out.go hb2)
    clear hb2 q0 q1 q2
    have q0 := BB.out.now.2.1.cell
    have q1 := BB.out.now.2.1.cell1
    have q2 := BB.out.now.2.1.cell2
    have hs := BB.out.now.1
    have u0 := hs.cell
    have u1 := hs.cell1
    have u2 := hs.cell2
    have g0 := hs.free
    have g1 := hs.free1
    have g2 := hs.free2
    have HE := fun b w2 (hb : Below w.heap.size w w2) (hh : rB PP = b) => (show NumTold3 w (((w2.setCell ⟨w.heap.size + 1, 0, none⟩ (.bool b)).setCell ⟨w.heap.size + 1, 1, none⟩ (.string ps)).setCell ⟨w.heap.size + 1, 2, none⟩ (.string ⟨#[49]⟩)) (.returned (.tuple #[.agg #[.bool b, .string ps, .string ⟨#[49]⟩], .bool true])) PP 1 true from ⟨by rw [hh, HR.out.2.1, dec1], ((hb.setCell (p := ⟨w.heap.size + 1, 0, none⟩) (show w.heap.size ≤ w.heap.size + 1 by omega) _).setCell (p := ⟨w.heap.size + 1, 1, none⟩) (show w.heap.size ≤ w.heap.size + 1 by omega) _).setCell (p := ⟨w.heap.size + 1, 2, none⟩) (show w.heap.size ≤ w.heap.size + 1 by omega) _⟩)
    have HT := hs.set (.bool true) (.string ps) (.string ⟨#[49]⟩)
    have HF := hs.set (.bool false) (.string ps) (.string ⟨#[49]⟩)
    have HE := Lib.hid HE
    clear hs
    go_wp2
    first
      | (have hb : rB PP = true := HR.out.1; exact bodyPost_ret (v := .tuple #[.agg #[.bool true, .string ps, .string ⟨#[49]⟩], .bool true]) (by simp [results, Tryz.results58, go_sem, HT]) rfl (HE.out true _ BB.out.below hb))
      | (have hb : rB PP = false := HR.out.1; exact bodyPost_ret (v := .tuple #[.agg #[.bool false, .string ps, .string ⟨#[49]⟩], .bool true]) (by simp [results, Tryz.results58, go_sem, HF]) rfl (HE.out false _ BB.out.below hb))

end Go.Proofs.YtipfhbfjbbiglaaGreatDoor
