/-
  The document's answers (package typeballref03): Ceil, by contract.
-/
import Derived.Test.YtipfhbfjbbiglaaGreatDoorRr3
import Derived.Test.YtipfhbfjbbiglaaGreatDoorRf1
namespace Go.Proofs.YtipfhbfjbbiglaaGreatDoor
open Go.RowKit
attribute [local go_sem ↓] Go.wp_at_zero Go.wp_at_succ

theorem nw_dl (Z Y : Int) : dl (nwP Z Y).natAbs ≤ dl Z.natAbs ∧ dl (nwQ Z Y) ≤ dl Y.natAbs := by
  rw [(nw_abs Z Y).1, (nw_abs Z Y).2]
  exact ⟨dl_mono (Nat.div_le_self _ _), dl_mono (Nat.div_le_self _ _)⟩
theorem lo_dl (Z : Int) (Y : Nat) : dl (loP Z Y).natAbs ≤ dl Z.natAbs ∧ dl (loQ Z Y) ≤ dl Y := ⟨dl_mono (loP_absle _ _), dl_mono (loQ_le _ _)⟩
theorem dl_one : dl 1 = 1 := Nat.le_antisymm (dl_le 1 1 (by omega) (by decide)) (dl_pos 1)


set_option maxHeartbeats 1600000 in
set_option maxRecDepth 100000 in
theorem r3Ceil_any (P : Int) (Q : Nat) (w : World) (hQ : 0 < Q) (h1 : dl P.natAbs ≤ 400) (h2 : dl Q ≤ 400) :
    Calls Tryz.prog 46 #[.agg #[.bool (rB P), .string (rS P), .string (str (dec Q))]] w fun e w' => RTold w w' e (-(flQ (-P) Q)) := by
  have BB := Lib.hid ((Bag.start w).box3 (.bool (rB P)) (.string (rS P)) (.string (str (dec Q))) 23 |>.box2 (.bool false) (.string ⟨#[]⟩) 26)
  simp only [World.size_alloc] at BB
  have MN := Lib.hid (fun wz => r3Minus_any P Q wz)
  have FL := Lib.hid (fun wz => r3Floor_any (-P) Q wz hQ (by rw [Int.natAbs_neg]; exact h1) h2)
  have hz : dl (flQ (-P) (Q : Int)).natAbs ≤ 401 := by
    have := flQ_abs (-P) (Q : Int)
    rw [Int.natAbs_neg] at this
    exact Nat.le_trans (dl_mono this) (dl_add_le (k := 400) h1 (Nat.le_trans (dl_le 1 1 (by omega) (by decide)) (by omega)))
  have MZ := Lib.hid (fun wz => rMinus_any (flQ (-P) (Q : Int)) wz (by omega))
  have HF := Lib.hid (fun w2 b s (hb : Below w.heap.size w w2) (h1 : rB (-(flQ (-P) (Q : Int))) = b) (h2 : rS (-(flQ (-P) (Q : Int))) = s) => RTold.fin (Y := -(flQ (-P) (Q : Int))) hb (show w.heap.size ≤ w.heap.size + 1 by omega) h1 h2)
  unfold NumTold at MN
  unfold RTold at FL MZ
  obtain ⟨b, hb⟩ : ∃ b, rB (-(flQ (-P) (Q : Int))) = b := ⟨_, rfl⟩
  obtain ⟨s, hs⟩ : ∃ s, rS (-(flQ (-P) (Q : Int))) = s := ⟨_, rfl⟩
  have HB := Lib.hid (And.intro hb hs)
  rw [hb, hs] at MZ
  generalize rB (flQ (-P) (Q : Int)) = b2 at *
  generalize rS (flQ (-P) (Q : Int)) = s2 at *
  generalize rB (-P) = b3 at *
  generalize rS (-P) = s3 at *
  generalize rB P = b4 at *
  generalize rS P = s4 at *
  generalize str (dec Q) = t at *
  have q0 := BB.out.now.2.1.cell
  have q1 := BB.out.now.2.1.cell1
  have q2 := BB.out.now.2.1.cell2
  clear hb hs hz h1 h2 hQ
  go_enter Tryz.func46, Tryz.ntmps46
  go_wp2_with fail
  go_at_call 42
  (with_reducible refine (MN.out _).mono ?_)
  rintro e w2 ⟨rfl, hb2⟩
  have BB := Lib.hid (BB.out.go hb2)
  go_wp2_with fail
  go_at_call 44
  (with_reducible refine (FL.out _).mono ?_)
  rintro e w3 ⟨rfl, hb3⟩
  have BB := Lib.hid (BB.out.go hb3)
  go_wp2_with fail
  go_at_call 99
  (with_reducible refine (MZ.out _).mono ?_)
  rintro e w4 ⟨rfl, hb4⟩
  have BB := Lib.hid (BB.out.go hb4)
  have hs := BB.out.now.1
  have hc := hs.cell
  have hc1 := hs.cell1
  have hf := hs.free
  have hf1 := hs.free1
  have HS := hs.set (.bool b) (.string s)
  have HE := Lib.hid (HF.out _ b s BB.out.below HB.out.1 HB.out.2)
  unfold put2 at HE
  clear hs
  go_wp2
  exact bodyPost_ret (v := .agg #[.bool b, .string s]) (by simp [results, Tryz.results46, go_sem, HS]) rfl HE.out

end Go.Proofs.YtipfhbfjbbiglaaGreatDoor
