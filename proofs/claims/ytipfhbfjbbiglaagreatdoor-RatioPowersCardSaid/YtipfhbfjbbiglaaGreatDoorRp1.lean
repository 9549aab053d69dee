/-
  The document's answers (package typeballref03): Pow (Rp1), by contract.
-/
import Derived.Test.YtipfhbfjbbiglaaGreatDoorRp0
import Derived.Test.YtipfhbfjbbiglaaGreatDoorRr4
import Derived.Test.YtipfhbfjbbiglaaGreatDoorInw
namespace Go.Proofs.YtipfhbfjbbiglaaGreatDoor
open Go.RowKit
attribute [local go_sem ↓] Go.wp_at_zero Go.wp_at_succ

set_option linter.unusedSimpArgs false in
set_option maxHeartbeats 6400000 in
set_option maxRecDepth 100000 in
theorem r3Pow_none (P : Int) (Q : Nat) (most : Int) (w : World) : Calls Tryz.prog 58 #[.agg #[.bool (rB P), .string (rS P), .string (str (dec Q))], .int .i64 0, .int .i64 most] w fun e w' => NumTold3 w w' e 1 1 true := by
  have BB := Lib.hid ((Bag.start w).box3 (.bool (rB P)) (.string (rS P)) (.string (str (dec Q))) 23 |>.box3 (.bool false) (.string ⟨#[]⟩) (.string ⟨#[]⟩) 23)
  simp only [World.size_alloc] at BB
  have FR := Lib.hid (fun wz => r3From_any 1 wz (by omega))
  unfold NumTold at FR
  obtain ⟨y1, hy1⟩ : ∃ x, rB 1 = x := ⟨_, rfl⟩
  obtain ⟨y2, hy2⟩ : ∃ x, rS 1 = x := ⟨_, rfl⟩
  obtain ⟨y3, hy3⟩ : ∃ x, str (dec 1) = x := ⟨_, rfl⟩
  rw [hy1, hy2, hy3] at FR
  have HF := Lib.hid (fun w2 (hb : Below w.heap.size w w2) => (show NumTold3 w (((w2.setCell ⟨w.heap.size + 1, 0, none⟩ (.bool y1)).setCell ⟨w.heap.size + 1, 1, none⟩ (.string y2)).setCell ⟨w.heap.size + 1, 2, none⟩ (.string y3)) (.returned (.tuple #[.agg #[.bool y1, .string y2, .string y3], .bool true])) 1 1 true from ⟨by rw [hy1, hy2, hy3], ((hb.setCell (p := ⟨w.heap.size + 1, 0, none⟩) (show w.heap.size ≤ w.heap.size + 1 by omega) _).setCell (p := ⟨w.heap.size + 1, 1, none⟩) (show w.heap.size ≤ w.heap.size + 1 by omega) _).setCell (p := ⟨w.heap.size + 1, 2, none⟩) (show w.heap.size ≤ w.heap.size + 1 by omega) _⟩))
  clear hy1 hy2 hy3
  go_enter Tryz.func58, Tryz.ntmps58
  go_wp2_with fail
  go_at_call 27
  (with_reducible refine (FR.out _).mono ?_)
  rintro e w2 ⟨rfl, hb2⟩
  have BB := Lib.hid (BB.out.go hb2)
  clear hb2
  have hs := BB.out.now.1
  have u0 := hs.cell
  have u1 := hs.cell1
  have u2 := hs.cell2
  have g0 := hs.free
  have g1 := hs.free1
  have g2 := hs.free2
  have HS := hs.set (.bool y1) (.string y2) (.string y3)
  have HE := Lib.hid (HF.out _ BB.out.below)
  clear hs
  go_wp2
  exact bodyPost_ret (v := .tuple #[.agg #[.bool y1, .string y2, .string y3], .bool true]) (by simp [results, Tryz.results58, go_sem, HS]) rfl HE.out

set_option linter.unusedSimpArgs false in
set_option maxHeartbeats 6400000 in
set_option maxRecDepth 100000 in
theorem r3Pow_nought (Q : Nat) (N most : Int) (w : World) (hN : N < 0) : Calls Tryz.prog 58 #[.agg #[.bool (rB 0), .string (rS 0), .string (str (dec Q))], .int .i64 N, .int .i64 most] w fun e w' => NumTold3 w w' e 0 1 false := by
  have z0 : ((rS 0).toList == [48]) = true := by rw [rS_is0]; rfl
  have BB := Lib.hid ((Bag.start w).box3 (.bool (rB 0)) (.string (rS 0)) (.string (str (dec Q))) 23 |>.box3 (.bool false) (.string ⟨#[]⟩) (.string ⟨#[]⟩) 23)
  simp only [World.size_alloc] at BB
  have ZR := Lib.hid (fun wz => r3Zero_any wz)
  unfold NumTold at ZR
  obtain ⟨y1, hy1⟩ : ∃ x, rB 0 = x := ⟨_, rfl⟩
  obtain ⟨y2, hy2⟩ : ∃ x, rS 0 = x := ⟨_, rfl⟩
  obtain ⟨y3, hy3⟩ : ∃ x, str (dec 1) = x := ⟨_, rfl⟩
  rw [hy1, hy2, hy3] at ZR
  rw [hy1, hy2] at BB
  rw [hy2] at z0
  rw [hy1, hy2]
  have HF := Lib.hid (fun w2 (hb : Below w.heap.size w w2) => (show NumTold3 w (((w2.setCell ⟨w.heap.size + 1, 0, none⟩ (.bool y1)).setCell ⟨w.heap.size + 1, 1, none⟩ (.string y2)).setCell ⟨w.heap.size + 1, 2, none⟩ (.string y3)) (.returned (.tuple #[.agg #[.bool y1, .string y2, .string y3], .bool false])) 0 1 false from ⟨by rw [hy1, hy2, hy3], ((hb.setCell (p := ⟨w.heap.size + 1, 0, none⟩) (show w.heap.size ≤ w.heap.size + 1 by omega) _).setCell (p := ⟨w.heap.size + 1, 1, none⟩) (show w.heap.size ≤ w.heap.size + 1 by omega) _).setCell (p := ⟨w.heap.size + 1, 2, none⟩) (show w.heap.size ≤ w.heap.size + 1 by omega) _⟩))
  have q0 := BB.out.now.2.1.cell
  have q1 := BB.out.now.2.1.cell1
  have q2 := BB.out.now.2.1.cell2
  have hn0 : N ≠ 0 := by omega
  clear hy1 hy2 hy3
  go_enter Tryz.func58, Tryz.ntmps58
  go_wp2_with fail
  go_at_call 78
  (with_reducible refine (ZR.out _).mono ?_)
  rintro e w2 ⟨rfl, hb2⟩
  have BB := Lib.hid (BB.out.go hb2)
  clear hb2 q0 q1 q2
  have hs := BB.out.now.1
  have u0 := hs.cell
  have u1 := hs.cell1
  have u2 := hs.cell2
  have g0 := hs.free
  have g1 := hs.free1
  have g2 := hs.free2
  have HS := hs.set (.bool y1) (.string y2) (.string y3)
  have HE := Lib.hid (HF.out _ BB.out.below)
  clear hs
  go_wp2
  exact bodyPost_ret (v := .tuple #[.agg #[.bool y1, .string y2, .string y3], .bool false]) (by simp [results, Tryz.results58, go_sem, HS]) rfl HE.out

end Go.Proofs.YtipfhbfjbbiglaaGreatDoor
