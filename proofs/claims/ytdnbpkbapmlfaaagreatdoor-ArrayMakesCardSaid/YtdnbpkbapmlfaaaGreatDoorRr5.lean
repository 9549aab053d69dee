/-
  The document's answers (package typeballref03): Int, by contract.
-/
import Derived.Test.YtdnbpkbapmlfaaaGreatDoorRr1
namespace Go.Proofs.YtdnbpkbapmlfaaaGreatDoor
open Go.RowKit
attribute [local go_sem ↓] Go.wp_at_zero Go.wp_at_succ

set_option maxHeartbeats 1600000 in
set_option maxRecDepth 100000 in
theorem r3Int_any (P : Int) (Q : Nat) (w : World) (hl : dl P.natAbs ≤ 1000) :
    Calls Tryz.prog 75 #[.agg #[.bool (rB P), .string (rS P), .string (str (dec Q))]] w fun e w' => e = .returned (.tuple #[.int .i64 (if Q = 1 then fitI P else 0), .bool (decide (Q = 1) && fitB P)]) ∧ Below w.heap.size w w' := by
  have h1 := dec_is1 Q
  have TA : Hid (∀ wz, Calls Tryz.prog 129 #[.agg #[.bool (rB P), .string (rS P), .string (str (dec Q))]] wz fun e w' => RTold wz w' e P) := fun wz => r3Top_any P _ wz (by omega)
  have SM := Lib.hid (fun wz => rSmall_any P wz hl)
  unfold RTold at TA
  have BB := Lib.hid ((Bag.start w).box3 (.bool (rB P)) (.string (rS P)) (.string (str (dec Q))) 34)
  generalize str (dec Q) = t at *
  generalize rB P = b at *
  generalize rS P = s at *
  generalize fitI P = x at *
  generalize fitB P = y at *
  have q0 := BB.out.now.1.cell
  have q1 := BB.out.now.1.cell1
  have q2 := BB.out.now.1.cell2
  clear hl
  by_cases hq : Q = 1
  · rw [decide_eq_true hq] at h1
    rw [if_pos hq, decide_eq_true hq, Bool.true_and]
    clear hq
    go_enter Tryz.func75, Tryz.ntmps75
    go_wp2_with (first
      | (go_at_call 129; (with_reducible refine (TA.out _).mono ?_); rintro e w2 ⟨rfl, hb2⟩; have BB := Lib.hid (BB.out.go hb2))
      | (go_at_call 128; (with_reducible refine (SM.out _).mono ?_); rintro e w3 ⟨rfl, hb3⟩; have BB := Lib.hid (BB.out.go hb3)))
    go_ret2
    exact ⟨rfl, BB.out.below⟩
  · rw [decide_eq_false hq] at h1
    rw [if_neg hq, decide_eq_false hq, Bool.false_and]
    clear hq TA SM
    go_enter Tryz.func75, Tryz.ntmps75
    go_wp2
    go_ret2
    exact ⟨rfl, BB.out.below⟩

end Go.Proofs.YtdnbpkbapmlfaaaGreatDoor
