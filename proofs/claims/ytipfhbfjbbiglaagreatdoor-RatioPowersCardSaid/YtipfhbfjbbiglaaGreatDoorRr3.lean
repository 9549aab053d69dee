/-
  The document's answers (package typeballref03): From, Minus, Limited, Limbs, Int, by contract.
-/
import Derived.Test.YtipfhbfjbbiglaaGreatDoorRr1
import Derived.Test.YtipfhbfjbbiglaaGreatDoorK9
import Derived.Test.YtipfhbfjbbiglaaGreatDoorK10
namespace Go.Proofs.YtipfhbfjbbiglaaGreatDoor
open Go.RowKit
attribute [local go_sem ↓] Go.wp_at_zero Go.wp_at_succ

theorem dec_is1 (N : Nat) : ((str (dec N)).toList == [49]) = decide (N = 1) := dec_eq_digit N 1 (by omega)
theorem dec_is0' (N : Nat) : ((str (dec N)).toList == [48]) = decide (N = 0) := dec_eq_digit N 0 (by omega)

set_option maxHeartbeats 1600000 in
set_option maxRecDepth 100000 in
theorem r3From_any (X : Int) (w : World) (h : -9223372036854775808 ≤ X ∧ X ≤ 9223372036854775807) : Calls Tryz.prog 27 #[.int .i64 X] w fun e w' => NumTold w w' e X 1 := by
  have FR := Lib.hid (fun wz => rFrom_any X wz h)
  unfold RTold at FR
  have BB := Lib.hid ((Bag.start w).box3 (.bool false) (.string ⟨#[]⟩) (.string ⟨#[]⟩) 23)
  have HF := Lib.hid (fun w2 b x y (hb : Below w.heap.size w w2) (h1 : rB X = b) (h2 : rS X = x) (h3 : str (dec 1) = y) => NumTold.done (k := w.heap.size) X 1 hb (Nat.le_refl _) h1 h2 h3)
  obtain ⟨b, hb⟩ : ∃ b, rB X = b := ⟨_, rfl⟩
  obtain ⟨s, hs⟩ : ∃ s, rS X = s := ⟨_, rfl⟩
  have HB := Lib.hid hb
  have HS2 := Lib.hid hs
  rw [hb, hs] at FR
  clear hb hs h
  go_enter Tryz.func27, Tryz.ntmps27
  go_wp2_with fail
  go_at_call 85
  (with_reducible refine (FR.out _).mono ?_)
  rintro e w2 ⟨rfl, hb2⟩
  have BB := Lib.hid ((BB.out.go hb2).box2 (.bool b) (.string s) 26)
  have q0 := BB.out.now.1.cell
  have q1 := BB.out.now.1.cell1
  have hs := BB.out.now.2.1
  have u0 := hs.cell
  have u1 := hs.cell1
  have u2 := hs.cell2
  have g0 := hs.free
  have g1 := hs.free1
  have g2 := hs.free2
  have HS := hs.set (.bool b) (.string s) (.string ⟨#[49]⟩)
  have HE := Lib.hid (HF.out _ b s ⟨#[49]⟩ BB.out.below HB.out HS2.out dec1)
  clear hs hb2
  go_wp2
  exact bodyPost_ret (v := .agg #[.bool b, .string s, .string ⟨#[49]⟩]) (by simp [results, Tryz.results27, go_sem, HS]) rfl HE.out

set_option maxHeartbeats 1600000 in
set_option maxRecDepth 100000 in
theorem r3Limited_any (b : Bool) (P : Int) (Q : Nat) (w : World) : Calls Tryz.prog 38 #[.agg #[.bool b, .string (rS P), .string (str (dec Q))]] w fun e w' => e = .returned (.bool (decide (Q = 1) && (decide (P.natAbs = 0) || decide (P.natAbs = 1)))) ∧ Below w.heap.size w w' := by
  have h1 := dec_is1 Q
  have h2 := dec_is0' P.natAbs
  have h3 := dec_is1 P.natAbs
  have BB := Lib.hid ((Bag.start w).box3 (.bool b) (.string (rS P)) (.string (str (dec Q))) 23)
  unfold rS at *
  generalize str (dec P.natAbs) = s at *
  generalize str (dec Q) = t at *
  generalize decide (Q = 1) = x at *
  generalize decide (P.natAbs = 0) = y at *
  generalize decide (P.natAbs = 1) = z at *
  cases x <;> cases y <;> cases z
  all_goals
    go_enter Tryz.func38, Tryz.ntmps38
    go_wp2
    go_ret
    exact ⟨rfl, BB.out.below⟩

set_option maxHeartbeats 1600000 in
set_option maxRecDepth 100000 in
theorem r3Minus_any (P : Int) (Q : Nat) (w : World) : Calls Tryz.prog 42 #[.agg #[.bool (rB P), .string (rS P), .string (str (dec Q))]] w fun e w' => NumTold w w' e (-P) Q := by
  have h2 := rS_is0 P
  have BB := Lib.hid (((Bag.start w).box3 (.bool (rB P)) (.string (rS P)) (.string (str (dec Q))) 23).box3 (.bool false) (.string ⟨#[]⟩) (.string ⟨#[]⟩) 23)
  simp only [World.size_alloc] at BB
  have hn : rB (-P) = (!rB P && !decide (P = 0)) := by
    unfold rB
    by_cases e1 : P < 0
    · rw [decide_eq_false (by omega), decide_eq_true e1]; rfl
    · rw [decide_eq_false e1]
      by_cases e2 : P = 0
      · rw [decide_eq_false (by omega), decide_eq_true e2]; rfl
      · rw [decide_eq_true (by omega), decide_eq_false e2]; rfl
  have hs : rS (-P) = rS P := by unfold rS; rw [Int.natAbs_neg]
  have HF2 := Lib.hid (fun V (hv : (!rB P && !decide (P = 0)) = V) => (show NumTold w ((w.alloc (.cells #[.bool V, .string (rS P), .string (str (dec Q))] 23)).alloc (.cells #[.bool V, .string (rS P), .string (str (dec Q))] 23)) (.returned (.agg #[.bool V, .string (rS P), .string (str (dec Q))])) (-P) Q from
    ⟨by rw [hn, hs, hv], ((Bag.start w).alloc _).alloc _ |>.below⟩))
  generalize rS P = s at *
  generalize str (dec Q) = t at *
  generalize rB P = b at *
  generalize decide (P = 0) = z at *
  have q0 := BB.out.now.2.1.cell
  have q1 := BB.out.now.2.1.cell1
  have q2 := BB.out.now.2.1.cell2
  clear hn hs
  cases b <;> cases z
  all_goals
    go_enter Tryz.func42, Tryz.ntmps42
    go_wp2
    first
      | exact bodyPost_ret (v := .agg #[.bool true, .string s, .string t]) (by simp [results, Tryz.results42, go_sem]) rfl (HF2.out true rfl)
      | exact bodyPost_ret (v := .agg #[.bool false, .string s, .string t]) (by simp [results, Tryz.results42, go_sem]) rfl (HF2.out false rfl)

set_option maxHeartbeats 1600000 in
set_option maxRecDepth 100000 in
theorem r3Limbs_any (b : Bool) (P : Int) (Q E : Nat) (w : World) (hl : dl P.natAbs ≤ 1000) (hl2 : dl Q ≤ 1000) (hE : E ≤ 200) (h1 : P.natAbs < 65536 ^ E) (h2 : Q < 65536 ^ E) :
    Calls Tryz.prog 40 #[.agg #[.bool b, .string (rS P), .string (str (dec Q))]] w fun e w' => e = .returned (.int .i64 (max ((nbits P.natAbs + 31) / 32 : Nat) ((nbits Q + 31) / 32 : Nat) : Nat)) ∧ Below w.heap.size w w' := by
  have L1 := Lib.hid (fun wz => rlimbs_any P.natAbs E wz hl hE h1)
  have L2 := Lib.hid (fun wz => rlimbs_any Q E wz hl2 hE h2)
  have BB := Lib.hid ((Bag.start w).box3 (.bool b) (.string (rS P)) (.string (str (dec Q))) 23)
  unfold rS at *
  generalize str (dec P.natAbs) = s at *
  generalize str (dec Q) = t at *
  generalize (nbits P.natAbs + 31) / 32 = x at *
  generalize (nbits Q + 31) / 32 = y at *
  have q0 := BB.out.now.1.cell
  have q1 := BB.out.now.1.cell1
  have q2 := BB.out.now.1.cell2
  clear hl hl2 hE h1 h2
  by_cases hxy : y < x
  · have hxy2 : (y : Int) < (x : Int) := by omega
    rw [show max x y = x by omega]
    go_enter Tryz.func40, Tryz.ntmps40
    go_wp2_with fail
    have BB := Lib.hid BB.out.drew
    go_region_held3 (fun y => y.cell? ⟨w.heap.size, 0, none⟩ = some (.bool b) ∧ y.cell? ⟨w.heap.size, 1, none⟩ = some (.string s) ∧ y.cell? ⟨w.heap.size, 2, none⟩ = some (.string t))
      (exact ⟨BB.out.now.1.cell, BB.out.now.1.cell1, BB.out.now.1.cell2⟩)
      (first
        | (go_at_call 94; (with_reducible refine (L1.out _).mono ?_); rintro e w2 ⟨rfl, hb2⟩; have BB := Lib.hid (BB.out.go hb2))
        | (go_at_call 94; (with_reducible refine (L2.out _).mono ?_); rintro e w3 ⟨rfl, hb3⟩; have BB := Lib.hid (BB.out.go hb3)))
    go_wp2
    go_ret
    exact ⟨rfl, BB.out.below⟩
  · have hxy2 : ¬ (y : Int) < (x : Int) := by omega
    rw [show max x y = y by omega]
    go_enter Tryz.func40, Tryz.ntmps40
    go_wp2_with fail
    have BB := Lib.hid BB.out.drew
    go_region_held3 (fun y => y.cell? ⟨w.heap.size, 0, none⟩ = some (.bool b) ∧ y.cell? ⟨w.heap.size, 1, none⟩ = some (.string s) ∧ y.cell? ⟨w.heap.size, 2, none⟩ = some (.string t))
      (exact ⟨BB.out.now.1.cell, BB.out.now.1.cell1, BB.out.now.1.cell2⟩)
      (first
        | (go_at_call 94; (with_reducible refine (L1.out _).mono ?_); rintro e w2 ⟨rfl, hb2⟩; have BB := Lib.hid (BB.out.go hb2))
        | (go_at_call 94; (with_reducible refine (L2.out _).mono ?_); rintro e w3 ⟨rfl, hb3⟩; have BB := Lib.hid (BB.out.go hb3)))
    go_wp2
    go_ret
    exact ⟨rfl, BB.out.below⟩

end Go.Proofs.YtipfhbfjbbiglaaGreatDoor
