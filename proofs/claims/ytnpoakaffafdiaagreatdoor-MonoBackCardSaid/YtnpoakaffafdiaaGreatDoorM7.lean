/-
  Texts of this seat, laid together.
-/
import Derived.Test.YtnpoakaffafdiaaGreatDoorM1
import Derived.Test.YtnpoakaffafdiaaGreatDoorM2
import Derived.Test.YtnpoakaffafdiaaGreatDoorM3
import Derived.Test.YtnpoakaffafdiaaGreatDoorM4
import Derived.Test.YtnpoakaffafdiaaGreatDoorM5
import Derived.Test.YtnpoakaffafdiaaGreatDoorM6

namespace Go.Proofs.YtnpoakaffafdiaaGreatDoor
open Go.RowKit
attribute [local go_sem ↓] Go.wp_at_zero Go.wp_at_succ
set_option linter.unusedVariables false
set_option linter.unusedSimpArgs false
theorem dl61 {N : Nat} (h : dl N ≤ 61) : N < 65536 ^ 13 := Nat.lt_of_lt_of_le (dl_lt N) (Nat.le_trans (Nat.pow_le_pow_right (by omega) h) (by decide))
theorem within61 (P : Int) (Q : Nat) (l : Int) (w : World) (h1 : dl P.natAbs ≤ 61) (h2 : dl Q ≤ 61) :
    Calls Tryz.prog 69 #[.agg #[.bool (rB P), .string (rS P), .string (str (dec Q))], .int .i64 l] w fun e w' => NumTold4 w w' e (wP P Q l) (wQ P Q l) (wE P Q l) :=
  rwithin_any P Q l w 13 (by omega) (by omega) (by omega) (dl61 h1) (dl61 h2)
theorem Slot3.setA {w : World} {k : Nat} {x y z : Value} (h : Slot3 w k x y z) (t : Value) : Slot3 (w.setCell ⟨k, 0, none⟩ t) k t y z := by
  refine ⟨World.cell?_setCell_same _ _ _ h.cell, ?_, ?_, by simp [h.free], by simp [h.free1], by simp [h.free2], by simpa using h.lt⟩
  · rw [World.cell?_setCell_other _ _ _ _ (fun e => by cases e)]; exact h.cell1
  · rw [World.cell?_setCell_other _ _ _ _ (fun e => by cases e)]; exact h.cell2
set_option maxHeartbeats 3200000 in
set_option maxRecDepth 100000 in
theorem rone_plus (P : Int) (Q : Nat) (l : Int) (w : World) (hQ : 0 < Q) (h1 : dl P.natAbs ≤ 60) (h2 : dl Q ≤ 60) :
    Calls Tryz.prog 26 #[.int .i32 43, .agg #[.bool (rB P), .string (rS P), .string (str (dec Q))], .int .i64 l] w fun e w' => NumTold4 w w' e (wP P Q l) (wQ P Q l) (wE P Q l) := by
  have RH := Lib.hid (fun wz => rhas12_any 43 wz)
  rw [show hasB 43 = true from rfl] at RH
  have WI := Lib.hid (fun wz => within61 P Q l wz (by omega) (by omega))
  have HF := Lib.hid (fun w2 (hb : Below w.heap.size w w2) => NumTold4.done (k := w.heap.size + 1) (wP P Q l) (wQ P Q l) (wE P Q l) hb (by omega) rfl rfl rfl)
  unfold NumTold4 at WI
  generalize wP P Q l = WP at *
  generalize wQ P Q l = WQ at *
  generalize wE P Q l = WE at *
  generalize rB WP = wb at *
  generalize rS WP = ws at *
  generalize str (dec WQ) = wq at *
  generalize rB P = b at *
  generalize rS P = s at *
  generalize str (dec Q) = q at *
  have BB := Lib.hid (((Bag.start w).box3 (.bool b) (.string s) (.string q) 53).box3 (.bool false) (.string ⟨#[]⟩) (.string ⟨#[]⟩) 53)
  simp only [World.size_alloc] at BB
  have r0 := BB.out.now.2.1.cell
  have r1 := BB.out.now.2.1.cell1
  have r2 := BB.out.now.2.1.cell2
  clear hQ h1 h2
  go_enter Tryz.func26, Tryz.ntmps26
  go_wp2_with fail
  go_at_call 28
  (with_reducible refine (RH.out _).mono ?_)
  rintro e w1 ⟨rfl, hb1⟩
  have BB := Lib.hid (BB.out.go hb1)
  clear hb1
  have r0 := BB.out.now.2.1.cell
  have r1 := BB.out.now.2.1.cell1
  have r2 := BB.out.now.2.1.cell2
  go_wp2_with fail
  go_at_call 69
  (with_reducible refine (WI.out _).mono ?_)
  rintro e w2 ⟨rfl, hb2⟩
  have BB := Lib.hid (BB.out.go hb2)
  clear hb2
  have hs := BB.out.now.1
  have u0 := hs.cell
  have u1 := hs.cell1
  have u2 := hs.cell2
  have g0 := hs.free
  have g1 := hs.free1
  have g2 := hs.free2
  have HS := hs.set (.bool wb) (.string ws) (.string wq)
  have HE := Lib.hid (HF.out _ BB.out.below)
  clear hs
  go_wp2
  exact bodyPost_ret (v := .tuple #[.agg #[.bool wb, .string ws, .string wq], .int .i64 WE]) (by simp [results, Tryz.results26, go_sem, HS]) rfl HE.out
set_option maxHeartbeats 3200000 in
set_option maxRecDepth 100000 in
theorem rone_minus (P : Int) (Q : Nat) (l : Int) (w : World) (hQ : 0 < Q) (h1 : dl P.natAbs ≤ 60) (h2 : dl Q ≤ 60) :
    Calls Tryz.prog 26 #[.int .i32 45, .agg #[.bool (rB P), .string (rS P), .string (str (dec Q))], .int .i64 l] w fun e w' => NumTold4 w w' e (wP (-P) Q l) (wQ (-P) Q l) (wE (-P) Q l) := by
  have RH := Lib.hid (fun wz => rhas12_any 45 wz)
  rw [show hasB 45 = true from rfl] at RH
  have WI := Lib.hid (fun wz => within61 (-P) Q l wz (by rw [Int.natAbs_neg]; omega) (by omega))
  have MN := Lib.hid (fun wz => r3Minus_any P Q wz)
  unfold NumTold at MN
  have HF := Lib.hid (fun w2 (hb : Below w.heap.size w w2) => NumTold4.done (k := w.heap.size + 1) (wP (-P) Q l) (wQ (-P) Q l) (wE (-P) Q l) hb (by omega) rfl rfl rfl)
  unfold NumTold4 at WI
  generalize wP (-P) Q l = WP at *
  generalize wQ (-P) Q l = WQ at *
  generalize wE (-P) Q l = WE at *
  generalize rB WP = wb at *
  generalize rS WP = ws at *
  generalize str (dec WQ) = wq at *
  generalize rB (-P) = b5 at *
  generalize rS (-P) = s5 at *
  generalize rB P = b at *
  generalize rS P = s at *
  generalize str (dec Q) = q at *
  have BB := Lib.hid (((Bag.start w).box3 (.bool b) (.string s) (.string q) 53).box3 (.bool false) (.string ⟨#[]⟩) (.string ⟨#[]⟩) 53)
  simp only [World.size_alloc] at BB
  have r0 := BB.out.now.2.1.cell
  have r1 := BB.out.now.2.1.cell1
  have r2 := BB.out.now.2.1.cell2
  clear hQ h1 h2
  go_enter Tryz.func26, Tryz.ntmps26
  go_wp2_with fail
  go_at_call 28
  (with_reducible refine (RH.out _).mono ?_)
  rintro e w1 ⟨rfl, hb1⟩
  have BB := Lib.hid (BB.out.go hb1)
  clear hb1
  have r0 := BB.out.now.2.1.cell
  have r1 := BB.out.now.2.1.cell1
  have r2 := BB.out.now.2.1.cell2
  go_wp2_with fail
  go_at_call 70
  (with_reducible refine (MN.out _).mono ?_)
  rintro e w2 ⟨rfl, hb2⟩
  have BB := Lib.hid (BB.out.go hb2)
  clear hb2
  go_wp2_with fail
  go_at_call 69
  (with_reducible refine (WI.out _).mono ?_)
  rintro e w3 ⟨rfl, hb3⟩
  have BB := Lib.hid (BB.out.go hb3)
  clear hb3
  have hs := BB.out.now.1
  have u0 := hs.cell
  have u1 := hs.cell1
  have u2 := hs.cell2
  have g0 := hs.free
  have g1 := hs.free1
  have g2 := hs.free2
  have HS := hs.set (.bool wb) (.string ws) (.string wq)
  have HE := Lib.hid (HF.out _ BB.out.below)
  clear hs
  go_wp2
  exact bodyPost_ret (v := .tuple #[.agg #[.bool wb, .string ws, .string wq], .int .i64 WE]) (by simp [results, Tryz.results26, go_sem, HS]) rfl HE.out
set_option maxHeartbeats 3200000 in
set_option maxRecDepth 100000 in
theorem rone_sign (P : Int) (Q : Nat) (l : Int) (w : World) (hQ : 0 < Q) (h1 : dl P.natAbs ≤ 60) (h2 : dl Q ≤ 60) :
    Calls Tryz.prog 26 #[.int .i32 215, .agg #[.bool (rB P), .string (rS P), .string (str (dec Q))], .int .i64 l] w fun e w' => NumTold4 w w' e (wP (sgnI P) 1 l) (wQ (sgnI P) 1 l) (wE (sgnI P) 1 l) := by
  have RH := Lib.hid (fun wz => rhas12_any 215 wz)
  rw [show hasB 215 = true from rfl] at RH
  have hsg : -1 ≤ sgnI P ∧ sgnI P ≤ 1 := by unfold sgnI; split <;> (try split) <;> omega
  have hd : dl (sgnI P).natAbs ≤ 61 := Nat.le_trans (dl_le _ 1 (by omega) (by omega)) (by omega)
  have WI := Lib.hid (fun wz => within61 (sgnI P) 1 l wz hd (by rw [dl_one]; omega))
  have TA : Hid (∀ wz, Calls Tryz.prog 72 #[.agg #[.bool (rB P), .string (rS P), .string (str (dec Q))]] wz fun e w' => RTold wz w' e P) := fun wz => r3Top_any P _ wz (by omega)
  have SG := Lib.hid (fun wz => rSign_any P wz)
  have FR := Lib.hid (fun wz => r3From_any (sgnI P) wz (by omega))
  unfold NumTold at FR
  unfold RTold at TA
  clear hd hsg
  have HF := Lib.hid (fun w2 (hb : Below w.heap.size w w2) => NumTold4.done (k := w.heap.size + 1) (wP (sgnI P) 1 l) (wQ (sgnI P) 1 l) (wE (sgnI P) 1 l) hb (by omega) rfl rfl rfl)
  unfold NumTold4 at WI
  generalize wP (sgnI P) 1 l = WP at *
  generalize wQ (sgnI P) 1 l = WQ at *
  generalize wE (sgnI P) 1 l = WE at *
  generalize rB WP = wb at *
  generalize rS WP = ws at *
  generalize str (dec WQ) = wq at *
  generalize sgnI P = sg at *
  generalize rB sg = b5 at *
  generalize rS sg = s5 at *
  generalize str (dec 1) = q5 at *
  generalize rB P = b at *
  generalize rS P = s at *
  generalize str (dec Q) = q at *
  have BB := Lib.hid (((Bag.start w).box3 (.bool b) (.string s) (.string q) 53).box3 (.bool false) (.string ⟨#[]⟩) (.string ⟨#[]⟩) 53)
  simp only [World.size_alloc] at BB
  have r0 := BB.out.now.2.1.cell
  have r1 := BB.out.now.2.1.cell1
  have r2 := BB.out.now.2.1.cell2
  clear hQ h1 h2
  go_enter Tryz.func26, Tryz.ntmps26
  go_wp2_with fail
  go_at_call 28
  (with_reducible refine (RH.out _).mono ?_)
  rintro e w1 ⟨rfl, hb1⟩
  have BB := Lib.hid (BB.out.go hb1)
  clear hb1
  have r0 := BB.out.now.2.1.cell
  have r1 := BB.out.now.2.1.cell1
  have r2 := BB.out.now.2.1.cell2
  go_wp2_with fail
  go_at_call 72
  (with_reducible refine (TA.out _).mono ?_)
  rintro e w2 ⟨rfl, hb2⟩
  have BB := Lib.hid (BB.out.go hb2)
  clear hb2
  go_wp2_with fail
  go_at_call 71
  (with_reducible refine (SG.out _).mono ?_)
  rintro e w3 ⟨rfl, hb3⟩
  have BB := Lib.hid (BB.out.go hb3)
  clear hb3
  go_wp2_with fail
  go_at_call 64
  (with_reducible refine (FR.out _).mono ?_)
  rintro e w4 ⟨rfl, hb4⟩
  have BB := Lib.hid (BB.out.go hb4)
  clear hb4
  go_wp2_with fail
  go_at_call 69
  (with_reducible refine (WI.out _).mono ?_)
  rintro e w5 ⟨rfl, hb5⟩
  have BB := Lib.hid (BB.out.go hb5)
  clear hb5
  have hs := BB.out.now.1
  have u0 := hs.cell
  have u1 := hs.cell1
  have u2 := hs.cell2
  have g0 := hs.free
  have g1 := hs.free1
  have g2 := hs.free2
  have HS := hs.set (.bool wb) (.string ws) (.string wq)
  have HE := Lib.hid (HF.out _ BB.out.below)
  clear hs
  go_wp2
  exact bodyPost_ret (v := .tuple #[.agg #[.bool wb, .string ws, .string wq], .int .i64 WE]) (by simp [results, Tryz.results26, go_sem, HS]) rfl HE.out
set_option maxHeartbeats 3200000 in
set_option maxRecDepth 100000 in
theorem rone_ceil (P : Int) (Q : Nat) (l : Int) (w : World) (hQ : 0 < Q) (h1 : dl P.natAbs ≤ 60) (h2 : dl Q ≤ 60) :
    Calls Tryz.prog 26 #[.int .i32 8968, .agg #[.bool (rB P), .string (rS P), .string (str (dec Q))], .int .i64 l] w fun e w' => NumTold4 w w' e (wP (-(flQ (-P) Q)) 1 l) (wQ (-(flQ (-P) Q)) 1 l) (wE (-(flQ (-P) Q)) 1 l) := by
  have RH := Lib.hid (fun wz => rhas12_any 8968 wz)
  rw [show hasB 8968 = true from rfl] at RH
  have hz : dl (-(flQ (-P) Q)).natAbs ≤ 61 := by
    have := flQ_abs (-P) (Q : Int)
    rw [Int.natAbs_neg] at this
    rw [Int.natAbs_neg]
    exact Nat.le_trans (dl_mono this) (dl_add_le (k := 60) h1 (Nat.le_trans (dl_le 1 1 (by omega) (by decide)) (by omega)))
  have WI := Lib.hid (fun wz => within61 (-(flQ (-P) Q)) 1 l wz hz (by rw [dl_one]; omega))
  have CE := Lib.hid (fun wz => r3Ceil_any P Q wz hQ (by omega) (by omega))
  have WH := Lib.hid (fun wz => r3Whole_any (-(flQ (-P) Q)) wz)
  unfold NumTold at WH
  unfold RTold at CE
  clear hz
  have HF := Lib.hid (fun w2 (hb : Below w.heap.size w w2) => NumTold4.done (k := w.heap.size + 1) (wP (-(flQ (-P) Q)) 1 l) (wQ (-(flQ (-P) Q)) 1 l) (wE (-(flQ (-P) Q)) 1 l) hb (by omega) rfl rfl rfl)
  unfold NumTold4 at WI
  generalize wP (-(flQ (-P) Q)) 1 l = WP at *
  generalize wQ (-(flQ (-P) Q)) 1 l = WQ at *
  generalize wE (-(flQ (-P) Q)) 1 l = WE at *
  generalize rB WP = wb at *
  generalize rS WP = ws at *
  generalize str (dec WQ) = wq at *
  generalize (-(flQ (-P) Q)) = Z at *
  generalize rB Z = b5 at *
  generalize rS Z = s5 at *
  generalize str (dec 1) = q5 at *
  generalize rB P = b at *
  generalize rS P = s at *
  generalize str (dec Q) = q at *
  have BB := Lib.hid (((Bag.start w).box3 (.bool b) (.string s) (.string q) 53).box3 (.bool false) (.string ⟨#[]⟩) (.string ⟨#[]⟩) 53)
  simp only [World.size_alloc] at BB
  have r0 := BB.out.now.2.1.cell
  have r1 := BB.out.now.2.1.cell1
  have r2 := BB.out.now.2.1.cell2
  clear hQ h1 h2
  go_enter Tryz.func26, Tryz.ntmps26
  go_wp2_with fail
  go_at_call 28
  (with_reducible refine (RH.out _).mono ?_)
  rintro e w1 ⟨rfl, hb1⟩
  have BB := Lib.hid (BB.out.go hb1)
  clear hb1
  have r0 := BB.out.now.2.1.cell
  have r1 := BB.out.now.2.1.cell1
  have r2 := BB.out.now.2.1.cell2
  go_wp2_with fail
  go_at_call 74
  (with_reducible refine (CE.out _).mono ?_)
  rintro e w2 ⟨rfl, hb2⟩
  have BB := Lib.hid (BB.out.go hb2)
  clear hb2
  go_wp2_with fail
  go_at_call 73
  (with_reducible refine (WH.out _).mono ?_)
  rintro e w3 ⟨rfl, hb3⟩
  have BB := Lib.hid (BB.out.go hb3)
  clear hb3
  go_wp2_with fail
  go_at_call 69
  (with_reducible refine (WI.out _).mono ?_)
  rintro e w4 ⟨rfl, hb4⟩
  have BB := Lib.hid (BB.out.go hb4)
  clear hb4
  have hs := BB.out.now.1
  have u0 := hs.cell
  have u1 := hs.cell1
  have u2 := hs.cell2
  have g0 := hs.free
  have g1 := hs.free1
  have g2 := hs.free2
  have HS := hs.set (.bool wb) (.string ws) (.string wq)
  have HE := Lib.hid (HF.out _ BB.out.below)
  clear hs
  go_wp2
  exact bodyPost_ret (v := .tuple #[.agg #[.bool wb, .string ws, .string wq], .int .i64 WE]) (by simp [results, Tryz.results26, go_sem, HS]) rfl HE.out
set_option maxHeartbeats 3200000 in
set_option maxRecDepth 100000 in
theorem rone_floor (P : Int) (Q : Nat) (l : Int) (w : World) (hQ : 0 < Q) (h1 : dl P.natAbs ≤ 60) (h2 : dl Q ≤ 60) :
    Calls Tryz.prog 26 #[.int .i32 8970, .agg #[.bool (rB P), .string (rS P), .string (str (dec Q))], .int .i64 l] w fun e w' => NumTold4 w w' e (wP (flQ P Q) 1 l) (wQ (flQ P Q) 1 l) (wE (flQ P Q) 1 l) := by
  have RH := Lib.hid (fun wz => rhas12_any 8970 wz)
  rw [show hasB 8970 = true from rfl] at RH
  have hz : dl (flQ P Q).natAbs ≤ 61 := by
    have := flQ_abs P (Q : Int)
    exact Nat.le_trans (dl_mono this) (dl_add_le (k := 60) h1 (Nat.le_trans (dl_le 1 1 (by omega) (by decide)) (by omega)))
  have WI := Lib.hid (fun wz => within61 (flQ P Q) 1 l wz hz (by rw [dl_one]; omega))
  have CE := Lib.hid (fun wz => r3Floor_any P Q wz hQ (by omega) (by omega))
  have WH := Lib.hid (fun wz => r3Whole_any (flQ P Q) wz)
  unfold NumTold at WH
  unfold RTold at CE
  clear hz
  have HF := Lib.hid (fun w2 (hb : Below w.heap.size w w2) => NumTold4.done (k := w.heap.size + 1) (wP (flQ P Q) 1 l) (wQ (flQ P Q) 1 l) (wE (flQ P Q) 1 l) hb (by omega) rfl rfl rfl)
  unfold NumTold4 at WI
  generalize wP (flQ P Q) 1 l = WP at *
  generalize wQ (flQ P Q) 1 l = WQ at *
  generalize wE (flQ P Q) 1 l = WE at *
  generalize rB WP = wb at *
  generalize rS WP = ws at *
  generalize str (dec WQ) = wq at *
  generalize (flQ P Q) = Z at *
  generalize rB Z = b5 at *
  generalize rS Z = s5 at *
  generalize str (dec 1) = q5 at *
  generalize rB P = b at *
  generalize rS P = s at *
  generalize str (dec Q) = q at *
  have BB := Lib.hid (((Bag.start w).box3 (.bool b) (.string s) (.string q) 53).box3 (.bool false) (.string ⟨#[]⟩) (.string ⟨#[]⟩) 53)
  simp only [World.size_alloc] at BB
  have r0 := BB.out.now.2.1.cell
  have r1 := BB.out.now.2.1.cell1
  have r2 := BB.out.now.2.1.cell2
  clear hQ h1 h2
  go_enter Tryz.func26, Tryz.ntmps26
  go_wp2_with fail
  go_at_call 28
  (with_reducible refine (RH.out _).mono ?_)
  rintro e w1 ⟨rfl, hb1⟩
  have BB := Lib.hid (BB.out.go hb1)
  clear hb1
  have r0 := BB.out.now.2.1.cell
  have r1 := BB.out.now.2.1.cell1
  have r2 := BB.out.now.2.1.cell2
  go_wp2_with fail
  go_at_call 75
  (with_reducible refine (CE.out _).mono ?_)
  rintro e w2 ⟨rfl, hb2⟩
  have BB := Lib.hid (BB.out.go hb2)
  clear hb2
  go_wp2_with fail
  go_at_call 73
  (with_reducible refine (WH.out _).mono ?_)
  rintro e w3 ⟨rfl, hb3⟩
  have BB := Lib.hid (BB.out.go hb3)
  clear hb3
  go_wp2_with fail
  go_at_call 69
  (with_reducible refine (WI.out _).mono ?_)
  rintro e w4 ⟨rfl, hb4⟩
  have BB := Lib.hid (BB.out.go hb4)
  clear hb4
  have hs := BB.out.now.1
  have u0 := hs.cell
  have u1 := hs.cell1
  have u2 := hs.cell2
  have g0 := hs.free
  have g1 := hs.free1
  have g2 := hs.free2
  have HS := hs.set (.bool wb) (.string ws) (.string wq)
  have HE := Lib.hid (HF.out _ BB.out.below)
  clear hs
  go_wp2
  exact bodyPost_ret (v := .tuple #[.agg #[.bool wb, .string ws, .string wq], .int .i64 WE]) (by simp [results, Tryz.results26, go_sem, HS]) rfl HE.out
set_option maxHeartbeats 3200000 in
set_option maxRecDepth 100000 in
theorem rone_size (P : Int) (Q : Nat) (l : Int) (w : World) (hQ : 0 < Q) (h1 : dl P.natAbs ≤ 60) (h2 : dl Q ≤ 60) :
    Calls Tryz.prog 26 #[.int .i32 124, .agg #[.bool (rB P), .string (rS P), .string (str (dec Q))], .int .i64 l] w fun e w' => NumTold4 w w' e (wP (P.natAbs : Nat) Q l) (wQ (P.natAbs : Nat) Q l) (wE (P.natAbs : Nat) Q l) := by
  have RH := Lib.hid (fun wz => rhas12_any 124 wz)
  rw [show hasB 124 = true from rfl] at RH
  have WI : Hid (∀ wz, Calls Tryz.prog 69 #[.agg #[.bool false, .string (rS P), .string (str (dec Q))], .int .i64 l] wz fun e w' => NumTold4 wz w' e (wP (P.natAbs : Nat) Q l) (wQ (P.natAbs : Nat) Q l) (wE (P.natAbs : Nat) Q l)) := Lib.hid (fun wz => by
    have := within61 (P.natAbs : Nat) Q l wz (by rw [Int.natAbs_natCast]; omega) (by omega)
    rw [rB_nat0, rS_nat0] at this
    exact this)
  have HF := Lib.hid (fun w2 (hb : Below w.heap.size w w2) => NumTold4.done (k := w.heap.size + 1) (wP (P.natAbs : Nat) Q l) (wQ (P.natAbs : Nat) Q l) (wE (P.natAbs : Nat) Q l) hb (by omega) rfl rfl rfl)
  unfold NumTold4 at WI
  generalize wP (P.natAbs : Nat) Q l = WP at *
  generalize wQ (P.natAbs : Nat) Q l = WQ at *
  generalize wE (P.natAbs : Nat) Q l = WE at *
  generalize rB WP = wb at *
  generalize rS WP = ws at *
  generalize str (dec WQ) = wq at *
  generalize rB P = b at *
  generalize rS P = s at *
  generalize str (dec Q) = q at *
  have BB := Lib.hid (((Bag.start w).box3 (.bool b) (.string s) (.string q) 53).box3 (.bool false) (.string ⟨#[]⟩) (.string ⟨#[]⟩) 53)
  simp only [World.size_alloc] at BB
  have r0 := BB.out.now.2.1.cell
  have r1 := BB.out.now.2.1.cell1
  have r2 := BB.out.now.2.1.cell2
  clear hQ h1 h2
  go_enter Tryz.func26, Tryz.ntmps26
  go_wp2_with fail
  go_at_call 28
  (with_reducible refine (RH.out _).mono ?_)
  rintro e w1 ⟨rfl, hb1⟩
  have BB := Lib.hid (BB.out.go hb1)
  clear hb1
  have r0 := BB.out.now.2.1.cell
  have r1 := BB.out.now.2.1.cell1
  have r2 := BB.out.now.2.1.cell2
  have hx := BB.out.now.2.1
  have hf := hx.free
  have BB := Lib.hid (Bag.slot3 (Bag.slot3 (Bag.go (Bag.start w) (BB.out.below.setCell (p := ⟨w.heap.size, 0, none⟩) (Nat.le_refl _) (.bool false))) (hx.setA (.bool false))) (BB.out.now.1.set1o (k := w.heap.size) (o := 0) (by omega) (.bool false)))
  clear hx
  have x0 := BB.out.now.2.1.cell
  have x1 := BB.out.now.2.1.cell1
  have x2 := BB.out.now.2.1.cell2
  go_wp2_with fail
  go_at_call 69
  (with_reducible refine (WI.out _).mono ?_)
  rintro e w2 ⟨rfl, hb2⟩
  have BB := Lib.hid (BB.out.go hb2)
  clear hb2
  have hs := BB.out.now.1
  have u0 := hs.cell
  have u1 := hs.cell1
  have u2 := hs.cell2
  have g0 := hs.free
  have g1 := hs.free1
  have g2 := hs.free2
  have HS := hs.set (.bool wb) (.string ws) (.string wq)
  have HE := Lib.hid (HF.out _ BB.out.below)
  clear hs
  go_wp2
  exact bodyPost_ret (v := .tuple #[.agg #[.bool wb, .string ws, .string wq], .int .i64 WE]) (by simp [results, Tryz.results26, go_sem, HS]) rfl HE.out
set_option maxHeartbeats 3200000 in
set_option maxRecDepth 100000 in
theorem rone_rec (P : Int) (Q : Nat) (l : Int) (w : World) (hQ : 0 < Q) (h1 : dl P.natAbs ≤ 60) (h2 : dl Q ≤ 60) (hP : P ≠ 0) :
    Calls Tryz.prog 26 #[.int .i32 247, .agg #[.bool (rB P), .string (rS P), .string (str (dec Q))], .int .i64 l] w fun e w' => NumTold4 w w' e (wP (upZ Q P) P.natAbs l) (wQ (upZ Q P) P.natAbs l) (wE (upZ Q P) P.natAbs l) := by
  have RH := Lib.hid (fun wz => rhas12_any 247 wz)
  rw [show hasB 247 = true from rfl] at RH
  have d0 := dec_is0' P.natAbs
  rw [decide_eq_false (show ¬ P.natAbs = 0 by omega)] at d0
  have d0 : ((rS P).toList == [48]) = false := d0
  have WI : Hid (∀ wz, Calls Tryz.prog 69 #[.agg #[.bool (rB P), .string (str (dec Q)), .string (rS P)], .int .i64 l] wz fun e w' => NumTold4 wz w' e (wP (upZ Q P) P.natAbs l) (wQ (upZ Q P) P.natAbs l) (wE (upZ Q P) P.natAbs l)) := Lib.hid (fun wz => by
    have := within61 (upZ Q P) P.natAbs l wz (by rw [upZ_abs, Int.natAbs_natCast]; omega) (by omega)
    rw [show rB (upZ Q P) = rB P by unfold rB upZ; split <;> simp <;> omega, show rS (upZ Q P) = str (dec Q) by unfold rS; rw [upZ_abs, Int.natAbs_natCast]] at this
    exact this)
  clear hP
  have HF := Lib.hid (fun w2 (hb : Below w.heap.size w w2) => NumTold4.done (k := w.heap.size + 1) (wP (upZ Q P) P.natAbs l) (wQ (upZ Q P) P.natAbs l) (wE (upZ Q P) P.natAbs l) hb (by omega) rfl rfl rfl)
  unfold NumTold4 at WI
  generalize wP (upZ Q P) P.natAbs l = WP at *
  generalize wQ (upZ Q P) P.natAbs l = WQ at *
  generalize wE (upZ Q P) P.natAbs l = WE at *
  generalize rB WP = wb at *
  generalize rS WP = ws at *
  generalize str (dec WQ) = wq at *
  generalize rB P = b at *
  generalize rS P = s at *
  generalize str (dec Q) = q at *
  have BB := Lib.hid (((Bag.start w).box3 (.bool b) (.string s) (.string q) 53).box3 (.bool false) (.string ⟨#[]⟩) (.string ⟨#[]⟩) 53)
  simp only [World.size_alloc] at BB
  have r0 := BB.out.now.2.1.cell
  have r1 := BB.out.now.2.1.cell1
  have r2 := BB.out.now.2.1.cell2
  clear hQ h1 h2
  go_enter Tryz.func26, Tryz.ntmps26
  go_wp2_with fail
  go_at_call 28
  (with_reducible refine (RH.out _).mono ?_)
  rintro e w1 ⟨rfl, hb1⟩
  have BB := Lib.hid (BB.out.go hb1)
  clear hb1
  have r0 := BB.out.now.2.1.cell
  have r1 := BB.out.now.2.1.cell1
  have r2 := BB.out.now.2.1.cell2
  go_wp2_with fail
  go_at_call 69
  (with_reducible refine (WI.out _).mono ?_)
  rintro e w2 ⟨rfl, hb2⟩
  have BB := Lib.hid (BB.out.go hb2)
  clear hb2
  have hs := BB.out.now.1
  have u0 := hs.cell
  have u1 := hs.cell1
  have u2 := hs.cell2
  have g0 := hs.free
  have g1 := hs.free1
  have g2 := hs.free2
  have HS := hs.set (.bool wb) (.string ws) (.string wq)
  have HE := Lib.hid (HF.out _ BB.out.below)
  clear hs
  go_wp2
  exact bodyPost_ret (v := .tuple #[.agg #[.bool wb, .string ws, .string wq], .int .i64 WE]) (by simp [results, Tryz.results26, go_sem, HS]) rfl HE.out
set_option maxHeartbeats 3200000 in
set_option maxRecDepth 100000 in
theorem rone_fac (P : Int) (Q : Nat) (l : Int) (w : World) (hQ : 0 < Q) (h1 : dl P.natAbs ≤ 60) (h2 : dl Q ≤ 60) (hP : 0 ≤ P) (hQ1 : Q = 1) (hl : l ≤ 64) :
    Calls Tryz.prog 26 #[.int .i32 33, .agg #[.bool (rB P), .string (rS P), .string (str (dec Q))], .int .i64 l] w fun e w' => NumTold4 w w' e (wP (fac P.toNat : Nat) 1 l) (wQ (fac P.toNat : Nat) 1 l) (wE (fac P.toNat : Nat) 1 l) := by
  have RH := Lib.hid (fun wz => rhas12_any 33 wz)
  rw [show hasB 33 = true from rfl] at RH
  subst hQ1
  have d0 := dec_is1 1
  rw [decide_eq_true rfl] at d0
  have eb : rB P = false := by unfold rB; exact decide_eq_false (by omega)
  have WI : Hid (∀ wz, Calls Tryz.prog 76 #[.agg #[.bool false, .string (rS P), .string (str (dec 1))], .int .i64 l] wz fun e w' => NumTold4 wz w' e (wP (fac P.toNat : Nat) 1 l) (wQ (fac P.toNat : Nat) 1 l) (wE (fac P.toNat : Nat) 1 l)) := Lib.hid (fun wz => by
    have := rfac_any P.toNat l wz hl
    rw [show str (dec P.toNat) = rS P by unfold rS; rw [show P.natAbs = P.toNat by omega]] at this
    exact this)
  rw [eb]
  clear hP hl eb
  have HF := Lib.hid (fun w2 (hb : Below w.heap.size w w2) => NumTold4.done (k := w.heap.size + 1) (wP (fac P.toNat : Nat) 1 l) (wQ (fac P.toNat : Nat) 1 l) (wE (fac P.toNat : Nat) 1 l) hb (by omega) rfl rfl rfl)
  unfold NumTold4 at WI
  generalize wP (fac P.toNat : Nat) 1 l = WP at *
  generalize wQ (fac P.toNat : Nat) 1 l = WQ at *
  generalize wE (fac P.toNat : Nat) 1 l = WE at *
  generalize rB WP = wb at *
  generalize rS WP = ws at *
  generalize str (dec WQ) = wq at *
  generalize rS P = s at *
  generalize str (dec 1) = q at *
  have BB := Lib.hid (((Bag.start w).box3 (.bool false) (.string s) (.string q) 53).box3 (.bool false) (.string ⟨#[]⟩) (.string ⟨#[]⟩) 53)
  simp only [World.size_alloc] at BB
  have r0 := BB.out.now.2.1.cell
  have r1 := BB.out.now.2.1.cell1
  have r2 := BB.out.now.2.1.cell2
  clear hQ h1 h2
  go_enter Tryz.func26, Tryz.ntmps26
  go_wp2_with fail
  go_at_call 28
  (with_reducible refine (RH.out _).mono ?_)
  rintro e w1 ⟨rfl, hb1⟩
  have BB := Lib.hid (BB.out.go hb1)
  clear hb1
  have r0 := BB.out.now.2.1.cell
  have r1 := BB.out.now.2.1.cell1
  have r2 := BB.out.now.2.1.cell2
  go_wp2_with fail
  go_at_call 76
  (with_reducible refine (WI.out _).mono ?_)
  rintro e w2 ⟨rfl, hb2⟩
  have BB := Lib.hid (BB.out.go hb2)
  clear hb2
  have hs := BB.out.now.1
  have u0 := hs.cell
  have u1 := hs.cell1
  have u2 := hs.cell2
  have g0 := hs.free
  have g1 := hs.free1
  have g2 := hs.free2
  have HS := hs.set (.bool wb) (.string ws) (.string wq)
  have HE := Lib.hid (HF.out _ BB.out.below)
  clear hs
  go_wp2
  exact bodyPost_ret (v := .tuple #[.agg #[.bool wb, .string ws, .string wq], .int .i64 WE]) (by simp [results, Tryz.results26, go_sem, HS]) rfl HE.out
set_option maxHeartbeats 3200000 in
set_option maxRecDepth 100000 in
theorem rone_star (P : Int) (Q : Nat) (l : Int) (w : World) (hQ : 0 < Q) (h1 : dl P.natAbs ≤ 60) (h2 : dl Q ≤ 60) :
    Calls Tryz.prog 26 #[.int .i32 42, .agg #[.bool (rB P), .string (rS P), .string (str (dec Q))], .int .i64 l] w fun e w' => NumTold4 w w' e 0 1 22 := by
  have RH := Lib.hid (fun wz => rhas12_any 42 wz)
  rw [show hasB 42 = true from rfl] at RH
  have HF : Hid (∀ w2, Below w.heap.size w w2 → NumTold4 w (((w2.setCell ⟨w.heap.size + 1, 0, none⟩ (.bool false)).setCell ⟨w.heap.size + 1, 1, none⟩ (.string ⟨#[48]⟩)).setCell ⟨w.heap.size + 1, 2, none⟩ (.string ⟨#[49]⟩)) (.returned (.tuple #[.agg #[.bool false, .string ⟨#[48]⟩, .string ⟨#[49]⟩], .int .i64 22])) 0 1 22) := Lib.hid (fun w2 hb => NumTold4.done (k := w.heap.size + 1) 0 1 22 hb (by omega) num_zero.1 num_zero.2.1 num_zero.2.2)
  have ZE := Lib.hid (fun wz => r3Zero_any wz)
  unfold NumTold at ZE
  rw [num_zero.1, num_zero.2.1, num_zero.2.2] at ZE
  generalize rB P = b at *
  generalize rS P = s at *
  generalize str (dec Q) = q at *
  have BB := Lib.hid (((Bag.start w).box3 (.bool b) (.string s) (.string q) 53).box3 (.bool false) (.string ⟨#[]⟩) (.string ⟨#[]⟩) 53)
  simp only [World.size_alloc] at BB
  have r0 := BB.out.now.2.1.cell
  have r1 := BB.out.now.2.1.cell1
  have r2 := BB.out.now.2.1.cell2
  clear hQ h1 h2
  go_enter Tryz.func26, Tryz.ntmps26
  go_wp2_with fail
  go_at_call 28
  (with_reducible refine (RH.out _).mono ?_)
  rintro e w1 ⟨rfl, hb1⟩
  have BB := Lib.hid (BB.out.go hb1)
  clear hb1
  have r0 := BB.out.now.2.1.cell
  have r1 := BB.out.now.2.1.cell1
  have r2 := BB.out.now.2.1.cell2
  go_wp2_with fail
  go_at_call 68
  (with_reducible refine (ZE.out _).mono ?_)
  rintro e w5 ⟨rfl, hb5⟩
  have BB := Lib.hid (BB.out.go hb5)
  clear hb5
  have hs := BB.out.now.1
  have u0 := hs.cell
  have u1 := hs.cell1
  have u2 := hs.cell2
  have g0 := hs.free
  have g1 := hs.free1
  have g2 := hs.free2
  have HS := hs.set (.bool false) (.string ⟨#[48]⟩) (.string ⟨#[49]⟩)
  have HE := Lib.hid (HF.out _ BB.out.below)
  clear hs
  go_wp2
  exact bodyPost_ret (v := .tuple #[.agg #[.bool false, .string ⟨#[48]⟩, .string ⟨#[49]⟩], .int .i64 22]) (by simp [results, Tryz.results26, go_sem, HS]) rfl HE.out
set_option maxHeartbeats 3200000 in
set_option maxRecDepth 100000 in
theorem rone_log (P : Int) (Q : Nat) (l : Int) (w : World) (hQ : 0 < Q) (h1 : dl P.natAbs ≤ 60) (h2 : dl Q ≤ 60) :
    Calls Tryz.prog 26 #[.int .i32 9055, .agg #[.bool (rB P), .string (rS P), .string (str (dec Q))], .int .i64 l] w fun e w' => NumTold4 w w' e 0 1 22 := by
  have RH := Lib.hid (fun wz => rhas12_any 9055 wz)
  rw [show hasB 9055 = true from rfl] at RH
  have HF : Hid (∀ w2, Below w.heap.size w w2 → NumTold4 w (((w2.setCell ⟨w.heap.size + 1, 0, none⟩ (.bool false)).setCell ⟨w.heap.size + 1, 1, none⟩ (.string ⟨#[48]⟩)).setCell ⟨w.heap.size + 1, 2, none⟩ (.string ⟨#[49]⟩)) (.returned (.tuple #[.agg #[.bool false, .string ⟨#[48]⟩, .string ⟨#[49]⟩], .int .i64 22])) 0 1 22) := Lib.hid (fun w2 hb => NumTold4.done (k := w.heap.size + 1) 0 1 22 hb (by omega) num_zero.1 num_zero.2.1 num_zero.2.2)
  have ZE := Lib.hid (fun wz => r3Zero_any wz)
  unfold NumTold at ZE
  rw [num_zero.1, num_zero.2.1, num_zero.2.2] at ZE
  generalize rB P = b at *
  generalize rS P = s at *
  generalize str (dec Q) = q at *
  have BB := Lib.hid (((Bag.start w).box3 (.bool b) (.string s) (.string q) 53).box3 (.bool false) (.string ⟨#[]⟩) (.string ⟨#[]⟩) 53)
  simp only [World.size_alloc] at BB
  have r0 := BB.out.now.2.1.cell
  have r1 := BB.out.now.2.1.cell1
  have r2 := BB.out.now.2.1.cell2
  clear hQ h1 h2
  go_enter Tryz.func26, Tryz.ntmps26
  go_wp2_with fail
  go_at_call 28
  (with_reducible refine (RH.out _).mono ?_)
  rintro e w1 ⟨rfl, hb1⟩
  have BB := Lib.hid (BB.out.go hb1)
  clear hb1
  have r0 := BB.out.now.2.1.cell
  have r1 := BB.out.now.2.1.cell1
  have r2 := BB.out.now.2.1.cell2
  go_wp2_with fail
  go_at_call 68
  (with_reducible refine (ZE.out _).mono ?_)
  rintro e w5 ⟨rfl, hb5⟩
  have BB := Lib.hid (BB.out.go hb5)
  clear hb5
  have hs := BB.out.now.1
  have u0 := hs.cell
  have u1 := hs.cell1
  have u2 := hs.cell2
  have g0 := hs.free
  have g1 := hs.free1
  have g2 := hs.free2
  have HS := hs.set (.bool false) (.string ⟨#[48]⟩) (.string ⟨#[49]⟩)
  have HE := Lib.hid (HF.out _ BB.out.below)
  clear hs
  go_wp2
  exact bodyPost_ret (v := .tuple #[.agg #[.bool false, .string ⟨#[48]⟩, .string ⟨#[49]⟩], .int .i64 22]) (by simp [results, Tryz.results26, go_sem, HS]) rfl HE.out
set_option maxHeartbeats 3200000 in
set_option maxRecDepth 100000 in
theorem rone_circle (P : Int) (Q : Nat) (l : Int) (w : World) (hQ : 0 < Q) (h1 : dl P.natAbs ≤ 60) (h2 : dl Q ≤ 60) :
    Calls Tryz.prog 26 #[.int .i32 9675, .agg #[.bool (rB P), .string (rS P), .string (str (dec Q))], .int .i64 l] w fun e w' => NumTold4 w w' e 0 1 22 := by
  have RH := Lib.hid (fun wz => rhas12_any 9675 wz)
  rw [show hasB 9675 = true from rfl] at RH
  have HF : Hid (∀ w2, Below w.heap.size w w2 → NumTold4 w (((w2.setCell ⟨w.heap.size + 1, 0, none⟩ (.bool false)).setCell ⟨w.heap.size + 1, 1, none⟩ (.string ⟨#[48]⟩)).setCell ⟨w.heap.size + 1, 2, none⟩ (.string ⟨#[49]⟩)) (.returned (.tuple #[.agg #[.bool false, .string ⟨#[48]⟩, .string ⟨#[49]⟩], .int .i64 22])) 0 1 22) := Lib.hid (fun w2 hb => NumTold4.done (k := w.heap.size + 1) 0 1 22 hb (by omega) num_zero.1 num_zero.2.1 num_zero.2.2)
  have ZE := Lib.hid (fun wz => r3Zero_any wz)
  unfold NumTold at ZE
  rw [num_zero.1, num_zero.2.1, num_zero.2.2] at ZE
  generalize rB P = b at *
  generalize rS P = s at *
  generalize str (dec Q) = q at *
  have BB := Lib.hid (((Bag.start w).box3 (.bool b) (.string s) (.string q) 53).box3 (.bool false) (.string ⟨#[]⟩) (.string ⟨#[]⟩) 53)
  simp only [World.size_alloc] at BB
  have r0 := BB.out.now.2.1.cell
  have r1 := BB.out.now.2.1.cell1
  have r2 := BB.out.now.2.1.cell2
  clear hQ h1 h2
  go_enter Tryz.func26, Tryz.ntmps26
  go_wp2_with fail
  go_at_call 28
  (with_reducible refine (RH.out _).mono ?_)
  rintro e w1 ⟨rfl, hb1⟩
  have BB := Lib.hid (BB.out.go hb1)
  clear hb1
  have r0 := BB.out.now.2.1.cell
  have r1 := BB.out.now.2.1.cell1
  have r2 := BB.out.now.2.1.cell2
  go_wp2_with fail
  go_at_call 68
  (with_reducible refine (ZE.out _).mono ?_)
  rintro e w5 ⟨rfl, hb5⟩
  have BB := Lib.hid (BB.out.go hb5)
  clear hb5
  have hs := BB.out.now.1
  have u0 := hs.cell
  have u1 := hs.cell1
  have u2 := hs.cell2
  have g0 := hs.free
  have g1 := hs.free1
  have g2 := hs.free2
  have HS := hs.set (.bool false) (.string ⟨#[48]⟩) (.string ⟨#[49]⟩)
  have HE := Lib.hid (HF.out _ BB.out.below)
  clear hs
  go_wp2
  exact bodyPost_ret (v := .tuple #[.agg #[.bool false, .string ⟨#[48]⟩, .string ⟨#[49]⟩], .int .i64 22]) (by simp [results, Tryz.results26, go_sem, HS]) rfl HE.out
set_option maxHeartbeats 3200000 in
set_option maxRecDepth 100000 in
theorem rone_rec0 (P : Int) (Q : Nat) (l : Int) (w : World) (hQ : 0 < Q) (h1 : dl P.natAbs ≤ 60) (h2 : dl Q ≤ 60) (hP : P = 0) :
    Calls Tryz.prog 26 #[.int .i32 247, .agg #[.bool (rB P), .string (rS P), .string (str (dec Q))], .int .i64 l] w fun e w' => NumTold4 w w' e 0 1 22 := by
  have RH := Lib.hid (fun wz => rhas12_any 247 wz)
  rw [show hasB 247 = true from rfl] at RH
  have d0 := dec_is0' P.natAbs
  rw [decide_eq_true (show P.natAbs = 0 by omega)] at d0
  have d0 : ((rS P).toList == [48]) = true := d0
  clear hP
  have HF : Hid (∀ w2, Below w.heap.size w w2 → NumTold4 w (((w2.setCell ⟨w.heap.size + 1, 0, none⟩ (.bool false)).setCell ⟨w.heap.size + 1, 1, none⟩ (.string ⟨#[48]⟩)).setCell ⟨w.heap.size + 1, 2, none⟩ (.string ⟨#[49]⟩)) (.returned (.tuple #[.agg #[.bool false, .string ⟨#[48]⟩, .string ⟨#[49]⟩], .int .i64 22])) 0 1 22) := Lib.hid (fun w2 hb => NumTold4.done (k := w.heap.size + 1) 0 1 22 hb (by omega) num_zero.1 num_zero.2.1 num_zero.2.2)
  have ZE := Lib.hid (fun wz => r3Zero_any wz)
  unfold NumTold at ZE
  rw [num_zero.1, num_zero.2.1, num_zero.2.2] at ZE
  generalize rB P = b at *
  generalize rS P = s at *
  generalize str (dec Q) = q at *
  have BB := Lib.hid (((Bag.start w).box3 (.bool b) (.string s) (.string q) 53).box3 (.bool false) (.string ⟨#[]⟩) (.string ⟨#[]⟩) 53)
  simp only [World.size_alloc] at BB
  have r0 := BB.out.now.2.1.cell
  have r1 := BB.out.now.2.1.cell1
  have r2 := BB.out.now.2.1.cell2
  clear hQ h1 h2
  go_enter Tryz.func26, Tryz.ntmps26
  go_wp2_with fail
  go_at_call 28
  (with_reducible refine (RH.out _).mono ?_)
  rintro e w1 ⟨rfl, hb1⟩
  have BB := Lib.hid (BB.out.go hb1)
  clear hb1
  have r0 := BB.out.now.2.1.cell
  have r1 := BB.out.now.2.1.cell1
  have r2 := BB.out.now.2.1.cell2
  go_wp2_with fail
  go_at_call 68
  (with_reducible refine (ZE.out _).mono ?_)
  rintro e w5 ⟨rfl, hb5⟩
  have BB := Lib.hid (BB.out.go hb5)
  clear hb5
  have hs := BB.out.now.1
  have u0 := hs.cell
  have u1 := hs.cell1
  have u2 := hs.cell2
  have g0 := hs.free
  have g1 := hs.free1
  have g2 := hs.free2
  have HS := hs.set (.bool false) (.string ⟨#[48]⟩) (.string ⟨#[49]⟩)
  have HE := Lib.hid (HF.out _ BB.out.below)
  clear hs
  go_wp2
  exact bodyPost_ret (v := .tuple #[.agg #[.bool false, .string ⟨#[48]⟩, .string ⟨#[49]⟩], .int .i64 22]) (by simp [results, Tryz.results26, go_sem, HS]) rfl HE.out
set_option maxHeartbeats 3200000 in
set_option maxRecDepth 100000 in
theorem rone_facno1 (P : Int) (Q : Nat) (l : Int) (w : World) (hQ : 0 < Q) (h1 : dl P.natAbs ≤ 60) (h2 : dl Q ≤ 60) (hP : P < 0) (hQ1 : Q = 1) :
    Calls Tryz.prog 26 #[.int .i32 33, .agg #[.bool (rB P), .string (rS P), .string (str (dec Q))], .int .i64 l] w fun e w' => NumTold4 w w' e 0 1 22 := by
  have RH := Lib.hid (fun wz => rhas12_any 33 wz)
  rw [show hasB 33 = true from rfl] at RH
  have d0 := dec_is1 Q
  rw [decide_eq_true hQ1] at d0
  have eb : rB P = true := by unfold rB; exact decide_eq_true (by omega)
  rw [eb]
  clear hQ1 hP eb
  have HF : Hid (∀ w2, Below w.heap.size w w2 → NumTold4 w (((w2.setCell ⟨w.heap.size + 1, 0, none⟩ (.bool false)).setCell ⟨w.heap.size + 1, 1, none⟩ (.string ⟨#[48]⟩)).setCell ⟨w.heap.size + 1, 2, none⟩ (.string ⟨#[49]⟩)) (.returned (.tuple #[.agg #[.bool false, .string ⟨#[48]⟩, .string ⟨#[49]⟩], .int .i64 22])) 0 1 22) := Lib.hid (fun w2 hb => NumTold4.done (k := w.heap.size + 1) 0 1 22 hb (by omega) num_zero.1 num_zero.2.1 num_zero.2.2)
  have ZE := Lib.hid (fun wz => r3Zero_any wz)
  unfold NumTold at ZE
  rw [num_zero.1, num_zero.2.1, num_zero.2.2] at ZE
  generalize rS P = s at *
  generalize str (dec Q) = q at *
  have BB := Lib.hid (((Bag.start w).box3 (.bool true) (.string s) (.string q) 53).box3 (.bool false) (.string ⟨#[]⟩) (.string ⟨#[]⟩) 53)
  simp only [World.size_alloc] at BB
  have r0 := BB.out.now.2.1.cell
  have r1 := BB.out.now.2.1.cell1
  have r2 := BB.out.now.2.1.cell2
  clear hQ h1 h2
  go_enter Tryz.func26, Tryz.ntmps26
  go_wp2_with fail
  go_at_call 28
  (with_reducible refine (RH.out _).mono ?_)
  rintro e w1 ⟨rfl, hb1⟩
  have BB := Lib.hid (BB.out.go hb1)
  clear hb1
  have r0 := BB.out.now.2.1.cell
  have r1 := BB.out.now.2.1.cell1
  have r2 := BB.out.now.2.1.cell2
  go_wp2_with fail
  go_at_call 68
  (with_reducible refine (ZE.out _).mono ?_)
  rintro e w5 ⟨rfl, hb5⟩
  have BB := Lib.hid (BB.out.go hb5)
  clear hb5
  have hs := BB.out.now.1
  have u0 := hs.cell
  have u1 := hs.cell1
  have u2 := hs.cell2
  have g0 := hs.free
  have g1 := hs.free1
  have g2 := hs.free2
  have HS := hs.set (.bool false) (.string ⟨#[48]⟩) (.string ⟨#[49]⟩)
  have HE := Lib.hid (HF.out _ BB.out.below)
  clear hs
  go_wp2
  exact bodyPost_ret (v := .tuple #[.agg #[.bool false, .string ⟨#[48]⟩, .string ⟨#[49]⟩], .int .i64 22]) (by simp [results, Tryz.results26, go_sem, HS]) rfl HE.out
set_option maxHeartbeats 3200000 in
set_option maxRecDepth 100000 in
theorem rone_facno2 (P : Int) (Q : Nat) (l : Int) (w : World) (hQ : 0 < Q) (h1 : dl P.natAbs ≤ 60) (h2 : dl Q ≤ 60) (hQ1 : ¬ Q = 1) :
    Calls Tryz.prog 26 #[.int .i32 33, .agg #[.bool (rB P), .string (rS P), .string (str (dec Q))], .int .i64 l] w fun e w' => NumTold4 w w' e 0 1 22 := by
  have RH := Lib.hid (fun wz => rhas12_any 33 wz)
  rw [show hasB 33 = true from rfl] at RH
  have d0 := dec_is1 Q
  rw [decide_eq_false hQ1] at d0
  clear hQ1
  have HF : Hid (∀ w2, Below w.heap.size w w2 → NumTold4 w (((w2.setCell ⟨w.heap.size + 1, 0, none⟩ (.bool false)).setCell ⟨w.heap.size + 1, 1, none⟩ (.string ⟨#[48]⟩)).setCell ⟨w.heap.size + 1, 2, none⟩ (.string ⟨#[49]⟩)) (.returned (.tuple #[.agg #[.bool false, .string ⟨#[48]⟩, .string ⟨#[49]⟩], .int .i64 22])) 0 1 22) := Lib.hid (fun w2 hb => NumTold4.done (k := w.heap.size + 1) 0 1 22 hb (by omega) num_zero.1 num_zero.2.1 num_zero.2.2)
  have ZE := Lib.hid (fun wz => r3Zero_any wz)
  unfold NumTold at ZE
  rw [num_zero.1, num_zero.2.1, num_zero.2.2] at ZE
  generalize rB P = b at *
  generalize rS P = s at *
  generalize str (dec Q) = q at *
  have BB := Lib.hid (((Bag.start w).box3 (.bool b) (.string s) (.string q) 53).box3 (.bool false) (.string ⟨#[]⟩) (.string ⟨#[]⟩) 53)
  simp only [World.size_alloc] at BB
  have r0 := BB.out.now.2.1.cell
  have r1 := BB.out.now.2.1.cell1
  have r2 := BB.out.now.2.1.cell2
  clear hQ h1 h2
  go_enter Tryz.func26, Tryz.ntmps26
  go_wp2_with fail
  go_at_call 28
  (with_reducible refine (RH.out _).mono ?_)
  rintro e w1 ⟨rfl, hb1⟩
  have BB := Lib.hid (BB.out.go hb1)
  clear hb1
  have r0 := BB.out.now.2.1.cell
  have r1 := BB.out.now.2.1.cell1
  have r2 := BB.out.now.2.1.cell2
  go_wp2_with fail
  go_at_call 68
  (with_reducible refine (ZE.out _).mono ?_)
  rintro e w5 ⟨rfl, hb5⟩
  have BB := Lib.hid (BB.out.go hb5)
  clear hb5
  have hs := BB.out.now.1
  have u0 := hs.cell
  have u1 := hs.cell1
  have u2 := hs.cell2
  have g0 := hs.free
  have g1 := hs.free1
  have g2 := hs.free2
  have HS := hs.set (.bool false) (.string ⟨#[48]⟩) (.string ⟨#[49]⟩)
  have HE := Lib.hid (HF.out _ BB.out.below)
  clear hs
  go_wp2
  exact bodyPost_ret (v := .tuple #[.agg #[.bool false, .string ⟨#[48]⟩, .string ⟨#[49]⟩], .int .i64 22]) (by simp [results, Tryz.results26, go_sem, HS]) rfl HE.out
set_option maxHeartbeats 3200000 in
set_option maxRecDepth 100000 in
theorem rone_notno1 (P : Int) (Q : Nat) (l : Int) (w : World) (hQ : 0 < Q) (h1 : dl P.natAbs ≤ 60) (h2 : dl Q ≤ 60) (hQ1 : ¬ Q = 1) :
    Calls Tryz.prog 26 #[.int .i32 126, .agg #[.bool (rB P), .string (rS P), .string (str (dec Q))], .int .i64 l] w fun e w' => NumTold4 w w' e 0 1 22 := by
  have RH := Lib.hid (fun wz => rhas12_any 126 wz)
  rw [show hasB 126 = true from rfl] at RH
  have d0 := dec_is1 Q
  rw [decide_eq_false hQ1] at d0
  clear hQ1
  have HF : Hid (∀ w2, Below w.heap.size w w2 → NumTold4 w (((w2.setCell ⟨w.heap.size + 1, 0, none⟩ (.bool false)).setCell ⟨w.heap.size + 1, 1, none⟩ (.string ⟨#[48]⟩)).setCell ⟨w.heap.size + 1, 2, none⟩ (.string ⟨#[49]⟩)) (.returned (.tuple #[.agg #[.bool false, .string ⟨#[48]⟩, .string ⟨#[49]⟩], .int .i64 22])) 0 1 22) := Lib.hid (fun w2 hb => NumTold4.done (k := w.heap.size + 1) 0 1 22 hb (by omega) num_zero.1 num_zero.2.1 num_zero.2.2)
  have ZE := Lib.hid (fun wz => r3Zero_any wz)
  unfold NumTold at ZE
  rw [num_zero.1, num_zero.2.1, num_zero.2.2] at ZE
  generalize rB P = b at *
  generalize rS P = s at *
  generalize str (dec Q) = q at *
  have BB := Lib.hid (((Bag.start w).box3 (.bool b) (.string s) (.string q) 53).box3 (.bool false) (.string ⟨#[]⟩) (.string ⟨#[]⟩) 53)
  simp only [World.size_alloc] at BB
  have r0 := BB.out.now.2.1.cell
  have r1 := BB.out.now.2.1.cell1
  have r2 := BB.out.now.2.1.cell2
  clear hQ h1 h2
  go_enter Tryz.func26, Tryz.ntmps26
  go_wp2_with fail
  go_at_call 28
  (with_reducible refine (RH.out _).mono ?_)
  rintro e w1 ⟨rfl, hb1⟩
  have BB := Lib.hid (BB.out.go hb1)
  clear hb1
  have r0 := BB.out.now.2.1.cell
  have r1 := BB.out.now.2.1.cell1
  have r2 := BB.out.now.2.1.cell2
  go_wp2_with fail
  go_at_call 68
  (with_reducible refine (ZE.out _).mono ?_)
  rintro e w5 ⟨rfl, hb5⟩
  have BB := Lib.hid (BB.out.go hb5)
  clear hb5
  have hs := BB.out.now.1
  have u0 := hs.cell
  have u1 := hs.cell1
  have u2 := hs.cell2
  have g0 := hs.free
  have g1 := hs.free1
  have g2 := hs.free2
  have HS := hs.set (.bool false) (.string ⟨#[48]⟩) (.string ⟨#[49]⟩)
  have HE := Lib.hid (HF.out _ BB.out.below)
  clear hs
  go_wp2
  exact bodyPost_ret (v := .tuple #[.agg #[.bool false, .string ⟨#[48]⟩, .string ⟨#[49]⟩], .int .i64 22]) (by simp [results, Tryz.results26, go_sem, HS]) rfl HE.out
set_option maxHeartbeats 3200000 in
set_option maxRecDepth 100000 in
theorem rone_notno2 (P : Int) (Q : Nat) (l : Int) (w : World) (hQ : 0 < Q) (h1 : dl P.natAbs ≤ 60) (h2 : dl Q ≤ 60) (hP : P < 0) (hQ1 : Q = 1) :
    Calls Tryz.prog 26 #[.int .i32 126, .agg #[.bool (rB P), .string (rS P), .string (str (dec Q))], .int .i64 l] w fun e w' => NumTold4 w w' e 0 1 22 := by
  have RH := Lib.hid (fun wz => rhas12_any 126 wz)
  rw [show hasB 126 = true from rfl] at RH
  have d0 := dec_is1 Q
  rw [decide_eq_true hQ1] at d0
  have eb : rB P = true := by unfold rB; exact decide_eq_true (by omega)
  rw [eb]
  clear hQ1 hP eb
  have HF : Hid (∀ w2, Below w.heap.size w w2 → NumTold4 w (((w2.setCell ⟨w.heap.size + 1, 0, none⟩ (.bool false)).setCell ⟨w.heap.size + 1, 1, none⟩ (.string ⟨#[48]⟩)).setCell ⟨w.heap.size + 1, 2, none⟩ (.string ⟨#[49]⟩)) (.returned (.tuple #[.agg #[.bool false, .string ⟨#[48]⟩, .string ⟨#[49]⟩], .int .i64 22])) 0 1 22) := Lib.hid (fun w2 hb => NumTold4.done (k := w.heap.size + 1) 0 1 22 hb (by omega) num_zero.1 num_zero.2.1 num_zero.2.2)
  have ZE := Lib.hid (fun wz => r3Zero_any wz)
  unfold NumTold at ZE
  rw [num_zero.1, num_zero.2.1, num_zero.2.2] at ZE
  generalize rS P = s at *
  generalize str (dec Q) = q at *
  have BB := Lib.hid (((Bag.start w).box3 (.bool true) (.string s) (.string q) 53).box3 (.bool false) (.string ⟨#[]⟩) (.string ⟨#[]⟩) 53)
  simp only [World.size_alloc] at BB
  have r0 := BB.out.now.2.1.cell
  have r1 := BB.out.now.2.1.cell1
  have r2 := BB.out.now.2.1.cell2
  clear hQ h1 h2
  go_enter Tryz.func26, Tryz.ntmps26
  go_wp2_with fail
  go_at_call 28
  (with_reducible refine (RH.out _).mono ?_)
  rintro e w1 ⟨rfl, hb1⟩
  have BB := Lib.hid (BB.out.go hb1)
  clear hb1
  have r0 := BB.out.now.2.1.cell
  have r1 := BB.out.now.2.1.cell1
  have r2 := BB.out.now.2.1.cell2
  go_wp2_with fail
  go_at_call 68
  (with_reducible refine (ZE.out _).mono ?_)
  rintro e w5 ⟨rfl, hb5⟩
  have BB := Lib.hid (BB.out.go hb5)
  clear hb5
  have hs := BB.out.now.1
  have u0 := hs.cell
  have u1 := hs.cell1
  have u2 := hs.cell2
  have g0 := hs.free
  have g1 := hs.free1
  have g2 := hs.free2
  have HS := hs.set (.bool false) (.string ⟨#[48]⟩) (.string ⟨#[49]⟩)
  have HE := Lib.hid (HF.out _ BB.out.below)
  clear hs
  go_wp2
  exact bodyPost_ret (v := .tuple #[.agg #[.bool false, .string ⟨#[48]⟩, .string ⟨#[49]⟩], .int .i64 22]) (by simp [results, Tryz.results26, go_sem, HS]) rfl HE.out
set_option maxHeartbeats 3200000 in
set_option maxRecDepth 100000 in
theorem rone_notno3 (P : Int) (Q : Nat) (l : Int) (w : World) (hQ : 0 < Q) (h1 : dl P.natAbs ≤ 60) (h2 : dl Q ≤ 60) (hP : 2 ≤ P) (hQ1 : Q = 1) :
    Calls Tryz.prog 26 #[.int .i32 126, .agg #[.bool (rB P), .string (rS P), .string (str (dec Q))], .int .i64 l] w fun e w' => NumTold4 w w' e 0 1 22 := by
  have RH := Lib.hid (fun wz => rhas12_any 126 wz)
  rw [show hasB 126 = true from rfl] at RH
  have d0 := dec_is1 Q
  rw [decide_eq_true hQ1] at d0
  have d1 := dec_is1 P.natAbs
  rw [decide_eq_false (show ¬ P.natAbs = 1 by omega)] at d1
  have d1 : ((rS P).toList == [49]) = false := d1
  have d2 := dec_is0' P.natAbs
  rw [decide_eq_false (show ¬ P.natAbs = 0 by omega)] at d2
  have d2 : ((rS P).toList == [48]) = false := d2
  have eb : rB P = false := by unfold rB; exact decide_eq_false (by omega)
  rw [eb]
  clear hQ1 hP eb
  have HF : Hid (∀ w2, Below w.heap.size w w2 → NumTold4 w (((w2.setCell ⟨w.heap.size + 1, 0, none⟩ (.bool false)).setCell ⟨w.heap.size + 1, 1, none⟩ (.string ⟨#[48]⟩)).setCell ⟨w.heap.size + 1, 2, none⟩ (.string ⟨#[49]⟩)) (.returned (.tuple #[.agg #[.bool false, .string ⟨#[48]⟩, .string ⟨#[49]⟩], .int .i64 22])) 0 1 22) := Lib.hid (fun w2 hb => NumTold4.done (k := w.heap.size + 1) 0 1 22 hb (by omega) num_zero.1 num_zero.2.1 num_zero.2.2)
  have ZE := Lib.hid (fun wz => r3Zero_any wz)
  unfold NumTold at ZE
  rw [num_zero.1, num_zero.2.1, num_zero.2.2] at ZE
  generalize rS P = s at *
  generalize str (dec Q) = q at *
  have BB := Lib.hid (((Bag.start w).box3 (.bool false) (.string s) (.string q) 53).box3 (.bool false) (.string ⟨#[]⟩) (.string ⟨#[]⟩) 53)
  simp only [World.size_alloc] at BB
  have r0 := BB.out.now.2.1.cell
  have r1 := BB.out.now.2.1.cell1
  have r2 := BB.out.now.2.1.cell2
  clear hQ h1 h2
  go_enter Tryz.func26, Tryz.ntmps26
  go_wp2_with fail
  go_at_call 28
  (with_reducible refine (RH.out _).mono ?_)
  rintro e w1 ⟨rfl, hb1⟩
  have BB := Lib.hid (BB.out.go hb1)
  clear hb1
  have r0 := BB.out.now.2.1.cell
  have r1 := BB.out.now.2.1.cell1
  have r2 := BB.out.now.2.1.cell2
  go_wp2_with fail
  go_at_call 68
  (with_reducible refine (ZE.out _).mono ?_)
  rintro e w5 ⟨rfl, hb5⟩
  have BB := Lib.hid (BB.out.go hb5)
  clear hb5
  have hs := BB.out.now.1
  have u0 := hs.cell
  have u1 := hs.cell1
  have u2 := hs.cell2
  have g0 := hs.free
  have g1 := hs.free1
  have g2 := hs.free2
  have HS := hs.set (.bool false) (.string ⟨#[48]⟩) (.string ⟨#[49]⟩)
  have HE := Lib.hid (HF.out _ BB.out.below)
  clear hs
  go_wp2
  exact bodyPost_ret (v := .tuple #[.agg #[.bool false, .string ⟨#[48]⟩, .string ⟨#[49]⟩], .int .i64 22]) (by simp [results, Tryz.results26, go_sem, HS]) rfl HE.out
set_option maxHeartbeats 3200000 in
set_option maxRecDepth 100000 in
theorem rone_not0 (l : Int) (w : World) :
    Calls Tryz.prog 26 #[.int .i32 126, .agg #[.bool false, .string ⟨#[48]⟩, .string ⟨#[49]⟩], .int .i64 l] w fun e w' => NumTold4 w w' e 1 1 0 := by
  have RH := Lib.hid (fun wz => rhas12_any 126 wz)
  rw [show hasB 126 = true from rfl] at RH
  have FR0 := fun X wz (h : X = 1) => r3From_any X wz (by omega)
  have FR : Hid (∀ (X : Int) (wz : World), X = 1 → Calls Tryz.prog 64 #[.int .i64 X] wz fun e w' => e = .returned (.agg #[.bool (rB 1), .string (rS 1), .string (str (dec 1))]) ∧ Below wz.heap.size wz w') := Lib.hid (fun X wz h => by
    have q := FR0 X wz h
    subst h
    exact q)
  clear FR0
  have HF := Lib.hid (fun w2 (hb : Below w.heap.size w w2) => NumTold4.done (k := w.heap.size + 1) 1 1 0 hb (by omega) rfl rfl rfl)
  generalize rB 1 = wb at *
  generalize rS 1 = ws at *
  generalize str (dec 1) = wq at *
  have BB := Lib.hid (((Bag.start w).box3 (.bool false) (.string ⟨#[48]⟩) (.string ⟨#[49]⟩) 53).box3 (.bool false) (.string ⟨#[]⟩) (.string ⟨#[]⟩) 53)
  simp only [World.size_alloc] at BB
  have r0 := BB.out.now.2.1.cell
  have r1 := BB.out.now.2.1.cell1
  have r2 := BB.out.now.2.1.cell2
  go_enter Tryz.func26, Tryz.ntmps26
  go_wp2_with fail
  go_at_call 28
  (with_reducible refine (RH.out _).mono ?_)
  rintro e w1 ⟨rfl, hb1⟩
  have BB := Lib.hid (BB.out.go hb1)
  clear hb1
  have r0 := BB.out.now.2.1.cell
  have r1 := BB.out.now.2.1.cell1
  have r2 := BB.out.now.2.1.cell2
  go_wp2_with fail
  go_at_call 64
  (with_reducible refine (FR.out _ _ (by kernel_rfl)).mono ?_)
  rintro e w4 ⟨rfl, hb4⟩
  have BB := Lib.hid (BB.out.go hb4)
  clear hb4
  have hs := BB.out.now.1
  have u0 := hs.cell
  have u1 := hs.cell1
  have u2 := hs.cell2
  have g0 := hs.free
  have g1 := hs.free1
  have g2 := hs.free2
  have HS := hs.set (.bool wb) (.string ws) (.string wq)
  have HE := Lib.hid (HF.out _ BB.out.below)
  clear hs
  go_wp2
  exact bodyPost_ret (v := .tuple #[.agg #[.bool wb, .string ws, .string wq], .int .i64 0]) (by simp [results, Tryz.results26, go_sem, HS]) rfl HE.out
set_option maxHeartbeats 3200000 in
set_option maxRecDepth 100000 in
theorem rone_not1 (l : Int) (w : World) :
    Calls Tryz.prog 26 #[.int .i32 126, .agg #[.bool false, .string ⟨#[49]⟩, .string ⟨#[49]⟩], .int .i64 l] w fun e w' => NumTold4 w w' e 0 1 0 := by
  have RH := Lib.hid (fun wz => rhas12_any 126 wz)
  rw [show hasB 126 = true from rfl] at RH
  have FR0 := fun X wz (h : X = 0) => r3From_any X wz (by omega)
  have FR : Hid (∀ (X : Int) (wz : World), X = 0 → Calls Tryz.prog 64 #[.int .i64 X] wz fun e w' => e = .returned (.agg #[.bool (rB 0), .string (rS 0), .string (str (dec 1))]) ∧ Below wz.heap.size wz w') := Lib.hid (fun X wz h => by
    have q := FR0 X wz h
    subst h
    exact q)
  clear FR0
  have HF := Lib.hid (fun w2 (hb : Below w.heap.size w w2) => NumTold4.done (k := w.heap.size + 1) 0 1 0 hb (by omega) rfl rfl rfl)
  generalize rB 0 = wb at *
  generalize rS 0 = ws at *
  generalize str (dec 1) = wq at *
  have BB := Lib.hid (((Bag.start w).box3 (.bool false) (.string ⟨#[49]⟩) (.string ⟨#[49]⟩) 53).box3 (.bool false) (.string ⟨#[]⟩) (.string ⟨#[]⟩) 53)
  simp only [World.size_alloc] at BB
  have r0 := BB.out.now.2.1.cell
  have r1 := BB.out.now.2.1.cell1
  have r2 := BB.out.now.2.1.cell2
  go_enter Tryz.func26, Tryz.ntmps26
  go_wp2_with fail
  go_at_call 28
  (with_reducible refine (RH.out _).mono ?_)
  rintro e w1 ⟨rfl, hb1⟩
  have BB := Lib.hid (BB.out.go hb1)
  clear hb1
  have r0 := BB.out.now.2.1.cell
  have r1 := BB.out.now.2.1.cell1
  have r2 := BB.out.now.2.1.cell2
  go_wp2_with fail
  go_at_call 64
  (with_reducible refine (FR.out _ _ (by kernel_rfl)).mono ?_)
  rintro e w4 ⟨rfl, hb4⟩
  have BB := Lib.hid (BB.out.go hb4)
  clear hb4
  have hs := BB.out.now.1
  have u0 := hs.cell
  have u1 := hs.cell1
  have u2 := hs.cell2
  have g0 := hs.free
  have g1 := hs.free1
  have g2 := hs.free2
  have HS := hs.set (.bool wb) (.string ws) (.string wq)
  have HE := Lib.hid (HF.out _ BB.out.below)
  clear hs
  go_wp2
  exact bodyPost_ret (v := .tuple #[.agg #[.bool wb, .string ws, .string wq], .int .i64 0]) (by simp [results, Tryz.results26, go_sem, HS]) rfl HE.out
set_option maxHeartbeats 3200000 in
set_option maxRecDepth 100000 in
theorem rone_hasnt (c0 : Int) (P : Int) (Q : Nat) (l : Int) (w : World) (hc : hasB c0 = false) :
    Calls Tryz.prog 26 #[.int .i32 c0, .agg #[.bool (rB P), .string (rS P), .string (str (dec Q))], .int .i64 l] w fun e w' => NumTold4 w w' e 0 1 20 := by
  have RH := Lib.hid (fun wz => rhas12_any c0 wz)
  rw [hc] at RH
  clear hc
  have HF : Hid (∀ w2, Below w.heap.size w w2 → NumTold4 w (((w2.setCell ⟨w.heap.size + 1, 0, none⟩ (.bool false)).setCell ⟨w.heap.size + 1, 1, none⟩ (.string ⟨#[48]⟩)).setCell ⟨w.heap.size + 1, 2, none⟩ (.string ⟨#[49]⟩)) (.returned (.tuple #[.agg #[.bool false, .string ⟨#[48]⟩, .string ⟨#[49]⟩], .int .i64 20])) 0 1 20) := Lib.hid (fun w2 hb => NumTold4.done (k := w.heap.size + 1) 0 1 20 hb (by omega) num_zero.1 num_zero.2.1 num_zero.2.2)
  have ZE := Lib.hid (fun wz => r3Zero_any wz)
  unfold NumTold at ZE
  rw [num_zero.1, num_zero.2.1, num_zero.2.2] at ZE
  generalize rB P = b at *
  generalize rS P = s at *
  generalize str (dec Q) = q at *
  have BB := Lib.hid (((Bag.start w).box3 (.bool b) (.string s) (.string q) 53).box3 (.bool false) (.string ⟨#[]⟩) (.string ⟨#[]⟩) 53)
  simp only [World.size_alloc] at BB
  have r0 := BB.out.now.2.1.cell
  have r1 := BB.out.now.2.1.cell1
  have r2 := BB.out.now.2.1.cell2
  go_enter Tryz.func26, Tryz.ntmps26
  go_wp2_with fail
  go_at_call 28
  (with_reducible refine (RH.out _).mono ?_)
  rintro e w1 ⟨rfl, hb1⟩
  have BB := Lib.hid (BB.out.go hb1)
  clear hb1
  have r0 := BB.out.now.2.1.cell
  have r1 := BB.out.now.2.1.cell1
  have r2 := BB.out.now.2.1.cell2
  go_wp2_with fail
  go_at_call 68
  (with_reducible refine (ZE.out _).mono ?_)
  rintro e w5 ⟨rfl, hb5⟩
  have BB := Lib.hid (BB.out.go hb5)
  clear hb5
  have hs := BB.out.now.1
  have u0 := hs.cell
  have u1 := hs.cell1
  have u2 := hs.cell2
  have g0 := hs.free
  have g1 := hs.free1
  have g2 := hs.free2
  have HS := hs.set (.bool false) (.string ⟨#[48]⟩) (.string ⟨#[49]⟩)
  have HE := Lib.hid (HF.out _ BB.out.below)
  clear hs
  go_wp2
  exact bodyPost_ret (v := .tuple #[.agg #[.bool false, .string ⟨#[48]⟩, .string ⟨#[49]⟩], .int .i64 20]) (by simp [results, Tryz.results26, go_sem, HS]) rfl HE.out
theorem rone_any (c0 : Int) (P : Int) (Q : Nat) (l : Int) (w : World) (hQ : 0 < Q) (h1 : dl P.natAbs ≤ 60) (h2 : dl Q ≤ 60) (hl : l ≤ 64) :
    Calls Tryz.prog 26 #[.int .i32 c0, .agg #[.bool (rB P), .string (rS P), .string (str (dec Q))], .int .i64 l] w fun e w' => NumTold4 w w' e (oP c0 P Q l) (oQ c0 P Q l) (oE c0 P Q l) := by
  cases hc : hasB c0 with
  | false =>
    have hE : oE c0 P Q l = 20 := by
      unfold oE
      rw [if_pos hc]
    unfold oP oQ
    rw [hE, if_neg (by decide), if_neg (by decide)]
    exact rone_hasnt c0 P Q l w hc
  | true =>
    have hc2 := of_decide_eq_true hc
    have yes : ∀ {c : Int}, hasB c = true → c ≠ 126 → aN c P Q = true → Calls Tryz.prog 26 #[.int .i32 c, .agg #[.bool (rB P), .string (rS P), .string (str (dec Q))], .int .i64 l] w (fun e w' => NumTold4 w w' e (wP (aP c P Q) (aQ c P Q) l) (wQ (aP c P Q) (aQ c P Q) l) (wE (aP c P Q) (aQ c P Q) l)) → Calls Tryz.prog 26 #[.int .i32 c, .agg #[.bool (rB P), .string (rS P), .string (str (dec Q))], .int .i64 l] w (fun e w' => NumTold4 w w' e (oP c P Q l) (oQ c P Q l) (oE c P Q l)) := fun h1 h2 h3 h => by
      obtain ⟨e1, e2, e3⟩ := o_w (l := l) h1 h2 h3
      rw [e1, e2, e3]
      exact h
    have no : ∀ {c : Int}, hasB c = true → c ≠ 126 → aN c P Q = false → Calls Tryz.prog 26 #[.int .i32 c, .agg #[.bool (rB P), .string (rS P), .string (str (dec Q))], .int .i64 l] w (fun e w' => NumTold4 w w' e 0 1 22) → Calls Tryz.prog 26 #[.int .i32 c, .agg #[.bool (rB P), .string (rS P), .string (str (dec Q))], .int .i64 l] w (fun e w' => NumTold4 w w' e (oP c P Q l) (oQ c P Q l) (oE c P Q l)) := fun h1 h2 h3 h => by
      obtain ⟨e1, e2, e3⟩ := o_no (l := l) h1 h2 h3
      rw [e1, e2, e3]
      exact h
    rcases hc2 with rfl | rfl | rfl | rfl | rfl | rfl | rfl | rfl | rfl | rfl | rfl | rfl
    · exact yes (by decide) (by decide) (by unfold aN; simp) (rone_plus P Q l w hQ h1 h2)
    · exact yes (by decide) (by decide) (by unfold aN; simp) (rone_minus P Q l w hQ h1 h2)
    · exact yes (by decide) (by decide) (by unfold aN; simp) (rone_size P Q l w hQ h1 h2)
    · exact no (by decide) (by decide) (by unfold aN; simp) (rone_star P Q l w hQ h1 h2)
    · by_cases hQ1 : Q = 1
      · by_cases hP : P < 0
        · exact no (by decide) (by decide) (by unfold aN; simp; omega) (rone_facno1 P Q l w hQ h1 h2 hP hQ1)
        · exact yes (by decide) (by decide) (by unfold aN; simp; omega) (rone_fac P Q l w hQ h1 h2 (by omega) hQ1 hl)
      · exact no (by decide) (by decide) (by unfold aN; simp; omega) (rone_facno2 P Q l w hQ h1 h2 hQ1)
    · have key : ∀ (p : Int) (q : Nat) (e : Int), oE 126 P Q l = e → (e = 0 → p = 1 - P ∧ q = 1) → (e ≠ 0 → p = 0 ∧ q = 1) → oP 126 P Q l = p ∧ oQ 126 P Q l = q := fun p q e he h1 h2 => by
        unfold oP oQ
        rw [he]
        by_cases e0 : e = 0
        · rw [if_pos e0, if_pos e0, if_pos rfl, if_pos rfl]
          exact ⟨(h1 e0).1.symm, (h1 e0).2.symm⟩
        · rw [if_neg e0, if_neg e0]
          exact ⟨(h2 e0).1.symm, (h2 e0).2.symm⟩
      by_cases hq : Q = 1 ∧ (P = 0 ∨ P = 1)
      · have hE : oE 126 P Q l = 0 := by
          unfold oE
          rw [if_neg (by decide), if_pos rfl, if_pos hq]
        obtain ⟨e1, e2⟩ := key (1 - P) 1 0 hE (fun _ => ⟨rfl, rfl⟩) (fun h => absurd rfl h)
        rw [hE, e1, e2]
        obtain ⟨rfl, rfl | rfl⟩ := hq
        · have := rone_not0 l w
          rw [← dec0, ← dec1] at this
          exact this
        · have := rone_not1 l w
          rw [← dec1] at this
          exact this
      · have hE : oE 126 P Q l = 22 := by
          unfold oE
          rw [if_neg (by decide), if_pos rfl, if_neg hq]
        obtain ⟨e1, e2⟩ := key 0 1 22 hE (fun h => by omega) (fun _ => ⟨rfl, rfl⟩)
        rw [hE, e1, e2]
        by_cases hQ1 : Q = 1
        · by_cases hP : P < 0
          · exact rone_notno2 P Q l w hQ h1 h2 hP hQ1
          · exact rone_notno3 P Q l w hQ h1 h2 (by omega) hQ1
        · exact rone_notno1 P Q l w hQ h1 h2 hQ1
    · exact yes (by decide) (by decide) (by unfold aN; simp) (rone_sign P Q l w hQ h1 h2)
    · by_cases hP : P = 0
      · exact no (by decide) (by decide) (by unfold aN; simp [hP]) (rone_rec0 P Q l w hQ h1 h2 hP)
      · exact yes (by decide) (by decide) (by unfold aN; simp [hP]) (rone_rec P Q l w hQ h1 h2 hP)
    · exact yes (by decide) (by decide) (by unfold aN; simp) (rone_ceil P Q l w hQ h1 h2)
    · exact yes (by decide) (by decide) (by unfold aN; simp) (rone_floor P Q l w hQ h1 h2)
    · exact no (by decide) (by decide) (by unfold aN; simp) (rone_log P Q l w hQ h1 h2)
    · exact no (by decide) (by decide) (by unfold aN; simp) (rone_circle P Q l w hQ h1 h2)
end Go.Proofs.YtnpoakaffafdiaaGreatDoor

namespace Go.Proofs.YtnpoakaffafdiaaGreatDoor
open Go.RowKit
attribute [local go_sem ↓] Go.wp_at_zero Go.wp_at_succ
set_option linter.unusedVariables false
set_option linter.unusedSimpArgs false
/-- A number and an error. -/
def RatTold4 (w w' : World) (e : Ending) (P : Int) (Q : Nat) (E : Int) : Prop := ∃ a n c m a2 n2 c2, e = .returned (.tuple #[.agg #[.slice a n c, .bool m, .slice a2 n2 c2], .int .i64 E]) ∧ RatAt w' a n c m a2 n2 c2 P Q ∧ Below w.heap.size w w'
theorem RatTold4.done {w w2 : World} {k : Nat} {a0 : Option Addr} {n0 c0 : Nat} {m0 : Bool} {a1 : Option Addr} {n1 c1 : Nat} {a : Option Addr} {n c : Nat} {m : Bool} {a2 : Option Addr} {n2 c2 : Nat} {P : Int} {Q : Nat} (E : Int) (hb : Below w.heap.size w w2) (hk : w.heap.size ≤ k)
    (hs : Slot3 w2 k (.slice a0 n0 c0) (.bool m0) (.slice a1 n1 c1)) (h : RatAt w2 a n c m a2 n2 c2 P Q) :
    RatTold4 w (((w2.setCell ⟨k, 0, none⟩ (.slice a n c)).setCell ⟨k, 1, none⟩ (.bool m)).setCell ⟨k, 2, none⟩ (.slice a2 n2 c2)) (.returned (.tuple #[.agg #[.slice a n c, .bool m, .slice a2 n2 c2], .int .i64 E])) P Q E :=
  ⟨a, n, c, m, a2, n2, c2, rfl, h.set3 hs _ _ _, ((hb.setCell hk _).setCell hk _).setCell hk _⟩
set_option maxHeartbeats 3200000 in
set_option maxRecDepth 100000 in
theorem msize_any (a : Option Addr) (n c : Nat) (m : Bool) (a2 : Option Addr) (n2 c2 : Nat) (P : Int) (Q : Nat) (w : World) (h : RatAt w a n c m a2 n2 c2 P Q) :
    Calls Tryz.prog 125 #[.agg #[.slice a n c, .bool m, .slice a2 n2 c2]] w fun e w' => RatTold w w' e (P.natAbs : Nat) Q := by
  by_cases hP : P < 0
  · have SG := Lib.hid (fun wz h => ratSign_any a n c m a2 n2 c2 P Q wz h)
    have MN := Lib.hid (fun wz h => ratMinus_any a n c m a2 n2 c2 P Q wz h)
    have dS : decide (sgnI P < 0) = true := by unfold sgnI; simp [hP]
    have e0 : -P = (P.natAbs : Nat) := by omega
    rw [e0] at MN
    have BB := Lib.hid ((((Bag.start w).rat h).box3 (.slice a n c) (.bool m) (.slice a2 n2 c2) 60).box3 (.slice none 0 0) (.bool false) (.slice none 0 0) 60)
    simp only [World.size_alloc] at BB
    have q0 := BB.out.now.2.1.cell
    have q1 := BB.out.now.2.1.cell1
    have q2 := BB.out.now.2.1.cell2
    obtain ⟨sg, hsg⟩ : ∃ z, sgnI P = z := ⟨_, rfl⟩
    rw [hsg] at SG dS
    clear h hsg hP e0
    go_enter Tryz.func125, Tryz.ntmps125
    go_wp2_with fail
    go_at_call 29
    (with_reducible refine (SG.out _ BB.out.now.2.2.1).mono ?_)
    rintro e w2 ⟨rfl, hb2⟩
    have BB := Lib.hid (BB.out.go hb2)
    clear hb2
    have q0 := BB.out.now.2.1.cell
    have q1 := BB.out.now.2.1.cell1
    have q2 := BB.out.now.2.1.cell2
    go_wp2_with fail
    go_at_call 31
    (with_reducible refine (MN.out _ BB.out.now.2.2.1).mono ?_)
    rintro e w3 ⟨a3, n3, c3, m3, a4, n4, c4, rfl, hr, hb3⟩
    have BB := Lib.hid (BB.out.go hb3)
    clear hb3
    have hs := BB.out.now.1
    have u0 := hs.cell
    have u1 := hs.cell1
    have u2 := hs.cell2
    have g0 := hs.free
    have g1 := hs.free1
    have g2 := hs.free2
    have HS := hs.set (.slice a3 n3 c3) (.bool m3) (.slice a4 n4 c4)
    have HE := Lib.hid (RatTold.done BB.out.below (by omega) hs hr)
    clear hs
    go_wp2
    exact bodyPost_ret (v := .agg #[.slice a3 n3 c3, .bool m3, .slice a4 n4 c4]) (by simp [results, Tryz.results125, go_sem, HS]) rfl HE.out
  · have SG := Lib.hid (fun wz h => ratSign_any a n c m a2 n2 c2 P Q wz h)
    have dS : decide (sgnI P < 0) = false := by
      unfold sgnI
      rw [if_neg hP]
      split <;> simp
    have e0 : P = (P.natAbs : Nat) := by omega
    have BB := Lib.hid ((((Bag.start w).rat h).box3 (.slice a n c) (.bool m) (.slice a2 n2 c2) 60).box3 (.slice none 0 0) (.bool false) (.slice none 0 0) 60)
    simp only [World.size_alloc] at BB
    have q0 := BB.out.now.2.1.cell
    have q1 := BB.out.now.2.1.cell1
    have q2 := BB.out.now.2.1.cell2
    obtain ⟨sg, hsg⟩ : ∃ z, sgnI P = z := ⟨_, rfl⟩
    rw [hsg] at SG dS
    have h2 : RatAt w a n c m a2 n2 c2 (P.natAbs : Nat) Q := by rw [← e0]; exact h
    have HR := Lib.hid h2
    clear h2
    clear h hsg hP e0
    go_enter Tryz.func125, Tryz.ntmps125
    go_wp2_with fail
    go_at_call 29
    (with_reducible refine (SG.out _ BB.out.now.2.2.1).mono ?_)
    rintro e w2 ⟨rfl, hb2⟩
    have BB := Lib.hid (BB.out.go hb2)
    clear hb2
    have q0 := BB.out.now.2.1.cell
    have q1 := BB.out.now.2.1.cell1
    have q2 := BB.out.now.2.1.cell2
    have hr := HR.out.below BB.out.below
    have hs := BB.out.now.1
    have u0 := hs.cell
    have u1 := hs.cell1
    have u2 := hs.cell2
    have g0 := hs.free
    have g1 := hs.free1
    have g2 := hs.free2
    have HS := hs.set (.slice a n c) (.bool m) (.slice a2 n2 c2)
    have HE := Lib.hid (RatTold.done BB.out.below (by omega) hs hr)
    clear hs
    go_wp2
    exact bodyPost_ret (v := .agg #[.slice a n c, .bool m, .slice a2 n2 c2]) (by simp [results, Tryz.results125, go_sem, HS]) rfl HE.out
set_option maxHeartbeats 3200000 in
set_option maxRecDepth 100000 in
theorem mnot_no (a : Option Addr) (n c : Nat) (m : Bool) (a2 : Option Addr) (n2 c2 : Nat) (P : Int) (Q : Nat) (w : World) (h : RatAt w a n c m a2 n2 c2 P Q) (hQ : 0 < Q) (hn : ¬ (Q = 1 ∧ (P = 0 ∨ P = 1))) :
    Calls Tryz.prog 65 #[.agg #[.slice a n c, .bool m, .slice a2 n2 c2]] w fun e w' => RatTold4 w w' e 0 1 22 := by
  cases hl : (decide (Q = 1) && (decide (P.natAbs = 0) || decide (P.natAbs = 1))) with
  | false =>
    have LM := Lib.hid (fun wz h => limited_any a n c m a2 n2 c2 P Q wz h hQ)
    rw [hl] at LM
    have BB := Lib.hid ((((Bag.start w).rat h).box3 (.slice a n c) (.bool m) (.slice a2 n2 c2) 60).box3 (.slice none 0 0) (.bool false) (.slice none 0 0) 60)
    simp only [World.size_alloc] at BB
    have q0 := BB.out.now.2.1.cell
    have q1 := BB.out.now.2.1.cell1
    have q2 := BB.out.now.2.1.cell2
    clear h hl hn hQ
    go_enter Tryz.func65, Tryz.ntmps65
    go_wp2_with fail
    go_at_call 121
    (with_reducible refine (LM.out _ BB.out.now.2.2.1).mono ?_)
    rintro e w2 ⟨rfl, hb2⟩
    have BB := Lib.hid (BB.out.go hb2)
    clear hb2
    have hs := BB.out.now.1
    have u0 := hs.cell
    have u1 := hs.cell1
    have u2 := hs.cell2
    have g0 := hs.free
    have g1 := hs.free1
    have g2 := hs.free2
    have HS := hs.set (.slice none 0 0) (.bool false) (.slice none 0 0)
    have HE := Lib.hid (RatTold4.done 22 BB.out.below (by omega) hs (RatAt.zero _))
    clear hs
    go_wp2
    exact bodyPost_ret (v := .tuple #[.agg #[.slice none 0 0, .bool false, .slice none 0 0], .int .i64 22]) (by simp [results, Tryz.results65, go_sem, HS]) rfl HE.out
  | true =>
    have LM := Lib.hid (fun wz h => limited_any a n c m a2 n2 c2 P Q wz h hQ)
    have SG := Lib.hid (fun wz h => ratSign_any a n c m a2 n2 c2 P Q wz h)
    rw [hl] at LM
    have dS : decide (sgnI P < 0) = true := by
      rw [Bool.and_eq_true, Bool.or_eq_true, decide_eq_true_eq, decide_eq_true_eq, decide_eq_true_eq] at hl
      have : P < 0 := by omega
      unfold sgnI
      simp [this]
    obtain ⟨sg, hsg⟩ : ∃ z, sgnI P = z := ⟨_, rfl⟩
    rw [hsg] at SG dS
    clear hsg
    have BB := Lib.hid ((((Bag.start w).rat h).box3 (.slice a n c) (.bool m) (.slice a2 n2 c2) 60).box3 (.slice none 0 0) (.bool false) (.slice none 0 0) 60)
    simp only [World.size_alloc] at BB
    have q0 := BB.out.now.2.1.cell
    have q1 := BB.out.now.2.1.cell1
    have q2 := BB.out.now.2.1.cell2
    clear h hl hn hQ
    go_enter Tryz.func65, Tryz.ntmps65
    go_wp2_with fail
    go_at_call 121
    (with_reducible refine (LM.out _ BB.out.now.2.2.1).mono ?_)
    rintro e w2 ⟨rfl, hb2⟩
    have BB := Lib.hid (BB.out.go hb2)
    clear hb2
    have q0 := BB.out.now.2.1.cell
    have q1 := BB.out.now.2.1.cell1
    have q2 := BB.out.now.2.1.cell2
    go_wp2_with fail
    go_at_call 29
    (with_reducible refine (SG.out _ BB.out.now.2.2.1).mono ?_)
    rintro e w3 ⟨rfl, hb3⟩
    have BB := Lib.hid (BB.out.go hb3)
    clear hb3
    have hs := BB.out.now.1
    have u0 := hs.cell
    have u1 := hs.cell1
    have u2 := hs.cell2
    have g0 := hs.free
    have g1 := hs.free1
    have g2 := hs.free2
    have HS := hs.set (.slice none 0 0) (.bool false) (.slice none 0 0)
    have HE := Lib.hid (RatTold4.done 22 BB.out.below (by omega) hs (RatAt.zero _))
    clear hs
    go_wp2
    exact bodyPost_ret (v := .tuple #[.agg #[.slice none 0 0, .bool false, .slice none 0 0], .int .i64 22]) (by simp [results, Tryz.results65, go_sem, HS]) rfl HE.out
set_option maxHeartbeats 3200000 in
set_option maxRecDepth 100000 in
theorem mnot_yes (a : Option Addr) (n c : Nat) (m : Bool) (a2 : Option Addr) (n2 c2 : Nat) (P : Int) (Q : Nat) (w : World) (h : RatAt w a n c m a2 n2 c2 P Q) (hQ : Q = 1) (hP : P = 0 ∨ P = 1) :
    Calls Tryz.prog 65 #[.agg #[.slice a n c, .bool m, .slice a2 n2 c2]] w fun e w' => RatTold4 w w' e (1 - P) 1 0 := by
  have LM := Lib.hid (fun wz h => limited_any a n c m a2 n2 c2 P Q wz h (by omega))
  have SG := Lib.hid (fun wz h => ratSign_any a n c m a2 n2 c2 P Q wz h)
  have hl : (decide (Q = 1) && (decide (P.natAbs = 0) || decide (P.natAbs = 1))) = true := by
    rw [Bool.and_eq_true, Bool.or_eq_true, decide_eq_true_eq, decide_eq_true_eq, decide_eq_true_eq]
    omega
  rw [hl] at LM
  have hsg : sgnI P = P := by rcases hP with h | h <;> rw [h] <;> rfl
  rw [hsg] at SG
  have dS : decide (P < 0) = false := decide_eq_false (by omega)
  have FR := Lib.hid (fun wz => ratFrom_any (1 - P) wz (by omega))
  have hw := IntWalk.wrap64_in (1 - P) (by omega)
  have BB := Lib.hid ((((Bag.start w).rat h).box3 (.slice a n c) (.bool m) (.slice a2 n2 c2) 60).box3 (.slice none 0 0) (.bool false) (.slice none 0 0) 60)
  simp only [World.size_alloc] at BB
  have q0 := BB.out.now.2.1.cell
  have q1 := BB.out.now.2.1.cell1
  have q2 := BB.out.now.2.1.cell2
  clear h hl hsg hQ hP
  go_enter Tryz.func65, Tryz.ntmps65
  go_wp2_with fail
  go_at_call 121
  (with_reducible refine (LM.out _ BB.out.now.2.2.1).mono ?_)
  rintro e w2 ⟨rfl, hb2⟩
  have BB := Lib.hid (BB.out.go hb2)
  clear hb2
  have q0 := BB.out.now.2.1.cell
  have q1 := BB.out.now.2.1.cell1
  have q2 := BB.out.now.2.1.cell2
  go_wp2_with fail
  go_at_call 29
  (with_reducible refine (SG.out _ BB.out.now.2.2.1).mono ?_)
  rintro e w3 ⟨rfl, hb3⟩
  have BB := Lib.hid (BB.out.go hb3)
  clear hb3
  have q0 := BB.out.now.2.1.cell
  have q1 := BB.out.now.2.1.cell1
  have q2 := BB.out.now.2.1.cell2
  go_wp2_with fail
  go_at_call 29
  (with_reducible refine (SG.out _ BB.out.now.2.2.1).mono ?_)
  rintro e w4 ⟨rfl, hb4⟩
  have BB := Lib.hid (BB.out.go hb4)
  clear hb4
  go_wp2_with fail
  go_at_call 33
  (with_reducible refine (FR.out _).mono ?_)
  rintro e w5 ⟨a3, n3, c3, m3, a4, n4, c4, rfl, hr, hb5⟩
  have BB := Lib.hid (BB.out.go hb5)
  clear hb5
  have hs := BB.out.now.1
  have u0 := hs.cell
  have u1 := hs.cell1
  have u2 := hs.cell2
  have g0 := hs.free
  have g1 := hs.free1
  have g2 := hs.free2
  have HS := hs.set (.slice a3 n3 c3) (.bool m3) (.slice a4 n4 c4)
  have HE := Lib.hid (RatTold4.done 0 BB.out.below (by omega) hs hr)
  clear hs
  go_wp2
  exact bodyPost_ret (v := .tuple #[.agg #[.slice a3 n3 c3, .bool m3, .slice a4 n4 c4], .int .i64 0]) (by simp [results, Tryz.results65, go_sem, HS]) rfl HE.out
set_option maxHeartbeats 3200000 in
set_option maxRecDepth 100000 in
theorem mrec_any (a : Option Addr) (n c : Nat) (m : Bool) (a2 : Option Addr) (n2 c2 : Nat) (P : Int) (Q : Nat) (w : World) (h : RatAt w a n c m a2 n2 c2 P Q) (hQ : 0 < Q) (hg : Nat.gcd P.natAbs Q = 1) (K : Nat) (hK : K ≤ 1000) (h1 : P.natAbs < 4294967296 ^ K) (h2 : Q < 4294967296 ^ K) :
    Calls Tryz.prog 122 #[.agg #[.slice a n c, .bool m, .slice a2 n2 c2]] w fun e w' => RatTold4 w w' e (if P = 0 then 0 else upZ Q P) (if P = 0 then 1 else P.natAbs) (if P = 0 then 22 else 0) := by
  have hone : (1 : Nat) < 4294967296 ^ (K + 1) := by
    rw [Nat.pow_succ]
    have := Nat.pow_pos (n := K) (show 0 < 4294967296 by omega)
    omega
  have hlt : (4294967296 : Nat) ^ K ≤ 4294967296 ^ (K + 1) := Nat.pow_le_pow_right (by omega) (by omega)
  have hQ1 : Q < 4294967296 ^ (K + 1) := by omega
  have hP1 : P.natAbs < 4294967296 ^ (K + 1) := by omega
  clear hlt
  by_cases hP : P = 0
  · have BY : Hid (∀ b k l v b2 k2 l2 wz, RatAt wz b k l v b2 k2 l2 1 1 → RatAt wz a n c m a2 n2 c2 P Q → Calls Tryz.prog 160 #[.agg #[.slice b k l, .bool v, .slice b2 k2 l2], .agg #[.slice a n c, .bool m, .slice a2 n2 c2]] wz fun e w' => RatTold3 wz w' e 0 1 false) := Lib.hid (fun b k l v b2 k2 l2 wz g h => by
      rw [hP] at h
      exact by_zero b k l v b2 k2 l2 1 1 a n c m a2 n2 c2 Q wz g h (by decide) hQ (K + 1) (by omega) hone hone hQ1)
    rw [if_pos hP, if_pos hP, if_pos hP]
    unfold RatTold3 at BY
    have FR := Lib.hid (fun wz => ratFrom_any 1 wz (by omega))
    have BB := Lib.hid ((((Bag.start w).rat h).box3 (.slice a n c) (.bool m) (.slice a2 n2 c2) 60).box3 (.slice none 0 0) (.bool false) (.slice none 0 0) 60)
    simp only [World.size_alloc] at BB
    have HR := Lib.hid h
    clear h hQ hg h1 h2 hone hQ1 hP1 hP
    go_enter Tryz.func122, Tryz.ntmps122
    go_wp2_with fail
    have HP : Hid (∀ (y : World) (k : Nat) {x0 : Option Addr} {y0 z0 : Nat} {b0 : Bool} {x1 : Option Addr} {y1 z1 : Nat}, Slot3 y k (.slice x0 y0 z0) (.bool b0) (.slice x1 y1 z1) → w.heap.size + 1 < k → Bag w (fun y => Slot3 y (w.heap.size + 1) (.slice none 0 0) (.bool false) (.slice none 0 0) ∧ Slot3 y w.heap.size (.slice a n c) (.bool m) (.slice a2 n2 c2) ∧ RatAt y a n c m a2 n2 c2 P Q ∧ True) y → ∀ (a9 : Option Addr) (n9 c9 : Nat) (m9 : Bool) (a10 : Option Addr) (n10 c10 : Nat), Bag w (fun y => Slot3 y (w.heap.size + 1) (.slice none 0 0) (.bool false) (.slice none 0 0) ∧ Slot3 y w.heap.size (.slice a n c) (.bool m) (.slice a2 n2 c2) ∧ RatAt y a n c m a2 n2 c2 P Q ∧ True) (((y.setCell ⟨k, 0, none⟩ (.slice a9 n9 c9)).setCell ⟨k, 1, none⟩ (.bool m9)).setCell ⟨k, 2, none⟩ (.slice a10 n10 c10))) := by
      intro y k x0 y0 z0 b0 x1 y1 z1 s hk B a9 n9 c9 m9 a10 n10 c10
      have q := B.now
      exact ⟨((B.below.setCell (p := ⟨k, 0, none⟩) (show w.heap.size ≤ k by omega) _).setCell (p := ⟨k, 1, none⟩) (show w.heap.size ≤ k by omega) _).setCell (p := ⟨k, 2, none⟩) (show w.heap.size ≤ k by omega) _, B.stay, q.1.set3o (by omega) _ _ _, q.2.1.set3o (by omega) _ _ _, q.2.2.1.set3 s _ _ _, trivial⟩
    refine wp_region_inv ⟨(fun j => ([[7], [8], [9], [6], [10], [11], [4], [4], [5]] : List (List Nat)).getD j []), (fun j => ([[], [], [0, 1], [0, 1, 2], [0, 1, 2, 3], [0, 1, 2, 3], [], [0, 1, 2, 3, 4, 6], [0, 1, 2, 3, 4, 5, 6, 7]] : List (List Nat)).getD j []), [6]⟩ (fun jj vv yy => match jj with | 0 => ∃ (a0 : Option Addr), ∃ (n0 : Nat), ∃ (c0 : Nat), ∃ (m0 : Bool), ∃ (d0 : Option Addr), ∃ (i0 : Nat), ∃ (j0 : Nat), vv = [some (.agg #[.slice a0 n0 c0, .bool m0, .slice d0 i0 j0])] ∧ RatAt yy a0 n0 c0 m0 d0 i0 j0 1 1 | 1 => vv = [some (.agg #[.slice a n c, .bool m, .slice a2 n2 c2])] | 2 => ∃ (a3 : Option Addr), ∃ (n3 : Nat), ∃ (c3 : Nat), ∃ (m3 : Bool), ∃ (d3 : Option Addr), ∃ (i3 : Nat), ∃ (j3 : Nat), vv = [some (.tuple #[.agg #[.slice a3 n3 c3, .bool m3, .slice d3 i3 j3], .bool false])] ∧ RatAt yy a3 n3 c3 m3 d3 i3 j3 0 1 | 3 => ∃ (a3 : Option Addr), ∃ (n3 : Nat), ∃ (c3 : Nat), ∃ (m3 : Bool), ∃ (d3 : Option Addr), ∃ (i3 : Nat), ∃ (j3 : Nat), vv = [some (.tuple #[.agg #[.slice a3 n3 c3, .bool m3, .slice d3 i3 j3], .bool false])] ∧ RatAt yy a3 n3 c3 m3 d3 i3 j3 0 1 | 4 => ∃ (a3 : Option Addr), ∃ (n3 : Nat), ∃ (c3 : Nat), ∃ (m3 : Bool), ∃ (d3 : Option Addr), ∃ (i3 : Nat), ∃ (j3 : Nat), vv = [some (.agg #[.slice a3 n3 c3, .bool m3, .slice d3 i3 j3])] ∧ RatAt yy a3 n3 c3 m3 d3 i3 j3 0 1 | 5 => vv = [some (.bool false)] | 6 => ∃ (k6 : Nat), ∃ (x0 : Option Addr), ∃ (y0 : Nat), ∃ (z0 : Nat), ∃ (b0 : Bool), ∃ (x1 : Option Addr), ∃ (y1 : Nat), ∃ (z1 : Nat), vv = [some (.pointer (some ⟨k6, 0, none⟩))] ∧ Slot3 yy k6 (.slice x0 y0 z0) (.bool b0) (.slice x1 y1 z1) ∧ w.heap.size + 1 < k6 | 7 => ∃ (k6 : Nat), ∃ (a3 : Option Addr), ∃ (n3 : Nat), ∃ (c3 : Nat), ∃ (m3 : Bool), ∃ (d3 : Option Addr), ∃ (i3 : Nat), ∃ (j3 : Nat), vv = [some (.pointer (some ⟨k6, 0, none⟩))] ∧ Slot3 yy k6 (.slice a3 n3 c3) (.bool m3) (.slice d3 i3 j3) ∧ RatAt yy a3 n3 c3 m3 d3 i3 j3 0 1 | 8 => vv = [some (.bool false)] | _ => True) (Bag w (fun y => Slot3 y (w.heap.size + 1) (.slice none 0 0) (.bool false) (.slice none 0 0) ∧ Slot3 y w.heap.size (.slice a n c) (.bool m) (.slice a2 n2 c2) ∧ RatAt y a n c m a2 n2 c2 P Q ∧ True)) (by kernel_rfl) (by kernel_rfl) (by kernel_rfl) BB.out.drew ?_ ?_ ?_
    · intro jj vv yw yw2 hb h
      match jj, h with
      | 0, ⟨a0, n0, c0, m0, d0, i0, j0, e0, g0_0⟩ => exact Exists.intro a0 (Exists.intro n0 (Exists.intro c0 (Exists.intro m0 (Exists.intro d0 (Exists.intro i0 (Exists.intro j0 (And.intro e0 (g0_0.below hb))))))))
      | 1, h => exact h
      | 2, ⟨a3, n3, c3, m3, d3, i3, j3, e2, g2_0⟩ => exact Exists.intro a3 (Exists.intro n3 (Exists.intro c3 (Exists.intro m3 (Exists.intro d3 (Exists.intro i3 (Exists.intro j3 (And.intro e2 (g2_0.below hb))))))))
      | 3, ⟨a3, n3, c3, m3, d3, i3, j3, e3, g3_0⟩ => exact Exists.intro a3 (Exists.intro n3 (Exists.intro c3 (Exists.intro m3 (Exists.intro d3 (Exists.intro i3 (Exists.intro j3 (And.intro e3 (g3_0.below hb))))))))
      | 4, ⟨a3, n3, c3, m3, d3, i3, j3, e4, g4_0⟩ => exact Exists.intro a3 (Exists.intro n3 (Exists.intro c3 (Exists.intro m3 (Exists.intro d3 (Exists.intro i3 (Exists.intro j3 (And.intro e4 (g4_0.below hb))))))))
      | 5, h => exact h
      | 6, ⟨k6, x0, y0, z0, b0, x1, y1, z1, e6, g6_0, g6_1⟩ => exact Exists.intro k6 (Exists.intro x0 (Exists.intro y0 (Exists.intro z0 (Exists.intro b0 (Exists.intro x1 (Exists.intro y1 (Exists.intro z1 (And.intro e6 (And.intro (g6_0.below hb) g6_1)))))))))
      | 7, ⟨k6, a3, n3, c3, m3, d3, i3, j3, e7, g7_0, g7_1⟩ => exact Exists.intro k6 (Exists.intro a3 (Exists.intro n3 (Exists.intro c3 (Exists.intro m3 (Exists.intro d3 (Exists.intro i3 (Exists.intro j3 (And.intro e7 (And.intro (g7_0.below hb) (g7_1.below hb))))))))))
      | 8, h => exact h
      | _ + 9, h => exact h
    · intro ac yw hsz hdf hold hB hp
      obtain ⟨k6, a3, n3, c3, m3, d3, i3, j3, e7, sA, hr3⟩ := hp 7 (by decide)
      have t4 : ac.tmps[4]? = some (.pointer (some ⟨k6, 0, none⟩)) := (List.cons.inj e7).1
      have t5 : ac.tmps[5]? = some (.bool false) := (List.cons.inj (hp 8 (by decide))).1
      have t2 : ac.tmps[2]? = some (.pointer (some ⟨w.heap.size + 1, 0, none⟩)) := hold 2 (by kernel_rfl)
      clear hold hp e7
      obtain ⟨F, hF⟩ : ∃ F : Nat → Value, ∀ i, (ac.tmps[i]?).getD undef = F i := ⟨_, fun _ => rfl⟩
      have f2 := (hF 2).symm.trans (congrArg (fun x => Option.getD x undef) t2)
      have f4 := (hF 4).symm.trans (congrArg (fun x => Option.getD x undef) t4)
      have f5 := (hF 5).symm.trans (congrArg (fun x => Option.getD x undef) t5)
      have hac := act_eq (n := 16) hsz F hF
      rw [show ((List.range 16).map F).toArray = #[F 0, F 1, F 2, F 3, F 4, F 5, F 6, F 7, F 8, F 9, F 10, F 11, F 12, F 13, F 14, F 15] from rfl, f2, f4, f5, hdf] at hac
      simp only [Option.getD_some] at hac
      subst hac
      clear hF f2 f4 f5
      have BB := Lib.hid ((hB.slot3 sA).rat hr3)
      clear hB sA HP t2 t4 t5 FR BY
      have hs := BB.out.now.2.2.1
      have u0 := hs.cell
      have u1 := hs.cell1
      have u2 := hs.cell2
      have g0 := hs.free
      have g1 := hs.free1
      have g2 := hs.free2
      have HS := hs.set (.slice none 0 0) (.bool false) (.slice none 0 0)
      have HE := Lib.hid (RatTold4.done 22 BB.out.below (by omega) hs (RatAt.zero _))
      clear hs
      go_wp2
      exact bodyPost_ret (v := .tuple #[.agg #[.slice none 0 0, .bool false, .slice none 0 0], .int .i64 22]) (by simp [results, Tryz.results122, go_sem, HS]) rfl HE.out
    refine Stps.cons (o := _) ?_ ?_
    · intro ac yw hsz hold hB hp K hK
      clear hold hp hsz
      go_simp
      (go_at_call 33; (with_reducible refine (FR.out _).mono ?_); rintro e wz ⟨a0, n0, c0, m0, d0, i0, j0, rfl, h0_0, hbz⟩)
      exact hK.out _ _ ⟨hB.go hbz, Exists.intro a0 (Exists.intro n0 (Exists.intro c0 (Exists.intro m0 (Exists.intro d0 (Exists.intro i0 (Exists.intro j0 (And.intro rfl h0_0))))))), hbz.size, .inl hbz, fun h => absurd h (by decide)⟩
    refine Stps.cons (o := _) ?_ ?_
    · intro ac yw hsz hold hB hp K hK
      have t1 : ac.tmps[1]? = some (.pointer (some ⟨w.heap.size, 0, none⟩)) := hold 1 (by kernel_rfl)
      clear hold hp hsz
      have v0 := hB.now.2.1.cell
      have v1 := hB.now.2.1.cell1
      have v2 := hB.now.2.1.cell2
      go_simp
      exact hK.out _ _ ⟨hB, rfl, Nat.le_refl _, .inl (Below.refl _ _), fun h => absurd h (by decide)⟩
    refine Stps.cons (o := _) ?_ ?_
    · intro ac yw hsz hold hB hp K hK
      obtain ⟨a0_0, n0_0, c0_0, m0_0, d0_0, i0_0, j0_0, e0, g0_0⟩ := hp 0 (by decide)
      have t7 : ac.tmps[7]? = some (.agg #[.slice a0_0 n0_0 c0_0, .bool m0_0, .slice d0_0 i0_0 j0_0]) := (List.cons.inj e0).1
      have e1 := hp 1 (by decide)
      have t8 : ac.tmps[8]? = some (.agg #[.slice a n c, .bool m, .slice a2 n2 c2]) := (List.cons.inj e1).1
      clear hold hp hsz e0 e1
      go_simp
      (go_at_call 160; (with_reducible refine (BY.out _ _ _ _ _ _ _ _ g0_0 hB.now.2.2.1).mono ?_); rintro e wz ⟨a3, n3, c3, m3, d3, i3, j3, rfl, h2_0, hbz⟩)
      exact hK.out _ _ ⟨hB.go hbz, Exists.intro a3 (Exists.intro n3 (Exists.intro c3 (Exists.intro m3 (Exists.intro d3 (Exists.intro i3 (Exists.intro j3 (And.intro rfl h2_0))))))), hbz.size, .inl hbz, fun h => absurd h (by decide)⟩
    refine Stps.cons (o := _) ?_ ?_
    · intro ac yw hsz hold hB hp K hK
      obtain ⟨a3_2, n3_2, c3_2, m3_2, d3_2, i3_2, j3_2, e2, g2_0⟩ := hp 2 (by decide)
      have t9 : ac.tmps[9]? = some (.tuple #[.agg #[.slice a3_2 n3_2 c3_2, .bool m3_2, .slice d3_2 i3_2 j3_2], .bool false]) := (List.cons.inj e2).1
      clear hold hp hsz e2
      go_simp
      exact hK.out _ _ ⟨hB, Exists.intro a3_2 (Exists.intro n3_2 (Exists.intro c3_2 (Exists.intro m3_2 (Exists.intro d3_2 (Exists.intro i3_2 (Exists.intro j3_2 (And.intro rfl g2_0))))))), Nat.le_refl _, .inl (Below.refl _ _), fun h => absurd h (by decide)⟩
    refine Stps.cons (o := _) ?_ ?_
    · intro ac yw hsz hold hB hp K hK
      obtain ⟨a3_3, n3_3, c3_3, m3_3, d3_3, i3_3, j3_3, e3, g3_0⟩ := hp 3 (by decide)
      have t6 : ac.tmps[6]? = some (.tuple #[.agg #[.slice a3_3 n3_3 c3_3, .bool m3_3, .slice d3_3 i3_3 j3_3], .bool false]) := (List.cons.inj e3).1
      clear hold hp hsz e3
      go_simp
      exact hK.out _ _ ⟨hB, Exists.intro a3_3 (Exists.intro n3_3 (Exists.intro c3_3 (Exists.intro m3_3 (Exists.intro d3_3 (Exists.intro i3_3 (Exists.intro j3_3 (And.intro rfl g3_0))))))), Nat.le_refl _, .inl (Below.refl _ _), fun h => absurd h (by decide)⟩
    refine Stps.cons (o := _) ?_ ?_
    · intro ac yw hsz hold hB hp K hK
      obtain ⟨a3_3, n3_3, c3_3, m3_3, d3_3, i3_3, j3_3, e3, g3_0⟩ := hp 3 (by decide)
      have t6 : ac.tmps[6]? = some (.tuple #[.agg #[.slice a3_3 n3_3 c3_3, .bool m3_3, .slice d3_3 i3_3 j3_3], .bool false]) := (List.cons.inj e3).1
      clear hold hp hsz e3
      go_simp
      exact hK.out _ _ ⟨hB, rfl, Nat.le_refl _, .inl (Below.refl _ _), fun h => absurd h (by decide)⟩
    refine Stps.cons (o := _) ?_ ?_
    · intro ac yw hsz hold hB hp K hK
      clear hold hp hsz
      have hk0 := hB.now.1.lt
      have hsl := Slot3.new yw (.slice none 0 0) (.bool false) (.slice none 0 0) 60
      have hbz : Below yw.heap.size yw (yw.alloc (.cells #[.slice none 0 0, .bool false, .slice none 0 0] 60)) ∧ yw.heap.size < (yw.alloc (.cells #[.slice none 0 0, .bool false, .slice none 0 0] 60)).heap.size := ⟨(Below.refl _ _).alloc (Nat.le_refl _) _, by simp⟩
      go_simp
      exact hK.out _ _ ⟨hB.alloc _, Exists.intro yw.heap.size (Exists.intro none (Exists.intro 0 (Exists.intro 0 (Exists.intro false (Exists.intro none (Exists.intro 0 (Exists.intro 0 (And.intro rfl (And.intro hsl hk0))))))))), Nat.le_of_lt hbz.2, .inl hbz.1, fun _ => ⟨_, rfl, Nat.le_refl _, hbz.2⟩⟩
    refine Stps.cons (o := _) ?_ ?_
    · intro ac yw hsz hold hB hp K hK
      obtain ⟨k6_6, x0_6, y0_6, z0_6, b0_6, x1_6, y1_6, z1_6, e6, g6_0, g6_1⟩ := hp 6 (by decide)
      have t4 : ac.tmps[4]? = some (.pointer (some ⟨k6_6, 0, none⟩)) := (List.cons.inj e6).1
      obtain ⟨a3_4, n3_4, c3_4, m3_4, d3_4, i3_4, j3_4, e4, g4_0⟩ := hp 4 (by decide)
      have t10 : ac.tmps[10]? = some (.agg #[.slice a3_4 n3_4 c3_4, .bool m3_4, .slice d3_4 i3_4 j3_4]) := (List.cons.inj e4).1
      clear hold hp hsz e6 e4
      have hs := g6_0
      have l0 := hs.cell
      have l1 := hs.cell1
      have l2 := hs.cell2
      have f0 := hs.free
      have f1 := hs.free1
      have f2 := hs.free2
      have HB := HP.out _ _ hs g6_1 hB a3_4 n3_4 c3_4 m3_4 d3_4 i3_4 j3_4
      go_simp
      refine hK.out undef _ ⟨HB, Exists.intro k6_6 (Exists.intro a3_4 (Exists.intro n3_4 (Exists.intro c3_4 (Exists.intro m3_4 (Exists.intro d3_4 (Exists.intro i3_4 (Exists.intro j3_4 (And.intro (congrArg (fun x => [x]) t4) (And.intro (hs.set3 (.slice a3_4 n3_4 c3_4) (.bool m3_4) (.slice d3_4 i3_4 j3_4)) (RatAt.set3 g4_0 hs _ _ _)))))))))), by simp, .inr ?_, fun h => absurd h (by decide)⟩
      intro jj hj hap h
      match jj, h with
      | 0, ⟨a0, n0, c0, m0, d0, i0, j0, e0, g0_0⟩ =>
        exact Exists.intro a0 (Exists.intro n0 (Exists.intro c0 (Exists.intro m0 (Exists.intro d0 (Exists.intro i0 (Exists.intro j0 (And.intro e0 (RatAt.set3 g0_0 hs _ _ _))))))))
      | 1, h => exact h
      | 2, ⟨a3, n3, c3, m3, d3, i3, j3, e2, g2_0⟩ =>
        exact Exists.intro a3 (Exists.intro n3 (Exists.intro c3 (Exists.intro m3 (Exists.intro d3 (Exists.intro i3 (Exists.intro j3 (And.intro e2 (RatAt.set3 g2_0 hs _ _ _))))))))
      | 3, ⟨a3, n3, c3, m3, d3, i3, j3, e3, g3_0⟩ =>
        exact Exists.intro a3 (Exists.intro n3 (Exists.intro c3 (Exists.intro m3 (Exists.intro d3 (Exists.intro i3 (Exists.intro j3 (And.intro e3 (RatAt.set3 g3_0 hs _ _ _))))))))
      | 4, ⟨a3, n3, c3, m3, d3, i3, j3, e4, g4_0⟩ =>
        exact Exists.intro a3 (Exists.intro n3 (Exists.intro c3 (Exists.intro m3 (Exists.intro d3 (Exists.intro i3 (Exists.intro j3 (And.intro e4 (RatAt.set3 g4_0 hs _ _ _))))))))
      | 5, h => exact h
      | 6, ⟨k6, x0, y0, z0, b0, x1, y1, z1, e6, g6_0, g6_1⟩ =>
        have e9 : k6 = k6_6 := by have := (List.cons.inj e6).1.symm.trans t4; cases this; rfl
        subst e9
        exact Exists.intro _ (Exists.intro _ (Exists.intro _ (Exists.intro _ (Exists.intro _ (Exists.intro _ (Exists.intro _ (Exists.intro _ (And.intro e6 (And.intro (g6_0.set3 _ _ _) g6_1)))))))))
      | 7, _ => exact absurd rfl hj
      | 8, h => exact h
      | _ + 9, h => exact h
    refine Stps.cons (o := _) ?_ ?_
    · intro ac yw hsz hold hB hp K hK
      have e5 := hp 5 (by decide)
      have t11 : ac.tmps[11]? = some (.bool false) := (List.cons.inj e5).1
      clear hold hp hsz e5
      go_simp
      exact hK.out _ _ ⟨hB, rfl, Nat.le_refl _, .inl (Below.refl _ _), fun h => absurd h (by decide)⟩
    exact Stps.nil _
  · have BY : Hid (∀ b k l v b2 k2 l2 wz, RatAt wz b k l v b2 k2 l2 1 1 → RatAt wz a n c m a2 n2 c2 P Q → Calls Tryz.prog 160 #[.agg #[.slice b k l, .bool v, .slice b2 k2 l2], .agg #[.slice a n c, .bool m, .slice a2 n2 c2]] wz fun e w' => RatTold3 wz w' e (upZ Q P) P.natAbs true) := Lib.hid (fun b k l v b2 k2 l2 wz g h => by
      have := by_some b k l v b2 k2 l2 1 1 a n c m a2 n2 c2 P Q wz g h (by decide) hQ hP (K + 1) (by omega) hone hone hP1 hQ1
      have e1 : nwP (1 * (Q : Int)) (P * ((1 : Nat) : Int)) = upZ Q P ∧ nwQ (1 * (Q : Int)) (P * ((1 : Nat) : Int)) = P.natAbs := by
        rw [Int.one_mul, show P * ((1 : Nat) : Int) = P from Int.mul_one P]
        unfold nwP nwQ
        refine lo_one ?_
        rw [upZ_abs, Int.natAbs_natCast, Nat.gcd_comm]
        exact hg
      rw [e1.1, e1.2] at this
      exact this)
    rw [if_neg hP, if_neg hP, if_neg hP]
    unfold RatTold3 at BY
    have FR := Lib.hid (fun wz => ratFrom_any 1 wz (by omega))
    generalize upZ Q P = UP at BY ⊢
    obtain ⟨PN, hPN⟩ : ∃ z, P.natAbs = z := ⟨_, rfl⟩
    rw [hPN] at BY ⊢
    have BB := Lib.hid ((((Bag.start w).rat h).box3 (.slice a n c) (.bool m) (.slice a2 n2 c2) 60).box3 (.slice none 0 0) (.bool false) (.slice none 0 0) 60)
    simp only [World.size_alloc] at BB
    have HR := Lib.hid h
    clear h hQ hg h1 h2 hone hQ1 hP1 hP
    go_enter Tryz.func122, Tryz.ntmps122
    go_wp2_with fail
    have HP : Hid (∀ (y : World) (k : Nat) {x0 : Option Addr} {y0 z0 : Nat} {b0 : Bool} {x1 : Option Addr} {y1 z1 : Nat}, Slot3 y k (.slice x0 y0 z0) (.bool b0) (.slice x1 y1 z1) → w.heap.size + 1 < k → Bag w (fun y => Slot3 y (w.heap.size + 1) (.slice none 0 0) (.bool false) (.slice none 0 0) ∧ Slot3 y w.heap.size (.slice a n c) (.bool m) (.slice a2 n2 c2) ∧ RatAt y a n c m a2 n2 c2 P Q ∧ True) y → ∀ (a9 : Option Addr) (n9 c9 : Nat) (m9 : Bool) (a10 : Option Addr) (n10 c10 : Nat), Bag w (fun y => Slot3 y (w.heap.size + 1) (.slice none 0 0) (.bool false) (.slice none 0 0) ∧ Slot3 y w.heap.size (.slice a n c) (.bool m) (.slice a2 n2 c2) ∧ RatAt y a n c m a2 n2 c2 P Q ∧ True) (((y.setCell ⟨k, 0, none⟩ (.slice a9 n9 c9)).setCell ⟨k, 1, none⟩ (.bool m9)).setCell ⟨k, 2, none⟩ (.slice a10 n10 c10))) := by
      intro y k x0 y0 z0 b0 x1 y1 z1 s hk B a9 n9 c9 m9 a10 n10 c10
      have q := B.now
      exact ⟨((B.below.setCell (p := ⟨k, 0, none⟩) (show w.heap.size ≤ k by omega) _).setCell (p := ⟨k, 1, none⟩) (show w.heap.size ≤ k by omega) _).setCell (p := ⟨k, 2, none⟩) (show w.heap.size ≤ k by omega) _, B.stay, q.1.set3o (by omega) _ _ _, q.2.1.set3o (by omega) _ _ _, q.2.2.1.set3 s _ _ _, trivial⟩
    refine wp_region_inv ⟨(fun j => ([[7], [8], [9], [6], [10], [11], [4], [4], [5]] : List (List Nat)).getD j []), (fun j => ([[], [], [0, 1], [0, 1, 2], [0, 1, 2, 3], [0, 1, 2, 3], [], [0, 1, 2, 3, 4, 6], [0, 1, 2, 3, 4, 5, 6, 7]] : List (List Nat)).getD j []), [6]⟩ (fun jj vv yy => match jj with | 0 => ∃ (a0 : Option Addr), ∃ (n0 : Nat), ∃ (c0 : Nat), ∃ (m0 : Bool), ∃ (d0 : Option Addr), ∃ (i0 : Nat), ∃ (j0 : Nat), vv = [some (.agg #[.slice a0 n0 c0, .bool m0, .slice d0 i0 j0])] ∧ RatAt yy a0 n0 c0 m0 d0 i0 j0 1 1 | 1 => vv = [some (.agg #[.slice a n c, .bool m, .slice a2 n2 c2])] | 2 => ∃ (a3 : Option Addr), ∃ (n3 : Nat), ∃ (c3 : Nat), ∃ (m3 : Bool), ∃ (d3 : Option Addr), ∃ (i3 : Nat), ∃ (j3 : Nat), vv = [some (.tuple #[.agg #[.slice a3 n3 c3, .bool m3, .slice d3 i3 j3], .bool true])] ∧ RatAt yy a3 n3 c3 m3 d3 i3 j3 UP PN | 3 => ∃ (a3 : Option Addr), ∃ (n3 : Nat), ∃ (c3 : Nat), ∃ (m3 : Bool), ∃ (d3 : Option Addr), ∃ (i3 : Nat), ∃ (j3 : Nat), vv = [some (.tuple #[.agg #[.slice a3 n3 c3, .bool m3, .slice d3 i3 j3], .bool true])] ∧ RatAt yy a3 n3 c3 m3 d3 i3 j3 UP PN | 4 => ∃ (a3 : Option Addr), ∃ (n3 : Nat), ∃ (c3 : Nat), ∃ (m3 : Bool), ∃ (d3 : Option Addr), ∃ (i3 : Nat), ∃ (j3 : Nat), vv = [some (.agg #[.slice a3 n3 c3, .bool m3, .slice d3 i3 j3])] ∧ RatAt yy a3 n3 c3 m3 d3 i3 j3 UP PN | 5 => vv = [some (.bool true)] | 6 => ∃ (k6 : Nat), ∃ (x0 : Option Addr), ∃ (y0 : Nat), ∃ (z0 : Nat), ∃ (b0 : Bool), ∃ (x1 : Option Addr), ∃ (y1 : Nat), ∃ (z1 : Nat), vv = [some (.pointer (some ⟨k6, 0, none⟩))] ∧ Slot3 yy k6 (.slice x0 y0 z0) (.bool b0) (.slice x1 y1 z1) ∧ w.heap.size + 1 < k6 | 7 => ∃ (k6 : Nat), ∃ (a3 : Option Addr), ∃ (n3 : Nat), ∃ (c3 : Nat), ∃ (m3 : Bool), ∃ (d3 : Option Addr), ∃ (i3 : Nat), ∃ (j3 : Nat), vv = [some (.pointer (some ⟨k6, 0, none⟩))] ∧ Slot3 yy k6 (.slice a3 n3 c3) (.bool m3) (.slice d3 i3 j3) ∧ RatAt yy a3 n3 c3 m3 d3 i3 j3 UP PN | 8 => vv = [some (.bool true)] | _ => True) (Bag w (fun y => Slot3 y (w.heap.size + 1) (.slice none 0 0) (.bool false) (.slice none 0 0) ∧ Slot3 y w.heap.size (.slice a n c) (.bool m) (.slice a2 n2 c2) ∧ RatAt y a n c m a2 n2 c2 P Q ∧ True)) (by kernel_rfl) (by kernel_rfl) (by kernel_rfl) BB.out.drew ?_ ?_ ?_
    · intro jj vv yw yw2 hb h
      match jj, h with
      | 0, ⟨a0, n0, c0, m0, d0, i0, j0, e0, g0_0⟩ => exact Exists.intro a0 (Exists.intro n0 (Exists.intro c0 (Exists.intro m0 (Exists.intro d0 (Exists.intro i0 (Exists.intro j0 (And.intro e0 (g0_0.below hb))))))))
      | 1, h => exact h
      | 2, ⟨a3, n3, c3, m3, d3, i3, j3, e2, g2_0⟩ => exact Exists.intro a3 (Exists.intro n3 (Exists.intro c3 (Exists.intro m3 (Exists.intro d3 (Exists.intro i3 (Exists.intro j3 (And.intro e2 (g2_0.below hb))))))))
      | 3, ⟨a3, n3, c3, m3, d3, i3, j3, e3, g3_0⟩ => exact Exists.intro a3 (Exists.intro n3 (Exists.intro c3 (Exists.intro m3 (Exists.intro d3 (Exists.intro i3 (Exists.intro j3 (And.intro e3 (g3_0.below hb))))))))
      | 4, ⟨a3, n3, c3, m3, d3, i3, j3, e4, g4_0⟩ => exact Exists.intro a3 (Exists.intro n3 (Exists.intro c3 (Exists.intro m3 (Exists.intro d3 (Exists.intro i3 (Exists.intro j3 (And.intro e4 (g4_0.below hb))))))))
      | 5, h => exact h
      | 6, ⟨k6, x0, y0, z0, b0, x1, y1, z1, e6, g6_0, g6_1⟩ => exact Exists.intro k6 (Exists.intro x0 (Exists.intro y0 (Exists.intro z0 (Exists.intro b0 (Exists.intro x1 (Exists.intro y1 (Exists.intro z1 (And.intro e6 (And.intro (g6_0.below hb) g6_1)))))))))
      | 7, ⟨k6, a3, n3, c3, m3, d3, i3, j3, e7, g7_0, g7_1⟩ => exact Exists.intro k6 (Exists.intro a3 (Exists.intro n3 (Exists.intro c3 (Exists.intro m3 (Exists.intro d3 (Exists.intro i3 (Exists.intro j3 (And.intro e7 (And.intro (g7_0.below hb) (g7_1.below hb))))))))))
      | 8, h => exact h
      | _ + 9, h => exact h
    · intro ac yw hsz hdf hold hB hp
      obtain ⟨k6, a3, n3, c3, m3, d3, i3, j3, e7, sA, hr3⟩ := hp 7 (by decide)
      have t4 : ac.tmps[4]? = some (.pointer (some ⟨k6, 0, none⟩)) := (List.cons.inj e7).1
      have t5 : ac.tmps[5]? = some (.bool true) := (List.cons.inj (hp 8 (by decide))).1
      have t2 : ac.tmps[2]? = some (.pointer (some ⟨w.heap.size + 1, 0, none⟩)) := hold 2 (by kernel_rfl)
      clear hold hp e7
      obtain ⟨F, hF⟩ : ∃ F : Nat → Value, ∀ i, (ac.tmps[i]?).getD undef = F i := ⟨_, fun _ => rfl⟩
      have f2 := (hF 2).symm.trans (congrArg (fun x => Option.getD x undef) t2)
      have f4 := (hF 4).symm.trans (congrArg (fun x => Option.getD x undef) t4)
      have f5 := (hF 5).symm.trans (congrArg (fun x => Option.getD x undef) t5)
      have hac := act_eq (n := 16) hsz F hF
      rw [show ((List.range 16).map F).toArray = #[F 0, F 1, F 2, F 3, F 4, F 5, F 6, F 7, F 8, F 9, F 10, F 11, F 12, F 13, F 14, F 15] from rfl, f2, f4, f5, hdf] at hac
      simp only [Option.getD_some] at hac
      subst hac
      clear hF f2 f4 f5
      have BB := Lib.hid ((hB.slot3 sA).rat hr3)
      clear hB sA HP t2 t4 t5 FR BY
      have q0 := BB.out.now.2.1.cell
      have q1 := BB.out.now.2.1.cell1
      have q2 := BB.out.now.2.1.cell2
      have hs := BB.out.now.2.2.1
      have u0 := hs.cell
      have u1 := hs.cell1
      have u2 := hs.cell2
      have g0 := hs.free
      have g1 := hs.free1
      have g2 := hs.free2
      have HS := hs.set (.slice a3 n3 c3) (.bool m3) (.slice d3 i3 j3)
      have HE := Lib.hid (RatTold4.done 0 BB.out.below (by omega) hs BB.out.now.1)
      clear hs
      go_wp2
      exact bodyPost_ret (v := .tuple #[.agg #[.slice a3 n3 c3, .bool m3, .slice d3 i3 j3], .int .i64 0]) (by simp [results, Tryz.results122, go_sem, HS]) rfl HE.out
    refine Stps.cons (o := _) ?_ ?_
    · intro ac yw hsz hold hB hp K hK
      clear hold hp hsz
      go_simp
      (go_at_call 33; (with_reducible refine (FR.out _).mono ?_); rintro e wz ⟨a0, n0, c0, m0, d0, i0, j0, rfl, h0_0, hbz⟩)
      exact hK.out _ _ ⟨hB.go hbz, Exists.intro a0 (Exists.intro n0 (Exists.intro c0 (Exists.intro m0 (Exists.intro d0 (Exists.intro i0 (Exists.intro j0 (And.intro rfl h0_0))))))), hbz.size, .inl hbz, fun h => absurd h (by decide)⟩
    refine Stps.cons (o := _) ?_ ?_
    · intro ac yw hsz hold hB hp K hK
      have t1 : ac.tmps[1]? = some (.pointer (some ⟨w.heap.size, 0, none⟩)) := hold 1 (by kernel_rfl)
      clear hold hp hsz
      have v0 := hB.now.2.1.cell
      have v1 := hB.now.2.1.cell1
      have v2 := hB.now.2.1.cell2
      go_simp
      exact hK.out _ _ ⟨hB, rfl, Nat.le_refl _, .inl (Below.refl _ _), fun h => absurd h (by decide)⟩
    refine Stps.cons (o := _) ?_ ?_
    · intro ac yw hsz hold hB hp K hK
      obtain ⟨a0_0, n0_0, c0_0, m0_0, d0_0, i0_0, j0_0, e0, g0_0⟩ := hp 0 (by decide)
      have t7 : ac.tmps[7]? = some (.agg #[.slice a0_0 n0_0 c0_0, .bool m0_0, .slice d0_0 i0_0 j0_0]) := (List.cons.inj e0).1
      have e1 := hp 1 (by decide)
      have t8 : ac.tmps[8]? = some (.agg #[.slice a n c, .bool m, .slice a2 n2 c2]) := (List.cons.inj e1).1
      clear hold hp hsz e0 e1
      go_simp
      (go_at_call 160; (with_reducible refine (BY.out _ _ _ _ _ _ _ _ g0_0 hB.now.2.2.1).mono ?_); rintro e wz ⟨a3, n3, c3, m3, d3, i3, j3, rfl, h2_0, hbz⟩)
      exact hK.out _ _ ⟨hB.go hbz, Exists.intro a3 (Exists.intro n3 (Exists.intro c3 (Exists.intro m3 (Exists.intro d3 (Exists.intro i3 (Exists.intro j3 (And.intro rfl h2_0))))))), hbz.size, .inl hbz, fun h => absurd h (by decide)⟩
    refine Stps.cons (o := _) ?_ ?_
    · intro ac yw hsz hold hB hp K hK
      obtain ⟨a3_2, n3_2, c3_2, m3_2, d3_2, i3_2, j3_2, e2, g2_0⟩ := hp 2 (by decide)
      have t9 : ac.tmps[9]? = some (.tuple #[.agg #[.slice a3_2 n3_2 c3_2, .bool m3_2, .slice d3_2 i3_2 j3_2], .bool true]) := (List.cons.inj e2).1
      clear hold hp hsz e2
      go_simp
      exact hK.out _ _ ⟨hB, Exists.intro a3_2 (Exists.intro n3_2 (Exists.intro c3_2 (Exists.intro m3_2 (Exists.intro d3_2 (Exists.intro i3_2 (Exists.intro j3_2 (And.intro rfl g2_0))))))), Nat.le_refl _, .inl (Below.refl _ _), fun h => absurd h (by decide)⟩
    refine Stps.cons (o := _) ?_ ?_
    · intro ac yw hsz hold hB hp K hK
      obtain ⟨a3_3, n3_3, c3_3, m3_3, d3_3, i3_3, j3_3, e3, g3_0⟩ := hp 3 (by decide)
      have t6 : ac.tmps[6]? = some (.tuple #[.agg #[.slice a3_3 n3_3 c3_3, .bool m3_3, .slice d3_3 i3_3 j3_3], .bool true]) := (List.cons.inj e3).1
      clear hold hp hsz e3
      go_simp
      exact hK.out _ _ ⟨hB, Exists.intro a3_3 (Exists.intro n3_3 (Exists.intro c3_3 (Exists.intro m3_3 (Exists.intro d3_3 (Exists.intro i3_3 (Exists.intro j3_3 (And.intro rfl g3_0))))))), Nat.le_refl _, .inl (Below.refl _ _), fun h => absurd h (by decide)⟩
    refine Stps.cons (o := _) ?_ ?_
    · intro ac yw hsz hold hB hp K hK
      obtain ⟨a3_3, n3_3, c3_3, m3_3, d3_3, i3_3, j3_3, e3, g3_0⟩ := hp 3 (by decide)
      have t6 : ac.tmps[6]? = some (.tuple #[.agg #[.slice a3_3 n3_3 c3_3, .bool m3_3, .slice d3_3 i3_3 j3_3], .bool true]) := (List.cons.inj e3).1
      clear hold hp hsz e3
      go_simp
      exact hK.out _ _ ⟨hB, rfl, Nat.le_refl _, .inl (Below.refl _ _), fun h => absurd h (by decide)⟩
    refine Stps.cons (o := _) ?_ ?_
    · intro ac yw hsz hold hB hp K hK
      clear hold hp hsz
      have hk0 := hB.now.1.lt
      have hsl := Slot3.new yw (.slice none 0 0) (.bool false) (.slice none 0 0) 60
      have hbz : Below yw.heap.size yw (yw.alloc (.cells #[.slice none 0 0, .bool false, .slice none 0 0] 60)) ∧ yw.heap.size < (yw.alloc (.cells #[.slice none 0 0, .bool false, .slice none 0 0] 60)).heap.size := ⟨(Below.refl _ _).alloc (Nat.le_refl _) _, by simp⟩
      go_simp
      exact hK.out _ _ ⟨hB.alloc _, Exists.intro yw.heap.size (Exists.intro none (Exists.intro 0 (Exists.intro 0 (Exists.intro false (Exists.intro none (Exists.intro 0 (Exists.intro 0 (And.intro rfl (And.intro hsl hk0))))))))), Nat.le_of_lt hbz.2, .inl hbz.1, fun _ => ⟨_, rfl, Nat.le_refl _, hbz.2⟩⟩
    refine Stps.cons (o := _) ?_ ?_
    · intro ac yw hsz hold hB hp K hK
      obtain ⟨k6_6, x0_6, y0_6, z0_6, b0_6, x1_6, y1_6, z1_6, e6, g6_0, g6_1⟩ := hp 6 (by decide)
      have t4 : ac.tmps[4]? = some (.pointer (some ⟨k6_6, 0, none⟩)) := (List.cons.inj e6).1
      obtain ⟨a3_4, n3_4, c3_4, m3_4, d3_4, i3_4, j3_4, e4, g4_0⟩ := hp 4 (by decide)
      have t10 : ac.tmps[10]? = some (.agg #[.slice a3_4 n3_4 c3_4, .bool m3_4, .slice d3_4 i3_4 j3_4]) := (List.cons.inj e4).1
      clear hold hp hsz e6 e4
      have hs := g6_0
      have l0 := hs.cell
      have l1 := hs.cell1
      have l2 := hs.cell2
      have f0 := hs.free
      have f1 := hs.free1
      have f2 := hs.free2
      have HB := HP.out _ _ hs g6_1 hB a3_4 n3_4 c3_4 m3_4 d3_4 i3_4 j3_4
      go_simp
      refine hK.out undef _ ⟨HB, Exists.intro k6_6 (Exists.intro a3_4 (Exists.intro n3_4 (Exists.intro c3_4 (Exists.intro m3_4 (Exists.intro d3_4 (Exists.intro i3_4 (Exists.intro j3_4 (And.intro (congrArg (fun x => [x]) t4) (And.intro (hs.set3 (.slice a3_4 n3_4 c3_4) (.bool m3_4) (.slice d3_4 i3_4 j3_4)) (RatAt.set3 g4_0 hs _ _ _)))))))))), by simp, .inr ?_, fun h => absurd h (by decide)⟩
      intro jj hj hap h
      match jj, h with
      | 0, ⟨a0, n0, c0, m0, d0, i0, j0, e0, g0_0⟩ =>
        exact Exists.intro a0 (Exists.intro n0 (Exists.intro c0 (Exists.intro m0 (Exists.intro d0 (Exists.intro i0 (Exists.intro j0 (And.intro e0 (RatAt.set3 g0_0 hs _ _ _))))))))
      | 1, h => exact h
      | 2, ⟨a3, n3, c3, m3, d3, i3, j3, e2, g2_0⟩ =>
        exact Exists.intro a3 (Exists.intro n3 (Exists.intro c3 (Exists.intro m3 (Exists.intro d3 (Exists.intro i3 (Exists.intro j3 (And.intro e2 (RatAt.set3 g2_0 hs _ _ _))))))))
      | 3, ⟨a3, n3, c3, m3, d3, i3, j3, e3, g3_0⟩ =>
        exact Exists.intro a3 (Exists.intro n3 (Exists.intro c3 (Exists.intro m3 (Exists.intro d3 (Exists.intro i3 (Exists.intro j3 (And.intro e3 (RatAt.set3 g3_0 hs _ _ _))))))))
      | 4, ⟨a3, n3, c3, m3, d3, i3, j3, e4, g4_0⟩ =>
        exact Exists.intro a3 (Exists.intro n3 (Exists.intro c3 (Exists.intro m3 (Exists.intro d3 (Exists.intro i3 (Exists.intro j3 (And.intro e4 (RatAt.set3 g4_0 hs _ _ _))))))))
      | 5, h => exact h
      | 6, ⟨k6, x0, y0, z0, b0, x1, y1, z1, e6, g6_0, g6_1⟩ =>
        have e9 : k6 = k6_6 := by have := (List.cons.inj e6).1.symm.trans t4; cases this; rfl
        subst e9
        exact Exists.intro _ (Exists.intro _ (Exists.intro _ (Exists.intro _ (Exists.intro _ (Exists.intro _ (Exists.intro _ (Exists.intro _ (And.intro e6 (And.intro (g6_0.set3 _ _ _) g6_1)))))))))
      | 7, _ => exact absurd rfl hj
      | 8, h => exact h
      | _ + 9, h => exact h
    refine Stps.cons (o := _) ?_ ?_
    · intro ac yw hsz hold hB hp K hK
      have e5 := hp 5 (by decide)
      have t11 : ac.tmps[11]? = some (.bool true) := (List.cons.inj e5).1
      clear hold hp hsz e5
      go_simp
      exact hK.out _ _ ⟨hB, rfl, Nat.le_refl _, .inl (Below.refl _ _), fun h => absurd h (by decide)⟩
    exact Stps.nil _
set_option maxHeartbeats 3200000 in
set_option maxRecDepth 100000 in
theorem mhas_any (c : Int) (w : World) : Calls Tryz.prog 27 #[.int .i32 c] w fun e w' => e = .returned (.bool (hasB c)) ∧ Below w.heap.size w w' := by
  have HE := Lib.hid (Below.refl w.heap.size w)
  by_cases h : (c = 43 ∨ c = 45 ∨ c = 124 ∨ c = 42 ∨ c = 33 ∨ c = 126 ∨ c = 215 ∨ c = 247 ∨ c = 8968 ∨ c = 8970 ∨ c = 9055 ∨ c = 9675)
  · rw [show hasB c = true from decide_eq_true h]
    rcases h with rfl | rfl | rfl | rfl | rfl | rfl | rfl | rfl | rfl | rfl | rfl | rfl
    all_goals
      go_enter Tryz.func27, Tryz.ntmps27
      go_wp2
      go_ret
      exact ⟨rfl, HE.out⟩
  · rw [show hasB c = false from decide_eq_false h]
    have hh : (c == 43) = false ∧ (c == 45) = false ∧ (c == 124) = false ∧ (c == 42) = false ∧ (c == 33) = false ∧ (c == 126) = false ∧ (c == 215) = false ∧ (c == 247) = false ∧ (c == 8968) = false ∧ (c == 8970) = false ∧ (c == 9055) = false ∧ (c == 9675) = false := by
      refine ⟨?_, ?_, ?_, ?_, ?_, ?_, ?_, ?_, ?_, ?_, ?_, ?_⟩ <;> (rw [beq_eq_false_iff_ne]; omega)
    obtain ⟨h43, h45, h124, h42, h33, h126, h215, h247, h8968, h8970, h9055, h9675⟩ := hh
    clear h
    go_enter Tryz.func27, Tryz.ntmps27
    go_wp2
    go_ret
    exact ⟨rfl, HE.out⟩
set_option maxHeartbeats 3200000 in
set_option maxRecDepth 100000 in
theorem mfac_no (a : Option Addr) (n c : Nat) (m : Bool) (a2 : Option Addr) (n2 c2 : Nat) (P : Int) (Q : Nat) (l : Int) (w : World) (h : RatAt w a n c m a2 n2 c2 P Q) (hQ : 0 < Q) (hn : ¬ (Q = 1 ∧ 0 ≤ P)) :
    Calls Tryz.prog 126 #[.agg #[.slice a n c, .bool m, .slice a2 n2 c2], .int .i64 l] w fun e w' => RatTold4 w w' e 0 1 22 := by
  have IW := Lib.hid (fun wz hz => isWhole_any a n c m a2 n2 c2 P Q wz hz hQ)
  have SG := Lib.hid (fun wz h => ratSign_any a n c m a2 n2 c2 P Q wz h)
  by_cases h1 : Q = 1
  · rw [decide_eq_true h1] at IW
    have dS : decide (sgnI P < 0) = true := by
      have : P < 0 := by omega
      unfold sgnI
      simp [this]
    obtain ⟨sg, hsg⟩ : ∃ z, sgnI P = z := ⟨_, rfl⟩
    rw [hsg] at SG dS
    clear hsg
    have BB := Lib.hid ((((Bag.start w).rat h).box3 (.slice a n c) (.bool m) (.slice a2 n2 c2) 60).box3 (.slice none 0 0) (.bool false) (.slice none 0 0) 60)
    simp only [World.size_alloc] at BB
    have q0 := BB.out.now.2.1.cell
    have q1 := BB.out.now.2.1.cell1
    have q2 := BB.out.now.2.1.cell2
    clear h hn hQ h1
    go_enter Tryz.func126, Tryz.ntmps126
    go_wp2_with fail
    go_at_call 80
    (with_reducible refine (IW.out _ BB.out.now.2.2.1).mono ?_)
    rintro e w2 ⟨rfl, hb2⟩
    have BB := Lib.hid (BB.out.go hb2)
    clear hb2
    have q0 := BB.out.now.2.1.cell
    have q1 := BB.out.now.2.1.cell1
    have q2 := BB.out.now.2.1.cell2
    go_wp2_with fail
    go_at_call 29
    (with_reducible refine (SG.out _ BB.out.now.2.2.1).mono ?_)
    rintro e w3 ⟨rfl, hb3⟩
    have BB := Lib.hid (BB.out.go hb3)
    clear hb3
    have hs := BB.out.now.1
    have u0 := hs.cell
    have u1 := hs.cell1
    have u2 := hs.cell2
    have g0 := hs.free
    have g1 := hs.free1
    have g2 := hs.free2
    have HS := hs.set (.slice none 0 0) (.bool false) (.slice none 0 0)
    have HE := Lib.hid (RatTold4.done 22 BB.out.below (by omega) hs (RatAt.zero _))
    clear hs
    go_wp2
    exact bodyPost_ret (v := .tuple #[.agg #[.slice none 0 0, .bool false, .slice none 0 0], .int .i64 22]) (by simp [results, Tryz.results126, go_sem, HS]) rfl HE.out
  · rw [decide_eq_false h1] at IW
    clear SG
    have BB := Lib.hid ((((Bag.start w).rat h).box3 (.slice a n c) (.bool m) (.slice a2 n2 c2) 60).box3 (.slice none 0 0) (.bool false) (.slice none 0 0) 60)
    simp only [World.size_alloc] at BB
    have q0 := BB.out.now.2.1.cell
    have q1 := BB.out.now.2.1.cell1
    have q2 := BB.out.now.2.1.cell2
    clear h hn hQ h1
    go_enter Tryz.func126, Tryz.ntmps126
    go_wp2_with fail
    go_at_call 80
    (with_reducible refine (IW.out _ BB.out.now.2.2.1).mono ?_)
    rintro e w2 ⟨rfl, hb2⟩
    have BB := Lib.hid (BB.out.go hb2)
    clear hb2
    have hs := BB.out.now.1
    have u0 := hs.cell
    have u1 := hs.cell1
    have u2 := hs.cell2
    have g0 := hs.free
    have g1 := hs.free1
    have g2 := hs.free2
    have HS := hs.set (.slice none 0 0) (.bool false) (.slice none 0 0)
    have HE := Lib.hid (RatTold4.done 22 BB.out.below (by omega) hs (RatAt.zero _))
    clear hs
    go_wp2
    exact bodyPost_ret (v := .tuple #[.agg #[.slice none 0 0, .bool false, .slice none 0 0], .int .i64 22]) (by simp [results, Tryz.results126, go_sem, HS]) rfl HE.out
set_option maxHeartbeats 3200000 in
set_option maxRecDepth 100000 in
theorem mfac_far (a : Option Addr) (n c : Nat) (m : Bool) (a2 : Option Addr) (n2 c2 : Nat) (P : Int) (Q : Nat) (l : Int) (w : World) (h : RatAt w a n c m a2 n2 c2 P Q) (hQ : Q = 1) (hP : 18446744073709551616 ≤ P) :
    Calls Tryz.prog 126 #[.agg #[.slice a n c, .bool m, .slice a2 n2 c2], .int .i64 l] w fun e w' => RatTold4 w w' e 0 1 26 := by
  have hg0 : ¬ P < 0 := by omega
  have IW := Lib.hid (fun wz hz => isWhole_any a n c m a2 n2 c2 P Q wz hz (by omega))
  rw [decide_eq_true hQ] at IW
  have SG := Lib.hid (fun wz h => ratSign_any a n c m a2 n2 c2 P Q wz h)
  have dS : decide (sgnI P < 0) = false := by
    unfold sgnI
    rw [if_neg hg0]
    split <;> simp
  obtain ⟨sg, hsg⟩ : ∃ z, sgnI P = z := ⟨_, rfl⟩
  rw [hsg] at SG dS
  have TP := Lib.hid (fun wz h => top_any a n c m a2 n2 c2 P Q wz h)
  have hfd : ∀ wz : World, (Instr.field 58 (.agg #[.slice a n c, .bool m]) 0).run Tryz.prog wz = .ok (.agg #[.slice a n c]) wz := fun _ => by kernel_rfl
  have UI := Lib.hid (fun wz h => uint_any (.agg #[.slice a n c]) P.natAbs wz h)
  unfold UintOut at UI
  rw [if_neg (by omega), decide_eq_false (by omega)] at UI
  have BB := Lib.hid ((((Bag.start w).rat h).box3 (.slice a n c) (.bool m) (.slice a2 n2 c2) 60).box3 (.slice none 0 0) (.bool false) (.slice none 0 0) 60)
  simp only [World.size_alloc] at BB
  have q0 := BB.out.now.2.1.cell
  have q1 := BB.out.now.2.1.cell1
  have q2 := BB.out.now.2.1.cell2
  clear h hQ hP hsg hg0
  go_enter Tryz.func126, Tryz.ntmps126
  go_wp2_with fail
  go_at_call 80
  (with_reducible refine (IW.out _ BB.out.now.2.2.1).mono ?_)
  rintro e w2 ⟨rfl, hb2⟩
  have BB := Lib.hid (BB.out.go hb2)
  clear hb2
  have q0 := BB.out.now.2.1.cell
  have q1 := BB.out.now.2.1.cell1
  have q2 := BB.out.now.2.1.cell2
  go_wp2_with fail
  go_at_call 29
  (with_reducible refine (SG.out _ BB.out.now.2.2.1).mono ?_)
  rintro e w3 ⟨rfl, hb3⟩
  have BB := Lib.hid (BB.out.go hb3)
  clear hb3
  have q0 := BB.out.now.2.1.cell
  have q1 := BB.out.now.2.1.cell1
  have q2 := BB.out.now.2.1.cell2
  go_wp2_with fail
  go_at_call 162
  (with_reducible refine (TP.out _ BB.out.now.2.2.1).mono ?_)
  rintro e w4 ⟨rfl, hi4, hb4⟩
  have BB := Lib.hid (BB.out.go hb4)
  clear hb4 hi4
  go_wp2_with fail
  go_at_call 163
  (with_reducible refine (UI.out _ BB.out.now.2.2.1.int.nt).mono ?_)
  rintro e w5 ⟨rfl, hb5⟩
  have BB := Lib.hid (BB.out.go hb5)
  clear hb5
  have hs := BB.out.now.1
  have u0 := hs.cell
  have u1 := hs.cell1
  have u2 := hs.cell2
  have g0 := hs.free
  have g1 := hs.free1
  have g2 := hs.free2
  have HS := hs.set (.slice none 0 0) (.bool false) (.slice none 0 0)
  have HE := Lib.hid (RatTold4.done 26 BB.out.below (by omega) hs (RatAt.zero _))
  clear hs
  go_wp2
  exact bodyPost_ret (v := .tuple #[.agg #[.slice none 0 0, .bool false, .slice none 0 0], .int .i64 26]) (by simp [results, Tryz.results126, go_sem, HS]) rfl HE.out
set_option maxHeartbeats 3200000 in
set_option maxRecDepth 100000 in
theorem mfac_some (a : Option Addr) (n c : Nat) (m : Bool) (a2 : Option Addr) (n2 c2 : Nat) (P : Int) (Q : Nat) (l : Int) (w : World) (h : RatAt w a n c m a2 n2 c2 P Q) (hQ : Q = 1) (hP : 0 ≤ P ∧ P < 18446744073709551616) (hl : l ≤ 64) :
    Calls Tryz.prog 126 #[.agg #[.slice a n c, .bool m, .slice a2 n2 c2], .int .i64 l] w fun e w' => ∃ k, k ≤ P.toNat ∧ (k = P.toNat ∨ l < lbs (fac k)) ∧ RatTold4 w w' e (fac k : Nat) 1 0 := by
  have hg0 : ¬ P < 0 := by omega
  have IW := Lib.hid (fun wz hz => isWhole_any a n c m a2 n2 c2 P Q wz hz (by omega))
  rw [decide_eq_true hQ] at IW
  have SG := Lib.hid (fun wz h => ratSign_any a n c m a2 n2 c2 P Q wz h)
  have dS : decide (sgnI P < 0) = false := by
    unfold sgnI
    rw [if_neg hg0]
    split <;> simp
  obtain ⟨sg, hsg⟩ : ∃ z, sgnI P = z := ⟨_, rfl⟩
  rw [hsg] at SG dS
  have TP := Lib.hid (fun wz h => top_any a n c m a2 n2 c2 P Q wz h)
  have hfd : ∀ wz : World, (Instr.field 58 (.agg #[.slice a n c, .bool m]) 0).run Tryz.prog wz = .ok (.agg #[.slice a n c]) wz := fun _ => by kernel_rfl
  have UI := Lib.hid (fun wz h => uint_any (.agg #[.slice a n c]) P.natAbs wz h)
  unfold UintOut at UI
  obtain ⟨N, hN⟩ : ∃ N : Nat, P.toNat = N := ⟨_, rfl⟩
  have hN2 : P.natAbs = N := by omega
  have hN3 : N < 18446744073709551616 := by omega
  rw [hN2, if_pos hN3, decide_eq_true hN3] at UI
  rw [hN]
  have ON : Hid (∀ wz, Calls Tryz.prog 113 #[.int .u64 1] wz fun e w' => NatTold wz w' e 1) := Lib.hid (fun wz => of_told 1 wz (by omega))
  have LI := Lib.hid (fun a n c k wz (h : NatIs wz (.agg #[.slice a n c]) (fac k)) => limbs_bits _ (fac k) wz h)
  unfold LimbsOut at LI
  have OF1 := Lib.hid (fun k (hk : k ≤ 3000) wz => of_told k wz (by omega))
  have MU := Lib.hid (fun a n c a2 n2 c2 k wz (h : NatIs wz (.agg #[.slice a n c]) (fac k)) (g : NatIs wz (.agg #[.slice a2 n2 c2]) (k + 1)) (hk : fac k < 4294967296 ^ 64) (hk2 : k ≤ 3000) => (mul_any _ _ (fac k) (k + 1) wz h g 64 (by omega) hk (Nat.lt_of_lt_of_le (show k + 1 < 4294967296 ^ 1 by omega) (Nat.pow_le_pow_right (by omega) (by omega)))).mono fun _ _ h => h.told)
  have OFW := Lib.hid (fun a n c k wz (h : NatIs wz (.agg #[.slice a n c]) (fac k)) => wof_any false a n c (fac k) wz h)
  have WH := Lib.hid (fun a n c m k wz (h : IntAt wz a n c m (sgn false (fac k))) => whole_any a n c m (sgn false (fac k)) wz h)
  have HN := Lib.hid hN2
  have BB := Lib.hid ((((Bag.start w).rat h).box3 (.slice a n c) (.bool m) (.slice a2 n2 c2) 60).box3 (.slice none 0 0) (.bool false) (.slice none 0 0) 60)
  simp only [World.size_alloc] at BB
  have q0 := BB.out.now.2.1.cell
  have q1 := BB.out.now.2.1.cell1
  have q2 := BB.out.now.2.1.cell2
  clear h hN2 hQ hP hN hsg hg0
  go_enter Tryz.func126, Tryz.ntmps126
  go_wp2_with fail
  go_at_call 80
  (with_reducible refine (IW.out _ BB.out.now.2.2.1).mono ?_)
  rintro e w2 ⟨rfl, hb2⟩
  have BB := Lib.hid (BB.out.go hb2)
  clear hb2
  have q0 := BB.out.now.2.1.cell
  have q1 := BB.out.now.2.1.cell1
  have q2 := BB.out.now.2.1.cell2
  go_wp2_with fail
  go_at_call 29
  (with_reducible refine (SG.out _ BB.out.now.2.2.1).mono ?_)
  rintro e w3 ⟨rfl, hb3⟩
  have BB := Lib.hid (BB.out.go hb3)
  clear hb3
  have q0 := BB.out.now.2.1.cell
  have q1 := BB.out.now.2.1.cell1
  have q2 := BB.out.now.2.1.cell2
  go_wp2_with fail
  go_at_call 162
  (with_reducible refine (TP.out _ BB.out.now.2.2.1).mono ?_)
  rintro e w4 ⟨rfl, hi4, hb4⟩
  have BB := Lib.hid (BB.out.go hb4)
  clear hb4 hi4
  go_wp2_with fail
  go_at_call 163
  (with_reducible refine (UI.out _ (by have q := BB.out.now.2.2.1.int.nt; rw [HN.out] at q; exact q)).mono ?_)
  rintro e w5 ⟨rfl, hb5⟩
  have BB := Lib.hid (BB.out.go hb5)
  clear hb5
  have BB := Lib.hid (Bag.slot3 (Bag.go (Bag.start w) BB.out.below) BB.out.now.1)
  clear q0 q1 q2 IW SG TP UI hfd
  go_wp2_with fail
  go_at_call 113
  (with_reducible refine (ON.out _).mono ?_)
  rintro e w6 ⟨a6, n6, c6, rfl, hn6, hb6⟩
  have j6 : w.heap.size + 1 < w6.heap.size := by
    have := BB.out.now.1.lt
    have := hb6.size
    omega
  have BB := Lib.hid (((BB.out.go hb6).nat hn6).box (.slice a6 n6 c6) 56)
  clear hn6 hb6 ON
  go_wp2_with fail
  generalize hW : w6.alloc (.cells #[.slice a6 n6 c6] 56) = y6 at *
  clear hW
  go_loopw [9] (fun i wr => ∃ (k : Nat) (a8 : Option Addr) (n8 c8 : Nat), 1 ≤ k ∧ (k ≤ N ∨ k = 1) ∧ k ≤ 2050 ∧ i = .int .u64 ((k + 1 : Nat) : Int) ∧ Hid (Bag w (fun y => Slot y w6.heap.size (.slice a8 n8 c8) ∧ NatIs y (.agg #[.slice a8 n8 c8]) (fac k) ∧ Slot3 y (w.heap.size + 1) (.slice none 0 0) (.bool false) (.slice none 0 0) ∧ True) wr)) (fun i _ => 2200 - (intOf i).toNat)
  case atStart => exact ⟨1, a6, n6, c6, by omega, .inr rfl, by omega, rfl, BB.out⟩
  case round =>
    obtain ⟨k, a8, n8, c8, hk1, hkN, hk2, rfl, hB⟩ := hrel
    have BB := Lib.hid hB.out
    clear hB
    have q0 := BB.out.now.1.cell
    by_cases h1 : k + 1 ≤ N
    · have h1' : ((k + 1 : Nat) : Int) ≤ (N : Int) := by omega
      obtain ⟨lk, hlk⟩ : ∃ z, lbs (fac k) = z := ⟨_, rfl⟩
      have LK : Hid (∀ wz, NatIs wz (.agg #[.slice a8 n8 c8]) (fac k) → Calls Tryz.prog 127 #[.agg #[.slice a8 n8 c8]] wz fun e w' => e = .returned (.int .i64 (lk : Nat)) ∧ Below wz.heap.size wz w') := Lib.hid (fun wz h => by
        have := LI.out a8 n8 c8 k wz h
        rw [show (nbits (fac k) + 31) / 32 = lk from hlk] at this
        exact this)
      by_cases h2 : (lk : Int) ≤ l
      · have hk3 : lbs (fac k) ≤ 64 := by omega
        have hkF := fac_lim hk3
        have OK : Hid (∀ wz, Calls Tryz.prog 113 #[.int .u64 ((k : Int) + 1)] wz fun e w' => NatTold wz w' e (k + 1)) := Lib.hid (fun wz => OF1.out (k + 1) (by omega) wz)
        have MK := Lib.hid (fun a n c a2 n2 c2 wz h g => MU.out a n c a2 n2 c2 k wz h g (lbs_le32.1 hk3) (by omega))
        have hw : IntKind.u64.wrap ((k : Int) + 1 + 1) = ((k + 1 + 1 : Nat) : Int) := by
          rw [IntWalk.u64_in _ (by omega)]
          omega
        clear hlk hk3
        go_wp2_with fail
        go_at_call 127
        (with_reducible refine (LK.out _ BB.out.now.2.1).mono ?_)
        rintro e w7 ⟨rfl, hb7⟩
        have BB := Lib.hid (BB.out.go hb7)
        clear hb7 q0
        have q0 := BB.out.drew.now.1.cell
        go_wp2_with fail
        go_region_with (first
          | (go_at_call 113; (with_reducible refine (OK.out _).mono ?_); rintro e w8 ⟨a9, n9, c9, rfl, hn9, hb8⟩; (have BC := Lib.hid ((BB.out.drew.go hb8).nat hn9)); (have q0 := BC.out.now.2.1.cell); (clear hb8 hn9))
          | (go_at_call 138; (with_reducible refine (MK.out _ _ _ _ _ _ _ BC.out.now.2.2.1 BC.out.now.1).mono ?_); rintro e w9 ⟨a10, n10, c10, rfl, hn10, hb9⟩; (have B7 := BC.out.go hb9); (have hc := B7.now.2.1.cell); (have hf := B7.now.2.1.free); (have B8 : Hid (Bag w (fun y => Slot y w6.heap.size (.slice a10 n10 c10) ∧ NatIs y (.agg #[.slice a10 n10 c10]) (fac (k + 1)) ∧ Slot3 y (w.heap.size + 1) (.slice none 0 0) (.bool false) (.slice none 0 0) ∧ True) (w9.setCell ⟨w6.heap.size, 0, none⟩ (.slice a10 n10 c10))) := Lib.hid ⟨B7.below.setCell (show w.heap.size ≤ w6.heap.size by omega) _, fun x y hb h => ⟨h.1.below hb, h.2.1.below hb, h.2.2.1.below hb, trivial⟩, B7.now.2.1.set1 _, hn10.storeAt hc (fun _ _ h => by cases h) _, B7.now.2.2.2.1.set1o (by omega) _, trivial⟩); (clear B7 hn10 hb9)))
        all_goals go_wp2_with fail
        all_goals go_roundw
        all_goals first
          | exact ⟨k + 1, a10, n10, c10, by omega, .inl h1, by omega, by go_num, B8.out⟩
          | (simp [intOf]; omega)
      · have hE := Lib.hid (show l < lbs (fac k) by rw [hlk]; omega)
        clear hlk
        go_wp2_with fail
        go_at_call 127
        (with_reducible refine (LK.out _ BB.out.now.2.1).mono ?_)
        rintro e w7 ⟨rfl, hb7⟩
        have BB := Lib.hid (BB.out.go hb7)
        clear hb7 q0
        have q0 := BB.out.now.1.cell
        go_wp2_with fail
        go_at_call 119
        (with_reducible refine (OFW.out _ _ _ k _ BB.out.now.2.1).mono ?_)
        rintro e w8 ⟨a9, n9, c9, m9, rfl, hi9, hb8⟩
        have BB := Lib.hid (BB.out.go hb8)
        clear hb8
        go_wp2_with fail
        go_at_call 84
        (with_reducible refine (WH.out _ _ _ _ k _ hi9).mono ?_)
        rintro e w9 ⟨a3, n3, c3, m3, a4, n4, c4, rfl, hr, hb9⟩
        have BB := Lib.hid (BB.out.go hb9)
        clear hb9 hi9
        have hs := BB.out.now.2.2.1
        have u0 := hs.cell
        have u1 := hs.cell1
        have u2 := hs.cell2
        have g0 := hs.free
        have g1 := hs.free1
        have g2 := hs.free2
        have HS := hs.set (.slice a3 n3 c3) (.bool m3) (.slice a4 n4 c4)
        have HE := Lib.hid (RatTold4.done 0 BB.out.below (by omega) hs hr)
        clear hs
        go_wp2
        exact bodyPost_ret (v := .tuple #[.agg #[.slice a3 n3 c3, .bool m3, .slice a4 n4 c4], .int .i64 0]) (by simp [results, Tryz.results126, go_sem, HS]) rfl ⟨k, by omega, .inr hE.out, HE.out⟩
    · have hE := Lib.hid (show k = N ∨ N = 0 by omega)
      have h1' : ¬ ((k + 1 : Nat) : Int) ≤ (N : Int) := by omega
      go_wp2_with fail
      go_at_call 119
      (with_reducible refine (OFW.out _ _ _ k _ BB.out.now.2.1).mono ?_)
      rintro e w8 ⟨a9, n9, c9, m9, rfl, hi9, hb8⟩
      have BB := Lib.hid (BB.out.go hb8)
      clear hb8
      go_wp2_with fail
      go_at_call 84
      (with_reducible refine (WH.out _ _ _ _ k _ hi9).mono ?_)
      rintro e w9 ⟨a3, n3, c3, m3, a4, n4, c4, rfl, hr, hb9⟩
      have BB := Lib.hid (BB.out.go hb9)
      clear hb9 hi9
      have hs := BB.out.now.2.2.1
      have u0 := hs.cell
      have u1 := hs.cell1
      have u2 := hs.cell2
      have g0 := hs.free
      have g1 := hs.free1
      have g2 := hs.free2
      have HS := hs.set (.slice a3 n3 c3) (.bool m3) (.slice a4 n4 c4)
      have HE := Lib.hid (RatTold4.done 0 BB.out.below (by omega) hs hr)
      clear hs
      go_wp2
      exact bodyPost_ret (v := .tuple #[.agg #[.slice a3 n3 c3, .bool m3, .slice a4 n4 c4], .int .i64 0]) (by simp [results, Tryz.results126, go_sem, HS]) rfl ⟨N, Nat.le_refl _, .inl rfl, by
          rcases hE.out with e | e
          · rw [← e]; exact HE.out
          · obtain rfl : k = 1 := by omega
            rw [e]; exact HE.out⟩
theorem mfac_any (a : Option Addr) (n c : Nat) (m : Bool) (a2 : Option Addr) (n2 c2 : Nat) (P : Int) (Q : Nat) (l : Int) (w : World) (h : RatAt w a n c m a2 n2 c2 P Q) (hQ : 0 < Q) (hl : l ≤ 64) :
    Calls Tryz.prog 126 #[.agg #[.slice a n c, .bool m, .slice a2 n2 c2], .int .i64 l] w fun e w' => ∃ P' Q' E', RatTold4 w w' e P' Q' E' ∧ Fits 33 P Q l P' Q' E' := by
  by_cases hn : Q = 1 ∧ 0 ≤ P
  · obtain ⟨rfl, h0⟩ := hn
    by_cases hf : P < 18446744073709551616
    · refine (mfac_some a n c m a2 n2 c2 P 1 l w h rfl ⟨h0, hf⟩ hl).mono ?_
      rintro e w' ⟨k, h1, h2, h3⟩
      exact ⟨_, _, _, h3, fits_fac h0 h1 h2⟩
    · exact (mfac_far a n c m a2 n2 c2 P 1 l w h rfl (by omega)).mono (fun e w' h3 => ⟨_, _, _, h3, fits_far (by omega) hl⟩)
  · refine (mfac_no a n c m a2 n2 c2 P Q l w h hQ hn).mono (fun e w' h3 => ⟨_, _, _, h3, fits_no (by decide) (by decide) ?_⟩)
    unfold aN
    simp
    omega
end Go.Proofs.YtnpoakaffafdiaaGreatDoor
