/-
  Package typeballlaw06: awake, by contract.
-/
import Derived.Test.YtdnbpkbapmlfaaaGreatDoorAr7
namespace Go.Proofs.YtdnbpkbapmlfaaaGreatDoor
open Go.RowKit

/-- Integers written out. -/
def lt (l : List Int) (j : Nat) : Int := l.getD j 0
theorem KRow.lits (w : World) (l : List Int) (t : TypeId) (h : l.length ≤ 1000) {cs : Array Value} (hc : cs = (l.map (Value.int .i64)).toArray) : KRow (w.alloc (.cells cs t)) .i64 (some ⟨w.heap.size, 0, none⟩) l.length l.length (lt l) := by
  subst hc
  refine ⟨Nat.le_refl _, by unfold maxLen; omega, .inr ⟨_, 0, rfl, by simp, fun j hj => ?_⟩⟩
  have := (Row.new w t (l.map (Value.int .i64)).toArray).cell (0 + j)
  rw [this, Nat.zero_add]
  simp [lt, hj]
theorem lt64 {l : List Int} (h : l.all (fun x => decide (-9223372036854775808 ≤ x ∧ x ≤ 9223372036854775807)) = true) (n : Nat) : In64 (lt l) n := by
  intro j _
  unfold lt
  by_cases hj : j < l.length
  · have := List.all_eq_true.1 h (l[j]) (List.getElem_mem hj)
    rw [decide_eq_true_eq] at this
    simpa [List.getD, hj] using this
  · simp [List.getD, hj]
theorem bytesN_any (cs : Array Value) (f : Nat → Int) (r n : Nat) (fP : Nat → Int) (fQ : Nat → Nat) (w : World) (h : NumArr w cs f r n fP fQ) (hr : r ≤ 1000) (hQ : ∀ j, j < n → 0 < fQ j) (hn : n ≤ 1000000) (hL : ∀ j, j < n → lbs (fP j).natAbs ≤ 1000000 ∧ lbs (fQ j) ≤ 1000000) :
    Calls Tryz.prog 38 #[.agg cs] w fun e w' => e = .returned (.int .i64 (16 + 4 * r + byt fP fQ n : Nat)) ∧ Below w.heap.size w w' := by
  obtain ⟨na, nc, rfl, hq⟩ := h
  exact bytes_any false (dm f r) r na n nc none 0 0 fP fQ w hr hq hQ hn (by omega) hL
theorem lbs1 : lbs 1 = 1 := by decide +kernel
theorem lbs2 : lbs 2 = 1 := by decide +kernel

set_option maxHeartbeats 3200000 in
set_option maxRecDepth 100000 in
theorem awake6_any (w : World) : Calls Tryz.prog 17 #[] w fun e w' => e = .returned (.bool true) ∧ Below w.heap.size w w' := by
  have IN := Lib.hid (fun l a c wz h h64 hn => ints_any a (List.length l) c (lt l) wz h h64 hn)
  unfold NumTold1 at IN
  have PK := Lib.hid (fun cs wz h sa sc ta tc h2 h3 => pickN_any cs (fun _ => ((2 : Nat) : Int)) 1 2 (lt [5, 6]) (fun _ => 1) sa 2 sc (lt [2, 2]) ta 4 tc (lt [1, 0, 9, 1]) wz h h2 (lt64 (by decide) 2) h3 (lt64 (by decide) 4) (by omega))
  have hsh : (shB (lt [2, 2]) 2 && decide (itm (lt [2, 2]) 2 = ((4 : Nat) : Int))) = true := by decide
  rw [hsh] at PK
  unfold NumsTold at PK
  have WH := Lib.hid (fun cs wz h => whole6_any cs (lt [2, 2]) 2 4 (fun j => elP 2 (lt [5, 6]) (lt [1, 0, 9, 1] j)) (fun j => elQ 2 (fun _ => 1) (lt [1, 0, 9, 1] j)) wz h (fun j _ => by unfold elQ; split <;> exact Nat.one_pos) (by omega))
  have hwh : whB (fun j => elP 2 (lt [5, 6]) (lt [1, 0, 9, 1] j)) (fun j => elQ 2 (fun _ => 1) (lt [1, 0, 9, 1] j)) 4 = true := by decide
  rw [hwh] at WH
  unfold WhTold at WH
  have SM := Lib.hid (fun a c a2 c2 wz h h2 => r6Same_any a 4 c (fun j => elP 2 (lt [5, 6]) (lt [1, 0, 9, 1] j)) a2 4 c2 (lt [6, 5, 0, 6]) wz h h2)
  have hsm : (decide (4 = 4) && sameB (fun j => elP 2 (lt [5, 6]) (lt [1, 0, 9, 1] j)) (lt [6, 5, 0, 6]) 4) = true := by decide
  rw [hsm] at SM
  unfold SameTold at SM
  have BY := Lib.hid (fun cs wz h => bytesN_any cs (fun _ => ((2 : Nat) : Int)) 1 2 (lt [1, 2]) (fun _ => 1) wz h (by omega) (fun _ _ => Nat.one_pos) (by omega) (fun j hj => by
    have : j = 0 ∨ j = 1 := by omega
    rcases this with rfl | rfl
    · show lbs 1 ≤ _ ∧ lbs 1 ≤ _; rw [lbs1]; omega
    · show lbs 2 ≤ _ ∧ lbs 1 ≤ _; rw [lbs1, lbs2]; omega))
  have hby : 16 + 4 * 1 + byt (lt [1, 2]) (fun _ => 1) 2 = 52 := by
    show 16 + 4 * 1 + (0 + (8 + 4 * (lbs 1 + lbs 1)) + (8 + 4 * (lbs 2 + lbs 1))) = 52
    rw [lbs1, lbs2]
  rw [hby] at BY
  go_enter Tryz.func17, Tryz.ntmps17
  go_wp2_with fail
  have K1 : KRow (w.alloc (.cells #[.int .i64 5, .int .i64 6] 3)) .i64 (some ⟨w.heap.size, 0, none⟩) 2 2 (lt [5, 6]) := KRow.lits w [5, 6] 3 (by decide) rfl
  have BB := Lib.hid ((Bag.start w).alloc (.cells #[.int .i64 5, .int .i64 6] 3))
  go_at_call 70
  refine (IN.out [5, 6] _ _ _ K1 (lt64 (by decide) _) (by decide)).mono ?_
  rintro e w1 ⟨cs1, rfl, hn1, hb1⟩
  have hn1 : NumArr w1 cs1 (fun _ => ((2 : Nat) : Int)) 1 2 (lt [5, 6]) (fun _ => 1) := hn1
  have BB := Lib.hid ((BB.out.go hb1).numArr hn1)
  clear K1 hn1 hb1
  go_wp2_with fail
  have K2 : KRow (w1.alloc (.cells #[.int .i64 2, .int .i64 2] 3)) .i64 (some ⟨w1.heap.size, 0, none⟩) 2 2 (lt [2, 2]) := KRow.lits w1 [2, 2] 3 (by decide) rfl
  have BB := Lib.hid (((BB.out.alloc (.cells #[.int .i64 2, .int .i64 2] 3)).krow K2))
  have K3 : KRow ((w1.alloc (.cells #[.int .i64 2, .int .i64 2] 3)).alloc (.cells #[.int .i64 1, .int .i64 0, .int .i64 9, .int .i64 1] 3)) .i64 (some ⟨w1.heap.size + 1, 0, none⟩) 4 4 (lt [1, 0, 9, 1]) := by
    have := KRow.lits (w1.alloc (.cells #[.int .i64 2, .int .i64 2] 3)) [1, 0, 9, 1] 3 (by decide) rfl
    rw [World.size_alloc] at this
    exact this
  have BB := Lib.hid (((BB.out.alloc (.cells #[.int .i64 1, .int .i64 0, .int .i64 9, .int .i64 1] 3)).krow K3))
  clear K2 K3
  go_at_call 42
  (with_reducible refine (PK.out _ _ BB.out.now.2.2.1 _ _ _ _ BB.out.now.2.1 BB.out.now.1).mono ?_)
  rintro e w2 ⟨cs2, rfl, hn2, hb2⟩
  rw [if_pos trivial] at hn2
  have BB := Lib.hid ((BB.out.go hb2).numArr hn2)
  have HN := Lib.hid hn2
  clear hn2 hb2
  obtain ⟨na, nc, hcs0, hr2⟩ := HN.out
  have hcs : cs2 = arrC false 1 (dm (lt [2, 2]) 2) na 4 nc none 0 0 := hcs0
  clear hcs0 hr2 HN
  subst hcs
  have BB := Lib.hid (BB.out.newRow (arrC false 1 (dm (lt [2, 2]) 2) na 4 nc none 0 0) 50)
  have HR := Lib.hid BB.out.now.1
  unfold arrC
  go_wp2_with (refine ld_arr rfl (.tmp 1) rfl w2.heap.size rfl HR.out ?_)
  go_at_call 21
  (with_reducible refine (WH.out _ _ ?_).mono ?_)
  · exact BB.out.now.2.1
  rintro e w3 ⟨a3, m3, c3, rfl, hm3, hb3⟩
  rw [if_pos trivial] at hm3
  obtain ⟨rfl, hk3⟩ := hm3
  have BB := Lib.hid ((BB.out.go hb3).krow hk3)
  clear hk3 hb3 HR
  go_wp2_with fail
  have K4 : KRow (w3.alloc (.cells #[.int .i64 6, .int .i64 5, .int .i64 0, .int .i64 6] 3)) .i64 (some ⟨w3.heap.size, 0, none⟩) 4 4 (lt [6, 5, 0, 6]) := KRow.lits w3 [6, 5, 0, 6] 3 (by decide) rfl
  have BB := Lib.hid (((BB.out.alloc (.cells #[.int .i64 6, .int .i64 5, .int .i64 0, .int .i64 6] 3)).krow K4))
  clear K4
  go_at_call 25
  (with_reducible refine (SM.out _ _ _ _ _ BB.out.now.2.1 BB.out.now.1).mono ?_)
  rintro e w4 ⟨rfl, hb4⟩
  have BB := Lib.hid (BB.out.go hb4)
  clear hb4
  go_wp2_with fail
  have K5 : KRow (w4.alloc (.cells #[.int .i64 1, .int .i64 2] 3)) .i64 (some ⟨w4.heap.size, 0, none⟩) 2 2 (lt [1, 2]) := KRow.lits w4 [1, 2] 3 (by decide) rfl
  have BB := Lib.hid (BB.out.alloc (.cells #[.int .i64 1, .int .i64 2] 3))
  go_at_call 70
  refine (IN.out [1, 2] _ _ _ K5 (lt64 (by decide) _) (by decide)).mono ?_
  rintro e w5 ⟨cs5, rfl, hn5, hb5⟩
  have hn5 : NumArr w5 cs5 (fun _ => ((2 : Nat) : Int)) 1 2 (lt [1, 2]) (fun _ => 1) := hn5
  have BB := Lib.hid ((BB.out.go hb5).numArr hn5)
  clear K5 hn5 hb5
  go_wp2_with fail
  go_at_call 38
  (with_reducible refine (BY.out _ _ BB.out.now.1).mono ?_)
  rintro e w6 ⟨rfl, hb6⟩
  have BB := Lib.hid (BB.out.go hb6)
  clear hb6
  go_wp2
  go_ret
  exact ⟨rfl, BB.out.below⟩

end Go.Proofs.YtdnbpkbapmlfaaaGreatDoor
