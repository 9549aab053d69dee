/-
  Plain arrays that are the same, numbers told; for the statement on Pick and Ravel.
-/
import Derived.Test.YtdnbpkbapmlfaaaGreatDoorAr20
namespace Go.Proofs.YtdnbpkbapmlfaaaGreatDoor
open Go.RowKit

theorem pl_same {cs cs' : Array Value} {S : Nat → Int} {r : Nat} {ch : Bool} {g : Nat → Int} {tn : Nat} {fB : Nat → Bool} {fS fT : Nat → ByteArray} {nn : Nat} {S' : Nat → Int} {r' : Nat} {ch' : Bool} {g' : Nat → Int} {tn' : Nat} {gB : Nat → Bool} {gS gT : Nat → ByteArray} {nn' : Nat} {w : World} (e : plB ch ch' r r' S S' tn tn' g g' nn nn' fB fS fT gB gS gT = true)
    (h : PlnAt w cs S r ch g tn fB fS fT nn) (h' : PlnAt w cs' S' r' ch' g' tn' gB gS gT nn') :
    Calls Tryz.prog 23 #[.agg cs, .agg cs'] w fun e w' => e = .returned (.bool true) ∧ Below w.heap.size w w' := by
  have := r6PSame_any cs cs' S r ch g tn fB fS fT nn S' r' ch' g' tn' gB gS gT nn' w h h'
  rw [e] at this
  exact this
theorem plB_of {ch : Bool} {r : Nat} {S S' : Nat → Int} {tn : Nat} {g : Nat → Int} {nn : Nat} {fB gB : Nat → Bool} {fS fT gS gT : Nat → ByteArray} (h1 : ∀ j, j < r → S j = S' j) (h2 : ∀ j, j < nn → fB j = gB j ∧ fS j = gS j ∧ fT j = gT j) : plB ch ch r r S S' tn tn g g nn nn fB fS fT gB gS gT = true := by
  unfold plB
  rw [decide_eq_true rfl, decide_eq_true rfl, decide_eq_true rfl, decide_eq_true rfl, sameB_iff.2 h1, sameB_iff.2 (fun _ _ => rfl), nsB_iff.2 h2]
  rfl
theorem Bag.chrA {w0 w : World} {B : World → Prop} {cs : Array Value} {f : Nat → Int} {r n : Nat} {g : Nat → Int} (h : Bag w0 B w) (q : ChrArr w cs f r n g) : Bag w0 (fun y => ChrArr y cs f r n g ∧ B y) w := h.add (fun _ _ hb q => ChrArr.below q hb) q
theorem beq_deci (x y : Int) : (x == y) = decide (x = y) := by
  by_cases h : x = y
  · rw [decide_eq_true h, beq_iff_eq.2 h]
  · rw [decide_eq_false h, beq_eq_false_iff_ne.2 h]
theorem pick_facts {S : Nat → Int} {sn k : Nat} {b1 sh : Bool} {K0 : Int} (hb1 : (shB S sn && decide (itm S sn = (k : Int))) = b1) (hK : (if shB S sn = true then itm S sn else 0) = K0) (hs : shB S sn = sh) :
    (sh = true → (K0 == (k : Int)) = b1) ∧ (sh = false → b1 = false) ∧ (b1 = true → sh = true ∧ sn ≤ 8) := by
  subst hs
  refine ⟨fun h => ?_, fun h => ?_, fun h => ?_⟩
  · rw [h] at hb1 hK
    rw [if_pos rfl] at hK
    rw [← hK, beq_deci, ← hb1, Bool.true_and]
  · rw [h] at hb1
    exact hb1.symm
  · rw [h, Bool.and_eq_true] at hb1
    exact ⟨hb1.1, In64.le8 hb1.1⟩
theorem len0A_any (ch : Bool) (more : Int) (d : Nat → Int) (na : Option Addr) (nc : Nat) (ta : Option Addr) (tc : Nat) (w : World) :
    Calls Tryz.prog 28 #[.agg #[.bool ch, .int .i64 more, .int .i64 (d 0), .int .i64 (d 1), .int .i64 (d 2), .int .i64 (d 3), .int .i64 (d 4), .int .i64 (d 5), .int .i64 (d 6), .int .i64 (d 7), .slice na 0 nc, .slice ta 0 tc]] w fun e w' => e = .returned (.int .i64 0) ∧ Below w.heap.size w w' := by
  refine (len_any ch more d na 0 nc ta 0 tc w).mono ?_
  rintro e w' ⟨rfl, hb⟩
  refine ⟨?_, hb⟩
  cases ch <;> rfl
theorem el_cmp {fP : Nat → Int} {fQ : Nat → Nat} {n : Nat} (h : CmpOk 7 fP fQ n) (at' : Nat → Int) (m : Nat) : CmpOk 7 (fun j => elP n fP (at' j)) (fun j => elQ n fQ (at' j)) m := by
  intro j _
  show 0 < elQ n fQ (at' j) ∧ (elP n fP (at' j)).natAbs < _ ∧ elQ n fQ (at' j) < _
  unfold elP elQ
  by_cases hi : 0 ≤ at' j ∧ at' j < n
  · rw [if_pos hi, if_pos hi]
    exact h (at' j).toNat (by omega)
  · rw [if_neg hi, if_neg hi]
    exact ⟨Nat.one_pos, by decide, by decide⟩

end Go.Proofs.YtdnbpkbapmlfaaaGreatDoor
