/-
  The document's Same and the program's, of arrays that the page speaks of.
-/
import Derived.Test.YtdnbpkbapmlfaaaGreatDoorAr17
namespace Go.Proofs.YtdnbpkbapmlfaaaGreatDoor
open Go.RowKit

theorem two_cells {w : World} {k k' : Nat} {t t' : TypeId} {sa : Option Addr} {sn sc : Nat} {ch : Bool} {ta : Option Addr} {tn tc : Nat} {na : Option Addr} {nn nc : Nat} {sa' : Option Addr} {sn' sc' : Nat} {ch' : Bool} {ta' : Option Addr} {tn' tc' : Nat} {na' : Option Addr} {nn' nc' : Nat}
    (h' : Row w k' t' #[.slice sa' sn' sc', .bool ch', .slice ta' tn' tc', .slice na' nn' nc']) (h : Row w k t #[.slice sa sn sc, .bool ch, .slice ta tn tc, .slice na nn nc]) :
    w.cell? ⟨k, 0, none⟩ = some (.slice sa sn sc) ∧ w.cell? ⟨k, 1, none⟩ = some (.bool ch) ∧ w.cell? ⟨k, 2, none⟩ = some (.slice ta tn tc) ∧ w.cell? ⟨k, 3, none⟩ = some (.slice na nn nc)
      ∧ w.cell? ⟨k', 0, none⟩ = some (.slice sa' sn' sc') ∧ w.cell? ⟨k', 1, none⟩ = some (.bool ch') ∧ w.cell? ⟨k', 2, none⟩ = some (.slice ta' tn' tc') ∧ w.cell? ⟨k', 3, none⟩ = some (.slice na' nn' nc') := ⟨h.cell 0, h.cell 1, h.cell 2, h.cell 3, h'.cell 0, h'.cell 1, h'.cell 2, h'.cell 3⟩
theorem dec_length (N : Nat) : (dec N).length = dl N := by unfold dec; exact sdig_length _ _
theorem ofO_small {b : Bool} {s t : ByteArray} (h : ofO b s t = true) (hs : s.size ≤ 60) (ht : t.size ≤ 60) : (ofP b s t).natAbs < 4294967296 ^ 7 ∧ ofQ b s t < 4294967296 ^ 7 := by
  obtain ⟨_, h2, h3, _, _⟩ := ofO_facts h
  have big : (10 : Nat) ^ 60 < 4294967296 ^ 7 := by decide
  have mono : ∀ k, k ≤ 60 → (10 : Nat) ^ k ≤ 10 ^ 60 := fun k hk => Nat.pow_le_pow_right (by decide) hk
  constructor
  · have e : s.size = dl (ofP b s t).natAbs := by
      have := congrArg ByteArray.size h2
      unfold rS at this
      rw [str_size, dec_length] at this
      exact this.symm
    exact Nat.lt_of_lt_of_le (dl_lt _) (Nat.le_trans (mono _ (by omega)) (Nat.le_of_lt big))
  · have e : t.size = dl (ofQ b s t) := by
      have := congrArg ByteArray.size h3
      rw [str_size, dec_length] at this
      exact this.symm
    exact Nat.lt_of_lt_of_le (dl_lt _) (Nat.le_trans (mono _ (by omega)) (Nat.le_of_lt big))
theorem ofO_cmp {fB : Nat → Bool} {fS fT : Nat → ByteArray} {n : Nat} (h : ∀ j, j < n → ofO (fB j) (fS j) (fT j) = true) (hs : Short fS fT n) : CmpOk 7 (fun j => ofP (fB j) (fS j) (fT j)) (fun j => ofQ (fB j) (fS j) (fT j)) n :=
  fun j hj => ⟨(ofO_facts (h j hj)).2.2.2.1, ofO_small (h j hj) (hs j hj).1 (hs j hj).2⟩
theorem ofO_same {b b' : Bool} {s t s' t' : ByteArray} (h : ofO b s t = true) (h' : ofO b' s' t' = true) : ofP b s t * (ofQ b' s' t' : Int) = ofP b' s' t' * (ofQ b s t : Int) ↔ b = b' ∧ s = s' ∧ t = t' := by
  obtain ⟨f1, f2, f3, f4, f5⟩ := ofO_facts h
  obtain ⟨g1, g2, g3, g4, g5⟩ := ofO_facts h'
  constructor
  · intro e
    obtain ⟨eP, eQ⟩ := lo_uniq f4 g4 f5 g5 e
    exact ⟨by rw [← f1, ← g1, eP], by rw [← f2, ← g2, eP], by rw [← f3, ← g3, eQ]⟩
  · rintro ⟨rfl, rfl, rfl⟩
    rfl
theorem as_pl {S S' : Nat → Int} {r r' : Nat} {ch ch' : Bool} {g g' : Nat → Int} {tn tn' : Nat} {fB gB : Nat → Bool} {fS fT gS gT : Nat → ByteArray} {nn nn' : Nat} (h : ofB S r ch tn fB fS fT nn = true) (h' : ofB S' r' ch' tn' gB gS gT nn' = true) :
    asB ch ch' ((r : Int) - 1) ((r' : Int) - 1) (dm S r) (dm S' r') tn tn' g g' nn nn' (fun j => ofP (fB j) (fS j) (fT j)) (fun j => ofQ (fB j) (fS j) (fT j)) (fun j => ofP (gB j) (gS j) (gT j)) (fun j => ofQ (gB j) (gS j) (gT j)) = plB ch ch' r r' S S' tn tn' g g' nn nn' fB fS fT gB gS gT := by
  have k1 := ofB_true h
  have k2 := ofB_true h'
  have r8 := In64.le8 k1.1
  have r8' := In64.le8 k2.1
  unfold asB plB
  rw [Bool.eq_iff_iff]
  simp only [Bool.and_eq_true, decide_eq_true_eq, sameB_iff, rsB_iff, nsB_iff]
  constructor
  · rintro ⟨hc, hm, hd, ht, hn, hq⟩
    refine ⟨hc, ⟨by omega, fun j hj => ?_⟩, ht, hn, fun j hj => ?_⟩
    · have := hd j (by omega)
      unfold dm at this
      rw [if_pos hj, if_pos (by omega)] at this
      exact this
    · exact (ofO_same (k1.2.2.2.2 j hj) (k2.2.2.2.2 j (by omega))).1 (hq j hj)
  · rintro ⟨hc, ⟨hm, hd⟩, ht, hn, hq⟩
    refine ⟨hc, by omega, fun j hj => ?_, ht, hn, fun j hj => ?_⟩
    · unfold dm
      subst hm
      by_cases hjr : j < r
      · rw [if_pos hjr, if_pos hjr]; exact hd j hjr
      · rw [if_neg hjr, if_neg hjr]
    · exact (ofO_same (k1.2.2.2.2 j hj) (k2.2.2.2.2 j (by omega))).2 (hq j hj)
theorem plB_self (ch : Bool) (r : Nat) (S : Nat → Int) (tn : Nat) (g : Nat → Int) (nn : Nat) (fB : Nat → Bool) (fS fT : Nat → ByteArray) : plB ch ch r r S S tn tn g g nn nn fB fS fT fB fS fT = true := by
  unfold plB
  rw [decide_eq_true rfl, decide_eq_true rfl, decide_eq_true rfl, decide_eq_true rfl, sameB_iff.2 (fun _ _ => rfl), sameB_iff.2 (fun _ _ => rfl), nsB_iff.2 (fun _ _ => ⟨rfl, rfl, rfl⟩)]
  rfl

end Go.Proofs.YtdnbpkbapmlfaaaGreatDoor
