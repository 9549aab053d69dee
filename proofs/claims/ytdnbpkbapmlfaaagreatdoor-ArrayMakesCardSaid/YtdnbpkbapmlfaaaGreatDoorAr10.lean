/-
  Package array: Plain, by contract.
-/
import Derived.Test.YtdnbpkbapmlfaaaGreatDoorAr9
import Derived.Deep.AppendLies
import Derived.Deep.RegionLaw
namespace Go.Proofs.YtdnbpkbapmlfaaaGreatDoor
open Go.RowKit

theorem infoN : (Tryz.prog.info? 34).map (fun i => (i.zero, i.size, i.bytes)) = some (some (.agg #[.bool false, .string ⟨#[]⟩, .string ⟨#[]⟩]), 3, 40) := by kernel_rfl
/-- The cells of the first numbers, one behind the other. -/
def qcs (fB : Nat → Bool) (fS fT : Nat → ByteArray) : Nat → List Value
  | 0 => []
  | k + 1 => qcs fB fS fT k ++ [.bool (fB k), .string (fS k), .string (fT k)]
theorem qcs_length (fB : Nat → Bool) (fS fT : Nat → ByteArray) : ∀ k, (qcs fB fS fT k).length = k * 3
  | 0 => rfl
  | k + 1 => by unfold qcs; rw [List.length_append, qcs_length fB fS fT k]; simp; omega
theorem qcs_get (fB : Nat → Bool) (fS fT : Nat → ByteArray) : ∀ k j, j < k → (qcs fB fS fT k)[j * 3]? = some (.bool (fB j)) ∧ (qcs fB fS fT k)[j * 3 + 1]? = some (.string (fS j)) ∧ (qcs fB fS fT k)[j * 3 + 2]? = some (.string (fT j))
  | 0, j, h => absurd h (Nat.not_lt_zero _)
  | k + 1, j, h => by
    have hl := qcs_length fB fS fT k
    unfold qcs
    by_cases e : j = k
    · subst e
      refine ⟨?_, ?_, ?_⟩
      · rw [List.getElem?_append_right (by omega), hl, show j * 3 - j * 3 = 0 by omega]; rfl
      · rw [List.getElem?_append_right (by omega), hl, show j * 3 + 1 - j * 3 = 1 by omega]; rfl
      · rw [List.getElem?_append_right (by omega), hl, show j * 3 + 2 - j * 3 = 2 by omega]; rfl
    · obtain ⟨e1, e2, e3⟩ := qcs_get fB fS fT k j (by omega)
      refine ⟨?_, ?_, ?_⟩
      · rw [List.getElem?_append_left (by omega)]; exact e1
      · rw [List.getElem?_append_left (by omega)]; exact e2
      · rw [List.getElem?_append_left (by omega)]; exact e3
/-- A row of numbers as digits that the call itself makes grow. -/
theorem QRow.of_own {w : World} {base : Nat} {v : Value} {n : Nat} {fB : Nat → Bool} {fS fT : Nat → ByteArray} (h : w.ownsRow base 34 3 v n (qcs fB fS fT n)) : ∃ a c, v = .slice a n c ∧ QRow w a n c fB fS fT := by
  rcases h.2 with ⟨rfl, rfl⟩ | ⟨g, cap, cur, rfl, _, hh, h1, h2, _, hcs⟩
  · exact ⟨none, 0, rfl, QRow.nought _ _ _ (Nat.zero_le _) _ _ _⟩
  · refine ⟨some ⟨g, 0, none⟩, cap, rfl, h1, h2, .inr ⟨g, 0, rfl, Row.lt (t := 34) hh, fun j hj => ?_⟩⟩
    have hc : ∀ i u, (qcs fB fS fT n)[i]? = some u → w.cell? ⟨g, 0 + i, none⟩ = some u := fun i u hu => by
      have := h.cells (g := g) rfl i u hu
      rwa [show (⟨g, 0, none⟩ : Addr).add i = ⟨g, 0 + i, none⟩ by unfold Addr.add; split <;> simp_all] at this
    obtain ⟨e1, e2, e3⟩ := qcs_get fB fS fT n j hj
    exact ⟨hc _ _ e1, by rw [show 0 + j * 3 + 1 = 0 + (j * 3 + 1) by omega]; exact hc _ _ e2, by rw [show 0 + j * 3 + 2 = 0 + (j * 3 + 2) by omega]; exact hc _ _ e3⟩
theorem Row.grown {w w' : World} {g : Nat} {t : TypeId} {cs : Array Value} {row : Option Nat} (h : Row w g t cs) (hg : w.grownBy w' row) (e : some g ≠ row) : Row w' g t cs := (hg.block g h.lt e).trans h
theorem Row.apart {w : World} {g : Nat} {t e : TypeId} {cs : Array Value} {base size n : Nat} {v : Value} {xs : List Value} (h : Row w g t cs) (ho : w.ownsRow base e size v n xs) (hne : e ≠ t) : some g ≠ v.ownBlock := by
  rcases ho.2 with ⟨rfl, _⟩ | ⟨g', cap, cur, rfl, _, hh, _⟩
  · simp [Value.ownBlock]
  · intro he
    have : g = g' := by simpa [Value.ownBlock] using he
    subst this
    unfold Row at h
    rw [h] at hh
    injection hh with hh
    injection hh with _ hh
    exact hne hh.symm
theorem Row.ne {w : World} {g g' : Nat} {t t' : TypeId} {cs cs' : Array Value} (h : Row w g t cs) (h' : Row w g' t' cs') (e : t ≠ t') : g ≠ g' := by
  rintro rfl
  unfold Row at h h'
  rw [h] at h'
  injection h' with h'
  injection h' with _ h'
  exact e h'

end Go.Proofs.YtdnbpkbapmlfaaaGreatDoor
