/-
  Lists of integers and of characters that come in, opened.
-/
import Derived.Test.YtphabhddmdpkmaaAr0
import Derived.ProofKit
import Derived.Carry
namespace Go.Proofs.Ytphabhddmdpkmaa
open Go.ChangeShapes Go.WideShapes Go.ChangeAt Go.RowKit

theorem open_krow {H : Type} {enc : TypeId × Value → H} {P : Program} {w : World} {base : Nat} {t e : TypeId} {ki : IntKind} {v : Value} {d : DataW H} {p : List MemPlace} (ht : P.underlying t = some (.slice e)) (he : P.underlying e = some (.int ki)) (hc : P.cellsOf e = 1)
    {r : Reach} {b0 : Nat} (hv : Value.okWide P w r b0 t v) (h : DataW.Trod enc P w base (fun _ => true) true t v d p) :
    ∃ a n c f, v = .slice a n c ∧ KRow w ki a n c f ∧ ∀ j, j < n → (Lit.int ki (f j)).wf = true := by
  obtain ⟨a0, len, cap, rfl⟩ := okWide_slice ht hv
  obtain ⟨fuel, hf⟩ := h
  rcases open_ints ht he hc hf with ⟨hcs, _⟩ | ⟨a, len', cap', zs, hcs, _, hl, hmx, hz, _, hcell, hwz⟩
  · simp [Value.cells] at hcs
    obtain ⟨rfl, rfl, rfl⟩ := hcs
    exact ⟨none, 0, 0, fun _ => 0, rfl, ⟨Nat.le_refl _, Nat.zero_le _, .inl rfl⟩, fun j hj => absurd hj (Nat.not_lt_zero _)⟩
  · simp [Value.cells] at hcs
    obtain ⟨rfl, rfl, rfl⟩ := hcs
    simp only [if_true] at hz
    refine ⟨some a, len, cap, fun j => zs.getD j 0, rfl, ⟨hl, hmx, ?_⟩, fun j hj => ?_⟩
    · rcases Nat.eq_zero_or_pos len with h0 | h0
      · exact .inl h0
      · obtain ⟨b, off, spot⟩ := a
        have hspot : spot = none := by simpa [Addr.add] using World.cell?_spot (hcell 0 (by omega))
        subst hspot
        have h1 : ∀ j, j < zs.length → w.cell? ⟨b, off + j, none⟩ = some (.int ki (zs.getD j 0)) := fun j hj => by rw [← add_plain]; exact hcell j hj
        exact .inr ⟨b, off, rfl, World.block_lt_of_cell? w _ (h1 0 (by omega)), fun j hj => h1 j (by omega)⟩
    · refine hwz _ ?_
      have : zs.getD j 0 = zs[j]'(by omega) := by simp [List.getD, show j < zs.length by omega]
      show zs.getD j 0 ∈ zs
      rw [this]
      exact List.getElem_mem _
theorem in64_of {f : Nat → Int} {n : Nat} (h : ∀ j, j < n → (Lit.int .i64 (f j)).wf = true) : In64 f n := fun j hj => by
  simpa [Lit.wf, IntKind.min, IntKind.max, IntKind.signed, IntKind.bits] using h j hj

end Go.Proofs.Ytphabhddmdpkmaa
