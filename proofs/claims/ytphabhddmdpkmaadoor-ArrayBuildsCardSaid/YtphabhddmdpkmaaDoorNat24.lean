/-
  Package nat: Gcd, by contract.
-/
import Derived.Test.YtphabhddmdpkmaaDoorK7
import Derived.Test.YtphabhddmdpkmaaDoorWh10
namespace Go.Proofs.YtphabhddmdpkmaaDoor
open Go.RowKit

/-- The number whose limbs a cell leads to. -/
def readN (w : World) (k : Nat) : Nat :=
  match w.cell? ⟨k, 0, none⟩ with
  | some (.slice (some ad) n _) => val (fun j => match w.cell? ⟨ad.block, ad.off + j, none⟩ with
    | some (.int _ x) => x.toNat
    | _ => 0) n
  | _ => 0
theorem readN_is {w : World} {k : Nat} {a : Option Addr} {n c N : Nat} (hs : Slot w k (.slice a n c)) (h : NatIs w (.agg #[.slice a n c]) N) : readN w k = N := by
  obtain ⟨a', n', c', f, e, ⟨h1, h2, h3, h4⟩, hv, ht⟩ := h
  cases e
  unfold readN
  rw [hs.cell]
  rcases h4 with ⟨rfl, hc⟩ | ⟨b, off, rfl, hb, hcc⟩
  · have hn : n = 0 := by omega
    subst hn
    simp only []
    rw [← hv]; rfl
  · simp only []
    rw [← hv]
    refine val_congr n (fun j hj => ?_)
    rw [hcc j hj]
    simp

/-- At the head of Gcd's loop. -/
def GI (w wr : World) (A B : Nat) : Prop := Below w.heap.size w wr ∧ ∃ a n c a2 n2 c2, Slot wr w.heap.size (.slice a n c) ∧ NatIs wr (.agg #[.slice a n c]) A ∧ Slot wr (w.heap.size + 1) (.slice a2 n2 c2) ∧ NatIs wr (.agg #[.slice a2 n2 c2]) B ∧ Slot wr (w.heap.size + 1 + 1) (.slice none 0 0)

end Go.Proofs.YtphabhddmdpkmaaDoor
