/-
  A walk through a drawn region, given a name: so that ways which come to the same state go on together.
-/
import Derived.Test.YthklcdcikmninaaGreatDoorK9
namespace Go.Proofs.YthklcdcikmninaaGreatDoor
open Go.RowKit

theorem wpAnyH_capture {P : Program} {md : Region.Mode} {ops : Array Oper} {Q : Exit → Act → World → Prop} {S : World → Prop} {fuel : Nat} {listed : Array Bool} {a : Act} {w : World}
    (h : ∀ G : Nat → Array Bool → Act → World → Prop, (∀ f l a w, G f l a w = wpAnyH P md ops Q S f l a w) → G fuel listed a w) : wpAnyH P md ops Q S fuel listed a w := h _ (fun _ _ _ _ => rfl)
theorem captured {G : Nat → Array Bool → Act → World → Prop} {f f' : Nat} {l l' : Array Bool} {a : Act} {w : World} (hf : f = f') (hl : l = l') (h : G f' l' a w) : G f l a w := by subst hf; subst hl; exact h
/-- What follows a piece of code, given a name. -/
theorem wp_capture {P : Program} {c : Code} {Q : Exit → Act → World → Prop} {a : Act} {w : World} (h : ∀ R : Exit → Act → World → Prop, (∀ e a w, R e a w = Q e a w) → Code.wp P c R a w) : Code.wp P c Q a w := h Q (fun _ _ _ => rfl)

end Go.Proofs.YthklcdcikmninaaGreatDoor
