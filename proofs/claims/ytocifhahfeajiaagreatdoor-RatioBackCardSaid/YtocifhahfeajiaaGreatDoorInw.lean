/-
  Small facts for a drawn region's invariant.
-/
import Derived.Test.YtocifhahfeajiaaGreatDoorInv
import Derived.Test.YtocifhahfeajiaaGreatDoorRa3
namespace Go.Proofs.YtocifhahfeajiaaGreatDoor
open Go Go.RowKit

theorem Slot3.set3 {w : World} {k : Nat} {x y z : Value} (h : Slot3 w k x y z) (u v t : Value) : Slot3 (((w.setCell ⟨k, 0, none⟩ u).setCell ⟨k, 1, none⟩ v).setCell ⟨k, 2, none⟩ t) k u v t := (h.set2 u v).set1 t

theorem wanted_pos {ops : Array Oper} {a : Act} {o : Oper} {g : Nat} {b : Bool} {d : Nat} (hg : o.guard = some (g, b)) (hd : dstI ops g = some d) (ht : a.tmps[d]? = some (.bool b)) : Region.wanted o (yielded ops a.tmps) = true := by
  unfold Region.wanted
  rw [hg]
  show (yielded ops a.tmps g == some b) = true
  unfold yielded
  rw [show (ops[g]?).bind (·.dst) = some d from hd]
  show ((match a.tmps[d]? with | some (.bool b) => some b | _ => none) == some b) = true
  rw [ht]
  cases b <;> rfl
theorem wanted_neg {ops : Array Oper} {a : Act} {o : Oper} {g : Nat} {b : Bool} {d : Nat} {v : Value} (hg : o.guard = some (g, b)) (hd : dstI ops g = some d) (ht : a.tmps[d]? = some v) (hv : v ≠ .bool b) : Region.wanted o (yielded ops a.tmps) = false := by
  unfold Region.wanted
  rw [hg]
  show (yielded ops a.tmps g == some b) = false
  unfold yielded
  rw [show (ops[g]?).bind (·.dst) = some d from hd]
  show ((match a.tmps[d]? with | some (.bool b) => some b | _ => none) == some b) = false
  rw [ht]
  cases v with
  | bool x => cases x <;> cases b <;> first | rfl | exact absurd rfl hv
  | _ => rfl

theorem act_eq {ac : Act} {n : Nat} (hs : ac.tmps.size = n) (f : Nat → Value) (hf : ∀ i, (ac.tmps[i]?).getD undef = f i) : ac = ⟨((List.range n).map f).toArray, ac.defers⟩ := by
  obtain ⟨t, d⟩ := ac
  congr 1
  apply Array.ext
  · simpa using hs
  · intro i h1 h2
    have := hf i
    simp only [Array.getElem?_eq_getElem h1, Option.getD_some] at this
    rw [this]; simp

end Go.Proofs.YtocifhahfeajiaaGreatDoor
