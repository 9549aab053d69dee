/-
  Rows of integers: the document's IntsSame, slices.Clone of integers, by contract.
-/
import Derived.Test.YtgpcfncolhmgfaaGreatDoorAr1
import Derived.Lib.SliceRun
import Derived.Lib.Walk
import Derived.Deep.AppendLies
import Derived.Deep.RegionLaw
namespace Go.Proofs.YtgpcfncolhmgfaaGreatDoor
open Go.RowKit

theorem KRow.nought (w : World) (ki : IntKind) (a : Option Addr) (c : Nat) (hc : c ≤ maxLen) (f : Nat → Int) : KRow w ki a 0 c f := ⟨Nat.zero_le _, hc, .inl rfl⟩
theorem Bag.krow {w0 w : World} {B : World → Prop} {ki : IntKind} {a : Option Addr} {n c : Nat} {f : Nat → Int} (h : Bag w0 B w) (q : KRow w ki a n c f) : Bag w0 (fun y => KRow y ki a n c f ∧ B y) w := h.add (fun _ _ hb q => KRow.below q hb) q
theorem Bag.newRow {w0 w : World} {B : World → Prop} (h : Bag w0 B w) (cs : Array Value) (t : TypeId) : Bag w0 (fun y => Row y w.heap.size t cs ∧ B y) (w.alloc (.cells cs t)) := (h.alloc _).row (Row.new w t cs)
theorem Row.set {w : World} {g : Nat} {t : TypeId} {cs : Array Value} (h : Row w g t cs) (i : Nat) (v : Value) : Row (w.setCell ⟨g, i, none⟩ v) g t (cs.setIfInBounds i v) := heap_setCell_same w g i cs t v h
theorem Row.far {w : World} {g : Nat} {t : TypeId} {cs : Array Value} (h : Row w g t cs) {a : Addr} (e : g ≠ a.block) (v : Value) : Row (w.setCell a v) g t cs := (heap_setCell_other w a g v e).trans h
/-- Another world in which one block alone may have turned. -/
structure Far (g : Nat) (w w' : World) : Prop where
  size : w.heap.size ≤ w'.heap.size
  block : ∀ k, k ≠ g → k < w.heap.size → w'.heap[k]? = w.heap[k]?
theorem Far.setCell (w : World) (g o : Nat) (v : Value) : Far g w (w.setCell ⟨g, o, none⟩ v) := ⟨by simp, fun k hk _ => heap_setCell_other w ⟨g, o, none⟩ k v hk⟩
theorem Far.setRow (w : World) (g : Nat) (cs : Array Value) : Far g w (w.setRow g cs) := ⟨by simp, fun k hk _ => setRow_other w g k cs hk⟩
theorem Far.cell {g : Nat} {w w' : World} (h : Far g w w') {a : Addr} (hg : a.block ≠ g) (hl : a.block < w.heap.size) : w'.cell? a = w.cell? a := World.cell?_of_block (h.block _ hg hl)
/-- Are the first integers alike? -/
def sameB (f g : Nat → Int) : Nat → Bool
  | 0 => true
  | k + 1 => sameB f g k && decide (f k = g k)
theorem sameB_le {f g : Nat → Int} : ∀ {k m : Nat}, k ≤ m → sameB f g m = true → sameB f g k = true := by
  intro k m
  induction m with
  | zero => intro h h2; obtain rfl : k = 0 := by omega
            exact h2
  | succ m ih =>
    intro h h2
    rcases Nat.lt_or_ge k (m + 1) with h3 | h3
    · refine ih (by omega) ?_
      unfold sameB at h2
      rw [Bool.and_eq_true] at h2
      exact h2.1
    · obtain rfl : k = m + 1 := by omega
      exact h2
theorem sameB_iff {f g : Nat → Int} {n : Nat} : sameB f g n = true ↔ ∀ j, j < n → f j = g j := by
  induction n with
  | zero => exact ⟨fun _ j h => absurd h (Nat.not_lt_zero _), fun _ => rfl⟩
  | succ n ih =>
    show (sameB f g n && decide (f n = g n)) = true ↔ _
    rw [Bool.and_eq_true, ih, decide_eq_true_eq]
    constructor
    · rintro ⟨h1, h2⟩ j hj
      rcases Nat.lt_or_ge j n with h | h
      · exact h1 j h
      · obtain rfl : j = n := by omega
        exact h2
    · exact fun h => ⟨fun j hj => h j (by omega), h n (by omega)⟩
/-- What IntsSame answers. -/
def SameTold (b : Bool) (w w' : World) (e : Ending) : Prop := e = .returned (.bool b) ∧ Below w.heap.size w w'
/-- Where a new slice lies. -/
def NewAt (w w' : World) (a : Option Addr) (n c : Nat) : Prop := (a = none ∧ n = 0 ∧ c = 0) ∨ ∃ g, a = some ⟨g, 0, none⟩ ∧ w.heap.size ≤ g ∧ Free w' g
/-- The cells of the first integers. -/
def kcs (ki : IntKind) (f : Nat → Int) : Nat → List Value
  | 0 => []
  | k + 1 => kcs ki f k ++ [.int ki (f k)]
theorem kcs_length (ki : IntKind) (f : Nat → Int) : ∀ k, (kcs ki f k).length = k
  | 0 => rfl
  | k + 1 => by unfold kcs; rw [List.length_append, kcs_length ki f k]; rfl
theorem kcs_get (ki : IntKind) (f : Nat → Int) : ∀ k j, j < k → (kcs ki f k)[j]? = some (.int ki (f j))
  | 0, j, h => absurd h (Nat.not_lt_zero _)
  | k + 1, j, h => by
    have hl := kcs_length ki f k
    unfold kcs
    rcases Nat.lt_or_ge j k with h1 | h1
    · rw [List.getElem?_append_left (by omega)]
      exact kcs_get ki f k j h1
    · obtain rfl : j = k := by omega
      rw [List.getElem?_append_right (by omega), hl, Nat.sub_self]
      rfl
theorem KRow.of_own {w : World} {base : Nat} {e : TypeId} {v : Value} {n : Nat} {ki : IntKind} {f : Nat → Int} (h : w.ownsRow base e 1 v n (kcs ki f n)) : ∃ a c, v = .slice a n c ∧ KRow w ki a n c f := by
  rcases h.2 with ⟨rfl, rfl⟩ | ⟨g, cap, cur, rfl, _, hh, h1, h2, _, hcs⟩
  · exact ⟨none, 0, rfl, KRow.nought _ _ _ _ (Nat.zero_le _) _⟩
  · refine ⟨some ⟨g, 0, none⟩, cap, rfl, h1, h2, .inr ⟨g, 0, rfl, Row.lt (t := e) hh, fun j hj => ?_⟩⟩
    have := h.cells (g := g) rfl j _ (kcs_get ki f n j hj)
    rwa [show (⟨g, 0, none⟩ : Addr).add j = ⟨g, 0 + j, none⟩ by unfold Addr.add; split <;> simp_all] at this
theorem own_below {w w' : World} {base : Nat} {e : TypeId} {size : Nat} {v : Value} {n : Nat} {xs : List Value} (h : w.ownsRow base e size v n xs) (hb : Below w.heap.size w w') : w'.ownsRow base e size v n xs := by
  refine h.kept (row := none) ⟨hb.os, hb.tape, hb.output, hb.size, fun k hk _ => hb.block k hk⟩ ?_
  cases v.ownBlock with
  | none => exact .inl rfl
  | some k => exact .inr (by simp)
theorem own_setCell {w : World} {base : Nat} {e : TypeId} {size : Nat} {v : Value} {n : Nat} {xs : List Value} (h : w.ownsRow base e size v n xs) (k o : Nat) (u : Value) (hk : some k ≠ v.ownBlock) : (w.setCell ⟨k, o, none⟩ u).ownsRow base e size v n xs :=
  h.kept (row := some k) ⟨rfl, rfl, rfl, by simp, fun j hj hne => (Far.setCell w k o u).block j (fun e => hne (by rw [e])) hj⟩ (.inr (fun e => hk e.symm))
theorem Bag.own {w0 w : World} {B : World → Prop} {base : Nat} {e : TypeId} {size : Nat} {v : Value} {n : Nat} {xs : List Value} (h : Bag w0 B w) (q : w.ownsRow base e size v n xs) : Bag w0 (fun y => y.ownsRow base e size v n xs ∧ B y) w := h.add (fun _ _ hb q => own_below q hb) q

end Go.Proofs.YtgpcfncolhmgfaaGreatDoor
