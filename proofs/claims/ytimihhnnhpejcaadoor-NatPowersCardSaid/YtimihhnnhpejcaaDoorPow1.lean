/-
  Package nat: Pow, by contract: pieces.
-/
import Derived.Test.YtimihhnnhpejcaaDoorNat23
import Derived.Test.YtimihhnnhpejcaaDoorRef8
namespace Go.Proofs.YtimihhnnhpejcaaDoor
open Go.RowKit

theorem NatIs.store {w : World} {v : Value} {N k : Nat} {x : Value} (h : NatIs w v N) (hs : w.cell? ⟨k, 0, none⟩ = some x) (hx : ∀ ki z, x ≠ .int ki z) (u : Value) : NatIs (w.setCell ⟨k, 0, none⟩ u) v N := by
  obtain ⟨a, n, c, f, rfl, ⟨h1, h2, h3, h4⟩, hv, ht⟩ := h
  refine ⟨a, n, c, f, rfl, ⟨h1, h2, h3, ?_⟩, hv, ht⟩
  rcases h4 with h4 | ⟨b, off, rfl, hb, hc⟩
  · exact .inl h4
  · refine .inr ⟨b, off, rfl, by simpa using hb, fun j hj => ?_⟩
    rw [World.cell?_setCell_other _ _ _ _ (fun e' => ?_)]
    · exact hc j hj
    · have h5 := hc j hj
      rw [show (⟨b, off + j, none⟩ : Addr) = ⟨k, 0, none⟩ from by first | exact e' | exact e'.symm, hs] at h5
      exact hx _ _ (Option.some.inj h5)

def PowTold (w w' : World) (e : Ending) (N : Nat) (b : Bool) : Prop := ∃ a n c, e = .returned (.tuple #[.agg #[.slice a n c], .bool b]) ∧ NatIs w' (.agg #[.slice a n c]) N ∧ Below w.heap.size w w'

/-- Within Pow: the base in its cell, and the answer's cell still empty. -/
structure PI (w wr : World) (x : Value) (X : Nat) : Prop where
  below : Below w.heap.size w wr
  s1 : Slot wr w.heap.size x
  s2 : Slot wr (w.heap.size + 1) (.slice none 0 0)
  xs : NatIs wr (.agg #[x]) X
theorem PI.go {w wr w2 : World} {x : Value} {X : Nat} (h : PI w wr x X) (hb : Below wr.heap.size wr w2) : PI w w2 x X :=
  ⟨h.below.trans (hb.mono h.below.size), h.s1.below hb, h.s2.below hb, h.xs.below hb⟩
theorem PI.done {w wr : World} {x : Value} {X : Nat} (h : PI w wr x X) {a : Option Addr} {n c N : Nat} (hv : NatIs wr (.agg #[.slice a n c]) N) (b : Bool) :
    PowTold w (wr.setCell ⟨w.heap.size + 1, 0, none⟩ (.slice a n c)) (.returned (.tuple #[.agg #[.slice a n c], .bool b])) N b :=
  ⟨a, n, c, rfl, hv.store h.s2.cell (fun _ _ h => by cases h) _, h.below.setCell (show w.heap.size ≤ w.heap.size + 1 by omega) _⟩
theorem PI.start {w : World} {a : Option Addr} {n c X : Nat} (h : NatIs w (.agg #[.slice a n c]) X) : PI w ((w.alloc (.cells #[.slice a n c] 25)).alloc (.cells #[.slice none 0 0] 25)) (.slice a n c) X :=
  have hb : Below w.heap.size w ((w.alloc (.cells #[.slice a n c] 25)).alloc (.cells #[.slice none 0 0] 25)) := ((Below.refl _ _).alloc (Nat.le_refl _) _).alloc (by rw [World.size_alloc]; omega) _
  ⟨hb, (Slot.new w _ _).alloc _, Slot.new1 w _ _ _, h.below hb⟩

set_option maxRecDepth 100000 in
theorem pow_one (v : Value) (X : Nat) (n most : Int) (w : World) (h : NatIs w v X) (hn : n ≤ 0 ∨ X = 1) :
    Calls Tryd.prog 42 #[v, .int .i64 n, .int .i64 most] w fun e w' => PowTold w w' e 1 true := by
  obtain ⟨a, k, c, f, rfl, hs, hv, ht⟩ := h
  have HP := Lib.hid (PI.start (w := w) ⟨a, k, c, f, rfl, hs, hv, ht⟩)
  have hON := Lib.hid (one_any (.agg #[.slice a k c]) X _ HP.out.xs)
  clear hs hv ht
  by_cases c1 : n ≤ 0
  · have d1 : decide (n ≤ 0) = true := decide_eq_true c1
    go_enter Tryd.func42, Tryd.ntmps42
    go_wp2_with fail
    go_at_call 24
    refine (of_told 1 _ (by omega)).mono ?_
    rintro e w3 ⟨a3, n3, c3, rfl, hn3, hb3⟩
    have HQ := HP.out.go hb3
    have hc := HQ.s2.cell
    have hf := HQ.s2.free
    have HE := Lib.hid (HQ.done hn3 true)
    clear HQ hn3 hb3
    go_wp2
    exact bodyPost_ret (v := .tuple #[.agg #[.slice a3 n3 c3], .bool true]) (by simp [results, Tryd.results42, go_sem, hc]) rfl HE.out
  · have d1 : decide (n ≤ 0) = false := decide_eq_false c1
    have hX1 : X = 1 := by omega
    rw [decide_eq_true hX1] at hON
    have hc0 := HP.out.s1.cell
    go_enter Tryd.func42, Tryd.ntmps42
    go_wp2_with fail
    go_at_call 18
    refine hON.out.mono ?_
    rintro e w2 ⟨rfl, hb2⟩
    have HP2 := Lib.hid (HP.out.go hb2)
    clear hb2 hc0
    go_wp2_with fail
    go_at_call 24
    refine (of_told 1 _ (by omega)).mono ?_
    rintro e w3 ⟨a3, n3, c3, rfl, hn3, hb3⟩
    have HQ := HP2.out.go hb3
    have hc := HQ.s2.cell
    have hf := HQ.s2.free
    have HE := Lib.hid (HQ.done hn3 true)
    clear HQ hn3 hb3
    go_wp2
    exact bodyPost_ret (v := .tuple #[.agg #[.slice a3 n3 c3], .bool true]) (by simp [results, Tryd.results42, go_sem, hc]) rfl HE.out

set_option maxRecDepth 100000 in
theorem pow_zero (v : Value) (n most : Int) (w : World) (h : NatIs w v 0) (hn : 0 < n) :
    Calls Tryd.prog 42 #[v, .int .i64 n, .int .i64 most] w fun e w' => PowTold w w' e 0 true := by
  obtain ⟨a, k, c, f, rfl, hs, hv, ht⟩ := h
  have HP := Lib.hid (PI.start (w := w) ⟨a, k, c, f, rfl, hs, hv, ht⟩)
  have hON := Lib.hid (one_any (.agg #[.slice a k c]) 0 _ HP.out.xs)
  have hZN := Lib.hid (fun wz h => zero_any (.agg #[.slice a k c]) 0 wz h)
  clear hs hv ht
  have d1 : decide (n ≤ 0) = false := decide_eq_false (by omega)
  have hc0 := HP.out.s1.cell
  go_enter Tryd.func42, Tryd.ntmps42
  go_wp2_with fail
  go_at_call 18
  refine hON.out.mono ?_
  rintro e w2 ⟨rfl, hb2⟩
  have HP2 := Lib.hid (HP.out.go hb2)
  have hc1 := HP2.out.s1.cell
  clear hb2 hc0
  go_wp2_with fail
  go_at_call 17
  refine (hZN.out _ HP2.out.xs).mono ?_
  rintro e w3 ⟨rfl, hb3⟩
  have HQ := HP2.out.go hb3
  have hc := HQ.s2.cell
  have hf := HQ.s2.free
  have HE := Lib.hid (HQ.done (NatIs.zero _) true)
  clear HQ hb3
  go_wp2
  exact bodyPost_ret (v := .tuple #[.agg #[.slice none 0 0], .bool true]) (by simp [results, Tryd.results42, go_sem, hc]) rfl HE.out

end Go.Proofs.YtimihhnnhpejcaaDoor
