/-
  How a row reads a struct of a bool and two texts (api.Num).
-/
import Derived.Test.YthklcdcikmninaaGreatDoorRows
import Derived.Deep.Strs
import Derived.ProofKit
import Derived.OpenShut
namespace Go.Proofs.YthklcdcikmninaaGreatDoor
open Go.ChangeShapes Go.WideShapes Go.ChangeAt Go.RowKit Go.WideMaps Go.WideElems Go.Deep

theorem cellsNum : Tryz.prog.cellsOf 23 = 3 := by kernel_rfl
theorem cellsBool : Tryz.prog.cellsOf 4 = 1 := by kernel_rfl
theorem cellsStr : Tryz.prog.cellsOf 9 = 1 := by kernel_rfl

set_option maxRecDepth 100000 in
theorem open_num {H : Type} {enc : TypeId × Value → H} {W : World} {r : Reach} {b0 : Nat} {sp : Nat → Bool} {v0 : Value} {d0 : DataW H} {p0 : List MemPlace}
    (hv : Value.okWide Tryz.prog W r b0 23 v0) (h0 : DataW.Trod enc Tryz.prog W 0 sp true 23 v0 d0 p0) :
    ∃ (b : Bool) (s t : ByteArray), v0 = .agg #[.bool b, .string s, .string t] ∧ d0 = .agg [.lit (.bool b), .lit (.string s.data.toList), .lit (.string t.data.toList)] ∧ p0 = [] ∧ s.size ≤ maxLen ∧ t.size ≤ maxLen := by
  obtain ⟨cs, rfl, hsz⟩ := okWide_struct Tryz.underlying23 hv
  rw [cellsNum] at hsz
  obtain ⟨l⟩ := cs
  match l, hsz with
  | [c0, c1, c2], _ =>
  obtain ⟨fuel, hf⟩ := h0
  obtain ⟨y0, y1, y2, m, hx, _, hy0, hy1, hy2⟩ := trod_struct3 Tryz.underlying23 hf
  obtain ⟨b, e0, rfl⟩ := DataW.trod_bool Tryz.underlying4 hy0
  obtain ⟨s, e1, rfl, hs⟩ := DataW.trod_string Tryz.underlying9 hy1
  obtain ⟨t, e2, rfl, ht⟩ := DataW.trod_string Tryz.underlying9 hy2
  simp [Value.cells, cellsBool] at e0
  simp [Value.cells, cellsStr] at e1 e2
  subst e0 e1 e2
  simp only [Prod.mk.injEq] at hx
  obtain ⟨rfl, rfl⟩ := hx
  exact ⟨b, s, t, rfl, rfl, rfl, hs, ht⟩

set_option maxRecDepth 100000 in
theorem shut_num {H : Type} {enc : TypeId × Value → H} {W : World} {sp : Nat → Bool} {b : Bool} {s t : ByteArray} (hs : s.size ≤ maxLen) (ht : t.size ≤ maxLen) :
    DataW.Trod enc Tryz.prog W 0 sp true 23 (.agg #[.bool b, .string s, .string t]) (.agg [.lit (.bool b), .lit (.string s.data.toList), .lit (.string t.data.toList)]) [] :=
  ⟨2, by
    have f0 : DataW.trod enc Tryz.prog W 0 sp true 1 4 [.bool b] = some (.lit (.bool b), []) := by simp [DataW.trod, Tryz.underlying4]
    have f1 : DataW.trod enc Tryz.prog W 0 sp true 1 9 [.string s] = some (.lit (.string s.data.toList), []) := by simp [DataW.trod, Tryz.underlying9, hs]
    have f2 : DataW.trod enc Tryz.prog W 0 sp true 1 9 [.string t] = some (.lit (.string t.data.toList), []) := by simp [DataW.trod, Tryz.underlying9, ht]
    have := trod_struct3_mk (enc := enc) (w := W) (base := 0) (spare := sp) (held := true) (n := 1) (cs := [.bool b, .string s, .string t]) Tryz.underlying23 (by simp [cellsNum]) (by simpa [cellsBool] using f0) (by simpa [cellsStr] using f1) (by simpa [cellsStr] using f2)
    simpa [Value.cells] using this⟩

end Go.Proofs.YthklcdcikmninaaGreatDoor
