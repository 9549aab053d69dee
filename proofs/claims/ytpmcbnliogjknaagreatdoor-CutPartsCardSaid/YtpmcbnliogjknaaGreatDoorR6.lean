/-
  Texts of this seat, laid together.
-/
import Derived.Laws.BytesArg
import Derived.Lib.SliceRun
import Derived.Lib.Walk
import Derived.Deep.RegionHeld3
import Derived.Below
import Derived.WalkKit
import Derived.WalkSpells
import Derived.Deep.Draws
import Derived.Lib.Hide
import Derived.Lib.TrimByte
import Derived.WalkLawsBesides
import Derived.Laws.CopyOwn
import Derived.Deep.QuietTactic
import Derived.BigQuiet
import Derived.BigRegion
import Derived.RegionTactic
import Derived.Deep.RegionWith
import Derived.StillTailTactics
import Derived.IntWalk
import Derived.Test.YtpmcbnliogjknaaGreatDoorRows
import Derived.Deep.AppendLies
import Derived.Deep.RegionLaw
import Derived.Laws.StructEq
import Derived.ChangeKeysEq
import Derived.Shelf.Abstract
import Derived.Deep.DrawnRows
import Derived.Laws.BitsLemmas
import Derived.Lib.ItoaNum
import Derived.Test.YtpmcbnliogjknaaGreatDoorShelf
import Derived.Laws.OwnMore
import Derived.Lib.AppendZeros
import Derived.Laws.AppendOwnNone
import Derived.Deep.MidRow
import Derived.Laws.EntriesVeiled
import Derived.ProofKit
import Derived.Carry
import Derived.Deep.Strs
import Derived.OpenShut
import Derived.Deep.Slices
import Derived.Lib.SmallJoins
import Derived.Test.YtpmcbnliogjknaaGreatDoorQ1
import Derived.Test.YtpmcbnliogjknaaGreatDoorQ2
import Derived.Test.YtpmcbnliogjknaaGreatDoorQ3
import Derived.Test.YtpmcbnliogjknaaGreatDoorQ4
import Derived.Test.YtpmcbnliogjknaaGreatDoorQ5
import Derived.Test.YtpmcbnliogjknaaGreatDoorQ6
import Derived.Test.YtpmcbnliogjknaaGreatDoorQ7
import Derived.Test.YtpmcbnliogjknaaGreatDoorQ8
import Derived.Test.YtpmcbnliogjknaaGreatDoorQ9
import Derived.Test.YtpmcbnliogjknaaGreatDoorQ10
import Derived.Test.YtpmcbnliogjknaaGreatDoorR1
import Derived.Test.YtpmcbnliogjknaaGreatDoorR2
import Derived.Test.YtpmcbnliogjknaaGreatDoorR4
import Derived.Test.YtpmcbnliogjknaaGreatDoorR5

namespace Go.Proofs.YtpmcbnliogjknaaGreatDoor
open Go.RowKit
theorem rPart_yes (drop : Bool) (hdr : drop = true) (cs0 : Array Value) (S0 : Nat → Int) (r0 : Nat) (ch0 : Bool) (L0 : Nat) (g0 : Nat → Int) (fB0 : Nat → Bool) (fS0 fT0 : Nat → ByteArray) (P0 : Nat → Int) (Q0 : Nat → Nat) (cs : Array Value) (S : Nat → Int) (r : Nat) (ch : Bool) (L : Nat) (g : Nat → Int) (fB : Nat → Bool) (fS fT : Nat → ByteArray) (w : World)
    (h0 : Pln w cs0 S0 r0 ch0 L0 g0 fB0 fS0 fT0) (hN0 : NumOk fB0 fS0 fT0 P0 Q0 (nnO ch0 L0)) (hL0 : L0 ≤ 4096) (h : Pln w cs S r ch L g fB fS fT) (hsh : shB S r = true) (hL : L ≤ 1000000) :
    Calls Tryz.prog 10 #[.agg cs0, .agg cs, .bool drop] w fun e w' => PoTold (paE drop 5000 r0 ch0 L0 P0 Q0 S r) (lnF (paN drop 5000 P0 (paS r S))) L0 ch (itm (lnF (paN drop 5000 P0 (paS r S))) L0).toNat (fun j => elC L g 32 (pkG (paS r S) (lnF (paN drop 5000 P0 (paS r S))) L0 (paF drop 5000 P0 (paS r S)) j)) (fun j => elB L fB (pkG (paS r S) (lnF (paN drop 5000 P0 (paS r S))) L0 (paF drop 5000 P0 (paS r S)) j)) (fun j => elS L fS (rS 0) (pkG (paS r S) (lnF (paN drop 5000 P0 (paS r S))) L0 (paF drop 5000 P0 (paS r S)) j)) (fun j => elS L fT (str (dec 1)) (pkG (paS r S) (lnF (paN drop 5000 P0 (paS r S))) L0 (paF drop 5000 P0 (paS r S)) j)) w w' e := by
  by_cases hx : r = 0 ∨ L0 = 0
  · exact rPart_y0 drop hdr cs0 S0 r0 ch0 L0 g0 fB0 fS0 fT0 P0 Q0 cs S r ch L g fB fS fT w hx h0 hN0 hL0 h hsh hL
  · exact rPart_y1 drop hdr cs0 S0 r0 ch0 L0 g0 fB0 fS0 fT0 P0 Q0 cs S r ch L g fB fS fT w ⟨fun e => hx (.inl e), by omega⟩ h0 hN0 hL0 h hsh hL
end Go.Proofs.YtpmcbnliogjknaaGreatDoor

namespace Go.Proofs.YtpmcbnliogjknaaGreatDoor
open Go.ChangeShapes Go.WideShapes Go.ChangeAt Go.RowKit
theorem in64_of {f : Nat → Int} {n : Nat} (h : ∀ j, j < n → (Lit.int .i64 (f j)).wf = true) : In64 f n := fun j hj => by
  simpa [Lit.wf, IntKind.min, IntKind.max, IntKind.signed, IntKind.bits] using h j hj
section
variable {H : Type} {enc : TypeId × Value → H} {P : Program} {w : World} {base : Nat} {spare : Nat → Bool} {held : Bool}
end
end Go.Proofs.YtpmcbnliogjknaaGreatDoor

namespace Go.Proofs.YtpmcbnliogjknaaGreatDoor
open Go.ChangeShapes Go.WideShapes Go.ChangeAt Go.RowKit Go.WideMaps Go.WideElems Go.Deep
theorem cellsNum : Tryz.prog.cellsOf 82 = 3 := by kernel_rfl
theorem cellsBool : Tryz.prog.cellsOf 4 = 1 := by kernel_rfl
theorem cellsStr : Tryz.prog.cellsOf 9 = 1 := by kernel_rfl
end Go.Proofs.YtpmcbnliogjknaaGreatDoor

namespace Go.Proofs.YtpmcbnliogjknaaGreatDoor
open Go.ChangeShapes Go.WideShapes Go.ChangeAt Go.RowKit Go.WideMaps Go.WideElems Go.Deep Go.Joins
theorem krow_cells {H : Type} {enc : TypeId × Value → H} {P : Program} {w : World} {base : Nat} {t e : TypeId} {ki : IntKind} {cs : List Value} {fuel : Nat} {x : DataW H × List MemPlace} (ht : P.underlying t = some (.slice e)) (he : P.underlying e = some (.int ki)) (hc : P.cellsOf e = 1)
    (h : DataW.trod enc P w base (fun _ => true) true fuel t cs = some x) :
    ∃ a n c f, cs = [.slice a n c] ∧ KRow w ki a n c f ∧ ∀ j, j < n → (Lit.int ki (f j)).wf = true := by
  rcases open_ints ht he hc h with ⟨hcs, _⟩ | ⟨a, len, cap, zs, hcs, _, hl, hmx, hz, _, hcell, hwz⟩
  · exact ⟨none, 0, 0, fun _ => 0, hcs, ⟨Nat.le_refl _, Nat.zero_le _, .inl rfl⟩, fun j hj => absurd hj (Nat.not_lt_zero _)⟩
  · simp only [if_true] at hz
    refine ⟨some a, len, cap, fun j => zs.getD j 0, hcs, ⟨hl, hmx, ?_⟩, fun j hj => ?_⟩
    · rcases Nat.eq_zero_or_pos len with h0 | h0
      · exact .inl h0
      · obtain ⟨b, off, spot⟩ := a
        have hspot : spot = none := by simpa [Addr.add] using World.cell?_spot (hcell 0 (by omega))
        subst hspot
        have h1 : ∀ j, j < zs.length → w.cell? ⟨b, off + j, none⟩ = some (.int ki (zs.getD j 0)) := fun j hj => by rw [← add_plain]; exact hcell j hj
        exact .inr ⟨b, off, rfl, World.block_lt_of_cell? w _ (h1 0 (by omega)), fun j hj => h1 j (by omega)⟩
    · refine hwz _ ?_
      have : zs.getD j 0 = zs[j]'(by omega) := by simp [List.getD, show j < zs.length by omega]
      show zs.getD j 0 ∈ zs
      rw [this]
      exact List.getElem_mem _
set_option maxRecDepth 100000 in
theorem qrow_cells {H : Type} {enc : TypeId × Value → H} {w : World} {base : Nat} {cs : List Value} {fuel : Nat} {x : DataW H × List MemPlace}
    (h : DataW.trod enc Tryz.prog w base (fun _ => true) true fuel 24 cs = some x) :
    ∃ a n c fB fS fT, cs = [.slice a n c] ∧ QRow w a n c fB fS fT ∧ ∀ j, j < n → (fS j).size ≤ maxLen ∧ (fT j).size ≤ maxLen := by
  rcases open_slice Tryz.underlying24 h with ⟨hcs, _⟩ | ⟨a, len, cap, m, n, D, Pl, hcs, hb, hl, hm, hmm, rfl, hx⟩
  · exact ⟨none, 0, 0, fun _ => false, fun _ => ⟨#[]⟩, fun _ => ⟨#[]⟩, hcs, QRow.nought _ _ _ (Nat.zero_le _) _ _ _, fun j hj => absurd hj (Nat.not_lt_zero _)⟩
  · simp only [if_true] at hmm
    subst hmm
    obtain ⟨b, off, spot⟩ := a
    rcases Nat.eq_zero_or_pos len with h0 | h0
    · subst h0
      exact ⟨_, 0, _, fun _ => false, fun _ => ⟨#[]⟩, fun _ => ⟨#[]⟩, hcs, QRow.nought _ _ _ hm _ _ _, fun j hj => absurd hj (Nat.not_lt_zero _)⟩
    have each : ∀ i, i < m → ∃ q : Bool × ByteArray × ByteArray, w.cell? ((⟨b, off, spot⟩ : Addr).add (i * 3)) = some (.bool q.1) ∧ w.cell? ((⟨b, off, spot⟩ : Addr).add (i * 3 + 1)) = some (.string q.2.1) ∧ w.cell? ((⟨b, off, spot⟩ : Addr).add (i * 3 + 2)) = some (.string q.2.2) ∧ q.2.1.size ≤ maxLen ∧ q.2.2.size ≤ maxLen := by
      intro i hi
      obtain ⟨cs', h1, h2⟩ := hx i hi
      rw [cellsNum] at h1
      obtain ⟨_, hlen, hcell⟩ := World.cells?_some h1
      obtain ⟨y0, y1, y2, k, hxx, _, hy0, hy1, hy2⟩ := trod_struct3 Tryz.underlying82 h2
      match cs', hlen with
      | [c0, c1, c2], _ =>
        obtain ⟨u, e0, rfl⟩ := DataW.trod_bool Tryz.underlying4 hy0
        obtain ⟨s, e1, rfl, hs⟩ := DataW.trod_string Tryz.underlying9 hy1
        obtain ⟨t, e2, rfl, ht⟩ := DataW.trod_string Tryz.underlying9 hy2
        simp [cellsBool] at e0
        simp [cellsStr] at e1 e2
        subst e0 e1 e2
        have g0 := hcell 0 (by omega)
        have g1 := hcell 1 (by omega)
        have g2 := hcell 2 (by omega)
        rw [add_add] at g0 g1 g2
        exact ⟨(u, s, t), by simpa using g0, by simpa using g1, by simpa using g2, hs, ht⟩
    obtain ⟨q, hq⟩ := choose_lt each
    have hspot : spot = none := by simpa [Addr.add] using World.cell?_spot (hq 0 (by omega)).1
    subst hspot
    refine ⟨_, _, _, fun j => (q j).1, fun j => (q j).2.1, fun j => (q j).2.2, hcs, ⟨hl, hm, .inr ⟨b, off, rfl, ?_, fun j hj => ?_⟩⟩, fun j hj => ⟨(hq j (by omega)).2.2.2.1, (hq j (by omega)).2.2.2.2⟩⟩
    · exact World.block_lt_of_cell? w ⟨b, off + 0 * 3, none⟩ (by rw [← add_plain]; exact (hq 0 (by omega)).1)
    · have := hq j (by omega)
      simp only [add_plain] at this
      exact ⟨this.1, this.2.1, this.2.2.1⟩
theorem cellsPln : Tryz.prog.cellsOf 26 = 4 := by kernel_rfl
theorem cellsSlI : Tryz.prog.cellsOf 22 = 1 := by kernel_rfl
theorem cellsSlR : Tryz.prog.cellsOf 23 = 1 := by kernel_rfl
theorem cellsSlN : Tryz.prog.cellsOf 24 = 1 := by kernel_rfl
theorem cellsI : Tryz.prog.cellsOf 3 = 1 := by kernel_rfl
theorem cellsC : Tryz.prog.cellsOf 21 = 1 := by kernel_rfl
set_option maxRecDepth 100000 in
theorem open_pln {H : Type} {enc : TypeId × Value → H} {W : World} {r : Reach} {b0 : Nat} {v0 : Value} {d0 : DataW H} {p0 : List MemPlace}
    (hv : Value.okWide Tryz.prog W r b0 26 v0) (h0 : DataW.Trod enc Tryz.prog W 0 (fun _ => true) true 26 v0 d0 p0) :
    ∃ cs S q ch g tn fB fS fT nn, v0 = .agg cs ∧ PlnAt W cs S q ch g tn fB fS fT nn ∧ In64 S q ∧ ∀ j, j < nn → (fS j).size ≤ maxLen ∧ (fT j).size ≤ maxLen := by
  obtain ⟨cs, rfl, hsz⟩ := okWide_struct Tryz.underlying26 hv
  rw [cellsPln] at hsz
  obtain ⟨l⟩ := cs
  match l, hsz with
  | [c0, c1, c2, c3], _ =>
  obtain ⟨fuel, hf⟩ := h0
  obtain ⟨y0, y1, y2, y3, m, hx, _, hy0, hy1, hy2, hy3⟩ := trod_struct4 Tryz.underlying26 hf
  obtain ⟨sa, r, sc, S, e0, k0, w0⟩ := krow_cells (ki := .i64) Tryz.underlying22 Tryz.underlying3 cellsI hy0
  obtain ⟨ch, e1, rfl⟩ := DataW.trod_bool Tryz.underlying4 hy1
  obtain ⟨ta, tn, tc, g, e2, k2, w2⟩ := krow_cells (ki := .i32) Tryz.underlying23 Tryz.underlying21 cellsC hy2
  obtain ⟨na, nn, nc, fB, fS, fT, e3, k3, w3⟩ := qrow_cells hy3
  simp [Value.cells, cellsSlI] at e0
  simp [Value.cells, cellsBool] at e1
  simp [Value.cells, cellsSlR] at e2
  simp [Value.cells, cellsSlN] at e3
  subst e0 e1 e2 e3
  exact ⟨_, S, r, ch, g, tn, fB, fS, fT, nn, rfl, ⟨sa, sc, ta, tc, na, nc, rfl, k0, k2, k3⟩, in64_of w0, w3⟩
end Go.Proofs.YtpmcbnliogjknaaGreatDoor
