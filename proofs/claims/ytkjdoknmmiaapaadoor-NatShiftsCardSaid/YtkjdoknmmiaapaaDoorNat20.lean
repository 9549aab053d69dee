/-
  slices.Reverse over a row of bytes, by contract; the digits of a number in groups.
-/
import Derived.Test.YtkjdoknmmiaapaaDoorNat19
import Derived.Laws.BytesArg
namespace Go.Proofs.YtkjdoknmmiaapaaDoor
open Go.RowKit

def RevI (w wr : World) (g n : Nat) (f : Nat → Nat) (i : Nat) : Prop := Wrote g 0 n w wr ∧ Free wr g ∧ ∃ d, Cells wr .u8 g 0 n d ∧ (∀ j, j < i → d j = f (n - 1 - j)) ∧ (∀ j, i ≤ j → j + i < n → d j = f j) ∧ (∀ j, n ≤ j + i → j < n → d j = f (n - 1 - j))

theorem RevI.next {w wr wr' : World} {g n : Nat} {f : Nat → Nat} {i j : Nat} (h : RevI w wr g n f i) (hij : i < j) (hj : j + i + 1 = n) (hw : Wrote g 0 n wr wr') (hf : Free wr' g)
    (hc : ∀ d, Cells wr .u8 g 0 n d → Cells wr' .u8 g 0 n (fun k => if k = i then f j else if k = j then f i else d k)) : RevI w wr' g n f (i + 1) := by
  obtain ⟨h1, h2, d, h3, h4, h5, h6⟩ := h
  refine ⟨h1.trans hw, hf, _, hc d h3, fun k hk => ?_, fun k h7 h8 => ?_, fun k h7 h8 => ?_⟩
  · by_cases e : k = i
    · subst e; rw [if_pos rfl]; congr 1; omega
    · rw [if_neg e, if_neg (by omega)]; exact h4 k (by omega)
  · rw [if_neg (by omega), if_neg (by omega)]; exact h5 k (by omega) (by omega)
  · by_cases e : k = j
    · subst e; rw [if_neg (by omega), if_pos rfl]; congr 1; omega
    · rw [if_neg (by omega), if_neg e]; exact h6 k (by omega) h8

theorem cells_swap {wr : World} {g n i j x y : Nat} {d : Nat → Nat} (h : Cells wr .u8 g 0 n d) (hi : i < n) (hj : j < n) (hij : i ≠ j) :
    Cells ((wr.setCell ⟨g, i, none⟩ (.int .u8 x)).setCell ⟨g, j, none⟩ (.int .u8 y)) .u8 g 0 n (fun k => if k = i then x else if k = j then y else d k) ∧
    Cells ((wr.setCell ⟨g, j, none⟩ (.int .u8 y)).setCell ⟨g, i, none⟩ (.int .u8 x)) .u8 g 0 n (fun k => if k = i then x else if k = j then y else d k) := by
  have a1 := (h.set (k := i) (x := x) hi).set (k := j) (x := y) hj
  have a2 := (h.set (k := j) (x := y) hj).set (k := i) (x := x) hi
  rw [Nat.zero_add, Nat.zero_add] at a1 a2
  refine ⟨?_, ?_⟩
  · intro k hk
    rw [a1 k hk]
    by_cases e : k = i
    · subst e; simp [hij]
    · simp [e]
  · intro k hk
    rw [a2 k hk]

set_option maxHeartbeats 1600000 in
set_option maxRecDepth 100000 in
theorem reverse_any (g n c : Nat) (f : Nat → Nat) (w : World) (hc : Cells w .u8 g 0 n f) (hf : Free w g) (hn : n ≤ 10000000) :
    Calls Tryd.prog 75 #[.slice (some ⟨g, 0, none⟩) n c] w fun e w' => e = .returned (.tuple #[]) ∧ Hid (Wrote g 0 n w w' ∧ Free w' g ∧ Cells w' .u8 g 0 n (fun j => f (n - 1 - j))) := by
  have H0 : RevI w w g n f 0 := ⟨Wrote.refl _ _ _ _, hf, f, hc, fun _ h => by omega, fun _ _ _ => rfl, fun _ h1 h2 => by omega⟩
  clear hc hf
  go_enter Tryd.func75, Tryd.ntmps75
  go_wp2
  go_loopw [2, 3] (fun a b wr => ∃ (i : Nat) (j : Int), a = .int .i64 i ∧ b = .int .i64 j ∧ j = (n : Int) - 1 - (i : Int) ∧ (i : Int) ≤ j + 2 ∧ RevI w wr g n f i)
    (fun a b _ => (intOf b + 2 - intOf a).toNat)
  case atStart => exact ⟨0, _, rfl, rfl, by omega, by omega, H0⟩
  case round =>
    obtain ⟨i, jj, rfl, rfl, hj, hij, hr⟩ := hrel
    by_cases hlt : (i : Int) < jj
    · obtain ⟨j, rfl⟩ : ∃ j : Nat, jj = (j : Int) := ⟨jj.toNat, by omega⟩
      have hlt' : i < j := by omega
      have hjn : j + i + 1 = n := by omega
      obtain ⟨h1, h2, d, h3, h4, h5, h6⟩ := hr
      have hci := h3 i (by omega)
      have hcj := h3 j (by omega)
      rw [Nat.zero_add] at hci hcj
      rw [h5 i (Nat.le_refl _) (by omega)] at hci
      rw [h5 j (by omega) (by omega)] at hcj
      have hfi := h2 i
      have hfj := h2 j
      have hr : RevI w wr g n f i := ⟨h1, h2, d, h3, h4, h5, h6⟩
      have sw := fun d hd => cells_swap (wr := wr) (g := g) (n := n) (i := i) (j := j) (x := f j) (y := f i) (d := d) hd (by omega) (by omega) (by omega)
      have hw1 : Wrote g 0 n wr ((wr.setCell ⟨g, i, none⟩ (.int .u8 (f j))).setCell ⟨g, j, none⟩ (.int .u8 (f i))) := ((Wrote.refl g 0 n wr).setCell (Nat.zero_le _) (by omega) _).setCell (Nat.zero_le _) (by omega) _
      have hw2 : Wrote g 0 n wr ((wr.setCell ⟨g, j, none⟩ (.int .u8 (f i))).setCell ⟨g, i, none⟩ (.int .u8 (f j))) := ((Wrote.refl g 0 n wr).setCell (Nat.zero_le _) (by omega) _).setCell (Nat.zero_le _) (by omega) _
      have N1 := Lib.hid (RevI.next hr hlt' hjn hw1.drew ((h2.set _ _).set _ _) (fun d hd => (sw d hd).1))
      have N2 := Lib.hid (RevI.next hr hlt' hjn hw2.drew ((h2.set _ _).set _ _) (fun d hd => (sw d hd).2))
      have n1 : (⟨g, i, none⟩ : Addr) ≠ ⟨g, j, none⟩ := by intro e; simp only [Addr.mk.injEq] at e; omega
      have n2 : (⟨g, j, none⟩ : Addr) ≠ ⟨g, i, none⟩ := by intro e; simp only [Addr.mk.injEq] at e; omega
      have g1 : (wr.setCell ⟨g, i, none⟩ (.int .u8 (f j))).cell? ⟨g, j, none⟩ = some (.int .u8 (f j)) := by rw [World.cell?_setCell_other _ _ _ _ n1]; exact hcj
      have g2 : (wr.setCell ⟨g, j, none⟩ (.int .u8 (f i))).cell? ⟨g, i, none⟩ = some (.int .u8 (f i)) := by rw [World.cell?_setCell_other _ _ _ _ n2]; exact hci
      clear sw hw1 hw2 hr h1 h2 h3 h4 h5 h6 n1 n2
      generalize f i = x at *
      generalize f j = y at *
      have i0 : (0 : Int) ≤ (i : Int) := by omega
      have i1 : (i : Int) < (n : Int) := by omega
      have j1 : (j : Int) < (n : Int) := by omega
      have j0 : (0 : Int) ≤ (j : Int) := by omega
      have HJN := Lib.hid hjn
      clear hj hij hjn
      go_wp2
      go_region
      all_goals
        go_wp2
        go_roundw
        case rel =>
          have hjn := HJN.out
          exact ⟨i + 1, (j : Int) - 1, by go_num, rfl, by omega, by omega, by first | exact N1.out | exact N2.out⟩
        case measure => simp [intOf]; omega
    · have hE : Hid (Wrote g 0 n w wr ∧ Free wr g ∧ Cells wr .u8 g 0 n (fun j => f (n - 1 - j))) := by
        obtain ⟨h1, h2, d, h3, h4, h5, h6⟩ := hr
        refine ⟨h1, h2, fun k hk => ?_⟩
        rw [h3 k hk]
        by_cases e1 : k < i
        · rw [h4 k e1]
        · by_cases e2 : n ≤ k + i
          · rw [h6 k e2 hk]
          · rw [h5 k (by omega) (by omega)]
            congr 4; omega
      clear hr
      go_wp2
      go_end0
      exact ⟨rfl, hE⟩

end Go.Proofs.YtkjdoknmmiaapaaDoor
