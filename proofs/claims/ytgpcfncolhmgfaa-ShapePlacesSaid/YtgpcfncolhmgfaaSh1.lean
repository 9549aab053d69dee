/-
  Package shape and the document's layer 7: where an element lies: Place, by contract.
-/
import Derived.Test.YtgpcfncolhmgfaaSh0
namespace Go.Proofs.Ytgpcfncolhmgfaa
open Go.RowKit

/-- The place of an index. -/
def plc (f g : Nat → Int) : Nat → Int
  | 0 => 0
  | k + 1 => plc f g k * f k + g k
/-- The first numbers are within the axes. -/
def inB (f g : Nat → Int) : Nat → Bool
  | 0 => true
  | k + 1 => inB f g k && (decide (0 ≤ g k) && decide (g k < f k))
theorem inB_le {f g : Nat → Int} : ∀ {k m : Nat}, k ≤ m → inB f g m = true → inB f g k = true := by
  intro k m
  induction m with
  | zero => intro h h2; obtain rfl : k = 0 := by omega
            exact h2
  | succ m ih =>
    intro h h2
    rcases Nat.lt_or_ge k (m + 1) with h3 | h3
    · refine ih (by omega) ?_
      unfold inB at h2
      rw [Bool.and_eq_true] at h2
      exact h2.1
    · obtain rfl : k = m + 1 := by omega
      exact h2
theorem inB_at {f g : Nat → Int} {n j : Nat} (h : inB f g n = true) (hj : j < n) : 0 ≤ g j ∧ g j < f j := by
  have h1 := inB_le (show j + 1 ≤ n by omega) h
  unfold inB at h1
  rw [Bool.and_eq_true, Bool.and_eq_true, decide_eq_true_eq, decide_eq_true_eq] at h1
  exact h1.2
theorem inB_no {f g : Nat → Int} {n j : Nat} (hj : j < n) (h : ¬ (0 ≤ g j ∧ g j < f j)) : inB f g n = false := by
  cases hx : inB f g n with
  | false => rfl
  | true => exact absurd (inB_at hx hj) h
theorem plc_bd {f g : Nat → Int} : ∀ {k : Nat}, axB f k = true → inB f g k = true → 0 ≤ plc f g k ∧ plc f g k < itm f k := by
  intro k
  induction k with
  | zero => intro _ _; exact ⟨Int.le_refl _, by show (0 : Int) < 1; omega⟩
  | succ k ih =>
    intro h1 h2
    have h3 := inB_at h2 (show k < k + 1 by omega)
    obtain ⟨i1, i2⟩ := ih (ax_le (by omega) h1) (inB_le (by omega) h2)
    have h4 : (plc f g k + 1) * f k ≤ itm f k * f k := Int.mul_le_mul_of_nonneg_right (by omega) (by omega)
    have h5 : 0 ≤ plc f g k * f k := Int.mul_nonneg i1 (by omega)
    rw [Int.add_mul, Int.one_mul] at h4
    show 0 ≤ plc f g k * f k + g k ∧ plc f g k * f k + g k < itm f k * f k
    omega

/-- Has a shape this index? -/
def plB (f : Nat → Int) (n : Nat) (g : Nat → Int) (m : Nat) : Bool := shB f n && (decide (n = m) && inB f g n)
def plI (f : Nat → Int) (n : Nat) (g : Nat → Int) (m : Nat) : Int := if plB f n g m then plc f g n else 0
/-- What Place answers. -/
def PlTold (f : Nat → Int) (n : Nat) (g : Nat → Int) (m : Nat) (w w' : World) (e : Ending) : Prop := e = .returned (.tuple #[.int .i64 (plI f n g m), .bool (plB f n g m)]) ∧ Below w.heap.size w w'
theorem PlTold.no {f g : Nat → Int} {n m : Nat} {w w' : World} (hb : Below w.heap.size w w') (h : plB f n g m = false) : PlTold f n g m w w' (.returned (.tuple #[.int .i64 0, .bool false])) := by
  refine ⟨?_, hb⟩
  unfold plI
  rw [h]
  rfl
theorem PlTold.yes {f g : Nat → Int} {n : Nat} {w w' : World} (hb : Below w.heap.size w w') (h : shB f n = true) (h2 : inB f g n = true) : PlTold f n g n w w' (.returned (.tuple #[.int .i64 (plc f g n), .bool true])) := by
  have : plB f n g n = true := by unfold plB; rw [h, h2, decide_eq_true rfl]; rfl
  refine ⟨?_, hb⟩
  unfold plI
  rw [this]
  rfl

set_option maxHeartbeats 1600000 in
set_option maxRecDepth 100000 in
theorem place_any (a : Option Addr) (n c : Nat) (f : Nat → Int) (a2 : Option Addr) (m c2 : Nat) (g : Nat → Int) (w : World) (h : KRow w .i64 a n c f) (hf : In64 f n) (h2 : KRow w .i64 a2 m c2 g) (hg : In64 g m) :
    Calls Try.prog 17 #[.slice a n c, .slice a2 m c2] w fun e w' => PlTold f n g m w w' e := by
  have hl := h.len
  have hl2 := h2.len
  have CN := Lib.hid (fun wz (h : KRow wz .i64 a n c f) => count_any a n c f wz h hf)
  unfold CntTold at CN
  have H := Lib.hid h
  have H2 := Lib.hid h2
  have HG := Lib.hid hg
  clear h h2 hf hg
  cases hs : shB f n with
  | false =>
    have HE := Lib.hid (fun wz (hb : Below w.heap.size w wz) => PlTold.no (f := f) (n := n) (g := g) (m := m) hb (by unfold plB; rw [hs]; rfl))
    rw [hs] at CN
    generalize cntI f n = x at *
    clear hs
    go_enter Try.func17, Try.ntmps17
    go_wp2_with fail
    go_at_call 27
    (with_reducible refine (CN.out _ H.out).mono ?_)
    rintro e w1 ⟨rfl, rfl⟩
    go_wp2
    go_ret2
    exact HE.out _ (Below.refl _ _)
  | true =>
    rw [hs] at CN
    generalize cntI f n = x at *
    have HS := Lib.hid hs
    clear hs
    by_cases hnm : m = n
    · subst hnm
      have dn : ((m : Int) != m) = false := bne_self_eq_false _
      go_enter Try.func17, Try.ntmps17
      go_wp2_with fail
      go_at_call 27
      (with_reducible refine (CN.out _ H.out).mono ?_)
      rintro e w1 ⟨rfl, rfl⟩
      go_wp2
      go_loopw [8, 27] (fun t i wr => ∃ k : Nat, k ≤ m ∧ i = .int .i64 k ∧ t = .int .i64 (plc f g k) ∧ Hid (inB f g k = true ∧ Below w.heap.size w wr)) (fun _ i _ => m - (intOf i).toNat)
      case atStart => exact ⟨0, by omega, rfl, rfl, rfl, Below.refl _ _⟩
      case round =>
        obtain ⟨k, hk, rfl, rfl, hrel⟩ := hrel
        obtain ⟨hin, hbl⟩ := hrel.out
        have hax := (sh_ax HS.out).2
        by_cases hlt : k < m
        · obtain ⟨b, off, rfl, hb, hc⟩ := (H.out.below hbl).get hlt
          obtain ⟨b2, off2, rfl, hb2, hc2⟩ := (H2.out.below hbl).get hlt
          have HBL := Lib.hid hbl
          have hk0 : (0 : Int) ≤ k := by omega
          have hk1 : (k : Int) < m := by omega
          by_cases h0 : g k < 0
          · have HN := Lib.hid (PlTold.no (f := f) (n := m) (g := g) (m := m) (w := w) (w' := wr) hbl (by unfold plB; rw [inB_no hlt (by omega), Bool.and_false, Bool.and_false]))
            clear hbl hin hax hrel
            generalize plc f g k = t at *
            generalize g k = y at *
            generalize f k = x' at *
            go_wp2
            go_ret2
            exact HN.out
          · by_cases h1 : f k ≤ g k
            · have HN := Lib.hid (PlTold.no (f := f) (n := m) (g := g) (m := m) (w := w) (w' := wr) hbl (by unfold plB; rw [inB_no hlt (by omega), Bool.and_false, Bool.and_false]))
              clear hbl hin hax hrel
              generalize plc f g k = t at *
              generalize g k = y at *
              generalize f k = x' at *
              go_wp2
              go_ret2
              exact HN.out
            · have hin' : inB f g (k + 1) = true := by unfold inB; rw [hin, decide_eq_true (show 0 ≤ g k by omega), decide_eq_true (show g k < f k by omega)]; rfl
              have hpb := plc_bd (ax_le (show k + 1 ≤ m by omega) hax) hin'
              have hpb0 := plc_bd (ax_le (show k ≤ m by omega) hax) hin
              have hit := (ax_bd (ax_le (show k + 1 ≤ m by omega) hax)).2.2.2
              have hrm := (ax_bd (ax_le (show k + 1 ≤ m by omega) hax)).2.1
              have e2 : plc f g (k + 1) = plc f g k * f k + g k := rfl
              rw [e2] at hpb
              have hm0 : 0 ≤ plc f g k * f k := Int.mul_nonneg hpb0.1 (by omega)
              have E2 := Lib.hid e2
              have w1 := IntWalk.i64_in (plc f g k * f k) (by omega)
              have w2 := IntWalk.i64_in (plc f g k * f k + g k) (by omega)
              have HN := Lib.hid (And.intro hin' hbl)
              clear hbl hin hin' hax hrel e2 hpb hpb0 hit hrm hm0
              generalize plc f g k = t at *
              generalize g k = y at *
              generalize f k = x' at *
              go_wp2
              go_roundw
              case rel => exact ⟨k + 1, by omega, by go_num, vint E2.out.symm, HN.out⟩
              case measure => simp [intOf]; omega
        · obtain rfl : k = m := by omega
          have HY := Lib.hid (PlTold.yes (w := w) hbl HS.out hin)
          generalize plc f g k = t at *
          clear hbl hin hax hrel
          go_wp2
          go_ret2
          exact HY.out
    · have dn : ((m : Int) != n) = true := bne_iff_ne.2 (by omega)
      have HE := Lib.hid (PlTold.no (f := f) (n := n) (g := g) (m := m) (Below.refl w.heap.size w) (by unfold plB; rw [decide_eq_false (Ne.symm hnm), Bool.false_and, Bool.and_false]))
      clear hnm
      go_enter Try.func17, Try.ntmps17
      go_wp2_with fail
      go_at_call 27
      (with_reducible refine (CN.out _ H.out).mono ?_)
      rintro e w1 ⟨rfl, rfl⟩
      go_wp2
      go_ret2
      exact HE.out

end Go.Proofs.Ytgpcfncolhmgfaa
