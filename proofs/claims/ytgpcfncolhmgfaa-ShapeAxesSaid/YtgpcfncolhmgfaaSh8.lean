/-
  The document's layer 7: With, Without, by contract.
-/
import Derived.Test.YtgpcfncolhmgfaaSh6
namespace Go.Proofs.Ytgpcfncolhmgfaa
open Go.RowKit


set_option maxHeartbeats 1600000 in
set_option maxRecDepth 100000 in
theorem r7With_any (a : Option Addr) (n c : Nat) (f : Nat → Int) (i x : Int) (w : World) (h : KRow w .i64 a n c f) (hn : n ≤ 1000000) :
    Calls Try.prog 23 #[.slice a n c, .int .i64 i, .int .i64 x] w fun e w' => ∃ a' c', e = .returned (.slice a' n c') ∧ KRow w' .i64 a' n c' (wiF f i x) ∧ Below w.heap.size w w' := by
  obtain ⟨i0, hi, hz0, hz1, hz2⟩ := info_parts infoI
  have hl := h.len
  have H := Lib.hid h
  clear h
  go_enter Try.func23, Try.ntmps23
  go_wp2
  go_loopw [7, 8] (fun v j wr => ∃ (k : Nat) (a1 : Option Addr) (c1 : Nat), k ≤ n ∧ j = .int .i64 k ∧ v = .slice a1 k c1 ∧ Hid (Below w.heap.size w wr ∧ wr.ownsRow w.heap.size 3 1 (.slice a1 k c1) k (kcs .i64 (wiF f i x) k))) (fun _ j _ => n - (intOf j).toNat)
  case atStart => exact ⟨0, none, 0, by omega, rfl, rfl, Below.refl _ _, World.ownsRow_nil _ _ _ _⟩
  case round =>
    obtain ⟨k, a1, c1, hk, rfl, rfl, hrel⟩ := hrel
    obtain ⟨hbl, hown⟩ := hrel.out
    by_cases hlt : k < n
    · obtain ⟨b, off, rfl, hb, hc⟩ := (H.out.below hbl).get hlt
      have HMX := Lib.hid (show k + 1 ≤ maxLen by unfold maxLen; omega)
      have HMY := Lib.hid (show (k + 1) * 8 ≤ 140737488355328 by omega)
      have hwr := hbl.size
      have HW : Hid (∀ y, y = wiF f i x k → ∀ (v5 : Value) (w5 : World), w5.ownsRow w.heap.size 3 1 v5 (k + 1) (kcs .i64 (wiF f i x) k ++ [.int .i64 y]) → w5.ownsRow w.heap.size 3 1 v5 (k + 1) (kcs .i64 (wiF f i x) (k + 1))) := Lib.hid (fun y hy v5 w5 h => by subst hy; exact h)
      have HO2 := Lib.hid (fun y => own_below hown ((Below.refl _ _).alloc (Nat.le_refl _) (.cells #[.int .i64 y] 3)))
      have HNEW := Lib.hid (fun y => World.news_of_block (Row.new wr 3 #[.int .i64 y]))
      have HB2 := Lib.hid (fun y => hbl.trans ((Below.refl wr.heap.size wr).alloc (Nat.le_refl _) (.cells #[.int .i64 y] 3) |>.mono hwr))
      have HBA : Hid (∀ y, w.heap.size ≤ (wr.alloc (.cells #[.int .i64 y] 3)).heap.size) := Lib.hid (fun y => by rw [World.size_alloc]; omega)
      by_cases hik : (k : Int) = i
      · have hq : ((k : Int) == i) = true := beq_iff_eq.2 hik
        have HX := Lib.hid (show x = wiF f i x k by unfold wiF; rw [if_pos hik])
        have HW := Lib.hid (HW.out x HX.out)
        clear hik hbl hown hrel HX
        go_wp2_with (at_builtin; refine wpList_append_lies _ rfl (.tmp 18) (.tmp 20) 22 rfl w.heap.size 3 i0 _ 1 8 Try.underlying22 hi hz0 hz1 hz2 rfl (by omega) (.slice a1 k c1) k _ rfl (HO2.out x) ⟨wr.heap.size, 0, none⟩ 1 1 [.int .i64 x] rfl rfl (HNEW.out x) ?q1 (by omega) HMX.out HMY.out (HBA.out x) _ rfl ?_)
        case q1 => rfl
        intro g9 cap9 w5 hown5 hgrow _ _
        have HN2 := Lib.hid (And.intro ((HB2.out x).grown hgrow (HBA.out x) (fun q hq => ((HO2.out x).lt q hq).1)) (HW.out _ _ hown5))
        clear hown5 hgrow
        go_wp2
        go_roundw
        case rel => exact ⟨k + 1, _, cap9, by omega, by go_num, rfl, HN2.out⟩
        case measure => simp [intOf]; omega
      · have hq : ((k : Int) == i) = false := beq_eq_false_iff_ne.2 hik
        have HX := Lib.hid (show f k = wiF f i x k by unfold wiF; rw [if_neg hik])
        have HW := Lib.hid (HW.out (f k) HX.out)
        clear hik hbl hown hrel HX
        generalize f k = y at *
        go_wp2_with (at_builtin; refine wpList_append_lies _ rfl (.tmp 22) (.tmp 27) 22 rfl w.heap.size 3 i0 _ 1 8 Try.underlying22 hi hz0 hz1 hz2 rfl (by omega) (.slice a1 k c1) k _ rfl (HO2.out y) ⟨wr.heap.size, 0, none⟩ 1 1 [.int .i64 y] rfl rfl (HNEW.out y) ?q1 (by omega) HMX.out HMY.out (HBA.out y) _ rfl ?_)
        case q1 => rfl
        intro g9 cap9 w5 hown5 hgrow _ _
        have HN2 := Lib.hid (And.intro ((HB2.out y).grown hgrow (HBA.out y) (fun q hq => ((HO2.out y).lt q hq).1)) (HW.out _ _ hown5))
        clear hown5 hgrow
        go_wp2
        go_roundw
        case rel => exact ⟨k + 1, _, cap9, by omega, by go_num, rfl, HN2.out⟩
        case measure => simp [intOf]; omega
    · obtain rfl : k = n := by omega
      obtain ⟨a9, c9, he, hq⟩ := KRow.of_own hown
      injection he with he1 _ he2
      subst he1 he2
      have HE := Lib.hid (And.intro hq hbl)
      clear hbl hown hq hrel
      go_wp2
      go_ret
      exact ⟨_, _, rfl, HE.out⟩

/-- How many of the first k are left. -/
def woK (i : Int) (k : Nat) : Nat := if 0 ≤ i ∧ i < k then k - 1 else k

set_option maxHeartbeats 1600000 in
set_option maxRecDepth 100000 in
theorem r7Without_any (a : Option Addr) (n c : Nat) (f : Nat → Int) (i : Int) (w : World) (h : KRow w .i64 a n c f) (hn : n ≤ 1000000) :
    Calls Try.prog 25 #[.slice a n c, .int .i64 i] w fun e w' => ∃ a' c', e = .returned (.slice a' (woN n i) c') ∧ KRow w' .i64 a' (woN n i) c' (woF f n i) ∧ Below w.heap.size w w' := by
  obtain ⟨i0, hi, hz0, hz1, hz2⟩ := info_parts infoI
  have hl := h.len
  have H := Lib.hid h
  clear h
  go_enter Try.func25, Try.ntmps25
  go_wp2
  go_loopw [5, 6] (fun v j wr => ∃ (k : Nat) (m : Nat) (a1 : Option Addr) (c1 : Nat), k ≤ n ∧ m = woK i k ∧ j = .int .i64 k ∧ v = .slice a1 m c1 ∧ Hid (Below w.heap.size w wr ∧ wr.ownsRow w.heap.size 3 1 (.slice a1 m c1) m (kcs .i64 (woF f n i) m))) (fun _ j _ => n - (intOf j).toNat)
  case atStart => exact ⟨0, 0, none, 0, by omega, by unfold woK; split <;> rfl, rfl, rfl, Below.refl _ _, World.ownsRow_nil _ _ _ _⟩
  case round =>
    obtain ⟨k, m, a1, c1, hk, hm, rfl, rfl, hrel⟩ := hrel
    obtain ⟨hbl, hown⟩ := hrel.out
    have hmk : m ≤ k := by rw [hm]; unfold woK; split <;> omega
    by_cases hlt : k < n
    · obtain ⟨b, off, rfl, hb, hc⟩ := (H.out.below hbl).get hlt
      by_cases hik : (k : Int) = i
      · have hq : ((k : Int) != i) = false := by rw [hik]; exact bne_self_eq_false _
        have hm2 : m = woK i (k + 1) := by rw [hm]; unfold woK; rw [if_neg (by omega), if_pos (by omega)]; omega
        have HN2 := Lib.hid (And.intro hbl hown)
        clear hik hbl hown hrel hm
        go_wp2
        go_roundw
        case rel => exact ⟨k + 1, m, a1, c1, by omega, hm2, by go_num, rfl, HN2.out⟩
        case measure => simp [intOf]; omega
      · have hq : ((k : Int) != i) = true := bne_iff_ne.2 hik
        have hm2 : Hid (m + 1 = woK i (k + 1)) := Lib.hid (by rw [hm]; unfold woK; split <;> split <;> omega)
        have HX : Hid (f k = woF f n i m) := Lib.hid (by
          rw [hm]
          unfold woK woF
          by_cases e : 0 ≤ i ∧ i < k
          · rw [if_pos e, if_pos (by omega)]
            unfold outF
            rw [if_neg (by omega)]
            congr 1
            omega
          · rw [if_neg e]
            by_cases e2 : 0 ≤ i ∧ i < n
            · rw [if_pos e2]
              unfold outF
              rw [if_pos (by omega)]
            · rw [if_neg e2])
        have HMX := Lib.hid (show m + 1 ≤ maxLen by unfold maxLen; omega)
        have HMY := Lib.hid (show (m + 1) * 8 ≤ 140737488355328 by omega)
        have hwr := hbl.size
        have HW : Hid (∀ (v5 : Value) (w5 : World), w5.ownsRow w.heap.size 3 1 v5 (m + 1) (kcs .i64 (woF f n i) m ++ [.int .i64 (f k)]) → w5.ownsRow w.heap.size 3 1 v5 (m + 1) (kcs .i64 (woF f n i) (m + 1))) := Lib.hid (fun v5 w5 h => by rw [HX.out] at h; exact h)
        have HO2 := Lib.hid (fun y => own_below hown ((Below.refl _ _).alloc (Nat.le_refl _) (.cells #[.int .i64 y] 3)))
        have HNEW := Lib.hid (fun y => World.news_of_block (Row.new wr 3 #[.int .i64 y]))
        have HB2 := Lib.hid (fun y => hbl.trans ((Below.refl wr.heap.size wr).alloc (Nat.le_refl _) (.cells #[.int .i64 y] 3) |>.mono hwr))
        have HBA : Hid (∀ y, w.heap.size ≤ (wr.alloc (.cells #[.int .i64 y] 3)).heap.size) := Lib.hid (fun y => by rw [World.size_alloc]; omega)
        clear hik hbl hown hrel HX hm
        generalize f k = y at *
        go_wp2_with (at_builtin; refine wpList_append_lies _ rfl (.tmp 16) (.tmp 21) 22 rfl w.heap.size 3 i0 _ 1 8 Try.underlying22 hi hz0 hz1 hz2 rfl (by omega) (.slice a1 m c1) m _ rfl (HO2.out y) ⟨wr.heap.size, 0, none⟩ 1 1 [.int .i64 y] rfl rfl (HNEW.out y) ?q1 (by omega) HMX.out HMY.out (HBA.out y) _ rfl ?_)
        case q1 => rfl
        intro g9 cap9 w5 hown5 hgrow _ _
        have HN2 := Lib.hid (And.intro ((HB2.out y).grown hgrow (HBA.out y) (fun q hq => ((HO2.out y).lt q hq).1)) (HW.out _ _ hown5))
        clear hown5 hgrow
        go_wp2
        go_roundw
        case rel => exact ⟨k + 1, m + 1, _, cap9, by omega, hm2.out, by go_num, rfl, HN2.out⟩
        case measure => simp [intOf]; omega
    · obtain rfl : k = n := by omega
      obtain ⟨a9, c9, he, hq⟩ := KRow.of_own hown
      injection he with he1 _ he2
      subst he1 he2
      have HE := Lib.hid (And.intro hq hbl)
      have HM : Hid (m = woN k i) := Lib.hid hm
      clear hbl hown hq hrel hm
      go_wp2
      go_ret
      rw [← HM.out]
      exact ⟨_, _, rfl, HE.out⟩

end Go.Proofs.Ytgpcfncolhmgfaa
