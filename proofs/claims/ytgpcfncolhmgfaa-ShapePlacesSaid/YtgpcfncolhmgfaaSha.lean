/-
  Package shape: Places, by contract.
-/
import Derived.Test.YtgpcfncolhmgfaaSh9
namespace Go.Proofs.Ytgpcfncolhmgfaa
open Go.RowKit

set_option maxHeartbeats 1600000 in
set_option maxRecDepth 100000 in
theorem places_no (a : Option Addr) (n c : Nat) (f : Nat → Int) (v : Value) (w : World) (h : KRow w .i64 a n c f) (hf : In64 f n) (hs : shB f n = false) :
    Calls Try.prog 9 #[.slice a n c, v] w fun e w' => e = .returned (.slice none 0 0) ∧ w = w' := by
  have hl := h.len
  have CN := Lib.hid (count_any a n c f w h hf)
  unfold CntTold at CN
  rw [hs] at CN
  generalize cntI f n = x at *
  clear h hf hs
  go_enter Try.func9, Try.ntmps9
  go_wp2_with fail
  go_at_call 27
  (with_reducible refine (CN.out).mono ?_)
  rintro e w1 ⟨rfl, rfl⟩
  go_wp2
  go_ret
  exact ⟨rfl, rfl⟩

/-- The blocks of Places, apart from one another. -/
def PlSt (w0 w : World) (f : Nat → Int) (n M gp gi gh : Nat) (k : Nat) : Prop :=
  Below w0.heap.size w0 w ∧ IBox w gp M (fun j => if j < k then (j : Int) else 0) ∧ IBox w gi n (dgs f n k) ∧ ∃ cur, Row w gh 3 cur ∧ cur.size = n

set_option maxHeartbeats 3200000 in
set_option maxRecDepth 100000 in
theorem places_yes (g0 : Nat) (a : Option Addr) (n c : Nat) (f : Nat → Int) (M : Nat) (w : World) (hg : w.cell? ⟨g0, 0, none⟩ = some (.slice a n c)) (hgl : g0 < w.heap.size) (h : KRow w .i64 a n c f) (hf : In64 f n) (hs : shB f n = true) (hM : itm f n = (M : Nat)) :
    Calls Try.prog 9 #[.slice a n c, .func (.func 12) #[] #[.pointer (some ⟨g0, 0, none⟩)]] w fun e w' => ∃ c', e = .returned (.slice (some ⟨w.heap.size, 0, none⟩) M c') ∧ KRow w' .i64 (some ⟨w.heap.size, 0, none⟩) M c' (fun j => (j : Int)) ∧ Below w.heap.size w w' := by
  have hl := h.len
  have CN := Lib.hid (count_any a n c f w h hf)
  unfold CntTold at CN
  have hx : cntI f n = (M : Nat) := by unfold cntI; rw [hs, if_pos rfl, hM]
  rw [hs, hx] at CN
  obtain ⟨h8, hax⟩ := sh_ax hs
  have hbd := ax_bd hax
  have hM4 : M ≤ 4096 := by omega
  have HP := Lib.hid (fun (k : Nat) (hk : k < M) => itm_pos hax (show (0 : Int) ≤ k by omega) (show (k : Int) < itm f n by omega))
  have HF : Hid (∀ j, j < n → f j ≤ 4096) := Lib.hid (fun j hj => by
    have h1 := ax_bd (ax_le (show j + 1 ≤ n by omega) hax)
    have h2 := rm_pos f j
    have h3 : 1 * max (f j) 1 ≤ rm f j * max (f j) 1 := Int.mul_le_mul h2 (Int.le_refl _) (by omega) (by omega)
    have h4 : rm f (j + 1) = rm f j * max (f j) 1 := rfl
    omega)
  have HD := Lib.hid (fun (k : Nat) (hk : k < M) => dgs_in (HP.out k hk) (show (0 : Int) ≤ k by omega) (show (k : Int) < itm f n by omega))
  have H := Lib.hid h
  have HG := Lib.hid hg
  have HAX := Lib.hid hax
  have HMM := Lib.hid hM
  obtain ⟨i0, hi, hz0, hz1, hz2⟩ := info_parts infoI
  have hmk := fun wz => run_make (P := Try.prog) wz 22 3 i0 _ Try.underlying22 hi hz0 .i64 .i64 M M (by omega) (by omega) (by rw [hz2]; omega) (by omega)
  have hmk2 := fun wz => run_make (P := Try.prog) wz 22 3 i0 _ Try.underlying22 hi hz0 .i64 .i64 n n (by omega) (by omega) (by rw [hz2]; omega) (by omega)
  simp only [Int.toNat_natCast, hz1, Nat.mul_one] at hmk hmk2
  have hsz : (Try.prog.info? 3).map (·.size) = some 1 := by rw [hi, Option.map_some, hz1]
  have qf : ∀ (w : World) (fn : Fn) (x y : Array Value), (binOp .eql 29 (.func fn x y) .nilFunc).run Try.prog w = .ok (.bool false) w := fun _ _ _ _ => rfl
  have W3 : Hid (∀ wz, wz = ((w.alloc (.cells (madeCells (Value.cells (.int .i64 0)) M) 3)).alloc (.cells (madeCells (Value.cells (.int .i64 0)) n) 3)).alloc (.cells (madeCells (Value.cells (.int .i64 0)) n) 3) → PlSt w wz f n M w.heap.size (w.heap.size + 1) (w.heap.size + 1 + 1) 0 ∧ PlSt w wz f n M w.heap.size (w.heap.size + 1 + 1) (w.heap.size + 1) 0) := Lib.hid (by
    rintro wz rfl
    have b1 : Below w.heap.size w (w.alloc (.cells (madeCells (Value.cells (.int .i64 0)) M) 3)) := (Below.refl _ _).alloc (Nat.le_refl _) _
    have i1 := IBox.made w M 3 rfl
    have i2 := IBox.made (w.alloc (.cells (madeCells (Value.cells (.int .i64 0)) M) 3)) n 3 rfl
    have r2 := Row.new (w.alloc (.cells (madeCells (Value.cells (.int .i64 0)) M) 3)) 3 (madeCells (Value.cells (.int .i64 0)) n)
    have i3 := IBox.made ((w.alloc (.cells (madeCells (Value.cells (.int .i64 0)) M) 3)).alloc (.cells (madeCells (Value.cells (.int .i64 0)) n) 3)) n 3 rfl
    have r3 := Row.new ((w.alloc (.cells (madeCells (Value.cells (.int .i64 0)) M) 3)).alloc (.cells (madeCells (Value.cells (.int .i64 0)) n) 3)) 3 (madeCells (Value.cells (.int .i64 0)) n)
    have hms : (madeCells (Value.cells (.int .i64 0)) n).size = n := by simp [madeCells]
    have g2 : ∀ (y : World) (o : Obj), Below y.heap.size y (y.alloc o) := fun y o => (Below.refl _ _).alloc (Nat.le_refl _) o
    rw [World.size_alloc] at i2 r2
    rw [World.size_alloc, World.size_alloc] at i3 r3
    have bb := (b1.trans ((g2 (w.alloc (.cells (madeCells (Value.cells (.int .i64 0)) M) 3)) (.cells (madeCells (Value.cells (.int .i64 0)) n) 3)).mono b1.size)).trans ((g2 ((w.alloc (.cells (madeCells (Value.cells (.int .i64 0)) M) 3)).alloc (.cells (madeCells (Value.cells (.int .i64 0)) n) 3)) (.cells (madeCells (Value.cells (.int .i64 0)) n) 3)).mono (Nat.le_trans b1.size (g2 _ _).size))
    have z0 : ∀ j, j < M → (fun _ => (0 : Int)) j = (fun j : Nat => if j < 0 then (j : Int) else 0) j := fun j _ => rfl
    have z1 : ∀ j, j < n → (fun _ => (0 : Int)) j = dgs f n (0 : Nat) j := fun j _ => (dgs_zero n j).symm
    refine ⟨⟨bb, ((i1.below (g2 _ _)).below (g2 _ _)).congr z0, (i2.below (g2 _ _)).congr z1, _, r3, hms⟩, ⟨bb, ((i1.below (g2 _ _)).below (g2 _ _)).congr z0, i3.congr z1, _, r2.below (g2 _ _), hms⟩⟩)
  have hnn : (0 : Int) ≤ n := by omega
  have hMn : (0 : Int) ≤ M := by omega
  clear h hf hs hM hx hax hbd hi hz0 hz1 hz2 hg
  go_enter Try.func9, Try.ntmps9
  go_wp2_with fail
  go_at_call 27
  (with_reducible refine (CN.out).mono ?_)
  rintro e w1 ⟨rfl, rfl⟩
  go_wp2_with fail
  go_region
  · go_wp2_with fail
    have H0 : Hid (PlSt w (((w.alloc (.cells (madeCells (Value.cells (.int .i64 0)) M) 3)).alloc (.cells (madeCells (Value.cells (.int .i64 0)) n) 3)).alloc (.cells (madeCells (Value.cells (.int .i64 0)) n) 3)).drew f n M w.heap.size (w.heap.size + 1) (w.heap.size + 1 + 1) 0) := Lib.hid (by
      have h := (W3.out _ rfl).1
      exact ⟨h.1.drew, h.2⟩)
    go_loopw [32] (fun i wr => ∃ k : Nat, k ≤ M ∧ i = .int .i64 k ∧ Hid (PlSt w wr f n M w.heap.size (w.heap.size + 1) (w.heap.size + 1 + 1) k)) (fun i _ => M - (intOf i).toNat)
    case atStart => exact ⟨0, by omega, rfl, H0.out⟩
    case round =>
      obtain ⟨k, hk, rfl, hrel⟩ := hrel
      obtain ⟨hbl, hbp, hbi, cur, hrow, hcur⟩ := hrel.out
      have hwr := hbl.size
      by_cases hlt : k < M
      · obtain ⟨hin, hpl⟩ := HD.out k hlt
        have HIN := Lib.hid (And.intro hin hpl)
        have hp1 := HP.out k hlt
        have HP1 := Lib.hid hp1
        have HBL := Lib.hid hbl
        have HBP := Lib.hid hbp
        have HBI := Lib.hid hbi
        have HROW := Lib.hid hrow
        have HCUR := Lib.hid hcur
        clear hrel hin hpl hbl hbp hbi hrow hcur hp1
        go_wp2_with (refine wpList_copy_full rfl (.tmp 35) (.tmp 36) 22 22 rfl 3 Try.underlying22 hsz (w.heap.size + 1 + 1) n n (w.heap.size + 1) n rfl rfl cur 3 HROW.out HCUR.out (dgs f n k) HBI.out ?_)
        intro w2 hrow2 hwr2
        have b2 := hwr2.below HBL.out (show w.heap.size ≤ w.heap.size + 1 + 1 by omega) hwr
        have CLS : Hid (Calls Try.prog 12 #[.slice (some ⟨w.heap.size + 1 + 1, 0, none⟩) n n, .pointer (some ⟨g0, 0, none⟩)] w2 fun e w' => e = .returned (.int .i64 (k : Nat)) ∧ Below w2.heap.size w2 w') := Lib.hid (by
          have := clos_any g0 a n c f (some ⟨w.heap.size + 1 + 1, 0, none⟩) n (dgs f n k) w2 ((b2.cell (p := ⟨g0, 0, none⟩) hgl).trans HG.out) (H.out.below b2) ((IBox.of_row hrow2).krow (by unfold maxLen; omega)) HAX.out HIN.out.1
          rw [HIN.out.2] at this
          exact this)
        have HR2 := Lib.hid hrow2
        have HW2 := Lib.hid hwr2
        have HB2 := Lib.hid b2
        clear hrow2 hwr2 b2
        go_wp2_with fail
        go_at_call 12
        (refine (CLS.out).mono ?_)
        rintro e w3 ⟨rfl, hb3⟩
        have hs2 := HB2.out.size
        have b3 := HB2.out.trans (hb3.mono hs2)
        have p3 := (HBP.out.wrote HW2.out (show w.heap.size ≠ w.heap.size + 1 + 1 by omega)).below hb3
        have i3 := (HBI.out.wrote HW2.out (show w.heap.size + 1 ≠ w.heap.size + 1 + 1 by omega)).below hb3
        have r3 := HR2.out.below hb3
        have p4 := p3.set hlt (k : Nat)
        have q4 : Wrote w.heap.size 0 M w3 (w3.setCell ⟨w.heap.size, k, none⟩ (.int .i64 (k : Nat))) := (Wrote.refl _ _ _ _).setCell (Nat.zero_le k) hlt _
        have i4 := i3.wrote q4 (show w.heap.size + 1 ≠ w.heap.size by omega)
        have r4 := r3.far (a := ⟨w.heap.size, k, none⟩) (show w.heap.size + 1 + 1 ≠ w.heap.size by omega) (.int .i64 (k : Nat))
        have b4 : Below w.heap.size w (w3.setCell ⟨w.heap.size, k, none⟩ (.int .i64 (k : Nat))) := b3.setCell (p := ⟨w.heap.size, k, none⟩) (Nat.le_refl _) _
        have AD := Lib.hid (advance_any a n c f (w.heap.size + 1) n k w _ H.out b4 (show w.heap.size ≤ w.heap.size + 1 by omega) h8 HP1.out HF.out ⟨by omega, by have := HMM.out; omega⟩ i4 ⟨Nat.le_refl _, by unfold maxLen; omega⟩)
        have x1 := p3.2.2 k hlt
        have x2 := p3.2.1 k
        have hk0 : (0 : Int) ≤ k := by omega
        have hk1 : (k : Int) < M := by omega
        have HEND : Hid (∀ w5, Wrote (w.heap.size + 1) 0 n (w3.setCell ⟨w.heap.size, k, none⟩ (.int .i64 (k : Nat))) w5 → IBox w5 (w.heap.size + 1) n (dgs f n ((k : Int) + 1)) → PlSt w w5 f n M w.heap.size (w.heap.size + 1) (w.heap.size + 1 + 1) (k + 1)) := Lib.hid (fun w5 q5 i5 => ⟨q5.below b4 (by omega) b4.size, (p4.wrote q5 (by omega)).congr (fun j hj => by
          show (if j = k then ((k : Nat) : Int) else if j < k then (j : Int) else 0) = if j < k + 1 then (j : Int) else 0
          by_cases e : j = k
          · subst e; rw [if_pos rfl, if_pos (by omega)]
          · rw [if_neg e]
            by_cases e2 : j < k
            · rw [if_pos e2, if_pos (by omega)]
            · rw [if_neg e2, if_neg (by omega)]), i5, _, (q5.block (w.heap.size + 1 + 1) r4.lt (by omega)).trans r4, by rw [List.size_toArray, kcs_length]⟩)
        clear b3 p3 i3 r3 p4 q4 i4 r4 b4 hb3 hs2
        go_wp2_with fail
        go_at_call 28
        (refine (AD.out).mono ?_)
        rintro e w5 ⟨rfl, q5, i5⟩
        have HN := Lib.hid (HEND.out w5 q5 i5)
        clear q5 i5
        go_wp2
        go_roundw
        case rel => exact ⟨k + 1, by omega, by go_num, HN.out⟩
        case measure => simp [intOf]; omega
      · obtain rfl : k = M := by omega
        have HE : Hid (KRow wr .i64 (some ⟨w.heap.size, 0, none⟩) k k (fun j => (j : Int)) ∧ Below w.heap.size w wr) := Lib.hid ⟨(hbp.congr (h' := fun j : Nat => (j : Int)) (fun j hj => by rw [if_pos hj])).krow (by unfold maxLen; omega), hbl⟩
        clear hrel hbl hbp hbi hrow hcur
        go_wp2
        go_ret
        exact ⟨_, rfl, HE.out⟩
  · go_wp2_with fail
    have H0 : Hid (PlSt w (((w.alloc (.cells (madeCells (Value.cells (.int .i64 0)) M) 3)).alloc (.cells (madeCells (Value.cells (.int .i64 0)) n) 3)).alloc (.cells (madeCells (Value.cells (.int .i64 0)) n) 3)).drew f n M w.heap.size (w.heap.size + 1 + 1) (w.heap.size + 1) 0) := Lib.hid (by
      have h := (W3.out _ rfl).2
      exact ⟨h.1.drew, h.2⟩)
    go_loopw [32] (fun i wr => ∃ k : Nat, k ≤ M ∧ i = .int .i64 k ∧ Hid (PlSt w wr f n M w.heap.size (w.heap.size + 1 + 1) (w.heap.size + 1) k)) (fun i _ => M - (intOf i).toNat)
    case atStart => exact ⟨0, by omega, rfl, H0.out⟩
    case round =>
      obtain ⟨k, hk, rfl, hrel⟩ := hrel
      obtain ⟨hbl, hbp, hbi, cur, hrow, hcur⟩ := hrel.out
      have hwr := hbl.size
      by_cases hlt : k < M
      · obtain ⟨hin, hpl⟩ := HD.out k hlt
        have HIN := Lib.hid (And.intro hin hpl)
        have hp1 := HP.out k hlt
        have HP1 := Lib.hid hp1
        have HBL := Lib.hid hbl
        have HBP := Lib.hid hbp
        have HBI := Lib.hid hbi
        have HROW := Lib.hid hrow
        have HCUR := Lib.hid hcur
        clear hrel hin hpl hbl hbp hbi hrow hcur hp1
        go_wp2_with (refine wpList_copy_full rfl (.tmp 35) (.tmp 36) 22 22 rfl 3 Try.underlying22 hsz (w.heap.size + 1) n n (w.heap.size + 1 + 1) n rfl rfl cur 3 HROW.out HCUR.out (dgs f n k) HBI.out ?_)
        intro w2 hrow2 hwr2
        have b2 := hwr2.below HBL.out (show w.heap.size ≤ w.heap.size + 1 by omega) hwr
        have CLS : Hid (Calls Try.prog 12 #[.slice (some ⟨w.heap.size + 1, 0, none⟩) n n, .pointer (some ⟨g0, 0, none⟩)] w2 fun e w' => e = .returned (.int .i64 (k : Nat)) ∧ Below w2.heap.size w2 w') := Lib.hid (by
          have := clos_any g0 a n c f (some ⟨w.heap.size + 1, 0, none⟩) n (dgs f n k) w2 ((b2.cell (p := ⟨g0, 0, none⟩) hgl).trans HG.out) (H.out.below b2) ((IBox.of_row hrow2).krow (by unfold maxLen; omega)) HAX.out HIN.out.1
          rw [HIN.out.2] at this
          exact this)
        have HR2 := Lib.hid hrow2
        have HW2 := Lib.hid hwr2
        have HB2 := Lib.hid b2
        clear hrow2 hwr2 b2
        go_wp2_with fail
        go_at_call 12
        (refine (CLS.out).mono ?_)
        rintro e w3 ⟨rfl, hb3⟩
        have hs2 := HB2.out.size
        have b3 := HB2.out.trans (hb3.mono hs2)
        have p3 := (HBP.out.wrote HW2.out (show w.heap.size ≠ w.heap.size + 1 by omega)).below hb3
        have i3 := (HBI.out.wrote HW2.out (show w.heap.size + 1 + 1 ≠ w.heap.size + 1 by omega)).below hb3
        have r3 := HR2.out.below hb3
        have p4 := p3.set hlt (k : Nat)
        have q4 : Wrote w.heap.size 0 M w3 (w3.setCell ⟨w.heap.size, k, none⟩ (.int .i64 (k : Nat))) := (Wrote.refl _ _ _ _).setCell (Nat.zero_le k) hlt _
        have i4 := i3.wrote q4 (show w.heap.size + 1 + 1 ≠ w.heap.size by omega)
        have r4 := r3.far (a := ⟨w.heap.size, k, none⟩) (show w.heap.size + 1 ≠ w.heap.size by omega) (.int .i64 (k : Nat))
        have b4 : Below w.heap.size w (w3.setCell ⟨w.heap.size, k, none⟩ (.int .i64 (k : Nat))) := b3.setCell (p := ⟨w.heap.size, k, none⟩) (Nat.le_refl _) _
        have AD := Lib.hid (advance_any a n c f (w.heap.size + 1 + 1) n k w _ H.out b4 (show w.heap.size ≤ w.heap.size + 1 + 1 by omega) h8 HP1.out HF.out ⟨by omega, by have := HMM.out; omega⟩ i4 ⟨Nat.le_refl _, by unfold maxLen; omega⟩)
        have x1 := p3.2.2 k hlt
        have x2 := p3.2.1 k
        have hk0 : (0 : Int) ≤ k := by omega
        have hk1 : (k : Int) < M := by omega
        have HEND : Hid (∀ w5, Wrote (w.heap.size + 1 + 1) 0 n (w3.setCell ⟨w.heap.size, k, none⟩ (.int .i64 (k : Nat))) w5 → IBox w5 (w.heap.size + 1 + 1) n (dgs f n ((k : Int) + 1)) → PlSt w w5 f n M w.heap.size (w.heap.size + 1 + 1) (w.heap.size + 1) (k + 1)) := Lib.hid (fun w5 q5 i5 => ⟨q5.below b4 (by omega) b4.size, (p4.wrote q5 (by omega)).congr (fun j hj => by
          show (if j = k then ((k : Nat) : Int) else if j < k then (j : Int) else 0) = if j < k + 1 then (j : Int) else 0
          by_cases e : j = k
          · subst e; rw [if_pos rfl, if_pos (by omega)]
          · rw [if_neg e]
            by_cases e2 : j < k
            · rw [if_pos e2, if_pos (by omega)]
            · rw [if_neg e2, if_neg (by omega)]), i5, _, (q5.block (w.heap.size + 1) r4.lt (by omega)).trans r4, by rw [List.size_toArray, kcs_length]⟩)
        clear b3 p3 i3 r3 p4 q4 i4 r4 b4 hb3 hs2
        go_wp2_with fail
        go_at_call 28
        (refine (AD.out).mono ?_)
        rintro e w5 ⟨rfl, q5, i5⟩
        have HN := Lib.hid (HEND.out w5 q5 i5)
        clear q5 i5
        go_wp2
        go_roundw
        case rel => exact ⟨k + 1, by omega, by go_num, HN.out⟩
        case measure => simp [intOf]; omega
      · obtain rfl : k = M := by omega
        have HE : Hid (KRow wr .i64 (some ⟨w.heap.size, 0, none⟩) k k (fun j => (j : Int)) ∧ Below w.heap.size w wr) := Lib.hid ⟨(hbp.congr (h' := fun j : Nat => (j : Int)) (fun j hj => by rw [if_pos hj])).krow (by unfold maxLen; omega), hbl⟩
        clear hrel hbl hbp hbi hrow hcur
        go_wp2
        go_ret
        exact ⟨_, rfl, HE.out⟩

end Go.Proofs.Ytgpcfncolhmgfaa
