/-
  Texts of this seat, laid together.
-/
import Derived.StillTailTactics
import Derived.Test.YtifnamlgkooacaaGreatDoorQ1
import Derived.Test.YtifnamlgkooacaaGreatDoorQ2
import Derived.Test.YtifnamlgkooacaaGreatDoorQ3
import Derived.Test.YtifnamlgkooacaaGreatDoorQ4
import Derived.Test.YtifnamlgkooacaaGreatDoorQ5

namespace Go.Proofs.YtifnamlgkooacaaGreatDoor
open Go.RowKit
theorem Wrote.over {g k lo hi lo' hi' : Nat} {a b c : World} (h : Wrote g lo hi a b) (q : Wrote k lo' hi' b c) (hk : a.heap.size ≤ k) (hg : g < a.heap.size) : Wrote g lo hi a c := by
  have hs := h.size
  have hb : c.heap[g]? = b.heap[g]? := q.block g (by omega) (by omega)
  exact ⟨q.os.trans h.os, q.tape.trans h.tape, q.output.trans h.output, Nat.le_trans h.size q.size, fun j hj hne => (q.block j (by omega) (by omega)).trans (h.block j hj hne), fun o ho => (World.cell?_of_block (w := b) (w' := c) (a := ⟨g, o, none⟩) hb).trans (h.cell o ho), fun o => (World.frozen?_of_block (w := b) (w' := c) (a := ⟨g, o, none⟩) hb).trans (h.frozen o)⟩
/-- A function value wrote into its own block alone. -/
def Scr (gb nb : Nat) (w0 w : World) : Prop := Wrote gb 0 nb w0 w ∧ ∃ h, IBox w gb nb h
theorem Scr.over {gb nb k lo hi : Nat} {a b c : World} (h : Scr gb nb a b) (q : Wrote k lo hi b c) (hk : a.heap.size ≤ k) (hg : gb < a.heap.size) : Scr gb nb a c := by
  obtain ⟨h1, x, h2⟩ := h
  exact ⟨h1.over q hk hg, x, h2.wrote q (by omega)⟩
theorem Scr.next {gb nb : Nat} {a b c : World} (h : Scr gb nb a b) (q : Scr gb nb b c) : Scr gb nb a c := ⟨h.1.trans q.1, q.2⟩
/-- The older blocks of a world alone. -/
def cutW (w : World) (n : Nat) : World := { w with heap := w.heap.extract 0 n }
theorem cutW_size {w : World} {n : Nat} (h : n ≤ w.heap.size) : (cutW w n).heap.size = n := by
  show (w.heap.extract 0 n).size = n
  rw [Array.size_extract]
  omega
theorem cutW_get {w : World} {n j : Nat} (hj : j < n) : (cutW w n).heap[j]? = w.heap[j]? := by
  show (w.heap.extract 0 n)[j]? = w.heap[j]?
  rw [Array.getElem?_extract]
  rcases Nat.lt_or_ge j w.heap.size with h | h
  · rw [if_pos (by omega), Nat.zero_add]
  · rw [if_neg (by omega), Array.getElem?_eq_none h]
theorem cutW_below {w : World} {n : Nat} (h : n ≤ w.heap.size) : Below (cutW w n).heap.size (cutW w n) w := by
  have e := cutW_size h
  refine ⟨rfl, rfl, rfl, by rw [e]; exact h, fun j hj => ?_⟩
  rw [e] at hj
  exact (cutW_get hj).symm
theorem KRow.cut {w X : World} {a : Option Addr} {n c g lo hi : Nat} {f : Nat → Int} (h : KRow w .i64 a n c f) (q : Wrote g lo hi w X) (hne : ∀ x, a = some x → x.block ≠ g) : KRow (cutW X w.heap.size) .i64 a n c f := by
  refine ⟨h.1, h.2.1, h.2.2.imp id ?_⟩
  rintro ⟨b, off, rfl, hl, hc⟩
  exact ⟨b, off, rfl, by rw [cutW_size q.size]; exact hl, fun j hj => (World.cell?_of_block (w := w) (a := ⟨b, off + j, none⟩) ((cutW_get hl).trans (q.block b hl (hne _ rfl)))).trans (hc j hj)⟩
/-- A function value that answers a number for the index of every place, and that writes into its own block. -/
def GivesW (fv : FuncId) (cap : Array Value) (gb nb : Nat) (G : Nat → Int) (f : Nat → Int) (n M : Nat) (w : World) : Prop :=
  ∀ wz, Scr gb nb w wz → ∀ k : Nat, k < M → ∀ g2, g2 ≠ gb → KRow wz .i64 (some ⟨g2, 0, none⟩) n n (dgs f n (k : Nat)) → Calls Tryz.prog fv (#[.slice (some ⟨g2, 0, none⟩) n n] ++ cap) wz fun e w' => e = .returned (.int .i64 (G k)) ∧ Scr gb nb wz w'
/-- The blocks of Places, apart from one another and from the function value's. -/
def PlSw (gb nb : Nat) (G : Nat → Int) (w0 w : World) (f : Nat → Int) (n M gp gi gh : Nat) (k : Nat) : Prop :=
  Scr gb nb w0 w ∧ IBox w gp M (fun j => if j < k then G j else 0) ∧ IBox w gi n (dgs f n k) ∧ ∃ cur, Row w gh 3 cur ∧ cur.size = n
set_option maxHeartbeats 3200000 in
set_option maxRecDepth 100000 in
theorem placesW_any (fv : FuncId) (cap : Array Value) (he : Enters Tryz.prog fv) (a : Option Addr) (n c : Nat) (f : Nat → Int) (M : Nat) (G : Nat → Int) (w : World) (h : KRow w .i64 a n c f) (hf : In64 f n) (hs : shB f n = true) (hM : itm f n = (M : Nat)) (gb nb : Nat) (hgb : gb < w.heap.size) (hbx : ∃ x, IBox w gb nb x) (hne : ∀ x, a = some x → x.block ≠ gb) (CL : GivesW fv cap gb nb G f n M w) :
    Calls Tryz.prog 107 #[.slice a n c, .func (.func fv) #[] cap] w fun e w' => ∃ c', e = .returned (.slice (some ⟨w.heap.size, 0, none⟩) M c') ∧ KRow w' .i64 (some ⟨w.heap.size, 0, none⟩) M c' G ∧ Scr gb nb w w' := by
  have he' := he
  unfold Enters at he'
  have HCL := Lib.hid CL
  have hl := h.len
  have CN := Lib.hid (count_any a n c f w h hf)
  unfold CntTold at CN
  have hx : cntI f n = (M : Nat) := by unfold cntI; rw [hs, if_pos rfl, hM]
  rw [hs, hx] at CN
  obtain ⟨h8, hax⟩ := sh_ax hs
  have hbd := ax_bd hax
  have hM4 : M ≤ 4096 := by omega
  have HP := Lib.hid (fun (k : Nat) (hk : k < M) => itm_pos hax (show (0 : Int) ≤ k by omega) (show (k : Int) < itm f n by omega))
  have HF : Hid (∀ j, j < n → f j ≤ 4096) := Lib.hid (fun j hj => by
    have h1 := ax_bd (ax_le (show j + 1 ≤ n by omega) hax)
    have h2 := rm_pos f j
    have h3 : 1 * max (f j) 1 ≤ rm f j * max (f j) 1 := Int.mul_le_mul h2 (Int.le_refl _) (by omega) (by omega)
    have h4 : rm f (j + 1) = rm f j * max (f j) 1 := rfl
    omega)
  have HD := Lib.hid (fun (k : Nat) (hk : k < M) => dgs_in (HP.out k hk) (show (0 : Int) ≤ k by omega) (show (k : Int) < itm f n by omega))
  have H := Lib.hid h
  have HAX := Lib.hid hax
  have HMM := Lib.hid hM
  obtain ⟨i0, hi, hz0, hz1, hz2⟩ := info_parts infoI
  have hmk := fun wz => run_make (P := Tryz.prog) wz 22 3 i0 _ Tryz.underlying22 hi hz0 .i64 .i64 M M (by omega) (by omega) (by rw [hz2]; omega) (by omega)
  have hmk2 := fun wz => run_make (P := Tryz.prog) wz 22 3 i0 _ Tryz.underlying22 hi hz0 .i64 .i64 n n (by omega) (by omega) (by rw [hz2]; omega) (by omega)
  simp only [Int.toNat_natCast, hz1, Nat.mul_one] at hmk hmk2
  have hsz : (Tryz.prog.info? 3).map (·.size) = some 1 := by rw [hi, Option.map_some, hz1]
  have qf : ∀ (w : World) (fn : Fn) (x y : Array Value), (binOp .eql 128 (.func fn x y) .nilFunc).run Tryz.prog w = .ok (.bool false) w := fun _ _ _ _ => rfl
  have W3 : Hid (∀ wz, wz = ((w.alloc (.cells (madeCells (Value.cells (.int .i64 0)) M) 3)).alloc (.cells (madeCells (Value.cells (.int .i64 0)) n) 3)).alloc (.cells (madeCells (Value.cells (.int .i64 0)) n) 3) → PlSw gb nb G w wz f n M w.heap.size (w.heap.size + 1) (w.heap.size + 1 + 1) 0 ∧ PlSw gb nb G w wz f n M w.heap.size (w.heap.size + 1 + 1) (w.heap.size + 1) 0) := Lib.hid (by
    rintro wz rfl
    have b1 : Below w.heap.size w (w.alloc (.cells (madeCells (Value.cells (.int .i64 0)) M) 3)) := (Below.refl _ _).alloc (Nat.le_refl _) _
    have i1 := IBox.made w M 3 rfl
    have i2 := IBox.made (w.alloc (.cells (madeCells (Value.cells (.int .i64 0)) M) 3)) n 3 rfl
    have r2 := Row.new (w.alloc (.cells (madeCells (Value.cells (.int .i64 0)) M) 3)) 3 (madeCells (Value.cells (.int .i64 0)) n)
    have i3 := IBox.made ((w.alloc (.cells (madeCells (Value.cells (.int .i64 0)) M) 3)).alloc (.cells (madeCells (Value.cells (.int .i64 0)) n) 3)) n 3 rfl
    have r3 := Row.new ((w.alloc (.cells (madeCells (Value.cells (.int .i64 0)) M) 3)).alloc (.cells (madeCells (Value.cells (.int .i64 0)) n) 3)) 3 (madeCells (Value.cells (.int .i64 0)) n)
    have hms : (madeCells (Value.cells (.int .i64 0)) n).size = n := by simp [madeCells]
    have g2 : ∀ (y : World) (o : Obj), Below y.heap.size y (y.alloc o) := fun y o => (Below.refl _ _).alloc (Nat.le_refl _) o
    rw [World.size_alloc] at i2 r2
    rw [World.size_alloc, World.size_alloc] at i3 r3
    have bb := (b1.trans ((g2 (w.alloc (.cells (madeCells (Value.cells (.int .i64 0)) M) 3)) (.cells (madeCells (Value.cells (.int .i64 0)) n) 3)).mono b1.size)).trans ((g2 ((w.alloc (.cells (madeCells (Value.cells (.int .i64 0)) M) 3)).alloc (.cells (madeCells (Value.cells (.int .i64 0)) n) 3)) (.cells (madeCells (Value.cells (.int .i64 0)) n) 3)).mono (Nat.le_trans b1.size (g2 _ _).size))
    have z0 : ∀ j, j < M → (fun _ => (0 : Int)) j = (fun j : Nat => if j < 0 then G j else 0) j := fun j _ => rfl
    have z1 : ∀ j, j < n → (fun _ => (0 : Int)) j = dgs f n (0 : Nat) j := fun j _ => (dgs_zero n j).symm
    obtain ⟨x0, hx0⟩ := hbx
    have sc : Scr gb nb w (((w.alloc (.cells (madeCells (Value.cells (.int .i64 0)) M) 3)).alloc (.cells (madeCells (Value.cells (.int .i64 0)) n) 3)).alloc (.cells (madeCells (Value.cells (.int .i64 0)) n) 3)) := ⟨Wrote.of_below bb hgb, x0, hx0.below bb⟩
    refine ⟨⟨sc, ((i1.below (g2 _ _)).below (g2 _ _)).congr z0, (i2.below (g2 _ _)).congr z1, _, r3, hms⟩, ⟨sc, ((i1.below (g2 _ _)).below (g2 _ _)).congr z0, i3.congr z1, _, r2.below (g2 _ _), hms⟩⟩)
  have hnn : (0 : Int) ≤ n := by omega
  have hMn : (0 : Int) ≤ M := by omega
  have HNE := Lib.hid hne
  clear h hf hs hM hx hax hbd hi hz0 hz1 hz2 he CL hbx hne
  go_enter Tryz.func107, Tryz.ntmps107
  go_wp2_with fail
  go_at_call 74
  (with_reducible refine (CN.out).mono ?_)
  rintro e w1 ⟨rfl, rfl⟩
  go_wp2_with fail
  go_region
  · go_wp2_with fail
    have H0 : Hid (PlSw gb nb G w (((w.alloc (.cells (madeCells (Value.cells (.int .i64 0)) M) 3)).alloc (.cells (madeCells (Value.cells (.int .i64 0)) n) 3)).alloc (.cells (madeCells (Value.cells (.int .i64 0)) n) 3)).drew f n M w.heap.size (w.heap.size + 1) (w.heap.size + 1 + 1) 0) := Lib.hid (by
      have h := (W3.out _ rfl).1
      exact ⟨⟨h.1.1.drew, h.1.2⟩, h.2⟩)
    go_loopw [32] (fun i wr => ∃ k : Nat, k ≤ M ∧ i = .int .i64 k ∧ Hid (PlSw gb nb G w wr f n M w.heap.size (w.heap.size + 1) (w.heap.size + 1 + 1) k)) (fun i _ => M - (intOf i).toNat)
    case atStart => exact ⟨0, by omega, rfl, H0.out⟩
    case round =>
      obtain ⟨k, hk, rfl, hrel⟩ := hrel
      obtain ⟨hbl, hbp, hbi, cur, hrow, hcur⟩ := hrel.out
      have hwr := hbl.1.size
      by_cases hlt : k < M
      · obtain ⟨hin, hpl⟩ := HD.out k hlt
        have HIN := Lib.hid (And.intro hin hpl)
        have hp1 := HP.out k hlt
        have HP1 := Lib.hid hp1
        have HBL := Lib.hid hbl
        have HBP := Lib.hid hbp
        have HBI := Lib.hid hbi
        have HROW := Lib.hid hrow
        have HCUR := Lib.hid hcur
        clear hrel hin hpl hbl hbp hbi hrow hcur hp1
        go_wp2_with (refine wpList_copy_full rfl (.tmp 35) (.tmp 36) 22 22 rfl 3 Tryz.underlying22 hsz (w.heap.size + 1 + 1) n n (w.heap.size + 1) n rfl rfl cur 3 HROW.out HCUR.out (dgs f n k) HBI.out ?_)
        intro w2 hrow2 hwr2
        have b2 := HBL.out.over hwr2 (show w.heap.size ≤ w.heap.size + 1 + 1 by omega) hgb
        have CLS : Hid (Calls Tryz.prog fv (#[.slice (some ⟨w.heap.size + 1 + 1, 0, none⟩) n n] ++ cap) w2 fun e w' => e = .returned (.int .i64 (G k)) ∧ Scr gb nb w2 w') := Lib.hid (HCL.out w2 b2 k hlt _ (show w.heap.size + 1 + 1 ≠ gb by omega) ((IBox.of_row hrow2).krow (by unfold maxLen; omega)))
        have HR2 := Lib.hid hrow2
        have HW2 := Lib.hid hwr2
        have HB2 := Lib.hid b2
        clear hrow2 hwr2 b2
        go_wp2_with fail
        go_at_fn fv
        (refine (CLS.out).mono ?_)
        rintro e w3 ⟨rfl, hb3⟩
        have hs2 := HB2.out.1.size
        have b3 := HB2.out.next hb3
        have p3 := (HBP.out.wrote HW2.out (show w.heap.size ≠ w.heap.size + 1 + 1 by omega)).wrote hb3.1 (show w.heap.size ≠ gb by omega)
        have i3 := (HBI.out.wrote HW2.out (show w.heap.size + 1 ≠ w.heap.size + 1 + 1 by omega)).wrote hb3.1 (show w.heap.size + 1 ≠ gb by omega)
        have r3 : Row w3 (w.heap.size + 1 + 1) 3 (kcs .i64 (dgs f n k) n).toArray := (hb3.1.block (w.heap.size + 1 + 1) HR2.out.lt (by omega)).trans HR2.out
        have p4 := p3.set hlt (G k)
        have q4 : Wrote w.heap.size 0 M w3 (w3.setCell ⟨w.heap.size, k, none⟩ (.int .i64 (G k))) := (Wrote.refl _ _ _ _).setCell (Nat.zero_le k) hlt _
        have i4 := i3.wrote q4 (show w.heap.size + 1 ≠ w.heap.size by omega)
        have r4 := r3.far (a := ⟨w.heap.size, k, none⟩) (show w.heap.size + 1 + 1 ≠ w.heap.size by omega) (.int .i64 (G k))
        have b4 : Scr gb nb w (w3.setCell ⟨w.heap.size, k, none⟩ (.int .i64 (G k))) := b3.over q4 (Nat.le_refl _) hgb
        have AD := Lib.hid (advance_any a n c f (w.heap.size + 1) n k (cutW (w3.setCell ⟨w.heap.size, k, none⟩ (.int .i64 (G k))) w.heap.size) _ (H.out.cut b4.1 HNE.out) (cutW_below b4.1.size) (by rw [cutW_size b4.1.size]; omega) h8 HP1.out HF.out ⟨by omega, by have := HMM.out; omega⟩ i4 ⟨Nat.le_refl _, by unfold maxLen; omega⟩)
        have x1 := p3.2.2 k hlt
        have x2 := p3.2.1 k
        have hk0 : (0 : Int) ≤ k := by omega
        have hk1 : (k : Int) < M := by omega
        have HEND : Hid (∀ w5, Wrote (w.heap.size + 1) 0 n (w3.setCell ⟨w.heap.size, k, none⟩ (.int .i64 (G k))) w5 → IBox w5 (w.heap.size + 1) n (dgs f n ((k : Int) + 1)) → PlSw gb nb G w w5 f n M w.heap.size (w.heap.size + 1) (w.heap.size + 1 + 1) (k + 1)) := Lib.hid (fun w5 q5 i5 => ⟨b4.over q5 (by omega) hgb, (p4.wrote q5 (by omega)).congr (fun j hj => by
          show (if j = k then G k else if j < k then G j else 0) = if j < k + 1 then G j else 0
          by_cases e : j = k
          · subst e; rw [if_pos rfl, if_pos (by omega)]
          · rw [if_neg e]
            by_cases e2 : j < k
            · rw [if_pos e2, if_pos (by omega)]
            · rw [if_neg e2, if_neg (by omega)]), i5, _, (q5.block (w.heap.size + 1 + 1) r4.lt (by omega)).trans r4, by rw [List.size_toArray, kcs_length]⟩)
        clear b3 p3 i3 r3 p4 q4 i4 r4 b4 hb3 hs2
        go_wp2_with fail
        go_at_call 132
        (refine (AD.out).mono ?_)
        rintro e w5 ⟨rfl, q5, i5⟩
        have HN := Lib.hid (HEND.out w5 q5 i5)
        clear q5 i5
        go_wp2
        go_roundw
        case rel => exact ⟨k + 1, by omega, by go_num, HN.out⟩
        case measure => simp [intOf]; omega
      · obtain rfl : k = M := by omega
        have HE : Hid (KRow wr .i64 (some ⟨w.heap.size, 0, none⟩) k k G ∧ Scr gb nb w wr) := Lib.hid ⟨(hbp.congr (h' := G) (fun j hj => by rw [if_pos hj])).krow (by unfold maxLen; omega), hbl⟩
        clear hrel hbl hbp hbi hrow hcur
        go_wp2
        go_ret
        exact ⟨_, rfl, HE.out⟩
  · go_wp2_with fail
    have H0 : Hid (PlSw gb nb G w (((w.alloc (.cells (madeCells (Value.cells (.int .i64 0)) M) 3)).alloc (.cells (madeCells (Value.cells (.int .i64 0)) n) 3)).alloc (.cells (madeCells (Value.cells (.int .i64 0)) n) 3)).drew f n M w.heap.size (w.heap.size + 1 + 1) (w.heap.size + 1) 0) := Lib.hid (by
      have h := (W3.out _ rfl).2
      exact ⟨⟨h.1.1.drew, h.1.2⟩, h.2⟩)
    go_loopw [32] (fun i wr => ∃ k : Nat, k ≤ M ∧ i = .int .i64 k ∧ Hid (PlSw gb nb G w wr f n M w.heap.size (w.heap.size + 1 + 1) (w.heap.size + 1) k)) (fun i _ => M - (intOf i).toNat)
    case atStart => exact ⟨0, by omega, rfl, H0.out⟩
    case round =>
      obtain ⟨k, hk, rfl, hrel⟩ := hrel
      obtain ⟨hbl, hbp, hbi, cur, hrow, hcur⟩ := hrel.out
      have hwr := hbl.1.size
      by_cases hlt : k < M
      · obtain ⟨hin, hpl⟩ := HD.out k hlt
        have HIN := Lib.hid (And.intro hin hpl)
        have hp1 := HP.out k hlt
        have HP1 := Lib.hid hp1
        have HBL := Lib.hid hbl
        have HBP := Lib.hid hbp
        have HBI := Lib.hid hbi
        have HROW := Lib.hid hrow
        have HCUR := Lib.hid hcur
        clear hrel hin hpl hbl hbp hbi hrow hcur hp1
        go_wp2_with (refine wpList_copy_full rfl (.tmp 35) (.tmp 36) 22 22 rfl 3 Tryz.underlying22 hsz (w.heap.size + 1) n n (w.heap.size + 1 + 1) n rfl rfl cur 3 HROW.out HCUR.out (dgs f n k) HBI.out ?_)
        intro w2 hrow2 hwr2
        have b2 := HBL.out.over hwr2 (show w.heap.size ≤ w.heap.size + 1 by omega) hgb
        have CLS : Hid (Calls Tryz.prog fv (#[.slice (some ⟨w.heap.size + 1, 0, none⟩) n n] ++ cap) w2 fun e w' => e = .returned (.int .i64 (G k)) ∧ Scr gb nb w2 w') := Lib.hid (HCL.out w2 b2 k hlt _ (show w.heap.size + 1 ≠ gb by omega) ((IBox.of_row hrow2).krow (by unfold maxLen; omega)))
        have HR2 := Lib.hid hrow2
        have HW2 := Lib.hid hwr2
        have HB2 := Lib.hid b2
        clear hrow2 hwr2 b2
        go_wp2_with fail
        go_at_fn fv
        (refine (CLS.out).mono ?_)
        rintro e w3 ⟨rfl, hb3⟩
        have hs2 := HB2.out.1.size
        have b3 := HB2.out.next hb3
        have p3 := (HBP.out.wrote HW2.out (show w.heap.size ≠ w.heap.size + 1 by omega)).wrote hb3.1 (show w.heap.size ≠ gb by omega)
        have i3 := (HBI.out.wrote HW2.out (show w.heap.size + 1 + 1 ≠ w.heap.size + 1 by omega)).wrote hb3.1 (show w.heap.size + 1 + 1 ≠ gb by omega)
        have r3 : Row w3 (w.heap.size + 1) 3 (kcs .i64 (dgs f n k) n).toArray := (hb3.1.block (w.heap.size + 1) HR2.out.lt (by omega)).trans HR2.out
        have p4 := p3.set hlt (G k)
        have q4 : Wrote w.heap.size 0 M w3 (w3.setCell ⟨w.heap.size, k, none⟩ (.int .i64 (G k))) := (Wrote.refl _ _ _ _).setCell (Nat.zero_le k) hlt _
        have i4 := i3.wrote q4 (show w.heap.size + 1 + 1 ≠ w.heap.size by omega)
        have r4 := r3.far (a := ⟨w.heap.size, k, none⟩) (show w.heap.size + 1 ≠ w.heap.size by omega) (.int .i64 (G k))
        have b4 : Scr gb nb w (w3.setCell ⟨w.heap.size, k, none⟩ (.int .i64 (G k))) := b3.over q4 (Nat.le_refl _) hgb
        have AD := Lib.hid (advance_any a n c f (w.heap.size + 1 + 1) n k (cutW (w3.setCell ⟨w.heap.size, k, none⟩ (.int .i64 (G k))) w.heap.size) _ (H.out.cut b4.1 HNE.out) (cutW_below b4.1.size) (by rw [cutW_size b4.1.size]; omega) h8 HP1.out HF.out ⟨by omega, by have := HMM.out; omega⟩ i4 ⟨Nat.le_refl _, by unfold maxLen; omega⟩)
        have x1 := p3.2.2 k hlt
        have x2 := p3.2.1 k
        have hk0 : (0 : Int) ≤ k := by omega
        have hk1 : (k : Int) < M := by omega
        have HEND : Hid (∀ w5, Wrote (w.heap.size + 1 + 1) 0 n (w3.setCell ⟨w.heap.size, k, none⟩ (.int .i64 (G k))) w5 → IBox w5 (w.heap.size + 1 + 1) n (dgs f n ((k : Int) + 1)) → PlSw gb nb G w w5 f n M w.heap.size (w.heap.size + 1 + 1) (w.heap.size + 1) (k + 1)) := Lib.hid (fun w5 q5 i5 => ⟨b4.over q5 (by omega) hgb, (p4.wrote q5 (by omega)).congr (fun j hj => by
          show (if j = k then G k else if j < k then G j else 0) = if j < k + 1 then G j else 0
          by_cases e : j = k
          · subst e; rw [if_pos rfl, if_pos (by omega)]
          · rw [if_neg e]
            by_cases e2 : j < k
            · rw [if_pos e2, if_pos (by omega)]
            · rw [if_neg e2, if_neg (by omega)]), i5, _, (q5.block (w.heap.size + 1) r4.lt (by omega)).trans r4, by rw [List.size_toArray, kcs_length]⟩)
        clear b3 p3 i3 r3 p4 q4 i4 r4 b4 hb3 hs2
        go_wp2_with fail
        go_at_call 132
        (refine (AD.out).mono ?_)
        rintro e w5 ⟨rfl, q5, i5⟩
        have HN := Lib.hid (HEND.out w5 q5 i5)
        clear q5 i5
        go_wp2
        go_roundw
        case rel => exact ⟨k + 1, by omega, by go_num, HN.out⟩
        case measure => simp [intOf]; omega
      · obtain rfl : k = M := by omega
        have HE : Hid (KRow wr .i64 (some ⟨w.heap.size, 0, none⟩) k k G ∧ Scr gb nb w wr) := Lib.hid ⟨(hbp.congr (h' := G) (fun j hj => by rw [if_pos hj])).krow (by unfold maxLen; omega), hbl⟩
        clear hrel hbl hbp hbi hrow hcur
        go_wp2
        go_ret
        exact ⟨_, rfl, HE.out⟩
end Go.Proofs.YtifnamlgkooacaaGreatDoor

namespace Go.Proofs.YtifnamlgkooacaaGreatDoor
open Go.RowKit
/-- The index that an index is picked from: each axis by its own places. -/
def pkI (F : Nat → Nat → Int) (d : Nat → Int) : Nat → Int := fun j => F j (d j).toNat
/-- Where the elements come from when places are picked along each axis. -/
def pkG (S T : Nat → Int) (r : Nat) (F : Nat → Nat → Int) (k : Nat) : Int := if inB S (pkI F (dgs T r (k : Nat))) r then plc S (pkI F (dgs T r (k : Nat))) r else -1
theorem pkG_bd {S T : Nat → Int} {r : Nat} {F : Nat → Nat → Int} (hsh : shB S r = true) (k : Nat) : -1 ≤ pkG S T r F k ∧ pkG S T r F k < 4096 := by
  obtain ⟨_, hax⟩ := sh_ax hsh
  unfold pkG
  split
  · rename_i h
    have h1 := plc_bd hax h
    have h2 := ax_bd hax
    omega
  · omega
theorem pkI_congr {F F' : Nat → Nat → Int} {d : Nat → Int} {S : Nat → Int} {r : Nat} (h : ∀ j, j < r → F j (d j).toNat = F' j (d j).toNat) : inB S (pkI F d) r = inB S (pkI F' d) r ∧ plc S (pkI F d) r = plc S (pkI F' d) r := by
  induction r with
  | zero => exact ⟨rfl, rfl⟩
  | succ r ih =>
    obtain ⟨h1, h2⟩ := ih (fun j hj => h j (by omega))
    have h3 : pkI F d r = pkI F' d r := h r (by omega)
    constructor
    · show (inB S (pkI F d) r && (decide (0 ≤ pkI F d r) && decide (pkI F d r < S r))) = (inB S (pkI F' d) r && (decide (0 ≤ pkI F' d r) && decide (pkI F' d r < S r)))
      rw [h1, h3]
    · show plc S (pkI F d) r * S r + pkI F d r = plc S (pkI F' d) r * S r + pkI F' d r
      rw [h2, h3]
set_option maxHeartbeats 1600000 in
set_option maxRecDepth 100000 in
theorem cloneI_some (ad : Addr) (n c : Nat) (f : Nat → Int) (w : World) (h : KRow w .i64 (some ad) n c f) (hn : n ≤ 1000000) :
    Calls Tryz.prog 72 #[.slice (some ad) n c] w fun e w' => ∃ g c', e = .returned (.slice (some ⟨g, 0, none⟩) n c') ∧ w.heap.size ≤ g ∧ g < w'.heap.size ∧ KRow w' .i64 (some ⟨g, 0, none⟩) n c' f ∧ Below w.heap.size w w' := by
  obtain ⟨i0, hi, hz0, hz1, hz2⟩ := info_parts infoI
  have q22 : ∀ (w : World) (a : Option Addr) (n c n' c' : Nat), (binOp .eql 22 (.slice a n c) (.slice none n' c')).run Tryz.prog w = .ok (.bool a.isNone) w := fun w a n c n' c' => Lib.run_eql_slice_nil w _ _ a n c n' c' Tryz.underlying22
  have hex : ∃ news : List Value, news.length = n * 1 ∧ (∀ j u, news[j]? = some u → w.cell? (ad.add j) = some u) ∧ (∀ u ∈ news, u.oneCell' = true) ∧ ∀ j, j < n → news[j]? = some (.int .i64 (f j)) := by
    rcases h.2.2 with h0 | ⟨b, off, he, hb, hc⟩
    · subst h0
      exact ⟨[], rfl, fun j u hu => by simp at hu, fun u hu => by simp at hu, fun j hj => by omega⟩
    · obtain rfl := Option.some.inj he
      have hg : ∀ j, j < n → ((List.range n).map fun j => Value.int .i64 (f j))[j]? = some (.int .i64 (f j)) := fun j hj => by rw [List.getElem?_map, List.getElem?_range hj]; rfl
      refine ⟨(List.range n).map fun j => .int .i64 (f j), by simp, fun j u hu => ?_, fun u hu => ?_, hg⟩
      · have hj : j < n := by
          have := (List.getElem?_eq_some_iff.1 hu).1
          simpa using this
        rw [hg j hj] at hu
        obtain rfl := Option.some.inj hu
        rw [show (⟨b, off, none⟩ : Addr).add j = ⟨b, off + j, none⟩ by simp [Addr.add]]
        exact hc j hj
      · obtain ⟨j, _, rfl⟩ := List.mem_map.1 hu
        rfl
  obtain ⟨news, hl, hcell, hone, hrat⟩ := hex
  have HC := Lib.hid hcell
  have HO := Lib.hid hone
  have HR := Lib.hid hrat
  have HL := Lib.hid hl
  have HN := Lib.hid hn
  clear hcell hone hrat hl h hn
  go_enter Tryz.func72, Tryz.ntmps72
  go_wp2_with (at_builtin; refine wpList_append_own _ rfl _ _ 22 rfl w.heap.size 3 i0 _ 1 8 Tryz.underlying22 hi hz0 hz1 hz2 rfl (by omega) _ _ _ rfl (World.ownsRow_made w #[] 0 (Nat.le_refl _) (Nat.zero_le _) (by simp)) ad n c news rfl ?qc1 ?qc2 ?qc3 ?qc4 ?qc5 ?qc6 ?_)
  case qc1 => exact HL.out
  case qc2 => exact fun j u hj => Lib.cell?_alloc_some _ (HC.out j u hj)
  case qc3 => exact HO.out
  case qc4 => have := HN.out; unfold maxLen; omega
  case qc5 => have := HN.out; omega
  case qc6 => simp
  intro v' w1 hown hgrow hnil
  have hb : Below w.heap.size w w1 := ((Below.refl _ w).alloc (Nat.le_refl _) _).grown hgrow (by simp) (by intro k hk; simp [Value.ownBlock] at hk; omega)
  have HE : Hid (∃ g c', v' = .slice (some ⟨g, 0, none⟩) n c' ∧ w.heap.size ≤ g ∧ g < w1.heap.size ∧ KRow w1 .i64 (some ⟨g, 0, none⟩) n c' f) := by
    rcases hown.2 with ⟨e0, h0⟩ | ⟨g, cap, cur, rfl, hge, hh, h1, h2, _, hcs⟩
    · exact absurd e0 (by first | exact hnil | (intro e1; have := (hnil.1 e1).1; cases this))
    · try rw [Nat.zero_add] at h1
      refine ⟨g, cap, by first | rfl | rw [Nat.zero_add], hge, Row.lt (t := 3) hh, h1, h2, .inr ⟨g, 0, rfl, Row.lt (t := 3) hh, fun j hj => ?_⟩⟩
      have := hown.cells (g := g) rfl j _ (by first | exact HR.out j hj | (rw [List.nil_append]; exact HR.out j hj))
      rwa [show (⟨g, 0, none⟩ : Addr).add j = ⟨g, 0 + j, none⟩ by unfold Addr.add; split <;> simp_all] at this
  have HB := Lib.hid hb
  clear hown hgrow hnil hb
  go_wp2
  go_ret
  obtain ⟨g, c', rfl, hr⟩ := HE.out
  exact ⟨g, c', rfl, hr.1, hr.2.1, hr.2.2, HB.out⟩
set_option maxHeartbeats 1600000 in
set_option maxRecDepth 100000 in
theorem shape_new (cs : Array Value) (S : Nat → Int) (r : Nat) (ch : Bool) (L : Nat) (g fP : Nat → Int) (fQ : Nat → Nat) (w : World) (h : Arr w cs S r ch L g fP fQ) (hr : r ≤ 8) :
    Calls Tryz.prog 35 #[.agg cs] w fun e w' => ∃ g c', e = .returned (.slice (some ⟨g, 0, none⟩) r c') ∧ w.heap.size ≤ g ∧ g < w'.heap.size ∧ KRow w' .i64 (some ⟨g, 0, none⟩) r c' S ∧ Below w.heap.size w w' := by
  obtain ⟨na, nn, nc, ta, tn, tc, rfl, _⟩ := h.form
  have RK := Lib.hid (fun wz => rank_any ch (dm S r) r na nn nc ta tn tc wz (by omega))
  have CL := Lib.hid (fun a c wz h => cloneI_some a r c S wz h (by omega))
  have BB := Lib.hid ((Bag.start w).newRow (arrC ch ((r : Int) - 1) (dm S r) na nn nc ta tn tc) 32)
  have HR := Lib.hid BB.out.now.1
  have h0 : (0 : Int) ≤ r := by omega
  have h8 : (r : Int) ≤ 8 := by omega
  clear h
  unfold arrC
  go_enter Tryz.func35, Tryz.ntmps35
  go_wp2_with (refine ld_arr rfl (.tmp 1) rfl w.heap.size rfl HR.out ?_)
  go_at_call 23
  (with_reducible refine (RK.out _).mono ?_)
  rintro e w2 ⟨rfl, hb2⟩
  have BB := Lib.hid (BB.out.go hb2)
  clear hb2
  go_wp2_with fail
  go_at_call 72
  (with_reducible refine (CL.out _ _ _ ?_).mono ?_)
  · exact KRow.of_box BB.out.now.1 hr
  rintro e w3 ⟨g3, c3, rfl, hg3, hg4, hk3, hb3⟩
  have HE : Hid (w.heap.size ≤ g3 ∧ g3 < w3.heap.size ∧ KRow w3 .i64 (some ⟨g3, 0, none⟩) r c3 S ∧ Below w.heap.size w w3) := ⟨Nat.le_trans BB.out.below.size hg3, hg4, hk3, (BB.out.go hb3).below⟩
  clear hk3 hb3 hg3 hg4
  go_wp2
  go_ret
  exact ⟨_, _, rfl, HE.out⟩
theorem Scr.cell {gb nb : Nat} {w wz : World} (h : Scr gb nb w wz) {p : Addr} (hl : p.block < w.heap.size) (hne : p.block ≠ gb) : wz.cell? p = w.cell? p := World.cell?_of_block (h.1.block _ hl hne)
theorem Scr.krow {gb nb g n c : Nat} {f : Nat → Int} {w wz : World} (h : Scr gb nb w wz) (q : KRow w .i64 (some ⟨g, 0, none⟩) n c f) (hne : g ≠ gb) : KRow wz .i64 (some ⟨g, 0, none⟩) n c f := by
  refine ⟨q.1, q.2.1, q.2.2.imp id ?_⟩
  rintro ⟨b, off, e, hl, hc⟩
  cases e
  exact ⟨_, _, rfl, Nat.lt_of_lt_of_le hl h.1.size, fun j hj => (h.cell (p := ⟨g, 0 + j, none⟩) hl hne).trans (hc j hj)⟩
theorem ent_cpick1 : Enters Tryz.prog 108 := enters_of Tryz.func108 (by kernel_rfl) rfl
set_option maxHeartbeats 3200000 in
set_option maxRecDepth 100000 in
theorem cpick1_any (gF gI gW gb g1 c1 r M : Nat) (S T : Nat → Int) (aF : Option Addr) (cF : Nat) (A : Nat → Option Addr) (N C : Nat → Nat) (F : Nat → Nat → Int) (w0 w : World) (hb : Below w0.heap.size w0 w) (hgb : w0.heap.size ≤ gb)
    (hF : w.cell? ⟨gF, 0, none⟩ = some (.slice aF r cF)) (lF : gF < w.heap.size) (nF : gF ≠ gb) (hI : w.cell? ⟨gI, 0, none⟩ = some (.slice (some ⟨gb, 0, none⟩) r r)) (lI : gI < w.heap.size) (nI : gI ≠ gb)
    (hW : w.cell? ⟨gW, 0, none⟩ = some (.slice (some ⟨g1, 0, none⟩) r c1)) (lW : gW < w.heap.size) (nW : gW ≠ gb) (hL : LRow w0 aF r cF A N C F) (hT : ∀ j, j < r → T j = (N j : Int)) (hTs : shB T r = true) (hM : itm T r = (M : Nat)) (hFb : ∀ j q, j < r → q < N j → -1000000000 ≤ F j q ∧ F j q ≤ 1000000000)
    (hS : KRow w .i64 (some ⟨g1, 0, none⟩) r c1 S) (nS : g1 ≠ gb) (hsh : shB S r = true) (hS64 : In64 S r) :
    GivesW 108 #[.pointer (some ⟨gF, 0, none⟩), .pointer (some ⟨gI, 0, none⟩), .pointer (some ⟨gW, 0, none⟩)] gb r (pkG S T r F) T r M w := by
  intro wz hz k hk g2 hg2 hx
  show Calls Tryz.prog 108 #[.slice (some ⟨g2, 0, none⟩) r r, .pointer (some ⟨gF, 0, none⟩), .pointer (some ⟨gI, 0, none⟩), .pointer (some ⟨gW, 0, none⟩)] wz _
  obtain ⟨h8, hax⟩ := sh_ax hTs
  have hpos := itm_pos hax (show (0 : Int) ≤ (k : Nat) by omega) (show ((k : Nat) : Int) < itm T r by omega)
  obtain ⟨hin, _⟩ := dgs_in hpos (show (0 : Int) ≤ (k : Nat) by omega) (show ((k : Nat) : Int) < itm T r by omega)
  have HD : Hid (∀ j, j < r → 0 ≤ dgs T r (k : Nat) j ∧ (dgs T r (k : Nat) j).toNat < N j) := Lib.hid (fun j hj => by
    have h1 := inB_at hin hj
    have h2 := hT j hj
    omega)
  have hsz0 := hb.size
  have HBL := Lib.hid (hz.1.below hb hgb hsz0)
  have HL := Lib.hid hL
  have HFB := Lib.hid hFb
  have uF := (hz.cell (p := ⟨gF, 0, none⟩) lF nF).trans hF
  have uI := (hz.cell (p := ⟨gI, 0, none⟩) lI nI).trans hI
  have uW := (hz.cell (p := ⟨gW, 0, none⟩) lW nW).trans hW
  have HX := Lib.hid hx
  have HS := Lib.hid (hz.krow hS nS)
  have hgz : gb < wz.heap.size := by obtain ⟨x, q⟩ := hz.2; exact q.1
  have hlF := Nat.lt_of_lt_of_le lF hz.1.size
  have hlI := Nat.lt_of_lt_of_le lI hz.1.size
  have hlW := Nat.lt_of_lt_of_le lW hz.1.size
  have H0 : Hid (∃ x, Wrote gb 0 r wz wz ∧ IBox wz gb r x ∧ ∀ a, a < 0 → x a = pkI F (dgs T r (k : Nat)) a) := Lib.hid (by
    obtain ⟨x, q⟩ := hz.2
    exact ⟨x, Wrote.refl _ _ _ _, q, fun a ha => absurd ha (Nat.not_lt_zero _)⟩)
  have PLC := Lib.hid (fun wy x (q1 : KRow wy .i64 (some ⟨g1, 0, none⟩) r c1 S) (q2 : KRow wy .i64 (some ⟨gb, 0, none⟩) r r x) (q3 : In64 x r) => place_any (some ⟨g1, 0, none⟩) r c1 S (some ⟨gb, 0, none⟩) r r x wy q1 hS64 q2 q3)
  unfold PlTold at PLC
  have HPK : Hid (∀ x, (∀ a, a < r → x a = pkI F (dgs T r (k : Nat)) a) → shP S r x r = inB S (pkI F (dgs T r (k : Nat))) r ∧ plI S r x r = if inB S (pkI F (dgs T r (k : Nat))) r then plc S (pkI F (dgs T r (k : Nat))) r else 0) := Lib.hid (fun x hx => by
    have e := pkI_congr (F := fun a _ => x a) (F' := F) (d := dgs T r (k : Nat)) (S := S) (r := r) (fun j hj => hx j hj)
    have e0 : pkI (fun a _ => x a) (dgs T r (k : Nat)) = x := rfl
    rw [e0] at e
    have e1 : shP S r x r = inB S (pkI F (dgs T r (k : Nat))) r := by unfold shP; rw [hsh, decide_eq_true rfl, e.1]; rfl
    refine ⟨e1, ?_⟩
    unfold plI
    rw [e1, e.2])
  have HG : Hid (pkG S T r F k = if inB S (pkI F (dgs T r (k : Nat))) r then plc S (pkI F (dgs T r (k : Nat))) r else -1) := Lib.hid rfl
  have HP64 : Hid (∀ x, (∀ a, a < r → x a = pkI F (dgs T r (k : Nat)) a) → In64 x r) := Lib.hid (fun x hx j hj => by
    rw [hx j hj]
    have := hFb j _ hj (HD.out j hj).2
    show -9223372036854775808 ≤ F j (dgs T r (k : Nat) j).toNat ∧ F j (dgs T r (k : Nat) j).toNat ≤ 9223372036854775807
    omega)
  have HPI : Hid (∀ j, pkI F (dgs T r (k : Nat)) j = F j (dgs T r (k : Nat) j).toNat) := Lib.hid (fun _ => rfl)
  have hgne : g2 ≠ gb := hg2
  have hlF0 := hL.1
  have hlF1 := hL.2.1
  unfold maxLen at hlF1
  generalize pkG S T r F k = G at *
  generalize dgs T r (k : Nat) = d at *
  generalize inB S (pkI F d) r = B at *
  generalize plc S (pkI F d) r = pl at *
  generalize pkI F d = X at *
  clear hx hS hF hI hW hL hT hTs hM hsh hS64 hax hpos hin hFb
  go_enter Tryz.func108, Tryz.ntmps108
  go_wp2_with fail
  go_loopw [12] (fun i wr => ∃ j : Nat, j ≤ r ∧ i = .int .i64 j ∧ Hid (∃ x, Wrote gb 0 r wz wr ∧ IBox wr gb r x ∧ ∀ a, a < j → x a = X a)) (fun i _ => r - (intOf i).toNat)
  case atStart => exact ⟨0, by omega, rfl, H0.out⟩
  case round =>
    obtain ⟨j, hj, rfl, hrel⟩ := hrel
    obtain ⟨x, hwr, hbox, hxa⟩ := hrel.out
    have hsw : Scr gb r wz wr := ⟨hwr, x, hbox⟩
    have uF2 := (hsw.cell (p := ⟨gF, 0, none⟩) hlF nF).trans uF
    have uI2 := (hsw.cell (p := ⟨gI, 0, none⟩) hlI nI).trans uI
    have uW2 := (hsw.cell (p := ⟨gW, 0, none⟩) hlW nW).trans uW
    by_cases hlt : j < r
    · have hbl := hwr.below HBL.out hgb (by have := HBL.out.size; omega)
      obtain ⟨bF, oF, haF, hbF, hcF, hrow, _⟩ := (HL.out.below hbl).get hlt
      cases haF
      obtain ⟨hd0, hd1⟩ := HD.out j hlt
      obtain ⟨bx, ox, hax2, hbx2, hcx⟩ := (hsw.krow HX.out hgne).get hlt
      cases hax2
      obtain ⟨q, hq⟩ : ∃ q : Nat, d j = q := ⟨(d j).toNat, by omega⟩
      have hqn : (d j).toNat = q := by omega
      rw [hqn] at hd1
      obtain ⟨bA, oA, haA, hbA, hcA⟩ := hrow.get hd1
      have hNC := hrow.len
      rw [hq, Nat.zero_add] at hcx
      rw [haA] at hcF
      have hj0 : (0 : Int) ≤ j := by omega
      have hj1 : (j : Int) < r := by omega
      have hq0 : (0 : Int) ≤ q := by omega
      have hq1 : (q : Int) < N j := by omega
      have x1 := hbox.2.2 j hlt
      have y1 := hbox.2.1 j
      have HN : Hid (∃ x, Wrote gb 0 r wz (wr.drew.setCell ⟨gb, j, none⟩ (.int .i64 (F j q))) ∧ IBox (wr.drew.setCell ⟨gb, j, none⟩ (.int .i64 (F j q))) gb r x ∧ ∀ a, a < j + 1 → x a = X a) := Lib.hid ⟨_, hwr.drew.setCell (Nat.zero_le j) hlt _, (show IBox wr.drew gb r x from hbox).set hlt (F j q), fun a ha => by
        show (if a = j then F j q else x a) = X a
        by_cases e : a = j
        · subst e; rw [if_pos rfl, HPI.out a, hqn]
        · rw [if_neg e]; exact hxa a (by omega)⟩
      have z1 : wr.drew.cell? ⟨gb, j, none⟩ = some (.int .i64 (x j)) := x1
      have z2 : wr.drew.frozen? ⟨gb, j, none⟩ = false := y1
      clear hrel hwr hbox hxa hsw hbl hrow hd0 hd1 hqn uW2
      generalize F j q = y at *
      generalize x j = xj at *
      generalize N j = nj at *
      generalize C j = cj at *
      generalize d j = dj at *
      go_wp2_with fail
      go_still_tail 10, (by kernel_rfl)
      change wpList _ _ _ _ _ wr.drew
      clear x1 y1 uF2 uI2 hcF hcA hcx
      generalize wr.drew = Y2 at *
      go_wp2
      go_roundw
      case rel => exact ⟨j + 1, by omega, by go_num, HN.out⟩
      case measure => simp [intOf]; omega
    · have hjr : j = r := by omega
      subst j
      have hpk := HPK.out x hxa
      have PLC := Lib.hid (PLC.out wr x (hsw.krow HS.out nS) (hbox.krow (by unfold maxLen; omega)) (HP64.out x hxa))
      rw [hpk.1, hpk.2] at PLC
      have HWR := Lib.hid hsw
      clear hrel hwr hbox hxa hsw hpk
      cases B with
      | true =>
        rw [if_pos rfl] at PLC
        have hg0 := HG.out
        rw [if_pos rfl] at hg0
        go_wp2_with fail
        go_at_call 109
        (with_reducible refine PLC.out.mono ?_)
        rintro e w5 ⟨rfl, hb5⟩
        have HE : Hid (Scr gb r wz w5) := Lib.hid (by
          obtain ⟨q1, x, q2⟩ := HWR.out
          exact ⟨q1.trans (Wrote.of_below hb5 q2.1), x, q2.below hb5⟩)
        rw [← hg0]
        clear hb5 hg0
        go_wp2
        go_ret
        exact ⟨rfl, HE.out⟩
      | false =>
        rw [if_neg (by decide)] at PLC
        have hg0 := HG.out
        rw [if_neg (by decide)] at hg0
        go_wp2_with fail
        go_at_call 109
        (with_reducible refine PLC.out.mono ?_)
        rintro e w5 ⟨rfl, hb5⟩
        have HE : Hid (Scr gb r wz w5) := Lib.hid (by
          obtain ⟨q1, x, q2⟩ := HWR.out
          exact ⟨q1.trans (Wrote.of_below hb5 q2.1), x, q2.below hb5⟩)
        have HG0 := Lib.hid hg0
        clear hb5 hg0
        go_wp2
        go_ret
        exact ⟨by rw [HG0.out]; rfl, HE.out⟩
end Go.Proofs.YtifnamlgkooacaaGreatDoor

namespace Go.Proofs.YtifnamlgkooacaaGreatDoor
open Go.RowKit
attribute [local go_sem ↓] Go.wp_at_zero Go.wp_at_succ
theorem IsA.of (ch : Bool) (more : Int) (d : Nat → Int) (na : Option Addr) (nn nc : Nat) (ta : Option Addr) (tn tc : Nat) : IsA (arrC ch more d na nn nc ta tn tc) := ⟨_, _, _, _, _, _, _, _, _, rfl⟩
theorem res_arr3 {fn : Func} {p q s : Tmp} {tmps : Array Value} {w : World} {g g2 : Nat} {cs cs2 : Array Value} {v : Value} (h : fn.results = #[.cell p 32, .cell q 32, .tmp s]) (hp : tmps.getD p undef = .pointer (some ⟨g, 0, none⟩)) (hq : tmps.getD q undef = .pointer (some ⟨g2, 0, none⟩)) (hs : tmps.getD s undef = v) (hg : Row w g 32 cs) (hg2 : Row w g2 32 cs2) (h1 : cs.size = 12) (h2 : cs2.size = 12) :
    (results fn tmps).run Tryz.prog w = .ok (.tuple #[.agg cs, .agg cs2, v]) w := by
  have hp' : tmps[p]?.getD undef = .pointer (some ⟨g, 0, none⟩) := by simpa using hp
  have hq' : tmps[q]?.getD undef = .pointer (some ⟨g2, 0, none⟩) := by simpa using hq
  have hs' : tmps[s]?.getD undef = v := by simpa using hs
  simp [results, h, hp', hq', hs', asAddr, run_loadVar_row w g _ _ cs (0, 0) _ hg Tryz.underlying32 rfl (by rw [arr12, h1]), run_loadVar_row w g2 _ _ cs2 (0, 0) _ hg2 Tryz.underlying32 rfl (by rw [arr12, h2])]
theorem Arr.zero {w : World} {x : Array Value} {S : Nat → Int} {r : Nat} {ch : Bool} {g P : Nat → Int} {Q : Nat → Nat} (h : Arr w x S r ch 0 g P Q) (g' P' : Nat → Int) (Q' : Nat → Nat) : Arr w x S r ch 0 g' P' Q' := by
  refine ⟨fun e => ?_, fun e => ?_⟩
  · obtain ⟨a, c, h1, h2⟩ := h.1 e
    exact ⟨a, c, h1, h2.zero _⟩
  · obtain ⟨a, c, h1, h2⟩ := h.2 e
    exact ⟨a, c, h1, h2.1, h2.2.1, .inl rfl⟩
theorem pick0_any {w : World} {cs : Array Value} {S : Nat → Int} {r : Nat} {ch : Bool} {L : Nat} {g P : Nat → Int} {Q : Nat → Nat} {a : Option Addr} {q c : Nat} {T : Nat → Int} {g' P' : Nat → Int} {Q' : Nat → Nat} (h : Arr w cs S r ch L g P Q) (k : KRow w .i64 a q c T) (hsh : shB T q = true) (h0 : itm T q = ((0 : Nat) : Int)) :
    Calls Tryz.prog 52 #[.agg cs, .slice a q c, .slice none 0 0] w fun e w' => ∃ x, e = .returned (.tuple #[.agg x, .bool true]) ∧ Arr w' x T q ch 0 g' P' Q' ∧ Below w.heap.size w w' := by
  have := pick8_any cs S r ch L g P Q a q c T none 0 0 (fun _ => 0) w h k (fun j hj => by have := ax_le4 hsh hj; omega) (KRow.nought _ _ _ _ (Nat.zero_le _) _) (fun j hj => absurd hj (Nat.not_lt_zero _)) (by omega)
  rw [hsh, h0, decide_eq_true rfl, Bool.true_and] at this
  refine this.mono ?_
  rintro e w' ⟨x, he, h2, hb⟩
  rw [if_pos rfl] at h2
  exact ⟨x, he, h2.zero _ _ _, hb⟩
/-- Can two arrays be of one kind, and which one? -/
def kdB (ch1 : Bool) (L1 : Nat) (ch2 : Bool) (L2 : Nat) : Bool := decide (ch1 = ch2) || decide (L2 = 0) || decide (L1 = 0)
def kdC (ch1 : Bool) (_L1 : Nat) (ch2 : Bool) (L2 : Nat) : Bool := if ch1 = ch2 then ch1 else if L2 = 0 then ch1 else ch2
/-- What stays when an array is stored. -/
def Keeps (K : World → Prop) : Prop := (∀ a b, Below a.heap.size a b → K a → K b) ∧ ∀ (y : World) (k : Nat) (z cs : Array Value), Row y k 32 z → IsA z → K y → K (y.setRow k cs)
/-- Two arrays of one kind. -/
def ArrTwo (ch : Bool) (x1 : Array Value) (S1 : Nat → Int) (r1 L1 : Nat) (g1 P1 : Nat → Int) (Q1 : Nat → Nat) (x2 : Array Value) (S2 : Nat → Int) (r2 L2 : Nat) (g2 P2 : Nat → Int) (Q2 : Nat → Nat) (y : World) : Prop := Arr y x1 S1 r1 ch L1 g1 P1 Q1 ∧ Arr y x2 S2 r2 ch L2 g2 P2 Q2
theorem ArrTwo.keeps {ch : Bool} {x1 : Array Value} {S1 : Nat → Int} {r1 L1 : Nat} {g1 P1 : Nat → Int} {Q1 : Nat → Nat} {x2 : Array Value} {S2 : Nat → Int} {r2 L2 : Nat} {g2 P2 : Nat → Int} {Q2 : Nat → Nat} : Keeps (ArrTwo ch x1 S1 r1 L1 g1 P1 Q1 x2 S2 r2 L2 g2 P2 Q2) :=
  ⟨fun _ _ hb h => ⟨h.1.below hb, h.2.below hb⟩, fun _ _ _ cs hr hz h => ⟨h.1.store hr hz cs, h.2.store hr hz cs⟩⟩
/-- What lies in the four variables. -/
def AlkP (k1 k2 k3 k4 : Nat) (c1 c2 : Array Value) (K : World → Prop) (y : World) : Prop := Row y k1 32 c1 ∧ Row y k2 32 c2 ∧ (∃ z, Row y k3 32 z ∧ IsA z) ∧ (∃ z, Row y k4 32 z ∧ IsA z) ∧ K y
theorem AlkP.stay {k1 k2 k3 k4 : Nat} {c1 c2 : Array Value} {K : World → Prop} (hK : Keeps K) : ∀ a b, Below a.heap.size a b → AlkP k1 k2 k3 k4 c1 c2 K a → AlkP k1 k2 k3 k4 c1 c2 K b := by
  rintro a b hb ⟨h1, h2, ⟨z3, h3, i3⟩, ⟨z4, h4, i4⟩, h5⟩
  exact ⟨h1.below hb, h2.below hb, ⟨z3, h3.below hb, i3⟩, ⟨z4, h4.below hb, i4⟩, hK.1 _ _ hb h5⟩
theorem AlkP.put3 {w y : World} {k1 k2 k3 k4 : Nat} {c1 c2 : Array Value} {K : World → Prop} (hK : Keeps K) (h : Bag w (AlkP k1 k2 k3 k4 c1 c2 K) y) (n1 : k1 ≠ k3) (n2 : k2 ≠ k3) (n4 : k4 ≠ k3) (hw : w.heap.size ≤ k3) (cs : Array Value) (hc : IsA cs) : Bag w (AlkP k1 k2 k3 k4 c1 c2 K) (y.setRow k3 cs) := by
  obtain ⟨h1, h2, ⟨z3, h3, i3⟩, ⟨z4, h4, i4⟩, h5⟩ := h.now
  exact ⟨below_put h.below hw _, AlkP.stay hK, h1.puto n1 _, h2.puto n2 _, ⟨_, h3.put _, hc⟩, ⟨z4, h4.puto n4 _, i4⟩, hK.2 _ _ _ _ h3 i3 h5⟩
theorem AlkP.put4 {w y : World} {k1 k2 k3 k4 : Nat} {c1 c2 : Array Value} {K : World → Prop} (hK : Keeps K) (h : Bag w (AlkP k1 k2 k3 k4 c1 c2 K) y) (n1 : k1 ≠ k4) (n2 : k2 ≠ k4) (n3 : k3 ≠ k4) (hw : w.heap.size ≤ k4) (cs : Array Value) (hc : IsA cs) : Bag w (AlkP k1 k2 k3 k4 c1 c2 K) (y.setRow k4 cs) := by
  obtain ⟨h1, h2, ⟨z3, h3, i3⟩, ⟨z4, h4, i4⟩, h5⟩ := h.now
  exact ⟨below_put h.below hw _, AlkP.stay hK, h1.puto n1 _, h2.puto n2 _, ⟨z3, h3.puto n3 _, i3⟩, ⟨_, h4.put _, hc⟩, hK.2 _ _ _ _ h4 i4 h5⟩
/-- The same, where the second one is stored to; and whether it has been. -/
def AlkB (f : Bool) (k1 k2 k3 k4 : Nat) (c1 c2 : Array Value) (y : World) : Prop := (f = false → Row y k2 32 c2) ∧ Row y k1 32 c1 ∧ (∃ z, Row y k2 32 z ∧ IsA z) ∧ (∃ z, Row y k3 32 z ∧ IsA z) ∧ ∃ z, Row y k4 32 z ∧ IsA z
theorem AlkB.stay {f : Bool} {k1 k2 k3 k4 : Nat} {c1 c2 : Array Value} : ∀ a b, Below a.heap.size a b → AlkB f k1 k2 k3 k4 c1 c2 a → AlkB f k1 k2 k3 k4 c1 c2 b := by
  rintro a b hb ⟨h0, h1, ⟨z2, h2, i2⟩, ⟨z3, h3, i3⟩, z4, h4, i4⟩
  exact ⟨fun e => (h0 e).below hb, h1.below hb, ⟨z2, h2.below hb, i2⟩, ⟨z3, h3.below hb, i3⟩, z4, h4.below hb, i4⟩
theorem AlkB.put {w y : World} {f : Bool} {k1 k2 k3 k4 : Nat} {c1 c2 : Array Value} (h : Bag w (AlkB f k1 k2 k3 k4 c1 c2) y) (n1 : k1 ≠ k2) (n34 : k3 ≠ k2 ∧ k4 ≠ k2) (hw : w.heap.size ≤ k2) (cs : Array Value) (hc : IsA cs) : Bag w (AlkB true k1 k2 k3 k4 c1 c2) (y.setRow k2 cs) := by
  obtain ⟨h0, h1, ⟨z2, h2, i2⟩, ⟨z3, h3, i3⟩, z4, h4, i4⟩ := h.now
  exact ⟨below_put h.below hw _, AlkB.stay, (fun e => by cases e), h1.puto n1 _, ⟨_, h2.put _, hc⟩, ⟨z3, h3.puto n34.1 _, i3⟩, z4, h4.puto n34.2 _, i4⟩
set_option linter.unusedSimpArgs false in
set_option linter.unusedVariables false in
set_option maxHeartbeats 6400000 in
set_option maxRecDepth 100000 in
theorem alike_any (x1 : Array Value) (S1 : Nat → Int) (r1 : Nat) (ch1 : Bool) (L1 : Nat) (g1 P1 : Nat → Int) (Q1 : Nat → Nat) (x2 : Array Value) (S2 : Nat → Int) (r2 : Nat) (ch2 : Bool) (L2 : Nat) (g2 P2 : Nat → Int) (Q2 : Nat → Nat) (w : World) (h1 : Arr w x1 S1 r1 ch1 L1 g1 P1 Q1) (h2 : Arr w x2 S2 r2 ch2 L2 g2 P2 Q2)
    (hsh1 : shB S1 r1 = true) (hc1 : itm S1 r1 = (L1 : Nat)) (hsh2 : shB S2 r2 = true) (hc2 : itm S2 r2 = (L2 : Nat)) :
    Calls Tryz.prog 25 #[.agg x1, .agg x2] w fun e w' => ∃ y1 y2, e = .returned (.tuple #[.agg y1, .agg y2, .bool (kdB ch1 L1 ch2 L2)]) ∧ IsA y1 ∧ IsA y2 ∧ (kdB ch1 L1 ch2 L2 = true → Arr w' y1 S1 r1 (kdC ch1 L1 ch2 L2) L1 g1 P1 Q1 ∧ Arr w' y2 S2 r2 (kdC ch1 L1 ch2 L2) L2 g2 P2 Q2) ∧ Below w.heap.size w w' := by
  obtain ⟨na1, nn1, nc1, ta1, tn1, tc1, hx1, _⟩ := h1.form
  subst hx1
  obtain ⟨na2, nn2, nc2, ta2, tn2, tc2, hx2, _⟩ := h2.form
  subst hx2
  have hr1 := (sh_ax hsh1).1
  have hr2 := (sh_ax hsh2).1
  have H1 := Lib.hid h1
  have H2 := Lib.hid h2
  have IC1 := Lib.hid (fun wz => isChar_any ch1 ((r1 : Int) - 1) (dm S1 r1) na1 nn1 nc1 ta1 tn1 tc1 wz)
  have IC2 := Lib.hid (fun wz => isChar_any ch2 ((r2 : Int) - 1) (dm S2 r2) na2 nn2 nc2 ta2 tn2 tc2 wz)
  have LN1 := Lib.hid (fun wz h => len8_any (arrC ch1 ((r1 : Int) - 1) (dm S1 r1) na1 nn1 nc1 ta1 tn1 tc1) S1 r1 ch1 L1 g1 P1 Q1 wz h)
  have LN2 := Lib.hid (fun wz h => len8_any (arrC ch2 ((r2 : Int) - 1) (dm S2 r2) na2 nn2 nc2 ta2 tn2 tc2) S2 r2 ch2 L2 g2 P2 Q2 wz h)
  have BB0 := Lib.hid (((((Bag.start w).newRow (arrC ch1 ((r1 : Int) - 1) (dm S1 r1) na1 nn1 nc1 ta1 tn1 tc1) 32).newRow (arrC ch2 ((r2 : Int) - 1) (dm S2 r2) na2 nn2 nc2 ta2 tn2 tc2) 32).newRow zerC 32).newRow zerC 32)
  simp only [World.size_alloc] at BB0
  have BB := Lib.hid (show Bag w (fun y => Row y w.heap.size 32 (arrC ch1 ((r1 : Int) - 1) (dm S1 r1) na1 nn1 nc1 ta1 tn1 tc1) ∧ Row y (w.heap.size + 1) 32 (arrC ch2 ((r2 : Int) - 1) (dm S2 r2) na2 nn2 nc2 ta2 tn2 tc2) ∧ Row y (w.heap.size + 1 + 1) 32 zerC ∧ Row y (w.heap.size + 1 + 1 + 1) 32 zerC ∧ True) _ from ⟨BB0.out.below, fun a b hb ⟨q1, q2, q3, q4, _⟩ => ⟨q1.below hb, q2.below hb, q3.below hb, q4.below hb, trivial⟩, BB0.out.now.2.2.2.1, BB0.out.now.2.2.1, BB0.out.now.2.1, BB0.out.now.1, trivial⟩)
  unfold zerC at BB
  unfold arrC at BB
  clear h1 h2 BB0
  by_cases hch : ch1 = ch2
  · have e1 : kdB ch1 L1 ch2 L2 = true := by unfold kdB; rw [decide_eq_true hch]; rfl
    have e2 : kdC ch1 L1 ch2 L2 = ch1 := by unfold kdC; rw [if_pos hch]
    rw [e1, e2]
    clear e1 e2
    subst hch
    have db : (ch1 == ch1) = true := beq_self_eq_true ch1
    clear hsh1 hsh2 hc1 hc2 hr1 hr2 
    unfold arrC
    go_enter Tryz.func25, Tryz.ntmps25
    go_wp2_with fail
    have hWW := BB.out.below


    generalize hW : ((((w.alloc (.cells _ 32)).alloc (.cells _ 32)).alloc (.cells _ 32)).alloc (.cells _ 32)) = YY at *
    clear hW hWW
    refine wp_region_inv2 ⟨(fun j => ([[10], [11], [12], [13], [14], [9]] : List (List Nat)).getD j []), (fun j => ([[], [0], [], [0, 1, 2], [0, 1, 2, 3], [0, 1, 2, 3, 4]] : List (List Nat)).getD j []), []⟩ (fun jj vv yy => match jj with | 0 => vv = [some (.agg (arrC ch1 ((r1 : Int) - 1) (dm S1 r1) na1 nn1 nc1 ta1 tn1 tc1))] | 1 => vv = [some (.bool ch1)] | 2 => vv = [some (.agg (arrC ch1 ((r2 : Int) - 1) (dm S2 r2) na2 nn2 nc2 ta2 tn2 tc2))] | 3 => vv = [some (.bool ch1)] | 4 => vv = [some (.bool true)] | 5 => vv = [some (.bool true)] | _ => True) (Bag YY (fun _ => True)) (by kernel_rfl) (by kernel_rfl) (by kernel_rfl) (Bag.start YY).drew ?_ ?_ ?_
    · intro jj vv yw yw2 hb h
      match jj, h with
      | 0, h => exact h
      | 1, h => exact h
      | 2, h => exact h
      | 3, h => exact h
      | 4, h => exact h
      | 5, h => exact h
      | _ + 6, h => exact h
    · intro ac yw hsz hdf hold hB hp
      have t9 : ac.tmps[9]? = some (.bool true) := (List.cons.inj (hp 5 (by decide))).1
      have t2 : ac.tmps[2]? = some (.pointer (some ⟨w.heap.size, 0, none⟩)) := hold 2 (by kernel_rfl)
      have t3 : ac.tmps[3]? = some (.pointer (some ⟨w.heap.size + 1, 0, none⟩)) := hold 3 (by kernel_rfl)
      have t4 : ac.tmps[4]? = some (.pointer (some ⟨w.heap.size + 1 + 1, 0, none⟩)) := hold 4 (by kernel_rfl)
      have t5 : ac.tmps[5]? = some (.pointer (some ⟨w.heap.size + 1 + 1 + 1, 0, none⟩)) := hold 5 (by kernel_rfl)
      have t6 : ac.tmps[6]? = some (.bool false) := hold 6 (by kernel_rfl)
      have BB := Lib.hid (BB.out.go hB.below)
      clear hold hp hB
      obtain ⟨TV, hTV⟩ : ∃ TV : Nat → Value, ∀ i, (ac.tmps[i]?).getD undef = TV i := ⟨_, fun _ => rfl⟩
      have f2 := (hTV 2).symm.trans (congrArg (fun x => Option.getD x undef) t2)
      have f3 := (hTV 3).symm.trans (congrArg (fun x => Option.getD x undef) t3)
      have f4 := (hTV 4).symm.trans (congrArg (fun x => Option.getD x undef) t4)
      have f5 := (hTV 5).symm.trans (congrArg (fun x => Option.getD x undef) t5)
      have f6 := (hTV 6).symm.trans (congrArg (fun x => Option.getD x undef) t6)
      have f9 := (hTV 9).symm.trans (congrArg (fun x => Option.getD x undef) t9)
      have hac := act_eq (n := 41) hsz TV hTV
      rw [show ((List.range 41).map TV).toArray = #[TV 0, TV 1, TV 2, TV 3, TV 4, TV 5, TV 6, TV 7, TV 8, TV 9, TV 10, TV 11, TV 12, TV 13, TV 14, TV 15, TV 16, TV 17, TV 18, TV 19, TV 20, TV 21, TV 22, TV 23, TV 24, TV 25, TV 26, TV 27, TV 28, TV 29, TV 30, TV 31, TV 32, TV 33, TV 34, TV 35, TV 36, TV 37, TV 38, TV 39, TV 40] from rfl, f2, f3, f4, f5, f6, f9, hdf] at hac
      simp only [Option.getD_some] at hac
      subst hac
      clear hTV f2 f3 f4 f5 f6 f9
      generalize yw = Y2 at *
      have QA1 : Hid (∀ wz, Below w.heap.size w wz → Arr wz (arrC ch1 ((r1 : Int) - 1) (dm S1 r1) na1 nn1 nc1 ta1 tn1 tc1) S1 r1 ch1 L1 g1 P1 Q1) := Lib.hid (fun wz hb => H1.out.below hb)
      have QA2 : Hid (∀ wz, Below w.heap.size w wz → Arr wz (arrC ch1 ((r2 : Int) - 1) (dm S2 r2) na2 nn2 nc2 ta2 tn2 tc2) S2 r2 ch1 L2 g2 P2 Q2) := Lib.hid (fun wz hb => H2.out.below hb)
      obtain ⟨Y3, hY3⟩ : ∃ y, y = Y2 := ⟨_, rfl⟩
      subst hY3
      have BP : Bag w (AlkP (w.heap.size) (w.heap.size + 1) (w.heap.size + 1 + 1) (w.heap.size + 1 + 1 + 1) (arrC ch1 ((r1 : Int) - 1) (dm S1 r1) na1 nn1 nc1 ta1 tn1 tc1) (arrC ch1 ((r2 : Int) - 1) (dm S2 r2) na2 nn2 nc2 ta2 tn2 tc2) (ArrTwo ch1 (arrC ch1 ((r1 : Int) - 1) (dm S1 r1) na1 nn1 nc1 ta1 tn1 tc1) S1 r1 L1 g1 P1 Q1 (arrC ch1 ((r2 : Int) - 1) (dm S2 r2) na2 nn2 nc2 ta2 tn2 tc2) S2 r2 L2 g2 P2 Q2)) Y3 := ⟨BB.out.below, AlkP.stay ArrTwo.keeps, BB.out.now.1, BB.out.now.2.1, ⟨_, BB.out.now.2.2.1, IsA.zer⟩, ⟨_, BB.out.now.2.2.2.1, IsA.zer⟩, QA1.out _ BB.out.below, QA2.out _ BB.out.below⟩
      go_wp2_with fail
      refine wp_region_inv4 ⟨(fun j => ([[15], [16], [], [], [6]] : List (List Nat)).getD j []), (fun j => ([[], [], [0], [0, 1, 2], [0, 1, 2, 3]] : List (List Nat)).getD j []), []⟩ (fun jj vv yy => match jj with | 0 => vv = [some (.agg (arrC ch1 ((r1 : Int) - 1) (dm S1 r1) na1 nn1 nc1 ta1 tn1 tc1))] | 1 => vv = [some (.agg (arrC ch1 ((r2 : Int) - 1) (dm S2 r2) na2 nn2 nc2 ta2 tn2 tc2))] | 2 => Row yy (w.heap.size + 1 + 1) 32 (arrC ch1 ((r1 : Int) - 1) (dm S1 r1) na1 nn1 nc1 ta1 tn1 tc1) | 3 => Row yy (w.heap.size + 1 + 1 + 1) 32 (arrC ch1 ((r2 : Int) - 1) (dm S2 r2) na2 nn2 nc2 ta2 tn2 tc2) | 4 => vv = [some ((Value.bool true))] | _ => True) (fun _ => Bag w (AlkP (w.heap.size) (w.heap.size + 1) (w.heap.size + 1 + 1) (w.heap.size + 1 + 1 + 1) (arrC ch1 ((r1 : Int) - 1) (dm S1 r1) na1 nn1 nc1 ta1 tn1 tc1) (arrC ch1 ((r2 : Int) - 1) (dm S2 r2) na2 nn2 nc2 ta2 tn2 tc2) (ArrTwo ch1 (arrC ch1 ((r1 : Int) - 1) (dm S1 r1) na1 nn1 nc1 ta1 tn1 tc1) S1 r1 L1 g1 P1 Q1 (arrC ch1 ((r2 : Int) - 1) (dm S2 r2) na2 nn2 nc2 ta2 tn2 tc2) S2 r2 L2 g2 P2 Q2))) (by kernel_rfl) (by kernel_rfl) (by kernel_rfl) BP.drew ?_ ?_ ?_
      · intro jj vv yw yw2 hb h
        match jj, h with
        | 0, h => exact h
        | 1, h => exact h
        | 2, g2_0 => exact g2_0.below hb
        | 3, g3_0 => exact g3_0.below hb
        | 4, h => exact h
        | _ + 5, h => exact h
      · intro ac yw hsz hdf hold hB hp
        have r4 := hp 2 (by decide)
        have r5 := hp 3 (by decide)
        have t6 : ac.tmps[6]? = some (.bool true) := (List.cons.inj (hp 4 (by decide))).1
        have t2 : ac.tmps[2]? = some (.pointer (some ⟨w.heap.size, 0, none⟩)) := hold 2 (by kernel_rfl)
        have t3 : ac.tmps[3]? = some (.pointer (some ⟨w.heap.size + 1, 0, none⟩)) := hold 3 (by kernel_rfl)
        have t4 : ac.tmps[4]? = some (.pointer (some ⟨w.heap.size + 1 + 1, 0, none⟩)) := hold 4 (by kernel_rfl)
        have t5 : ac.tmps[5]? = some (.pointer (some ⟨w.heap.size + 1 + 1 + 1, 0, none⟩)) := hold 5 (by kernel_rfl)
        have HR4 := Lib.hid r4
        have HR5 := Lib.hid r5
        have HA1 := Lib.hid hB.now.2.2.2.2.1
        have HA2 := Lib.hid hB.now.2.2.2.2.2
        have HBW := Lib.hid hB.below
        clear hold hp r4 r5 hB
        obtain ⟨TZ, hTZ⟩ : ∃ TZ : Nat → Value, ∀ i, (ac.tmps[i]?).getD undef = TZ i := ⟨_, fun _ => rfl⟩
        have f2 := (hTZ 2).symm.trans (congrArg (fun x => Option.getD x undef) t2)
        have f3 := (hTZ 3).symm.trans (congrArg (fun x => Option.getD x undef) t3)
        have f4 := (hTZ 4).symm.trans (congrArg (fun x => Option.getD x undef) t4)
        have f5 := (hTZ 5).symm.trans (congrArg (fun x => Option.getD x undef) t5)
        have f6 := (hTZ 6).symm.trans (congrArg (fun x => Option.getD x undef) t6)
        have hac := act_eq (n := 41) hsz TZ hTZ
        rw [show ((List.range 41).map TZ).toArray = #[TZ 0, TZ 1, TZ 2, TZ 3, TZ 4, TZ 5, TZ 6, TZ 7, TZ 8, TZ 9, TZ 10, TZ 11, TZ 12, TZ 13, TZ 14, TZ 15, TZ 16, TZ 17, TZ 18, TZ 19, TZ 20, TZ 21, TZ 22, TZ 23, TZ 24, TZ 25, TZ 26, TZ 27, TZ 28, TZ 29, TZ 30, TZ 31, TZ 32, TZ 33, TZ 34, TZ 35, TZ 36, TZ 37, TZ 38, TZ 39, TZ 40] from rfl, f2, f3, f4, f5, f6, hdf] at hac
        simp only [Option.getD_some] at hac
        subst hac
        clear hTZ f2 f3 f4 f5 f6
        go_wp2_with fail
        exact bodyPost_ret (res_arr3 Tryz.results25 rfl rfl rfl HR4.out HR5.out (IsA.of _ _ _ _ _ _ _ _ _).size (IsA.of _ _ _ _ _ _ _ _ _).size) rfl ⟨_, _, rfl, (IsA.of _ _ _ _ _ _ _ _ _), (IsA.of _ _ _ _ _ _ _ _ _), ⟨HA1.out, HA2.out⟩, HBW.out⟩
      refine Stps4.cons (o := _) ?_ ?_
      · intro f ac yw hsz hold hB hp hf K hK
        have t2 : ac.tmps[2]? = some (.pointer (some ⟨w.heap.size, 0, none⟩)) := hold 2 (by kernel_rfl)
        clear hold hp hsz
        rw [if_pos (by rfl)]
        refine ld8 2 rfl (w.heap.size) ((arrC ch1 ((r1 : Int) - 1) (dm S1 r1) na1 nn1 nc1 ta1 tn1 tc1)) t2 (hB.now.1) ((IsA.of _ _ _ _ _ _ _ _ _).size) ?_
        exact hK.out _ _ ⟨hB, rfl, Nat.le_refl _, .inl (Below.refl _ _), fun h => absurd h (by decide)⟩
      refine Stps4.cons (o := _) ?_ ?_
      · intro f ac yw hsz hold hB hp hf K hK
        have t3 : ac.tmps[3]? = some (.pointer (some ⟨w.heap.size + 1, 0, none⟩)) := hold 3 (by kernel_rfl)
        clear hold hp hsz
        rw [if_pos (by rfl)]
        refine ld8 3 rfl (w.heap.size + 1) ((arrC ch1 ((r2 : Int) - 1) (dm S2 r2) na2 nn2 nc2 ta2 tn2 tc2)) t3 (hB.now.2.1) ((IsA.of _ _ _ _ _ _ _ _ _).size) ?_
        exact hK.out _ _ ⟨hB, rfl, Nat.le_refl _, .inl (Below.refl _ _), fun h => absurd h (by decide)⟩
      refine Stps4.cons (o := _) ?_ ?_
      · intro f ac yw hsz hold hB hp hf K hK
        have e0 := hp 0 (by decide)
        have t15 : ac.tmps[15]? = some (.agg (arrC ch1 ((r1 : Int) - 1) (dm S1 r1) na1 nn1 nc1 ta1 tn1 tc1)) := (List.cons.inj e0).1
        have t4 : ac.tmps[4]? = some (.pointer (some ⟨w.heap.size + 1 + 1, 0, none⟩)) := hold 4 (by kernel_rfl)
        clear hold hp hsz hf e0
        rw [if_pos (by rfl)]
        obtain ⟨zz, hz, iz⟩ := hB.now.2.2.1
        have HB := AlkP.put3 ArrTwo.keeps hB (by omega) (by omega) (by omega) (by omega) ((arrC ch1 ((r1 : Int) - 1) (dm S1 r1) na1 nn1 nc1 ta1 tn1 tc1)) (IsA.of _ _ _ _ _ _ _ _ _)
        refine st8 4 15 rfl (w.heap.size + 1 + 1) (arrC ch1 ((r1 : Int) - 1) (dm S1 r1) na1 nn1 nc1 ta1 tn1 tc1) t4 t15 _ zz hz iz (IsA.of _ _ _ _ _ _ _ _ _) ?_
        refine hK.out undef _ ⟨HB, hz.put _, by simp [World.setRow], .inr ?_, fun h => absurd h (by decide)⟩
        intro jj hj hap h
        match jj, h with
        | 0, h => exact h
        | 1, h => exact h
        | 2, _ => exact absurd rfl hj
        | 3, g3_0 => exact g3_0.puto (by omega) _
        | 4, h => exact h
        | _ + 5, h => exact h
      refine Stps4.cons (o := _) ?_ ?_
      · intro f ac yw hsz hold hB hp hf K hK
        have e1 := hp 1 (by decide)
        have t16 : ac.tmps[16]? = some (.agg (arrC ch1 ((r2 : Int) - 1) (dm S2 r2) na2 nn2 nc2 ta2 tn2 tc2)) := (List.cons.inj e1).1
        have t5 : ac.tmps[5]? = some (.pointer (some ⟨w.heap.size + 1 + 1 + 1, 0, none⟩)) := hold 5 (by kernel_rfl)
        clear hold hp hsz hf e1
        rw [if_pos (by rfl)]
        obtain ⟨zz, hz, iz⟩ := hB.now.2.2.2.1
        have HB := AlkP.put4 ArrTwo.keeps hB (by omega) (by omega) (by omega) (by omega) ((arrC ch1 ((r2 : Int) - 1) (dm S2 r2) na2 nn2 nc2 ta2 tn2 tc2)) (IsA.of _ _ _ _ _ _ _ _ _)
        refine st8 5 16 rfl (w.heap.size + 1 + 1 + 1) (arrC ch1 ((r2 : Int) - 1) (dm S2 r2) na2 nn2 nc2 ta2 tn2 tc2) t5 t16 _ zz hz iz (IsA.of _ _ _ _ _ _ _ _ _) ?_
        refine hK.out undef _ ⟨HB, hz.put _, by simp [World.setRow], .inr ?_, fun h => absurd h (by decide)⟩
        intro jj hj hap h
        match jj, h with
        | 0, h => exact h
        | 1, h => exact h
        | 2, g2_0 => exact g2_0.puto (by omega) _
        | 3, _ => exact absurd rfl hj
        | 4, h => exact h
        | _ + 5, h => exact h
      refine Stps4.cons (o := _) ?_ ?_
      · intro f ac yw hsz hold hB hp hf K hK
        clear hold hp hsz hf
        go_simp
        exact hK.out _ _ ⟨hB, rfl, Nat.le_refl _, .inl (Below.refl _ _), fun h => absurd h (by decide)⟩
      exact Stps4.nil _
    refine Stps2.cons (o := _) ?_ ?_
    · intro ac yw hsz hold hB hp K hK
      have t2 : ac.tmps[2]? = some (.pointer (some ⟨w.heap.size, 0, none⟩)) := hold 2 (by kernel_rfl)
      clear hold hp hsz
      rw [if_pos (by rfl)]
      refine ld8 2 rfl (w.heap.size) ((arrC ch1 ((r1 : Int) - 1) (dm S1 r1) na1 nn1 nc1 ta1 tn1 tc1)) t2 ((BB.out.go hB.below).now.1) (rfl) ?_
      exact hK.out _ _ ⟨hB, rfl, Nat.le_refl _, .inl (Below.refl _ _), fun h => absurd h (by decide)⟩
    refine Stps2.cons (o := _) ?_ ?_
    · intro ac yw hsz hold hB hp K hK
      have e0 := hp 0 (by decide)
      have t10 : ac.tmps[10]? = some (.agg (arrC ch1 ((r1 : Int) - 1) (dm S1 r1) na1 nn1 nc1 ta1 tn1 tc1)) := (List.cons.inj e0).1
      clear hold hp hsz e0
      go_simp
      (go_at_call 51; (with_reducible refine (IC1.out _).mono ?_); rintro e wz ⟨rfl, hbz⟩)
      exact hK.out _ _ ⟨hB.go hbz, rfl, hbz.size, .inl hbz, fun h => absurd h (by decide)⟩
    refine Stps2.cons (o := _) ?_ ?_
    · intro ac yw hsz hold hB hp K hK
      have t3 : ac.tmps[3]? = some (.pointer (some ⟨w.heap.size + 1, 0, none⟩)) := hold 3 (by kernel_rfl)
      clear hold hp hsz
      rw [if_pos (by rfl)]
      refine ld8 3 rfl (w.heap.size + 1) ((arrC ch1 ((r2 : Int) - 1) (dm S2 r2) na2 nn2 nc2 ta2 tn2 tc2)) t3 ((BB.out.go hB.below).now.2.1) (rfl) ?_
      exact hK.out _ _ ⟨hB, rfl, Nat.le_refl _, .inl (Below.refl _ _), fun h => absurd h (by decide)⟩
    refine Stps2.cons (o := _) ?_ ?_
    · intro ac yw hsz hold hB hp K hK
      have e2 := hp 2 (by decide)
      have t12 : ac.tmps[12]? = some (.agg (arrC ch1 ((r2 : Int) - 1) (dm S2 r2) na2 nn2 nc2 ta2 tn2 tc2)) := (List.cons.inj e2).1
      clear hold hp hsz e2
      go_simp
      (go_at_call 51; (with_reducible refine (IC2.out _).mono ?_); rintro e wz ⟨rfl, hbz⟩)
      exact hK.out _ _ ⟨hB.go hbz, rfl, hbz.size, .inl hbz, fun h => absurd h (by decide)⟩
    refine Stps2.cons (o := _) ?_ ?_
    · intro ac yw hsz hold hB hp K hK
      have e1 := hp 1 (by decide)
      have t11 : ac.tmps[11]? = some (.bool ch1) := (List.cons.inj e1).1
      have e3 := hp 3 (by decide)
      have t13 : ac.tmps[13]? = some (.bool ch1) := (List.cons.inj e3).1
      clear hold hp hsz e1 e3
      go_simp
      exact hK.out _ _ ⟨hB, rfl, Nat.le_refl _, .inl (Below.refl _ _), fun h => absurd h (by decide)⟩
    refine Stps2.cons (o := _) ?_ ?_
    · intro ac yw hsz hold hB hp K hK
      have e4 := hp 4 (by decide)
      have t14 : ac.tmps[14]? = some (.bool true) := (List.cons.inj e4).1
      clear hold hp hsz e4
      go_simp
      exact hK.out _ _ ⟨hB, rfl, Nat.le_refl _, .inl (Below.refl _ _), fun h => absurd h (by decide)⟩
    exact Stps2.nil _
  · have db : (ch1 == ch2) = false := beq_eq_false_iff_ne.2 hch
    by_cases hz2 : L2 = 0
    · have SH := Lib.hid (fun wz h => shape_new (arrC ch2 ((r2 : Int) - 1) (dm S2 r2) na2 nn2 nc2 ta2 tn2 tc2) S2 r2 ch2 L2 g2 P2 Q2 wz h hr2)
      have PK : Hid (∀ a c wz, Arr wz (arrC ch1 ((r1 : Int) - 1) (dm S1 r1) na1 nn1 nc1 ta1 tn1 tc1) S1 r1 ch1 L1 g1 P1 Q1 → KRow wz .i64 a r2 c S2 → Calls Tryz.prog 52 #[.agg (arrC ch1 ((r1 : Int) - 1) (dm S1 r1) na1 nn1 nc1 ta1 tn1 tc1), .slice a r2 c, .slice none 0 0] wz fun e w' => ∃ x, e = .returned (.tuple #[.agg x, .bool true]) ∧ Arr w' x S2 r2 ch1 0 g2 P2 Q2 ∧ Below wz.heap.size wz w') := Lib.hid (fun a c wz h k => pick0_any h k hsh2 (by rw [hc2, hz2]))
      have HX := Lib.hid H2.out
      have HO := Lib.hid H1.out
      have d2 : ((L2 : Int) == 0) = true := beq_iff_eq.2 (by omega)
      have e1 : kdB ch1 L1 ch2 L2 = true := by unfold kdB; rw [decide_eq_true hz2, Bool.or_true, Bool.true_or]
      have e2 : kdC ch1 L1 ch2 L2 = ch1 := by unfold kdC; rw [if_neg hch, if_pos hz2]
      rw [e1, e2]
      subst hz2
      clear hch e1 e2
      clear hsh1 hsh2 hc1 hc2 hr1 hr2 
      unfold arrC
      go_enter Tryz.func25, Tryz.ntmps25
      go_wp2_with fail
      have hWW := BB.out.below


      generalize hW : ((((w.alloc (.cells _ 32)).alloc (.cells _ 32)).alloc (.cells _ 32)).alloc (.cells _ 32)) = YY at *
      clear hW hWW
      refine wp_region_inv2 ⟨(fun j => ([[10], [11], [12], [13], [14], [9]] : List (List Nat)).getD j []), (fun j => ([[], [0], [], [0, 1, 2], [0, 1, 2, 3], [0, 1, 2, 3, 4]] : List (List Nat)).getD j []), []⟩ (fun jj vv yy => match jj with | 0 => vv = [some (.agg (arrC ch1 ((r1 : Int) - 1) (dm S1 r1) na1 nn1 nc1 ta1 tn1 tc1))] | 1 => vv = [some (.bool ch1)] | 2 => vv = [some (.agg (arrC ch2 ((r2 : Int) - 1) (dm S2 r2) na2 nn2 nc2 ta2 tn2 tc2))] | 3 => vv = [some (.bool ch2)] | 4 => vv = [some (.bool false)] | 5 => vv = [some (.bool false)] | _ => True) (Bag YY (fun _ => True)) (by kernel_rfl) (by kernel_rfl) (by kernel_rfl) (Bag.start YY).drew ?_ ?_ ?_
      · intro jj vv yw yw2 hb h
        match jj, h with
        | 0, h => exact h
        | 1, h => exact h
        | 2, h => exact h
        | 3, h => exact h
        | 4, h => exact h
        | 5, h => exact h
        | _ + 6, h => exact h
      · intro ac yw hsz hdf hold hB hp
        have t9 : ac.tmps[9]? = some (.bool false) := (List.cons.inj (hp 5 (by decide))).1
        have t2 : ac.tmps[2]? = some (.pointer (some ⟨w.heap.size, 0, none⟩)) := hold 2 (by kernel_rfl)
        have t3 : ac.tmps[3]? = some (.pointer (some ⟨w.heap.size + 1, 0, none⟩)) := hold 3 (by kernel_rfl)
        have t4 : ac.tmps[4]? = some (.pointer (some ⟨w.heap.size + 1 + 1, 0, none⟩)) := hold 4 (by kernel_rfl)
        have t5 : ac.tmps[5]? = some (.pointer (some ⟨w.heap.size + 1 + 1 + 1, 0, none⟩)) := hold 5 (by kernel_rfl)
        have t6 : ac.tmps[6]? = some (.bool false) := hold 6 (by kernel_rfl)
        have BB := Lib.hid (BB.out.go hB.below)
        clear hold hp hB
        obtain ⟨TV, hTV⟩ : ∃ TV : Nat → Value, ∀ i, (ac.tmps[i]?).getD undef = TV i := ⟨_, fun _ => rfl⟩
        have f2 := (hTV 2).symm.trans (congrArg (fun x => Option.getD x undef) t2)
        have f3 := (hTV 3).symm.trans (congrArg (fun x => Option.getD x undef) t3)
        have f4 := (hTV 4).symm.trans (congrArg (fun x => Option.getD x undef) t4)
        have f5 := (hTV 5).symm.trans (congrArg (fun x => Option.getD x undef) t5)
        have f6 := (hTV 6).symm.trans (congrArg (fun x => Option.getD x undef) t6)
        have f9 := (hTV 9).symm.trans (congrArg (fun x => Option.getD x undef) t9)
        have hac := act_eq (n := 41) hsz TV hTV
        rw [show ((List.range 41).map TV).toArray = #[TV 0, TV 1, TV 2, TV 3, TV 4, TV 5, TV 6, TV 7, TV 8, TV 9, TV 10, TV 11, TV 12, TV 13, TV 14, TV 15, TV 16, TV 17, TV 18, TV 19, TV 20, TV 21, TV 22, TV 23, TV 24, TV 25, TV 26, TV 27, TV 28, TV 29, TV 30, TV 31, TV 32, TV 33, TV 34, TV 35, TV 36, TV 37, TV 38, TV 39, TV 40] from rfl, f2, f3, f4, f5, f6, f9, hdf] at hac
        simp only [Option.getD_some] at hac
        subst hac
        clear hTV f2 f3 f4 f5 f6 f9
        have HR2 := Lib.hid BB.out.now.2.1
        go_wp2_with (refine ld_arr rfl (.tmp 3) rfl (w.heap.size + 1) rfl HR2.out ?_)
        go_at_call 19
        (with_reducible refine (LN2.out _ ?_).mono ?_)
        · exact H2.out.below BB.out.below
        rintro e w52 ⟨rfl, hb5⟩
        have BB := Lib.hid (BB.out.go hb5)
        clear hb5
        clear HR2
        obtain ⟨Y2, hY2⟩ : ∃ y, y = w52 := ⟨_, rfl⟩
        subst hY2
        go_wp2_with fail
        have BQ : Bag w (AlkB false (w.heap.size) (w.heap.size + 1) (w.heap.size + 1 + 1) (w.heap.size + 1 + 1 + 1) (arrC ch1 ((r1 : Int) - 1) (dm S1 r1) na1 nn1 nc1 ta1 tn1 tc1) (arrC ch2 ((r2 : Int) - 1) (dm S2 r2) na2 nn2 nc2 ta2 tn2 tc2)) Y2 := ⟨BB.out.below, AlkB.stay, fun _ => BB.out.now.2.1, BB.out.now.1, ⟨_, BB.out.now.2.1, IsA.of _ _ _ _ _ _ _ _ _⟩, ⟨_, BB.out.now.2.2.1, IsA.zer⟩, ⟨_, BB.out.now.2.2.2.1, IsA.zer⟩⟩
        refine wp_region_inv4 ⟨(fun j => ([[22], [23], [24], [25], [21], [26], [27], []] : List (List Nat)).getD j []), (fun j => ([[], [], [1], [0, 1, 2], [0, 1, 2, 3], [0, 1, 2, 3, 4], [0, 1, 2, 3, 4], [0, 1, 2, 3, 4, 5]] : List (List Nat)).getD j []), []⟩ (fun jj vv yy => match jj with | 0 => vv = [some (.agg (arrC ch1 ((r1 : Int) - 1) (dm S1 r1) na1 nn1 nc1 ta1 tn1 tc1))] | 1 => vv = [some (.agg (arrC ch2 ((r2 : Int) - 1) (dm S2 r2) na2 nn2 nc2 ta2 tn2 tc2))] | 2 => ∃ (k2 : Nat), ∃ (c2 : Nat), vv = [some (.slice (some ⟨k2, 0, none⟩) r2 c2)] ∧ KRow yy .i64 (some ⟨k2, 0, none⟩) r2 c2 S2 ∧ w.heap.size + 1 < k2 | 3 => ∃ (x3 : Array Value), vv = [some (.tuple #[.agg x3, .bool true])] ∧ Arr yy x3 S2 r2 ch1 0 g2 P2 Q2 ∧ IsA x3 | 4 => ∃ (x3 : Array Value), vv = [some (.tuple #[.agg x3, .bool true])] ∧ Arr yy x3 S2 r2 ch1 0 g2 P2 Q2 ∧ IsA x3 | 5 => ∃ (x3 : Array Value), vv = [some (.agg x3)] ∧ Arr yy x3 S2 r2 ch1 0 g2 P2 Q2 ∧ IsA x3 | 6 => vv = [some (.bool true)] | 7 => ∃ (x3 : Array Value), Row yy (w.heap.size + 1) 32 x3 ∧ Arr yy x3 S2 r2 ch1 0 g2 P2 Q2 ∧ IsA x3 | _ => True) (fun f => Bag w (AlkB (f 7) (w.heap.size) (w.heap.size + 1) (w.heap.size + 1 + 1) (w.heap.size + 1 + 1 + 1) (arrC ch1 ((r1 : Int) - 1) (dm S1 r1) na1 nn1 nc1 ta1 tn1 tc1) (arrC ch2 ((r2 : Int) - 1) (dm S2 r2) na2 nn2 nc2 ta2 tn2 tc2))) (by kernel_rfl) (by kernel_rfl) (by kernel_rfl) BQ.drew ?_ ?_ ?_
        · intro jj vv yw yw2 hb h
          match jj, h with
          | 0, h => exact h
          | 1, h => exact h
          | 2, ⟨k2, c2, e2, g2_0, g2_1⟩ => exact Exists.intro k2 (Exists.intro c2 (And.intro e2 (And.intro (g2_0.below hb) g2_1)))
          | 3, ⟨x3, e3, g3_0, g3_1⟩ => exact Exists.intro x3 (And.intro e3 (And.intro (g3_0.below hb) g3_1))
          | 4, ⟨x3, e4, g4_0, g4_1⟩ => exact Exists.intro x3 (And.intro e4 (And.intro (g4_0.below hb) g4_1))
          | 5, ⟨x3, e5, g5_0, g5_1⟩ => exact Exists.intro x3 (And.intro e5 (And.intro (g5_0.below hb) g5_1))
          | 6, h => exact h
          | 7, ⟨x3, g7_0, g7_1, g7_2⟩ => exact Exists.intro x3 (And.intro (g7_0.below hb) (And.intro (g7_1.below hb) g7_2))
          | _ + 8, h => exact h
        · intro ac yw hsz hdf hold hB hp
          obtain ⟨x3, rx, ax, ix⟩ := hp 7 (by decide)
          have t2 : ac.tmps[2]? = some (.pointer (some ⟨w.heap.size, 0, none⟩)) := hold 2 (by kernel_rfl)
          have t3 : ac.tmps[3]? = some (.pointer (some ⟨w.heap.size + 1, 0, none⟩)) := hold 3 (by kernel_rfl)
          have t4 : ac.tmps[4]? = some (.pointer (some ⟨w.heap.size + 1 + 1, 0, none⟩)) := hold 4 (by kernel_rfl)
          have t5 : ac.tmps[5]? = some (.pointer (some ⟨w.heap.size + 1 + 1 + 1, 0, none⟩)) := hold 5 (by kernel_rfl)
          have t6 : ac.tmps[6]? = some (.bool false) := hold 6 (by kernel_rfl)
          have QA2 : Hid (∀ wz, Below yw.heap.size yw wz → Arr wz x3 S2 r2 ch1 0 g2 P2 Q2) := Lib.hid (fun wz hb => ax.below hb)
          have IX := Lib.hid ix
          have RX := Lib.hid rx
          have BO := Lib.hid hB
          clear hold hp rx ax ix hB
          obtain ⟨TW, hTW⟩ : ∃ TW : Nat → Value, ∀ i, (ac.tmps[i]?).getD undef = TW i := ⟨_, fun _ => rfl⟩
          have f2 := (hTW 2).symm.trans (congrArg (fun x => Option.getD x undef) t2)
          have f3 := (hTW 3).symm.trans (congrArg (fun x => Option.getD x undef) t3)
          have f4 := (hTW 4).symm.trans (congrArg (fun x => Option.getD x undef) t4)
          have f5 := (hTW 5).symm.trans (congrArg (fun x => Option.getD x undef) t5)
          have f6 := (hTW 6).symm.trans (congrArg (fun x => Option.getD x undef) t6)
          have hac := act_eq (n := 41) hsz TW hTW
          rw [show ((List.range 41).map TW).toArray = #[TW 0, TW 1, TW 2, TW 3, TW 4, TW 5, TW 6, TW 7, TW 8, TW 9, TW 10, TW 11, TW 12, TW 13, TW 14, TW 15, TW 16, TW 17, TW 18, TW 19, TW 20, TW 21, TW 22, TW 23, TW 24, TW 25, TW 26, TW 27, TW 28, TW 29, TW 30, TW 31, TW 32, TW 33, TW 34, TW 35, TW 36, TW 37, TW 38, TW 39, TW 40] from rfl, f2, f3, f4, f5, f6, hdf] at hac
          simp only [Option.getD_some] at hac
          subst hac
          clear hTW f2 f3 f4 f5 f6
          have QA1 : Hid (∀ wz, Below w.heap.size w wz → Arr wz (arrC ch1 ((r1 : Int) - 1) (dm S1 r1) na1 nn1 nc1 ta1 tn1 tc1) S1 r1 ch1 L1 g1 P1 Q1) := Lib.hid (fun wz hb => HO.out.below hb)
          obtain ⟨Y3, hY3⟩ : ∃ y, y = yw := ⟨_, rfl⟩
          subst hY3
          have BP : Bag w (AlkP (w.heap.size) (w.heap.size + 1) (w.heap.size + 1 + 1) (w.heap.size + 1 + 1 + 1) (arrC ch1 ((r1 : Int) - 1) (dm S1 r1) na1 nn1 nc1 ta1 tn1 tc1) x3 (ArrTwo ch1 (arrC ch1 ((r1 : Int) - 1) (dm S1 r1) na1 nn1 nc1 ta1 tn1 tc1) S1 r1 L1 g1 P1 Q1 x3 S2 r2 0 g2 P2 Q2)) Y3 := ⟨BO.out.below, AlkP.stay ArrTwo.keeps, BO.out.now.2.1, RX.out, BO.out.now.2.2.2.1, BO.out.now.2.2.2.2, QA1.out _ BO.out.below, QA2.out _ (Below.refl _ _)⟩
          go_wp2_with fail
          refine wp_region_inv4 ⟨(fun j => ([[39], [40], [], [], [6]] : List (List Nat)).getD j []), (fun j => ([[], [], [0], [0, 1, 2], [0, 1, 2, 3]] : List (List Nat)).getD j []), []⟩ (fun jj vv yy => match jj with | 0 => vv = [some (.agg (arrC ch1 ((r1 : Int) - 1) (dm S1 r1) na1 nn1 nc1 ta1 tn1 tc1))] | 1 => vv = [some (.agg x3)] | 2 => Row yy (w.heap.size + 1 + 1) 32 (arrC ch1 ((r1 : Int) - 1) (dm S1 r1) na1 nn1 nc1 ta1 tn1 tc1) | 3 => Row yy (w.heap.size + 1 + 1 + 1) 32 x3 | 4 => vv = [some ((Value.bool true))] | _ => True) (fun _ => Bag w (AlkP (w.heap.size) (w.heap.size + 1) (w.heap.size + 1 + 1) (w.heap.size + 1 + 1 + 1) (arrC ch1 ((r1 : Int) - 1) (dm S1 r1) na1 nn1 nc1 ta1 tn1 tc1) x3 (ArrTwo ch1 (arrC ch1 ((r1 : Int) - 1) (dm S1 r1) na1 nn1 nc1 ta1 tn1 tc1) S1 r1 L1 g1 P1 Q1 x3 S2 r2 0 g2 P2 Q2))) (by kernel_rfl) (by kernel_rfl) (by kernel_rfl) BP.drew ?_ ?_ ?_
          · intro jj vv yw yw2 hb h
            match jj, h with
            | 0, h => exact h
            | 1, h => exact h
            | 2, g2_0 => exact g2_0.below hb
            | 3, g3_0 => exact g3_0.below hb
            | 4, h => exact h
            | _ + 5, h => exact h
          · intro ac yw hsz hdf hold hB hp
            have r4 := hp 2 (by decide)
            have r5 := hp 3 (by decide)
            have t6 : ac.tmps[6]? = some (.bool true) := (List.cons.inj (hp 4 (by decide))).1
            have t2 : ac.tmps[2]? = some (.pointer (some ⟨w.heap.size, 0, none⟩)) := hold 2 (by kernel_rfl)
            have t3 : ac.tmps[3]? = some (.pointer (some ⟨w.heap.size + 1, 0, none⟩)) := hold 3 (by kernel_rfl)
            have t4 : ac.tmps[4]? = some (.pointer (some ⟨w.heap.size + 1 + 1, 0, none⟩)) := hold 4 (by kernel_rfl)
            have t5 : ac.tmps[5]? = some (.pointer (some ⟨w.heap.size + 1 + 1 + 1, 0, none⟩)) := hold 5 (by kernel_rfl)
            have HR4 := Lib.hid r4
            have HR5 := Lib.hid r5
            have HA1 := Lib.hid hB.now.2.2.2.2.1
            have HA2 := Lib.hid hB.now.2.2.2.2.2
            have HBW := Lib.hid hB.below
            clear hold hp r4 r5 hB
            obtain ⟨TZ, hTZ⟩ : ∃ TZ : Nat → Value, ∀ i, (ac.tmps[i]?).getD undef = TZ i := ⟨_, fun _ => rfl⟩
            have f2 := (hTZ 2).symm.trans (congrArg (fun x => Option.getD x undef) t2)
            have f3 := (hTZ 3).symm.trans (congrArg (fun x => Option.getD x undef) t3)
            have f4 := (hTZ 4).symm.trans (congrArg (fun x => Option.getD x undef) t4)
            have f5 := (hTZ 5).symm.trans (congrArg (fun x => Option.getD x undef) t5)
            have f6 := (hTZ 6).symm.trans (congrArg (fun x => Option.getD x undef) t6)
            have hac := act_eq (n := 41) hsz TZ hTZ
            rw [show ((List.range 41).map TZ).toArray = #[TZ 0, TZ 1, TZ 2, TZ 3, TZ 4, TZ 5, TZ 6, TZ 7, TZ 8, TZ 9, TZ 10, TZ 11, TZ 12, TZ 13, TZ 14, TZ 15, TZ 16, TZ 17, TZ 18, TZ 19, TZ 20, TZ 21, TZ 22, TZ 23, TZ 24, TZ 25, TZ 26, TZ 27, TZ 28, TZ 29, TZ 30, TZ 31, TZ 32, TZ 33, TZ 34, TZ 35, TZ 36, TZ 37, TZ 38, TZ 39, TZ 40] from rfl, f2, f3, f4, f5, f6, hdf] at hac
            simp only [Option.getD_some] at hac
            subst hac
            clear hTZ f2 f3 f4 f5 f6
            go_wp2_with fail
            exact bodyPost_ret (res_arr3 Tryz.results25 rfl rfl rfl HR4.out HR5.out (IsA.of _ _ _ _ _ _ _ _ _).size IX.out.size) rfl ⟨_, _, rfl, (IsA.of _ _ _ _ _ _ _ _ _), IX.out, ⟨HA1.out, HA2.out⟩, HBW.out⟩
          refine Stps4.cons (o := _) ?_ ?_
          · intro f ac yw hsz hold hB hp hf K hK
            have t2 : ac.tmps[2]? = some (.pointer (some ⟨w.heap.size, 0, none⟩)) := hold 2 (by kernel_rfl)
            clear hold hp hsz
            rw [if_pos (by rfl)]
            refine ld8 2 rfl (w.heap.size) ((arrC ch1 ((r1 : Int) - 1) (dm S1 r1) na1 nn1 nc1 ta1 tn1 tc1)) t2 (hB.now.1) ((IsA.of _ _ _ _ _ _ _ _ _).size) ?_
            exact hK.out _ _ ⟨hB, rfl, Nat.le_refl _, .inl (Below.refl _ _), fun h => absurd h (by decide)⟩
          refine Stps4.cons (o := _) ?_ ?_
          · intro f ac yw hsz hold hB hp hf K hK
            have t3 : ac.tmps[3]? = some (.pointer (some ⟨w.heap.size + 1, 0, none⟩)) := hold 3 (by kernel_rfl)
            clear hold hp hsz
            rw [if_pos (by rfl)]
            refine ld8 3 rfl (w.heap.size + 1) (x3) t3 (hB.now.2.1) (IX.out.size) ?_
            exact hK.out _ _ ⟨hB, rfl, Nat.le_refl _, .inl (Below.refl _ _), fun h => absurd h (by decide)⟩
          refine Stps4.cons (o := _) ?_ ?_
          · intro f ac yw hsz hold hB hp hf K hK
            have e0 := hp 0 (by decide)
            have t39 : ac.tmps[39]? = some (.agg (arrC ch1 ((r1 : Int) - 1) (dm S1 r1) na1 nn1 nc1 ta1 tn1 tc1)) := (List.cons.inj e0).1
            have t4 : ac.tmps[4]? = some (.pointer (some ⟨w.heap.size + 1 + 1, 0, none⟩)) := hold 4 (by kernel_rfl)
            clear hold hp hsz hf e0
            rw [if_pos (by rfl)]
            obtain ⟨zz, hz, iz⟩ := hB.now.2.2.1
            have HB := AlkP.put3 ArrTwo.keeps hB (by omega) (by omega) (by omega) (by omega) ((arrC ch1 ((r1 : Int) - 1) (dm S1 r1) na1 nn1 nc1 ta1 tn1 tc1)) (IsA.of _ _ _ _ _ _ _ _ _)
            refine st8 4 39 rfl (w.heap.size + 1 + 1) (arrC ch1 ((r1 : Int) - 1) (dm S1 r1) na1 nn1 nc1 ta1 tn1 tc1) t4 t39 _ zz hz iz (IsA.of _ _ _ _ _ _ _ _ _) ?_
            refine hK.out undef _ ⟨HB, hz.put _, by simp [World.setRow], .inr ?_, fun h => absurd h (by decide)⟩
            intro jj hj hap h
            match jj, h with
            | 0, h => exact h
            | 1, h => exact h
            | 2, _ => exact absurd rfl hj
            | 3, g3_0 => exact g3_0.puto (by omega) _
            | 4, h => exact h
            | _ + 5, h => exact h
          refine Stps4.cons (o := _) ?_ ?_
          · intro f ac yw hsz hold hB hp hf K hK
            have e1 := hp 1 (by decide)
            have t40 : ac.tmps[40]? = some (.agg x3) := (List.cons.inj e1).1
            have t5 : ac.tmps[5]? = some (.pointer (some ⟨w.heap.size + 1 + 1 + 1, 0, none⟩)) := hold 5 (by kernel_rfl)
            clear hold hp hsz hf e1
            rw [if_pos (by rfl)]
            obtain ⟨zz, hz, iz⟩ := hB.now.2.2.2.1
            have HB := AlkP.put4 ArrTwo.keeps hB (by omega) (by omega) (by omega) (by omega) (x3) IX.out
            refine st8 5 40 rfl (w.heap.size + 1 + 1 + 1) x3 t5 t40 _ zz hz iz IX.out ?_
            refine hK.out undef _ ⟨HB, hz.put _, by simp [World.setRow], .inr ?_, fun h => absurd h (by decide)⟩
            intro jj hj hap h
            match jj, h with
            | 0, h => exact h
            | 1, h => exact h
            | 2, g2_0 => exact g2_0.puto (by omega) _
            | 3, _ => exact absurd rfl hj
            | 4, h => exact h
            | _ + 5, h => exact h
          refine Stps4.cons (o := _) ?_ ?_
          · intro f ac yw hsz hold hB hp hf K hK
            clear hold hp hsz hf
            go_simp
            exact hK.out _ _ ⟨hB, rfl, Nat.le_refl _, .inl (Below.refl _ _), fun h => absurd h (by decide)⟩
          exact Stps4.nil _
        refine Stps4.cons (o := _) ?_ ?_
        · intro f ac yw hsz hold hB hp hf K hK
          have t2 : ac.tmps[2]? = some (.pointer (some ⟨w.heap.size, 0, none⟩)) := hold 2 (by kernel_rfl)
          clear hold hp hsz
          rw [if_pos (by rfl)]
          refine ld8 2 rfl (w.heap.size) ((arrC ch1 ((r1 : Int) - 1) (dm S1 r1) na1 nn1 nc1 ta1 tn1 tc1)) t2 (hB.now.2.1) (rfl) ?_
          exact hK.out _ _ ⟨hB, rfl, Nat.le_refl _, .inl (Below.refl _ _), fun h => absurd h (by decide)⟩
        refine Stps4.cons (o := _) ?_ ?_
        · intro f ac yw hsz hold hB hp hf K hK
          have t3 : ac.tmps[3]? = some (.pointer (some ⟨w.heap.size + 1, 0, none⟩)) := hold 3 (by kernel_rfl)
          clear hold hp hsz
          rw [if_pos (by rfl)]
          refine ld8 3 rfl (w.heap.size + 1) ((arrC ch2 ((r2 : Int) - 1) (dm S2 r2) na2 nn2 nc2 ta2 tn2 tc2)) t3 (hB.now.1 (hf 7 (by decide))) (rfl) ?_
          exact hK.out _ _ ⟨hB, rfl, Nat.le_refl _, .inl (Below.refl _ _), fun h => absurd h (by decide)⟩
        refine Stps4.cons (o := _) ?_ ?_
        · intro f ac yw hsz hold hB hp hf K hK
          have e1 := hp 1 (by decide)
          have t23 : ac.tmps[23]? = some (.agg (arrC ch2 ((r2 : Int) - 1) (dm S2 r2) na2 nn2 nc2 ta2 tn2 tc2)) := (List.cons.inj e1).1
          clear hold hp hsz hf e1
          go_simp
          (go_at_call 35; (refine (SH.out _ (HX.out.below hB.below)).mono ?_); rintro e wz ⟨k2, c2, rfl, hge, hlt, h2_0, hbz⟩; have hge := Nat.lt_of_lt_of_le (Exists.elim hB.now.2.2.1 (fun _ h => h.1.lt)) hge)
          exact hK.out _ _ ⟨hB.go hbz, Exists.intro k2 (Exists.intro c2 (And.intro rfl (And.intro h2_0 hge))), hbz.size, .inl hbz, fun h => absurd h (by decide)⟩
        refine Stps4.cons (o := _) ?_ ?_
        · intro f ac yw hsz hold hB hp hf K hK
          have e0 := hp 0 (by decide)
          have t22 : ac.tmps[22]? = some (.agg (arrC ch1 ((r1 : Int) - 1) (dm S1 r1) na1 nn1 nc1 ta1 tn1 tc1)) := (List.cons.inj e0).1
          obtain ⟨k2_2, c2_2, e2, g2_0, g2_1⟩ := hp 2 (by decide)
          have t24 : ac.tmps[24]? = some (.slice (some ⟨k2_2, 0, none⟩) r2 c2_2) := (List.cons.inj e2).1
          clear hold hp hsz hf e0 e2
          go_simp
          (go_at_call 52; (refine (PK.out _ _ _ (HO.out.below hB.below) g2_0).mono ?_); rintro e wz ⟨x3, rfl, h3_0, hbz⟩)
          exact hK.out _ _ ⟨hB.go hbz, Exists.intro x3 (And.intro rfl (And.intro h3_0 h3_0.isA)), hbz.size, .inl hbz, fun h => absurd h (by decide)⟩
        refine Stps4.cons (o := _) ?_ ?_
        · intro f ac yw hsz hold hB hp hf K hK
          obtain ⟨x3_3, e3, g3_0, g3_1⟩ := hp 3 (by decide)
          have t25 : ac.tmps[25]? = some (.tuple #[.agg x3_3, .bool true]) := (List.cons.inj e3).1
          clear hold hp hsz hf e3
          go_simp
          exact hK.out _ _ ⟨hB, Exists.intro x3_3 (And.intro rfl (And.intro g3_0 g3_1)), Nat.le_refl _, .inl (Below.refl _ _), fun h => absurd h (by decide)⟩
        refine Stps4.cons (o := _) ?_ ?_
        · intro f ac yw hsz hold hB hp hf K hK
          obtain ⟨x3_4, e4, g4_0, g4_1⟩ := hp 4 (by decide)
          have t21 : ac.tmps[21]? = some (.tuple #[.agg x3_4, .bool true]) := (List.cons.inj e4).1
          clear hold hp hsz hf e4
          go_simp
          exact hK.out _ _ ⟨hB, Exists.intro x3_4 (And.intro rfl (And.intro g4_0 g4_1)), Nat.le_refl _, .inl (Below.refl _ _), fun h => absurd h (by decide)⟩
        refine Stps4.cons (o := _) ?_ ?_
        · intro f ac yw hsz hold hB hp hf K hK
          obtain ⟨x3_4, e4, g4_0, g4_1⟩ := hp 4 (by decide)
          have t21 : ac.tmps[21]? = some (.tuple #[.agg x3_4, .bool true]) := (List.cons.inj e4).1
          clear hold hp hsz hf e4
          go_simp
          exact hK.out _ _ ⟨hB, rfl, Nat.le_refl _, .inl (Below.refl _ _), fun h => absurd h (by decide)⟩
        refine Stps4.cons (o := _) ?_ ?_
        · intro f ac yw hsz hold hB hp hf K hK
          obtain ⟨x3_5, e5, g5_0, g5_1⟩ := hp 5 (by decide)
          have t26 : ac.tmps[26]? = some (.agg x3_5) := (List.cons.inj e5).1
          have t3 : ac.tmps[3]? = some (.pointer (some ⟨w.heap.size + 1, 0, none⟩)) := hold 3 (by kernel_rfl)
          clear hold hp hsz hf e5
          rw [if_pos (by rfl)]
          obtain ⟨zz, hz, iz⟩ := hB.now.2.2.1
          have HB := AlkB.put hB (by omega) (by omega) (by omega) (x3_5) g5_1
          refine st8 3 26 rfl (w.heap.size + 1) x3_5 t3 t26 _ zz hz iz g5_1 ?_
          refine hK.out undef _ ⟨HB, Exists.intro x3_5 (And.intro (hz.put _) (And.intro (g5_0.store hz iz _) g5_1)), by simp [World.setRow], .inr ?_, fun h => absurd h (by decide)⟩
          intro jj hj hap h
          match jj, h with
          | 0, h => exact h
          | 1, h => exact h
          | 2, ⟨k2, c2, e2, g2_0, g2_1⟩ => exact Exists.intro k2 (Exists.intro c2 (And.intro e2 (And.intro (g2_0.away (.inr (fun x hx => by obtain rfl := Option.some.inj hx; show (_ : Nat) ≠ _; dsimp only; omega)) (Far.setRow _ _ _)) g2_1)))
          | 3, ⟨x3, e3, g3_0, g3_1⟩ => exact Exists.intro x3 (And.intro e3 (And.intro (g3_0.store hz iz _) g3_1))
          | 4, ⟨x3, e4, g4_0, g4_1⟩ => exact Exists.intro x3 (And.intro e4 (And.intro (g4_0.store hz iz _) g4_1))
          | 5, ⟨x3, e5, g5_0, g5_1⟩ => exact Exists.intro x3 (And.intro e5 (And.intro (g5_0.store hz iz _) g5_1))
          | 6, h => exact h
          | 7, _ => exact absurd rfl hj
          | _ + 8, h => exact h
        exact Stps4.nil _
      refine Stps2.cons (o := _) ?_ ?_
      · intro ac yw hsz hold hB hp K hK
        have t2 : ac.tmps[2]? = some (.pointer (some ⟨w.heap.size, 0, none⟩)) := hold 2 (by kernel_rfl)
        clear hold hp hsz
        rw [if_pos (by rfl)]
        refine ld8 2 rfl (w.heap.size) ((arrC ch1 ((r1 : Int) - 1) (dm S1 r1) na1 nn1 nc1 ta1 tn1 tc1)) t2 ((BB.out.go hB.below).now.1) (rfl) ?_
        exact hK.out _ _ ⟨hB, rfl, Nat.le_refl _, .inl (Below.refl _ _), fun h => absurd h (by decide)⟩
      refine Stps2.cons (o := _) ?_ ?_
      · intro ac yw hsz hold hB hp K hK
        have e0 := hp 0 (by decide)
        have t10 : ac.tmps[10]? = some (.agg (arrC ch1 ((r1 : Int) - 1) (dm S1 r1) na1 nn1 nc1 ta1 tn1 tc1)) := (List.cons.inj e0).1
        clear hold hp hsz e0
        go_simp
        (go_at_call 51; (with_reducible refine (IC1.out _).mono ?_); rintro e wz ⟨rfl, hbz⟩)
        exact hK.out _ _ ⟨hB.go hbz, rfl, hbz.size, .inl hbz, fun h => absurd h (by decide)⟩
      refine Stps2.cons (o := _) ?_ ?_
      · intro ac yw hsz hold hB hp K hK
        have t3 : ac.tmps[3]? = some (.pointer (some ⟨w.heap.size + 1, 0, none⟩)) := hold 3 (by kernel_rfl)
        clear hold hp hsz
        rw [if_pos (by rfl)]
        refine ld8 3 rfl (w.heap.size + 1) ((arrC ch2 ((r2 : Int) - 1) (dm S2 r2) na2 nn2 nc2 ta2 tn2 tc2)) t3 ((BB.out.go hB.below).now.2.1) (rfl) ?_
        exact hK.out _ _ ⟨hB, rfl, Nat.le_refl _, .inl (Below.refl _ _), fun h => absurd h (by decide)⟩
      refine Stps2.cons (o := _) ?_ ?_
      · intro ac yw hsz hold hB hp K hK
        have e2 := hp 2 (by decide)
        have t12 : ac.tmps[12]? = some (.agg (arrC ch2 ((r2 : Int) - 1) (dm S2 r2) na2 nn2 nc2 ta2 tn2 tc2)) := (List.cons.inj e2).1
        clear hold hp hsz e2
        go_simp
        (go_at_call 51; (with_reducible refine (IC2.out _).mono ?_); rintro e wz ⟨rfl, hbz⟩)
        exact hK.out _ _ ⟨hB.go hbz, rfl, hbz.size, .inl hbz, fun h => absurd h (by decide)⟩
      refine Stps2.cons (o := _) ?_ ?_
      · intro ac yw hsz hold hB hp K hK
        have e1 := hp 1 (by decide)
        have t11 : ac.tmps[11]? = some (.bool ch1) := (List.cons.inj e1).1
        have e3 := hp 3 (by decide)
        have t13 : ac.tmps[13]? = some (.bool ch2) := (List.cons.inj e3).1
        clear hold hp hsz e1 e3
        go_simp
        exact hK.out _ _ ⟨hB, rfl, Nat.le_refl _, .inl (Below.refl _ _), fun h => absurd h (by decide)⟩
      refine Stps2.cons (o := _) ?_ ?_
      · intro ac yw hsz hold hB hp K hK
        have e4 := hp 4 (by decide)
        have t14 : ac.tmps[14]? = some (.bool false) := (List.cons.inj e4).1
        clear hold hp hsz e4
        go_simp
        exact hK.out _ _ ⟨hB, rfl, Nat.le_refl _, .inl (Below.refl _ _), fun h => absurd h (by decide)⟩
      exact Stps2.nil _
    · have d2 : ((L2 : Int) == 0) = false := beq_eq_false_iff_ne.2 (by omega)
      by_cases hz1 : L1 = 0
      · have SH := Lib.hid (fun wz h => shape_new (arrC ch1 ((r1 : Int) - 1) (dm S1 r1) na1 nn1 nc1 ta1 tn1 tc1) S1 r1 ch1 L1 g1 P1 Q1 wz h hr1)
        have PK : Hid (∀ a c wz, Arr wz (arrC ch2 ((r2 : Int) - 1) (dm S2 r2) na2 nn2 nc2 ta2 tn2 tc2) S2 r2 ch2 L2 g2 P2 Q2 → KRow wz .i64 a r1 c S1 → Calls Tryz.prog 52 #[.agg (arrC ch2 ((r2 : Int) - 1) (dm S2 r2) na2 nn2 nc2 ta2 tn2 tc2), .slice a r1 c, .slice none 0 0] wz fun e w' => ∃ x, e = .returned (.tuple #[.agg x, .bool true]) ∧ Arr w' x S1 r1 ch2 0 g1 P1 Q1 ∧ Below wz.heap.size wz w') := Lib.hid (fun a c wz h k => pick0_any h k hsh1 (by rw [hc1, hz1]))
        have HX := Lib.hid H1.out
        have HO := Lib.hid H2.out
        have d1 : ((L1 : Int) == 0) = true := beq_iff_eq.2 (by omega)
        have e1 : kdB ch1 L1 ch2 L2 = true := by unfold kdB; rw [decide_eq_true hz1, Bool.or_true]
        have e2 : kdC ch1 L1 ch2 L2 = ch2 := by unfold kdC; rw [if_neg hch, if_neg hz2]
        rw [e1, e2]
        subst hz1
        clear hch e1 e2 hz2
        clear hsh1 hsh2 hc1 hc2 hr1 hr2 
        unfold arrC
        go_enter Tryz.func25, Tryz.ntmps25
        go_wp2_with fail
        have hWW := BB.out.below


        generalize hW : ((((w.alloc (.cells _ 32)).alloc (.cells _ 32)).alloc (.cells _ 32)).alloc (.cells _ 32)) = YY at *
        clear hW hWW
        refine wp_region_inv2 ⟨(fun j => ([[10], [11], [12], [13], [14], [9]] : List (List Nat)).getD j []), (fun j => ([[], [0], [], [0, 1, 2], [0, 1, 2, 3], [0, 1, 2, 3, 4]] : List (List Nat)).getD j []), []⟩ (fun jj vv yy => match jj with | 0 => vv = [some (.agg (arrC ch1 ((r1 : Int) - 1) (dm S1 r1) na1 nn1 nc1 ta1 tn1 tc1))] | 1 => vv = [some (.bool ch1)] | 2 => vv = [some (.agg (arrC ch2 ((r2 : Int) - 1) (dm S2 r2) na2 nn2 nc2 ta2 tn2 tc2))] | 3 => vv = [some (.bool ch2)] | 4 => vv = [some (.bool false)] | 5 => vv = [some (.bool false)] | _ => True) (Bag YY (fun _ => True)) (by kernel_rfl) (by kernel_rfl) (by kernel_rfl) (Bag.start YY).drew ?_ ?_ ?_
        · intro jj vv yw yw2 hb h
          match jj, h with
          | 0, h => exact h
          | 1, h => exact h
          | 2, h => exact h
          | 3, h => exact h
          | 4, h => exact h
          | 5, h => exact h
          | _ + 6, h => exact h
        · intro ac yw hsz hdf hold hB hp
          have t9 : ac.tmps[9]? = some (.bool false) := (List.cons.inj (hp 5 (by decide))).1
          have t2 : ac.tmps[2]? = some (.pointer (some ⟨w.heap.size, 0, none⟩)) := hold 2 (by kernel_rfl)
          have t3 : ac.tmps[3]? = some (.pointer (some ⟨w.heap.size + 1, 0, none⟩)) := hold 3 (by kernel_rfl)
          have t4 : ac.tmps[4]? = some (.pointer (some ⟨w.heap.size + 1 + 1, 0, none⟩)) := hold 4 (by kernel_rfl)
          have t5 : ac.tmps[5]? = some (.pointer (some ⟨w.heap.size + 1 + 1 + 1, 0, none⟩)) := hold 5 (by kernel_rfl)
          have t6 : ac.tmps[6]? = some (.bool false) := hold 6 (by kernel_rfl)
          have BB := Lib.hid (BB.out.go hB.below)
          clear hold hp hB
          obtain ⟨TV, hTV⟩ : ∃ TV : Nat → Value, ∀ i, (ac.tmps[i]?).getD undef = TV i := ⟨_, fun _ => rfl⟩
          have f2 := (hTV 2).symm.trans (congrArg (fun x => Option.getD x undef) t2)
          have f3 := (hTV 3).symm.trans (congrArg (fun x => Option.getD x undef) t3)
          have f4 := (hTV 4).symm.trans (congrArg (fun x => Option.getD x undef) t4)
          have f5 := (hTV 5).symm.trans (congrArg (fun x => Option.getD x undef) t5)
          have f6 := (hTV 6).symm.trans (congrArg (fun x => Option.getD x undef) t6)
          have f9 := (hTV 9).symm.trans (congrArg (fun x => Option.getD x undef) t9)
          have hac := act_eq (n := 41) hsz TV hTV
          rw [show ((List.range 41).map TV).toArray = #[TV 0, TV 1, TV 2, TV 3, TV 4, TV 5, TV 6, TV 7, TV 8, TV 9, TV 10, TV 11, TV 12, TV 13, TV 14, TV 15, TV 16, TV 17, TV 18, TV 19, TV 20, TV 21, TV 22, TV 23, TV 24, TV 25, TV 26, TV 27, TV 28, TV 29, TV 30, TV 31, TV 32, TV 33, TV 34, TV 35, TV 36, TV 37, TV 38, TV 39, TV 40] from rfl, f2, f3, f4, f5, f6, f9, hdf] at hac
          simp only [Option.getD_some] at hac
          subst hac
          clear hTV f2 f3 f4 f5 f6 f9
          have HR2 := Lib.hid BB.out.now.2.1
          go_wp2_with (refine ld_arr rfl (.tmp 3) rfl (w.heap.size + 1) rfl HR2.out ?_)
          go_at_call 19
          (with_reducible refine (LN2.out _ ?_).mono ?_)
          · exact H2.out.below BB.out.below
          rintro e w52 ⟨rfl, hb5⟩
          have BB := Lib.hid (BB.out.go hb5)
          clear hb5
          clear HR2
          have HR1 := Lib.hid BB.out.now.1
          go_wp2_with (refine ld_arr rfl (.tmp 2) rfl (w.heap.size) rfl HR1.out ?_)
          go_at_call 19
          (with_reducible refine (LN1.out _ ?_).mono ?_)
          · exact H1.out.below BB.out.below
          rintro e w51 ⟨rfl, hb5⟩
          have BB := Lib.hid (BB.out.go hb5)
          clear hb5
          clear HR1
          obtain ⟨Y2, hY2⟩ : ∃ y, y = w51 := ⟨_, rfl⟩
          subst hY2
          go_wp2_with fail
          have BQ : Bag w (AlkB false (w.heap.size + 1) (w.heap.size) (w.heap.size + 1 + 1) (w.heap.size + 1 + 1 + 1) (arrC ch2 ((r2 : Int) - 1) (dm S2 r2) na2 nn2 nc2 ta2 tn2 tc2) (arrC ch1 ((r1 : Int) - 1) (dm S1 r1) na1 nn1 nc1 ta1 tn1 tc1)) Y2 := ⟨BB.out.below, AlkB.stay, fun _ => BB.out.now.1, BB.out.now.2.1, ⟨_, BB.out.now.1, IsA.of _ _ _ _ _ _ _ _ _⟩, ⟨_, BB.out.now.2.2.1, IsA.zer⟩, ⟨_, BB.out.now.2.2.2.1, IsA.zer⟩⟩
          refine wp_region_inv4 ⟨(fun j => ([[33], [34], [35], [36], [32], [37], [38], []] : List (List Nat)).getD j []), (fun j => ([[], [], [1], [0, 1, 2], [0, 1, 2, 3], [0, 1, 2, 3, 4], [0, 1, 2, 3, 4], [0, 1, 2, 3, 4, 5]] : List (List Nat)).getD j []), []⟩ (fun jj vv yy => match jj with | 0 => vv = [some (.agg (arrC ch2 ((r2 : Int) - 1) (dm S2 r2) na2 nn2 nc2 ta2 tn2 tc2))] | 1 => vv = [some (.agg (arrC ch1 ((r1 : Int) - 1) (dm S1 r1) na1 nn1 nc1 ta1 tn1 tc1))] | 2 => ∃ (k2 : Nat), ∃ (c2 : Nat), vv = [some (.slice (some ⟨k2, 0, none⟩) r1 c2)] ∧ KRow yy .i64 (some ⟨k2, 0, none⟩) r1 c2 S1 ∧ w.heap.size < k2 | 3 => ∃ (x3 : Array Value), vv = [some (.tuple #[.agg x3, .bool true])] ∧ Arr yy x3 S1 r1 ch2 0 g1 P1 Q1 ∧ IsA x3 | 4 => ∃ (x3 : Array Value), vv = [some (.tuple #[.agg x3, .bool true])] ∧ Arr yy x3 S1 r1 ch2 0 g1 P1 Q1 ∧ IsA x3 | 5 => ∃ (x3 : Array Value), vv = [some (.agg x3)] ∧ Arr yy x3 S1 r1 ch2 0 g1 P1 Q1 ∧ IsA x3 | 6 => vv = [some (.bool true)] | 7 => ∃ (x3 : Array Value), Row yy (w.heap.size) 32 x3 ∧ Arr yy x3 S1 r1 ch2 0 g1 P1 Q1 ∧ IsA x3 | _ => True) (fun f => Bag w (AlkB (f 7) (w.heap.size + 1) (w.heap.size) (w.heap.size + 1 + 1) (w.heap.size + 1 + 1 + 1) (arrC ch2 ((r2 : Int) - 1) (dm S2 r2) na2 nn2 nc2 ta2 tn2 tc2) (arrC ch1 ((r1 : Int) - 1) (dm S1 r1) na1 nn1 nc1 ta1 tn1 tc1))) (by kernel_rfl) (by kernel_rfl) (by kernel_rfl) BQ.drew ?_ ?_ ?_
          · intro jj vv yw yw2 hb h
            match jj, h with
            | 0, h => exact h
            | 1, h => exact h
            | 2, ⟨k2, c2, e2, g2_0, g2_1⟩ => exact Exists.intro k2 (Exists.intro c2 (And.intro e2 (And.intro (g2_0.below hb) g2_1)))
            | 3, ⟨x3, e3, g3_0, g3_1⟩ => exact Exists.intro x3 (And.intro e3 (And.intro (g3_0.below hb) g3_1))
            | 4, ⟨x3, e4, g4_0, g4_1⟩ => exact Exists.intro x3 (And.intro e4 (And.intro (g4_0.below hb) g4_1))
            | 5, ⟨x3, e5, g5_0, g5_1⟩ => exact Exists.intro x3 (And.intro e5 (And.intro (g5_0.below hb) g5_1))
            | 6, h => exact h
            | 7, ⟨x3, g7_0, g7_1, g7_2⟩ => exact Exists.intro x3 (And.intro (g7_0.below hb) (And.intro (g7_1.below hb) g7_2))
            | _ + 8, h => exact h
          · intro ac yw hsz hdf hold hB hp
            obtain ⟨x3, rx, ax, ix⟩ := hp 7 (by decide)
            have t2 : ac.tmps[2]? = some (.pointer (some ⟨w.heap.size, 0, none⟩)) := hold 2 (by kernel_rfl)
            have t3 : ac.tmps[3]? = some (.pointer (some ⟨w.heap.size + 1, 0, none⟩)) := hold 3 (by kernel_rfl)
            have t4 : ac.tmps[4]? = some (.pointer (some ⟨w.heap.size + 1 + 1, 0, none⟩)) := hold 4 (by kernel_rfl)
            have t5 : ac.tmps[5]? = some (.pointer (some ⟨w.heap.size + 1 + 1 + 1, 0, none⟩)) := hold 5 (by kernel_rfl)
            have t6 : ac.tmps[6]? = some (.bool false) := hold 6 (by kernel_rfl)
            have QA1 : Hid (∀ wz, Below yw.heap.size yw wz → Arr wz x3 S1 r1 ch2 0 g1 P1 Q1) := Lib.hid (fun wz hb => ax.below hb)
            have IX := Lib.hid ix
            have RX := Lib.hid rx
            have BO := Lib.hid hB
            clear hold hp rx ax ix hB
            obtain ⟨TW, hTW⟩ : ∃ TW : Nat → Value, ∀ i, (ac.tmps[i]?).getD undef = TW i := ⟨_, fun _ => rfl⟩
            have f2 := (hTW 2).symm.trans (congrArg (fun x => Option.getD x undef) t2)
            have f3 := (hTW 3).symm.trans (congrArg (fun x => Option.getD x undef) t3)
            have f4 := (hTW 4).symm.trans (congrArg (fun x => Option.getD x undef) t4)
            have f5 := (hTW 5).symm.trans (congrArg (fun x => Option.getD x undef) t5)
            have f6 := (hTW 6).symm.trans (congrArg (fun x => Option.getD x undef) t6)
            have hac := act_eq (n := 41) hsz TW hTW
            rw [show ((List.range 41).map TW).toArray = #[TW 0, TW 1, TW 2, TW 3, TW 4, TW 5, TW 6, TW 7, TW 8, TW 9, TW 10, TW 11, TW 12, TW 13, TW 14, TW 15, TW 16, TW 17, TW 18, TW 19, TW 20, TW 21, TW 22, TW 23, TW 24, TW 25, TW 26, TW 27, TW 28, TW 29, TW 30, TW 31, TW 32, TW 33, TW 34, TW 35, TW 36, TW 37, TW 38, TW 39, TW 40] from rfl, f2, f3, f4, f5, f6, hdf] at hac
            simp only [Option.getD_some] at hac
            subst hac
            clear hTW f2 f3 f4 f5 f6
            have QA2 : Hid (∀ wz, Below w.heap.size w wz → Arr wz (arrC ch2 ((r2 : Int) - 1) (dm S2 r2) na2 nn2 nc2 ta2 tn2 tc2) S2 r2 ch2 L2 g2 P2 Q2) := Lib.hid (fun wz hb => HO.out.below hb)
            obtain ⟨Y3, hY3⟩ : ∃ y, y = yw := ⟨_, rfl⟩
            subst hY3
            have BP : Bag w (AlkP (w.heap.size) (w.heap.size + 1) (w.heap.size + 1 + 1) (w.heap.size + 1 + 1 + 1) x3 (arrC ch2 ((r2 : Int) - 1) (dm S2 r2) na2 nn2 nc2 ta2 tn2 tc2) (ArrTwo ch2 x3 S1 r1 0 g1 P1 Q1 (arrC ch2 ((r2 : Int) - 1) (dm S2 r2) na2 nn2 nc2 ta2 tn2 tc2) S2 r2 L2 g2 P2 Q2)) Y3 := ⟨BO.out.below, AlkP.stay ArrTwo.keeps, RX.out, BO.out.now.2.1, BO.out.now.2.2.2.1, BO.out.now.2.2.2.2, QA1.out _ (Below.refl _ _), QA2.out _ BO.out.below⟩
            go_wp2_with fail
            refine wp_region_inv4 ⟨(fun j => ([[39], [40], [], [], [6]] : List (List Nat)).getD j []), (fun j => ([[], [], [0], [0, 1, 2], [0, 1, 2, 3]] : List (List Nat)).getD j []), []⟩ (fun jj vv yy => match jj with | 0 => vv = [some (.agg x3)] | 1 => vv = [some (.agg (arrC ch2 ((r2 : Int) - 1) (dm S2 r2) na2 nn2 nc2 ta2 tn2 tc2))] | 2 => Row yy (w.heap.size + 1 + 1) 32 x3 | 3 => Row yy (w.heap.size + 1 + 1 + 1) 32 (arrC ch2 ((r2 : Int) - 1) (dm S2 r2) na2 nn2 nc2 ta2 tn2 tc2) | 4 => vv = [some ((Value.bool true))] | _ => True) (fun _ => Bag w (AlkP (w.heap.size) (w.heap.size + 1) (w.heap.size + 1 + 1) (w.heap.size + 1 + 1 + 1) x3 (arrC ch2 ((r2 : Int) - 1) (dm S2 r2) na2 nn2 nc2 ta2 tn2 tc2) (ArrTwo ch2 x3 S1 r1 0 g1 P1 Q1 (arrC ch2 ((r2 : Int) - 1) (dm S2 r2) na2 nn2 nc2 ta2 tn2 tc2) S2 r2 L2 g2 P2 Q2))) (by kernel_rfl) (by kernel_rfl) (by kernel_rfl) BP.drew ?_ ?_ ?_
            · intro jj vv yw yw2 hb h
              match jj, h with
              | 0, h => exact h
              | 1, h => exact h
              | 2, g2_0 => exact g2_0.below hb
              | 3, g3_0 => exact g3_0.below hb
              | 4, h => exact h
              | _ + 5, h => exact h
            · intro ac yw hsz hdf hold hB hp
              have r4 := hp 2 (by decide)
              have r5 := hp 3 (by decide)
              have t6 : ac.tmps[6]? = some (.bool true) := (List.cons.inj (hp 4 (by decide))).1
              have t2 : ac.tmps[2]? = some (.pointer (some ⟨w.heap.size, 0, none⟩)) := hold 2 (by kernel_rfl)
              have t3 : ac.tmps[3]? = some (.pointer (some ⟨w.heap.size + 1, 0, none⟩)) := hold 3 (by kernel_rfl)
              have t4 : ac.tmps[4]? = some (.pointer (some ⟨w.heap.size + 1 + 1, 0, none⟩)) := hold 4 (by kernel_rfl)
              have t5 : ac.tmps[5]? = some (.pointer (some ⟨w.heap.size + 1 + 1 + 1, 0, none⟩)) := hold 5 (by kernel_rfl)
              have HR4 := Lib.hid r4
              have HR5 := Lib.hid r5
              have HA1 := Lib.hid hB.now.2.2.2.2.1
              have HA2 := Lib.hid hB.now.2.2.2.2.2
              have HBW := Lib.hid hB.below
              clear hold hp r4 r5 hB
              obtain ⟨TZ, hTZ⟩ : ∃ TZ : Nat → Value, ∀ i, (ac.tmps[i]?).getD undef = TZ i := ⟨_, fun _ => rfl⟩
              have f2 := (hTZ 2).symm.trans (congrArg (fun x => Option.getD x undef) t2)
              have f3 := (hTZ 3).symm.trans (congrArg (fun x => Option.getD x undef) t3)
              have f4 := (hTZ 4).symm.trans (congrArg (fun x => Option.getD x undef) t4)
              have f5 := (hTZ 5).symm.trans (congrArg (fun x => Option.getD x undef) t5)
              have f6 := (hTZ 6).symm.trans (congrArg (fun x => Option.getD x undef) t6)
              have hac := act_eq (n := 41) hsz TZ hTZ
              rw [show ((List.range 41).map TZ).toArray = #[TZ 0, TZ 1, TZ 2, TZ 3, TZ 4, TZ 5, TZ 6, TZ 7, TZ 8, TZ 9, TZ 10, TZ 11, TZ 12, TZ 13, TZ 14, TZ 15, TZ 16, TZ 17, TZ 18, TZ 19, TZ 20, TZ 21, TZ 22, TZ 23, TZ 24, TZ 25, TZ 26, TZ 27, TZ 28, TZ 29, TZ 30, TZ 31, TZ 32, TZ 33, TZ 34, TZ 35, TZ 36, TZ 37, TZ 38, TZ 39, TZ 40] from rfl, f2, f3, f4, f5, f6, hdf] at hac
              simp only [Option.getD_some] at hac
              subst hac
              clear hTZ f2 f3 f4 f5 f6
              go_wp2_with fail
              exact bodyPost_ret (res_arr3 Tryz.results25 rfl rfl rfl HR4.out HR5.out IX.out.size (IsA.of _ _ _ _ _ _ _ _ _).size) rfl ⟨_, _, rfl, IX.out, (IsA.of _ _ _ _ _ _ _ _ _), ⟨HA1.out, HA2.out⟩, HBW.out⟩
            refine Stps4.cons (o := _) ?_ ?_
            · intro f ac yw hsz hold hB hp hf K hK
              have t2 : ac.tmps[2]? = some (.pointer (some ⟨w.heap.size, 0, none⟩)) := hold 2 (by kernel_rfl)
              clear hold hp hsz
              rw [if_pos (by rfl)]
              refine ld8 2 rfl (w.heap.size) (x3) t2 (hB.now.1) (IX.out.size) ?_
              exact hK.out _ _ ⟨hB, rfl, Nat.le_refl _, .inl (Below.refl _ _), fun h => absurd h (by decide)⟩
            refine Stps4.cons (o := _) ?_ ?_
            · intro f ac yw hsz hold hB hp hf K hK
              have t3 : ac.tmps[3]? = some (.pointer (some ⟨w.heap.size + 1, 0, none⟩)) := hold 3 (by kernel_rfl)
              clear hold hp hsz
              rw [if_pos (by rfl)]
              refine ld8 3 rfl (w.heap.size + 1) ((arrC ch2 ((r2 : Int) - 1) (dm S2 r2) na2 nn2 nc2 ta2 tn2 tc2)) t3 (hB.now.2.1) ((IsA.of _ _ _ _ _ _ _ _ _).size) ?_
              exact hK.out _ _ ⟨hB, rfl, Nat.le_refl _, .inl (Below.refl _ _), fun h => absurd h (by decide)⟩
            refine Stps4.cons (o := _) ?_ ?_
            · intro f ac yw hsz hold hB hp hf K hK
              have e0 := hp 0 (by decide)
              have t39 : ac.tmps[39]? = some (.agg x3) := (List.cons.inj e0).1
              have t4 : ac.tmps[4]? = some (.pointer (some ⟨w.heap.size + 1 + 1, 0, none⟩)) := hold 4 (by kernel_rfl)
              clear hold hp hsz hf e0
              rw [if_pos (by rfl)]
              obtain ⟨zz, hz, iz⟩ := hB.now.2.2.1
              have HB := AlkP.put3 ArrTwo.keeps hB (by omega) (by omega) (by omega) (by omega) (x3) IX.out
              refine st8 4 39 rfl (w.heap.size + 1 + 1) x3 t4 t39 _ zz hz iz IX.out ?_
              refine hK.out undef _ ⟨HB, hz.put _, by simp [World.setRow], .inr ?_, fun h => absurd h (by decide)⟩
              intro jj hj hap h
              match jj, h with
              | 0, h => exact h
              | 1, h => exact h
              | 2, _ => exact absurd rfl hj
              | 3, g3_0 => exact g3_0.puto (by omega) _
              | 4, h => exact h
              | _ + 5, h => exact h
            refine Stps4.cons (o := _) ?_ ?_
            · intro f ac yw hsz hold hB hp hf K hK
              have e1 := hp 1 (by decide)
              have t40 : ac.tmps[40]? = some (.agg (arrC ch2 ((r2 : Int) - 1) (dm S2 r2) na2 nn2 nc2 ta2 tn2 tc2)) := (List.cons.inj e1).1
              have t5 : ac.tmps[5]? = some (.pointer (some ⟨w.heap.size + 1 + 1 + 1, 0, none⟩)) := hold 5 (by kernel_rfl)
              clear hold hp hsz hf e1
              rw [if_pos (by rfl)]
              obtain ⟨zz, hz, iz⟩ := hB.now.2.2.2.1
              have HB := AlkP.put4 ArrTwo.keeps hB (by omega) (by omega) (by omega) (by omega) ((arrC ch2 ((r2 : Int) - 1) (dm S2 r2) na2 nn2 nc2 ta2 tn2 tc2)) (IsA.of _ _ _ _ _ _ _ _ _)
              refine st8 5 40 rfl (w.heap.size + 1 + 1 + 1) (arrC ch2 ((r2 : Int) - 1) (dm S2 r2) na2 nn2 nc2 ta2 tn2 tc2) t5 t40 _ zz hz iz (IsA.of _ _ _ _ _ _ _ _ _) ?_
              refine hK.out undef _ ⟨HB, hz.put _, by simp [World.setRow], .inr ?_, fun h => absurd h (by decide)⟩
              intro jj hj hap h
              match jj, h with
              | 0, h => exact h
              | 1, h => exact h
              | 2, g2_0 => exact g2_0.puto (by omega) _
              | 3, _ => exact absurd rfl hj
              | 4, h => exact h
              | _ + 5, h => exact h
            refine Stps4.cons (o := _) ?_ ?_
            · intro f ac yw hsz hold hB hp hf K hK
              clear hold hp hsz hf
              go_simp
              exact hK.out _ _ ⟨hB, rfl, Nat.le_refl _, .inl (Below.refl _ _), fun h => absurd h (by decide)⟩
            exact Stps4.nil _
          refine Stps4.cons (o := _) ?_ ?_
          · intro f ac yw hsz hold hB hp hf K hK
            have t3 : ac.tmps[3]? = some (.pointer (some ⟨w.heap.size + 1, 0, none⟩)) := hold 3 (by kernel_rfl)
            clear hold hp hsz
            rw [if_pos (by rfl)]
            refine ld8 3 rfl (w.heap.size + 1) ((arrC ch2 ((r2 : Int) - 1) (dm S2 r2) na2 nn2 nc2 ta2 tn2 tc2)) t3 (hB.now.2.1) (rfl) ?_
            exact hK.out _ _ ⟨hB, rfl, Nat.le_refl _, .inl (Below.refl _ _), fun h => absurd h (by decide)⟩
          refine Stps4.cons (o := _) ?_ ?_
          · intro f ac yw hsz hold hB hp hf K hK
            have t2 : ac.tmps[2]? = some (.pointer (some ⟨w.heap.size, 0, none⟩)) := hold 2 (by kernel_rfl)
            clear hold hp hsz
            rw [if_pos (by rfl)]
            refine ld8 2 rfl (w.heap.size) ((arrC ch1 ((r1 : Int) - 1) (dm S1 r1) na1 nn1 nc1 ta1 tn1 tc1)) t2 (hB.now.1 (hf 7 (by decide))) (rfl) ?_
            exact hK.out _ _ ⟨hB, rfl, Nat.le_refl _, .inl (Below.refl _ _), fun h => absurd h (by decide)⟩
          refine Stps4.cons (o := _) ?_ ?_
          · intro f ac yw hsz hold hB hp hf K hK
            have e1 := hp 1 (by decide)
            have t34 : ac.tmps[34]? = some (.agg (arrC ch1 ((r1 : Int) - 1) (dm S1 r1) na1 nn1 nc1 ta1 tn1 tc1)) := (List.cons.inj e1).1
            clear hold hp hsz hf e1
            go_simp
            (go_at_call 35; (refine (SH.out _ (HX.out.below hB.below)).mono ?_); rintro e wz ⟨k2, c2, rfl, hge, hlt, h2_0, hbz⟩; have hge := Nat.lt_of_lt_of_le (Exists.elim hB.now.2.2.1 (fun _ h => h.1.lt)) hge)
            exact hK.out _ _ ⟨hB.go hbz, Exists.intro k2 (Exists.intro c2 (And.intro rfl (And.intro h2_0 hge))), hbz.size, .inl hbz, fun h => absurd h (by decide)⟩
          refine Stps4.cons (o := _) ?_ ?_
          · intro f ac yw hsz hold hB hp hf K hK
            have e0 := hp 0 (by decide)
            have t33 : ac.tmps[33]? = some (.agg (arrC ch2 ((r2 : Int) - 1) (dm S2 r2) na2 nn2 nc2 ta2 tn2 tc2)) := (List.cons.inj e0).1
            obtain ⟨k2_2, c2_2, e2, g2_0, g2_1⟩ := hp 2 (by decide)
            have t35 : ac.tmps[35]? = some (.slice (some ⟨k2_2, 0, none⟩) r1 c2_2) := (List.cons.inj e2).1
            clear hold hp hsz hf e0 e2
            go_simp
            (go_at_call 52; (refine (PK.out _ _ _ (HO.out.below hB.below) g2_0).mono ?_); rintro e wz ⟨x3, rfl, h3_0, hbz⟩)
            exact hK.out _ _ ⟨hB.go hbz, Exists.intro x3 (And.intro rfl (And.intro h3_0 h3_0.isA)), hbz.size, .inl hbz, fun h => absurd h (by decide)⟩
          refine Stps4.cons (o := _) ?_ ?_
          · intro f ac yw hsz hold hB hp hf K hK
            obtain ⟨x3_3, e3, g3_0, g3_1⟩ := hp 3 (by decide)
            have t36 : ac.tmps[36]? = some (.tuple #[.agg x3_3, .bool true]) := (List.cons.inj e3).1
            clear hold hp hsz hf e3
            go_simp
            exact hK.out _ _ ⟨hB, Exists.intro x3_3 (And.intro rfl (And.intro g3_0 g3_1)), Nat.le_refl _, .inl (Below.refl _ _), fun h => absurd h (by decide)⟩
          refine Stps4.cons (o := _) ?_ ?_
          · intro f ac yw hsz hold hB hp hf K hK
            obtain ⟨x3_4, e4, g4_0, g4_1⟩ := hp 4 (by decide)
            have t32 : ac.tmps[32]? = some (.tuple #[.agg x3_4, .bool true]) := (List.cons.inj e4).1
            clear hold hp hsz hf e4
            go_simp
            exact hK.out _ _ ⟨hB, Exists.intro x3_4 (And.intro rfl (And.intro g4_0 g4_1)), Nat.le_refl _, .inl (Below.refl _ _), fun h => absurd h (by decide)⟩
          refine Stps4.cons (o := _) ?_ ?_
          · intro f ac yw hsz hold hB hp hf K hK
            obtain ⟨x3_4, e4, g4_0, g4_1⟩ := hp 4 (by decide)
            have t32 : ac.tmps[32]? = some (.tuple #[.agg x3_4, .bool true]) := (List.cons.inj e4).1
            clear hold hp hsz hf e4
            go_simp
            exact hK.out _ _ ⟨hB, rfl, Nat.le_refl _, .inl (Below.refl _ _), fun h => absurd h (by decide)⟩
          refine Stps4.cons (o := _) ?_ ?_
          · intro f ac yw hsz hold hB hp hf K hK
            obtain ⟨x3_5, e5, g5_0, g5_1⟩ := hp 5 (by decide)
            have t37 : ac.tmps[37]? = some (.agg x3_5) := (List.cons.inj e5).1
            have t2 : ac.tmps[2]? = some (.pointer (some ⟨w.heap.size, 0, none⟩)) := hold 2 (by kernel_rfl)
            clear hold hp hsz hf e5
            rw [if_pos (by rfl)]
            obtain ⟨zz, hz, iz⟩ := hB.now.2.2.1
            have HB := AlkB.put hB (by omega) (by omega) (by omega) (x3_5) g5_1
            refine st8 2 37 rfl (w.heap.size) x3_5 t2 t37 _ zz hz iz g5_1 ?_
            refine hK.out undef _ ⟨HB, Exists.intro x3_5 (And.intro (hz.put _) (And.intro (g5_0.store hz iz _) g5_1)), by simp [World.setRow], .inr ?_, fun h => absurd h (by decide)⟩
            intro jj hj hap h
            match jj, h with
            | 0, h => exact h
            | 1, h => exact h
            | 2, ⟨k2, c2, e2, g2_0, g2_1⟩ => exact Exists.intro k2 (Exists.intro c2 (And.intro e2 (And.intro (g2_0.away (.inr (fun x hx => by obtain rfl := Option.some.inj hx; show (_ : Nat) ≠ _; dsimp only; omega)) (Far.setRow _ _ _)) g2_1)))
            | 3, ⟨x3, e3, g3_0, g3_1⟩ => exact Exists.intro x3 (And.intro e3 (And.intro (g3_0.store hz iz _) g3_1))
            | 4, ⟨x3, e4, g4_0, g4_1⟩ => exact Exists.intro x3 (And.intro e4 (And.intro (g4_0.store hz iz _) g4_1))
            | 5, ⟨x3, e5, g5_0, g5_1⟩ => exact Exists.intro x3 (And.intro e5 (And.intro (g5_0.store hz iz _) g5_1))
            | 6, h => exact h
            | 7, _ => exact absurd rfl hj
            | _ + 8, h => exact h
          exact Stps4.nil _
        refine Stps2.cons (o := _) ?_ ?_
        · intro ac yw hsz hold hB hp K hK
          have t2 : ac.tmps[2]? = some (.pointer (some ⟨w.heap.size, 0, none⟩)) := hold 2 (by kernel_rfl)
          clear hold hp hsz
          rw [if_pos (by rfl)]
          refine ld8 2 rfl (w.heap.size) ((arrC ch1 ((r1 : Int) - 1) (dm S1 r1) na1 nn1 nc1 ta1 tn1 tc1)) t2 ((BB.out.go hB.below).now.1) (rfl) ?_
          exact hK.out _ _ ⟨hB, rfl, Nat.le_refl _, .inl (Below.refl _ _), fun h => absurd h (by decide)⟩
        refine Stps2.cons (o := _) ?_ ?_
        · intro ac yw hsz hold hB hp K hK
          have e0 := hp 0 (by decide)
          have t10 : ac.tmps[10]? = some (.agg (arrC ch1 ((r1 : Int) - 1) (dm S1 r1) na1 nn1 nc1 ta1 tn1 tc1)) := (List.cons.inj e0).1
          clear hold hp hsz e0
          go_simp
          (go_at_call 51; (with_reducible refine (IC1.out _).mono ?_); rintro e wz ⟨rfl, hbz⟩)
          exact hK.out _ _ ⟨hB.go hbz, rfl, hbz.size, .inl hbz, fun h => absurd h (by decide)⟩
        refine Stps2.cons (o := _) ?_ ?_
        · intro ac yw hsz hold hB hp K hK
          have t3 : ac.tmps[3]? = some (.pointer (some ⟨w.heap.size + 1, 0, none⟩)) := hold 3 (by kernel_rfl)
          clear hold hp hsz
          rw [if_pos (by rfl)]
          refine ld8 3 rfl (w.heap.size + 1) ((arrC ch2 ((r2 : Int) - 1) (dm S2 r2) na2 nn2 nc2 ta2 tn2 tc2)) t3 ((BB.out.go hB.below).now.2.1) (rfl) ?_
          exact hK.out _ _ ⟨hB, rfl, Nat.le_refl _, .inl (Below.refl _ _), fun h => absurd h (by decide)⟩
        refine Stps2.cons (o := _) ?_ ?_
        · intro ac yw hsz hold hB hp K hK
          have e2 := hp 2 (by decide)
          have t12 : ac.tmps[12]? = some (.agg (arrC ch2 ((r2 : Int) - 1) (dm S2 r2) na2 nn2 nc2 ta2 tn2 tc2)) := (List.cons.inj e2).1
          clear hold hp hsz e2
          go_simp
          (go_at_call 51; (with_reducible refine (IC2.out _).mono ?_); rintro e wz ⟨rfl, hbz⟩)
          exact hK.out _ _ ⟨hB.go hbz, rfl, hbz.size, .inl hbz, fun h => absurd h (by decide)⟩
        refine Stps2.cons (o := _) ?_ ?_
        · intro ac yw hsz hold hB hp K hK
          have e1 := hp 1 (by decide)
          have t11 : ac.tmps[11]? = some (.bool ch1) := (List.cons.inj e1).1
          have e3 := hp 3 (by decide)
          have t13 : ac.tmps[13]? = some (.bool ch2) := (List.cons.inj e3).1
          clear hold hp hsz e1 e3
          go_simp
          exact hK.out _ _ ⟨hB, rfl, Nat.le_refl _, .inl (Below.refl _ _), fun h => absurd h (by decide)⟩
        refine Stps2.cons (o := _) ?_ ?_
        · intro ac yw hsz hold hB hp K hK
          have e4 := hp 4 (by decide)
          have t14 : ac.tmps[14]? = some (.bool false) := (List.cons.inj e4).1
          clear hold hp hsz e4
          go_simp
          exact hK.out _ _ ⟨hB, rfl, Nat.le_refl _, .inl (Below.refl _ _), fun h => absurd h (by decide)⟩
        exact Stps2.nil _
      · have d1 : ((L1 : Int) == 0) = false := beq_eq_false_iff_ne.2 (by omega)
        have e1 : kdB ch1 L1 ch2 L2 = false := by unfold kdB; rw [decide_eq_false hch, decide_eq_false hz1, decide_eq_false hz2]; rfl
        rw [e1]
        clear hch e1 hz1 hz2
        clear hsh1 hsh2 hc1 hc2 hr1 hr2 
        unfold arrC
        go_enter Tryz.func25, Tryz.ntmps25
        go_wp2_with fail
        have hWW := BB.out.below


        generalize hW : ((((w.alloc (.cells _ 32)).alloc (.cells _ 32)).alloc (.cells _ 32)).alloc (.cells _ 32)) = YY at *
        clear hW hWW
        refine wp_region_inv2 ⟨(fun j => ([[10], [11], [12], [13], [14], [9]] : List (List Nat)).getD j []), (fun j => ([[], [0], [], [0, 1, 2], [0, 1, 2, 3], [0, 1, 2, 3, 4]] : List (List Nat)).getD j []), []⟩ (fun jj vv yy => match jj with | 0 => vv = [some (.agg (arrC ch1 ((r1 : Int) - 1) (dm S1 r1) na1 nn1 nc1 ta1 tn1 tc1))] | 1 => vv = [some (.bool ch1)] | 2 => vv = [some (.agg (arrC ch2 ((r2 : Int) - 1) (dm S2 r2) na2 nn2 nc2 ta2 tn2 tc2))] | 3 => vv = [some (.bool ch2)] | 4 => vv = [some (.bool false)] | 5 => vv = [some (.bool false)] | _ => True) (Bag YY (fun _ => True)) (by kernel_rfl) (by kernel_rfl) (by kernel_rfl) (Bag.start YY).drew ?_ ?_ ?_
        · intro jj vv yw yw2 hb h
          match jj, h with
          | 0, h => exact h
          | 1, h => exact h
          | 2, h => exact h
          | 3, h => exact h
          | 4, h => exact h
          | 5, h => exact h
          | _ + 6, h => exact h
        · intro ac yw hsz hdf hold hB hp
          have t9 : ac.tmps[9]? = some (.bool false) := (List.cons.inj (hp 5 (by decide))).1
          have t2 : ac.tmps[2]? = some (.pointer (some ⟨w.heap.size, 0, none⟩)) := hold 2 (by kernel_rfl)
          have t3 : ac.tmps[3]? = some (.pointer (some ⟨w.heap.size + 1, 0, none⟩)) := hold 3 (by kernel_rfl)
          have t4 : ac.tmps[4]? = some (.pointer (some ⟨w.heap.size + 1 + 1, 0, none⟩)) := hold 4 (by kernel_rfl)
          have t5 : ac.tmps[5]? = some (.pointer (some ⟨w.heap.size + 1 + 1 + 1, 0, none⟩)) := hold 5 (by kernel_rfl)
          have t6 : ac.tmps[6]? = some (.bool false) := hold 6 (by kernel_rfl)
          have BB := Lib.hid (BB.out.go hB.below)
          clear hold hp hB
          obtain ⟨TV, hTV⟩ : ∃ TV : Nat → Value, ∀ i, (ac.tmps[i]?).getD undef = TV i := ⟨_, fun _ => rfl⟩
          have f2 := (hTV 2).symm.trans (congrArg (fun x => Option.getD x undef) t2)
          have f3 := (hTV 3).symm.trans (congrArg (fun x => Option.getD x undef) t3)
          have f4 := (hTV 4).symm.trans (congrArg (fun x => Option.getD x undef) t4)
          have f5 := (hTV 5).symm.trans (congrArg (fun x => Option.getD x undef) t5)
          have f6 := (hTV 6).symm.trans (congrArg (fun x => Option.getD x undef) t6)
          have f9 := (hTV 9).symm.trans (congrArg (fun x => Option.getD x undef) t9)
          have hac := act_eq (n := 41) hsz TV hTV
          rw [show ((List.range 41).map TV).toArray = #[TV 0, TV 1, TV 2, TV 3, TV 4, TV 5, TV 6, TV 7, TV 8, TV 9, TV 10, TV 11, TV 12, TV 13, TV 14, TV 15, TV 16, TV 17, TV 18, TV 19, TV 20, TV 21, TV 22, TV 23, TV 24, TV 25, TV 26, TV 27, TV 28, TV 29, TV 30, TV 31, TV 32, TV 33, TV 34, TV 35, TV 36, TV 37, TV 38, TV 39, TV 40] from rfl, f2, f3, f4, f5, f6, f9, hdf] at hac
          simp only [Option.getD_some] at hac
          subst hac
          clear hTV f2 f3 f4 f5 f6 f9
          have HR2 := Lib.hid BB.out.now.2.1
          go_wp2_with (refine ld_arr rfl (.tmp 3) rfl (w.heap.size + 1) rfl HR2.out ?_)
          go_at_call 19
          (with_reducible refine (LN2.out _ ?_).mono ?_)
          · exact H2.out.below BB.out.below
          rintro e w52 ⟨rfl, hb5⟩
          have BB := Lib.hid (BB.out.go hb5)
          clear hb5
          clear HR2
          have HR1 := Lib.hid BB.out.now.1
          go_wp2_with (refine ld_arr rfl (.tmp 2) rfl (w.heap.size) rfl HR1.out ?_)
          go_at_call 19
          (with_reducible refine (LN1.out _ ?_).mono ?_)
          · exact H1.out.below BB.out.below
          rintro e w51 ⟨rfl, hb5⟩
          have BB := Lib.hid (BB.out.go hb5)
          clear hb5
          clear HR1
          have HZ4 := Lib.hid BB.out.now.2.2.1
          have HZ5 := Lib.hid (BB.out.now.2.2.2.1.puto (k := w.heap.size + 1 + 1) (by omega) zerC)
          have HE : Hid (Row ((w51.setRow (w.heap.size + 1 + 1) zerC).setRow (w.heap.size + 1 + 1 + 1) zerC) (w.heap.size + 1 + 1) 32 zerC ∧ Row ((w51.setRow (w.heap.size + 1 + 1) zerC).setRow (w.heap.size + 1 + 1 + 1) zerC) (w.heap.size + 1 + 1 + 1) 32 zerC ∧ Below w.heap.size w ((w51.setRow (w.heap.size + 1 + 1) zerC).setRow (w.heap.size + 1 + 1 + 1) zerC)) := Lib.hid ⟨(HZ4.out.put _).puto (by omega) _, HZ5.out.put _, below_put (below_put BB.out.below (by omega) zerC) (by omega) zerC⟩
          go_wp2_with (first
            | (refine st_arr rfl (.tmp 4) (.tmp 7) rfl (w.heap.size + 1 + 1) rfl false 0 (fun _ => 0) none 0 0 none 0 0 rfl HZ4.out rfl ?_)
            | (refine st_arr rfl (.tmp 5) (.tmp 8) rfl (w.heap.size + 1 + 1 + 1) rfl false 0 (fun _ => 0) none 0 0 none 0 0 rfl HZ5.out rfl ?_))
          exact bodyPost_ret (res_arr3 Tryz.results25 rfl rfl rfl HE.out.1 HE.out.2.1 rfl rfl) rfl ⟨_, _, rfl, IsA.zer, IsA.zer, (fun e => by cases e), HE.out.2.2⟩
        refine Stps2.cons (o := _) ?_ ?_
        · intro ac yw hsz hold hB hp K hK
          have t2 : ac.tmps[2]? = some (.pointer (some ⟨w.heap.size, 0, none⟩)) := hold 2 (by kernel_rfl)
          clear hold hp hsz
          rw [if_pos (by rfl)]
          refine ld8 2 rfl (w.heap.size) ((arrC ch1 ((r1 : Int) - 1) (dm S1 r1) na1 nn1 nc1 ta1 tn1 tc1)) t2 ((BB.out.go hB.below).now.1) (rfl) ?_
          exact hK.out _ _ ⟨hB, rfl, Nat.le_refl _, .inl (Below.refl _ _), fun h => absurd h (by decide)⟩
        refine Stps2.cons (o := _) ?_ ?_
        · intro ac yw hsz hold hB hp K hK
          have e0 := hp 0 (by decide)
          have t10 : ac.tmps[10]? = some (.agg (arrC ch1 ((r1 : Int) - 1) (dm S1 r1) na1 nn1 nc1 ta1 tn1 tc1)) := (List.cons.inj e0).1
          clear hold hp hsz e0
          go_simp
          (go_at_call 51; (with_reducible refine (IC1.out _).mono ?_); rintro e wz ⟨rfl, hbz⟩)
          exact hK.out _ _ ⟨hB.go hbz, rfl, hbz.size, .inl hbz, fun h => absurd h (by decide)⟩
        refine Stps2.cons (o := _) ?_ ?_
        · intro ac yw hsz hold hB hp K hK
          have t3 : ac.tmps[3]? = some (.pointer (some ⟨w.heap.size + 1, 0, none⟩)) := hold 3 (by kernel_rfl)
          clear hold hp hsz
          rw [if_pos (by rfl)]
          refine ld8 3 rfl (w.heap.size + 1) ((arrC ch2 ((r2 : Int) - 1) (dm S2 r2) na2 nn2 nc2 ta2 tn2 tc2)) t3 ((BB.out.go hB.below).now.2.1) (rfl) ?_
          exact hK.out _ _ ⟨hB, rfl, Nat.le_refl _, .inl (Below.refl _ _), fun h => absurd h (by decide)⟩
        refine Stps2.cons (o := _) ?_ ?_
        · intro ac yw hsz hold hB hp K hK
          have e2 := hp 2 (by decide)
          have t12 : ac.tmps[12]? = some (.agg (arrC ch2 ((r2 : Int) - 1) (dm S2 r2) na2 nn2 nc2 ta2 tn2 tc2)) := (List.cons.inj e2).1
          clear hold hp hsz e2
          go_simp
          (go_at_call 51; (with_reducible refine (IC2.out _).mono ?_); rintro e wz ⟨rfl, hbz⟩)
          exact hK.out _ _ ⟨hB.go hbz, rfl, hbz.size, .inl hbz, fun h => absurd h (by decide)⟩
        refine Stps2.cons (o := _) ?_ ?_
        · intro ac yw hsz hold hB hp K hK
          have e1 := hp 1 (by decide)
          have t11 : ac.tmps[11]? = some (.bool ch1) := (List.cons.inj e1).1
          have e3 := hp 3 (by decide)
          have t13 : ac.tmps[13]? = some (.bool ch2) := (List.cons.inj e3).1
          clear hold hp hsz e1 e3
          go_simp
          exact hK.out _ _ ⟨hB, rfl, Nat.le_refl _, .inl (Below.refl _ _), fun h => absurd h (by decide)⟩
        refine Stps2.cons (o := _) ?_ ?_
        · intro ac yw hsz hold hB hp K hK
          have e4 := hp 4 (by decide)
          have t14 : ac.tmps[14]? = some (.bool false) := (List.cons.inj e4).1
          clear hold hp hsz e4
          go_simp
          exact hK.out _ _ ⟨hB, rfl, Nat.le_refl _, .inl (Below.refl _ _), fun h => absurd h (by decide)⟩
        exact Stps2.nil _
end Go.Proofs.YtifnamlgkooacaaGreatDoor
