/-
  Package shape: Strides; the document's layer 7: With, Without, Strides; the law's examples, by contract.
-/
import Derived.Test.YtgpcfncolhmgfaaSh3
import Derived.Test.YtgpcfncolhmgfaaSh5
namespace Go.Proofs.Ytgpcfncolhmgfaa
open Go.RowKit

/-- How far apart neighbours lie. -/
def stF (f : Nat → Int) (n : Nat) : Nat → Int := fun j => itm (shf f (j + 1)) (n - (j + 1))
theorem st_step {f : Nat → Int} {n k : Nat} (hk : k < n) : itm (shf f k) (n - k) = itm (shf f (k + 1)) (n - (k + 1)) * f k := by
  have h := itm_add (shf f k) 1 (n - (k + 1))
  rw [show 1 + (n - (k + 1)) = n - k by omega] at h
  rw [h, show shf (shf f k) 1 = shf f (k + 1) from by funext j; show f (k + (1 + j)) = f (k + 1 + j); rw [Nat.add_assoc], show itm (shf f k) 1 = f k from by show 1 * f (k + 0) = f k; rw [Int.one_mul, Nat.add_zero], Int.mul_comm]
/-- What Strides answers. -/
def StTold (f : Nat → Int) (n : Nat) (w w' : World) (e : Ending) : Prop := ∃ a m c, e = .returned (.slice a m c) ∧ (if shB f n then m = n ∧ KRow w' .i64 a n c (stF f n) else a = none ∧ m = 0 ∧ c = 0) ∧ Below w.heap.size w w'

set_option maxHeartbeats 1600000 in
set_option maxRecDepth 100000 in
theorem strides_any (a : Option Addr) (n c : Nat) (f : Nat → Int) (w : World) (h : KRow w .i64 a n c f) (hf : In64 f n) :
    Calls Try.prog 15 #[.slice a n c] w fun e w' => StTold f n w w' e := by
  have hl := h.len
  have CN := Lib.hid (fun wz (h : KRow wz .i64 a n c f) => count_any a n c f wz h hf)
  unfold CntTold at CN
  have H := Lib.hid h
  clear h hf
  cases hs : shB f n with
  | false =>
    have HE : Hid (StTold f n w w (.returned (.slice none 0 0))) := Lib.hid ⟨none, 0, 0, rfl, by rw [hs, if_neg (by decide)]; exact ⟨rfl, rfl, rfl⟩, Below.refl _ _⟩
    rw [hs] at CN
    generalize cntI f n = x at *
    clear hs
    go_enter Try.func15, Try.ntmps15
    go_wp2_with fail
    go_at_call 27
    (with_reducible refine (CN.out _ H.out).mono ?_)
    rintro e w1 ⟨rfl, rfl⟩
    go_wp2
    go_ret
    exact HE.out
  | true =>
    rw [hs] at CN
    generalize cntI f n = x at *
    obtain ⟨h8, hax⟩ := sh_ax hs
    have HAX := Lib.hid hax
    have HS := Lib.hid hs
    obtain ⟨i0, hi, hz0, hz1, hz2⟩ := info_parts infoI
    have hmk := fun wz => run_make (P := Try.prog) wz 22 3 i0 _ Try.underlying22 hi hz0 .i64 .i64 n n (by omega) (by omega) (by rw [hz2]; omega) (by omega)
    simp only [Int.toNat_natCast, hz1, Nat.mul_one] at hmk
    have H0 : Hid (Below w.heap.size w (w.alloc (.cells (madeCells (Value.cells (.int .i64 0)) n) 3)) ∧ IBox (w.alloc (.cells (madeCells (Value.cells (.int .i64 0)) n) 3)) w.heap.size n (fun j => if j < n then 0 else stF f n j)) :=
      Lib.hid ⟨(Below.refl _ _).alloc (Nat.le_refl _) _, (IBox.made w n 3 rfl).congr (fun j hj => by rw [if_pos hj])⟩
    have HN0 : Hid ((1 : Int) = itm (shf f n) (n - n)) := Lib.hid (by rw [Nat.sub_self]; rfl)
    have hw1 := IntWalk.i64_in ((n : Int) - 1) (by omega)
    have hnn : (0 : Int) ≤ n := by omega
    clear hs hax hi hz0 hz1 hz2
    go_enter Try.func15, Try.ntmps15
    go_wp2_with fail
    go_at_call 27
    (with_reducible refine (CN.out _ H.out).mono ?_)
    rintro e w1 ⟨rfl, rfl⟩
    go_wp2_with fail
    go_loopw [6, 7] (fun q ax wr => ∃ (k : Nat) (r z : Int), k ≤ n ∧ z = (k : Int) - 1 ∧ ax = .int .i64 z ∧ q = .int .i64 r ∧ Hid (r = itm (shf f k) (n - k) ∧ Below w.heap.size w wr ∧ IBox wr w.heap.size n (fun j => if j < k then 0 else stF f n j))) (fun _ ax _ => (intOf ax + 1).toNat)
    case atStart => exact ⟨n, 1, (n : Int) - 1, Nat.le_refl _, rfl, rfl, rfl, HN0.out, H0.out⟩
    case round =>
      obtain ⟨k, r, z, hk, hz, rfl, rfl, hrel⟩ := hrel
      obtain ⟨hr, hbl, hbox⟩ := hrel.out
      by_cases hk0 : 0 < k
      · obtain ⟨k, rfl⟩ : ∃ k', k = k' + 1 := ⟨k - 1, by omega⟩
        obtain rfl : z = (k : Int) := by omega
        have hlt : k < n := by omega
        obtain ⟨b, off, rfl, hb, hc0⟩ := H.out.get hlt
        have hc := (hbl.cell (p := ⟨b, off + k, none⟩) hb).trans hc0
        have hc2 : ∀ v, (wr.setCell ⟨w.heap.size, k, none⟩ v).cell? ⟨b, off + k, none⟩ = some (.int .i64 (f k)) := fun v => by rw [World.cell?_setCell_other _ _ _ _ (fun e => by injection e with e; omega)]; exact hc
        have hst : stF f n k = r := hr.symm
        have hbox2 : IBox (wr.setCell ⟨w.heap.size, k, none⟩ (.int .i64 r)) w.heap.size n (fun j => if j < k then 0 else stF f n j) :=
          (hbox.set hlt r).congr (fun j hj => by
            by_cases e : j = k
            · subst e; rw [if_pos rfl, if_neg (by omega)]; exact hst.symm
            · rw [if_neg e]
              by_cases e2 : j < k
              · rw [if_pos e2, if_pos (by omega)]
              · rw [if_neg e2, if_neg (by omega)])
        have hbd := ax_bd (ax_shf k HAX.out (n - k) (by omega))
        have hrs := st_step (f := f) hlt
        rw [← hr] at hrs
        rw [hrs] at hbd
        have HN : Hid (r * f k = itm (shf f k) (n - k) ∧ Below w.heap.size w (wr.setCell ⟨w.heap.size, k, none⟩ (.int .i64 r)) ∧ IBox (wr.setCell ⟨w.heap.size, k, none⟩ (.int .i64 r)) w.heap.size n (fun j => if j < k then 0 else stF f n j)) :=
          Lib.hid ⟨hrs.symm, hbl.setCell (p := ⟨w.heap.size, k, none⟩) (Nat.le_refl _) _, hbox2⟩
        have x1 := hbox.2.2 k hlt
        simp only [show k < k + 1 by omega, if_true] at x1
        have x2 := hbox.2.1 k
        have hkn : (0 : Int) ≤ k := by omega
        have hkl : (k : Int) < n := by omega
        have w2 := IntWalk.i64_in (r * f k) (by omega)
        have w4 := IntWalk.i64_in ((k : Int) - 1) (by omega)
        clear hbl hbox hbox2 hrel hr hz hst hbd hrs hc hc0
        generalize f k = x at *
        go_wp2
        go_roundw
        case rel => exact ⟨k, r * x, (k : Int) - 1, by omega, rfl, by go_num, rfl, HN.out⟩
        case measure => simp [intOf]
      · obtain rfl : k = 0 := by omega
        obtain rfl : z = -1 := by omega
        have hkr : KRow wr .i64 (some ⟨w.heap.size, 0, none⟩) n n (stF f n) := (hbox.congr (h' := stF f n) (fun j _ => by rw [if_neg (by omega)])).krow (by unfold maxLen; omega)
        have HE : Hid (StTold f n w wr (.returned (.slice (some ⟨w.heap.size, 0, none⟩) n n))) := Lib.hid ⟨_, n, _, rfl, by rw [HS.out, if_pos rfl]; exact ⟨rfl, hkr⟩, hbl⟩
        clear hbl hbox hrel hkr hr hz
        go_wp2
        go_ret
        exact HE.out

end Go.Proofs.Ytgpcfncolhmgfaa
