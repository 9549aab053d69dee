/-
  Package shape: Index (the index of a place), by contract: its arithmetic.
-/
import Derived.Test.YtgpcfncolhmgfaaSh1
namespace Go.Proofs.Ytgpcfncolhmgfaa
open Go.RowKit

/-- The numbers of the index at a place, the last one first. -/
def dgs (f : Nat → Int) : Nat → Int → Nat → Int
  | 0, _, _ => 0
  | k + 1, r, j => if j = k then r % f k else dgs f k (r / f k) j
theorem itm_pos {f : Nat → Int} {n : Nat} (h : axB f n = true) {at' : Int} (h0 : 0 ≤ at') (h1 : at' < itm f n) : ∀ j, j < n → 1 ≤ f j := by
  induction n generalizing at' with
  | zero => intro j hj; omega
  | succ n ih =>
    intro j hj
    have hn := ax_nn h (show n < n + 1 by omega)
    have hne : f n ≠ 0 := by
      intro e
      have : itm f (n + 1) = itm f n * f n := rfl
      rw [this, e, Int.mul_zero] at h1
      omega
    by_cases e : j = n
    · subst e; omega
    · have e1 : itm f (n + 1) = itm f n * f n := rfl
      have hb := (ax_bd (ax_le (Nat.le_succ n) h)).2.2.1
      have : 0 < itm f n := by
        rcases Int.lt_or_le 0 (itm f n) with h3 | h3
        · exact h3
        · have h4 : itm f n = 0 := by omega
          rw [e1, h4, Int.zero_mul] at h1
          omega
      exact ih (ax_le (Nat.le_succ n) h) (Int.le_refl 0) this j (by omega)
theorem quo_lt {f : Nat → Int} {k : Nat} {r : Int} (h1 : 1 ≤ f k) (hr0 : 0 ≤ r) (hr : r < itm f (k + 1)) : 0 ≤ r / f k ∧ r / f k < itm f k ∧ 0 ≤ r % f k ∧ r % f k < f k := by
  refine ⟨Int.ediv_nonneg hr0 (by omega), Int.ediv_lt_of_lt_mul (by omega) hr, Int.emod_nonneg _ (by omega), Int.emod_lt_of_pos _ (by omega)⟩
theorem dgs_in {f : Nat → Int} : ∀ {n : Nat} {r : Int}, (∀ j, j < n → 1 ≤ f j) → 0 ≤ r → r < itm f n → inB f (dgs f n r) n = true ∧ plc f (dgs f n r) n = r := by
  intro n
  induction n with
  | zero => intro r _ h0 h1; refine ⟨rfl, ?_⟩; have : itm f 0 = 1 := rfl; show 0 = r; omega
  | succ n ih =>
    intro r hp h0 h1
    obtain ⟨q1, q2, q3, q4⟩ := quo_lt (hp n (by omega)) h0 h1
    obtain ⟨i1, i2⟩ := ih (fun j hj => hp j (by omega)) q1 q2
    have hd : ∀ j, j < n → dgs f (n + 1) r j = dgs f n (r / f n) j := fun j hj => by
      show (if j = n then _ else _) = _
      rw [if_neg (by omega)]
    have hn : dgs f (n + 1) r n = r % f n := by show (if n = n then _ else _) = _; rw [if_pos rfl]
    have hin : ∀ k, k ≤ n → inB f (dgs f (n + 1) r) k = inB f (dgs f n (r / f n)) k := by
      intro k
      induction k with
      | zero => intro _; rfl
      | succ k ihk => intro hk; unfold inB; rw [ihk (by omega), hd k (by omega)]
    have hpl : ∀ k, k ≤ n → plc f (dgs f (n + 1) r) k = plc f (dgs f n (r / f n)) k := by
      intro k
      induction k with
      | zero => intro _; rfl
      | succ k ihk => intro hk; unfold plc; rw [ihk (by omega), hd k (by omega)]
    constructor
    · unfold inB
      rw [hin n (Nat.le_refl _), i1, hn, decide_eq_true q3, decide_eq_true q4]
      rfl
    · unfold plc
      rw [hpl n (Nat.le_refl _), i2, hn, Int.mul_comm]
      exact Int.mul_ediv_add_emod _ _
/-- Two indexes at one place are the same. -/
theorem plc_inj {f g g' : Nat → Int} : ∀ {n : Nat}, inB f g n = true → inB f g' n = true → plc f g n = plc f g' n → ∀ j, j < n → g j = g' j := by
  intro n
  induction n with
  | zero => intro _ _ _ j hj; omega
  | succ n ih =>
    intro h1 h2 h3
    have b1 := inB_at h1 (show n < n + 1 by omega)
    have b2 := inB_at h2 (show n < n + 1 by omega)
    have e1 : plc f g n * f n + g n = plc f g' n * f n + g' n := h3
    have hm : g n = g' n := by
      have m1 : (plc f g n * f n + g n) % f n = g n := by rw [Int.add_comm, Int.add_mul_emod_self_right]; exact Int.emod_eq_of_lt b1.1 b1.2
      have m2 : (plc f g' n * f n + g' n) % f n = g' n := by rw [Int.add_comm, Int.add_mul_emod_self_right]; exact Int.emod_eq_of_lt b2.1 b2.2
      rw [e1, m2] at m1
      exact m1.symm
    have hp : plc f g n = plc f g' n := by
      rw [hm] at e1
      exact Int.eq_of_mul_eq_mul_right (show f n ≠ 0 by omega) (by omega)
    intro j hj
    by_cases e : j = n
    · subst e; exact hm
    · exact ih (inB_le (by omega) h1) (inB_le (by omega) h2) hp j (by omega)

/-- A block of n integers of its own. -/
def IBox (w : World) (g n : Nat) (h : Nat → Int) : Prop := g < w.heap.size ∧ Free w g ∧ ∀ j, j < n → w.cell? ⟨g, j, none⟩ = some (.int .i64 (h j))
theorem IBox.below {w w' : World} {g n : Nat} {h : Nat → Int} (q : IBox w g n h) (hb : Below w.heap.size w w') : IBox w' g n h :=
  ⟨Nat.lt_of_lt_of_le q.1 hb.size, q.2.1.below hb q.1, fun j hj => (hb.cell (p := ⟨g, j, none⟩) q.1).trans (q.2.2 j hj)⟩
theorem IBox.set {w : World} {g n k : Nat} {h : Nat → Int} (q : IBox w g n h) (hk : k < n) (x : Int) : IBox (w.setCell ⟨g, k, none⟩ (.int .i64 x)) g n (fun j => if j = k then x else h j) := by
  refine ⟨by simpa using q.1, q.2.1.set _ _, fun j hj => ?_⟩
  by_cases e : j = k
  · subst e
    show _ = some (Value.int .i64 (if j = j then x else h j))
    rw [if_pos rfl]
    exact World.cell?_setCell_same _ _ _ (q.2.2 j hj)
  · show _ = some (Value.int .i64 (if j = k then x else h j))
    rw [if_neg e, World.cell?_setCell_other _ _ _ _ (fun h => by injection h with _ h; omega)]
    exact q.2.2 j hj
theorem IBox.congr {w : World} {g n : Nat} {h h' : Nat → Int} (q : IBox w g n h) (e : ∀ j, j < n → h j = h' j) : IBox w g n h' := ⟨q.1, q.2.1, fun j hj => by rw [q.2.2 j hj, e j hj]⟩
theorem IBox.krow {w : World} {g n : Nat} {h : Nat → Int} (q : IBox w g n h) (hn : n ≤ maxLen) : KRow w .i64 (some ⟨g, 0, none⟩) n n h :=
  ⟨Nat.le_refl _, hn, .inr ⟨g, 0, rfl, q.1, fun j hj => by rw [Nat.zero_add]; exact q.2.2 j hj⟩⟩
theorem IBox.made (w : World) (n : Nat) (t : TypeId) {mc : Array Value} (hmc : mc = madeCells (Value.cells (.int .i64 0)) n) : IBox (w.alloc (.cells mc t)) w.heap.size n (fun _ => 0) := by
  subst hmc
  have hR := Row.new w t (madeCells (Value.cells (.int .i64 0)) n)
  refine ⟨hR.lt, fun o => hR.free o, fun j hj => ?_⟩
  rw [hR.cell]
  unfold madeCells
  rw [Array.getElem?_map, Array.getElem?_range, if_pos (by omega), Option.map_some]
  simp [Value.cells, Nat.mod_one]
theorem Bag.ibox {w0 w : World} {B : World → Prop} {g n : Nat} {h : Nat → Int} (b : Bag w0 B w) (q : IBox w g n h) : Bag w0 (fun y => IBox y g n h ∧ B y) w := b.add (fun _ _ hb q => IBox.below q hb) q

/-- Is it a place of the shape? -/
def ixB (f : Nat → Int) (n : Nat) (i : Int) : Bool := shB f n && (decide (0 ≤ i) && decide (i < itm f n))
/-- What Index answers. -/
def IxTold (f : Nat → Int) (n : Nat) (i : Int) (w w' : World) (e : Ending) : Prop := ∃ a m c, e = .returned (.tuple #[.slice a m c, .bool (ixB f n i)]) ∧ (if ixB f n i then m = n ∧ KRow w' .i64 a n c (dgs f n i) else a = none ∧ m = 0 ∧ c = 0) ∧ Below w.heap.size w w'
theorem IxTold.no {f : Nat → Int} {n : Nat} {i : Int} {w w' : World} (hb : Below w.heap.size w w') (h : ixB f n i = false) : IxTold f n i w w' (.returned (.tuple #[.slice none 0 0, .bool false])) := by
  refine ⟨none, 0, 0, ?_, ?_, hb⟩
  · rw [h]
  · rw [h, if_neg (by decide)]; exact ⟨rfl, rfl, rfl⟩

set_option maxHeartbeats 1600000 in
set_option maxRecDepth 100000 in
theorem index_any (a : Option Addr) (n c : Nat) (f : Nat → Int) (i : Int) (w : World) (h : KRow w .i64 a n c f) (hf : In64 f n) :
    Calls Try.prog 8 #[.slice a n c, .int .i64 i] w fun e w' => IxTold f n i w w' e := by
  have hl := h.len
  have CN := Lib.hid (fun wz (h : KRow wz .i64 a n c f) => count_any a n c f wz h hf)
  unfold CntTold at CN
  have H := Lib.hid h
  clear h hf
  cases hs : shB f n with
  | false =>
    have HE := Lib.hid (fun wz (hb : Below w.heap.size w wz) => IxTold.no (f := f) (n := n) (i := i) hb (by unfold ixB; rw [hs]; rfl))
    rw [hs] at CN
    generalize cntI f n = x at *
    clear hs
    go_enter Try.func8, Try.ntmps8
    go_wp2_with fail
    go_at_call 27
    (with_reducible refine (CN.out _ H.out).mono ?_)
    rintro e w1 ⟨rfl, rfl⟩
    go_wp2
    go_ret2
    exact HE.out _ (Below.refl _ _)
  | true =>
    have hx : cntI f n = itm f n := by unfold cntI; rw [hs]; rfl
    rw [hs, hx] at CN
    have HS := Lib.hid hs
    have hix : ixB f n i = (decide (0 ≤ i) && decide (i < itm f n)) := by unfold ixB; rw [hs, Bool.true_and]
    clear hx hs
    by_cases h0 : i < 0
    · have HE := Lib.hid (IxTold.no (f := f) (n := n) (i := i) (Below.refl w.heap.size w) (by rw [hix, decide_eq_false (show ¬ 0 ≤ i by omega)]; rfl))
      clear hix
      generalize itm f n = x at *
      go_enter Try.func8, Try.ntmps8
      go_wp2_with fail
      go_at_call 27
      (with_reducible refine (CN.out _ H.out).mono ?_)
      rintro e w1 ⟨rfl, rfl⟩
      go_wp2
      go_ret2
      exact HE.out
    · by_cases h1 : itm f n ≤ i
      · have HE := Lib.hid (IxTold.no (f := f) (n := n) (i := i) (Below.refl w.heap.size w) (by rw [hix, decide_eq_false (show ¬ i < itm f n by omega), Bool.and_false]))
        clear hix
        generalize itm f n = x at *
        go_enter Try.func8, Try.ntmps8
        go_wp2_with fail
        go_at_call 27
        (with_reducible refine (CN.out _ H.out).mono ?_)
        rintro e w1 ⟨rfl, rfl⟩
        go_wp2
        go_ret2
        exact HE.out
      · obtain ⟨h8, hax⟩ := sh_ax HS.out
        have HP := Lib.hid (itm_pos hax (show 0 ≤ i by omega) (show i < itm f n by omega))
        have HAX := Lib.hid hax
        have HI := Lib.hid (And.intro (show 0 ≤ i by omega) (show i < itm f n by omega))
        have HIX : Hid (ixB f n i = true) := Lib.hid (by rw [hix, decide_eq_true HI.out.1, decide_eq_true HI.out.2]; rfl)
        have hbd := ax_bd hax
        obtain ⟨i0, hi, hz0, hz1, hz2⟩ := info_parts infoI
        have hmk := fun wz => run_make (P := Try.prog) wz 22 3 i0 _ Try.underlying22 hi hz0 .i64 .i64 n n (by omega) (by omega) (by rw [hz2]; omega) (by omega)
        simp only [Int.toNat_natCast, hz1, Nat.mul_one] at hmk
        have H0 : Hid (Below w.heap.size w (w.alloc (.cells (madeCells (Value.cells (.int .i64 0)) n) 3)) ∧ IBox (w.alloc (.cells (madeCells (Value.cells (.int .i64 0)) n) 3)) w.heap.size n (fun j => if j < n then 0 else dgs f n i j)) :=
          Lib.hid ⟨(Below.refl _ _).alloc (Nat.le_refl _) _, (IBox.made w n 3 rfl).congr (fun j hj => by rw [if_pos hj])⟩
        have hw1 := IntWalk.i64_in ((n : Int) - 1) (by omega)
        have hnn : (0 : Int) ≤ n := by omega
        clear hix hax hi hz0 hz1 hz2
        obtain ⟨X, hX⟩ : ∃ X, itm f n = X := ⟨_, rfl⟩
        rw [hX] at CN h1 hbd HI
        have HXX := Lib.hid hX
        clear hX
        go_enter Try.func8, Try.ntmps8
        go_wp2_with fail
        go_at_call 27
        (with_reducible refine (CN.out _ H.out).mono ?_)
        rintro e w1 ⟨rfl, rfl⟩
        go_wp2_with fail
        go_loopw [1, 9] (fun q ax wr => ∃ (k : Nat) (r z : Int), k ≤ n ∧ z = (k : Int) - 1 ∧ ax = .int .i64 z ∧ q = .int .i64 r ∧ Hid (0 ≤ r ∧ r < itm f k ∧ (∀ j, j < k → dgs f n i j = dgs f k r j) ∧ Below w.heap.size w wr ∧ IBox wr w.heap.size n (fun j => if j < k then 0 else dgs f n i j))) (fun _ ax _ => (intOf ax + 1).toNat)
        case atStart => exact ⟨n, i, (n : Int) - 1, Nat.le_refl _, rfl, rfl, rfl, HI.out.1, by rw [HXX.out]; exact HI.out.2, fun _ _ => rfl, H0.out⟩
        case round =>
          obtain ⟨k, r, z, hk, hz, rfl, rfl, hrel⟩ := hrel
          obtain ⟨r0, r1, hd, hbl, hbox⟩ := hrel.out
          by_cases hk0 : 0 < k
          · obtain ⟨k, rfl⟩ : ∃ k', k = k' + 1 := ⟨k - 1, by omega⟩
            have hlt : k < n := by omega
            obtain ⟨b, off, rfl, hb, hc0⟩ := H.out.get hlt
            have hc := (hbl.cell (p := ⟨b, off + k, none⟩) hb).trans hc0
            have hc2 : ∀ v, (wr.setCell ⟨w.heap.size, k, none⟩ v).cell? ⟨b, off + k, none⟩ = some (.int .i64 (f k)) := fun v => by rw [World.cell?_setCell_other _ _ _ _ (fun e => by injection e with e; omega)]; exact hc
            have hfk := HP.out k hlt
            obtain ⟨q1, q2, q3, q4⟩ := quo_lt hfk r0 r1
            have hdk : dgs f n i k = r % f k := by
              rw [hd k (by omega)]
              show (if k = k then _ else _) = _
              rw [if_pos rfl]
            have hbox2 : IBox (wr.setCell ⟨w.heap.size, k, none⟩ (.int .i64 (r % f k))) w.heap.size n (fun j => if j < k then 0 else dgs f n i j) :=
              (hbox.set hlt (r % f k)).congr (fun j hj => by
                by_cases e : j = k
                · subst e; rw [if_pos rfl, if_neg (by omega)]; exact hdk.symm
                · rw [if_neg e]
                  by_cases e2 : j < k
                  · rw [if_pos e2, if_pos (by omega)]
                  · rw [if_neg e2, if_neg (by omega)])
            have HN : Hid (0 ≤ r / f k ∧ r / f k < itm f k ∧ (∀ j, j < k → dgs f n i j = dgs f k (r / f k) j) ∧ Below w.heap.size w (wr.setCell ⟨w.heap.size, k, none⟩ (.int .i64 (r % f k))) ∧ IBox (wr.setCell ⟨w.heap.size, k, none⟩ (.int .i64 (r % f k))) w.heap.size n (fun j => if j < k then 0 else dgs f n i j)) :=
              Lib.hid ⟨q1, q2, fun j hj => by
                rw [hd j (by omega)]
                show (if j = k then _ else _) = _
                rw [if_neg (by omega)], hbl.setCell (p := ⟨w.heap.size, k, none⟩) (Nat.le_refl _) _, hbox2⟩
            have x1 := hbox.2.2 k hlt
            have x2 := hbox.2.1 k
            obtain rfl : z = (k : Int) := by omega
            have hkn : (0 : Int) ≤ k := by omega
            have hkl : (k : Int) < n := by omega
            have ht1 : r.tmod (f k) = r % f k := Int.tmod_eq_emod_of_nonneg r0
            have ht2 : r.tdiv (f k) = r / f k := Int.tdiv_eq_ediv_of_nonneg r0
            have hfn : ¬ f k = 0 := by omega
            have hit := (ax_bd (ax_le (show k + 1 ≤ n by omega) HAX.out)).2.2.2
            have hit2 := (ax_bd (ax_le (show k + 1 ≤ n by omega) HAX.out)).2.1
            have hle := Int.ediv_le_self (f k) r0
            have hre : r % f k ≤ r := by have h1 := Int.mul_ediv_add_emod r (f k); have h2 := Int.mul_nonneg (show 0 ≤ f k by omega) q1; omega
            have w2 := IntWalk.i64_in (r / f k) (by omega)
            have w3 := IntWalk.i64_in (r % f k) (by omega)
            have w4 := IntWalk.i64_in ((k : Int) - 1) (by omega)
            clear hbl hbox hbox2 hd hdk hrel q1 q2 q3 q4 r0 r1 hit hit2 hle hre hfk hz
            simp only [show k < k + 1 by omega, if_true] at x1
            generalize r / f k = q at *
            generalize r % f k = d at *
            generalize f k = x at *
            go_wp2
            go_roundw
            case rel => exact ⟨k, q, (k : Int) - 1, by omega, rfl, by go_num, rfl, HN.out⟩
            case measure => simp [intOf]
          · obtain rfl : k = 0 := by omega
            obtain rfl : z = -1 := by omega
            have hkr : KRow wr .i64 (some ⟨w.heap.size, 0, none⟩) n n (dgs f n i) := (hbox.congr (h' := dgs f n i) (fun j _ => by rw [if_neg (by omega)])).krow (by unfold maxLen; omega)
            have HE : Hid (IxTold f n i w wr (.returned (.tuple #[.slice (some ⟨w.heap.size, 0, none⟩) n n, .bool true]))) := Lib.hid ⟨_, n, _, by rw [HIX.out], by rw [HIX.out, if_pos rfl]; exact ⟨rfl, hkr⟩, hbl⟩
            clear hbl hbox hd hrel hkr r0 r1 hz
            go_wp2
            go_ret2
            exact HE.out

end Go.Proofs.Ytgpcfncolhmgfaa
