/-
  Package whole: Plus, by contract.
-/
import Derived.Test.YtkjdoknmmiaapaaDoorWh4
namespace Go.Proofs.YtkjdoknmmiaapaaDoor
open Go.RowKit

/-- A row of integers in memory. -/
def IntsAt (w : World) (sa : Option Addr) (n c : Nat) (f : Nat → Int) : Prop := n ≤ c ∧ n ≤ 1000 ∧ (n = 0 ∨ ∃ b off, sa = some ⟨b, off, none⟩ ∧ b < w.heap.size ∧
  ∀ j, j < n → ∃ a' n' c' m', w.cell? ⟨b, off + j * 2, none⟩ = some (.slice a' n' c') ∧ w.cell? ⟨b, off + j * 2 + 1, none⟩ = some (.bool m') ∧ IntAt w a' n' c' m' (f j))
theorem IntsAt.below {w w' : World} {sa : Option Addr} {n c : Nat} {f : Nat → Int} (h : IntsAt w sa n c f) (hb : Below w.heap.size w w') : IntsAt w' sa n c f := by
  obtain ⟨h0, h1, h2⟩ := h
  refine ⟨h0, h1, ?_⟩
  rcases h2 with h2 | ⟨b, off, rfl, hl, hc⟩
  · exact .inl h2
  · refine .inr ⟨b, off, rfl, Nat.lt_of_lt_of_le hl hb.size, fun j hj => ?_⟩
    obtain ⟨a', n', c', m', e1, e2, e3⟩ := hc j hj
    exact ⟨a', n', c', m', (hb.cell (p := ⟨b, _, none⟩) hl).trans e1, (hb.cell (p := ⟨b, _, none⟩) hl).trans e2, e3.below hb⟩
theorem IntsAt.get {w : World} {sa : Option Addr} {n c : Nat} {f : Nat → Int} (h : IntsAt w sa n c f) {j : Nat} (hj : j < n) :
    ∃ b off a' n' c' m', sa = some ⟨b, off, none⟩ ∧ b < w.heap.size ∧ w.cell? ⟨b, off + j * 2, none⟩ = some (.slice a' n' c') ∧ w.cell? ⟨b, off + j * 2 + 1, none⟩ = some (.bool m') ∧ IntAt w a' n' c' m' (f j) := by
  obtain ⟨h0, h1, h2⟩ := h
  rcases h2 with h2 | ⟨b, off, rfl, hl, hc⟩
  · omega
  · obtain ⟨a', n', c', m', e⟩ := hc j hj
    exact ⟨b, off, a', n', c', m', rfl, hl, e⟩

def psum (Z : Int) (f : Nat → Int) : Nat → Int
  | 0 => Z
  | k + 1 => psum Z f k + f k
def asum (f : Nat → Int) : Nat → Nat
  | 0 => 0
  | k + 1 => asum f k + (f k).natAbs
theorem asum_mono (f : Nat → Int) {k n : Nat} (h : k ≤ n) : asum f k ≤ asum f n := by
  induction n with
  | zero => obtain rfl : k = 0 := by omega
            exact Nat.le_refl _
  | succ n ih =>
    rcases Nat.lt_or_ge k (n + 1) with h1 | h1
    · have := ih (by omega); rw [asum]; omega
    · obtain rfl : k = n + 1 := by omega
      exact Nat.le_refl _
theorem psum_abs (Z : Int) (f : Nat → Int) : ∀ k, (psum Z f k).natAbs ≤ Z.natAbs + asum f k
  | 0 => by simp [psum, asum]
  | k + 1 => by have := psum_abs Z f k; rw [psum, asum]; omega
theorem asum_get (f : Nat → Int) {k n : Nat} (h : k < n) : (f k).natAbs ≤ asum f n := by
  have := asum_mono f (show k + 1 ≤ n from h); rw [asum] at this; omega

/-- At the head of a round: the sum so far. -/
def PL (w wr : World) (V : Int) : Prop := Below w.heap.size w wr ∧ RS wr (w.heap.size + 1) ∧ ∃ a n c m, Slot2 wr (w.heap.size + 1 + 1) (.slice a n c) (.bool m) ∧ IntAt wr a n c m V

set_option maxHeartbeats 1600000 in
set_option maxRecDepth 100000 in
theorem plus_any (a : Option Addr) (n c : Nat) (m : Bool) (Z : Int) (sa : Option Addr) (ln lc : Nat) (f : Nat → Int) (w : World) (h : IntAt w a n c m Z) (g : IntsAt w sa ln lc f)
    (K : Nat) (hK : K ≤ 900000) (hb : Z.natAbs + asum f ln < 4294967296 ^ K) :
    Calls Tryd.prog 64 #[.agg #[.slice a n c, .bool m], .slice sa ln lc] w fun e w' => IntTold w w' e (psum Z f ln) := by
  have B0 := (((((Bag.start w).int h).box2 (.slice a n c) (.bool m) 60).box2 (.slice none 0 0) (.bool false) 60)).box2 (.slice a n c) (.bool m) 60
  simp only [World.size_alloc] at B0
  have H0 : Hid (PL w _ (psum Z f 0)) := ⟨B0.below, B0.now.2.1.rs, a, n, c, m, B0.now.1, B0.now.2.2.2.1⟩
  have q0 := B0.now.2.2.1.cell
  have q1 := B0.now.2.2.1.cell1
  have HG := Lib.hid g
  have hln : ln ≤ 1000 ∧ ln ≤ lc := ⟨g.2.1, g.1⟩
  have HB : Hid (∀ k, k < ln → (psum Z f k).natAbs < 4294967296 ^ K ∧ (f k).natAbs < 4294967296 ^ K) := fun k hk => by
    have h1 := psum_abs Z f k
    have h2 := asum_mono f (Nat.le_of_lt hk)
    have h3 := asum_get f hk
    exact ⟨by omega, by omega⟩
  clear B0 h g hb
  go_enter Tryd.func64, Tryd.ntmps64
  go_wp2
  go_loopw [11] (fun i wr => ∃ k : Nat, k ≤ ln ∧ i = .int .i64 k ∧ PL w wr (psum Z f k)) (fun i _ => ln - (intOf i).toNat)
  case atStart => exact ⟨0, by omega, rfl, H0.out⟩
  case round =>
    obtain ⟨k, hk, rfl, hr⟩ := hrel
    by_cases hlt : k < ln
    · obtain ⟨hbl, hrs, a3, n3, c3, m3, hs3, hi3⟩ := hr
      obtain ⟨b, off, a', n', c', m', rfl, hlb, e1, e2, hi'⟩ := (HG.out.below hbl).get hlt
      have B1 := ((((Bag.start wr).int hi3).int hi').slot2 hs3).box2 (.slice a' n' c') (.bool m') 60
      have HBK := HB.out k hlt
      have PO1 := Lib.hid (plusOne_any a3 n3 c3 m3 (psum Z f k) a' n' c' m' (f k) _ B1.now.2.2.2.1 B1.now.2.2.1 K hK HBK.1 HBK.2)
      have HBL := Lib.hid hbl
      have HRS := Lib.hid hrs
      have p0 := B1.now.2.1.cell
      have p1 := B1.now.2.1.cell1
      have BB := Lib.hid B1
      have hwr : w.heap.size ≤ wr.heap.size := hbl.size
      clear hbl hrs hi3 hi' B1 HBK hs3 q0 q1
      go_wp2_with fail
      go_at_call 94
      (with_reducible refine PO1.out.mono ?_)
      rintro e w4 ⟨a5, n5, c5, m5, rfl, hi5, hb5⟩
      have B5 := BB.out.go hb5
      have hs5 := B5.now.2.1
      have hc1 := hs5.cell
      have hc2 := hs5.cell1
      have hf1 := hs5.free
      have hf2 := hs5.free1
      have hb6 := HBL.out.trans (B5.below.mono hwr)
      have HN : Hid (PL w (putI w4 (w.heap.size + 1 + 1) a5 n5 c5 m5) (psum Z f (k + 1))) := by
        refine ⟨(hb6.setCell (show w.heap.size ≤ w.heap.size + 1 + 1 by omega) _).setCell (show w.heap.size ≤ w.heap.size + 1 + 1 by omega) _, ?_, a5, n5, c5, m5, ?_, hi5.put hs5.rs _ _ _ _⟩
        · exact (HRS.out.below B5.below).put _ _ _ _
        · have := hs5.set (.slice a5 n5 c5) (.bool m5)
          exact ⟨this.1, this.2, by simp [putI, hs5.free], by simp [putI, hs5.free1], by simpa [putI] using hs5.lt⟩
      unfold putI at HN
      clear hb5 hi5 B5 hs5 hb6 p0 p1
      go_wp2
      go_roundw
      case rel => exact ⟨k + 1, by omega, by go_num, HN.out⟩
      case measure => simp [intOf]; omega
    · obtain rfl : k = ln := by omega
      obtain ⟨hbl, hrs, a3, n3, c3, m3, hs3, hi3⟩ := hr
      have HE := Lib.hid (IntTold.fin hbl (by omega) hrs hi3)
      have HS := hrs.cells a3 n3 c3 m3
      unfold putI at HS
      have p0 := hs3.cell
      have p1 := hs3.cell1
      obtain ⟨x8, b8, hs8, _⟩ := hrs
      have hc1 := hs8.cell
      have hc2 := hs8.cell1
      have hf1 := hs8.free
      have hf2 := hs8.free1
      clear hs8 hs3 hi3 hbl q0 q1
      go_wp2
      exact bodyPost_ret (v := _) (by simp [results, Tryd.results64, go_sem, HS]) rfl HE.out

end Go.Proofs.YtkjdoknmmiaapaaDoor
