/-
  Package whole: Times, by contract.
-/
import Derived.Test.YthklcdcikmninaaGreatDoorK7
namespace Go.Proofs.YthklcdcikmninaaGreatDoor
open Go.RowKit
attribute [local go_sem ↓] Go.wp_at_zero Go.wp_at_succ

def pprod (Z : Int) (f : Nat → Int) : Nat → Int
  | 0 => Z
  | k + 1 => pprod Z f k * f k

theorem sgn_mul (Z Y : Int) : sgn (decide (Z < 0) != decide (Y < 0)) (Z.natAbs * Y.natAbs) = Z * Y := by
  by_cases hz : Z < 0
  · obtain ⟨x, rfl⟩ : ∃ x : Nat, Z = -(x : Int) := ⟨Z.natAbs, by omega⟩
    by_cases hy : Y < 0
    · obtain ⟨y, rfl⟩ : ∃ y : Nat, Y = -(y : Int) := ⟨Y.natAbs, by omega⟩
      rw [decide_eq_true hz, decide_eq_true hy]
      simp [sgn, Int.neg_mul_neg]
    · obtain ⟨y, rfl⟩ : ∃ y : Nat, Y = (y : Int) := ⟨Y.natAbs, by omega⟩
      rw [decide_eq_true hz, decide_eq_false hy]
      simp [sgn, Int.neg_mul]
  · obtain ⟨x, rfl⟩ : ∃ x : Nat, Z = (x : Int) := ⟨Z.natAbs, by omega⟩
    by_cases hy : Y < 0
    · obtain ⟨y, rfl⟩ : ∃ y : Nat, Y = -(y : Int) := ⟨Y.natAbs, by omega⟩
      rw [decide_eq_false hz, decide_eq_true hy]
      simp [sgn, Int.mul_neg]
    · obtain ⟨y, rfl⟩ : ∃ y : Nat, Y = (y : Int) := ⟨Y.natAbs, by omega⟩
      rw [decide_eq_false hz, decide_eq_false hy]
      simp [sgn]

/-- Within a round of Times: the product's block (k2), the factor's (k7), the answer's (k1). -/
def TP (k1 k2 k7 : Nat) (a : Option Addr) (n c : Nat) (m : Bool) (Z : Int) (a2 : Option Addr) (n2 c2 : Nat) (m2 : Bool) (Y : Int) (y : World) : Prop :=
  RS y k2 ∧ RS y k1 ∧ IntAt y a n c m Z ∧ IntAt y a2 n2 c2 m2 Y ∧ Slot2 y k7 (.slice a2 n2 c2) (.bool m2)
theorem TP.stay {k1 k2 k7 : Nat} {a : Option Addr} {n c : Nat} {m : Bool} {Z : Int} {a2 : Option Addr} {n2 c2 : Nat} {m2 : Bool} {Y : Int} : ∀ x y, Below x.heap.size x y → TP k1 k2 k7 a n c m Z a2 n2 c2 m2 Y x → TP k1 k2 k7 a n c m Z a2 n2 c2 m2 Y y :=
  fun _ _ hb h => ⟨h.1.below hb, h.2.1.below hb, h.2.2.1.below hb, h.2.2.2.1.below hb, h.2.2.2.2.below hb⟩
theorem TP.put {k1 k2 k7 : Nat} {a : Option Addr} {n c : Nat} {m : Bool} {Z : Int} {a2 : Option Addr} {n2 c2 : Nat} {m2 : Bool} {Y : Int} {y : World} (h : TP k1 k2 k7 a n c m Z a2 n2 c2 m2 Y y) (hk : k7 ≠ k2) (a3 : Option Addr) (n3 c3 : Nat) (b : Bool) : TP k1 k2 k7 a n c m Z a2 n2 c2 m2 Y (putI y k2 a3 n3 c3 b) :=
  ⟨h.1.put _ _ _ _, h.2.1.put _ _ _ _, h.2.2.1.put h.1 _ _ _ _, h.2.2.2.1.put h.1 _ _ _ _, h.2.2.2.2.put hk _ _ _ _⟩

theorem slot2_putI {w : World} {k : Nat} {x y : Value} (h : Slot2 w k x y) (a : Option Addr) (n c : Nat) (b : Bool) : Slot2 (putI w k a n c b) k (.slice a n c) (.bool b) :=
  ⟨(h.set _ _).1, (h.set _ _).2, by simp [putI, h.free], by simp [putI, h.free1], by simpa [putI] using h.lt⟩

set_option maxHeartbeats 3200000 in
set_option maxRecDepth 100000 in
theorem times_any (a : Option Addr) (n c : Nat) (m : Bool) (Z : Int) (sa : Option Addr) (ln lc : Nat) (f : Nat → Int) (w : World) (h : IntAt w a n c m Z) (g : IntsAt w sa ln lc f)
    (K : Nat) (hK : K ≤ 400000) (hb : ∀ k, k < ln → (pprod Z f k).natAbs < 4294967296 ^ K ∧ (f k).natAbs < 4294967296 ^ K) :
    Calls Tryz.prog 21 #[.agg #[.slice a n c, .bool m], .slice sa ln lc] w fun e w' => IntTold w w' e (pprod Z f ln) := by
  have B0 := (((((Bag.start w).int h).box2 (.slice a n c) (.bool m) 28).box2 (.slice none 0 0) (.bool false) 28)).box2 (.slice a n c) (.bool m) 28
  simp only [World.size_alloc] at B0
  have H0 : Hid (PL w _ (pprod Z f 0)) := ⟨B0.below, B0.now.2.1.rs, a, n, c, m, B0.now.1, B0.now.2.2.2.1⟩
  have q0 := B0.now.2.2.1.cell
  have q1 := B0.now.2.2.1.cell1
  have HG := Lib.hid g
  have hln : ln ≤ 1000 ∧ ln ≤ lc := ⟨g.2.1, g.1⟩
  have HB := Lib.hid hb
  clear B0 h g hb
  go_enter Tryz.func21, Tryz.ntmps21
  go_wp2
  go_loopw [11] (fun i wr => ∃ k : Nat, k ≤ ln ∧ i = .int .i64 k ∧ PL w wr (pprod Z f k)) (fun i _ => ln - (intOf i).toNat)
  case atStart => exact ⟨0, by omega, rfl, H0.out⟩
  case round =>
    obtain ⟨k, hk, rfl, hr⟩ := hrel
    by_cases hlt : k < ln
    · obtain ⟨hbl, hrs, a3, n3, c3, m3, hs3, hi3⟩ := hr
      obtain ⟨b, off, a', n', c', m', rfl, hlb, e1, e2, hi'⟩ := (HG.out.below hbl).get hlt
      have hwr : w.heap.size ≤ wr.heap.size := hbl.size
      have hw2 : w.heap.size + 1 + 1 < wr.heap.size := hs3.lt
      have hm3 := hi3.1
      have hm' := hi'.1
      have HBK := HB.out k hlt
      obtain ⟨ZZ, hZZ⟩ : ∃ ZZ, pprod Z f k = ZZ := ⟨_, rfl⟩
      obtain ⟨YY, hYY⟩ : ∃ YY, f k = YY := ⟨_, rfl⟩
      have hnext : pprod Z f (k + 1) = ZZ * YY := by rw [pprod, hZZ, hYY]
      rw [hZZ] at hi3 HBK hm3
      rw [hYY] at hi' HBK hm'
      have B1 : Bag w (TP (w.heap.size + 1) (w.heap.size + 1 + 1) wr.heap.size a3 n3 c3 m3 ZZ a' n' c' m' YY) (wr.alloc (.cells #[.slice a' n' c', .bool m'] 28)) := by
        have B1 := ((((Bag.start wr).int hi3).int hi').slot2 hs3).box2 (.slice a' n' c') (.bool m') 28
        exact ⟨hbl.trans (B1.below.mono hwr), TP.stay, B1.now.2.1.rs, hrs.below B1.below, B1.now.2.2.2.1, B1.now.2.2.1, B1.now.1⟩
      have N1 : Hid (∀ wz, TP (w.heap.size + 1) (w.heap.size + 1 + 1) wr.heap.size a3 n3 c3 m3 ZZ a' n' c' m' YY wz → Calls Tryz.prog 37 #[.agg #[.slice a3 n3 c3, .bool m3]] wz fun e w' => e = .returned (.bool m3) ∧ Below wz.heap.size wz w') := fun wz hz => neg_any a3 n3 c3 m3 ZZ wz hz.2.2.1
      have N2 : Hid (∀ wz, TP (w.heap.size + 1) (w.heap.size + 1 + 1) wr.heap.size a3 n3 c3 m3 ZZ a' n' c' m' YY wz → Calls Tryz.prog 37 #[.agg #[.slice a' n' c', .bool m']] wz fun e w' => e = .returned (.bool m') ∧ Below wz.heap.size wz w') := fun wz hz => neg_any a' n' c' m' YY wz hz.2.2.2.1
      have MU : Hid (∀ wz, TP (w.heap.size + 1) (w.heap.size + 1 + 1) wr.heap.size a3 n3 c3 m3 ZZ a' n' c' m' YY wz → Calls Tryz.prog 23 #[.agg #[.slice a3 n3 c3], .agg #[.slice a' n' c']] wz fun e w' => NatOf3 wz w' e (ZZ.natAbs * YY.natAbs)) := fun wz hz => (mul_any _ _ _ _ wz hz.2.2.1.2 hz.2.2.2.1.2 K hK HBK.1 HBK.2).mono fun _ _ h => h.three
      have OF : Hid (∀ a4 n4 c4 wz, NatIs wz (.agg #[.slice a4 n4 c4]) (ZZ.natAbs * YY.natAbs) → Calls Tryz.prog 36 #[.bool (!(m3 == m')), .agg #[.slice a4 n4 c4]] wz fun e w' => IntTold wz w' e (ZZ * YY)) := by
        intro a4 n4 c4 wz hi
        have := wof_any (m3 != m') a4 n4 c4 _ wz hi
        rw [hm3, hm', sgn_mul] at this
        rw [hm3, hm']; exact this
      have HBL := Lib.hid hbl
      have HRS := Lib.hid hrs
      have HNX := Lib.hid hnext
      have BB := Lib.hid B1.drew
      have SS : Hid (Slot2 (wr.alloc (.cells #[.slice a' n' c', .bool m'] 28)).drew (w.heap.size + 1 + 1) (.slice a3 n3 c3) (.bool m3)) := hs3.below (((Below.refl _ _).alloc (Nat.le_refl _) _).drew)
      have p2 := SS.out.cell
      have p3 := SS.out.cell1
      obtain ⟨mm, hmm⟩ : ∃ mm, (!(m3 == m')) = mm := ⟨_, rfl⟩
      rw [hmm] at OF
      clear hbl hrs hi3 hi' B1 HBK hs3 q0 q1 hZZ hYY hnext hm3 hm'
      go_wp2_with fail
      have p0 := BB.out.now.2.2.2.2.cell
      have p1 := BB.out.now.2.2.2.2.cell1
      go_region_with (first
          | (go_at_call 37; (with_reducible refine (N1.out _ BB.out.now).mono ?_); rintro e w2 ⟨rfl, hb2⟩; have BB := Lib.hid (BB.out.go hb2); have SS := Lib.hid (SS.out.below hb2); have p0 := BB.out.now.2.2.2.2.cell; have p1 := BB.out.now.2.2.2.2.cell1; have p2 := SS.out.cell; have p3 := SS.out.cell1; clear hb2)
          | (go_at_call 37; (with_reducible refine (N2.out _ BB.out.now).mono ?_); rintro e w2 ⟨rfl, hb2⟩; have BB := Lib.hid (BB.out.go hb2); have SS := Lib.hid (SS.out.below hb2); have p0 := BB.out.now.2.2.2.2.cell; have p1 := BB.out.now.2.2.2.2.cell1; have p2 := SS.out.cell; have p3 := SS.out.cell1; clear hb2)
          | (go_at_call 23; (with_reducible refine (MU.out _ BB.out.now).mono ?_); rintro e w2 ⟨a4, n4, c4, rfl, hi4, hb2⟩; have BB := Lib.hid (BB.out.go hb2); have SS := Lib.hid (SS.out.below hb2); have p0 := BB.out.now.2.2.2.2.cell; have p1 := BB.out.now.2.2.2.2.cell1; have p2 := SS.out.cell; have p3 := SS.out.cell1; clear hb2)
          | (go_at_call 36; (with_reducible refine (OF.out a4 n4 c4 _ hi4).mono ?_); rintro e w2 ⟨a5, n5, c5, m5, rfl, hi5, hb2⟩; have B7 := Bag.go BB.out hb2; have hs5 := SS.out.below hb2; have hc1 := hs5.cell; have hc2 := hs5.cell1; have hf1 := hs5.free; have hf2 := hs5.free1; have HN : Hid (PL w (putI w2 (w.heap.size + 1 + 1) a5 n5 c5 m5) (pprod Z f (k + 1))) := ⟨(B7.below.setCell (show w.heap.size ≤ w.heap.size + 1 + 1 by omega) _).setCell (show w.heap.size ≤ w.heap.size + 1 + 1 by omega) _, B7.now.2.1.put _ _ _ _, a5, n5, c5, m5, slot2_putI hs5 _ _ _ _, by rw [HNX.out]; exact hi5.put B7.now.1 _ _ _ _⟩; unfold putI at HN; clear B7))
      all_goals
        go_wp2
        go_roundw
        case rel => exact ⟨k + 1, by omega, by go_num, HN.out⟩
        case measure => simp [intOf]; omega
    · obtain rfl : k = ln := by omega
      obtain ⟨hbl, hrs, a3, n3, c3, m3, hs3, hi3⟩ := hr
      have HE := Lib.hid (IntTold.fin hbl (by omega) hrs hi3)
      have HS := hrs.cells a3 n3 c3 m3
      unfold putI at HS
      have p0 := hs3.cell
      have p1 := hs3.cell1
      obtain ⟨x8, b8, hs8, _⟩ := hrs
      have hc1 := hs8.cell
      have hc2 := hs8.cell1
      have hf1 := hs8.free
      have hf2 := hs8.free1
      clear hs8 hs3 hi3 hbl q0 q1
      go_wp2
      exact bodyPost_ret (v := _) (by simp [results, Tryz.results21, go_sem, HS]) rfl HE.out

end Go.Proofs.YthklcdcikmninaaGreatDoor
