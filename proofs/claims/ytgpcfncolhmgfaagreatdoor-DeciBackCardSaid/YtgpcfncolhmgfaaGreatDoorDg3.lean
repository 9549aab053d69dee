/-
  Package deci: valueOf, by contract.
-/
import Derived.Test.YtgpcfncolhmgfaaGreatDoorDe0
import Derived.Test.YtgpcfncolhmgfaaGreatDoorInv
import Derived.Test.YtgpcfncolhmgfaaGreatDoorRa9
import Derived.Test.YtgpcfncolhmgfaaGreatDoorK3
namespace Go.Proofs.YtgpcfncolhmgfaaGreatDoor
open Go.RowKit
attribute [local go_sem ↓] Go.wp_at_zero Go.wp_at_succ

/-- The value of digits, a sign, and an exponent. -/
def vlT (neg : Bool) (l : List UInt8) (e : Int) : Int := sgn neg (numOf l * 10 ^ e.toNat)
def vlB (e : Int) : Int := ((10 ^ (-e).toNat : Nat) : Int)

theorem IntAt.setS3 {w : World} {k : Nat} {a0 : Option Addr} {n0 c0 : Nat} {m0 : Bool} {a1 : Option Addr} {n1 c1 : Nat} {a : Option Addr} {n c : Nat} {m : Bool} {Z : Int} (q : IntAt w a n c m Z)
    (h : Slot3 w k (.slice a0 n0 c0) (.bool m0) (.slice a1 n1 c1)) (u v t : Value) : IntAt (((w.setCell ⟨k, 0, none⟩ u).setCell ⟨k, 1, none⟩ v).setCell ⟨k, 2, none⟩ t) a n c m Z :=
  ⟨q.1, q.2.set3 h (fun _ _ h => by cases h) (fun _ _ h => by cases h) (fun _ _ h => by cases h) _ _ _⟩

set_option linter.unusedSimpArgs false in
set_option maxHeartbeats 6400000 in
set_option maxRecDepth 100000 in
theorem valueOf_any (neg : Bool) (l : List UInt8) (e : Int) (w : World) (h0 : 0 < l.length) (h1 : l.length ≤ 200) (h2 : ∀ x ∈ l, 48 ≤ x.toNat ∧ x.toNat ≤ 57) (he : e ≤ 1000 ∧ -1200 ≤ e) :
    Calls Tryz.prog 19 #[.bool neg, .string (str l), .int .i64 e] w fun x w' => RatTold w w' x (nwP (vlT neg l e) (vlB e)) (nwQ (vlT neg l e) (vlB e)) := by
  have PA : ∀ wz, Calls Tryz.prog 45 #[.string (str l)] wz fun x w' => ∃ a n c, x = .returned (.tuple #[.agg #[.slice a n c], .bool true]) ∧ NatIs w' (.agg #[.slice a n c]) (numOf l) ∧ Below wz.heap.size wz w' := fun wz => by
    have hok : okB (str l).data.toList = true := by rw [str_toList]; exact okB_mk h0 (by omega) h2
    refine (parse_any (str l) wz (by unfold maxLen; rw [str_size]; omega)).mono ?_
    rintro x w' ⟨a, n, c, rfl, hv, _, hb⟩
    rw [hok, if_pos rfl, str_toList] at hv
    exact ⟨a, n, c, by rw [hok], hv, hb⟩
  have PA := Lib.hid PA
  have hN : numOf l < 10 ^ 200 := Nat.lt_of_lt_of_le (numOf_lt l h2) (Nat.pow_le_pow_right (by omega) h1)
  obtain ⟨K2, hK2⟩ : ∃ K : Nat, K = 200 := ⟨_, rfl⟩
  have hN2 : numOf l < 4294967296 ^ K2 := Nat.lt_trans hN (ten_lt 200 K2 (by omega) (by omega))
  have l1 : 10 ^ e.toNat < 4294967296 ^ K2 := ten_lt e.toNat K2 (by omega) (by omega)
  have l2 : 10 ^ (-e).toNat < 4294967296 ^ K2 := ten_lt (-e).toNat K2 (by omega) (by omega)
  have l3 : numOf l * 10 ^ e.toNat < 4294967296 ^ (K2 + K2) := mul_ltD hN2 l1
  have l4 : 10 ^ (-e).toNat < 4294967296 ^ (K2 + K2) := Nat.lt_of_lt_of_le l2 (Nat.pow_le_pow_right (by omega) (by omega))
  have hp : 0 < 10 ^ (-e).toNat := Nat.pow_pos (by omega)
  have hw1 := IntWalk.i64_in (-e) (by omega)
  have T1 := Lib.hid (fun wz => tenTo_any e wz (by omega) (by omega))
  have T2 := Lib.hid (fun wz => tenTo_any (-e) wz (by omega) (by omega))
  have ML := Lib.hid (fun v u wz (h : NatIs wz v (numOf l)) (g : NatIs wz u (10 ^ e.toNat)) => (mul_any v u (numOf l) (10 ^ e.toNat) wz h g K2 (by omega) hN2 l1).mono fun x w' ho => NatOut.told ho)
  have W1 := Lib.hid (fun a n c wz (h : NatIs wz (.agg #[.slice a n c]) (numOf l * 10 ^ e.toNat)) => wof_any neg a n c _ wz h)
  have W2 := Lib.hid (fun a n c wz (h : NatIs wz (.agg #[.slice a n c]) (10 ^ (-e).toNat)) => wof_any false a n c _ wz h)
  have NW := Lib.hid (fun a n c m a2 n2 c2 m2 wz (h : IntAt wz a n c m (vlT neg l e)) (g : IntAt wz a2 n2 c2 m2 (vlB e)) => new_some a n c m (vlT neg l e) a2 n2 c2 m2 (vlB e) wz h g (by unfold vlB; omega) (K2 + K2) (by omega) (by unfold vlT; rw [sgn_abs]; exact l3) (by unfold vlB; rw [Int.natAbs_natCast]; exact l4))
  rw [show sgn neg (numOf l * 10 ^ e.toNat) = vlT neg l e from rfl] at W1
  rw [show sgn false (10 ^ (-e).toNat) = vlB e from rfl] at W2
  unfold NatTold at T1 T2 ML
  unfold IntTold at W1 W2
  unfold RatTold3 at NW
  clear hN hN2 l1 l2 l3 l4 hp h0 h1 h2
  generalize vlT neg l e = X at *
  generalize vlB e = Y at *
  generalize numOf l * 10 ^ e.toNat = NX at *
  generalize numOf l = N at *
  generalize 10 ^ e.toNat = D1 at *
  generalize 10 ^ (-e).toNat = D2 at *
  generalize nwP X Y = P at *
  generalize nwQ X Y = Q at *
  generalize str l = s at *
  have BB := Lib.hid ((Bag.start w).box3 (.slice none 0 0) (.bool false) (.slice none 0 0) 30)
  go_enter Tryz.func19, Tryz.ntmps19
  go_wp2_with fail
  go_at_call 45
  refine (PA.out _).mono ?_
  rintro x w2 ⟨a, n, c, rfl, hv, hb⟩
  have B1 := Lib.hid (((BB.out.go hb).nat hv).box (.slice none 0 0) 26)
  have B2 := Lib.hid (((BB.out.go hb).nat hv).box (.slice a n c) 26)
  have hsz := hb.size
  simp only [World.size_alloc] at hsz
  have HSZ := Lib.hid hsz
  have q0 := B1.out.now.1.cell
  have q1 := B1.out.now.1.free
  clear hb hv hsz B1 BB PA
  go_wp2_with fail
  generalize w2.alloc (.cells #[.slice a n c] 26) = w3 at *
  have hk7 : w.heap.size < w2.heap.size := HSZ.out
  generalize w2.heap.size = k7 at *
  clear q0 q1 HSZ
  have HP : Hid (∀ (y : World) (k : Nat) {x0 : Option Addr} {y0 z0 : Nat} {b0 : Bool}, Slot2 y k (.slice x0 y0 z0) (.bool b0) → k7 < k → Bag w (fun y => Slot y k7 (.slice a n c) ∧ NatIs y (.agg #[.slice a n c]) N ∧ Slot3 y w.heap.size (.slice none 0 0) (.bool false) (.slice none 0 0) ∧ True) y → ∀ (a9 : Option Addr) (n9 c9 : Nat) (m9 : Bool), Bag w (fun y => Slot y k7 (.slice a n c) ∧ NatIs y (.agg #[.slice a n c]) N ∧ Slot3 y w.heap.size (.slice none 0 0) (.bool false) (.slice none 0 0) ∧ True) ((y.setCell ⟨k, 0, none⟩ (.slice a9 n9 c9)).setCell ⟨k, 1, none⟩ (.bool m9))) := by
    intro y k x0 y0 z0 b0 s hk B a9 n9 c9 m9
    have q := B.now
    exact ⟨(B.below.setCell (p := ⟨k, 0, none⟩) (show w.heap.size ≤ k by omega) _).setCell (p := ⟨k, 1, none⟩) (show w.heap.size ≤ k by omega) _, B.stay, ⟨(World.cell?_setCell_other _ _ _ _ (fun e => by injection e; omega)).trans ((World.cell?_setCell_other _ _ _ _ (fun e => by injection e; omega)).trans q.1.cell), by simpa using q.1.free, by simpa using q.1.lt⟩, q.2.1.set2b s (fun _ _ h => by cases h) (fun _ _ h => by cases h) _ _, q.2.2.1.set2o (by omega) _ _, trivial⟩
  refine wp_region_inv2 ⟨(fun j => ([[17], [18], [19], [20], [21], [22], [9], [9]] : List (List Nat)).getD j []), (fun j => ([[], [], [], [2], [1, 2, 3], [0, 1, 2, 3, 4], [], [0, 1, 2, 3, 4, 5, 6]] : List (List Nat)).getD j []), [6]⟩ (fun jj vv yy => match jj with | 0 => vv = [some (.bool neg)] | 1 => vv = [some (.agg #[.slice a n c])] | 2 => vv = [some (.int .i64 e)] | 3 => ∃ (x3 : Option Addr), ∃ (n3 : Nat), ∃ (c3 : Nat), vv = [some (.agg #[.slice x3 n3 c3])] ∧ NatIs yy (.agg #[.slice x3 n3 c3]) D1 | 4 => ∃ (x4 : Option Addr), ∃ (n4 : Nat), ∃ (c4 : Nat), vv = [some (.agg #[.slice x4 n4 c4])] ∧ NatIs yy (.agg #[.slice x4 n4 c4]) NX | 5 => ∃ (x5 : Option Addr), ∃ (n5 : Nat), ∃ (c5 : Nat), ∃ (m5 : Bool), vv = [some (.agg #[.slice x5 n5 c5, .bool m5])] ∧ IntAt yy x5 n5 c5 m5 X | 6 => ∃ (k6 : Nat), ∃ (x0 : Option Addr), ∃ (y0 : Nat), ∃ (z0 : Nat), ∃ (b0 : Bool), vv = [some (.pointer (some ⟨k6, 0, none⟩))] ∧ Slot2 yy k6 (.slice x0 y0 z0) (.bool b0) ∧ k7 < k6 | 7 => ∃ (k6 : Nat), ∃ (x5 : Option Addr), ∃ (n5 : Nat), ∃ (c5 : Nat), ∃ (m5 : Bool), vv = [some (.pointer (some ⟨k6, 0, none⟩))] ∧ Slot2 yy k6 (.slice x5 n5 c5) (.bool m5) ∧ IntAt yy x5 n5 c5 m5 X | _ => True) (Bag w (fun y => Slot y k7 (.slice a n c) ∧ NatIs y (.agg #[.slice a n c]) N ∧ Slot3 y w.heap.size (.slice none 0 0) (.bool false) (.slice none 0 0) ∧ True)) (by kernel_rfl) (by kernel_rfl) (by kernel_rfl) B2.out.drew ?_ ?_ ?_
  · intro jj vv yw yw2 hb h
    match jj, h with
    | 0, h => exact h
    | 1, h => exact h
    | 2, h => exact h
    | 3, ⟨x3, n3, c3, e3, g3_0⟩ => exact Exists.intro x3 (Exists.intro n3 (Exists.intro c3 (And.intro e3 (g3_0.below hb))))
    | 4, ⟨x4, n4, c4, e4, g4_0⟩ => exact Exists.intro x4 (Exists.intro n4 (Exists.intro c4 (And.intro e4 (g4_0.below hb))))
    | 5, ⟨x5, n5, c5, m5, e5, g5_0⟩ => exact Exists.intro x5 (Exists.intro n5 (Exists.intro c5 (Exists.intro m5 (And.intro e5 (g5_0.below hb)))))
    | 6, ⟨k6, x0, y0, z0, b0, e6, g6_0, g6_1⟩ => exact Exists.intro k6 (Exists.intro x0 (Exists.intro y0 (Exists.intro z0 (Exists.intro b0 (And.intro e6 (And.intro (g6_0.below hb) g6_1))))))
    | 7, ⟨k6, x5, n5, c5, m5, e7, g7_0, g7_1⟩ => exact Exists.intro k6 (Exists.intro x5 (Exists.intro n5 (Exists.intro c5 (Exists.intro m5 (And.intro e7 (And.intro (g7_0.below hb) (g7_1.below hb)))))))
    | _ + 8, h => exact h
  · intro ac yw hsz hdf hold hB hp
    obtain ⟨k9, xt, nt, ct, mt, e7, sA, iA⟩ := hp 7 (by decide)
    have t9 : ac.tmps[9]? = some (.pointer (some ⟨k9, 0, none⟩)) := (List.cons.inj e7).1
    obtain ⟨kz, _, _, _, _, e6, _, hk9⟩ := hp 6 (by decide)
    obtain rfl : kz = k9 := by have := (List.cons.inj e6).1.symm.trans (List.cons.inj e7).1; cases this; rfl
    have t0 : ac.tmps[0]? = some (.bool neg) := hold 0 (by kernel_rfl)
    have t2 : ac.tmps[2]? = some (.int .i64 e) := hold 2 (by kernel_rfl)
    have t6 : ac.tmps[6]? = some (.pointer (some ⟨w.heap.size, 0, none⟩)) := hold 6 (by kernel_rfl)
    clear hold hp e7 e6
    obtain ⟨TV, hTV⟩ : ∃ TV : Nat → Value, ∀ i, (ac.tmps[i]?).getD undef = TV i := ⟨_, fun _ => rfl⟩
    have f0 := (hTV 0).symm.trans (congrArg (fun x => Option.getD x undef) t0)
    have f2 := (hTV 2).symm.trans (congrArg (fun x => Option.getD x undef) t2)
    have f6 := (hTV 6).symm.trans (congrArg (fun x => Option.getD x undef) t6)
    have f9 := (hTV 9).symm.trans (congrArg (fun x => Option.getD x undef) t9)
    have hac := act_eq (n := 33) hsz TV hTV
    rw [show ((List.range 33).map TV).toArray = #[TV 0, TV 1, TV 2, TV 3, TV 4, TV 5, TV 6, TV 7, TV 8, TV 9, TV 10, TV 11, TV 12, TV 13, TV 14, TV 15, TV 16, TV 17, TV 18, TV 19, TV 20, TV 21, TV 22, TV 23, TV 24, TV 25, TV 26, TV 27, TV 28, TV 29, TV 30, TV 31, TV 32] from rfl, f0, f2, f6, f9, hdf] at hac
    simp only [Option.getD_some] at hac
    subst hac
    clear hTV f0 f2 f6 f9
    have B3 : Bag w (fun _ => True) yw := ⟨hB.below, fun _ _ _ _ => trivial, trivial⟩
    have B3 := Lib.hid (((B3.slot3 hB.now.2.2.1).int iA).slot2 sA)
    clear hB B2 HP ML T1 W1 t0 t2 t6 t9 iA sA
    go_wp2_with fail
    have HP : Hid (∀ (y : World) (k : Nat) {x0 : Option Addr} {y0 z0 : Nat} {b0 : Bool} {x1 : Option Addr} {y1 z1 : Nat}, Slot3 y k (.slice x0 y0 z0) (.bool b0) (.slice x1 y1 z1) → kz < k → Bag w (fun y => Slot2 y kz (.slice xt nt ct) (.bool mt) ∧ IntAt y xt nt ct mt X ∧ Slot3 y w.heap.size (.slice none 0 0) (.bool false) (.slice none 0 0) ∧ True) y → ∀ (a9 : Option Addr) (n9 c9 : Nat) (m9 : Bool) (a8 : Option Addr) (n8 c8 : Nat), Bag w (fun y => Slot2 y kz (.slice xt nt ct) (.bool mt) ∧ IntAt y xt nt ct mt X ∧ Slot3 y w.heap.size (.slice none 0 0) (.bool false) (.slice none 0 0) ∧ True) (((y.setCell ⟨k, 0, none⟩ (.slice a9 n9 c9)).setCell ⟨k, 1, none⟩ (.bool m9)).setCell ⟨k, 2, none⟩ (.slice a8 n8 c8))) := by
      intro y k x0 y0 z0 b0 x1 y1 z1 s hk B a9 n9 c9 m9 a8 n8 c8
      have q := B.now
      exact ⟨((B.below.setCell (p := ⟨k, 0, none⟩) (show w.heap.size ≤ k by omega) _).setCell (p := ⟨k, 1, none⟩) (show w.heap.size ≤ k by omega) _).setCell (p := ⟨k, 2, none⟩) (show w.heap.size ≤ k by omega) _, B.stay, q.1.set3o (by omega) _ _ _, q.2.1.setS3 s _ _ _, q.2.2.1.set3o (by omega) _ _ _, trivial⟩
    refine wp_region_inv2 ⟨(fun j => ([[24], [25], [26], [27], [28], [29], [23], [30], [31], [10], [10], [11]] : List (List Nat)).getD j []), (fun j => ([[], [], [1], [1, 2], [1, 2, 3], [0, 1, 2, 3, 4], [0, 1, 2, 3, 4, 5], [0, 1, 2, 3, 4, 5, 6], [0, 1, 2, 3, 4, 5, 6], [], [0, 1, 2, 3, 4, 5, 6, 7, 9], [0, 1, 2, 3, 4, 5, 6, 7, 8, 9, 10]] : List (List Nat)).getD j []), [9]⟩ (fun jj vv yy => match jj with | 0 => vv = [some (.agg #[.slice xt nt ct, .bool mt])] | 1 => vv = [some (.int .i64 e)] | 2 => vv = [some (.int .i64 (-e))] | 3 => ∃ (x3 : Option Addr), ∃ (n3 : Nat), ∃ (c3 : Nat), vv = [some (.agg #[.slice x3 n3 c3])] ∧ NatIs yy (.agg #[.slice x3 n3 c3]) D2 | 4 => ∃ (x4 : Option Addr), ∃ (n4 : Nat), ∃ (c4 : Nat), ∃ (m4 : Bool), vv = [some (.agg #[.slice x4 n4 c4, .bool m4])] ∧ IntAt yy x4 n4 c4 m4 Y | 5 => ∃ (x5 : Option Addr), ∃ (n5 : Nat), ∃ (c5 : Nat), ∃ (m5 : Bool), ∃ (x6 : Option Addr), ∃ (n6 : Nat), ∃ (c6 : Nat), vv = [some (.tuple #[.agg #[.slice x5 n5 c5, .bool m5, .slice x6 n6 c6], .bool true])] ∧ RatAt yy x5 n5 c5 m5 x6 n6 c6 P Q | 6 => ∃ (x5 : Option Addr), ∃ (n5 : Nat), ∃ (c5 : Nat), ∃ (m5 : Bool), ∃ (x6 : Option Addr), ∃ (n6 : Nat), ∃ (c6 : Nat), vv = [some (.tuple #[.agg #[.slice x5 n5 c5, .bool m5, .slice x6 n6 c6], .bool true])] ∧ RatAt yy x5 n5 c5 m5 x6 n6 c6 P Q | 7 => ∃ (x5 : Option Addr), ∃ (n5 : Nat), ∃ (c5 : Nat), ∃ (m5 : Bool), ∃ (x6 : Option Addr), ∃ (n6 : Nat), ∃ (c6 : Nat), vv = [some (.agg #[.slice x5 n5 c5, .bool m5, .slice x6 n6 c6])] ∧ RatAt yy x5 n5 c5 m5 x6 n6 c6 P Q | 8 => vv = [some (.bool true)] | 9 => ∃ (k9 : Nat), ∃ (x0 : Option Addr), ∃ (y0 : Nat), ∃ (z0 : Nat), ∃ (b0 : Bool), ∃ (x1 : Option Addr), ∃ (y1 : Nat), ∃ (z1 : Nat), vv = [some (.pointer (some ⟨k9, 0, none⟩))] ∧ Slot3 yy k9 (.slice x0 y0 z0) (.bool b0) (.slice x1 y1 z1) ∧ kz < k9 | 10 => ∃ (k9 : Nat), ∃ (x5 : Option Addr), ∃ (n5 : Nat), ∃ (c5 : Nat), ∃ (m5 : Bool), ∃ (x6 : Option Addr), ∃ (n6 : Nat), ∃ (c6 : Nat), vv = [some (.pointer (some ⟨k9, 0, none⟩))] ∧ Slot3 yy k9 (.slice x5 n5 c5) (.bool m5) (.slice x6 n6 c6) ∧ RatAt yy x5 n5 c5 m5 x6 n6 c6 P Q | 11 => vv = [some (.bool true)] | _ => True) (Bag w (fun y => Slot2 y kz (.slice xt nt ct) (.bool mt) ∧ IntAt y xt nt ct mt X ∧ Slot3 y w.heap.size (.slice none 0 0) (.bool false) (.slice none 0 0) ∧ True)) (by kernel_rfl) (by kernel_rfl) (by kernel_rfl) B3.out.drew ?_ ?_ ?_
    · intro jj vv yw yw2 hb h
      match jj, h with
      | 0, h => exact h
      | 1, h => exact h
      | 2, h => exact h
      | 3, ⟨x3, n3, c3, e3, g3_0⟩ => exact Exists.intro x3 (Exists.intro n3 (Exists.intro c3 (And.intro e3 (g3_0.below hb))))
      | 4, ⟨x4, n4, c4, m4, e4, g4_0⟩ => exact Exists.intro x4 (Exists.intro n4 (Exists.intro c4 (Exists.intro m4 (And.intro e4 (g4_0.below hb)))))
      | 5, ⟨x5, n5, c5, m5, x6, n6, c6, e5, g5_0⟩ => exact Exists.intro x5 (Exists.intro n5 (Exists.intro c5 (Exists.intro m5 (Exists.intro x6 (Exists.intro n6 (Exists.intro c6 (And.intro e5 (g5_0.below hb))))))))
      | 6, ⟨x5, n5, c5, m5, x6, n6, c6, e6, g6_0⟩ => exact Exists.intro x5 (Exists.intro n5 (Exists.intro c5 (Exists.intro m5 (Exists.intro x6 (Exists.intro n6 (Exists.intro c6 (And.intro e6 (g6_0.below hb))))))))
      | 7, ⟨x5, n5, c5, m5, x6, n6, c6, e7, g7_0⟩ => exact Exists.intro x5 (Exists.intro n5 (Exists.intro c5 (Exists.intro m5 (Exists.intro x6 (Exists.intro n6 (Exists.intro c6 (And.intro e7 (g7_0.below hb))))))))
      | 8, h => exact h
      | 9, ⟨k9, x0, y0, z0, b0, x1, y1, z1, e9, g9_0, g9_1⟩ => exact Exists.intro k9 (Exists.intro x0 (Exists.intro y0 (Exists.intro z0 (Exists.intro b0 (Exists.intro x1 (Exists.intro y1 (Exists.intro z1 (And.intro e9 (And.intro (g9_0.below hb) g9_1)))))))))
      | 10, ⟨k9, x5, n5, c5, m5, x6, n6, c6, e10, g10_0, g10_1⟩ => exact Exists.intro k9 (Exists.intro x5 (Exists.intro n5 (Exists.intro c5 (Exists.intro m5 (Exists.intro x6 (Exists.intro n6 (Exists.intro c6 (And.intro e10 (And.intro (g10_0.below hb) (g10_1.below hb))))))))))
      | 11, h => exact h
      | _ + 12, h => exact h
    · intro ac yw hsz hdf hold hB hp
      obtain ⟨k10, a5, n5, c5, m5, a6, n6, c6, e10, sA, rA⟩ := hp 10 (by decide)
      have t10 : ac.tmps[10]? = some (.pointer (some ⟨k10, 0, none⟩)) := (List.cons.inj e10).1
      have t6 : ac.tmps[6]? = some (.pointer (some ⟨w.heap.size, 0, none⟩)) := hold 6 (by kernel_rfl)
      clear hold hp e10
      obtain ⟨TV, hTV⟩ : ∃ TV : Nat → Value, ∀ i, (ac.tmps[i]?).getD undef = TV i := ⟨_, fun _ => rfl⟩
      have f6 := (hTV 6).symm.trans (congrArg (fun x => Option.getD x undef) t6)
      have f10 := (hTV 10).symm.trans (congrArg (fun x => Option.getD x undef) t10)
      have hac := act_eq (n := 33) hsz TV hTV
      rw [show ((List.range 33).map TV).toArray = #[TV 0, TV 1, TV 2, TV 3, TV 4, TV 5, TV 6, TV 7, TV 8, TV 9, TV 10, TV 11, TV 12, TV 13, TV 14, TV 15, TV 16, TV 17, TV 18, TV 19, TV 20, TV 21, TV 22, TV 23, TV 24, TV 25, TV 26, TV 27, TV 28, TV 29, TV 30, TV 31, TV 32] from rfl, f6, f10, hdf] at hac
      simp only [Option.getD_some] at hac
      subst hac
      clear hTV f6 f10
      have hs := hB.now.2.2.1
      have q0 := sA.cell
      have q1 := sA.cell1
      have q2 := sA.cell2
      have r0 := hs.cell
      have r1 := hs.cell1
      have r2 := hs.cell2
      have g0 := hs.free
      have g1 := hs.free1
      have g2 := hs.free2
      have HS := hs.set (.slice a5 n5 c5) (.bool m5) (.slice a6 n6 c6)
      have HE := Lib.hid (RatTold.done hB.below (Nat.le_refl _) hs rA)
      clear hB sA rA hs t6 t10 HP NW T2 W2 B3
      go_wp2
      exact bodyPost_ret (v := .agg #[.slice a5 n5 c5, .bool m5, .slice a6 n6 c6]) (by simp [results, Tryz.results19, go_sem, HS]) rfl HE.out
    refine Stps2.cons (o := _) ?_ ?_
    · intro ac yw hsz hold hB hp K hK
      have t9 : ac.tmps[9]? = some (.pointer (some ⟨kz, 0, none⟩)) := hold 9 (by kernel_rfl)
      clear hold hp hsz
      have v0 := hB.now.1.cell
      have v1 := hB.now.1.cell1
      go_simp
      exact hK.out _ _ ⟨hB, rfl, Nat.le_refl _, .inl (Below.refl _ _), fun h => absurd h (by decide)⟩
    refine Stps2.cons (o := _) ?_ ?_
    · intro ac yw hsz hold hB hp K hK
      have t2 : ac.tmps[2]? = some (.int .i64 e) := hold 2 (by kernel_rfl)
      clear hold hp hsz
      go_simp
      exact hK.out _ _ ⟨hB, rfl, Nat.le_refl _, .inl (Below.refl _ _), fun h => absurd h (by decide)⟩
    refine Stps2.cons (o := _) ?_ ?_
    · intro ac yw hsz hold hB hp K hK
      have e1 := hp 1 (by decide)
      have t25 : ac.tmps[25]? = some (.int .i64 e) := (List.cons.inj e1).1
      clear hold hp hsz e1
      go_simp
      exact hK.out _ _ ⟨hB, rfl, Nat.le_refl _, .inl (Below.refl _ _), fun h => absurd h (by decide)⟩
    refine Stps2.cons (o := _) ?_ ?_
    · intro ac yw hsz hold hB hp K hK
      have e2 := hp 2 (by decide)
      have t26 : ac.tmps[26]? = some (.int .i64 (-e)) := (List.cons.inj e2).1
      clear hold hp hsz e2
      go_simp
      (go_at_call 47; (with_reducible refine (T2.out _).mono ?_); rintro e wz ⟨x3, n3, c3, rfl, h3_0, hbz⟩)
      exact hK.out _ _ ⟨hB.go hbz, Exists.intro x3 (Exists.intro n3 (Exists.intro c3 (And.intro rfl h3_0))), hbz.size, .inl hbz, fun h => absurd h (by decide)⟩
    refine Stps2.cons (o := _) ?_ ?_
    · intro ac yw hsz hold hB hp K hK
      obtain ⟨x3_3, n3_3, c3_3, e3, g3_0⟩ := hp 3 (by decide)
      have t27 : ac.tmps[27]? = some (.agg #[.slice x3_3 n3_3 c3_3]) := (List.cons.inj e3).1
      clear hold hp hsz e3
      go_simp
      (go_at_call 40; (with_reducible refine (W2.out _ _ _ _ g3_0).mono ?_); rintro e wz ⟨x4, n4, c4, m4, rfl, h4_0, hbz⟩)
      exact hK.out _ _ ⟨hB.go hbz, Exists.intro x4 (Exists.intro n4 (Exists.intro c4 (Exists.intro m4 (And.intro rfl h4_0)))), hbz.size, .inl hbz, fun h => absurd h (by decide)⟩
    refine Stps2.cons (o := _) ?_ ?_
    · intro ac yw hsz hold hB hp K hK
      have e0 := hp 0 (by decide)
      have t24 : ac.tmps[24]? = some (.agg #[.slice xt nt ct, .bool mt]) := (List.cons.inj e0).1
      obtain ⟨x4_4, n4_4, c4_4, m4_4, e4, g4_0⟩ := hp 4 (by decide)
      have t28 : ac.tmps[28]? = some (.agg #[.slice x4_4 n4_4 c4_4, .bool m4_4]) := (List.cons.inj e4).1
      clear hold hp hsz e0 e4
      go_simp
      (go_at_call 48; (with_reducible refine (NW.out _ _ _ _ _ _ _ _ _ hB.now.2.1 g4_0).mono ?_); rintro e wz ⟨x5, n5, c5, m5, x6, n6, c6, rfl, h5_0, hbz⟩)
      exact hK.out _ _ ⟨hB.go hbz, Exists.intro x5 (Exists.intro n5 (Exists.intro c5 (Exists.intro m5 (Exists.intro x6 (Exists.intro n6 (Exists.intro c6 (And.intro rfl h5_0))))))), hbz.size, .inl hbz, fun h => absurd h (by decide)⟩
    refine Stps2.cons (o := _) ?_ ?_
    · intro ac yw hsz hold hB hp K hK
      obtain ⟨x5_5, n5_5, c5_5, m5_5, x6_5, n6_5, c6_5, e5, g5_0⟩ := hp 5 (by decide)
      have t29 : ac.tmps[29]? = some (.tuple #[.agg #[.slice x5_5 n5_5 c5_5, .bool m5_5, .slice x6_5 n6_5 c6_5], .bool true]) := (List.cons.inj e5).1
      clear hold hp hsz e5
      go_simp
      exact hK.out _ _ ⟨hB, Exists.intro x5_5 (Exists.intro n5_5 (Exists.intro c5_5 (Exists.intro m5_5 (Exists.intro x6_5 (Exists.intro n6_5 (Exists.intro c6_5 (And.intro rfl g5_0))))))), Nat.le_refl _, .inl (Below.refl _ _), fun h => absurd h (by decide)⟩
    refine Stps2.cons (o := _) ?_ ?_
    · intro ac yw hsz hold hB hp K hK
      obtain ⟨x5_6, n5_6, c5_6, m5_6, x6_6, n6_6, c6_6, e6, g6_0⟩ := hp 6 (by decide)
      have t23 : ac.tmps[23]? = some (.tuple #[.agg #[.slice x5_6 n5_6 c5_6, .bool m5_6, .slice x6_6 n6_6 c6_6], .bool true]) := (List.cons.inj e6).1
      clear hold hp hsz e6
      go_simp
      exact hK.out _ _ ⟨hB, Exists.intro x5_6 (Exists.intro n5_6 (Exists.intro c5_6 (Exists.intro m5_6 (Exists.intro x6_6 (Exists.intro n6_6 (Exists.intro c6_6 (And.intro rfl g6_0))))))), Nat.le_refl _, .inl (Below.refl _ _), fun h => absurd h (by decide)⟩
    refine Stps2.cons (o := _) ?_ ?_
    · intro ac yw hsz hold hB hp K hK
      obtain ⟨x5_6, n5_6, c5_6, m5_6, x6_6, n6_6, c6_6, e6, g6_0⟩ := hp 6 (by decide)
      have t23 : ac.tmps[23]? = some (.tuple #[.agg #[.slice x5_6 n5_6 c5_6, .bool m5_6, .slice x6_6 n6_6 c6_6], .bool true]) := (List.cons.inj e6).1
      clear hold hp hsz e6
      go_simp
      exact hK.out _ _ ⟨hB, rfl, Nat.le_refl _, .inl (Below.refl _ _), fun h => absurd h (by decide)⟩
    refine Stps2.cons (o := _) ?_ ?_
    · intro ac yw hsz hold hB hp K hK
      clear hold hp hsz
      have hk0 := hB.now.1.lt
      have hsl := Slot3.new yw (.slice none 0 0) (.bool false) (.slice none 0 0) 30
      have hbz : Below yw.heap.size yw (yw.alloc (.cells #[.slice none 0 0, .bool false, .slice none 0 0] 30)) ∧ yw.heap.size < (yw.alloc (.cells #[.slice none 0 0, .bool false, .slice none 0 0] 30)).heap.size := ⟨(Below.refl _ _).alloc (Nat.le_refl _) _, by simp⟩
      go_simp
      exact hK.out _ _ ⟨hB.alloc _, Exists.intro yw.heap.size (Exists.intro none (Exists.intro 0 (Exists.intro 0 (Exists.intro false (Exists.intro none (Exists.intro 0 (Exists.intro 0 (And.intro rfl (And.intro hsl hk0))))))))), Nat.le_of_lt hbz.2, .inl hbz.1, fun _ => ⟨_, rfl, Nat.le_refl _, hbz.2⟩⟩
    refine Stps2.cons (o := _) ?_ ?_
    · intro ac yw hsz hold hB hp K hK
      obtain ⟨k9_9, x0_9, y0_9, z0_9, b0_9, x1_9, y1_9, z1_9, e9, g9_0, g9_1⟩ := hp 9 (by decide)
      have t10 : ac.tmps[10]? = some (.pointer (some ⟨k9_9, 0, none⟩)) := (List.cons.inj e9).1
      obtain ⟨x5_7, n5_7, c5_7, m5_7, x6_7, n6_7, c6_7, e7, g7_0⟩ := hp 7 (by decide)
      have t30 : ac.tmps[30]? = some (.agg #[.slice x5_7 n5_7 c5_7, .bool m5_7, .slice x6_7 n6_7 c6_7]) := (List.cons.inj e7).1
      clear hold hp hsz e9 e7
      have hs := g9_0
      have l0 := hs.cell
      have l1 := hs.cell1
      have l2 := hs.cell2
      have f0 := hs.free
      have f1 := hs.free1
      have f2 := hs.free2
      have HB := HP.out _ _ hs g9_1 hB x5_7 n5_7 c5_7 m5_7 x6_7 n6_7 c6_7
      go_simp
      refine hK.out undef _ ⟨HB, Exists.intro k9_9 (Exists.intro x5_7 (Exists.intro n5_7 (Exists.intro c5_7 (Exists.intro m5_7 (Exists.intro x6_7 (Exists.intro n6_7 (Exists.intro c6_7 (And.intro (congrArg (fun x => [x]) t10) (And.intro (hs.set3 (.slice x5_7 n5_7 c5_7) (.bool m5_7) (.slice x6_7 n6_7 c6_7)) (RatAt.set3 g7_0 hs _ _ _)))))))))), by simp, .inr ?_, fun h => absurd h (by decide)⟩
      intro jj hj hap h
      match jj, h with
      | 0, h => exact h
      | 1, h => exact h
      | 2, h => exact h
      | 3, ⟨x3, n3, c3, e3, g3_0⟩ =>
        exact Exists.intro x3 (Exists.intro n3 (Exists.intro c3 (And.intro e3 (NatIs.set3 g3_0 hs (fun _ _ h => by cases h) (fun _ _ h => by cases h) (fun _ _ h => by cases h) _ _ _))))
      | 4, ⟨x4, n4, c4, m4, e4, g4_0⟩ =>
        exact Exists.intro x4 (Exists.intro n4 (Exists.intro c4 (Exists.intro m4 (And.intro e4 (IntAt.setS3 g4_0 hs _ _ _)))))
      | 5, ⟨x5, n5, c5, m5, x6, n6, c6, e5, g5_0⟩ =>
        exact Exists.intro x5 (Exists.intro n5 (Exists.intro c5 (Exists.intro m5 (Exists.intro x6 (Exists.intro n6 (Exists.intro c6 (And.intro e5 (RatAt.set3 g5_0 hs _ _ _))))))))
      | 6, ⟨x5, n5, c5, m5, x6, n6, c6, e6, g6_0⟩ =>
        exact Exists.intro x5 (Exists.intro n5 (Exists.intro c5 (Exists.intro m5 (Exists.intro x6 (Exists.intro n6 (Exists.intro c6 (And.intro e6 (RatAt.set3 g6_0 hs _ _ _))))))))
      | 7, ⟨x5, n5, c5, m5, x6, n6, c6, e7, g7_0⟩ =>
        exact Exists.intro x5 (Exists.intro n5 (Exists.intro c5 (Exists.intro m5 (Exists.intro x6 (Exists.intro n6 (Exists.intro c6 (And.intro e7 (RatAt.set3 g7_0 hs _ _ _))))))))
      | 8, h => exact h
      | 9, ⟨k9, x0, y0, z0, b0, x1, y1, z1, e9, g9_0, g9_1⟩ =>
        have e9 : k9 = k9_9 := by have := (List.cons.inj e9).1.symm.trans t10; cases this; rfl
        subst e9
        exact Exists.intro _ (Exists.intro _ (Exists.intro _ (Exists.intro _ (Exists.intro _ (Exists.intro _ (Exists.intro _ (Exists.intro _ (And.intro e9 (And.intro (g9_0.set3 _ _ _) g9_1)))))))))
      | 10, _ => exact absurd rfl hj
      | 11, h => exact h
      | _ + 12, h => exact h
    refine Stps2.cons (o := _) ?_ ?_
    · intro ac yw hsz hold hB hp K hK
      have e8 := hp 8 (by decide)
      have t31 : ac.tmps[31]? = some (.bool true) := (List.cons.inj e8).1
      clear hold hp hsz e8
      go_simp
      exact hK.out _ _ ⟨hB, rfl, Nat.le_refl _, .inl (Below.refl _ _), fun h => absurd h (by decide)⟩
    exact Stps2.nil _
  refine Stps2.cons (o := _) ?_ ?_
  · intro ac yw hsz hold hB hp K hK
    have t0 : ac.tmps[0]? = some (.bool neg) := hold 0 (by kernel_rfl)
    clear hold hp hsz
    go_simp
    exact hK.out _ _ ⟨hB, rfl, Nat.le_refl _, .inl (Below.refl _ _), fun h => absurd h (by decide)⟩
  refine Stps2.cons (o := _) ?_ ?_
  · intro ac yw hsz hold hB hp K hK
    have t7 : ac.tmps[7]? = some (.pointer (some ⟨k7, 0, none⟩)) := hold 7 (by kernel_rfl)
    clear hold hp hsz
    have v0 := hB.now.1.cell
    go_simp
    exact hK.out _ _ ⟨hB, rfl, Nat.le_refl _, .inl (Below.refl _ _), fun h => absurd h (by decide)⟩
  refine Stps2.cons (o := _) ?_ ?_
  · intro ac yw hsz hold hB hp K hK
    have t2 : ac.tmps[2]? = some (.int .i64 e) := hold 2 (by kernel_rfl)
    clear hold hp hsz
    go_simp
    exact hK.out _ _ ⟨hB, rfl, Nat.le_refl _, .inl (Below.refl _ _), fun h => absurd h (by decide)⟩
  refine Stps2.cons (o := _) ?_ ?_
  · intro ac yw hsz hold hB hp K hK
    have e2 := hp 2 (by decide)
    have t19 : ac.tmps[19]? = some (.int .i64 e) := (List.cons.inj e2).1
    clear hold hp hsz e2
    go_simp
    (go_at_call 47; (with_reducible refine (T1.out _).mono ?_); rintro e wz ⟨x3, n3, c3, rfl, h3_0, hbz⟩)
    exact hK.out _ _ ⟨hB.go hbz, Exists.intro x3 (Exists.intro n3 (Exists.intro c3 (And.intro rfl h3_0))), hbz.size, .inl hbz, fun h => absurd h (by decide)⟩
  refine Stps2.cons (o := _) ?_ ?_
  · intro ac yw hsz hold hB hp K hK
    have e1 := hp 1 (by decide)
    have t18 : ac.tmps[18]? = some (.agg #[.slice a n c]) := (List.cons.inj e1).1
    obtain ⟨x3_3, n3_3, c3_3, e3, g3_0⟩ := hp 3 (by decide)
    have t20 : ac.tmps[20]? = some (.agg #[.slice x3_3 n3_3 c3_3]) := (List.cons.inj e3).1
    clear hold hp hsz e1 e3
    go_simp
    (go_at_call 46; (with_reducible refine (ML.out _ _ _ hB.now.2.1 g3_0).mono ?_); rintro e wz ⟨x4, n4, c4, rfl, h4_0, hbz⟩)
    exact hK.out _ _ ⟨hB.go hbz, Exists.intro x4 (Exists.intro n4 (Exists.intro c4 (And.intro rfl h4_0))), hbz.size, .inl hbz, fun h => absurd h (by decide)⟩
  refine Stps2.cons (o := _) ?_ ?_
  · intro ac yw hsz hold hB hp K hK
    have e0 := hp 0 (by decide)
    have t17 : ac.tmps[17]? = some (.bool neg) := (List.cons.inj e0).1
    obtain ⟨x4_4, n4_4, c4_4, e4, g4_0⟩ := hp 4 (by decide)
    have t21 : ac.tmps[21]? = some (.agg #[.slice x4_4 n4_4 c4_4]) := (List.cons.inj e4).1
    clear hold hp hsz e0 e4
    go_simp
    (go_at_call 40; (with_reducible refine (W1.out _ _ _ _ g4_0).mono ?_); rintro e wz ⟨x5, n5, c5, m5, rfl, h5_0, hbz⟩)
    exact hK.out _ _ ⟨hB.go hbz, Exists.intro x5 (Exists.intro n5 (Exists.intro c5 (Exists.intro m5 (And.intro rfl h5_0)))), hbz.size, .inl hbz, fun h => absurd h (by decide)⟩
  refine Stps2.cons (o := _) ?_ ?_
  · intro ac yw hsz hold hB hp K hK
    clear hold hp hsz
    have hk0 := hB.now.1.lt
    have hsl := Slot2.new yw (.slice none 0 0) (.bool false) 28
    have hbz : Below yw.heap.size yw (yw.alloc (.cells #[.slice none 0 0, .bool false] 28)) ∧ yw.heap.size < (yw.alloc (.cells #[.slice none 0 0, .bool false] 28)).heap.size := ⟨(Below.refl _ _).alloc (Nat.le_refl _) _, by simp⟩
    go_simp
    exact hK.out _ _ ⟨hB.alloc _, Exists.intro yw.heap.size (Exists.intro none (Exists.intro 0 (Exists.intro 0 (Exists.intro false (And.intro rfl (And.intro hsl hk0)))))), Nat.le_of_lt hbz.2, .inl hbz.1, fun _ => ⟨_, rfl, Nat.le_refl _, hbz.2⟩⟩
  refine Stps2.cons (o := _) ?_ ?_
  · intro ac yw hsz hold hB hp K hK
    obtain ⟨k6_6, x0_6, y0_6, z0_6, b0_6, e6, g6_0, g6_1⟩ := hp 6 (by decide)
    have t9 : ac.tmps[9]? = some (.pointer (some ⟨k6_6, 0, none⟩)) := (List.cons.inj e6).1
    obtain ⟨x5_5, n5_5, c5_5, m5_5, e5, g5_0⟩ := hp 5 (by decide)
    have t22 : ac.tmps[22]? = some (.agg #[.slice x5_5 n5_5 c5_5, .bool m5_5]) := (List.cons.inj e5).1
    clear hold hp hsz e6 e5
    have hs := g6_0
    have l0 := hs.cell
    have l1 := hs.cell1
    have f0 := hs.free
    have f1 := hs.free1
    have HB := HP.out _ _ hs g6_1 hB x5_5 n5_5 c5_5 m5_5
    go_simp
    refine hK.out undef _ ⟨HB, Exists.intro k6_6 (Exists.intro x5_5 (Exists.intro n5_5 (Exists.intro c5_5 (Exists.intro m5_5 (And.intro (congrArg (fun x => [x]) t9) (And.intro (hs.set2 (.slice x5_5 n5_5 c5_5) (.bool m5_5)) (IntAt.set2b g5_0 hs _ _))))))), by simp, .inr ?_, fun h => absurd h (by decide)⟩
    intro jj hj hap h
    match jj, h with
    | 0, h => exact h
    | 1, h => exact h
    | 2, h => exact h
    | 3, ⟨x3, n3, c3, e3, g3_0⟩ =>
      exact Exists.intro x3 (Exists.intro n3 (Exists.intro c3 (And.intro e3 (NatIs.set2b g3_0 hs (fun _ _ h => by cases h) (fun _ _ h => by cases h) _ _))))
    | 4, ⟨x4, n4, c4, e4, g4_0⟩ =>
      exact Exists.intro x4 (Exists.intro n4 (Exists.intro c4 (And.intro e4 (NatIs.set2b g4_0 hs (fun _ _ h => by cases h) (fun _ _ h => by cases h) _ _))))
    | 5, ⟨x5, n5, c5, m5, e5, g5_0⟩ =>
      exact Exists.intro x5 (Exists.intro n5 (Exists.intro c5 (Exists.intro m5 (And.intro e5 (IntAt.set2b g5_0 hs _ _)))))
    | 6, ⟨k6, x0, y0, z0, b0, e6, g6_0, g6_1⟩ =>
      have e9 : k6 = k6_6 := by have := (List.cons.inj e6).1.symm.trans t9; cases this; rfl
      subst e9
      exact Exists.intro _ (Exists.intro _ (Exists.intro _ (Exists.intro _ (Exists.intro _ (And.intro e6 (And.intro (g6_0.set2 _ _) g6_1))))))
    | 7, _ => exact absurd rfl hj
    | _ + 8, h => exact h
  exact Stps2.nil _

end Go.Proofs.YtgpcfncolhmgfaaGreatDoor
