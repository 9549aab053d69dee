/-
  Package deci: scaled, by contract.
  A row of bytes of the call's own that grows by strings: nothing else turns.
-/
import Derived.Test.YtgpcfncolhmgfaaGreatDoorDe0
import Derived.Test.YtgpcfncolhmgfaaGreatDoorInv
import Derived.Test.YtgpcfncolhmgfaaGreatDoorK10
import Derived.Lib.AppendStr
import Derived.Laws.IdiomStrings
namespace Go.Proofs.YtgpcfncolhmgfaaGreatDoor
open Go.RowKit
attribute [local go_sem ↓] Go.wp_at_zero Go.wp_at_succ

theorem cmpI_neg (N M : Nat) : decide (cmpI N M < 0) = decide (N < M) := by
  unfold cmpI
  by_cases h : N < M
  · simp [h]
  · simp only [h, if_false, decide_false]
    refine decide_eq_false ?_
    split <;> omega

def Scaled (w w' : World) (e : Ending) (T B : Nat) (E : Int) : Prop := ∃ a n c b k l, e = .returned (.tuple #[.agg #[.slice a n c], .agg #[.slice b k l], .int .i64 E]) ∧ NatIs w' (.agg #[.slice a n c]) T ∧ NatIs w' (.agg #[.slice b k l]) B ∧ Below w.heap.size w w'

theorem Scaled.done {w w2 : World} {j k : Nat} {a0 : Option Addr} {n0 c0 : Nat} {b0 : Option Addr} {k0 l0 : Nat} {a : Option Addr} {n c : Nat} {b : Option Addr} {k1 l : Nat} {T B : Nat} (E : Int) (hb : Below w.heap.size w w2) (hj : w.heap.size ≤ j) (hk : w.heap.size ≤ k)
    (s1 : Slot w2 j (.slice a0 n0 c0)) (s2 : Slot w2 k (.slice b0 k0 l0)) (hne : k ≠ j) (h1 : NatIs w2 (.agg #[.slice a n c]) T) (h2 : NatIs w2 (.agg #[.slice b k1 l]) B) :
    Scaled w ((w2.setCell ⟨j, 0, none⟩ (.slice a n c)).setCell ⟨k, 0, none⟩ (.slice b k1 l)) (.returned (.tuple #[.agg #[.slice a n c], .agg #[.slice b k1 l], .int .i64 E])) T B E := by
  have u := s2.seto (k := j) hne (Value.slice a n c)
  exact ⟨a, n, c, b, k1, l, rfl, (h1.store s1.cell (fun _ _ h => by cases h) _).store u.cell (fun _ _ h => by cases h) _, (h2.store s1.cell (fun _ _ h => by cases h) _).store u.cell (fun _ _ h => by cases h) _,
    (hb.setCell (p := ⟨j, 0, none⟩) hj _).setCell (p := ⟨k, 0, none⟩) hk _⟩

set_option linter.unusedSimpArgs false in
set_option maxHeartbeats 6400000 in
set_option maxRecDepth 100000 in
theorem scaled_any (a : Option Addr) (n c : Nat) (b : Option Addr) (k l : Nat) (P Q : Nat) (w : World) (h : NatIs w (.agg #[.slice a n c]) P) (g : NatIs w (.agg #[.slice b k l]) Q)
    (K : Nat) (hK : K ≤ 1000) (hK2 : 200 ≤ K) (hP : P < 4294967296 ^ K) (hQ : Q < 4294967296 ^ K) (hd : dl P ≤ 1500) (hd' : dl Q ≤ 1500) :
    Calls Tryz.prog 62 #[.agg #[.slice a n c], .agg #[.slice b k l]] w fun x w' => Scaled w w' x (sT P Q) (sB P Q) (sE P Q) := by
  have B0 := (((((Bag.start w).nat g).nat h).box (.slice a n c) 26).box (.slice b k l) 26).box (.slice none 0 0) 26 |>.box (.slice none 0 0) 26
  simp only [World.size_alloc] at B0
  have BB := Lib.hid B0
  have TP := Lib.hid (fun wz hz => text_any (.agg #[.slice a n c]) P wz hz K (by omega) hP)
  have TQ := Lib.hid (fun wz hz => text_any (.agg #[.slice b k l]) Q wz hz K (by omega) hQ)
  have hzP := size_dlD P
  have hzQ := size_dlD Q
  have hE : (dl P : Int) - (dl Q : Int) = e0 P Q := rfl
  have hTd : P * 10 ^ (-(e0 P Q)).toNat = sT P Q := rfl
  have hBd : Q * 10 ^ (e0 P Q).toNat = sB0 P Q := rfl
  have hbd : e0 P Q ≤ 1500 ∧ -1500 ≤ e0 P Q := by rw [← hE]; omega
  have hsB : sB P Q = if sT P Q < sB0 P Q then sB0 P Q else sB0 P Q * 10 := rfl
  have hsE : sE P Q = if sT P Q < sB0 P Q then e0 P Q - 1 else e0 P Q := rfl
  have hw1 : IntKind.i64.wrap (e0 P Q - 1) = e0 P Q - 1 := IntWalk.i64_in _ (by omega)
  have hB1 : sT P Q < sB0 P Q → sB P Q = sB0 P Q := fun h => by rw [hsB, if_pos h]
  have hB2 : ¬ sT P Q < sB0 P Q → sB P Q = sB0 P Q * 10 := fun h => by rw [hsB, if_neg h]
  have hE1 : sT P Q < sB0 P Q → sE P Q = e0 P Q - 1 := fun h => by rw [hsE, if_pos h]
  have hE2 : ¬ sT P Q < sB0 P Q → sE P Q = e0 P Q := fun h => by rw [hsE, if_neg h]
  have HB1 := Lib.hid hB1
  have HB2 := Lib.hid hB2
  have HE1 := Lib.hid hE1
  have HE2 := Lib.hid hE2
  clear hB1 hB2 hE1 hE2
  generalize sB P Q = rB' at *
  generalize sE P Q = rE at *
  generalize e0 P Q = E at *
  have hw := IntWalk.i64_in E (by omega)
  have hwn := IntWalk.i64_in (-E) (by omega)
  have T1 := Lib.hid (fun wz => tenTo_any (-E) wz (by omega) (by omega))
  have T2 := Lib.hid (fun wz => tenTo_any E wz (by omega) (by omega))
  have T3 := Lib.hid (fun wz => tenTo_any 1 wz (by omega) (by omega))
  rw [show (10 : Nat) ^ (1 : Int).toNat = 10 from rfl] at T3
  have l1 := ten_lt (-E).toNat K (by omega) (by omega)
  have l2 := ten_lt E.toNat K (by omega) (by omega)
  generalize 10 ^ (-E).toNat = X1 at *
  generalize 10 ^ E.toNat = X2 at *
  have M1 := Lib.hid (fun u wz (h : NatIs wz (.agg #[.slice a n c]) P) (g : NatIs wz u X1) => (mul_any (.agg #[.slice a n c]) u P X1 wz h g K (by omega) hP l1).mono fun e w' ho => NatOut.told ho)
  have M2 := Lib.hid (fun u wz (h : NatIs wz (.agg #[.slice b k l]) Q) (g : NatIs wz u X2) => (mul_any (.agg #[.slice b k l]) u Q X2 wz h g K (by omega) hQ l2).mono fun e w' ho => NatOut.told ho)
  rw [hTd] at M1
  rw [hBd] at M2
  have l3 : sB0 P Q < 4294967296 ^ (K + K) := by rw [← hBd]; exact mul_ltD hQ l2
  have M3 := Lib.hid (fun v u wz (h : NatIs wz v (sB0 P Q)) (g : NatIs wz u 10) => (mul_any v u (sB0 P Q) 10 wz h g (K + K) (by omega) l3 (ten_lt 1 (K + K) (by omega) (by omega))).mono fun e w' ho => NatOut.told ho)
  have CM := Lib.hid (fun v u wz h g => cmp_any v u (sT P Q) (sB0 P Q) wz h g)
  have hc := cmpI_neg (sT P Q) (sB0 P Q)
  unfold NatTold at T1 T2 T3 M1 M2 M3
  clear hsB hsE hTd hBd l1 l2 l3 hP hQ hd hd' h g B0
  generalize sT P Q = ST at *
  generalize sB0 P Q = SB at *
  generalize cmpI ST SB = ci at *
  generalize str (dec P) = sp at *
  generalize str (dec Q) = sq at *
  have q0 := BB.out.now.2.2.2.1.cell
  have q1 := BB.out.now.2.2.1.cell
  go_enter Tryz.func62, Tryz.ntmps62
  go_wp2_with fail
  have BB := Lib.hid BB.out.drew
  go_region_held3 (fun y => y.cell? ⟨w.heap.size, 0, none⟩ = some (.slice a n c) ∧ y.cell? ⟨w.heap.size + 1, 0, none⟩ = some (.slice b k l))
    (exact ⟨BB.out.now.2.2.2.1.cell, BB.out.now.2.2.1.cell⟩)
    (first
      | (go_at_call 28; (with_reducible refine (TP.out _ BB.out.now.2.2.2.2.1).mono ?_); rintro x w2 ⟨rfl, hb2⟩; have BB := Lib.hid (BB.out.go hb2))
      | (go_at_call 28; (with_reducible refine (TQ.out _ BB.out.now.2.2.2.2.2.1).mono ?_); rintro x w3 ⟨rfl, hb3⟩; have BB := Lib.hid (BB.out.go hb3)))
  clear TP TQ
  go_wp2_with fail
  refine wp_region_inv3 ⟨(fun j => ([[15], [16], [17], [18], [19], [20], [21], [22], [23], [], []] : List (List Nat)).getD j []), (fun j => ([[], [], [1], [1, 2], [0, 1, 2, 3], [], [], [0, 1, 2, 3, 4, 6], [0, 1, 2, 3, 4, 5, 6, 7], [0, 1, 2, 3, 4, 5, 6, 7, 8], [0, 1, 2, 3, 4, 5, 6, 7, 8, 9]] : List (List Nat)).getD j []), []⟩ 9 (fun jj vv yy => match jj with | 0 => vv = [some (.agg #[.slice a n c])] | 1 => vv = [some (.int .i64 E)] | 2 => vv = [some (.int .i64 (-E))] | 3 => ∃ (x3 : Option Addr), ∃ (n3 : Nat), ∃ (c3 : Nat), vv = [some (.agg #[.slice x3 n3 c3])] ∧ NatIs yy (.agg #[.slice x3 n3 c3]) X1 | 4 => ∃ (x4 : Option Addr), ∃ (n4 : Nat), ∃ (c4 : Nat), vv = [some (.agg #[.slice x4 n4 c4])] ∧ NatIs yy (.agg #[.slice x4 n4 c4]) ST | 5 => vv = [some (.agg #[.slice b k l])] | 6 => vv = [some (.int .i64 E)] | 7 => ∃ (x7 : Option Addr), ∃ (n7 : Nat), ∃ (c7 : Nat), vv = [some (.agg #[.slice x7 n7 c7])] ∧ NatIs yy (.agg #[.slice x7 n7 c7]) X2 | 8 => ∃ (x8 : Option Addr), ∃ (n8 : Nat), ∃ (c8 : Nat), vv = [some (.agg #[.slice x8 n8 c8])] ∧ NatIs yy (.agg #[.slice x8 n8 c8]) SB | _ => True) (Bag w (fun y => Slot y (w.heap.size + 1 + 1 + 1) (.slice none 0 0) ∧ Slot y (w.heap.size + 1 + 1) (.slice none 0 0) ∧ Slot y (w.heap.size + 1) (.slice b k l) ∧ Slot y w.heap.size (.slice a n c) ∧ NatIs y (.agg #[.slice a n c]) P ∧ NatIs y (.agg #[.slice b k l]) Q ∧ True)) (by kernel_rfl) (by kernel_rfl) (by kernel_rfl) (by kernel_rfl) BB.out.drew ?_ ?_ ?_
  · intro jj vv yw yw2 hb h
    match jj, h with
    | 0, h => exact h
    | 1, h => exact h
    | 2, h => exact h
    | 3, ⟨x3, n3, c3, e3, g3_0⟩ => exact Exists.intro x3 (Exists.intro n3 (Exists.intro c3 (And.intro e3 (g3_0.below hb))))
    | 4, ⟨x4, n4, c4, e4, g4_0⟩ => exact Exists.intro x4 (Exists.intro n4 (Exists.intro c4 (And.intro e4 (g4_0.below hb))))
    | 5, h => exact h
    | 6, h => exact h
    | 7, ⟨x7, n7, c7, e7, g7_0⟩ => exact Exists.intro x7 (Exists.intro n7 (Exists.intro c7 (And.intro e7 (g7_0.below hb))))
    | 8, ⟨x8, n8, c8, e8, g8_0⟩ => exact Exists.intro x8 (Exists.intro n8 (Exists.intro c8 (And.intro e8 (g8_0.below hb))))
    | _ + 9, h => exact h
  · intro ac yw hsz hdf hold hB hp
    obtain ⟨x4, n4, c4, e4, hn4⟩ := hp 4 (by decide)
    obtain ⟨x8, n8, c8, e8, hn8⟩ := hp 8 (by decide)
    have t19 : ac.tmps[19]? = some (.agg #[.slice x4 n4 c4]) := (List.cons.inj e4).1
    have t23 : ac.tmps[23]? = some (.agg #[.slice x8 n8 c8]) := (List.cons.inj e8).1
    have t2 : ac.tmps[2]? = some (.pointer (some ⟨w.heap.size, 0, none⟩)) := hold 2 (by kernel_rfl)
    have t3 : ac.tmps[3]? = some (.pointer (some ⟨w.heap.size + 1, 0, none⟩)) := hold 3 (by kernel_rfl)
    have t4 : ac.tmps[4]? = some (.pointer (some ⟨w.heap.size + 1 + 1, 0, none⟩)) := hold 4 (by kernel_rfl)
    have t5 : ac.tmps[5]? = some (.pointer (some ⟨w.heap.size + 1 + 1 + 1, 0, none⟩)) := hold 5 (by kernel_rfl)
    have t7 : ac.tmps[7]? = some (.int .i64 E) := hold 7 (by kernel_rfl)
    clear hold hp e4 e8
    obtain ⟨TV, hTV⟩ : ∃ TV : Nat → Value, ∀ i, (ac.tmps[i]?).getD undef = TV i := ⟨_, fun _ => rfl⟩
    have f2 := (hTV 2).symm.trans (congrArg (fun x => Option.getD x undef) t2)
    have f3 := (hTV 3).symm.trans (congrArg (fun x => Option.getD x undef) t3)
    have f4 := (hTV 4).symm.trans (congrArg (fun x => Option.getD x undef) t4)
    have f5 := (hTV 5).symm.trans (congrArg (fun x => Option.getD x undef) t5)
    have f7 := (hTV 7).symm.trans (congrArg (fun x => Option.getD x undef) t7)
    have f19 := (hTV 19).symm.trans (congrArg (fun x => Option.getD x undef) t19)
    have f23 := (hTV 23).symm.trans (congrArg (fun x => Option.getD x undef) t23)
    have hac := act_eq (n := 37) hsz TV hTV
    rw [show ((List.range 37).map TV).toArray = #[TV 0, TV 1, TV 2, TV 3, TV 4, TV 5, TV 6, TV 7, TV 8, TV 9, TV 10, TV 11, TV 12, TV 13, TV 14, TV 15, TV 16, TV 17, TV 18, TV 19, TV 20, TV 21, TV 22, TV 23, TV 24, TV 25, TV 26, TV 27, TV 28, TV 29, TV 30, TV 31, TV 32, TV 33, TV 34, TV 35, TV 36] from rfl, f2, f3, f4, f5, f7, f19, f23, hdf] at hac
    simp only [Option.getD_some] at hac
    subst hac
    clear hTV f2 f3 f4 f5 f7 f19 f23
    have s0 := hB.now.2.2.2.1
    have s1 := hB.now.2.2.1
    have u0 := s0.set0 (.slice x4 n4 c4)
    have u1 := (s1.seto (k := w.heap.size) (by omega) (Value.slice x4 n4 c4))
    have hw := hB.below
    have BB : Bag w (fun _ => True) ((yw.setCell ⟨w.heap.size, 0, none⟩ (.slice x4 n4 c4)).setCell ⟨w.heap.size + 1, 0, none⟩ (.slice x8 n8 c8)) := ⟨(hw.setCell (p := ⟨w.heap.size, 0, none⟩) (show w.heap.size ≤ w.heap.size by omega) _).setCell (p := ⟨w.heap.size + 1, 0, none⟩) (show w.heap.size ≤ w.heap.size + 1 by omega) _, fun _ _ _ _ => trivial, trivial⟩
    have m4 := (hn4.store s0.cell (fun _ _ h => by cases h) (.slice x4 n4 c4)).store u1.cell (fun _ _ h => by cases h) (.slice x8 n8 c8)
    have m8 := (hn8.store s0.cell (fun _ _ h => by cases h) (.slice x4 n4 c4)).store u1.cell (fun _ _ h => by cases h) (.slice x8 n8 c8)
    have BB := Lib.hid ((((((BB.nat m8).nat m4).slot (u0.seto (k := w.heap.size + 1) (by omega) (Value.slice x8 n8 c8))).slot (u1.set0 (.slice x8 n8 c8))).slot ((hB.now.2.1.seto (k := w.heap.size) (by omega) (Value.slice x4 n4 c4)).seto (k := w.heap.size + 1) (by omega) (Value.slice x8 n8 c8))).slot ((hB.now.1.seto (k := w.heap.size) (by omega) (Value.slice x4 n4 c4)).seto (k := w.heap.size + 1) (by omega) (Value.slice x8 n8 c8)))
    have c0 := s0.cell
    have f0 := s0.free
    have c1 := u1.cell
    have f1 := u1.free
    clear hB hw s0 s1 u0 u1 m4 m8 hn4 hn8 t2 t3 t4 t5 t7 t19 t23 T1 T2 M1 M2
    refine TailWp.step rfl ?_
    intro K hK
    go_simp
    refine hK.out _ _ ?_
    refine TailWp.step rfl ?_
    intro K hK
    go_simp
    refine hK.out _ _ ?_
    refine TailWp.end rfl ?_
    generalize (yw.setCell ⟨w.heap.size, 0, none⟩ (.slice x4 n4 c4)).setCell ⟨w.heap.size + 1, 0, none⟩ (.slice x8 n8 c8) = y2 at *
    clear c0 f0 c1 f1
    have q0 := BB.out.now.2.2.2.1.cell
    have q1 := BB.out.now.2.2.1.cell
    go_wp2_with fail
    go_at_call 66
    refine (CM.out _ _ _ BB.out.now.2.2.2.2.1 BB.out.now.2.2.2.2.2.1).mono ?_
    rintro x w4 ⟨rfl, hb4⟩
    have BB := Lib.hid (BB.out.go hb4)
    clear hb4 q0 q1
    by_cases hlt : ST < SB
    · rw [decide_eq_true hlt] at hc
      obtain rfl := HB1.out hlt
      obtain rfl := HE1.out hlt
      have q0 := BB.out.now.2.2.2.1.cell
      have q1 := BB.out.now.2.2.1.cell
      have r0 := BB.out.now.2.1.cell
      have r1 := BB.out.now.1.cell
      have g0 := BB.out.now.2.1.free
      have g1 := BB.out.now.1.free
      go_wp2_with fail
      have HS0 := (BB.out.now.2.1.set0 (Value.slice x4 n4 c4)).seto (k := w.heap.size + 1 + 1 + 1) (by omega) (Value.slice x8 n8 c8)
      have HS1 := (BB.out.now.1.seto (k := w.heap.size + 1 + 1) (by omega) (Value.slice x4 n4 c4)).set0 (Value.slice x8 n8 c8)
      have HE := Lib.hid (Scaled.done (E - 1) BB.out.drew.below (by omega) (by omega) BB.out.drew.now.2.1 BB.out.drew.now.1 (by omega) BB.out.drew.now.2.2.2.2.1 BB.out.drew.now.2.2.2.2.2.1)
      go_region
      go_wp2
      exact bodyPost_ret (v := .tuple #[.agg #[.slice x4 n4 c4], .agg #[.slice x8 n8 c8], .int .i64 (E - 1)]) (by simp [results, Tryz.results62, go_sem, HS0.cell, HS1.cell]) rfl HE.out
    · rw [decide_eq_false hlt] at hc
      obtain rfl := HB2.out hlt
      obtain rfl := HE2.out hlt
      have q0 := BB.out.now.2.2.2.1.cell
      have q1 := BB.out.now.2.2.1.cell
      go_wp2_with fail
      have BB := Lib.hid BB.out.drew
      go_region_held3 (fun y => y.cell? ⟨w.heap.size, 0, none⟩ = some (.slice x4 n4 c4) ∧ y.cell? ⟨w.heap.size + 1, 0, none⟩ = some (.slice x8 n8 c8))
        (first
          | (exact ⟨BB.out.now.2.2.2.1.cell, BB.out.now.2.2.1.cell⟩)
          | (exact ⟨z0.cell, z1.cell⟩)
          | (exact ⟨z2.cell, z3.cell⟩))
        (first
          | (go_at_call 47; (with_reducible refine (T3.out _).mono ?_); rintro x w5 ⟨a5, n5, c5, rfl, hn5, hb5⟩; have BB := Lib.hid (BB.out.go hb5))
          | (go_at_call 46; (with_reducible refine (M3.out _ _ _ BB.out.now.2.2.2.2.2.1 hn5).mono ?_); rintro x w6 ⟨a6, n6, c6, rfl, hn6, hb6⟩; have BB := Lib.hid (BB.out.go hb6); have r0 := BB.out.now.2.1.cell; have r1 := BB.out.now.1.cell; have g0 := BB.out.now.2.1.free; have g1 := BB.out.now.1.free; have z0 := BB.out.now.2.2.2.1.seto (k := w.heap.size + 1 + 1) (by omega) (Value.slice x4 n4 c4); have z1 := BB.out.now.2.2.1.seto (k := w.heap.size + 1 + 1) (by omega) (Value.slice x4 n4 c4); have z2 := z0.seto (k := w.heap.size + 1 + 1 + 1) (by omega) (Value.slice a6 n6 c6); have z3 := z1.seto (k := w.heap.size + 1 + 1 + 1) (by omega) (Value.slice a6 n6 c6); have HS0 := (BB.out.now.2.1.set0 (Value.slice x4 n4 c4)).seto (k := w.heap.size + 1 + 1 + 1) (by omega) (Value.slice a6 n6 c6); have HS1 := (BB.out.now.1.seto (k := w.heap.size + 1 + 1) (by omega) (Value.slice x4 n4 c4)).set0 (Value.slice a6 n6 c6); have HE := Lib.hid (Scaled.done rE BB.out.below (by omega) (by omega) BB.out.now.2.1 BB.out.now.1 (by omega) BB.out.now.2.2.2.2.1 hn6)))
      go_wp2
      exact bodyPost_ret (v := .tuple #[.agg #[.slice x4 n4 c4], .agg #[.slice a6 n6 c6], .int .i64 rE]) (by simp [results, Tryz.results62, go_sem, HS0.cell, HS1.cell]) rfl HE.out
  refine Stps2.cons (o := _) ?_ ?_
  · intro ac yw hsz hold hB hp K hK
    have t2 : ac.tmps[2]? = some (.pointer (some ⟨w.heap.size, 0, none⟩)) := hold 2 (by kernel_rfl)
    clear hold hp hsz
    have v0 := hB.now.2.2.1.cell
    have v1 := hB.now.2.2.2.1.cell
    go_simp
    exact hK.out _ _ ⟨hB, rfl, Nat.le_refl _, .inl (Below.refl _ _), fun h => absurd h (by decide)⟩
  refine Stps2.cons (o := _) ?_ ?_
  · intro ac yw hsz hold hB hp K hK
    have t7 : ac.tmps[7]? = some (.int .i64 E) := hold 7 (by kernel_rfl)
    clear hold hp hsz
    go_simp
    exact hK.out _ _ ⟨hB, rfl, Nat.le_refl _, .inl (Below.refl _ _), fun h => absurd h (by decide)⟩
  refine Stps2.cons (o := _) ?_ ?_
  · intro ac yw hsz hold hB hp K hK
    have e1 := hp 1 (by decide)
    have t16 : ac.tmps[16]? = some (.int .i64 E) := (List.cons.inj e1).1
    clear hold hp hsz e1
    go_simp
    exact hK.out _ _ ⟨hB, rfl, Nat.le_refl _, .inl (Below.refl _ _), fun h => absurd h (by decide)⟩
  refine Stps2.cons (o := _) ?_ ?_
  · intro ac yw hsz hold hB hp K hK
    have e2 := hp 2 (by decide)
    have t17 : ac.tmps[17]? = some (.int .i64 (-E)) := (List.cons.inj e2).1
    clear hold hp hsz e2
    go_simp
    (go_at_call 47; (with_reducible refine (T1.out _).mono ?_); rintro e wz ⟨x3, n3, c3, rfl, h3_0, hbz⟩)
    exact hK.out _ _ ⟨hB.go hbz, Exists.intro x3 (Exists.intro n3 (Exists.intro c3 (And.intro rfl h3_0))), hbz.size, .inl hbz, fun h => absurd h (by decide)⟩
  refine Stps2.cons (o := _) ?_ ?_
  · intro ac yw hsz hold hB hp K hK
    have e0 := hp 0 (by decide)
    have t15 : ac.tmps[15]? = some (.agg #[.slice a n c]) := (List.cons.inj e0).1
    obtain ⟨x3_3, n3_3, c3_3, e3, g3_0⟩ := hp 3 (by decide)
    have t18 : ac.tmps[18]? = some (.agg #[.slice x3_3 n3_3 c3_3]) := (List.cons.inj e3).1
    clear hold hp hsz e0 e3
    go_simp
    (go_at_call 46; (with_reducible refine (M1.out _ _ hB.now.2.2.2.2.1 g3_0).mono ?_); rintro e wz ⟨x4, n4, c4, rfl, h4_0, hbz⟩)
    exact hK.out _ _ ⟨hB.go hbz, Exists.intro x4 (Exists.intro n4 (Exists.intro c4 (And.intro rfl h4_0))), hbz.size, .inl hbz, fun h => absurd h (by decide)⟩
  refine Stps2.cons (o := _) ?_ ?_
  · intro ac yw hsz hold hB hp K hK
    have t3 : ac.tmps[3]? = some (.pointer (some ⟨w.heap.size + 1, 0, none⟩)) := hold 3 (by kernel_rfl)
    clear hold hp hsz
    have v0 := hB.now.2.2.1.cell
    have v1 := hB.now.2.2.2.1.cell
    go_simp
    exact hK.out _ _ ⟨hB, rfl, Nat.le_refl _, .inl (Below.refl _ _), fun h => absurd h (by decide)⟩
  refine Stps2.cons (o := _) ?_ ?_
  · intro ac yw hsz hold hB hp K hK
    have t7 : ac.tmps[7]? = some (.int .i64 E) := hold 7 (by kernel_rfl)
    clear hold hp hsz
    go_simp
    exact hK.out _ _ ⟨hB, rfl, Nat.le_refl _, .inl (Below.refl _ _), fun h => absurd h (by decide)⟩
  refine Stps2.cons (o := _) ?_ ?_
  · intro ac yw hsz hold hB hp K hK
    have e6 := hp 6 (by decide)
    have t21 : ac.tmps[21]? = some (.int .i64 E) := (List.cons.inj e6).1
    clear hold hp hsz e6
    go_simp
    (go_at_call 47; (with_reducible refine (T2.out _).mono ?_); rintro e wz ⟨x7, n7, c7, rfl, h7_0, hbz⟩)
    exact hK.out _ _ ⟨hB.go hbz, Exists.intro x7 (Exists.intro n7 (Exists.intro c7 (And.intro rfl h7_0))), hbz.size, .inl hbz, fun h => absurd h (by decide)⟩
  refine Stps2.cons (o := _) ?_ ?_
  · intro ac yw hsz hold hB hp K hK
    have e5 := hp 5 (by decide)
    have t20 : ac.tmps[20]? = some (.agg #[.slice b k l]) := (List.cons.inj e5).1
    obtain ⟨x7_7, n7_7, c7_7, e7, g7_0⟩ := hp 7 (by decide)
    have t22 : ac.tmps[22]? = some (.agg #[.slice x7_7 n7_7 c7_7]) := (List.cons.inj e7).1
    clear hold hp hsz e5 e7
    go_simp
    (go_at_call 46; (with_reducible refine (M2.out _ _ hB.now.2.2.2.2.2.1 g7_0).mono ?_); rintro e wz ⟨x8, n8, c8, rfl, h8_0, hbz⟩)
    exact hK.out _ _ ⟨hB.go hbz, Exists.intro x8 (Exists.intro n8 (Exists.intro c8 (And.intro rfl h8_0))), hbz.size, .inl hbz, fun h => absurd h (by decide)⟩
  exact Stps2.nil _

end Go.Proofs.YtgpcfncolhmgfaaGreatDoor

namespace Go.Proofs.YtgpcfncolhmgfaaGreatDoor
open Go.RowKit

def bcs (l : List UInt8) : List Value := l.map fun b => .int .u8 b.toNat
theorem bcs_app (a b : List UInt8) : bcs (a ++ b) = bcs a ++ bcs b := List.map_append
theorem bcs_str (l : List UInt8) : Lib.strCells (str l) = bcs l := rfl
/-- A row of bytes; each cell of its block holds a byte. -/
def Row8 (w : World) (base : Nat) (v : Value) (n : Nat) (l : List UInt8) : Prop :=
  w.ownsRow base 5 1 v n (bcs l) ∧ ∀ g o x, v.ownBlock = some g → w.cell? ⟨g, o, none⟩ = some x → ∃ z, x = .int .u8 z
theorem Row8.nil (w : World) (base : Nat) : Row8 w base (.slice none 0 0) 0 [] := ⟨World.ownsRow_nil w base 5 1, fun g o x h => by cases h⟩
theorem Row8.lt {w : World} {base : Nat} {v : Value} {n : Nat} {l : List UInt8} (h : Row8 w base v n l) {g : Nat} (hg : v.ownBlock = some g) : base ≤ g ∧ g < w.heap.size := by
  rcases h.1.2 with ⟨rfl, _⟩ | ⟨g', cap, cur, rfl, h1, h2, _⟩
  · cases hg
  · have e : g' = g := by simpa [Value.ownBlock] using hg
    subst e
    refine ⟨h1, ?_⟩
    rcases Nat.lt_or_ge g' w.heap.size with h3 | h3
    · exact h3
    · rw [Array.getElem?_eq_none h3] at h2; cases h2
theorem Row8.kept {w w' : World} {base : Nat} {v : Value} {n : Nat} {l : List UInt8} (h : Row8 w base v n l) {row : Option Nat} (hg : w.grownBy w' row) (hne : v.ownBlock = none ∨ v.ownBlock ≠ row) : Row8 w' base v n l := by
  refine ⟨World.ownsRow.kept h.1 hg hne, fun g o x hv hc => ?_⟩
  rcases hne with hne | hne
  · rw [hne] at hv; cases hv
  · refine h.2 g o x hv ?_
    rw [← hc]
    exact (World.cell?_of_block (hg.block g (h.lt hv).2 (fun e => hne (hv.trans e)))).symm
theorem Row8.below {w w' : World} {base : Nat} {v : Value} {n : Nat} {l : List UInt8} (h : Row8 w base v n l) (hb : Below w.heap.size w w') : Row8 w' base v n l :=
  h.kept (row := none) ⟨hb.os, hb.tape, hb.output, hb.size, fun k hk _ => hb.block k hk⟩ (by
    rcases h.1.2 with ⟨rfl, _⟩ | ⟨g, cap, cur, rfl, _⟩
    · exact .inl rfl
    · exact .inr (by simp [Value.ownBlock]))
theorem Row8.away {w : World} {base : Nat} {v : Value} {n : Nat} {l : List UInt8} (h : Row8 w base v n l) {k : Nat} (hne : v.ownBlock ≠ some k) (u : Value) : Row8 (w.setCell ⟨k, 0, none⟩ u) base v n l :=
  have hw : Wrote k 0 1 w (w.setCell ⟨k, 0, none⟩ u) := (Wrote.refl k 0 1 w).setCell (Nat.le_refl _) (by omega) _
  h.kept (row := some k) ⟨hw.os, hw.tape, hw.output, hw.size, fun j hj hne => hw.block j hj (fun e => hne (by rw [e]))⟩ (.inr hne)
/-- Its block is another than that of a row of numbers, or of a variable. -/
theorem Row8.apart {w : World} {base : Nat} {v : Value} {n : Nat} {l : List UInt8} (h : Row8 w base v n l) {b o : Nat} {x : Value} (hc : w.cell? ⟨b, o, none⟩ = some x) (hx : ∀ z, x ≠ .int .u8 z) : some b ≠ v.ownBlock := by
  intro e
  obtain ⟨z, hz⟩ := h.2 b o x e.symm hc
  exact hx z hz
theorem Row8.nat {w w' : World} {base : Nat} {v u : Value} {n N : Nat} {l : List UInt8} (h : Row8 w base v n l) (hg : w.grownBy w' v.ownBlock) (hn : NatIs w u N) : NatIs w' u N := by
  obtain ⟨a, m, c, f, rfl, ⟨h1, h2, h3, h4⟩, hv, ht⟩ := hn
  refine ⟨a, m, c, f, rfl, ⟨h1, h2, h3, ?_⟩, hv, ht⟩
  rcases h4 with h4 | ⟨b, off, rfl, hb, hc⟩
  · exact .inl h4
  · rcases Nat.eq_zero_or_pos m with h0 | h0
    · subst h0
      exact .inr ⟨b, off, rfl, Nat.lt_of_lt_of_le hb hg.size, fun j hj => by omega⟩
    · have hne := h.apart (hc 0 h0) (fun z e => by cases e)
      refine .inr ⟨b, off, rfl, Nat.lt_of_lt_of_le hb hg.size, fun j hj => ?_⟩
      exact (World.cell?_of_block (a := ⟨b, off + j, none⟩) (hg.block b hb hne)).trans (hc j hj)
theorem Row8.slot {w w' : World} {base : Nat} {v x : Value} {n k : Nat} {l : List UInt8} (h : Row8 w base v n l) (hg : w.grownBy w' v.ownBlock) (hs : Slot w k x) (hx : ∀ z, x ≠ .int .u8 z) : Slot w' k x := by
  have hne := h.apart hs.cell hx
  exact ⟨(World.cell?_of_block (a := ⟨k, 0, none⟩) (hg.block k hs.lt hne)).trans hs.cell, (World.frozen?_of_block (a := ⟨k, 0, none⟩) (hg.block k hs.lt hne)).trans hs.free, Nat.lt_of_lt_of_le hs.lt hg.size⟩
theorem Row8.belowBase {w0 w w' : World} {B base : Nat} {v : Value} {n : Nat} {l : List UInt8} (h : Row8 w base v n l) (hg : w.grownBy w' v.ownBlock) (hb : Below B w0 w) (hB : B ≤ base) (hB0 : B ≤ w0.heap.size) : Below B w0 w' :=
  ⟨hg.os.trans hb.os, hg.tape.trans hb.tape, hg.output.trans hb.output, Nat.le_trans hb.size hg.size, fun k hk => (hg.block k (Nat.lt_of_lt_of_le (Nat.lt_of_lt_of_le hk hB0) hb.size) (fun e => by have := (h.lt e.symm).1; omega)).trans (hb.block k hk)⟩

theorem cell_get {w : World} {g o : Nat} {cs : Array Value} {t : TypeId} {q : Nat × Nat} (h : w.heap[g]? = some (.cells cs t q)) : w.cell? ⟨g, o, none⟩ = cs[o]? := by
  simp [World.cell?, h]

/-- A string's bytes behind the row: nothing else turns. -/
theorem Row8.append {w : World} {base : Nat} {v : Value} {n : Nat} {l : List UInt8} (h : Row8 w base v n l) (ty : TypeId) (m : List UInt8) (hs : n + m.length ≤ 1000000) (hbase : base ≤ w.heap.size) :
    ∃ v' w', (Builtin.append_ #[87, 9] ty #[v, .string (str m)]).run Tryz.prog w = .ok v' w' ∧ Row8 w' base v' (n + m.length) (l ++ m) ∧ w.grownBy w' v.ownBlock := by
  obtain ⟨i0, hi, hz0, hz1, hz2⟩ := info_parts infoB
  have hsz := str_size m
  obtain ⟨v', w', hr, h1, h2, h3⟩ := Lib.run_append_own_string (P := Tryz.prog) w base 87 9 ty 5 i0 Tryz.underlying87 Tryz.underlying9 hi hz0 hz1 hz2 v n (bcs l) h.1 (str m) (by unfold maxLen; omega) (by omega) hbase
  rw [hsz, bcs_str, ← bcs_app] at h1
  refine ⟨v', w', hr, ⟨h1, ?_⟩, h2⟩
  have hU : ∀ (L : List UInt8) (x : Value), x ∈ bcs L → ∃ z, x = .int .u8 z := by
    intro L x hx
    obtain ⟨b, _, rfl⟩ := List.mem_map.1 hx
    exact ⟨_, rfl⟩
  have hxl : l.length = n := by have := h.1.1; simpa [bcs] using this
  -- where a new block is made
  have grow : ∀ (W : World) (olds : List UInt8) (cap : Nat) (g o : Nat) (x : Value), g = W.heap.size → (W.alloc (.cells ((bcs olds).toArray ++ (bcs m).toArray ++ Builtin.zeroCells (Value.int .u8 0).cells cap) 5)).cell? ⟨g, o, none⟩ = some x → ∃ z, x = .int .u8 z := by
    intro W olds cap g o x hg hc
    subst hg
    rw [cell_get (heap_new W _)] at hc
    have hm := Array.mem_of_getElem? hc
    rw [Array.mem_append, Array.mem_append] at hm
    rcases hm with (hm | hm) | hm
    · exact hU olds x (by simpa using hm)
    · exact hU m x (by simpa using hm)
    · have hzc : ∀ c, ∀ y ∈ Builtin.zeroCells (Value.int .u8 0).cells c, ∃ z, y = Value.int .u8 z := by
        intro c y hy
        unfold Builtin.zeroCells at hy
        obtain ⟨i, _, rfl⟩ := Array.mem_map.1 hy
        exact ⟨0, by rw [show (Value.int .u8 0).cells = #[Value.int .u8 0] from rfl, show (#[Value.int .u8 0] : Array Value).size = 1 from rfl, Nat.mod_one]; rfl⟩
      exact hzc cap x hm
  intro g o x hv hc
  rcases h.1.2 with ⟨rfl, rfl⟩ | ⟨g0, cap, cur, rfl, hbg, hg0, hnc, hcm, hcs, htake⟩
  · obtain rfl : l = [] := List.eq_nil_of_length_eq_zero hxl
    by_cases hm : m.length = 0
    · have := h3.2 ⟨rfl, by rw [hsz]; exact hm⟩
      rw [this] at hv; cases hv
    · have hr2 := run_append_nil_string (P := Tryz.prog) w 87 9 ty 5 i0 (.int .u8 0) Tryz.underlying87 Tryz.underlying9 hi hz0 (str m) (by omega) (by omega) (by rw [hz2]; omega)
      rw [hr] at hr2
      cases hr2
      have e : w.heap.size = g := by simpa [Value.ownBlock] using hv
      have e1 : ((str m).data.map fun b => Value.int .u8 b.toNat) = (bcs []).toArray ++ (bcs m).toArray := by
        apply Array.ext'
        simp [bcs, str]
      rw [e1] at hc
      exact grow w.drew [] _ g o x e.symm hc
  · have hcell : ∀ (o : Nat) (x : Value), cur[o]? = some x → ∃ z, x = Value.int .u8 z := fun o x hx => h.2 g0 o x rfl ((cell_get hg0).trans hx)
    have hcs' : cur.size = cap := by simpa using hcs
    by_cases hroom : n + m.length ≤ cap
    · have hr2 := Lib.run_append_room_string (P := Tryz.prog) w 87 9 ty 5 i0 Tryz.underlying87 Tryz.underlying9 hi hz1 g0 n cap cur hg0 (str m) (by omega) (by omega)
      rw [hr] at hr2
      cases hr2
      have e : g0 = g := by simpa [Value.ownBlock] using hv
      subst e
      rw [cell_get (setRow_heap w g0 cur _ 5 _ hg0)] at hc
      have hm := Array.mem_of_getElem? hc
      rw [List.mem_toArray, List.mem_append, List.mem_append] at hm
      have hmem : ∀ y : Value, y ∈ cur.toList → ∃ z, y = Value.int .u8 z := by
        intro y hy
        obtain ⟨j, hj⟩ := List.getElem?_of_mem hy
        exact hcell j y (by rw [← Array.getElem?_toList]; exact hj)
      rcases hm with (hm | hm) | hm
      · exact hmem x (List.mem_of_mem_take hm)
      · exact hU m x hm
      · exact hmem x (List.mem_of_mem_drop hm)
    · have holds : ∀ j u, (bcs l)[j]? = some u → w.cell? ((⟨g0, 0, none⟩ : Addr).add j) = some u := h.1.cells (g := g0) rfl
      have hr2 := Lib.run_append_grow_string (P := Tryz.prog) w 87 9 ty 5 i0 (.int .u8 0) Tryz.underlying87 Tryz.underlying9 hi hz0 ⟨g0, 0, none⟩ n cap (bcs l) (by rw [hz1]; simpa [bcs] using hxl) holds (str m) (by omega) (by omega) (by rw [hz2]; exact growslice_fits (by omega) (by omega))
      rw [hr] at hr2
      cases hr2
      have e : w.heap.size = g := by simpa [Value.ownBlock] using hv
      exact grow w.drew l _ g o x e.symm hc

end Go.Proofs.YtgpcfncolhmgfaaGreatDoor

