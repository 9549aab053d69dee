/-
  The document's layer 4: Short, by contract.
-/
import Derived.Test.YtgpcfncolhmgfaaGreatDoorDr4
import Derived.Test.YtgpcfncolhmgfaaGreatDoorDb6
import Derived.Test.YtgpcfncolhmgfaaGreatDoorInv
namespace Go.Proofs.YtgpcfncolhmgfaaGreatDoor
open Go.RowKit
attribute [local go_sem ↓] Go.wp_at_zero Go.wp_at_succ

theorem num_field2 (b : Bool) (s t : ByteArray) (w : World) : (Instr.field 34 (.agg #[.bool b, .string s, .string t]) 2).run Tryz.prog w = .ok (.string t) w := by kernel_rfl

set_option linter.unusedSimpArgs false in
set_option maxHeartbeats 6400000 in
set_option maxRecDepth 100000 in
theorem short_any (P : Int) (Q : Nat) (many : Int) (w : World) (hQ : 0 < Q) (h1 : dl P.natAbs ≤ 40) (h2 : dl Q ≤ 40) (hm : 1 ≤ many ∧ many ≤ 40) :
    Calls Tryz.prog 13 #[.agg #[.bool (rB P), .string (rS P), .string (str (dec Q))], .int .i64 many] w fun e w' => e = .returned (.bool (shrt P Q many)) ∧ Below w.heap.size w w' := by
  have hrS : rS P = str (dec P.natAbs) := rfl
  rw [hrS]
  by_cases h0 : P = 0
  · subst h0
    have hsh : shrt 0 Q many = true := rfl
    rw [hsh]
    have hz : ((str (dec (0 : Int).natAbs)).toList == [48]) = true := by rw [dec_is0']; rfl
    have HB : Hid (Below w.heap.size w (w.alloc (.cells #[.bool false, .string (str (dec (0 : Int).natAbs)), .string (str (dec Q))] 34))) := Lib.hid ((Below.refl _ _).alloc (Nat.le_refl _) _)
    generalize str (dec (0 : Int).natAbs) = s at *
    generalize str (dec Q) = t at *
    generalize rB 0 = b at *
    clear h1 h2 hQ hsh
    go_enter Tryz.func13, Tryz.ntmps13
    go_wp2
    go_ret
    exact ⟨rfl, HB.out⟩
  · have hp : 0 < P.natAbs := by omega
    have hEb : sE P.natAbs Q ≤ 60 ∧ -61 ≤ sE P.natAbs Q := by
      have h3 := dl_pos P.natAbs
      have h4 := dl_pos Q
      unfold sE e0
      split <;> omega
    have hz : ((str (dec P.natAbs)).toList == [48]) = false := by rw [dec_is0']; exact decide_eq_false (by omega)
    have hsh : shrt P Q many = (((str (dec (ttQ (P.natAbs : Int) Q (many - 1 - sE P.natAbs Q)))).toList == [49]) && okB (str (dec P.natAbs)).data.toList) := by
      unfold shrt
      rw [decide_eq_false h0, Bool.false_or, dec_is1]
    rw [hsh]
    have OR := Lib.hid (fun wz => order4_any P.natAbs Q wz hp hQ (by omega) (by omega))
    have TT := Lib.hid (fun wz => times10_any (P.natAbs : Int) Q (many - 1 - sE P.natAbs Q) wz hQ (by rw [Int.natAbs_natCast]; omega) (by omega) (by omega))
    unfold NumTold at TT
    rw [rB_nat, rS_nat] at TT
    have RG := Lib.hid (fun wz => right_any (str (dec P.natAbs)) wz (by rw [size_dlD]; unfold maxLen; omega))
    have hw1 := IntWalk.i64_in (many - 1) (by omega)
    have hw2 := IntWalk.i64_in (many - 1 - sE P.natAbs Q) (by omega)
    have BB := Lib.hid ((Bag.start w).box3 (.bool false) (.string (str (dec P.natAbs))) (.string (str (dec Q))) 34)
    have hfd := num_field2
    generalize ttQ (P.natAbs : Int) Q (many - 1 - sE P.natAbs Q) = X2 at *
    generalize rB (ttP (P.natAbs : Int) Q (many - 1 - sE P.natAbs Q)) = b2 at *
    generalize rS (ttP (P.natAbs : Int) Q (many - 1 - sE P.natAbs Q)) = s2 at *
    generalize str (dec X2) = t2 at *
    generalize sE P.natAbs Q = E at *
    generalize okB (str (dec P.natAbs)).data.toList = ok at *
    generalize str (dec P.natAbs) = s at *
    generalize str (dec Q) = t at *
    generalize rB P = b at *
    obtain ⟨cc, hcc⟩ : ∃ c, (t2.toList == [49]) = c := ⟨_, rfl⟩
    rw [hcc]
    obtain ⟨x, hx⟩ : ∃ x, x = (cc && ok) := ⟨_, rfl⟩
    rw [← hx]
    have P1 : Hid (cc = true → x = ok) := fun h => by rw [hx, h]; rfl
    have Q1 : Hid (cc = false → x = false) := fun h => by rw [hx, h]; rfl
    clear h1 h2 hp hrS hEb hsh h0 hx hm hQ
    go_enter Tryz.func13, Tryz.ntmps13
    go_wp2_with fail
    refine wp_region_inv2 ⟨(fun j => ([[9], [10], [11], [12], [13], [14], [15], [16], [17], [18], [19], [20], [21], [22], [4]] : List (List Nat)).getD j []), (fun j => ([[], [], [1], [], [3], [1, 2, 3, 4], [0, 1, 2, 3, 4, 5], [0, 1, 2, 3, 4, 5, 6], [0, 1, 2, 3, 4, 5, 6, 7], [0, 1, 2, 3, 4, 5, 6, 7, 8], [0, 1, 2, 3, 4, 5, 6, 7, 8, 9], [0, 1, 2, 3, 4, 5, 6, 7, 8, 9, 10], [0, 1, 2, 3, 4, 5, 6, 7, 8, 9, 10, 11], [0, 1, 2, 3, 4, 5, 6, 7, 8, 9, 10, 11, 12], [0, 1, 2, 3, 4, 5, 6, 7, 8, 9, 10, 11, 12, 13]] : List (List Nat)).getD j []), []⟩ (fun jj vv yy => match jj with | 0 => vv = [some (.agg #[.bool false, .string s, .string t])] | 1 => vv = [some (.int .i64 many)] | 2 => vv = [some (.int .i64 (many - 1))] | 3 => vv = [some (.agg #[.bool false, .string s, .string t])] | 4 => vv = [some (.int .i64 E)] | 5 => vv = [some (.int .i64 (many - 1 - E))] | 6 => vv = [some (.agg #[.bool b2, .string s2, .string t2])] | 7 => vv = [some (.string t2)] | 8 => vv = [some (.bool cc)] | 9 => vv = [some (.bool cc)] | 10 => (cc = true) → (vv = [some (.pointer (some ⟨w.heap.size, 1, none⟩))]) | 11 => (cc = true) → (vv = [some (.string s)]) | 12 => (cc = true) → (vv = [some (.bool ok)]) | 13 => vv = [some (.bool x)] | 14 => vv = [some (.bool x)] | _ => True) (Bag w (fun y => Slot3 y w.heap.size (.bool false) (.string s) (.string t) ∧ True)) (by kernel_rfl) (by kernel_rfl) (by kernel_rfl) BB.out.drew ?_ ?_ ?_
    · intro jj vv yw yw2 hb h
      match jj, h with
      | 0, h => exact h
      | 1, h => exact h
      | 2, h => exact h
      | 3, h => exact h
      | 4, h => exact h
      | 5, h => exact h
      | 6, h => exact h
      | 7, h => exact h
      | 8, h => exact h
      | 9, h => exact h
      | 10, h => exact h
      | 11, h => exact h
      | 12, h => exact h
      | 13, h => exact h
      | 14, h => exact h
      | _ + 15, h => exact h
    · intro ac yw hsz hdf hold hB hp
      have t4 : ac.tmps[4]? = some (.bool x) := (List.cons.inj (hp 14 (by decide))).1
      clear hold hp
      obtain ⟨TW, hTW⟩ : ∃ TW : Nat → Value, ∀ i, (ac.tmps[i]?).getD undef = TW i := ⟨_, fun _ => rfl⟩
      have f4 := (hTW 4).symm.trans (congrArg (fun x => Option.getD x undef) t4)
      have hac := act_eq (n := 23) hsz TW hTW
      rw [show ((List.range 23).map TW).toArray = #[TW 0, TW 1, TW 2, TW 3, TW 4, TW 5, TW 6, TW 7, TW 8, TW 9, TW 10, TW 11, TW 12, TW 13, TW 14, TW 15, TW 16, TW 17, TW 18, TW 19, TW 20, TW 21, TW 22] from rfl, f4, hdf] at hac
      simp only [Option.getD_some] at hac
      subst hac
      clear hTW f4
      go_wp2
      go_ret
      exact ⟨rfl, hB.below⟩
    refine Stps2.cons (o := _) ?_ ?_
    · intro ac yw hsz hold hB hp K hK
      have t2 : ac.tmps[2]? = some (.pointer (some ⟨w.heap.size, 0, none⟩)) := hold 2 (by kernel_rfl)
      clear hold hp hsz
      have q0 := hB.now.1.cell
      have q1 := hB.now.1.cell1
      have q2 := hB.now.1.cell2
      go_simp
      exact hK.out _ _ ⟨hB, rfl, Nat.le_refl _, .inl (Below.refl _ _), fun h => absurd h (by decide)⟩
    refine Stps2.cons (o := _) ?_ ?_
    · intro ac yw hsz hold hB hp K hK
      have t1 : ac.tmps[1]? = some (.int .i64 many) := hold 1 (by kernel_rfl)
      clear hold hp hsz
      go_simp
      exact hK.out _ _ ⟨hB, rfl, Nat.le_refl _, .inl (Below.refl _ _), fun h => absurd h (by decide)⟩
    refine Stps2.cons (o := _) ?_ ?_
    · intro ac yw hsz hold hB hp K hK
      have e1 := hp 1 (by decide)
      have t10 : ac.tmps[10]? = some (.int .i64 many) := (List.cons.inj e1).1
      clear hold hp hsz e1
      go_simp
      exact hK.out _ _ ⟨hB, rfl, Nat.le_refl _, .inl (Below.refl _ _), fun h => absurd h (by decide)⟩
    refine Stps2.cons (o := _) ?_ ?_
    · intro ac yw hsz hold hB hp K hK
      have t2 : ac.tmps[2]? = some (.pointer (some ⟨w.heap.size, 0, none⟩)) := hold 2 (by kernel_rfl)
      clear hold hp hsz
      have q0 := hB.now.1.cell
      have q1 := hB.now.1.cell1
      have q2 := hB.now.1.cell2
      go_simp
      exact hK.out _ _ ⟨hB, rfl, Nat.le_refl _, .inl (Below.refl _ _), fun h => absurd h (by decide)⟩
    refine Stps2.cons (o := _) ?_ ?_
    · intro ac yw hsz hold hB hp K hK
      have e3 := hp 3 (by decide)
      have t12 : ac.tmps[12]? = some (.agg #[.bool false, .string s, .string t]) := (List.cons.inj e3).1
      clear hold hp hsz e3
      go_simp
      (go_at_call 35; (with_reducible refine (OR.out _).mono ?_); rintro e wz ⟨rfl, hbz⟩)
      exact hK.out _ _ ⟨hB.go hbz, rfl, hbz.size, .inl hbz, fun h => absurd h (by decide)⟩
    refine Stps2.cons (o := _) ?_ ?_
    · intro ac yw hsz hold hB hp K hK
      have e2 := hp 2 (by decide)
      have t11 : ac.tmps[11]? = some (.int .i64 (many - 1)) := (List.cons.inj e2).1
      have e4 := hp 4 (by decide)
      have t13 : ac.tmps[13]? = some (.int .i64 E) := (List.cons.inj e4).1
      clear hold hp hsz e2 e4
      go_simp
      exact hK.out _ _ ⟨hB, rfl, Nat.le_refl _, .inl (Below.refl _ _), fun h => absurd h (by decide)⟩
    refine Stps2.cons (o := _) ?_ ?_
    · intro ac yw hsz hold hB hp K hK
      have e0 := hp 0 (by decide)
      have t9 : ac.tmps[9]? = some (.agg #[.bool false, .string s, .string t]) := (List.cons.inj e0).1
      have e5 := hp 5 (by decide)
      have t14 : ac.tmps[14]? = some (.int .i64 (many - 1 - E)) := (List.cons.inj e5).1
      clear hold hp hsz e0 e5
      go_simp
      (go_at_call 22; (with_reducible refine (TT.out _).mono ?_); rintro e wz ⟨rfl, hbz⟩)
      exact hK.out _ _ ⟨hB.go hbz, rfl, hbz.size, .inl hbz, fun h => absurd h (by decide)⟩
    refine Stps2.cons (o := _) ?_ ?_
    · intro ac yw hsz hold hB hp K hK
      have e6 := hp 6 (by decide)
      have t15 : ac.tmps[15]? = some (.agg #[.bool b2, .string s2, .string t2]) := (List.cons.inj e6).1
      clear hold hp hsz e6
      go_simp
      exact hK.out _ _ ⟨hB, rfl, Nat.le_refl _, .inl (Below.refl _ _), fun h => absurd h (by decide)⟩
    refine Stps2.cons (o := _) ?_ ?_
    · intro ac yw hsz hold hB hp K hK
      have e7 := hp 7 (by decide)
      have t16 : ac.tmps[16]? = some (.string t2) := (List.cons.inj e7).1
      clear hold hp hsz e7
      go_simp
      exact hK.out _ _ ⟨hB, rfl, Nat.le_refl _, .inl (Below.refl _ _), fun h => absurd h (by decide)⟩
    refine Stps2.cons (o := _) ?_ ?_
    · intro ac yw hsz hold hB hp K hK
      have e8 := hp 8 (by decide)
      have t17 : ac.tmps[17]? = some (.bool cc) := (List.cons.inj e8).1
      clear hold hp hsz e8
      go_simp
      exact hK.out _ _ ⟨hB, rfl, Nat.le_refl _, .inl (Below.refl _ _), fun h => absurd h (by decide)⟩
    refine Stps2.cons (o := _) ?_ ?_
    · intro ac yw hsz hold hB hp K hK
      have t18 : ac.tmps[18]? = some (.bool cc) := (List.cons.inj (hp 9 (by decide))).1
      by_cases hc : (cc) = true
      · rw [hc] at t18
        rw [if_pos (wanted_pos rfl rfl t18)]
        have t2 : ac.tmps[2]? = some (.pointer (some ⟨w.heap.size, 0, none⟩)) := hold 2 (by kernel_rfl)
        clear hold hp hsz
        go_simp
        exact hK.out _ _ ⟨hB, fun _ => rfl, Nat.le_refl _, .inl (Below.refl _ _), fun h => absurd h (by decide)⟩
      · rw [if_neg (by rw [wanted_neg rfl rfl t18 (fun e => hc (by injection e))]; decide)]
        exact hK.out _ _ ⟨hB, fun h => absurd h hc, Nat.le_refl _, .inl (Below.refl _ _), fun h => absurd h (by decide)⟩
    refine Stps2.cons (o := _) ?_ ?_
    · intro ac yw hsz hold hB hp K hK
      have t18 : ac.tmps[18]? = some (.bool cc) := (List.cons.inj (hp 9 (by decide))).1
      by_cases hc : (cc) = true
      · rw [hc] at t18
        rw [if_pos (wanted_pos rfl rfl t18)]
        have e10 := hp 10 (by decide) hc
        have t19 : ac.tmps[19]? = some (.pointer (some ⟨w.heap.size, 1, none⟩)) := (List.cons.inj e10).1
        clear hold hp hsz e10
        have q0 := hB.now.1.cell
        have q1 := hB.now.1.cell1
        have q2 := hB.now.1.cell2
        go_simp
        exact hK.out _ _ ⟨hB, fun _ => rfl, Nat.le_refl _, .inl (Below.refl _ _), fun h => absurd h (by decide)⟩
      · rw [if_neg (by rw [wanted_neg rfl rfl t18 (fun e => hc (by injection e))]; decide)]
        exact hK.out _ _ ⟨hB, fun h => absurd h hc, Nat.le_refl _, .inl (Below.refl _ _), fun h => absurd h (by decide)⟩
    refine Stps2.cons (o := _) ?_ ?_
    · intro ac yw hsz hold hB hp K hK
      have t18 : ac.tmps[18]? = some (.bool cc) := (List.cons.inj (hp 9 (by decide))).1
      by_cases hc : (cc) = true
      · rw [hc] at t18
        rw [if_pos (wanted_pos rfl rfl t18)]
        have e11 := hp 11 (by decide) hc
        have t20 : ac.tmps[20]? = some (.string s) := (List.cons.inj e11).1
        clear hold hp hsz e11
        go_simp
        (go_at_call 36; (with_reducible refine (RG.out _).mono ?_); rintro e wz ⟨rfl, rfl⟩; have hbz := Below.refl yw.heap.size yw)
        exact hK.out _ _ ⟨hB.go hbz, fun _ => rfl, hbz.size, .inl hbz, fun h => absurd h (by decide)⟩
      · rw [if_neg (by rw [wanted_neg rfl rfl t18 (fun e => hc (by injection e))]; decide)]
        exact hK.out _ _ ⟨hB, fun h => absurd h hc, Nat.le_refl _, .inl (Below.refl _ _), fun h => absurd h (by decide)⟩
    refine Stps2.cons (o := _) ?_ ?_
    · intro ac yw hsz hold hB hp K hK
      have t18 : ac.tmps[18]? = some (.bool cc) := (List.cons.inj (hp 9 (by decide))).1
      by_cases hc : (cc) = true
      · rw [hc] at t18
        have t21 : ac.tmps[21]? = some (.bool ok) := (List.cons.inj (hp 12 (by decide) hc)).1
        clear hold hp hsz
        go_simp
        exact hK.out _ _ ⟨hB, congrArg (fun b => [some (Value.bool b)]) (P1.out hc).symm, Nat.le_refl _, .inl (Below.refl _ _), fun h => absurd h (by decide)⟩
      · have hc : (cc) = false := by simpa using hc
        rw [hc] at t18
        clear hold hp hsz
        go_simp
        exact hK.out _ _ ⟨hB, congrArg (fun b => [some (Value.bool b)]) (Q1.out hc).symm, Nat.le_refl _, .inl (Below.refl _ _), fun h => absurd h (by decide)⟩
    refine Stps2.cons (o := _) ?_ ?_
    · intro ac yw hsz hold hB hp K hK
      have e13 := hp 13 (by decide)
      have t22 : ac.tmps[22]? = some (.bool x) := (List.cons.inj e13).1
      clear hold hp hsz e13
      go_simp
      exact hK.out _ _ ⟨hB, rfl, Nat.le_refl _, .inl (Below.refl _ _), fun h => absurd h (by decide)⟩
    exact Stps2.nil _

end Go.Proofs.YtgpcfncolhmgfaaGreatDoor
