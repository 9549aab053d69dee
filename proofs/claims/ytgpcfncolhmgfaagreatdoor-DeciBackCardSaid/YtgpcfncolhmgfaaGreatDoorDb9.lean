/-
  The law DeciBack's walk.
-/
import Derived.Test.YtgpcfncolhmgfaaGreatDoorDb6
import Derived.Test.YtgpcfncolhmgfaaGreatDoorLa4
import Derived.Test.YtgpcfncolhmgfaaGreatDoorInv
namespace Go.Proofs.YtgpcfncolhmgfaaGreatDoor
open Go.RowKit
attribute [local go_sem ↓] Go.wp_at_zero Go.wp_at_succ

set_option linter.unusedSimpArgs false in
set_option maxHeartbeats 12800000 in
set_option maxRecDepth 100000 in
theorem deciBack_yes1 (b : Bool) (s t : ByteArray) (many : Int) (w : World) (h : rd4 b s t = true) (hm : 1 ≤ many ∧ many ≤ 40) (hsh : shrt (ofP b s t) (ofQ b s t) many = true)
    (ST : Hid (∀ wz, Calls Tryz.prog 13 #[.agg #[.bool (rB (ofP b s t)), .string (rS (ofP b s t)), .string (str (dec (ofQ b s t)))], .int .i64 many] wz fun e w' => e = .returned (.bool (shrt (ofP b s t) (ofQ b s t) many)) ∧ Below wz.heap.size wz w')) :
    Calls Tryz.prog 4 #[.agg #[.bool b, .string s, .string t], .int .i64 many] w fun e w' => e = .returned (.bool true) ∧ Below w.heap.size w w' := by
  have R1 := Lib.hid (fun wz => read4_yes b s t wz h)
  unfold RatTold3 at R1
  obtain ⟨e1, e2, e3, hQ, hcop, hd1, hd2, hk1, hk2⟩ := rd4_spec h
  clear h
  generalize ofP b s t = P at *
  generalize ofQ b s t = Q at *
  subst e1 e2 e3
  have BB := Lib.hid ((Bag.start w).box3 (.bool (rB P)) (.string (rS P)) (.string (str (dec Q))) 34)
  obtain ⟨T, P', Q', hok, hTl, hS, hK, hE, hP', hQ', hq0, hl1, hl2, hl3, hl4, hS', hback⟩ := back_all hQ hcop hd1 hd2 hm
  rw [hsh] at ST hback
  obtain ⟨hz1, hz2⟩ := hback rfl
  have hz1 := hz1.symm
  have hz2 := hz2.symm
  subst hz1 hz2
  have up : ∀ x : Nat, x < 4294967296 ^ 5 → x < 4294967296 ^ 200 := fun x g => Nat.lt_of_lt_of_le g (Nat.pow_le_pow_right (by omega) (by omega))
  have SH := Lib.hid (fun a n c m a2 n2 c2 wz h => deShow_any a n c m a2 n2 c2 P Q many wz h hQ 200 (by omega) (by omega) (up _ hk1) (up _ hk2) (by omega) (by omega) (by omega) (by omega))
  have SH' := Lib.hid (fun a n c m a2 n2 c2 wz h => deShow_any a n c m a2 n2 c2 P Q many wz h hq0 200 (by omega) (by omega) hl3 hl4 (by omega) (by omega) (by omega) (by omega))
  have RD : Hid (∀ a n c (wz : World), KRow wz .i32 a n c (rowF T) → n = T.length → Calls Tryz.prog 6 #[.slice a n c, .int .i64 0] wz fun e w' => RdTold wz w' e P Q T.length true) := Lib.hid (fun a n c wz h hn => by
    subst hn
    have := deRead_any a T.length c (rowF T) 0 wz h (by omega)
    rw [hK, if_pos rfl, if_pos rfl, if_pos rfl, hE, hP', hQ'] at this
    exact this)
  unfold RdTold at RD
  have NM := Lib.hid (fun a n c m a2 n2 c2 wz h => num_any a n c m a2 n2 c2 P Q wz h hq0 200 (by omega) hl3 hl4)
  unfold NumTold at NM
  rw [hS] at SH
  rw [hS'] at SH'
  have CI := Lib.hid (fun wz => conv_in wz T hok hTl)
  have CO := Lib.hid (fun (wz : World) b cp h => conv_out (w := wz) hok (b := b) (cp := cp) h)
  have d1 : decide (many < 1) = false := decide_eq_false (by omega)
  have d2 : decide (40 < many) = false := decide_eq_false (by omega)
  clear up hd1 hd2 hk1 hk2 hQ hS hK hE hP' hQ' hq0 hl1 hl2 hl3 hl4 hS' hback hm hcop hTl hsh hok
  generalize str (encL T) = tx at *
  generalize rB P = pb at *
  generalize rS P = ps at *
  generalize str (dec Q) = q at *
  have q0 := BB.out.now.1.cell
  have q1 := BB.out.now.1.cell1
  have q2 := BB.out.now.1.cell2
  go_enter Tryz.func4, Tryz.ntmps4
  go_wp2_with fail
  go_at_call 11
  (with_reducible refine (R1.out _).mono ?_)
  rintro e w1 ⟨a, n, c, m, a2, n2, c2, rfl, hr1, hb1⟩
  have BB := Lib.hid (((BB.out.go hb1).rat hr1).box3 (.slice a n c) (.bool m) (.slice a2 n2 c2) 30)
  clear hr1 hb1 q0 q1 q2 R1
  go_wp2_with fail
  go_at_call 12
  (with_reducible refine (SH.out _ _ _ _ _ _ _ _ BB.out.now.2.1).mono ?_)
  rintro e w2 ⟨rfl, hb2⟩
  have BB := Lib.hid (BB.out.go hb2)
  clear hb2 SH
  obtain ⟨cp, hc1, hc2, hcv⟩ := CI.out w2
  have hrow := conv_row hc1 hc2 (BB.out.newRow (chs T cp) 21).drew.now.1
  have BB := Lib.hid ((BB.out.alloc (.cells (chs T cp) 21)).drew.krow hrow)
  clear hrow CI
  go_wp2_with fail
  clear hcv hc1 hc2
  go_at_call 6
  (with_reducible refine (RD.out _ _ _ _ BB.out.now.1 rfl).mono ?_)
  rintro e w3 ⟨f, k, l, v, f2, k2, l2, rfl, hr3, hb3⟩
  have BB := Lib.hid (((BB.out.go hb3).rat hr3).box3 (.slice f k l) (.bool v) (.slice f2 k2 l2) 30)
  clear hr3 hb3 RD
  go_wp2_with fail
  refine wp_region_inv2 ⟨(fun j => ([[37], [38], [39], [40], [41], [42], [43], [44], [45], [46], [47], [48], [49], [50], [51], [52], [53], [54], [55]] : List (List Nat)).getD j []), (fun j => ([[], [0], [0, 1], [0, 1, 2], [0, 1, 2], [0, 1, 2, 4], [0, 1, 2, 3, 4, 5], [0, 1, 2, 3, 4, 5, 6], [0, 1, 2, 3, 4, 5, 6, 7], [0, 1, 2, 3, 4, 5, 6, 7, 8], [0, 1, 2, 3, 4, 5, 6, 7, 8], [0, 1, 2, 3, 4, 5, 6, 7, 8, 9, 10], [0, 1, 2, 3, 4, 5, 6, 7, 8, 9, 10, 11], [0, 1, 2, 3, 4, 5, 6, 7, 8, 9, 10, 11, 12], [0, 1, 2, 3, 4, 5, 6, 7, 8, 9, 10, 11, 12, 13], [0, 1, 2, 3, 4, 5, 6, 7, 8, 9, 10, 11, 12], [0, 1, 2, 3, 4, 5, 6, 7, 8, 9, 10, 11, 12, 13, 14, 15], [0, 1, 2, 3, 4, 5, 6, 7, 8, 9, 10, 11, 12, 13, 14, 15, 16], [0, 1, 2, 3, 4, 5, 6, 7, 8, 9, 10, 11, 12, 13, 14, 15, 16, 17]] : List (List Nat)).getD j []), []⟩ (fun jj vv yy => match jj with | 0 => vv = [some (.bool true)] | 1 => vv = [some (.bool false)] | 2 => vv = [some (.bool false)] | 3 => vv = [some (.int .i64 ((T.length : Nat) : Int))] | 4 => vv = [some (.slice (some ⟨w2.heap.size, 0, none⟩) T.length cp)] | 5 => vv = [some (.int .i64 ((T.length : Nat) : Int))] | 6 => vv = [some (.bool false)] | 7 => vv = [some (.bool false)] | 8 => vv = [some (.bool false)] | 9 => vv = [some (.agg #[.bool pb, .string ps, .string q])] | 10 => vv = [some (.int .i64 many)] | 11 => vv = [some (.bool true)] | 12 => vv = [some (.bool true)] | 13 => vv = [some (.agg #[.slice f k l, .bool v, .slice f2 k2 l2])] | 14 => vv = [some (.agg #[.bool pb, .string ps, .string q])] | 15 => vv = [some (.agg #[.bool pb, .string ps, .string q])] | 16 => vv = [some (.bool false)] | 17 => vv = [some (.bool false)] | 18 => vv = [some (.bool false)] | _ => True) (Bag w (fun y => Slot3 y w3.heap.size (.slice f k l) (.bool v) (.slice f2 k2 l2) ∧ RatAt y f k l v f2 k2 l2 P Q ∧ KRow y .i32 (some ⟨w2.heap.size, 0, none⟩) T.length cp (rowF T) ∧ Slot3 y w1.heap.size (.slice a n c) (.bool m) (.slice a2 n2 c2) ∧ RatAt y a n c m a2 n2 c2 P Q ∧ Slot3 y w.heap.size (.bool pb) (.string ps) (.string q) ∧ True)) (by kernel_rfl) (by kernel_rfl) (by kernel_rfl) BB.out.drew ?_ ?_ ?_
  · intro jj vv yw yw2 hb h
    match jj, h with
    | 0, h => exact h
    | 1, h => exact h
    | 2, h => exact h
    | 3, h => exact h
    | 4, h => exact h
    | 5, h => exact h
    | 6, h => exact h
    | 7, h => exact h
    | 8, h => exact h
    | 9, h => exact h
    | 10, h => exact h
    | 11, h => exact h
    | 12, h => exact h
    | 13, h => exact h
    | 14, h => exact h
    | 15, h => exact h
    | 16, h => exact h
    | 17, h => exact h
    | 18, h => exact h
    | _ + 19, h => exact h
  · intro ac yw hsz hdf hold hB hp
    have t55 : ac.tmps[55]? = some (.bool false) := (List.cons.inj (hp 18 (by decide))).1
    have t1 : ac.tmps[1]? = some (.int .i64 many) := hold 1 (by kernel_rfl)
    have t7 : ac.tmps[7]? = some (.slice (some ⟨w2.heap.size, 0, none⟩) T.length cp) := hold 7 (by kernel_rfl)
    have t8 : ac.tmps[8]? = some (.pointer (some ⟨w3.heap.size, 0, none⟩)) := hold 8 (by kernel_rfl)
    clear hold hp
    obtain ⟨TV, hTV⟩ : ∃ TV : Nat → Value, ∀ i, (ac.tmps[i]?).getD undef = TV i := ⟨_, fun _ => rfl⟩
    have f1 := (hTV 1).symm.trans (congrArg (fun x => Option.getD x undef) t1)
    have f7 := (hTV 7).symm.trans (congrArg (fun x => Option.getD x undef) t7)
    have f8 := (hTV 8).symm.trans (congrArg (fun x => Option.getD x undef) t8)
    have f55 := (hTV 55).symm.trans (congrArg (fun x => Option.getD x undef) t55)
    have hac := act_eq (n := 65) hsz TV hTV
    rw [show ((List.range 65).map TV).toArray = #[TV 0, TV 1, TV 2, TV 3, TV 4, TV 5, TV 6, TV 7, TV 8, TV 9, TV 10, TV 11, TV 12, TV 13, TV 14, TV 15, TV 16, TV 17, TV 18, TV 19, TV 20, TV 21, TV 22, TV 23, TV 24, TV 25, TV 26, TV 27, TV 28, TV 29, TV 30, TV 31, TV 32, TV 33, TV 34, TV 35, TV 36, TV 37, TV 38, TV 39, TV 40, TV 41, TV 42, TV 43, TV 44, TV 45, TV 46, TV 47, TV 48, TV 49, TV 50, TV 51, TV 52, TV 53, TV 54, TV 55, TV 56, TV 57, TV 58, TV 59, TV 60, TV 61, TV 62, TV 63, TV 64] from rfl, f1, f7, f8, f55, hdf] at hac
    simp only [Option.getD_some] at hac
    subst hac
    clear hTV f1 f7 f8 f55
    have BB := Lib.hid hB
    clear hB t1 t7 t8 t55 ST NM
    go_wp2_with fail
    refine wp_region_inv2 ⟨(fun j => ([[56], [57], [58], [59], [60], [61], [62], [63], [64], [4]] : List (List Nat)).getD j []), (fun j => ([[], [], [0, 1], [], [3], [0, 1, 2, 3, 4], [0, 1, 2, 3, 4, 5], [0, 1, 2, 3, 4, 5, 6], [0, 1, 2, 3, 4, 5, 6, 7], [0, 1, 2, 3, 4, 5, 6, 7, 8]] : List (List Nat)).getD j []), []⟩ (fun jj vv yy => match jj with | 0 => vv = [some (.agg #[.slice f k l, .bool v, .slice f2 k2 l2])] | 1 => vv = [some (.int .i64 many)] | 2 => vv = [some (.string tx)] | 3 => vv = [some (.slice (some ⟨w2.heap.size, 0, none⟩) T.length cp)] | 4 => vv = [some (.string tx)] | 5 => vv = [some (.bool true)] | 6 => vv = [some (.bool true)] | 7 => vv = [some (.bool true)] | 8 => vv = [some (.bool true)] | 9 => vv = [some (.bool true)] | _ => True) (Bag w (fun y => Slot3 y w3.heap.size (.slice f k l) (.bool v) (.slice f2 k2 l2) ∧ RatAt y f k l v f2 k2 l2 P Q ∧ KRow y .i32 (some ⟨w2.heap.size, 0, none⟩) T.length cp (rowF T) ∧ Slot3 y w1.heap.size (.slice a n c) (.bool m) (.slice a2 n2 c2) ∧ RatAt y a n c m a2 n2 c2 P Q ∧ Slot3 y w.heap.size (.bool pb) (.string ps) (.string q) ∧ True)) (by kernel_rfl) (by kernel_rfl) (by kernel_rfl) BB.out.drew ?_ ?_ ?_
    · intro jj vv yw yw2 hb h
      match jj, h with
      | 0, h => exact h
      | 1, h => exact h
      | 2, h => exact h
      | 3, h => exact h
      | 4, h => exact h
      | 5, h => exact h
      | 6, h => exact h
      | 7, h => exact h
      | 8, h => exact h
      | 9, h => exact h
      | _ + 10, h => exact h
    · intro ac yw hsz hdf hold hB hp
      have t4 : ac.tmps[4]? = some (.bool true) := (List.cons.inj (hp 9 (by decide))).1
      clear hold hp
      obtain ⟨TW, hTW⟩ : ∃ TW : Nat → Value, ∀ i, (ac.tmps[i]?).getD undef = TW i := ⟨_, fun _ => rfl⟩
      have f4 := (hTW 4).symm.trans (congrArg (fun x => Option.getD x undef) t4)
      have hac := act_eq (n := 65) hsz TW hTW
      rw [show ((List.range 65).map TW).toArray = #[TW 0, TW 1, TW 2, TW 3, TW 4, TW 5, TW 6, TW 7, TW 8, TW 9, TW 10, TW 11, TW 12, TW 13, TW 14, TW 15, TW 16, TW 17, TW 18, TW 19, TW 20, TW 21, TW 22, TW 23, TW 24, TW 25, TW 26, TW 27, TW 28, TW 29, TW 30, TW 31, TW 32, TW 33, TW 34, TW 35, TW 36, TW 37, TW 38, TW 39, TW 40, TW 41, TW 42, TW 43, TW 44, TW 45, TW 46, TW 47, TW 48, TW 49, TW 50, TW 51, TW 52, TW 53, TW 54, TW 55, TW 56, TW 57, TW 58, TW 59, TW 60, TW 61, TW 62, TW 63, TW 64] from rfl, f4, hdf] at hac
      simp only [Option.getD_some] at hac
      subst hac
      clear hTW f4
      go_wp2
      go_ret
      exact ⟨rfl, hB.below⟩
    refine Stps2.cons (o := _) ?_ ?_
    · intro ac yw hsz hold hB hp K hK
      have t8 : ac.tmps[8]? = some (.pointer (some ⟨w3.heap.size, 0, none⟩)) := hold 8 (by kernel_rfl)
      clear hold hp hsz
      have v0 := hB.now.1.cell
      have v1 := hB.now.1.cell1
      have v2 := hB.now.1.cell2
      go_simp
      exact hK.out _ _ ⟨hB, rfl, Nat.le_refl _, .inl (Below.refl _ _), fun h => absurd h (by decide)⟩
    refine Stps2.cons (o := _) ?_ ?_
    · intro ac yw hsz hold hB hp K hK
      have t1 : ac.tmps[1]? = some (.int .i64 many) := hold 1 (by kernel_rfl)
      clear hold hp hsz
      go_simp
      exact hK.out _ _ ⟨hB, rfl, Nat.le_refl _, .inl (Below.refl _ _), fun h => absurd h (by decide)⟩
    refine Stps2.cons (o := _) ?_ ?_
    · intro ac yw hsz hold hB hp K hK
      have e0 := hp 0 (by decide)
      have t56 : ac.tmps[56]? = some (.agg #[.slice f k l, .bool v, .slice f2 k2 l2]) := (List.cons.inj e0).1
      have e1 := hp 1 (by decide)
      have t57 : ac.tmps[57]? = some (.int .i64 many) := (List.cons.inj e1).1
      clear hold hp hsz e0 e1
      go_simp
      (go_at_call 12; (with_reducible refine (SH'.out _ _ _ _ _ _ _ _ hB.now.2.1).mono ?_); rintro e wz ⟨rfl, hbz⟩)
      exact hK.out _ _ ⟨hB.go hbz, rfl, hbz.size, .inl hbz, fun h => absurd h (by decide)⟩
    refine Stps2.cons (o := _) ?_ ?_
    · intro ac yw hsz hold hB hp K hK
      have t7 : ac.tmps[7]? = some (.slice (some ⟨w2.heap.size, 0, none⟩) T.length cp) := hold 7 (by kernel_rfl)
      clear hold hp hsz
      go_simp
      exact hK.out _ _ ⟨hB, rfl, Nat.le_refl _, .inl (Below.refl _ _), fun h => absurd h (by decide)⟩
    refine Stps2.cons (o := _) ?_ ?_
    · intro ac yw hsz hold hB hp K hK
      have e3 := hp 3 (by decide)
      have t59 : ac.tmps[59]? = some (.slice (some ⟨w2.heap.size, 0, none⟩) T.length cp) := (List.cons.inj e3).1
      clear hold hp hsz e3
      have hcv := CO.out yw _ _ hB.now.2.2.1
      go_simp
      exact hK.out _ _ ⟨hB, rfl, Nat.le_refl _, .inl (Below.refl _ _), fun h => absurd h (by decide)⟩
    refine Stps2.cons (o := _) ?_ ?_
    · intro ac yw hsz hold hB hp K hK
      have e2 := hp 2 (by decide)
      have t58 : ac.tmps[58]? = some (.string tx) := (List.cons.inj e2).1
      have e4 := hp 4 (by decide)
      have t60 : ac.tmps[60]? = some (.string tx) := (List.cons.inj e4).1
      clear hold hp hsz e2 e4
      go_simp
      exact hK.out _ _ ⟨hB, rfl, Nat.le_refl _, .inl (Below.refl _ _), fun h => absurd h (by decide)⟩
    refine Stps2.cons (o := _) ?_ ?_
    · intro ac yw hsz hold hB hp K hK
      have e5 := hp 5 (by decide)
      have t61 : ac.tmps[61]? = some (.bool true) := (List.cons.inj e5).1
      clear hold hp hsz e5
      go_simp
      exact hK.out _ _ ⟨hB, rfl, Nat.le_refl _, .inl (Below.refl _ _), fun h => absurd h (by decide)⟩
    refine Stps2.cons (o := _) ?_ ?_
    · intro ac yw hsz hold hB hp K hK
      have t62 : ac.tmps[62]? = some (.bool true) := (List.cons.inj (hp 6 (by decide))).1
      rw [if_pos (wanted_pos rfl rfl t62)]
      clear hold hp hsz
      go_simp
      (go_at_call 5; refine (awake4_any _).mono ?_; rintro e wz ⟨rfl, hbz⟩)
      exact hK.out _ _ ⟨hB.go hbz, rfl, hbz.size, .inl hbz, fun h => absurd h (by decide)⟩
    refine Stps2.cons (o := _) ?_ ?_
    · intro ac yw hsz hold hB hp K hK
      have e6 := hp 6 (by decide)
      have t62 : ac.tmps[62]? = some (.bool true) := (List.cons.inj e6).1
      have e7 := hp 7 (by decide)
      have t63 : ac.tmps[63]? = some (.bool true) := (List.cons.inj e7).1
      clear hold hp hsz e6 e7
      go_simp
      exact hK.out _ _ ⟨hB, rfl, Nat.le_refl _, .inl (Below.refl _ _), fun h => absurd h (by decide)⟩
    refine Stps2.cons (o := _) ?_ ?_
    · intro ac yw hsz hold hB hp K hK
      have e8 := hp 8 (by decide)
      have t64 : ac.tmps[64]? = some (.bool true) := (List.cons.inj e8).1
      clear hold hp hsz e8
      go_simp
      exact hK.out _ _ ⟨hB, rfl, Nat.le_refl _, .inl (Below.refl _ _), fun h => absurd h (by decide)⟩
    exact Stps2.nil _
  refine Stps2.cons (o := _) ?_ ?_
  · intro ac yw hsz hold hB hp K hK
    have t10 : ac.tmps[10]? = some (.bool true) := hold 10 (by kernel_rfl)
    clear hold hp hsz
    go_simp
    exact hK.out _ _ ⟨hB, rfl, Nat.le_refl _, .inl (Below.refl _ _), fun h => absurd h (by decide)⟩
  refine Stps2.cons (o := _) ?_ ?_
  · intro ac yw hsz hold hB hp K hK
    have e0 := hp 0 (by decide)
    have t37 : ac.tmps[37]? = some (.bool true) := (List.cons.inj e0).1
    clear hold hp hsz e0
    go_simp
    exact hK.out _ _ ⟨hB, rfl, Nat.le_refl _, .inl (Below.refl _ _), fun h => absurd h (by decide)⟩
  refine Stps2.cons (o := _) ?_ ?_
  · intro ac yw hsz hold hB hp K hK
    have e1 := hp 1 (by decide)
    have t38 : ac.tmps[38]? = some (.bool false) := (List.cons.inj e1).1
    clear hold hp hsz e1
    go_simp
    exact hK.out _ _ ⟨hB, rfl, Nat.le_refl _, .inl (Below.refl _ _), fun h => absurd h (by decide)⟩
  refine Stps2.cons (o := _) ?_ ?_
  · intro ac yw hsz hold hB hp K hK
    have t39 : ac.tmps[39]? = some (.bool false) := (List.cons.inj (hp 2 (by decide))).1
    rw [if_pos (wanted_pos rfl rfl t39)]
    have t9 : ac.tmps[9]? = some (.int .i64 ((T.length : Nat) : Int)) := hold 9 (by kernel_rfl)
    clear hold hp hsz
    go_simp
    exact hK.out _ _ ⟨hB, rfl, Nat.le_refl _, .inl (Below.refl _ _), fun h => absurd h (by decide)⟩
  refine Stps2.cons (o := _) ?_ ?_
  · intro ac yw hsz hold hB hp K hK
    have t39 : ac.tmps[39]? = some (.bool false) := (List.cons.inj (hp 2 (by decide))).1
    rw [if_pos (wanted_pos rfl rfl t39)]
    have t7 : ac.tmps[7]? = some (.slice (some ⟨w2.heap.size, 0, none⟩) T.length cp) := hold 7 (by kernel_rfl)
    clear hold hp hsz
    go_simp
    exact hK.out _ _ ⟨hB, rfl, Nat.le_refl _, .inl (Below.refl _ _), fun h => absurd h (by decide)⟩
  refine Stps2.cons (o := _) ?_ ?_
  · intro ac yw hsz hold hB hp K hK
    have t39 : ac.tmps[39]? = some (.bool false) := (List.cons.inj (hp 2 (by decide))).1
    rw [if_pos (wanted_pos rfl rfl t39)]
    have e4 := hp 4 (by decide)
    have t41 : ac.tmps[41]? = some (.slice (some ⟨w2.heap.size, 0, none⟩) T.length cp) := (List.cons.inj e4).1
    clear hold hp hsz e4
    go_simp
    exact hK.out _ _ ⟨hB, rfl, Nat.le_refl _, .inl (Below.refl _ _), fun h => absurd h (by decide)⟩
  refine Stps2.cons (o := _) ?_ ?_
  · intro ac yw hsz hold hB hp K hK
    have t39 : ac.tmps[39]? = some (.bool false) := (List.cons.inj (hp 2 (by decide))).1
    rw [if_pos (wanted_pos rfl rfl t39)]
    have e3 := hp 3 (by decide)
    have t40 : ac.tmps[40]? = some (.int .i64 ((T.length : Nat) : Int)) := (List.cons.inj e3).1
    have e5 := hp 5 (by decide)
    have t42 : ac.tmps[42]? = some (.int .i64 ((T.length : Nat) : Int)) := (List.cons.inj e5).1
    clear hold hp hsz e3 e5
    go_simp
    exact hK.out _ _ ⟨hB, rfl, Nat.le_refl _, .inl (Below.refl _ _), fun h => absurd h (by decide)⟩
  refine Stps2.cons (o := _) ?_ ?_
  · intro ac yw hsz hold hB hp K hK
    have e2 := hp 2 (by decide)
    have t39 : ac.tmps[39]? = some (.bool false) := (List.cons.inj e2).1
    have e6 := hp 6 (by decide)
    have t43 : ac.tmps[43]? = some (.bool false) := (List.cons.inj e6).1
    clear hold hp hsz e2 e6
    go_simp
    exact hK.out _ _ ⟨hB, rfl, Nat.le_refl _, .inl (Below.refl _ _), fun h => absurd h (by decide)⟩
  refine Stps2.cons (o := _) ?_ ?_
  · intro ac yw hsz hold hB hp K hK
    have e7 := hp 7 (by decide)
    have t44 : ac.tmps[44]? = some (.bool false) := (List.cons.inj e7).1
    clear hold hp hsz e7
    go_simp
    exact hK.out _ _ ⟨hB, rfl, Nat.le_refl _, .inl (Below.refl _ _), fun h => absurd h (by decide)⟩
  refine Stps2.cons (o := _) ?_ ?_
  · intro ac yw hsz hold hB hp K hK
    have t45 : ac.tmps[45]? = some (.bool false) := (List.cons.inj (hp 8 (by decide))).1
    rw [if_pos (wanted_pos rfl rfl t45)]
    have t2 : ac.tmps[2]? = some (.pointer (some ⟨w.heap.size, 0, none⟩)) := hold 2 (by kernel_rfl)
    clear hold hp hsz
    have v0 := hB.now.1.cell
    have v1 := hB.now.1.cell1
    have v2 := hB.now.1.cell2
    have v3 := hB.now.2.2.2.2.2.1.cell
    have v4 := hB.now.2.2.2.2.2.1.cell1
    have v5 := hB.now.2.2.2.2.2.1.cell2
    go_simp
    exact hK.out _ _ ⟨hB, rfl, Nat.le_refl _, .inl (Below.refl _ _), fun h => absurd h (by decide)⟩
  refine Stps2.cons (o := _) ?_ ?_
  · intro ac yw hsz hold hB hp K hK
    have t45 : ac.tmps[45]? = some (.bool false) := (List.cons.inj (hp 8 (by decide))).1
    rw [if_pos (wanted_pos rfl rfl t45)]
    have t1 : ac.tmps[1]? = some (.int .i64 many) := hold 1 (by kernel_rfl)
    clear hold hp hsz
    go_simp
    exact hK.out _ _ ⟨hB, rfl, Nat.le_refl _, .inl (Below.refl _ _), fun h => absurd h (by decide)⟩
  refine Stps2.cons (o := _) ?_ ?_
  · intro ac yw hsz hold hB hp K hK
    have t45 : ac.tmps[45]? = some (.bool false) := (List.cons.inj (hp 8 (by decide))).1
    rw [if_pos (wanted_pos rfl rfl t45)]
    have e9 := hp 9 (by decide)
    have t46 : ac.tmps[46]? = some (.agg #[.bool pb, .string ps, .string q]) := (List.cons.inj e9).1
    have e10 := hp 10 (by decide)
    have t47 : ac.tmps[47]? = some (.int .i64 many) := (List.cons.inj e10).1
    clear hold hp hsz e9 e10
    go_simp
    (go_at_call 13; (with_reducible refine (ST.out _).mono ?_); rintro e wz ⟨rfl, hbz⟩)
    exact hK.out _ _ ⟨hB.go hbz, rfl, hbz.size, .inl hbz, fun h => absurd h (by decide)⟩
  refine Stps2.cons (o := _) ?_ ?_
  · intro ac yw hsz hold hB hp K hK
    have t45 : ac.tmps[45]? = some (.bool false) := (List.cons.inj (hp 8 (by decide))).1
    rw [if_pos (wanted_pos rfl rfl t45)]
    have e11 := hp 11 (by decide)
    have t48 : ac.tmps[48]? = some (.bool true) := (List.cons.inj e11).1
    clear hold hp hsz e11
    go_simp
    exact hK.out _ _ ⟨hB, rfl, Nat.le_refl _, .inl (Below.refl _ _), fun h => absurd h (by decide)⟩
  refine Stps2.cons (o := _) ?_ ?_
  · intro ac yw hsz hold hB hp K hK
    have t49 : ac.tmps[49]? = some (.bool true) := (List.cons.inj (hp 12 (by decide))).1
    rw [if_pos (wanted_pos rfl rfl t49)]
    have t8 : ac.tmps[8]? = some (.pointer (some ⟨w3.heap.size, 0, none⟩)) := hold 8 (by kernel_rfl)
    clear hold hp hsz
    have v0 := hB.now.1.cell
    have v1 := hB.now.1.cell1
    have v2 := hB.now.1.cell2
    have v3 := hB.now.2.2.2.2.2.1.cell
    have v4 := hB.now.2.2.2.2.2.1.cell1
    have v5 := hB.now.2.2.2.2.2.1.cell2
    go_simp
    exact hK.out _ _ ⟨hB, rfl, Nat.le_refl _, .inl (Below.refl _ _), fun h => absurd h (by decide)⟩
  refine Stps2.cons (o := _) ?_ ?_
  · intro ac yw hsz hold hB hp K hK
    have t49 : ac.tmps[49]? = some (.bool true) := (List.cons.inj (hp 12 (by decide))).1
    rw [if_pos (wanted_pos rfl rfl t49)]
    have e13 := hp 13 (by decide)
    have t50 : ac.tmps[50]? = some (.agg #[.slice f k l, .bool v, .slice f2 k2 l2]) := (List.cons.inj e13).1
    clear hold hp hsz e13
    go_simp
    (go_at_call 10; (with_reducible refine (NM.out _ _ _ _ _ _ _ _ hB.now.2.1).mono ?_); rintro e wz ⟨rfl, hbz⟩)
    exact hK.out _ _ ⟨hB.go hbz, rfl, hbz.size, .inl hbz, fun h => absurd h (by decide)⟩
  refine Stps2.cons (o := _) ?_ ?_
  · intro ac yw hsz hold hB hp K hK
    have t49 : ac.tmps[49]? = some (.bool true) := (List.cons.inj (hp 12 (by decide))).1
    rw [if_pos (wanted_pos rfl rfl t49)]
    have t2 : ac.tmps[2]? = some (.pointer (some ⟨w.heap.size, 0, none⟩)) := hold 2 (by kernel_rfl)
    clear hold hp hsz
    have v0 := hB.now.1.cell
    have v1 := hB.now.1.cell1
    have v2 := hB.now.1.cell2
    have v3 := hB.now.2.2.2.2.2.1.cell
    have v4 := hB.now.2.2.2.2.2.1.cell1
    have v5 := hB.now.2.2.2.2.2.1.cell2
    go_simp
    exact hK.out _ _ ⟨hB, rfl, Nat.le_refl _, .inl (Below.refl _ _), fun h => absurd h (by decide)⟩
  refine Stps2.cons (o := _) ?_ ?_
  · intro ac yw hsz hold hB hp K hK
    have t49 : ac.tmps[49]? = some (.bool true) := (List.cons.inj (hp 12 (by decide))).1
    rw [if_pos (wanted_pos rfl rfl t49)]
    have e14 := hp 14 (by decide)
    have t51 : ac.tmps[51]? = some (.agg #[.bool pb, .string ps, .string q]) := (List.cons.inj e14).1
    have e15 := hp 15 (by decide)
    have t52 : ac.tmps[52]? = some (.agg #[.bool pb, .string ps, .string q]) := (List.cons.inj e15).1
    clear hold hp hsz e14 e15
    go_simp
    exact hK.out _ _ ⟨hB, rfl, Nat.le_refl _, .inl (Below.refl _ _), fun h => absurd h (by decide)⟩
  refine Stps2.cons (o := _) ?_ ?_
  · intro ac yw hsz hold hB hp K hK
    have t45 : ac.tmps[45]? = some (.bool false) := (List.cons.inj (hp 8 (by decide))).1
    rw [if_pos (wanted_pos rfl rfl t45)]
    have e12 := hp 12 (by decide)
    have t49 : ac.tmps[49]? = some (.bool true) := (List.cons.inj e12).1
    have e16 := hp 16 (by decide)
    have t53 : ac.tmps[53]? = some (.bool false) := (List.cons.inj e16).1
    clear hold hp hsz e12 e16
    go_simp
    exact hK.out _ _ ⟨hB, rfl, Nat.le_refl _, .inl (Below.refl _ _), fun h => absurd h (by decide)⟩
  refine Stps2.cons (o := _) ?_ ?_
  · intro ac yw hsz hold hB hp K hK
    have e8 := hp 8 (by decide)
    have t45 : ac.tmps[45]? = some (.bool false) := (List.cons.inj e8).1
    have e17 := hp 17 (by decide)
    have t54 : ac.tmps[54]? = some (.bool false) := (List.cons.inj e17).1
    clear hold hp hsz e8 e17
    go_simp
    exact hK.out _ _ ⟨hB, rfl, Nat.le_refl _, .inl (Below.refl _ _), fun h => absurd h (by decide)⟩
  exact Stps2.nil _

set_option linter.unusedSimpArgs false in
set_option maxHeartbeats 12800000 in
set_option maxRecDepth 100000 in
theorem deciBack_yes0 (b : Bool) (s t : ByteArray) (many : Int) (w : World) (h : rd4 b s t = true) (hm : 1 ≤ many ∧ many ≤ 40) (hsh : shrt (ofP b s t) (ofQ b s t) many = false)
    (ST : Hid (∀ wz, Calls Tryz.prog 13 #[.agg #[.bool (rB (ofP b s t)), .string (rS (ofP b s t)), .string (str (dec (ofQ b s t)))], .int .i64 many] wz fun e w' => e = .returned (.bool (shrt (ofP b s t) (ofQ b s t) many)) ∧ Below wz.heap.size wz w')) :
    Calls Tryz.prog 4 #[.agg #[.bool b, .string s, .string t], .int .i64 many] w fun e w' => e = .returned (.bool true) ∧ Below w.heap.size w w' := by
  have R1 := Lib.hid (fun wz => read4_yes b s t wz h)
  unfold RatTold3 at R1
  obtain ⟨e1, e2, e3, hQ, hcop, hd1, hd2, hk1, hk2⟩ := rd4_spec h
  clear h
  generalize ofP b s t = P at *
  generalize ofQ b s t = Q at *
  subst e1 e2 e3
  have BB := Lib.hid ((Bag.start w).box3 (.bool (rB P)) (.string (rS P)) (.string (str (dec Q))) 34)
  obtain ⟨T, P', Q', hok, hTl, hS, hK, hE, hP', hQ', hq0, hl1, hl2, hl3, hl4, hS', hback⟩ := back_all hQ hcop hd1 hd2 hm
  rw [hsh] at ST hback
  have up : ∀ x : Nat, x < 4294967296 ^ 5 → x < 4294967296 ^ 200 := fun x g => Nat.lt_of_lt_of_le g (Nat.pow_le_pow_right (by omega) (by omega))
  have SH := Lib.hid (fun a n c m a2 n2 c2 wz h => deShow_any a n c m a2 n2 c2 P Q many wz h hQ 200 (by omega) (by omega) (up _ hk1) (up _ hk2) (by omega) (by omega) (by omega) (by omega))
  have SH' := Lib.hid (fun a n c m a2 n2 c2 wz h => deShow_any a n c m a2 n2 c2 P' Q' many wz h hq0 200 (by omega) (by omega) hl3 hl4 (by omega) (by omega) (by omega) (by omega))
  have RD : Hid (∀ a n c (wz : World), KRow wz .i32 a n c (rowF T) → n = T.length → Calls Tryz.prog 6 #[.slice a n c, .int .i64 0] wz fun e w' => RdTold wz w' e P' Q' T.length true) := Lib.hid (fun a n c wz h hn => by
    subst hn
    have := deRead_any a T.length c (rowF T) 0 wz h (by omega)
    rw [hK, if_pos rfl, if_pos rfl, if_pos rfl, hE, hP', hQ'] at this
    exact this)
  unfold RdTold at RD
  have NM := Lib.hid (fun a n c m a2 n2 c2 wz h => num_any a n c m a2 n2 c2 P' Q' wz h hq0 200 (by omega) hl3 hl4)
  unfold NumTold at NM
  rw [hS] at SH
  rw [hS'] at SH'
  have CI := Lib.hid (fun wz => conv_in wz T hok hTl)
  have CO := Lib.hid (fun (wz : World) b cp h => conv_out (w := wz) hok (b := b) (cp := cp) h)
  have d1 : decide (many < 1) = false := decide_eq_false (by omega)
  have d2 : decide (40 < many) = false := decide_eq_false (by omega)
  clear up hd1 hd2 hk1 hk2 hQ hS hK hE hP' hQ' hq0 hl1 hl2 hl3 hl4 hS' hback hm hcop hTl hsh hok
  generalize str (encL T) = tx at *
  generalize rB P = pb at *
  generalize rS P = ps at *
  generalize str (dec Q) = q at *
  have q0 := BB.out.now.1.cell
  have q1 := BB.out.now.1.cell1
  have q2 := BB.out.now.1.cell2
  go_enter Tryz.func4, Tryz.ntmps4
  go_wp2_with fail
  go_at_call 11
  (with_reducible refine (R1.out _).mono ?_)
  rintro e w1 ⟨a, n, c, m, a2, n2, c2, rfl, hr1, hb1⟩
  have BB := Lib.hid (((BB.out.go hb1).rat hr1).box3 (.slice a n c) (.bool m) (.slice a2 n2 c2) 30)
  clear hr1 hb1 q0 q1 q2 R1
  go_wp2_with fail
  go_at_call 12
  (with_reducible refine (SH.out _ _ _ _ _ _ _ _ BB.out.now.2.1).mono ?_)
  rintro e w2 ⟨rfl, hb2⟩
  have BB := Lib.hid (BB.out.go hb2)
  clear hb2 SH
  obtain ⟨cp, hc1, hc2, hcv⟩ := CI.out w2
  have hrow := conv_row hc1 hc2 (BB.out.newRow (chs T cp) 21).drew.now.1
  have BB := Lib.hid ((BB.out.alloc (.cells (chs T cp) 21)).drew.krow hrow)
  clear hrow CI
  go_wp2_with fail
  clear hcv hc1 hc2
  go_at_call 6
  (with_reducible refine (RD.out _ _ _ _ BB.out.now.1 rfl).mono ?_)
  rintro e w3 ⟨f, k, l, v, f2, k2, l2, rfl, hr3, hb3⟩
  have BB := Lib.hid (((BB.out.go hb3).rat hr3).box3 (.slice f k l) (.bool v) (.slice f2 k2 l2) 30)
  clear hr3 hb3 RD
  go_wp2_with fail
  refine wp_region_inv2 ⟨(fun j => ([[37], [38], [39], [40], [41], [42], [43], [44], [45], [46], [47], [48], [49], [], [], [], [], [54], [55]] : List (List Nat)).getD j []), (fun j => ([[], [0], [0, 1], [0, 1, 2], [0, 1, 2], [0, 1, 2, 4], [0, 1, 2, 3, 4, 5], [0, 1, 2, 3, 4, 5, 6], [0, 1, 2, 3, 4, 5, 6, 7], [0, 1, 2, 3, 4, 5, 6, 7, 8], [0, 1, 2, 3, 4, 5, 6, 7, 8], [0, 1, 2, 3, 4, 5, 6, 7, 8, 9, 10], [0, 1, 2, 3, 4, 5, 6, 7, 8, 9, 10, 11], [0, 1, 2, 3, 4, 5, 6, 7, 8, 9, 10, 11, 12], [0, 1, 2, 3, 4, 5, 6, 7, 8, 9, 10, 11, 12, 13], [0, 1, 2, 3, 4, 5, 6, 7, 8, 9, 10, 11, 12], [0, 1, 2, 3, 4, 5, 6, 7, 8, 9, 10, 11, 12, 13, 14, 15], [0, 1, 2, 3, 4, 5, 6, 7, 8, 9, 10, 11, 12, 13, 14, 15, 16], [0, 1, 2, 3, 4, 5, 6, 7, 8, 9, 10, 11, 12, 13, 14, 15, 16, 17]] : List (List Nat)).getD j []), []⟩ (fun jj vv yy => match jj with | 0 => vv = [some (.bool true)] | 1 => vv = [some (.bool false)] | 2 => vv = [some (.bool false)] | 3 => vv = [some (.int .i64 ((T.length : Nat) : Int))] | 4 => vv = [some (.slice (some ⟨w2.heap.size, 0, none⟩) T.length cp)] | 5 => vv = [some (.int .i64 ((T.length : Nat) : Int))] | 6 => vv = [some (.bool false)] | 7 => vv = [some (.bool false)] | 8 => vv = [some (.bool false)] | 9 => vv = [some (.agg #[.bool pb, .string ps, .string q])] | 10 => vv = [some (.int .i64 many)] | 11 => vv = [some (.bool false)] | 12 => vv = [some (.bool false)] | 13 => True | 14 => True | 15 => True | 16 => True | 17 => vv = [some (.bool false)] | 18 => vv = [some (.bool false)] | _ => True) (Bag w (fun y => Slot3 y w3.heap.size (.slice f k l) (.bool v) (.slice f2 k2 l2) ∧ RatAt y f k l v f2 k2 l2 P' Q' ∧ KRow y .i32 (some ⟨w2.heap.size, 0, none⟩) T.length cp (rowF T) ∧ Slot3 y w1.heap.size (.slice a n c) (.bool m) (.slice a2 n2 c2) ∧ RatAt y a n c m a2 n2 c2 P Q ∧ Slot3 y w.heap.size (.bool pb) (.string ps) (.string q) ∧ True)) (by kernel_rfl) (by kernel_rfl) (by kernel_rfl) BB.out.drew ?_ ?_ ?_
  · intro jj vv yw yw2 hb h
    match jj, h with
    | 0, h => exact h
    | 1, h => exact h
    | 2, h => exact h
    | 3, h => exact h
    | 4, h => exact h
    | 5, h => exact h
    | 6, h => exact h
    | 7, h => exact h
    | 8, h => exact h
    | 9, h => exact h
    | 10, h => exact h
    | 11, h => exact h
    | 12, h => exact h
    | 13, h => exact h
    | 14, h => exact h
    | 15, h => exact h
    | 16, h => exact h
    | 17, h => exact h
    | 18, h => exact h
    | _ + 19, h => exact h
  · intro ac yw hsz hdf hold hB hp
    have t55 : ac.tmps[55]? = some (.bool false) := (List.cons.inj (hp 18 (by decide))).1
    have t1 : ac.tmps[1]? = some (.int .i64 many) := hold 1 (by kernel_rfl)
    have t7 : ac.tmps[7]? = some (.slice (some ⟨w2.heap.size, 0, none⟩) T.length cp) := hold 7 (by kernel_rfl)
    have t8 : ac.tmps[8]? = some (.pointer (some ⟨w3.heap.size, 0, none⟩)) := hold 8 (by kernel_rfl)
    clear hold hp
    obtain ⟨TV, hTV⟩ : ∃ TV : Nat → Value, ∀ i, (ac.tmps[i]?).getD undef = TV i := ⟨_, fun _ => rfl⟩
    have f1 := (hTV 1).symm.trans (congrArg (fun x => Option.getD x undef) t1)
    have f7 := (hTV 7).symm.trans (congrArg (fun x => Option.getD x undef) t7)
    have f8 := (hTV 8).symm.trans (congrArg (fun x => Option.getD x undef) t8)
    have f55 := (hTV 55).symm.trans (congrArg (fun x => Option.getD x undef) t55)
    have hac := act_eq (n := 65) hsz TV hTV
    rw [show ((List.range 65).map TV).toArray = #[TV 0, TV 1, TV 2, TV 3, TV 4, TV 5, TV 6, TV 7, TV 8, TV 9, TV 10, TV 11, TV 12, TV 13, TV 14, TV 15, TV 16, TV 17, TV 18, TV 19, TV 20, TV 21, TV 22, TV 23, TV 24, TV 25, TV 26, TV 27, TV 28, TV 29, TV 30, TV 31, TV 32, TV 33, TV 34, TV 35, TV 36, TV 37, TV 38, TV 39, TV 40, TV 41, TV 42, TV 43, TV 44, TV 45, TV 46, TV 47, TV 48, TV 49, TV 50, TV 51, TV 52, TV 53, TV 54, TV 55, TV 56, TV 57, TV 58, TV 59, TV 60, TV 61, TV 62, TV 63, TV 64] from rfl, f1, f7, f8, f55, hdf] at hac
    simp only [Option.getD_some] at hac
    subst hac
    clear hTV f1 f7 f8 f55
    have BB := Lib.hid hB
    clear hB t1 t7 t8 t55 ST NM
    go_wp2_with fail
    refine wp_region_inv2 ⟨(fun j => ([[56], [57], [58], [59], [60], [61], [62], [63], [64], [4]] : List (List Nat)).getD j []), (fun j => ([[], [], [0, 1], [], [3], [0, 1, 2, 3, 4], [0, 1, 2, 3, 4, 5], [0, 1, 2, 3, 4, 5, 6], [0, 1, 2, 3, 4, 5, 6, 7], [0, 1, 2, 3, 4, 5, 6, 7, 8]] : List (List Nat)).getD j []), []⟩ (fun jj vv yy => match jj with | 0 => vv = [some (.agg #[.slice f k l, .bool v, .slice f2 k2 l2])] | 1 => vv = [some (.int .i64 many)] | 2 => vv = [some (.string tx)] | 3 => vv = [some (.slice (some ⟨w2.heap.size, 0, none⟩) T.length cp)] | 4 => vv = [some (.string tx)] | 5 => vv = [some (.bool true)] | 6 => vv = [some (.bool true)] | 7 => vv = [some (.bool true)] | 8 => vv = [some (.bool true)] | 9 => vv = [some (.bool true)] | _ => True) (Bag w (fun y => Slot3 y w3.heap.size (.slice f k l) (.bool v) (.slice f2 k2 l2) ∧ RatAt y f k l v f2 k2 l2 P' Q' ∧ KRow y .i32 (some ⟨w2.heap.size, 0, none⟩) T.length cp (rowF T) ∧ Slot3 y w1.heap.size (.slice a n c) (.bool m) (.slice a2 n2 c2) ∧ RatAt y a n c m a2 n2 c2 P Q ∧ Slot3 y w.heap.size (.bool pb) (.string ps) (.string q) ∧ True)) (by kernel_rfl) (by kernel_rfl) (by kernel_rfl) BB.out.drew ?_ ?_ ?_
    · intro jj vv yw yw2 hb h
      match jj, h with
      | 0, h => exact h
      | 1, h => exact h
      | 2, h => exact h
      | 3, h => exact h
      | 4, h => exact h
      | 5, h => exact h
      | 6, h => exact h
      | 7, h => exact h
      | 8, h => exact h
      | 9, h => exact h
      | _ + 10, h => exact h
    · intro ac yw hsz hdf hold hB hp
      have t4 : ac.tmps[4]? = some (.bool true) := (List.cons.inj (hp 9 (by decide))).1
      clear hold hp
      obtain ⟨TW, hTW⟩ : ∃ TW : Nat → Value, ∀ i, (ac.tmps[i]?).getD undef = TW i := ⟨_, fun _ => rfl⟩
      have f4 := (hTW 4).symm.trans (congrArg (fun x => Option.getD x undef) t4)
      have hac := act_eq (n := 65) hsz TW hTW
      rw [show ((List.range 65).map TW).toArray = #[TW 0, TW 1, TW 2, TW 3, TW 4, TW 5, TW 6, TW 7, TW 8, TW 9, TW 10, TW 11, TW 12, TW 13, TW 14, TW 15, TW 16, TW 17, TW 18, TW 19, TW 20, TW 21, TW 22, TW 23, TW 24, TW 25, TW 26, TW 27, TW 28, TW 29, TW 30, TW 31, TW 32, TW 33, TW 34, TW 35, TW 36, TW 37, TW 38, TW 39, TW 40, TW 41, TW 42, TW 43, TW 44, TW 45, TW 46, TW 47, TW 48, TW 49, TW 50, TW 51, TW 52, TW 53, TW 54, TW 55, TW 56, TW 57, TW 58, TW 59, TW 60, TW 61, TW 62, TW 63, TW 64] from rfl, f4, hdf] at hac
      simp only [Option.getD_some] at hac
      subst hac
      clear hTW f4
      go_wp2
      go_ret
      exact ⟨rfl, hB.below⟩
    refine Stps2.cons (o := _) ?_ ?_
    · intro ac yw hsz hold hB hp K hK
      have t8 : ac.tmps[8]? = some (.pointer (some ⟨w3.heap.size, 0, none⟩)) := hold 8 (by kernel_rfl)
      clear hold hp hsz
      have v0 := hB.now.1.cell
      have v1 := hB.now.1.cell1
      have v2 := hB.now.1.cell2
      go_simp
      exact hK.out _ _ ⟨hB, rfl, Nat.le_refl _, .inl (Below.refl _ _), fun h => absurd h (by decide)⟩
    refine Stps2.cons (o := _) ?_ ?_
    · intro ac yw hsz hold hB hp K hK
      have t1 : ac.tmps[1]? = some (.int .i64 many) := hold 1 (by kernel_rfl)
      clear hold hp hsz
      go_simp
      exact hK.out _ _ ⟨hB, rfl, Nat.le_refl _, .inl (Below.refl _ _), fun h => absurd h (by decide)⟩
    refine Stps2.cons (o := _) ?_ ?_
    · intro ac yw hsz hold hB hp K hK
      have e0 := hp 0 (by decide)
      have t56 : ac.tmps[56]? = some (.agg #[.slice f k l, .bool v, .slice f2 k2 l2]) := (List.cons.inj e0).1
      have e1 := hp 1 (by decide)
      have t57 : ac.tmps[57]? = some (.int .i64 many) := (List.cons.inj e1).1
      clear hold hp hsz e0 e1
      go_simp
      (go_at_call 12; (with_reducible refine (SH'.out _ _ _ _ _ _ _ _ hB.now.2.1).mono ?_); rintro e wz ⟨rfl, hbz⟩)
      exact hK.out _ _ ⟨hB.go hbz, rfl, hbz.size, .inl hbz, fun h => absurd h (by decide)⟩
    refine Stps2.cons (o := _) ?_ ?_
    · intro ac yw hsz hold hB hp K hK
      have t7 : ac.tmps[7]? = some (.slice (some ⟨w2.heap.size, 0, none⟩) T.length cp) := hold 7 (by kernel_rfl)
      clear hold hp hsz
      go_simp
      exact hK.out _ _ ⟨hB, rfl, Nat.le_refl _, .inl (Below.refl _ _), fun h => absurd h (by decide)⟩
    refine Stps2.cons (o := _) ?_ ?_
    · intro ac yw hsz hold hB hp K hK
      have e3 := hp 3 (by decide)
      have t59 : ac.tmps[59]? = some (.slice (some ⟨w2.heap.size, 0, none⟩) T.length cp) := (List.cons.inj e3).1
      clear hold hp hsz e3
      have hcv := CO.out yw _ _ hB.now.2.2.1
      go_simp
      exact hK.out _ _ ⟨hB, rfl, Nat.le_refl _, .inl (Below.refl _ _), fun h => absurd h (by decide)⟩
    refine Stps2.cons (o := _) ?_ ?_
    · intro ac yw hsz hold hB hp K hK
      have e2 := hp 2 (by decide)
      have t58 : ac.tmps[58]? = some (.string tx) := (List.cons.inj e2).1
      have e4 := hp 4 (by decide)
      have t60 : ac.tmps[60]? = some (.string tx) := (List.cons.inj e4).1
      clear hold hp hsz e2 e4
      go_simp
      exact hK.out _ _ ⟨hB, rfl, Nat.le_refl _, .inl (Below.refl _ _), fun h => absurd h (by decide)⟩
    refine Stps2.cons (o := _) ?_ ?_
    · intro ac yw hsz hold hB hp K hK
      have e5 := hp 5 (by decide)
      have t61 : ac.tmps[61]? = some (.bool true) := (List.cons.inj e5).1
      clear hold hp hsz e5
      go_simp
      exact hK.out _ _ ⟨hB, rfl, Nat.le_refl _, .inl (Below.refl _ _), fun h => absurd h (by decide)⟩
    refine Stps2.cons (o := _) ?_ ?_
    · intro ac yw hsz hold hB hp K hK
      have t62 : ac.tmps[62]? = some (.bool true) := (List.cons.inj (hp 6 (by decide))).1
      rw [if_pos (wanted_pos rfl rfl t62)]
      clear hold hp hsz
      go_simp
      (go_at_call 5; refine (awake4_any _).mono ?_; rintro e wz ⟨rfl, hbz⟩)
      exact hK.out _ _ ⟨hB.go hbz, rfl, hbz.size, .inl hbz, fun h => absurd h (by decide)⟩
    refine Stps2.cons (o := _) ?_ ?_
    · intro ac yw hsz hold hB hp K hK
      have e6 := hp 6 (by decide)
      have t62 : ac.tmps[62]? = some (.bool true) := (List.cons.inj e6).1
      have e7 := hp 7 (by decide)
      have t63 : ac.tmps[63]? = some (.bool true) := (List.cons.inj e7).1
      clear hold hp hsz e6 e7
      go_simp
      exact hK.out _ _ ⟨hB, rfl, Nat.le_refl _, .inl (Below.refl _ _), fun h => absurd h (by decide)⟩
    refine Stps2.cons (o := _) ?_ ?_
    · intro ac yw hsz hold hB hp K hK
      have e8 := hp 8 (by decide)
      have t64 : ac.tmps[64]? = some (.bool true) := (List.cons.inj e8).1
      clear hold hp hsz e8
      go_simp
      exact hK.out _ _ ⟨hB, rfl, Nat.le_refl _, .inl (Below.refl _ _), fun h => absurd h (by decide)⟩
    exact Stps2.nil _
  refine Stps2.cons (o := _) ?_ ?_
  · intro ac yw hsz hold hB hp K hK
    have t10 : ac.tmps[10]? = some (.bool true) := hold 10 (by kernel_rfl)
    clear hold hp hsz
    go_simp
    exact hK.out _ _ ⟨hB, rfl, Nat.le_refl _, .inl (Below.refl _ _), fun h => absurd h (by decide)⟩
  refine Stps2.cons (o := _) ?_ ?_
  · intro ac yw hsz hold hB hp K hK
    have e0 := hp 0 (by decide)
    have t37 : ac.tmps[37]? = some (.bool true) := (List.cons.inj e0).1
    clear hold hp hsz e0
    go_simp
    exact hK.out _ _ ⟨hB, rfl, Nat.le_refl _, .inl (Below.refl _ _), fun h => absurd h (by decide)⟩
  refine Stps2.cons (o := _) ?_ ?_
  · intro ac yw hsz hold hB hp K hK
    have e1 := hp 1 (by decide)
    have t38 : ac.tmps[38]? = some (.bool false) := (List.cons.inj e1).1
    clear hold hp hsz e1
    go_simp
    exact hK.out _ _ ⟨hB, rfl, Nat.le_refl _, .inl (Below.refl _ _), fun h => absurd h (by decide)⟩
  refine Stps2.cons (o := _) ?_ ?_
  · intro ac yw hsz hold hB hp K hK
    have t39 : ac.tmps[39]? = some (.bool false) := (List.cons.inj (hp 2 (by decide))).1
    rw [if_pos (wanted_pos rfl rfl t39)]
    have t9 : ac.tmps[9]? = some (.int .i64 ((T.length : Nat) : Int)) := hold 9 (by kernel_rfl)
    clear hold hp hsz
    go_simp
    exact hK.out _ _ ⟨hB, rfl, Nat.le_refl _, .inl (Below.refl _ _), fun h => absurd h (by decide)⟩
  refine Stps2.cons (o := _) ?_ ?_
  · intro ac yw hsz hold hB hp K hK
    have t39 : ac.tmps[39]? = some (.bool false) := (List.cons.inj (hp 2 (by decide))).1
    rw [if_pos (wanted_pos rfl rfl t39)]
    have t7 : ac.tmps[7]? = some (.slice (some ⟨w2.heap.size, 0, none⟩) T.length cp) := hold 7 (by kernel_rfl)
    clear hold hp hsz
    go_simp
    exact hK.out _ _ ⟨hB, rfl, Nat.le_refl _, .inl (Below.refl _ _), fun h => absurd h (by decide)⟩
  refine Stps2.cons (o := _) ?_ ?_
  · intro ac yw hsz hold hB hp K hK
    have t39 : ac.tmps[39]? = some (.bool false) := (List.cons.inj (hp 2 (by decide))).1
    rw [if_pos (wanted_pos rfl rfl t39)]
    have e4 := hp 4 (by decide)
    have t41 : ac.tmps[41]? = some (.slice (some ⟨w2.heap.size, 0, none⟩) T.length cp) := (List.cons.inj e4).1
    clear hold hp hsz e4
    go_simp
    exact hK.out _ _ ⟨hB, rfl, Nat.le_refl _, .inl (Below.refl _ _), fun h => absurd h (by decide)⟩
  refine Stps2.cons (o := _) ?_ ?_
  · intro ac yw hsz hold hB hp K hK
    have t39 : ac.tmps[39]? = some (.bool false) := (List.cons.inj (hp 2 (by decide))).1
    rw [if_pos (wanted_pos rfl rfl t39)]
    have e3 := hp 3 (by decide)
    have t40 : ac.tmps[40]? = some (.int .i64 ((T.length : Nat) : Int)) := (List.cons.inj e3).1
    have e5 := hp 5 (by decide)
    have t42 : ac.tmps[42]? = some (.int .i64 ((T.length : Nat) : Int)) := (List.cons.inj e5).1
    clear hold hp hsz e3 e5
    go_simp
    exact hK.out _ _ ⟨hB, rfl, Nat.le_refl _, .inl (Below.refl _ _), fun h => absurd h (by decide)⟩
  refine Stps2.cons (o := _) ?_ ?_
  · intro ac yw hsz hold hB hp K hK
    have e2 := hp 2 (by decide)
    have t39 : ac.tmps[39]? = some (.bool false) := (List.cons.inj e2).1
    have e6 := hp 6 (by decide)
    have t43 : ac.tmps[43]? = some (.bool false) := (List.cons.inj e6).1
    clear hold hp hsz e2 e6
    go_simp
    exact hK.out _ _ ⟨hB, rfl, Nat.le_refl _, .inl (Below.refl _ _), fun h => absurd h (by decide)⟩
  refine Stps2.cons (o := _) ?_ ?_
  · intro ac yw hsz hold hB hp K hK
    have e7 := hp 7 (by decide)
    have t44 : ac.tmps[44]? = some (.bool false) := (List.cons.inj e7).1
    clear hold hp hsz e7
    go_simp
    exact hK.out _ _ ⟨hB, rfl, Nat.le_refl _, .inl (Below.refl _ _), fun h => absurd h (by decide)⟩
  refine Stps2.cons (o := _) ?_ ?_
  · intro ac yw hsz hold hB hp K hK
    have t45 : ac.tmps[45]? = some (.bool false) := (List.cons.inj (hp 8 (by decide))).1
    rw [if_pos (wanted_pos rfl rfl t45)]
    have t2 : ac.tmps[2]? = some (.pointer (some ⟨w.heap.size, 0, none⟩)) := hold 2 (by kernel_rfl)
    clear hold hp hsz
    have v0 := hB.now.1.cell
    have v1 := hB.now.1.cell1
    have v2 := hB.now.1.cell2
    have v3 := hB.now.2.2.2.2.2.1.cell
    have v4 := hB.now.2.2.2.2.2.1.cell1
    have v5 := hB.now.2.2.2.2.2.1.cell2
    go_simp
    exact hK.out _ _ ⟨hB, rfl, Nat.le_refl _, .inl (Below.refl _ _), fun h => absurd h (by decide)⟩
  refine Stps2.cons (o := _) ?_ ?_
  · intro ac yw hsz hold hB hp K hK
    have t45 : ac.tmps[45]? = some (.bool false) := (List.cons.inj (hp 8 (by decide))).1
    rw [if_pos (wanted_pos rfl rfl t45)]
    have t1 : ac.tmps[1]? = some (.int .i64 many) := hold 1 (by kernel_rfl)
    clear hold hp hsz
    go_simp
    exact hK.out _ _ ⟨hB, rfl, Nat.le_refl _, .inl (Below.refl _ _), fun h => absurd h (by decide)⟩
  refine Stps2.cons (o := _) ?_ ?_
  · intro ac yw hsz hold hB hp K hK
    have t45 : ac.tmps[45]? = some (.bool false) := (List.cons.inj (hp 8 (by decide))).1
    rw [if_pos (wanted_pos rfl rfl t45)]
    have e9 := hp 9 (by decide)
    have t46 : ac.tmps[46]? = some (.agg #[.bool pb, .string ps, .string q]) := (List.cons.inj e9).1
    have e10 := hp 10 (by decide)
    have t47 : ac.tmps[47]? = some (.int .i64 many) := (List.cons.inj e10).1
    clear hold hp hsz e9 e10
    go_simp
    (go_at_call 13; (with_reducible refine (ST.out _).mono ?_); rintro e wz ⟨rfl, hbz⟩)
    exact hK.out _ _ ⟨hB.go hbz, rfl, hbz.size, .inl hbz, fun h => absurd h (by decide)⟩
  refine Stps2.cons (o := _) ?_ ?_
  · intro ac yw hsz hold hB hp K hK
    have t45 : ac.tmps[45]? = some (.bool false) := (List.cons.inj (hp 8 (by decide))).1
    rw [if_pos (wanted_pos rfl rfl t45)]
    have e11 := hp 11 (by decide)
    have t48 : ac.tmps[48]? = some (.bool false) := (List.cons.inj e11).1
    clear hold hp hsz e11
    go_simp
    exact hK.out _ _ ⟨hB, rfl, Nat.le_refl _, .inl (Below.refl _ _), fun h => absurd h (by decide)⟩
  refine Stps2.cons (o := _) ?_ ?_
  · intro ac yw hsz hold hB hp K hK
    have t49 : ac.tmps[49]? = some (.bool false) := (List.cons.inj (hp 12 (by decide))).1
    rw [if_neg (by rw [wanted_neg rfl rfl t49 (fun e => by cases e)]; decide)]
    exact hK.out _ _ ⟨hB, trivial, Nat.le_refl _, .inl (Below.refl _ _), fun h => absurd h (by decide)⟩
  refine Stps2.cons (o := _) ?_ ?_
  · intro ac yw hsz hold hB hp K hK
    have t49 : ac.tmps[49]? = some (.bool false) := (List.cons.inj (hp 12 (by decide))).1
    rw [if_neg (by rw [wanted_neg rfl rfl t49 (fun e => by cases e)]; decide)]
    exact hK.out _ _ ⟨hB, trivial, Nat.le_refl _, .inl (Below.refl _ _), fun h => absurd h (by decide)⟩
  refine Stps2.cons (o := _) ?_ ?_
  · intro ac yw hsz hold hB hp K hK
    have t49 : ac.tmps[49]? = some (.bool false) := (List.cons.inj (hp 12 (by decide))).1
    rw [if_neg (by rw [wanted_neg rfl rfl t49 (fun e => by cases e)]; decide)]
    exact hK.out _ _ ⟨hB, trivial, Nat.le_refl _, .inl (Below.refl _ _), fun h => absurd h (by decide)⟩
  refine Stps2.cons (o := _) ?_ ?_
  · intro ac yw hsz hold hB hp K hK
    have t49 : ac.tmps[49]? = some (.bool false) := (List.cons.inj (hp 12 (by decide))).1
    rw [if_neg (by rw [wanted_neg rfl rfl t49 (fun e => by cases e)]; decide)]
    exact hK.out _ _ ⟨hB, trivial, Nat.le_refl _, .inl (Below.refl _ _), fun h => absurd h (by decide)⟩
  refine Stps2.cons (o := _) ?_ ?_
  · intro ac yw hsz hold hB hp K hK
    have t45 : ac.tmps[45]? = some (.bool false) := (List.cons.inj (hp 8 (by decide))).1
    rw [if_pos (wanted_pos rfl rfl t45)]
    have e12 := hp 12 (by decide)
    have t49 : ac.tmps[49]? = some (.bool false) := (List.cons.inj e12).1
    clear hold hp hsz e12
    go_simp
    exact hK.out _ _ ⟨hB, rfl, Nat.le_refl _, .inl (Below.refl _ _), fun h => absurd h (by decide)⟩
  refine Stps2.cons (o := _) ?_ ?_
  · intro ac yw hsz hold hB hp K hK
    have e8 := hp 8 (by decide)
    have t45 : ac.tmps[45]? = some (.bool false) := (List.cons.inj e8).1
    have e17 := hp 17 (by decide)
    have t54 : ac.tmps[54]? = some (.bool false) := (List.cons.inj e17).1
    clear hold hp hsz e8 e17
    go_simp
    exact hK.out _ _ ⟨hB, rfl, Nat.le_refl _, .inl (Below.refl _ _), fun h => absurd h (by decide)⟩
  exact Stps2.nil _

end Go.Proofs.YtgpcfncolhmgfaaGreatDoor
