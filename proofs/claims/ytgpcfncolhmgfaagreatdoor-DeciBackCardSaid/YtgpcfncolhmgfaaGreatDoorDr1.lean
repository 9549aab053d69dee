/-
  The document's answer for layer 4: zeros, Times10, by contract.
  The document's answer for layer 4: Times10, by contract.
  The decimal exponent of the first digit, told by inequalities.
-/
import Derived.Test.YtgpcfncolhmgfaaGreatDoorDe0
import Derived.Test.YtgpcfncolhmgfaaGreatDoorRr1
import Derived.Test.YtgpcfncolhmgfaaGreatDoorRr6
import Derived.Test.YtgpcfncolhmgfaaGreatDoorInv
import Derived.Test.YtgpcfncolhmgfaaGreatDoorK7
namespace Go.Proofs.YtgpcfncolhmgfaaGreatDoor
open Go.RowKit
attribute [local go_sem ↓] Go.wp_at_zero Go.wp_at_succ

set_option maxHeartbeats 800000 in
set_option maxRecDepth 100000 in
theorem zeros_nat (n : Int) (N : Nat) (w : World) (hn : n.toNat = N) (hN : N ≤ 100000) (hn0 : -9223372036854775808 ≤ n) :
    Calls Tryz.prog 50 #[.int .i64 n] w fun e w' => e = .returned (.string (str (List.replicate N 48))) ∧ Below w.heap.size w w' := by
  have H0 : Hid ((⟨#[]⟩ : ByteArray) = str (List.replicate 0 48)) := rfl
  go_enter Tryz.func50, Tryz.ntmps50
  go_wp2
  go_loopw [3, 4] (fun s i wr => ∃ (k : Nat) (t : ByteArray), k ≤ N ∧ i = .int .i64 k ∧ s = .string t ∧ Hid (t = str (List.replicate k 48)) ∧ Below w.heap.size w wr) (fun _ i _ => N - (intOf i).toNat)
  case atStart => exact ⟨0, _, by omega, rfl, rfl, H0.out, Below.refl _ _⟩
  case round =>
    obtain ⟨k, t, hk, rfl, rfl, ht, hbl⟩ := hrel
    have hts : t.size = k := by rw [ht.out, str_size, List.length_replicate]
    by_cases hlt : (k : Int) < n
    · have d1 : decide ((k : Int) < n) = true := decide_eq_true hlt
      have HU : Hid (t ++ ⟨#[48]⟩ = str (List.replicate (k + 1) 48)) := by
        show _ = _
        rw [ht.out, show (⟨#[48]⟩ : ByteArray) = str [48] from rfl, str_append, List.replicate_succ']
      have HB := Lib.hid hbl
      clear hbl ht
      go_wp2
      go_roundw
      case rel => exact ⟨k + 1, _, by omega, by go_num, rfl, HU.out, HB.out⟩
      case measure => simp [intOf]; omega
    · have d1 : decide ((k : Int) < n) = false := decide_eq_false hlt
      obtain rfl : k = N := by omega
      have HB := Lib.hid hbl
      clear hbl
      go_wp2
      go_ret
      exact ⟨ret_str ht.out, HB.out⟩

/-- A number times a power of ten. -/
def ttP (P : Int) (Q : Nat) (n : Int) : Int := if 0 ≤ n then tmP P Q (10 ^ n.toNat : Nat) 1 else dvP P Q (10 ^ (-n).toNat : Nat) 1
def ttQ (P : Int) (Q : Nat) (n : Int) : Nat := if 0 ≤ n then tmQ P Q (10 ^ n.toNat : Nat) 1 else dvQ P Q (10 ^ (-n).toNat : Nat) 1
theorem ten_str (n : Nat) : str (dec (10 ^ n)) = ⟨#[49]⟩ ++ str (List.replicate n 48) := by
  have h := dec_times (N := 1) (by omega) n
  rw [Nat.one_mul] at h
  have h1 : dec 1 = [49] := by
    unfold dec
    rw [show dl 1 = 1 by unfold dl; rfl]
    decide +kernel
  rw [h, show (⟨#[49]⟩ : ByteArray) = str [49] from rfl, str_append, h1]
theorem dl_ten (n : Nat) : dl (10 ^ n) = n + 1 := by
  have := dl_times (N := 1) (by omega) n
  rw [Nat.one_mul] at this
  have h1 : dl 1 = 1 := by unfold dl; rfl
  omega
theorem tt_pos (P : Int) {Q : Nat} (hQ : 0 < Q) (n : Int) : 0 < ttQ P Q n := by
  unfold ttQ
  have h10 : ∀ k : Nat, 0 < (10 : Nat) ^ k := fun k => Nat.pow_pos (by omega)
  split
  · exact tmQ_pos _ _ hQ (by omega)
  · unfold dvQ
    have := h10 (-n).toNat
    rw [if_neg (by omega)]
    exact nwQ_pos _ (Int.mul_ne_zero (by omega) (by omega))
theorem tt_cross (P : Int) {Q : Nat} (hQ : 0 < Q) (n : Int) : ttP P Q n * ((Q : Int) * ((10 ^ (-n).toNat : Nat) : Int)) = P * ((10 ^ n.toNat : Nat) : Int) * (ttQ P Q n : Int) := by
  unfold ttP ttQ
  by_cases h : 0 ≤ n
  · rw [if_pos h, if_pos h, show (-n).toNat = 0 by omega, Nat.pow_zero]
    exact (by
      have hc := lo_cross (P * ((10 ^ n.toNat : Nat) : Int)) (Q * 1)
      rw [Int.natCast_mul] at hc
      exact hc)
  · rw [if_neg h, if_neg h, show n.toNat = 0 by omega, Nat.pow_zero]
    have h10 : 0 < (10 : Nat) ^ (-n).toNat := Nat.pow_pos (by omega)
    generalize (10 : Nat) ^ (-n).toNat = X at *
    unfold dvP dvQ
    rw [if_neg (by omega), if_neg (by omega)]
    unfold nwP nwQ
    have hc := lo_cross (upZ (P * ((1 : Nat) : Int)) ((X : Int) * (Q : Int))) ((X : Int) * (Q : Int)).natAbs
    have hpos : 0 < (X : Int) * (Q : Int) := Int.mul_pos (by omega) (by omega)
    have hu : upZ (P * ((1 : Nat) : Int)) ((X : Int) * (Q : Int)) = P := by unfold upZ; rw [if_neg (by omega)]; simp
    rw [hu] at hc ⊢
    have hn : ((((X : Int) * (Q : Int)).natAbs : Nat) : Int) = (X : Int) * (Q : Int) := by omega
    rw [hn] at hc
    rw [Int.mul_comm (Q : Int) (X : Int), hc]
    simp

end Go.Proofs.YtgpcfncolhmgfaaGreatDoor

namespace Go.Proofs.YtgpcfncolhmgfaaGreatDoor
open Go.RowKit
attribute [local go_sem ↓] Go.wp_at_zero Go.wp_at_succ

set_option linter.unusedSimpArgs false in
set_option maxHeartbeats 6400000 in
set_option maxRecDepth 100000 in
theorem times10_any (P : Int) (Q : Nat) (n : Int) (w : World) (hQ : 0 < Q) (h1 : dl P.natAbs ≤ 400) (h2 : dl Q ≤ 400) (hn : n ≤ 390 ∧ -390 ≤ n) :
    Calls Tryz.prog 22 #[.agg #[.bool (rB P), .string (rS P), .string (str (dec Q))], .int .i64 n] w fun e w' => NumTold w w' e (ttP P Q n) (ttQ P Q n) := by
  have BB := Lib.hid ((Bag.start w).box3 (.bool (rB P)) (.string (rS P)) (.string (str (dec Q))) 34 |>.box3 (.bool false) (.string ⟨#[]⟩) (.string ⟨#[]⟩) 34)
  simp only [World.size_alloc] at BB
  have he : w.heap.size ≠ w.heap.size + 1 := by omega
  have hs1 : ∀ N : Nat, rS ((10 ^ N : Nat) : Int) = str (dec (10 ^ N)) := fun N => by unfold rS; rw [Int.natAbs_natCast]
  have hb1 : ∀ N : Nat, rB ((10 ^ N : Nat) : Int) = false := fun N => by unfold rB; exact decide_eq_false (Int.not_lt.2 (Int.natCast_nonneg _))
  unfold NumTold ttP ttQ
  by_cases h0 : 0 ≤ n
  · rw [if_pos h0, if_pos h0]
    have d0 : decide (n ≥ 0) = true := decide_eq_true h0
    have d1 : decide (0 ≤ n) = true := decide_eq_true h0
    obtain ⟨N, hN⟩ : ∃ N, n.toNat = N := ⟨_, rfl⟩
    have ZE := Lib.hid (fun wz => zeros_nat n N wz hN (by omega) (by omega))
    rw [hN]
    have hdl := dl_ten N
    have h10 : 0 < 10 ^ N := Nat.pow_pos (by omega)
    have ML := Lib.hid (fun wz => r3Mul_any P Q ((10 ^ N : Nat) : Int) 1 wz hQ (by omega) h1 h2 (by rw [Int.natAbs_natCast]; omega) (by have : dl 1 = 1 := (by unfold dl; rfl); omega))
    rw [hs1, hb1, ten_str, dec1] at ML
    unfold NumTold at ML
    have hNb : N ≤ 390 := by omega
    have hz := str_size (List.replicate N 48)
    rw [List.length_replicate] at hz
    have hov : (9223372036854775807 < 1 + N) = False := eq_false (by omega)
    have hov2 : ((9223372036854775807 : Int) < 1 + (N : Int)) = False := eq_false (by omega)
    clear hs1 hb1 hdl h10 h1 h2 hN
    generalize tmP P Q ((10 ^ N : Nat) : Int) 1 = X1 at *
    generalize tmQ P Q ((10 ^ N : Nat) : Int) 1 = X2 at *
    generalize rB X1 = x1 at *
    generalize rS X1 = x2 at *
    generalize str (dec X2) = x3 at *
    generalize rB P = pb at *
    generalize rS P = ps at *
    generalize str (dec Q) = q at *
    generalize str (List.replicate N 48) = s1 at *
    have BB := Lib.hid BB.out.drew
    go_enter Tryz.func22, Tryz.ntmps22
    go_wp2_with fail
    go_region_held3 (fun y => y.cell? ⟨w.heap.size, 0, none⟩ = some (.bool pb) ∧ y.cell? ⟨w.heap.size, 1, none⟩ = some (.string ps) ∧ y.cell? ⟨w.heap.size, 2, none⟩ = some (.string q))
      (first
        | (exact ⟨z0.cell, z0.cell1, z0.cell2⟩)
        | (exact ⟨BB.out.now.2.1.cell, BB.out.now.2.1.cell1, BB.out.now.2.1.cell2⟩))
      (first
        | (go_at_call 50; (with_reducible refine (ZE.out _).mono ?_); rintro x w2 ⟨rfl, hb2⟩; have BB := Lib.hid (BB.out.go hb2))
        | (go_at_call 49; (with_reducible refine (ML.out _).mono ?_); rintro x w3 ⟨rfl, hb3⟩; have BB := Lib.hid (BB.out.go hb3); have hs := BB.out.now.1; have r0 := hs.cell; have r1 := hs.cell1; have r2 := hs.cell2; have g0 := hs.free; have g1 := hs.free1; have g2 := hs.free2; have HS := hs.set (.bool x1) (.string x2) (.string x3); have z0 := BB.out.now.2.1.set3o he (.bool x1) (.string x2) (.string x3); have HE := Lib.hid (((BB.out.below.setCell (p := ⟨w.heap.size + 1, 0, none⟩) (show w.heap.size ≤ w.heap.size + 1 by omega) (.bool x1)).setCell (p := ⟨w.heap.size + 1, 1, none⟩) (show w.heap.size ≤ w.heap.size + 1 by omega) (.string x2)).setCell (p := ⟨w.heap.size + 1, 2, none⟩) (show w.heap.size ≤ w.heap.size + 1 by omega) (.string x3))))
    go_wp2
    exact bodyPost_ret (v := .agg #[.bool x1, .string x2, .string x3]) (by simp [results, Tryz.results22, go_sem, HS]) rfl ⟨rfl, HE.out⟩
  · rw [if_neg h0, if_neg h0]
    have d0 : decide (n ≥ 0) = false := decide_eq_false h0
    have d1 : decide (0 ≤ n) = false := decide_eq_false h0
    obtain ⟨N, hN⟩ : ∃ N, (-n).toNat = N := ⟨_, rfl⟩
    have i1 : (0 : Int) - n = (N : Int) := by omega
    have i2 : -n = (N : Int) := by omega
    have hw := IntWalk.i64_in (-n) (by omega)
    rw [i2] at hw
    have ZE := Lib.hid (fun wz => zeros_nat (N : Int) N wz (by omega) (by omega) (by omega))
    rw [hN]
    have hdl := dl_ten N
    have h10 : 0 < 10 ^ N := Nat.pow_pos (by omega)
    have ML := Lib.hid (fun wz => r3Div_any P Q ((10 ^ N : Nat) : Int) 1 wz hQ h1 h2 (by rw [Int.natAbs_natCast]; omega) (by have : dl 1 = 1 := (by unfold dl; rfl); omega))
    rw [hs1, hb1, ten_str, dec1, decide_eq_false (by omega), Bool.not_false] at ML
    unfold NumTold3 at ML
    have hNb : N ≤ 390 := by omega
    have hz := str_size (List.replicate N 48)
    rw [List.length_replicate] at hz
    have hov : (9223372036854775807 < 1 + N) = False := eq_false (by omega)
    have hov2 : ((9223372036854775807 : Int) < 1 + (N : Int)) = False := eq_false (by omega)
    clear hs1 hb1 hdl h10 h1 h2 hN
    generalize dvP P Q ((10 ^ N : Nat) : Int) 1 = X1 at *
    generalize dvQ P Q ((10 ^ N : Nat) : Int) 1 = X2 at *
    generalize rB X1 = x1 at *
    generalize rS X1 = x2 at *
    generalize str (dec X2) = x3 at *
    generalize rB P = pb at *
    generalize rS P = ps at *
    generalize str (dec Q) = q at *
    generalize str (List.replicate N 48) = s1 at *
    go_enter Tryz.func22, Tryz.ntmps22
    go_wp2_with fail
    have HP : Hid (∀ (y : World) (k9 : Nat) {x0 y0 z0 : Value}, Slot3 y k9 x0 y0 z0 → w.heap.size + 1 < k9 → Bag w (fun y => Slot3 y (w.heap.size + 1) (.bool false) (.string ⟨#[]⟩) (.string ⟨#[]⟩) ∧ Slot3 y w.heap.size (.bool pb) (.string ps) (.string q) ∧ True) y → ∀ u v t : Value, Bag w (fun y => Slot3 y (w.heap.size + 1) (.bool false) (.string ⟨#[]⟩) (.string ⟨#[]⟩) ∧ Slot3 y w.heap.size (.bool pb) (.string ps) (.string q) ∧ True) (((y.setCell ⟨k9, 0, none⟩ u).setCell ⟨k9, 1, none⟩ v).setCell ⟨k9, 2, none⟩ t)) := by
      intro y k9 x0 y0 z0 s hk B u v t
      have q := B.now
      exact ⟨((B.below.setCell (p := ⟨k9, 0, none⟩) (show w.heap.size ≤ k9 by omega) _).setCell (p := ⟨k9, 1, none⟩) (show w.heap.size ≤ k9 by omega) _).setCell (p := ⟨k9, 2, none⟩) (show w.heap.size ≤ k9 by omega) _, B.stay, q.1.set3o (by omega) _ _ _, q.2.1.set3o (by omega) _ _ _, trivial⟩
    refine wp_region_inv2 ⟨(fun j => ([[16], [17], [18], [19], [20], [21], [22], [15], [23], [24], [5], [5], [6]] : List (List Nat)).getD j []), (fun j => ([[], [], [1], [1, 2], [1, 2, 3], [1, 2, 3, 4], [0, 1, 2, 3, 4, 5], [0, 1, 2, 3, 4, 5, 6], [0, 1, 2, 3, 4, 5, 6, 7], [0, 1, 2, 3, 4, 5, 6, 7], [], [0, 1, 2, 3, 4, 5, 6, 7, 8, 10], [0, 1, 2, 3, 4, 5, 6, 7, 8, 9, 10, 11]] : List (List Nat)).getD j []), [10]⟩ (fun jj vv yy => match jj with | 0 => vv = [some (.agg #[.bool pb, .string ps, .string q])] | 1 => vv = [some (.int .i64 n)] | 2 => vv = [some (.int .i64 (N : Int))] | 3 => vv = [some (.string s1)] | 4 => vv = [some (.string (⟨#[49]⟩ ++ s1))] | 5 => vv = [some (.agg #[.bool false, .string (⟨#[49]⟩ ++ s1), .string ⟨#[49]⟩])] | 6 => vv = [some (.tuple #[.agg #[.bool x1, .string x2, .string x3], .bool true])] | 7 => vv = [some (.tuple #[.agg #[.bool x1, .string x2, .string x3], .bool true])] | 8 => vv = [some (.agg #[.bool x1, .string x2, .string x3])] | 9 => vv = [some (.bool true)] | 10 => ∃ (k10 : Nat), ∃ (x0 : Value), ∃ (y0 : Value), ∃ (z0 : Value), vv = [some (.pointer (some ⟨k10, 0, none⟩))] ∧ Slot3 yy k10 x0 y0 z0 ∧ w.heap.size + 1 < k10 | 11 => ∃ (k10 : Nat), vv = [some (.pointer (some ⟨k10, 0, none⟩))] ∧ Slot3 yy k10 (.bool x1) (.string x2) (.string x3) | 12 => vv = [some (.bool true)] | _ => True) (Bag w (fun y => Slot3 y (w.heap.size + 1) (.bool false) (.string ⟨#[]⟩) (.string ⟨#[]⟩) ∧ Slot3 y w.heap.size (.bool pb) (.string ps) (.string q) ∧ True)) (by kernel_rfl) (by kernel_rfl) (by kernel_rfl) BB.out.drew ?_ ?_ ?_
    · intro jj vv yw yw2 hb h
      match jj, h with
      | 0, h => exact h
      | 1, h => exact h
      | 2, h => exact h
      | 3, h => exact h
      | 4, h => exact h
      | 5, h => exact h
      | 6, h => exact h
      | 7, h => exact h
      | 8, h => exact h
      | 9, h => exact h
      | 10, ⟨k10, x0, y0, z0, e10, g10_0, g10_1⟩ => exact Exists.intro k10 (Exists.intro x0 (Exists.intro y0 (Exists.intro z0 (And.intro e10 (And.intro (g10_0.below hb) g10_1)))))
      | 11, ⟨k10, e11, g11_0⟩ => exact Exists.intro k10 (And.intro e11 (g11_0.below hb))
      | 12, h => exact h
      | _ + 13, h => exact h
    · intro ac yw hsz hdf hold hB hp
      obtain ⟨k10, e11, sA⟩ := hp 11 (by decide)
      have t5 : ac.tmps[5]? = some (.pointer (some ⟨k10, 0, none⟩)) := (List.cons.inj e11).1
      have t4 : ac.tmps[4]? = some (.pointer (some ⟨w.heap.size + 1, 0, none⟩)) := hold 4 (by kernel_rfl)
      clear hold hp e11
      obtain ⟨TV, hTV⟩ : ∃ TV : Nat → Value, ∀ i, (ac.tmps[i]?).getD undef = TV i := ⟨_, fun _ => rfl⟩
      have f4 := (hTV 4).symm.trans (congrArg (fun x => Option.getD x undef) t4)
      have f5 := (hTV 5).symm.trans (congrArg (fun x => Option.getD x undef) t5)
      have hac := act_eq (n := 26) hsz TV hTV
      rw [show ((List.range 26).map TV).toArray = #[TV 0, TV 1, TV 2, TV 3, TV 4, TV 5, TV 6, TV 7, TV 8, TV 9, TV 10, TV 11, TV 12, TV 13, TV 14, TV 15, TV 16, TV 17, TV 18, TV 19, TV 20, TV 21, TV 22, TV 23, TV 24, TV 25] from rfl, f4, f5, hdf] at hac
      simp only [Option.getD_some] at hac
      subst hac
      clear hTV f4 f5
      have hs := hB.now.1
      have q0 := sA.cell
      have q1 := sA.cell1
      have q2 := sA.cell2
      have r0 := hs.cell
      have r1 := hs.cell1
      have r2 := hs.cell2
      have g0 := hs.free
      have g1 := hs.free1
      have g2 := hs.free2
      have HS := hs.set (.bool x1) (.string x2) (.string x3)
      have HE := Lib.hid (((hB.below.setCell (p := ⟨w.heap.size + 1, 0, none⟩) (show w.heap.size ≤ w.heap.size + 1 by omega) (.bool x1)).setCell (p := ⟨w.heap.size + 1, 1, none⟩) (show w.heap.size ≤ w.heap.size + 1 by omega) (.string x2)).setCell (p := ⟨w.heap.size + 1, 2, none⟩) (show w.heap.size ≤ w.heap.size + 1 by omega) (.string x3))
      clear hB sA hs t4 t5 HP ZE ML
      go_wp2
      exact bodyPost_ret (v := .agg #[.bool x1, .string x2, .string x3]) (by simp [results, Tryz.results22, go_sem, HS]) rfl ⟨rfl, HE.out⟩
    refine Stps2.cons (o := _) ?_ ?_
    · intro ac yw hsz hold hB hp K hK
      have t2 : ac.tmps[2]? = some (.pointer (some ⟨w.heap.size, 0, none⟩)) := hold 2 (by kernel_rfl)
      clear hold hp hsz
      have v0 := hB.now.2.1.cell
      have v1 := hB.now.2.1.cell1
      have v2 := hB.now.2.1.cell2
      go_simp
      exact hK.out _ _ ⟨hB, rfl, Nat.le_refl _, .inl (Below.refl _ _), fun h => absurd h (by decide)⟩
    refine Stps2.cons (o := _) ?_ ?_
    · intro ac yw hsz hold hB hp K hK
      have t1 : ac.tmps[1]? = some (.int .i64 n) := hold 1 (by kernel_rfl)
      clear hold hp hsz
      go_simp
      exact hK.out _ _ ⟨hB, rfl, Nat.le_refl _, .inl (Below.refl _ _), fun h => absurd h (by decide)⟩
    refine Stps2.cons (o := _) ?_ ?_
    · intro ac yw hsz hold hB hp K hK
      have e1 := hp 1 (by decide)
      have t17 : ac.tmps[17]? = some (.int .i64 n) := (List.cons.inj e1).1
      clear hold hp hsz e1
      go_simp
      exact hK.out _ _ ⟨hB, rfl, Nat.le_refl _, .inl (Below.refl _ _), fun h => absurd h (by decide)⟩
    refine Stps2.cons (o := _) ?_ ?_
    · intro ac yw hsz hold hB hp K hK
      have e2 := hp 2 (by decide)
      have t18 : ac.tmps[18]? = some (.int .i64 (N : Int)) := (List.cons.inj e2).1
      clear hold hp hsz e2
      go_simp
      (go_at_call 50; (with_reducible refine (ZE.out _).mono ?_); rintro e wz ⟨rfl, hbz⟩)
      exact hK.out _ _ ⟨hB.go hbz, rfl, hbz.size, .inl hbz, fun h => absurd h (by decide)⟩
    refine Stps2.cons (o := _) ?_ ?_
    · intro ac yw hsz hold hB hp K hK
      have e3 := hp 3 (by decide)
      have t19 : ac.tmps[19]? = some (.string s1) := (List.cons.inj e3).1
      clear hold hp hsz e3
      go_simp
      exact hK.out _ _ ⟨hB, rfl, Nat.le_refl _, .inl (Below.refl _ _), fun h => absurd h (by decide)⟩
    refine Stps2.cons (o := _) ?_ ?_
    · intro ac yw hsz hold hB hp K hK
      have e4 := hp 4 (by decide)
      have t20 : ac.tmps[20]? = some (.string (⟨#[49]⟩ ++ s1)) := (List.cons.inj e4).1
      clear hold hp hsz e4
      go_simp
      exact hK.out _ _ ⟨hB, rfl, Nat.le_refl _, .inl (Below.refl _ _), fun h => absurd h (by decide)⟩
    refine Stps2.cons (o := _) ?_ ?_
    · intro ac yw hsz hold hB hp K hK
      have e0 := hp 0 (by decide)
      have t16 : ac.tmps[16]? = some (.agg #[.bool pb, .string ps, .string q]) := (List.cons.inj e0).1
      have e5 := hp 5 (by decide)
      have t21 : ac.tmps[21]? = some (.agg #[.bool false, .string (⟨#[49]⟩ ++ s1), .string ⟨#[49]⟩]) := (List.cons.inj e5).1
      clear hold hp hsz e0 e5
      go_simp
      (go_at_call 51; (with_reducible refine (ML.out _).mono ?_); rintro e wz ⟨rfl, hbz⟩)
      exact hK.out _ _ ⟨hB.go hbz, rfl, hbz.size, .inl hbz, fun h => absurd h (by decide)⟩
    refine Stps2.cons (o := _) ?_ ?_
    · intro ac yw hsz hold hB hp K hK
      have e6 := hp 6 (by decide)
      have t22 : ac.tmps[22]? = some (.tuple #[.agg #[.bool x1, .string x2, .string x3], .bool true]) := (List.cons.inj e6).1
      clear hold hp hsz e6
      go_simp
      exact hK.out _ _ ⟨hB, rfl, Nat.le_refl _, .inl (Below.refl _ _), fun h => absurd h (by decide)⟩
    refine Stps2.cons (o := _) ?_ ?_
    · intro ac yw hsz hold hB hp K hK
      have e7 := hp 7 (by decide)
      have t15 : ac.tmps[15]? = some (.tuple #[.agg #[.bool x1, .string x2, .string x3], .bool true]) := (List.cons.inj e7).1
      clear hold hp hsz e7
      go_simp
      exact hK.out _ _ ⟨hB, rfl, Nat.le_refl _, .inl (Below.refl _ _), fun h => absurd h (by decide)⟩
    refine Stps2.cons (o := _) ?_ ?_
    · intro ac yw hsz hold hB hp K hK
      have e7 := hp 7 (by decide)
      have t15 : ac.tmps[15]? = some (.tuple #[.agg #[.bool x1, .string x2, .string x3], .bool true]) := (List.cons.inj e7).1
      clear hold hp hsz e7
      go_simp
      exact hK.out _ _ ⟨hB, rfl, Nat.le_refl _, .inl (Below.refl _ _), fun h => absurd h (by decide)⟩
    refine Stps2.cons (o := _) ?_ ?_
    · intro ac yw hsz hold hB hp K hK
      clear hold hp hsz
      have hk0 := hB.now.1.lt
      have hsl := Slot3.new yw (.bool false) (.string ⟨#[]⟩) (.string ⟨#[]⟩) 34
      have hbz : Below yw.heap.size yw (yw.alloc (.cells #[.bool false, .string ⟨#[]⟩, .string ⟨#[]⟩] 34)) ∧ yw.heap.size < (yw.alloc (.cells #[.bool false, .string ⟨#[]⟩, .string ⟨#[]⟩] 34)).heap.size := ⟨(Below.refl _ _).alloc (Nat.le_refl _) _, by simp⟩
      go_simp
      exact hK.out _ _ ⟨hB.alloc _, Exists.intro yw.heap.size (Exists.intro (.bool false) (Exists.intro (.string ⟨#[]⟩) (Exists.intro (.string ⟨#[]⟩) (And.intro rfl (And.intro hsl hk0))))), Nat.le_of_lt hbz.2, .inl hbz.1, fun _ => ⟨_, rfl, Nat.le_refl _, hbz.2⟩⟩
    refine Stps2.cons (o := _) ?_ ?_
    · intro ac yw hsz hold hB hp K hK
      obtain ⟨k10_10, x0_10, y0_10, z0_10, e10, g10_0, g10_1⟩ := hp 10 (by decide)
      have t5 : ac.tmps[5]? = some (.pointer (some ⟨k10_10, 0, none⟩)) := (List.cons.inj e10).1
      have e8 := hp 8 (by decide)
      have t23 : ac.tmps[23]? = some (.agg #[.bool x1, .string x2, .string x3]) := (List.cons.inj e8).1
      clear hold hp hsz e10 e8
      have hs := g10_0
      have l0 := hs.cell
      have l1 := hs.cell1
      have l2 := hs.cell2
      have f0 := hs.free
      have f1 := hs.free1
      have f2 := hs.free2
      have HB := HP.out _ _ hs g10_1 hB (.bool x1) (.string x2) (.string x3)
      go_simp
      refine hK.out undef _ ⟨HB, Exists.intro k10_10 (And.intro (congrArg (fun x => [x]) t5) (hs.set3 (.bool x1) (.string x2) (.string x3))), by simp, .inr ?_, fun h => absurd h (by decide)⟩
      intro jj hj hap h
      match jj, h with
      | 0, h => exact h
      | 1, h => exact h
      | 2, h => exact h
      | 3, h => exact h
      | 4, h => exact h
      | 5, h => exact h
      | 6, h => exact h
      | 7, h => exact h
      | 8, h => exact h
      | 9, h => exact h
      | 10, ⟨k10, x0, y0, z0, e10, g10_0, g10_1⟩ =>
        have e9 : k10 = k10_10 := by have := (List.cons.inj e10).1.symm.trans t5; cases this; rfl
        subst e9
        exact Exists.intro _ (Exists.intro _ (Exists.intro _ (Exists.intro _ (And.intro e10 (And.intro (g10_0.set3 _ _ _) g10_1)))))
      | 11, _ => exact absurd rfl hj
      | 12, h => exact h
      | _ + 13, h => exact h
    refine Stps2.cons (o := _) ?_ ?_
    · intro ac yw hsz hold hB hp K hK
      have e9 := hp 9 (by decide)
      have t24 : ac.tmps[24]? = some (.bool true) := (List.cons.inj e9).1
      clear hold hp hsz e9
      go_simp
      exact hK.out _ _ ⟨hB, rfl, Nat.le_refl _, .inl (Below.refl _ _), fun h => absurd h (by decide)⟩
    exact Stps2.nil _

end Go.Proofs.YtgpcfncolhmgfaaGreatDoor

namespace Go.Proofs.YtgpcfncolhmgfaaGreatDoor
open Go.RowKit

def isE (P Q : Nat) (e : Int) : Prop := ∃ u v : Nat, (u : Int) - (v : Int) = e ∧ Q * 10 ^ u ≤ P * 10 ^ v ∧ P * 10 ^ v < Q * 10 ^ u * 10
theorem isE_le {P Q : Nat} {e e' : Int} (h : isE P Q e) (h' : isE P Q e') : e' ≤ e := by
  obtain ⟨u, v, h1, _, h3⟩ := h
  obtain ⟨u', v', g1, g2, _⟩ := h'
  have a : Q * 10 ^ u' * 10 ^ v ≤ P * 10 ^ v' * 10 ^ v := Nat.mul_le_mul_right _ g2
  have b : P * 10 ^ v * 10 ^ v' < Q * 10 ^ u * 10 * 10 ^ v' := Nat.mul_lt_mul_of_pos_right h3 (Nat.pow_pos (by omega))
  have e1 : P * 10 ^ v' * 10 ^ v = P * 10 ^ v * 10 ^ v' := by rw [Nat.mul_assoc, Nat.mul_comm (10 ^ v'), ← Nat.mul_assoc]
  have c : Q * (10 ^ (u' + v)) < Q * 10 ^ (u + 1 + v') := by
    rw [Nat.pow_add, ← Nat.mul_assoc, Nat.pow_add, Nat.pow_succ, ← Nat.mul_assoc, ← Nat.mul_assoc]
    omega
  have d : 10 ^ (u' + v) < 10 ^ (u + 1 + v') := Nat.lt_of_mul_lt_mul_left c
  have f := (Nat.pow_lt_pow_iff_right (a := 10) (by omega)).1 d
  omega
theorem isE_uniq {P Q : Nat} {e e' : Int} (h : isE P Q e) (h' : isE P Q e') : e = e' := Int.le_antisymm (isE_le h' h) (isE_le h h')
theorem sE_isE {P Q : Nat} (hP : 0 < P) (hQ : 0 < Q) : isE P Q (sE P Q) := by
  obtain ⟨x, hx⟩ : ∃ x, (sE P Q + 1).toNat = x := ⟨_, rfl⟩
  obtain ⟨y, hy⟩ : ∃ y, (-(sE P Q + 1)).toNat = y := ⟨_, rfl⟩
  have hs := s_same P Q x y (by omega)
  obtain ⟨h1, h2, h3, h4⟩ := s_spec hP hQ
  refine ⟨x, y + 1, by omega, ?_, ?_⟩
  · rw [Nat.pow_succ]
    have a : sB P Q * (Q * 10 ^ x) ≤ 10 * sT P Q * (Q * 10 ^ x) := Nat.mul_le_mul_right _ h4
    have b : sB P Q * (Q * 10 ^ x) ≤ sB P Q * (P * (10 ^ y * 10)) := by
      calc sB P Q * (Q * 10 ^ x) ≤ 10 * sT P Q * (Q * 10 ^ x) := a
        _ = 10 * (sT P Q * Q * 10 ^ x) := by grind
        _ = 10 * (P * sB P Q * 10 ^ y) := by rw [hs]
        _ = sB P Q * (P * (10 ^ y * 10)) := by grind
    exact Nat.le_of_mul_le_mul_left b h2
  · rw [Nat.pow_succ]
    have a : sT P Q * (Q * 10 ^ x) < sB P Q * (Q * 10 ^ x) := Nat.mul_lt_mul_of_pos_right h3 (Nat.mul_pos hQ (Nat.pow_pos (by omega)))
    have b : sB P Q * (P * (10 ^ y * 10)) < sB P Q * (Q * 10 ^ x * 10) := by
      calc sB P Q * (P * (10 ^ y * 10)) = 10 * (P * sB P Q * 10 ^ y) := by grind
        _ = 10 * (sT P Q * Q * 10 ^ x) := by rw [hs]
        _ = 10 * (sT P Q * (Q * 10 ^ x)) := by grind
        _ < 10 * (sB P Q * (Q * 10 ^ x)) := by omega
        _ = sB P Q * (Q * 10 ^ x * 10) := by grind
    exact Nat.lt_of_mul_lt_mul_left b
/-- A number from 1 on. -/
theorem isE_whole {P Q : Nat} (hQ : 0 < Q) (h : 0 < P / Q) : isE P Q ((dl (P / Q) : Int) - 1) := by
  have hd := dl_pos (P / Q)
  obtain ⟨d, hd⟩ : ∃ d, dl (P / Q) = d + 1 := ⟨dl (P / Q) - 1, by omega⟩
  have h1 := dl_low h
  have h2 := dl_lt (P / Q)
  rw [hd] at h1 h2 ⊢
  rw [Nat.add_sub_cancel] at h1
  refine ⟨d, 0, by omega, ?_, ?_⟩
  · rw [Nat.pow_zero, Nat.mul_one, Nat.mul_comm]
    exact (Nat.le_div_iff_mul_le hQ).1 h1
  · rw [Nat.pow_zero, Nat.mul_one, Nat.mul_assoc, ← Nat.pow_succ, Nat.mul_comm]
    exact (Nat.div_lt_iff_lt_mul hQ).1 h2
/-- A number below 1, that times the i-th power of ten is none. -/
theorem isE_below {P Q A B i : Nat} (hB : 0 < B) (h : A * Q = P * 10 ^ i * B) (hi : 0 < i) (hl : P * 10 ^ (i - 1) < Q) (hg : B ≤ A) : isE P Q (-(i : Int)) := by
  refine ⟨0, i, by omega, ?_, ?_⟩
  · rw [Nat.pow_zero, Nat.mul_one]
    refine Nat.le_of_mul_le_mul_right (c := B) ?_ hB
    rw [← h, Nat.mul_comm Q B]
    exact Nat.mul_le_mul_right _ hg
  · obtain ⟨j, rfl⟩ : ∃ j, i = j + 1 := ⟨i - 1, by omega⟩
    rw [Nat.add_sub_cancel] at hl
    rw [Nat.pow_succ, ← Nat.mul_assoc, Nat.pow_zero]
    omega

theorem flQ_nat (Z Y : Nat) : flQ (Z : Int) (Y : Int) = ((Z / Y : Nat) : Int) := by
  unfold flQ flU flA
  rw [decide_eq_false (show ¬ (Z : Int) < 0 by omega), decide_eq_false (show ¬ (Y : Int) < 0 by omega)]
  simp [sgn]
theorem div_cross {a b c d : Nat} (hb : 0 < b) (hd : 0 < d) (h : a * d = c * b) : a / b = c / d := by
  rw [← Nat.mul_div_mul_right a b hd, h, Nat.mul_comm b d, Nat.mul_div_mul_right c d hb]
theorem fl_half {X1 X2 : Nat} (h : 0 < X2) : flQ (plP (X1 : Int) X2 1 2) (plQ (X1 : Int) X2 1 2 : Nat) = (((2 * X1 + X2) / (2 * X2) : Nat) : Int) := by
  have hc := lo_cross ((X1 : Int) * ((2 : Nat) : Int) + 1 * (X2 : Int)) (X2 * 2)
  rw [show loP ((X1 : Int) * ((2 : Nat) : Int) + 1 * (X2 : Int)) (X2 * 2) = plP (X1 : Int) X2 1 2 from rfl, show loQ ((X1 : Int) * ((2 : Nat) : Int) + 1 * (X2 : Int)) (X2 * 2) = plQ (X1 : Int) X2 1 2 from rfl] at hc
  have hp : 0 < plQ (X1 : Int) X2 1 2 := loQ_pos _ (by omega)
  have hz := loP_neg (P := (X1 : Int) * ((2 : Nat) : Int) + 1 * (X2 : Int)) (Q := X2 * 2)
  rw [show loP ((X1 : Int) * ((2 : Nat) : Int) + 1 * (X2 : Int)) (X2 * 2) = plP (X1 : Int) X2 1 2 from rfl, decide_eq_false (show ¬ ((X1 : Int) * ((2 : Nat) : Int) + 1 * (X2 : Int) < 0) by omega)] at hz
  have hz := of_decide_eq_false hz
  generalize plP (X1 : Int) X2 1 2 = Z at *
  generalize plQ (X1 : Int) X2 1 2 = Y at *
  obtain ⟨z, rfl⟩ : ∃ z : Nat, Z = z := ⟨Z.toNat, by omega⟩
  rw [flQ_nat]
  congr 1
  refine div_cross hp (by omega) ?_
  have h2 : ((z * (2 * X2) : Nat) : Int) = (((2 * X1 + X2) * Y : Nat) : Int) := by
    simp only [Int.natCast_mul, Int.natCast_add] at hc ⊢
    grind
  omega
theorem tt_scale {P Q : Nat} (hQ : 0 < Q) {many : Nat} {n : Int} (hn : n = (many : Int) - 1 - sE P Q) {X1 X2 : Nat} (h : X1 * (Q * 10 ^ (-n).toNat) = P * 10 ^ n.toNat * X2) :
    X1 * sB P Q = sT P Q * 10 ^ many * X2 := by
  obtain ⟨x, hx⟩ : ∃ x, (sE P Q + 1).toNat = x := ⟨_, rfl⟩
  obtain ⟨y, hy⟩ : ∃ y, (-(sE P Q + 1)).toNat = y := ⟨_, rfl⟩
  have hs := s_same P Q x y (by omega)
  obtain ⟨a, ha⟩ : ∃ a, n.toNat = a := ⟨_, rfl⟩
  obtain ⟨b, hb⟩ : ∃ b, (-n).toNat = b := ⟨_, rfl⟩
  rw [ha, hb] at h
  have he : (10 : Nat) ^ a * 10 ^ x = 10 ^ many * 10 ^ b * 10 ^ y := by
    rw [← Nat.pow_add, ← Nat.pow_add, ← Nat.pow_add]
    congr 1
    omega
  refine Nat.eq_of_mul_eq_mul_right (m := Q * 10 ^ b * 10 ^ y * 10 ^ x) (Nat.mul_pos (Nat.mul_pos (Nat.mul_pos hQ (Nat.pow_pos (by omega))) (Nat.pow_pos (by omega))) (Nat.pow_pos (by omega))) ?_
  generalize (10 : Nat) ^ a = A at *
  generalize (10 : Nat) ^ b = B at *
  generalize (10 : Nat) ^ x = X at *
  generalize (10 : Nat) ^ y = Y at *
  generalize (10 : Nat) ^ many = M at *
  generalize sT P Q = T at *
  generalize sB P Q = S at *
  calc X1 * S * (Q * B * Y * X) = (X1 * (Q * B)) * (S * Y * X) := by grind
    _ = (P * A * X2) * (S * Y * X) := by rw [h]
    _ = (P * S * Y) * (A * X) * X2 := by grind
    _ = (T * Q * X) * (M * B * Y) * X2 := by rw [hs, he]
    _ = T * M * X2 * (Q * B * Y * X) := by grind
theorem tt_round {P Q : Nat} (hP : 0 < P) (hQ : 0 < Q) {many X1 X2 : Nat} (hX : 0 < X2) (h : X1 * sB P Q = sT P Q * 10 ^ many * X2) : (2 * X1 + X2) / (2 * X2) = mM (sT P Q) (sB P Q) many := by
  unfold mM
  refine div_cross (by omega) (by have := (s_spec hP hQ).2.1; omega) ?_
  generalize sT P Q * 10 ^ many = U at *
  generalize sB P Q = S at *
  calc (2 * X1 + X2) * (2 * S) = 2 * (2 * (X1 * S)) + 2 * (X2 * S) := by grind
    _ = 2 * (2 * (U * X2)) + 2 * (X2 * S) := by rw [h]
    _ = (2 * U + S) * (2 * X2) := by grind

end Go.Proofs.YtgpcfncolhmgfaaGreatDoor

