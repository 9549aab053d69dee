/-
  Proved: the law RatioTells of package typeballlaw03 returns true for every number and every int (statement RatioTellsCardSaid), under the row's own conditions.
-/
import Derived.Test.YtipfhbfjbbiglaaGreatDoorLa1
import Derived.Test.YtipfhbfjbbiglaaGreatDoorRa14
import Derived.Test.YtipfhbfjbbiglaaGreatDoorRr5
import Derived.Test.YtipfhbfjbbiglaaGreatDoorRc1
import Derived.Test.YtipfhbfjbbiglaaGreatDoorCards
import Derived.Test.YtipfhbfjbbiglaaGreatDoorTie
import Derived.Test.YtipfhbfjbbiglaaGreatDoorNum3
import Derived.LaidMore
import Derived.Lay
import Derived.SevenTiedAt
import Derived.Stop.Joined
import Derived.Laws.StructEq
namespace Go.Proofs.YtipfhbfjbbiglaaGreatDoor
open Go.ChangeShapes Go.WideShapes Go.ChangeAt Go.RowKit Go.WideMaps Go.WideElems
open Go.ChangeMaps (open_string shut_string)
attribute [local go_sem ↓] Go.wp_at_zero Go.wp_at_succ

set_option maxHeartbeats 6400000 in
set_option maxRecDepth 100000 in
theorem ratioTells_no (b : Bool) (s t : ByteArray) (k : Int) (w : World) (h : rd3 b s t = false) :
    Calls Tryz.prog 4 #[.agg #[.bool b, .string s, .string t], .int .i64 k] w fun e w' => e = .returned (.bool true) ∧ Below w.heap.size w w' := by
  have BB := Lib.hid ((Bag.start w).box3 (.bool b) (.string s) (.string t) 23)
  have RD := Lib.hid (fun wz => read3_no b s t wz h)
  unfold RatTold3 at RD
  have q0 := BB.out.now.1.cell
  have q1 := BB.out.now.1.cell1
  have q2 := BB.out.now.1.cell2
  clear h
  go_enter Tryz.func4, Tryz.ntmps4
  go_wp2_with fail
  go_at_call 23
  (with_reducible refine (RD.out _).mono ?_)
  rintro e w1 ⟨a, n, c, m, a2, n2, c2, rfl, hr, hb1⟩
  have BB := Lib.hid ((BB.out.go hb1).alloc (.cells #[.slice a n c, .bool m, .slice a2 n2 c2] 37))
  clear hr hb1
  go_wp2_with fail
  go_at_call 12
  refine (awake3_any _).mono ?_
  rintro e w2 ⟨rfl, hb2⟩
  have BB := Lib.hid (BB.out.go hb2)
  go_wp2
  go_ret
  exact ⟨rfl, BB.out.below⟩

set_option linter.unusedSimpArgs false in
set_option maxHeartbeats 6400000 in
set_option maxRecDepth 100000 in
theorem ratioTells_yes (b : Bool) (s t : ByteArray) (k : Int) (w : World) (h : rd3 b s t = true) (hk : -9223372036854775808 ≤ k ∧ k ≤ 9223372036854775807) :
    Calls Tryz.prog 4 #[.agg #[.bool b, .string s, .string t], .int .i64 k] w fun e w' => e = .returned (.bool true) ∧ Below w.heap.size w w' := by
  have RD := Lib.hid (fun wz => read3_yes b s t wz h)
  unfold RatTold3 at RD
  obtain ⟨h1, h2, h3, hQ, _, hd1, hd2, hk1, hk2⟩ := rd3_spec h
  clear h
  generalize ofP b s t = P at *
  generalize ofQ b s t = Q at *
  subst h1 h2 h3
  have BB := Lib.hid ((Bag.start w).box3 (.bool (rB P)) (.string (rS P)) (.string (str (dec Q))) 23)
  have IN := Lib.hid (fun a n c m a2 n2 c2 wz hz => ratInt_any a n c m a2 n2 c2 P Q wz hz hQ)
  have RI := Lib.hid (fun wz => r3Int_any P Q wz (by omega))
  have FK := Lib.hid (fun wz => ratFrom_any k wz hk)
  have IK := Lib.hid (fun a n c m a2 n2 c2 wz hz => ratInt_any a n c m a2 n2 c2 k 1 wz hz (by omega))
  rw [if_pos rfl, show fitI k = k by unfold fitI fitB; rw [decide_eq_true hk]; rfl] at IK
  have hkk : k.natAbs < 4294967296 ^ 3 := by omega
  have NK := Lib.hid (fun a n c m a2 n2 c2 wz hz => num_any a n c m a2 n2 c2 k 1 wz hz (by omega) 3 (by omega) hkk (by decide))
  have RK := Lib.hid (fun wz => r3From_any k wz hk)
  have TP := Lib.hid (fun a n c m a2 n2 c2 wz hz => top_any a n c m a2 n2 c2 P Q wz hz)
  have DG := Lib.hid (fun a n c m wz (h : IntAt wz a n c m P) => digits_any a n c m P ⟨#[45]⟩ wz h 6 (by omega) hk1 (by decide) (by omega))
  have RT := Lib.hid (fun wz => r3Top_any P (str (dec Q)) wz (by omega))
  have DR := Lib.hid (fun wz => rDigits_any P ⟨#[45]⟩ wz (by omega) (by decide))
  have BT := Lib.hid (fun a n c m a2 n2 c2 wz hz => bot_any a n c m a2 n2 c2 P Q wz hz hQ)
  have TX := Lib.hid (fun a n c wz (h : NatIs wz (.agg #[.slice a n c]) Q) => text_any (.agg #[.slice a n c]) Q wz h 6 (by omega) hk2)
  have SG := Lib.hid (fun a n c m a2 n2 c2 wz hz => ratSign_any a n c m a2 n2 c2 P Q wz hz)
  have RS := Lib.hid (fun wz => rSign_any P wz)
  have IW := Lib.hid (fun a n c m a2 n2 c2 wz hz => isWhole_any a n c m a2 n2 c2 P Q wz hz hQ)
  have h1q := dec_is1 Q
  have LM := Lib.hid (fun a n c m a2 n2 c2 wz hz => limited_any a n c m a2 n2 c2 P Q wz hz hQ)
  have RL := Lib.hid (fun wz => r3Limited_any (rB P) P Q wz)
  have LB := Lib.hid (fun a n c m a2 n2 c2 wz hz => ratLimbs_any a n c m a2 n2 c2 P Q wz hz hQ)
  have e65 : (4294967296 : Nat) ^ 6 = 65536 ^ 12 := by decide
  have RLB := Lib.hid (fun wz => r3Limbs_any (rB P) P Q 12 wz (by omega) (by omega) (by omega) (by omega) (by omega))
  have hmax : max ((lbs P.natAbs : Nat) : Int) ((lbs Q : Nat) : Int) = ((max ((nbits P.natAbs + 31) / 32) ((nbits Q + 31) / 32) : Nat) : Int) := by unfold lbs; omega
  rw [hmax] at LB
  have MN := Lib.hid (fun a n c m a2 n2 c2 wz hz => ratMinus_any a n c m a2 n2 c2 P Q wz hz)
  have NM := Lib.hid (fun a n c m a2 n2 c2 wz hz => num_any a n c m a2 n2 c2 (-P) Q wz hz hQ 6 (by omega) (by rw [Int.natAbs_neg]; exact hk1) hk2)
  have RM := Lib.hid (fun wz => r3Minus_any P Q wz)
  have hf1 := flQ_abs P (Q : Int)
  have hf2 := flQ_abs (-P) (Q : Int)
  rw [Int.natAbs_neg] at hf2
  have d1 : dl 1 ≤ 50 := by rw [dl_one]; omega
  have hg1 : dl (flQ P (Q : Int)).natAbs ≤ 51 := Nat.le_trans (dl_mono hf1) (dl_add_le hd1 d1)
  have hg2 : dl (-(flQ (-P) (Q : Int))).natAbs ≤ 51 := by rw [Int.natAbs_neg]; exact Nat.le_trans (dl_mono hf2) (dl_add_le hd1 d1)
  have p7 : (4294967296 : Nat) ^ 7 = 4294967296 ^ 6 * 4294967296 := Nat.pow_succ _ _
  have hl1 : (flQ P (Q : Int)).natAbs < 4294967296 ^ 7 := by omega
  have hl2 : (-(flQ (-P) (Q : Int))).natAbs < 4294967296 ^ 7 := by omega
  have FL := Lib.hid (fun a n c m a2 n2 c2 wz hz => ratFloor_any a n c m a2 n2 c2 P Q wz hz hQ 6 (by omega) hk1)
  have DF := Lib.hid (fun a n c m wz (h : IntAt wz a n c m (flQ P (Q : Int))) => digits_any a n c m (flQ P (Q : Int)) ⟨#[45]⟩ wz h 7 (by omega) hl1 (by decide) (by omega))
  have RF := Lib.hid (fun wz => r3Floor_any P Q wz hQ (by omega) (by omega))
  have DRF := Lib.hid (fun wz => rDigits_any (flQ P (Q : Int)) ⟨#[45]⟩ wz (by omega) (by decide))
  have CE := Lib.hid (fun a n c m a2 n2 c2 wz hz => ratCeil_any a n c m a2 n2 c2 P Q wz hz hQ 6 (by omega) hk1)
  generalize hC : -(flQ (-P) (Q : Int)) = C at *
  have DC := Lib.hid (fun a n c m wz (h : IntAt wz a n c m C) => digits_any a n c m C ⟨#[45]⟩ wz h 7 (by omega) hl2 (by decide) (by omega))
  have RC : Hid (∀ wz, Calls Tryz.prog 46 #[.agg #[.bool (rB P), .string (rS P), .string (str (dec Q))]] wz fun e w' => RTold wz w' e C) := fun wz => by rw [← hC]; exact r3Ceil_any P Q wz hQ (by omega) (by omega)
  have DRC := Lib.hid (fun wz => rDigits_any C ⟨#[45]⟩ wz (by omega) (by decide))
  clear hC hf1 hf2 hg1 hg2 p7 hl1 hl2 e65 hmax hkk d1 hd1 hd2 hk1 hk2 hQ hk
  unfold RTold at RT RF RC
  unfold NumTold at NK RK NM RM
  generalize digS P ⟨#[45]⟩ = t1 at *
  generalize digS (flQ P (Q : Int)) ⟨#[45]⟩ = t2 at *
  generalize digS C ⟨#[45]⟩ = t3 at *
  generalize sgnI P = sg at *
  generalize (if Q = 1 then fitI P else 0) = iv at *
  generalize (decide (Q = 1) && fitB P) = ib at *
  generalize ((max ((nbits P.natAbs + 31) / 32) ((nbits Q + 31) / 32) : Nat) : Int) = lb at *
  generalize (decide (Q = 1) && (decide (P.natAbs = 0) || decide (P.natAbs = 1))) = lm at *
  generalize decide (Q = 1) = q1 at *
  generalize rB (-P) = mb at *
  generalize rS (-P) = ms at *
  generalize rB (flQ P (Q : Int)) = fb at *
  generalize rS (flQ P (Q : Int)) = fs at *
  generalize rB C = cb at *
  generalize rS C = cs at *
  generalize rB k = kb at *
  generalize rS k = ks at *
  generalize rB P = pb at *
  generalize rS P = ps at *
  generalize str (dec Q) = q at *
  generalize str (dec 1) = o1 at *
  have c0 := BB.out.now.1.cell
  have c1 := BB.out.now.1.cell1
  have c2' := BB.out.now.1.cell2
  go_enter Tryz.func4, Tryz.ntmps4
  go_wp2_with fail
  go_at_call 23
  (with_reducible refine (RD.out _).mono ?_)
  rintro e w1 ⟨a, n, c, m, a2, n2, c2, rfl, hr, hb1⟩
  have BB := Lib.hid (((BB.out.go hb1).rat hr).box3 (.slice a n c) (.bool m) (.slice a2 n2 c2) 37)
  clear hr hb1 c0 c1 c2'
  have c0 := BB.out.now.1.cell
  have c1 := BB.out.now.1.cell1
  have c2' := BB.out.now.1.cell2
  go_wp2_with fail
  go_at_call 24
  (with_reducible refine (IN.out _ _ _ _ _ _ _ _ BB.out.now.2.1).mono ?_)
  rintro e w2 ⟨rfl, hb2⟩
  have BB := Lib.hid (BB.out.go hb2)
  clear hb2 c0 c1 c2'
  have c0 := BB.out.now.2.2.1.cell
  have c1 := BB.out.now.2.2.1.cell1
  have c2' := BB.out.now.2.2.1.cell2
  go_wp2_with fail
  go_at_call 25
  (with_reducible refine (RI.out _).mono ?_)
  rintro e w3 ⟨rfl, hb3⟩
  have BB := Lib.hid (BB.out.go hb3)
  clear hb3 c0 c1 c2'
  go_wp2_with fail
  go_at_call 26
  (with_reducible refine (FK.out _).mono ?_)
  rintro e w4 ⟨a5, n5, c5, m5, a6, n6, c6, rfl, hr4, hb4⟩
  have BB := Lib.hid (BB.out.go hb4)
  go_wp2_with fail
  go_at_call 24
  (with_reducible refine (IK.out _ _ _ _ _ _ _ _ hr4).mono ?_)
  rintro e w5 ⟨rfl, hb5⟩
  have BB := Lib.hid (BB.out.go hb5)
  clear hb4 hb5 hr4 IN RI IK
  go_wp2_with fail
  have BB := Lib.hid BB.out.drew
  go_region_held3 (fun y => (y.cell? ⟨w.heap.size, 0, none⟩ = some (.bool pb) ∧ y.cell? ⟨w.heap.size, 1, none⟩ = some (.string ps) ∧ y.cell? ⟨w.heap.size, 2, none⟩ = some (.string q)) ∧ y.cell? ⟨w1.heap.size, 0, none⟩ = some (.slice a n c) ∧ y.cell? ⟨w1.heap.size, 1, none⟩ = some (.bool m) ∧ y.cell? ⟨w1.heap.size, 2, none⟩ = some (.slice a2 n2 c2))
    (exact ⟨⟨BB.out.now.2.2.1.cell, BB.out.now.2.2.1.cell1, BB.out.now.2.2.1.cell2⟩, BB.out.now.1.cell, BB.out.now.1.cell1, BB.out.now.1.cell2⟩)
    (first
      | (go_at_call 26; (with_reducible refine (FK.out _).mono ?_); rintro e w6 ⟨a7, n7, c7, m7, a8, n8, c8, rfl, hr6, hb6⟩; have BB := Lib.hid (BB.out.go hb6))
      | (go_at_call 20; (with_reducible refine (NK.out _ _ _ _ _ _ _ _ hr6).mono ?_); rintro e w7 ⟨rfl, hb7⟩; have BB := Lib.hid (BB.out.go hb7))
      | (go_at_call 27; (with_reducible refine (RK.out _).mono ?_); rintro e w8 ⟨rfl, hb8⟩; have BB := Lib.hid (BB.out.go hb8))
      | (go_at_call 28; (with_reducible refine (TP.out _ _ _ _ _ _ _ _ BB.out.now.2.1).mono ?_); rintro e w9 ⟨rfl, hi9, hb9⟩; have BB := Lib.hid (BB.out.go hb9))
      | (go_at_call 29; (with_reducible refine (DG.out _ _ _ _ _ hi9).mono ?_); rintro e w10 ⟨rfl, hb10⟩; have BB := Lib.hid (BB.out.go hb10))
      | (go_at_call 31; (with_reducible refine (RT.out _).mono ?_); rintro e w11 ⟨rfl, hb11⟩; have BB := Lib.hid (BB.out.go hb11))
      | (go_at_call 30; (with_reducible refine (DR.out _).mono ?_); rintro e w12 ⟨rfl, hb12⟩; have BB := Lib.hid (BB.out.go hb12))
      | (go_at_call 32; (with_reducible refine (BT.out _ _ _ _ _ _ _ _ BB.out.now.2.1).mono ?_); rintro e w13 ⟨a9, n9, c9, rfl, hn13, hb13⟩; have BB := Lib.hid (BB.out.go hb13))
      | (go_at_call 33; (with_reducible refine (TX.out _ _ _ _ hn13).mono ?_); rintro e w14 ⟨rfl, hb14⟩; have BB := Lib.hid (BB.out.go hb14)))
  clear FK NK RK TP DG DR BT TX
  go_wp2_with fail
  simp only [List.append]
  have BB := Lib.hid BB.out.drew
  go_region_held3 (fun y => (y.cell? ⟨w.heap.size, 0, none⟩ = some (.bool pb) ∧ y.cell? ⟨w.heap.size, 1, none⟩ = some (.string ps) ∧ y.cell? ⟨w.heap.size, 2, none⟩ = some (.string q)) ∧ y.cell? ⟨w1.heap.size, 0, none⟩ = some (.slice a n c) ∧ y.cell? ⟨w1.heap.size, 1, none⟩ = some (.bool m) ∧ y.cell? ⟨w1.heap.size, 2, none⟩ = some (.slice a2 n2 c2))
    (exact ⟨⟨BB.out.now.2.2.1.cell, BB.out.now.2.2.1.cell1, BB.out.now.2.2.1.cell2⟩, BB.out.now.1.cell, BB.out.now.1.cell1, BB.out.now.1.cell2⟩)
    (first
      | (go_at_call 34; (with_reducible refine (SG.out _ _ _ _ _ _ _ _ BB.out.now.2.1).mono ?_); rintro e w15 ⟨rfl, hb15⟩; have BB := Lib.hid (BB.out.go hb15))
      | (go_at_call 31; (with_reducible refine (RT.out _).mono ?_); rintro e w16 ⟨rfl, hb16⟩; have BB := Lib.hid (BB.out.go hb16))
      | (go_at_call 35; (with_reducible refine (RS.out _).mono ?_); rintro e w17 ⟨rfl, hb17⟩; have BB := Lib.hid (BB.out.go hb17))
      | (go_at_call 36; (with_reducible refine (IW.out _ _ _ _ _ _ _ _ BB.out.now.2.1).mono ?_); rintro e w18 ⟨rfl, hb18⟩; have BB := Lib.hid (BB.out.go hb18))
      | (go_at_call 37; (with_reducible refine (LM.out _ _ _ _ _ _ _ _ BB.out.now.2.1).mono ?_); rintro e w19 ⟨rfl, hb19⟩; have BB := Lib.hid (BB.out.go hb19))
      | (go_at_call 38; (with_reducible refine (RL.out _).mono ?_); rintro e w20 ⟨rfl, hb20⟩; have BB := Lib.hid (BB.out.go hb20))
      | (go_at_call 39; (with_reducible refine (LB.out _ _ _ _ _ _ _ _ BB.out.now.2.1).mono ?_); rintro e w21 ⟨rfl, hb21⟩; have BB := Lib.hid (BB.out.go hb21))
      | (go_at_call 40; (with_reducible refine (RLB.out _).mono ?_); rintro e w22 ⟨rfl, hb22⟩; have BB := Lib.hid (BB.out.go hb22))
      | (go_at_call 41; (with_reducible refine (MN.out _ _ _ _ _ _ _ _ BB.out.now.2.1).mono ?_); rintro e w23 ⟨a10, n10, c10, m10, a11, n11, c11, rfl, hr23, hb23⟩; have BB := Lib.hid (BB.out.go hb23))
      | (go_at_call 20; (with_reducible refine (NM.out _ _ _ _ _ _ _ _ hr23).mono ?_); rintro e w24 ⟨rfl, hb24⟩; have BB := Lib.hid (BB.out.go hb24))
      | (go_at_call 42; (with_reducible refine (RM.out _).mono ?_); rintro e w25 ⟨rfl, hb25⟩; have BB := Lib.hid (BB.out.go hb25))
      | (go_at_call 43; (with_reducible refine (FL.out _ _ _ _ _ _ _ _ BB.out.now.2.1).mono ?_); rintro e w26 ⟨a12, n12, c12, m12, rfl, hi26, hb26⟩; have BB := Lib.hid (BB.out.go hb26))
      | (go_at_call 29; (with_reducible refine (DF.out _ _ _ _ _ hi26).mono ?_); rintro e w27 ⟨rfl, hb27⟩; have BB := Lib.hid (BB.out.go hb27))
      | (go_at_call 44; (with_reducible refine (RF.out _).mono ?_); rintro e w28 ⟨rfl, hb28⟩; have BB := Lib.hid (BB.out.go hb28))
      | (go_at_call 30; (with_reducible refine (DRF.out _).mono ?_); rintro e w29 ⟨rfl, hb29⟩; have BB := Lib.hid (BB.out.go hb29))
      | (go_at_call 45; (with_reducible refine (CE.out _ _ _ _ _ _ _ _ BB.out.now.2.1).mono ?_); rintro e w30 ⟨a13, n13, c13, m13, rfl, hi30, hb30⟩; have BB := Lib.hid (BB.out.go hb30))
      | (go_at_call 29; (with_reducible refine (DC.out _ _ _ _ _ hi30).mono ?_); rintro e w31 ⟨rfl, hb31⟩; have BB := Lib.hid (BB.out.go hb31))
      | (go_at_call 46; (with_reducible refine (RC.out _).mono ?_); rintro e w32 ⟨rfl, hb32⟩; have BB := Lib.hid (BB.out.go hb32))
      | (go_at_call 30; (with_reducible refine (DRC.out _).mono ?_); rintro e w33 ⟨rfl, hb33⟩; have BB := Lib.hid (BB.out.go hb33))
      | (go_at_call 12; refine (awake3_any _).mono ?_; rintro e w34 ⟨rfl, hb34⟩; have BB := Lib.hid (BB.out.go hb34)))
  go_wp2
  go_ret
  exact ⟨rfl, BB.out.below⟩

theorem ratioTells_walk (b : Bool) (s t : ByteArray) (k : Int) (w : World) (_ : s.size ≤ maxLen) (_ : t.size ≤ maxLen) (hk : -9223372036854775808 ≤ k ∧ k ≤ 9223372036854775807) :
    Calls Tryz.prog 4 #[.agg #[.bool b, .string s, .string t], .int .i64 k] w fun e w' => e = .returned (.bool true) ∧ Below w.heap.size w w' := by
  cases h : rd3 b s t with
  | false => exact ratioTells_no b s t k w h
  | true => exact ratioTells_yes b s t k w h hk

theorem own : ownKnob Tryz.prog.godebug = none := by kernel_rfl

set_option maxRecDepth 100000 in
theorem ratioTells_lifted (os : Os) (started : os.Started) (H : Type) (enc : TypeId × Value → H) :
    ReturnsInHanded {} Tryz.checked os 4 .any (fun w args => (Rows.ratioTellsSpec.pre enc Tryz.prog Tryz.f4 [] false w args ∧ laidMetH Tryz.prog Rows.ratioTellsRow.laid w) ∧ sizedMet enc Tryz.prog Tryz.f4 (OpenSpec.ofChange Rows.ratioTellsSpec) false w args)
      (Rows.ratioTellsSpec.post enc Tryz.prog Tryz.f4 false true false false) := by
  refine returnsInHanded_of_change_and (C := Tryz.checked) (X := fun w _ => laidMetH Tryz.prog Rows.ratioTellsRow.laid w) (fun _ _ _ hh h => h.of_heap hh) own started (by kernel_rfl) Tryz.func4
    (ChangeSpec.witness_shaped (enc := enc) (C := Tryz.checked) (os := os) (X := fun w _ => laidMetH Tryz.prog Rows.ratioTellsRow.laid w) false (World.laidAll Tryz.prog os Rows.ratioTellsRow.laid) #[.agg #[.bool false, .string ⟨#[]⟩, .string ⟨#[]⟩], .int .i64 0] 8 (World.laidAll_os _ _ _)
      (World.shaped_of_ZipB (by kernel_rfl) (by kernel_rfl)) (by kernel_rfl) (by kernel_rfl) (by kernel_rfl)
      (by rw [MakeChecks.laidMetH_plain _ _ _ (by kernel_rfl)]; exact laidMet_laidAll _ (by kernel_rfl) (by kernel_rfl))) ?_
  intro W base args ds gs before hval0 hW _ _ _ _
  have hval : ∀ (j : Nat) t v, Tryz.f4.params[j]? = some t → args[j]? = some v → Value.okWide Tryz.prog W .any base t v := hval0
  have hW' := hW
  obtain ⟨p, q, hA0, hV, rfl, _, _⟩ := hW
  have hA : DataW.TrodAll enc Tryz.prog W 0 (fun _ => true) true Tryz.f4.params.toList args.toList ds p := hA0
  rw [Tryz.params4] at hA hval
  obtain ⟨v0, v1, d0, d1, p0, p1, rfl, rfl, rfl, h0, h1⟩ := trodAll_two hA
  obtain ⟨rfl, rfl⟩ := trodVars_none hV
  obtain ⟨x0, y0, z0, rfl, rfl, rfl, b0, c0⟩ := open_num (hval 0 23 v0 rfl rfl) h0
  obtain ⟨x1, rfl, rfl, rfl, w1⟩ := open_int Tryz.underlying3 (hval 1 3 v1 rfl rfl) h1
  have b1 : -9223372036854775808 ≤ x1 ∧ x1 ≤ 9223372036854775807 := by simpa [Lit.wf, IntKind.min, IntKind.max, IntKind.signed, IntKind.bits] using w1
  simp only [List.append_nil] at hW'
  refine (ratioTells_walk x0 y0 z0 x1 W b0 c0 b1).mono fun e W' ⟨he, hb⟩ => ?_
  subst he
  exact ⟨_, rfl, _, _, _, [], [], [], hW', trodAll_mk1 (shut_bool Tryz.underlying4 _), trodAll_mk2 (shut_num b0 c0) (shut_int Tryz.underlying3 w1), rfl, hb.frame _, fun h => by cases h⟩

theorem ratioTells_row : Rows.RatioTellsSaid :=
  OpenClaim.holds_of_wide 4 Tryz.f4 rfl rfl rfl rfl rfl rfl rfl ⟨rfl, rfl, rfl, rfl, rfl⟩ rfl rfl rfl rfl rfl (by kernel_rfl) Tryz.func4 (by kernel_rfl)
    (of_decide_eq_true (by kernel_rfl)) (by unfold Func.isWrapper; first | (rw [if_pos (by decide +kernel)]; kernel_rfl) | (rw [if_neg (by decide +kernel)]; exact ⟨rfl, rfl⟩))
    (fun os started H enc _ => ratioTells_lifted os started H enc)

theorem ratioTells_holds : Rows.RatioTellsCardSaid :=
  Claim7.holds_tied_plain_at .later [] [.data, .pinned] true Rows.ratioTellsCard.stood.harness Rows.ratioTellsCard.stood.looks ratioTells_row (fun _ h => by cases h) (by kernel_rfl) (fun _ h => by cases h) ratioTells_row_tie rfl ⟨rfl, rfl⟩ (by kernel_rfl) rfl
    (fun f fn hf hfn => by
      obtain rfl : f = 4 := Option.some.inj ((show Tryz.prog.funcNamed "typeball/typeballlaw03.RatioTells" = some 4 by kernel_rfl).symm.trans hf) |>.symm
      obtain rfl : fn = Tryz.f4 := (Option.some.inj (Tryz.func4.symm.trans hfn)).symm
      exact ⟨by kernel_rfl, fun j t ht => by
        rw [Tryz.params4] at ht
        have hm : t ∈ [23, 3] := by simpa using Array.mem_of_getElem? ht
        have hall : ([23, 3].all fun u => !Tryz.prog.wantsStandIn u) = true := by kernel_rfl
        exact (show Tryz.prog.wantsStandIn t = false by simpa using List.all_eq_true.1 hall t hm)⟩)
    (by kernel_rfl)
#print axioms ratioTells_holds
end Go.Proofs.YtipfhbfjbbiglaaGreatDoor
