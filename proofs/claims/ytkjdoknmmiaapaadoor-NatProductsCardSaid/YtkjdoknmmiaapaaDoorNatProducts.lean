/-
  Proved: the law NatProducts of package typeballlaw01 returns true for every two texts (statement NatProductsCardSaid), under the row's own condition that the two listed tables of unicode/utf8 start as the program's text lays them.
-/
import Derived.Test.YtkjdoknmmiaapaaDoorLaw1
import Derived.Test.YtkjdoknmmiaapaaDoorRef10
import Derived.Test.YtkjdoknmmiaapaaDoorRef7
import Derived.Test.YtkjdoknmmiaapaaDoorWh7
import Derived.Test.YtkjdoknmmiaapaaDoorCards
import Derived.Test.YtkjdoknmmiaapaaDoorTie
import Derived.ProofKit
import Derived.OpenShut
import Derived.LaidMore
import Derived.Lay
import Derived.SevenTiedAt
import Derived.Stop.Joined
namespace Go.Proofs.YtkjdoknmmiaapaaDoor
open Go.ChangeShapes Go.WideShapes Go.ChangeAt Go.RowKit Go.WideMaps Go.WideElems
open Go.ChangeMaps (open_string shut_string)
attribute [local go_sem ↓] Go.wp_at_zero Go.wp_at_succ

def rd1 (s : ByteArray) : Bool := decide (s.size ≤ 120) && okB s.data.toList
def Read1 (w w' : World) (e : Ending) (b : Bool) : Prop := ∃ a n c D, e = .returned (.tuple #[.agg #[.slice a n c], .string D, .bool b]) ∧ Below w.heap.size w w'
theorem read1_any (s : ByteArray) (w : World) (hs : s.size ≤ maxLen) : Calls Tryd.prog 31 #[.string s] w fun e w' => Read1 w w' e (rd1 s) := by
  by_cases h : s.size ≤ 120
  · cases ho : okB s.data.toList with
    | true =>
      refine (read_yes s w h ho).mono ?_
      rintro e w' ⟨a, n, c, rfl, _, hb⟩
      exact ⟨a, n, c, _, by unfold rd1; rw [decide_eq_true h, ho]; rfl, hb⟩
    | false =>
      refine (read_no s w hs (.inr ho)).mono ?_
      rintro e w' ⟨rfl, hb⟩
      exact ⟨_, _, _, _, by unfold rd1; rw [ho, Bool.and_false], hb⟩
  · refine (read_no s w hs (.inl (by omega))).mono ?_
    rintro e w' ⟨rfl, hb⟩
    exact ⟨_, _, _, _, by unfold rd1; rw [decide_eq_false h]; rfl, hb⟩

set_option maxHeartbeats 1600000 in
set_option maxRecDepth 100000 in
theorem natProducts_no (s t : ByteArray) (w : World) (hs : s.size ≤ maxLen) (ht : t.size ≤ maxLen) (h : (rd1 s && rd1 t) = false) :
    Calls Tryd.prog 6 #[.string s, .string t] w fun e w' => e = .returned (.bool true) ∧ Below w.heap.size w w' := by
  have RS := Lib.hid (fun wz => read1_any s wz hs)
  have RT := Lib.hid (fun wz => read1_any t wz ht)
  obtain ⟨g, hg⟩ : ∃ g, rd1 s = g := ⟨_, rfl⟩
  obtain ⟨k, hk⟩ : ∃ k, rd1 t = k := ⟨_, rfl⟩
  rw [hg] at RS h
  rw [hk] at RT h
  clear hg hk hs ht
  cases g
  all_goals
    first
      | (have hk : k = false := h
         subst hk)
      | cases k
  all_goals
    clear h
    go_enter Tryd.func6, Tryd.ntmps6
    go_wp2_with fail
    go_at_call 31
    (with_reducible refine (RS.out _).mono ?_)
    rintro e w1 ⟨a, n, c, D, rfl, hb1⟩
    have BB := Lib.hid (((Bag.start w).go hb1).alloc (.cells #[.slice a n c] 25))
    clear hb1
    go_wp2_with fail
    go_at_call 31
    (with_reducible refine (RT.out _).mono ?_)
    rintro e w2 ⟨a2, n2, c2, D2, rfl, hb2⟩
    have BB := Lib.hid ((BB.out.go hb2).alloc (.cells #[.slice a2 n2 c2] 25))
    clear hb2
    go_wp2_with fail
    go_at_call 15
    refine (awake_any _).mono ?_
    rintro e w3 ⟨rfl, hb3⟩
    have BB := Lib.hid (BB.out.go hb3)
    clear hb3
    go_wp2
    go_ret
    exact ⟨rfl, BB.out.below⟩

theorem z1 : (⟨#[48]⟩ : ByteArray) = str (dec 0) := by rw [dec_zero]; rfl

set_option maxHeartbeats 3200000 in
set_option maxRecDepth 100000 in
theorem natProducts_nought (s t : ByteArray) (w : World) (hs : s.size ≤ 120) (ht : t.size ≤ 120) (h1 : okB s.data.toList = true) (h2 : okB t.data.toList = true) (hM : numOf t.data.toList = 0) :
    Calls Tryd.prog 6 #[.string s, .string t] w fun e w' => e = .returned (.bool true) ∧ Below w.heap.size w w' := by
  have RS := Lib.hid (fun wz => read_yes s wz hs h1)
  have RT := Lib.hid (fun wz => read_yes t wz ht h2)
  obtain ⟨b1, d1⟩ := read_bound hs h1
  rw [hM] at RT
  generalize numOf s.data.toList = N at *
  unfold ReadYes at RS RT
  rw [← z1] at RT
  have DM : Hid (∀ v u wz, NatIs wz v N → NatIs wz u 0 → Calls Tryd.prog 38 #[v, u] wz fun e w' => DivOf3 wz w' e 0 0 false) := fun v u wz h g => (divMod_any v u N 0 wz h g 13 (by omega) (lim120 b1)).mono fun _ _ h => by
    have := h.three (b := false) rfl
    rw [Nat.div_zero] at this
    exact this
  have ZR : Hid (∀ v wz, NatIs wz v 0 → Calls Tryd.prog 22 #[v] wz fun e w' => e = .returned (.bool true) ∧ Below wz.heap.size wz w') := fun v wz h => zero_any v 0 wz h
  have MU : Hid (∀ v u wz, NatIs wz v N → NatIs wz u 0 → Calls Tryd.prog 39 #[v, u] wz fun e w' => NatOf3 wz w' e 0) := fun v u wz h g => (mul_any v u N 0 wz h g 13 (by omega) (lim120 b1) (Nat.pow_pos (by omega))).mono fun _ _ h => h.three
  obtain ⟨x, hx⟩ : ∃ x, str (dec N) = x := ⟨_, rfl⟩
  rw [hx] at RS
  clear hx b1 d1 h1 h2 hM hs ht
  go_enter Tryd.func6, Tryd.ntmps6
  go_wp2_with fail
  go_at_call 31
  (with_reducible refine (RS.out _).mono ?_)
  rintro e w1 ⟨a, n, c, rfl, hi1, hb1⟩
  have BB := Lib.hid ((((Bag.start w).go hb1).nat hi1).box (.slice a n c) 25)
  clear hb1 hi1
  go_wp2_with fail
  go_at_call 31
  (with_reducible refine (RT.out _).mono ?_)
  rintro e w2 ⟨a2, n2, c2, rfl, hi2, hb2⟩
  have BB := Lib.hid (((BB.out.go hb2).nat hi2).box (.slice a2 n2 c2) 25)
  clear hb2 hi2
  have q1 := BB.out.now.2.2.1.cell
  have q2 := BB.out.now.1.cell
  go_wp2_with fail
  go_at_call 38
  (with_reducible refine (DM.out _ _ _ BB.out.now.2.2.2.1 BB.out.now.2.1).mono ?_)
  rintro e w3 ⟨aq, nq, cq, ar, nr, cr, rfl, hiq, hir, hb3⟩
  have B3 := ((((BB.out.go hb3).nat hir).nat hiq).box (.slice aq nq cq) 25).box (.slice ar nr cr) 25
  rw [World.size_alloc] at B3
  have BB := Lib.hid B3
  clear hiq hir hb3 B3 q1 q2
  have q3 := BB.out.now.2.1.cell
  go_wp2_with fail
  go_at_call 22
  (with_reducible refine (ZR.out _ _ BB.out.now.2.2.1).mono ?_)
  rintro e w4 ⟨rfl, hb4⟩
  have BB := Lib.hid (BB.out.go hb4)
  clear hb4 q3
  have q3 := BB.out.now.1.cell
  go_wp2_with fail
  go_at_call 22
  (with_reducible refine (ZR.out _ _ BB.out.now.2.2.2.1).mono ?_)
  rintro e w5 ⟨rfl, hb4⟩
  have BB := Lib.hid (BB.out.go hb4)
  clear hb4 q3
  have q1 := BB.out.now.2.2.2.2.2.2.1.cell
  have q2 := BB.out.now.2.2.2.2.1.cell
  go_wp2_with fail
  go_at_call 39
  (with_reducible refine (MU.out _ _ _ BB.out.now.2.2.2.2.2.2.2.1 BB.out.now.2.2.2.2.2.1).mono ?_)
  rintro e w6 ⟨a6, n6, c6, rfl, hi6, hb4⟩
  have BB := Lib.hid ((BB.out.go hb4).nat hi6)
  clear hb4 q1 q2 hi6
  go_wp2_with fail
  go_at_call 22
  (with_reducible refine (ZR.out _ _ BB.out.now.1).mono ?_)
  rintro e w7 ⟨rfl, hb4⟩
  have BB := Lib.hid (BB.out.go hb4)
  clear hb4
  go_wp2_with fail
  go_at_call 15
  refine (awake_any _).mono ?_
  rintro e w8 ⟨rfl, hb3⟩
  have BB := Lib.hid (BB.out.go hb3)
  clear hb3
  go_wp2
  go_ret
  exact ⟨rfl, BB.out.below⟩

set_option maxHeartbeats 6400000 in
set_option maxRecDepth 100000 in
theorem natProducts_yes (s t : ByteArray) (w : World) (hs : s.size ≤ 120) (ht : t.size ≤ 120) (h1 : okB s.data.toList = true) (h2 : okB t.data.toList = true) (hM : numOf t.data.toList ≠ 0) :
    Calls Tryd.prog 6 #[.string s, .string t] w fun e w' => e = .returned (.bool true) ∧ Below w.heap.size w w' := by
  have RS := Lib.hid (fun wz => read_yes s wz hs h1)
  have RT := Lib.hid (fun wz => read_yes t wz ht h2)
  obtain ⟨b1, d1⟩ := read_bound hs h1
  obtain ⟨b2, d2⟩ := read_bound ht h2
  generalize numOf s.data.toList = N at *
  generalize numOf t.data.toList = M at *
  unfold ReadYes at RS RT
  have hM0 : 0 < M := by omega
  obtain ⟨Q, hQ⟩ : ∃ Q, N / M = Q := ⟨_, rfl⟩
  obtain ⟨R, hR⟩ : ∃ R, N % M = R := ⟨_, rfl⟩
  have hQN : Q ≤ N := by rw [← hQ]; exact Nat.div_le_self _ _
  have hRM : R < M := by rw [← hR]; exact Nat.mod_lt _ hM0
  have hQR : Q * M + R = N := by rw [← hQ, ← hR, Nat.mul_comm]; exact Nat.div_add_mod N M
  have l1 := lim120 b1
  have l2 := lim120 b2
  have lNM : N * M < 4294967296 ^ 26 := by
    rw [show (26 : Nat) = 13 + 13 from rfl, pow_add32]
    exact Nat.mul_lt_mul_of_lt_of_lt l1 l2
  have lQM : Q * M < 4294967296 ^ 26 := Nat.lt_of_le_of_lt (Nat.mul_le_mul_right _ hQN) lNM
  have lR : R < 4294967296 ^ 26 := by have := pow_mono32 (show 13 ≤ 26 by omega); omega
  have DM : Hid (∀ v u wz, NatIs wz v N → NatIs wz u M → Calls Tryd.prog 38 #[v, u] wz fun e w' => DivOf3 wz w' e Q R true) := fun v u wz h g => (divMod_any v u N M wz h g 13 (by omega) l1).mono fun _ _ h => by
    have := h.three (b := true) (by simp; omega)
    unfold modz at this
    rw [if_neg (by omega), hQ, hR] at this
    exact this
  have RDM : Hid (∀ wz, Calls Tryd.prog 40 #[.string (str (dec N)), .string (str (dec M))] wz fun e w' => e = .returned (.tuple #[.string (str (dec Q)), .string (str (dec R))]) ∧ Below wz.heap.size wz w') := fun wz => by
    have := rdivMod_any N M wz (by omega) (by omega) hM0
    rw [hQ, hR] at this; exact this
  have MU : Hid (∀ wz a n c a2 n2 c2, NatIs wz (.agg #[.slice a n c]) N → NatIs wz (.agg #[.slice a2 n2 c2]) M → Calls Tryd.prog 39 #[.agg #[.slice a n c], .agg #[.slice a2 n2 c2]] wz fun e w' => NatOf3 wz w' e (N * M)) := fun wz a n c a2 n2 c2 h g => (mul_any _ _ N M wz h g 13 (by omega) l1 l2).mono fun _ _ h => h.three
  have MQ : Hid (∀ wz a n c a2 n2 c2, NatIs wz (.agg #[.slice a n c]) Q → NatIs wz (.agg #[.slice a2 n2 c2]) M → Calls Tryd.prog 39 #[.agg #[.slice a n c], .agg #[.slice a2 n2 c2]] wz fun e w' => NatOf3 wz w' e (Q * M)) := fun wz a n c a2 n2 c2 h g => (mul_any _ _ Q M wz h g 13 (by omega) (by omega) l2).mono fun _ _ h => h.three
  have AD : Hid (∀ wz a n c a2 n2 c2, NatIs wz (.agg #[.slice a n c]) (Q * M) → NatIs wz (.agg #[.slice a2 n2 c2]) R → Calls Tryd.prog 35 #[.agg #[.slice a n c], .agg #[.slice a2 n2 c2]] wz fun e w' => NatOf3 wz w' e N) := fun wz a n c a2 n2 c2 h g => (add_any _ _ _ _ wz h g 26 (by omega) lQM lR).mono fun _ _ h => by
    have := h.three
    rw [hQR] at this; exact this
  have CN : Hid (∀ wz a n c a2 n2 c2, NatIs wz (.agg #[.slice a n c]) N → NatIs wz (.agg #[.slice a2 n2 c2]) N → Calls Tryd.prog 37 #[.agg #[.slice a n c], .agg #[.slice a2 n2 c2]] wz fun e w' => e = .returned (.int .i64 0) ∧ Below wz.heap.size wz w') := fun wz a n c a2 n2 c2 h g => by
    have := cmp_any _ _ N N wz h g
    rw [show cmpI N N = 0 by unfold cmpI; rw [if_neg (by omega), if_pos rfl]] at this; exact this
  have CR : Hid (∀ wz a n c a2 n2 c2, NatIs wz (.agg #[.slice a n c]) R → NatIs wz (.agg #[.slice a2 n2 c2]) M → Calls Tryd.prog 37 #[.agg #[.slice a n c], .agg #[.slice a2 n2 c2]] wz fun e w' => e = .returned (.int .i64 (-1)) ∧ Below wz.heap.size wz w') := fun wz a n c a2 n2 c2 h g => by
    have := cmp_any _ _ R M wz h g
    rw [cmp_neg hRM] at this; exact this
  have TM : Hid (∀ wz a n c, NatIs wz (.agg #[.slice a n c]) (N * M) → Calls Tryd.prog 21 #[.agg #[.slice a n c]] wz fun e w' => e = .returned (.string (str (dec (N * M)))) ∧ Below wz.heap.size wz w') := fun wz a n c h => text_any _ _ wz h 26 (by omega) lNM
  have TQ : Hid (∀ wz a n c, NatIs wz (.agg #[.slice a n c]) Q → Calls Tryd.prog 21 #[.agg #[.slice a n c]] wz fun e w' => e = .returned (.string (str (dec Q))) ∧ Below wz.heap.size wz w') := fun wz a n c h => text_any _ _ wz h 13 (by omega) (by omega)
  have TR : Hid (∀ wz a n c, NatIs wz (.agg #[.slice a n c]) R → Calls Tryd.prog 21 #[.agg #[.slice a n c]] wz fun e w' => e = .returned (.string (str (dec R))) ∧ Below wz.heap.size wz w') := fun wz a n c h => text_any _ _ wz h 26 (by omega) lR
  have RM : Hid (∀ wz, Calls Tryd.prog 41 #[.string (str (dec N)), .string (str (dec M))] wz fun e w' => e = .returned (.string (str (dec (N * M)))) ∧ Below wz.heap.size wz w') := fun wz => rmul_any N (dl N) M (dl M) wz (dl_lt N) (dl_lt M) (by omega) (by omega)
  have hy0 : ((str (dec M)).toList == [48]) = false := by
    have e : (str (dec M)).toList = dec M := by rw [ByteArray.toList_eq]; rfl
    rw [e, beq_eq_false_iff_ne]
    intro h
    have := congrArg numOf h
    unfold dec at this
    rw [numOf_sdig, Nat.mod_eq_of_lt (dl_lt M)] at this
    simp [numOf] at this
    omega
  obtain ⟨x, hx⟩ : ∃ x, str (dec N) = x := ⟨_, rfl⟩
  obtain ⟨y, hy⟩ : ∃ y, str (dec M) = y := ⟨_, rfl⟩
  obtain ⟨z, hz⟩ : ∃ z, str (dec (N * M)) = z := ⟨_, rfl⟩
  obtain ⟨u, hu⟩ : ∃ u, str (dec Q) = u := ⟨_, rfl⟩
  obtain ⟨v, hv⟩ : ∃ v, str (dec R) = v := ⟨_, rfl⟩
  rw [hx] at RS RDM RM
  rw [hy] at RT RDM RM hy0
  rw [hz] at TM RM
  rw [hu] at TQ RDM
  rw [hv] at TR RDM
  have zz : (z.toList == z.toList) = true := by simp
  have uu : (u.toList == u.toList) = true := by simp
  have vv : (v.toList == v.toList) = true := by simp
  clear hx hy hz hu hv b1 b2 d1 d2 h1 h2 hM hM0 hQ hR hQN hRM hQR l1 l2 lNM lQM lR hs ht
  go_enter Tryd.func6, Tryd.ntmps6
  go_wp2_with fail
  go_at_call 31
  (with_reducible refine (RS.out _).mono ?_)
  rintro e w1 ⟨a, n, c, rfl, hi1, hb1⟩
  have BB := Lib.hid ((((Bag.start w).go hb1).nat hi1).box (.slice a n c) 25)
  clear hb1 hi1
  go_wp2_with fail
  go_at_call 31
  (with_reducible refine (RT.out _).mono ?_)
  rintro e w2 ⟨a2, n2, c2, rfl, hi2, hb2⟩
  have BB := Lib.hid (((BB.out.go hb2).nat hi2).box (.slice a2 n2 c2) 25)
  clear hb2 hi2
  have q1 := BB.out.now.2.2.1.cell
  have q2 := BB.out.now.1.cell
  go_wp2_with fail
  go_at_call 38
  (with_reducible refine (DM.out _ _ _ BB.out.now.2.2.2.1 BB.out.now.2.1).mono ?_)
  rintro e w3 ⟨aq, nq, cq, ar, nr, cr, rfl, hiq, hir, hb3⟩
  have B3 := ((((BB.out.go hb3).nat hir).nat hiq).box (.slice aq nq cq) 25).box (.slice ar nr cr) 25
  rw [World.size_alloc] at B3
  have BB := Lib.hid B3
  clear hiq hir hb3 B3 q1 q2
  go_wp2_with fail
  go_at_call 40
  (with_reducible refine (RDM.out _).mono ?_)
  rintro e w4 ⟨rfl, hb4⟩
  have BB := Lib.hid (BB.out.go hb4)
  clear hb4
  go_wp2_with fail
  go_region_held3 (fun y => (y.cell? ⟨w1.heap.size, 0, none⟩ = some (.slice a n c) ∧ y.cell? ⟨w2.heap.size, 0, none⟩ = some (.slice a2 n2 c2) ∧ y.cell? ⟨w3.heap.size, 0, none⟩ = some (.slice aq nq cq) ∧ y.cell? ⟨w3.heap.size + 1, 0, none⟩ = some (.slice ar nr cr)) ∧ Bag w (fun y => Slot y (w3.heap.size + 1) (.slice ar nr cr) ∧ Slot y w3.heap.size (.slice aq nq cq) ∧ NatIs y (.agg #[.slice aq nq cq]) Q ∧ NatIs y (.agg #[.slice ar nr cr]) R ∧ Slot y w2.heap.size (.slice a2 n2 c2) ∧ NatIs y (.agg #[.slice a2 n2 c2]) M ∧ Slot y w1.heap.size (.slice a n c) ∧ NatIs y (.agg #[.slice a n c]) N ∧ True) y)
    (first
      | (have B9 := BB.out.drew; exact ⟨⟨B9.now.2.2.2.2.2.2.1.cell, B9.now.2.2.2.2.1.cell, B9.now.2.1.cell, B9.now.1.cell⟩, B9⟩)
      | (have B9 := Bag.go (show Bag w (fun y => Slot y (w3.heap.size + 1) (.slice ar nr cr) ∧ Slot y w3.heap.size (.slice aq nq cq) ∧ NatIs y (.agg #[.slice aq nq cq]) Q ∧ NatIs y (.agg #[.slice ar nr cr]) R ∧ Slot y w2.heap.size (.slice a2 n2 c2) ∧ NatIs y (.agg #[.slice a2 n2 c2]) M ∧ Slot y w1.heap.size (.slice a n c) ∧ NatIs y (.agg #[.slice a n c]) N ∧ True) _ from by go_split_ands; assumption) hb2; exact ⟨⟨B9.now.2.2.2.2.2.2.1.cell, B9.now.2.2.2.2.1.cell, B9.now.2.1.cell, B9.now.1.cell⟩, B9⟩))
    (first
      | (go_at_call 39; (with_reducible refine (MU.out _ a n c a2 n2 c2 ?_ ?_).mono ?_); exact (show Bag w (fun y => Slot y (w3.heap.size + 1) (.slice ar nr cr) ∧ Slot y w3.heap.size (.slice aq nq cq) ∧ NatIs y (.agg #[.slice aq nq cq]) Q ∧ NatIs y (.agg #[.slice ar nr cr]) R ∧ Slot y w2.heap.size (.slice a2 n2 c2) ∧ NatIs y (.agg #[.slice a2 n2 c2]) M ∧ Slot y w1.heap.size (.slice a n c) ∧ NatIs y (.agg #[.slice a n c]) N ∧ True) _ from by go_split_ands; assumption).now.2.2.2.2.2.2.2.1; exact (show Bag w (fun y => Slot y (w3.heap.size + 1) (.slice ar nr cr) ∧ Slot y w3.heap.size (.slice aq nq cq) ∧ NatIs y (.agg #[.slice aq nq cq]) Q ∧ NatIs y (.agg #[.slice ar nr cr]) R ∧ Slot y w2.heap.size (.slice a2 n2 c2) ∧ NatIs y (.agg #[.slice a2 n2 c2]) M ∧ Slot y w1.heap.size (.slice a n c) ∧ NatIs y (.agg #[.slice a n c]) N ∧ True) _ from by go_split_ands; assumption).now.2.2.2.2.2.1; rintro e wy ⟨a5, n5, c5, rfl, hi5, hb2⟩)
      | (go_at_call 21; (with_reducible refine (TM.out _ a5 n5 c5 hi5).mono ?_); rintro e wy ⟨rfl, hb2⟩)
      | (go_at_call 41; (with_reducible refine (RM.out _).mono ?_); rintro e wy ⟨rfl, hb2⟩)
      | (go_at_call 21; (with_reducible refine (TQ.out _ aq nq cq ?_).mono ?_); exact (show Bag w (fun y => Slot y (w3.heap.size + 1) (.slice ar nr cr) ∧ Slot y w3.heap.size (.slice aq nq cq) ∧ NatIs y (.agg #[.slice aq nq cq]) Q ∧ NatIs y (.agg #[.slice ar nr cr]) R ∧ Slot y w2.heap.size (.slice a2 n2 c2) ∧ NatIs y (.agg #[.slice a2 n2 c2]) M ∧ Slot y w1.heap.size (.slice a n c) ∧ NatIs y (.agg #[.slice a n c]) N ∧ True) _ from by go_split_ands; assumption).now.2.2.1; rintro e wy ⟨rfl, hb2⟩)
      | (go_at_call 21; (with_reducible refine (TR.out _ ar nr cr ?_).mono ?_); exact (show Bag w (fun y => Slot y (w3.heap.size + 1) (.slice ar nr cr) ∧ Slot y w3.heap.size (.slice aq nq cq) ∧ NatIs y (.agg #[.slice aq nq cq]) Q ∧ NatIs y (.agg #[.slice ar nr cr]) R ∧ Slot y w2.heap.size (.slice a2 n2 c2) ∧ NatIs y (.agg #[.slice a2 n2 c2]) M ∧ Slot y w1.heap.size (.slice a n c) ∧ NatIs y (.agg #[.slice a n c]) N ∧ True) _ from by go_split_ands; assumption).now.2.2.2.1; rintro e wy ⟨rfl, hb2⟩)
      | (go_at_call 39; (with_reducible refine (MQ.out _ aq nq cq a2 n2 c2 ?_ ?_).mono ?_); exact (show Bag w (fun y => Slot y (w3.heap.size + 1) (.slice ar nr cr) ∧ Slot y w3.heap.size (.slice aq nq cq) ∧ NatIs y (.agg #[.slice aq nq cq]) Q ∧ NatIs y (.agg #[.slice ar nr cr]) R ∧ Slot y w2.heap.size (.slice a2 n2 c2) ∧ NatIs y (.agg #[.slice a2 n2 c2]) M ∧ Slot y w1.heap.size (.slice a n c) ∧ NatIs y (.agg #[.slice a n c]) N ∧ True) _ from by go_split_ands; assumption).now.2.2.1; exact (show Bag w (fun y => Slot y (w3.heap.size + 1) (.slice ar nr cr) ∧ Slot y w3.heap.size (.slice aq nq cq) ∧ NatIs y (.agg #[.slice aq nq cq]) Q ∧ NatIs y (.agg #[.slice ar nr cr]) R ∧ Slot y w2.heap.size (.slice a2 n2 c2) ∧ NatIs y (.agg #[.slice a2 n2 c2]) M ∧ Slot y w1.heap.size (.slice a n c) ∧ NatIs y (.agg #[.slice a n c]) N ∧ True) _ from by go_split_ands; assumption).now.2.2.2.2.2.1; rintro e wy ⟨a6, n6, c6, rfl, hi6, hb2⟩)
      | (go_at_call 35; (with_reducible refine (AD.out _ a6 n6 c6 ar nr cr hi6 ?_).mono ?_); exact (show Bag w (fun y => Slot y (w3.heap.size + 1) (.slice ar nr cr) ∧ Slot y w3.heap.size (.slice aq nq cq) ∧ NatIs y (.agg #[.slice aq nq cq]) Q ∧ NatIs y (.agg #[.slice ar nr cr]) R ∧ Slot y w2.heap.size (.slice a2 n2 c2) ∧ NatIs y (.agg #[.slice a2 n2 c2]) M ∧ Slot y w1.heap.size (.slice a n c) ∧ NatIs y (.agg #[.slice a n c]) N ∧ True) _ from by go_split_ands; assumption).now.2.2.2.1; rintro e wy ⟨a7, n7, c7, rfl, hi7, hb2⟩)
      | (go_at_call 37; (with_reducible refine (CN.out _ a7 n7 c7 a n c hi7 ?_).mono ?_); exact (show Bag w (fun y => Slot y (w3.heap.size + 1) (.slice ar nr cr) ∧ Slot y w3.heap.size (.slice aq nq cq) ∧ NatIs y (.agg #[.slice aq nq cq]) Q ∧ NatIs y (.agg #[.slice ar nr cr]) R ∧ Slot y w2.heap.size (.slice a2 n2 c2) ∧ NatIs y (.agg #[.slice a2 n2 c2]) M ∧ Slot y w1.heap.size (.slice a n c) ∧ NatIs y (.agg #[.slice a n c]) N ∧ True) _ from by go_split_ands; assumption).now.2.2.2.2.2.2.2.1; rintro e wy ⟨rfl, hb2⟩)
      | (go_at_call 37; (with_reducible refine (CR.out _ ar nr cr a2 n2 c2 ?_ ?_).mono ?_); exact (show Bag w (fun y => Slot y (w3.heap.size + 1) (.slice ar nr cr) ∧ Slot y w3.heap.size (.slice aq nq cq) ∧ NatIs y (.agg #[.slice aq nq cq]) Q ∧ NatIs y (.agg #[.slice ar nr cr]) R ∧ Slot y w2.heap.size (.slice a2 n2 c2) ∧ NatIs y (.agg #[.slice a2 n2 c2]) M ∧ Slot y w1.heap.size (.slice a n c) ∧ NatIs y (.agg #[.slice a n c]) N ∧ True) _ from by go_split_ands; assumption).now.2.2.2.1; exact (show Bag w (fun y => Slot y (w3.heap.size + 1) (.slice ar nr cr) ∧ Slot y w3.heap.size (.slice aq nq cq) ∧ NatIs y (.agg #[.slice aq nq cq]) Q ∧ NatIs y (.agg #[.slice ar nr cr]) R ∧ Slot y w2.heap.size (.slice a2 n2 c2) ∧ NatIs y (.agg #[.slice a2 n2 c2]) M ∧ Slot y w1.heap.size (.slice a n c) ∧ NatIs y (.agg #[.slice a n c]) N ∧ True) _ from by go_split_ands; assumption).now.2.2.2.2.2.1; rintro e wy ⟨rfl, hb2⟩)
      | (go_at_call 15; refine (awake_any _).mono ?_; rintro e wy ⟨rfl, hb2⟩))
  have B5 := Lib.hid (show Bag w (fun y => Slot y (w3.heap.size + 1) (.slice ar nr cr) ∧ Slot y w3.heap.size (.slice aq nq cq) ∧ NatIs y (.agg #[.slice aq nq cq]) Q ∧ NatIs y (.agg #[.slice ar nr cr]) R ∧ Slot y w2.heap.size (.slice a2 n2 c2) ∧ NatIs y (.agg #[.slice a2 n2 c2]) M ∧ Slot y w1.heap.size (.slice a n c) ∧ NatIs y (.agg #[.slice a n c]) N ∧ True) _ from by go_split_ands; assumption)
  go_wp2
  go_ret
  exact ⟨rfl, B5.out.below⟩

theorem natProducts_walk (s t : ByteArray) (w : World) (hs : s.size ≤ maxLen) (ht : t.size ≤ maxLen) :
    Calls Tryd.prog 6 #[.string s, .string t] w fun e w' => e = .returned (.bool true) ∧ Below w.heap.size w w' := by
  cases h : (rd1 s && rd1 t) with
  | false => exact natProducts_no s t w hs ht h
  | true =>
    rw [Bool.and_eq_true] at h
    have h1 := h.1
    have h2 := h.2
    unfold rd1 at h1 h2
    rw [Bool.and_eq_true, decide_eq_true_eq] at h1 h2
    by_cases hM : numOf t.data.toList = 0
    · exact natProducts_nought s t w h1.1 h2.1 h1.2 h2.2 hM
    · exact natProducts_yes s t w h1.1 h2.1 h1.2 h2.2 hM

theorem own : ownKnob Tryd.prog.godebug = none := by kernel_rfl

set_option maxRecDepth 100000 in
theorem natProducts_lifted (os : Os) (started : os.Started) (H : Type) (enc : TypeId × Value → H) :
    ReturnsInHanded {} Tryd.checked os 6 .any (fun w args => (Rows.natProductsSpec.pre enc Tryd.prog Tryd.f6 [] false w args ∧ laidMetH Tryd.prog Rows.natProductsRow.laid w) ∧ sizedMet enc Tryd.prog Tryd.f6 (OpenSpec.ofChange Rows.natProductsSpec) false w args)
      (Rows.natProductsSpec.post enc Tryd.prog Tryd.f6 false true false false) := by
  refine returnsInHanded_of_change_and (C := Tryd.checked) (X := fun w _ => laidMetH Tryd.prog Rows.natProductsRow.laid w) (fun _ _ _ hh h => h.of_heap hh) own started (by kernel_rfl) Tryd.func6
    (ChangeSpec.witness_shaped (enc := enc) (C := Tryd.checked) (os := os) (X := fun w _ => laidMetH Tryd.prog Rows.natProductsRow.laid w) false (World.laidAll Tryd.prog os Rows.natProductsRow.laid) #[.string ⟨#[]⟩, .string ⟨#[]⟩] 8 (World.laidAll_os _ _ _)
      (World.shaped_of_ZipB (by kernel_rfl) (by kernel_rfl)) (by kernel_rfl) (by kernel_rfl) (by kernel_rfl)
      (by rw [MakeChecks.laidMetH_plain _ _ _ (by kernel_rfl)]; exact laidMet_laidAll _ (by kernel_rfl) (by kernel_rfl))) ?_
  intro W base args ds gs before hval0 hW _ _ _ _
  have hval : ∀ (j : Nat) t v, Tryd.f6.params[j]? = some t → args[j]? = some v → Value.okWide Tryd.prog W .any base t v := hval0
  have hW' := hW
  obtain ⟨p, q, hA0, hV, rfl, _, _⟩ := hW
  have hA : DataW.TrodAll enc Tryd.prog W 0 (fun _ => true) true Tryd.f6.params.toList args.toList ds p := hA0
  rw [Tryd.params6] at hA hval
  obtain ⟨v0, v1, d0, d1, p0, p1, rfl, rfl, rfl, h0, h1⟩ := trodAll_two hA
  obtain ⟨rfl, rfl⟩ := trodVars_none hV
  obtain ⟨x0, rfl, rfl, rfl, b0⟩ := open_string Tryd.underlying9 (hval 0 9 v0 rfl rfl) h0
  obtain ⟨x1, rfl, rfl, rfl, b1⟩ := open_string Tryd.underlying9 (hval 1 9 v1 rfl rfl) h1
  simp only [List.append_nil] at hW'
  refine (natProducts_walk x0 x1 W b0 b1).mono fun e W' ⟨he, hb⟩ => ?_
  subst he
  exact ⟨_, rfl, _, _, _, [], [], [], hW', trodAll_mk1 (shut_bool Tryd.underlying4 _), trodAll_mk2 (shut_string Tryd.underlying9 b0) (shut_string Tryd.underlying9 b1), rfl, hb.frame _, fun h => by cases h⟩

theorem natProducts_row : Rows.NatProductsSaid :=
  OpenClaim.holds_of_wide 6 Tryd.f6 rfl rfl rfl rfl rfl rfl rfl ⟨rfl, rfl, rfl, rfl, rfl⟩ rfl rfl rfl rfl rfl (by kernel_rfl) Tryd.func6 (by kernel_rfl)
    (of_decide_eq_true (by kernel_rfl)) (by unfold Func.isWrapper; first | (rw [if_pos (by decide +kernel)]; kernel_rfl) | (rw [if_neg (by decide +kernel)]; exact ⟨rfl, rfl⟩))
    (fun os started H enc _ => natProducts_lifted os started H enc)

theorem natProducts_holds : Rows.NatProductsCardSaid :=
  Claim7.holds_tied_plain_at .later [] [.data, .pinned] true Rows.natProductsCard.stood.harness false natProducts_row (fun _ h => by cases h) (by kernel_rfl) (fun _ h => by cases h) natProducts_row_tie rfl ⟨rfl, rfl⟩ (by kernel_rfl) rfl
    (fun f fn hf hfn => by
      obtain rfl : f = 6 := Option.some.inj ((show Tryd.prog.funcNamed "typeball/typeballlaw01.NatProducts" = some 6 by kernel_rfl).symm.trans hf) |>.symm
      obtain rfl : fn = Tryd.f6 := (Option.some.inj (Tryd.func6.symm.trans hfn)).symm
      exact ⟨by kernel_rfl, fun j t ht => by
        rw [Tryd.params6] at ht
        have hm : t ∈ [9] := by simpa using Array.mem_of_getElem? ht
        have hall : ([9].all fun u => !Tryd.prog.wantsStandIn u) = true := by kernel_rfl
        exact (show Tryd.prog.wantsStandIn t = false by simpa using List.all_eq_true.1 hall t hm)⟩)
    (by kernel_rfl)
#print axioms natProducts_holds
end Go.Proofs.YtkjdoknmmiaapaaDoor
