/-
  Proved: the law NatDivisors of package typeballlaw01 returns true for every two texts (statement NatDivisorsCardSaid), under the row's own condition that the two listed tables of unicode/utf8 start as the program's text lays them.
-/
import Derived.Test.YtkjdoknmmiaapaaDoorLaw1
import Derived.Test.YtkjdoknmmiaapaaDoorNat24
import Derived.Test.YtkjdoknmmiaapaaDoorRef11
import Derived.Test.YtkjdoknmmiaapaaDoorCards
import Derived.Test.YtkjdoknmmiaapaaDoorTie
import Derived.ProofKit
import Derived.OpenShut
import Derived.LaidMore
import Derived.Lay
import Derived.SevenTiedAt
import Derived.Stop.Joined
namespace Go.Proofs.YtkjdoknmmiaapaaDoor
open Go.ChangeShapes Go.WideShapes Go.ChangeAt Go.RowKit Go.WideMaps Go.WideElems
open Go.ChangeMaps (open_string shut_string)
attribute [local go_sem ↓] Go.wp_at_zero Go.wp_at_succ

def rd2 (s : ByteArray) : Bool := decide (s.size ≤ 120) && okB s.data.toList
def Read2 (w w' : World) (e : Ending) (b : Bool) : Prop := ∃ a n c D, e = .returned (.tuple #[.agg #[.slice a n c], .string D, .bool b]) ∧ Below w.heap.size w w'
theorem read2_any (s : ByteArray) (w : World) (hs : s.size ≤ maxLen) : Calls Tryd.prog 31 #[.string s] w fun e w' => Read2 w w' e (rd2 s) := by
  by_cases h : s.size ≤ 120
  · cases ho : okB s.data.toList with
    | true =>
      refine (read_yes s w h ho).mono ?_
      rintro e w' ⟨a, n, c, rfl, _, hb⟩
      exact ⟨a, n, c, _, by unfold rd2; rw [decide_eq_true h, ho]; rfl, hb⟩
    | false =>
      refine (read_no s w hs (.inr ho)).mono ?_
      rintro e w' ⟨rfl, hb⟩
      exact ⟨_, _, _, _, by unfold rd2; rw [ho, Bool.and_false], hb⟩
  · refine (read_no s w hs (.inl (by omega))).mono ?_
    rintro e w' ⟨rfl, hb⟩
    exact ⟨_, _, _, _, by unfold rd2; rw [decide_eq_false h]; rfl, hb⟩

set_option maxHeartbeats 1600000 in
set_option maxRecDepth 100000 in
theorem natDivisors_no (s t : ByteArray) (w : World) (hs : s.size ≤ maxLen) (ht : t.size ≤ maxLen) (h : (rd2 s && rd2 t) = false) :
    Calls Tryd.prog 7 #[.string s, .string t] w fun e w' => e = .returned (.bool true) ∧ Below w.heap.size w w' := by
  have RS := Lib.hid (fun wz => read2_any s wz hs)
  have RT := Lib.hid (fun wz => read2_any t wz ht)
  obtain ⟨g, hg⟩ : ∃ g, rd2 s = g := ⟨_, rfl⟩
  obtain ⟨k, hk⟩ : ∃ k, rd2 t = k := ⟨_, rfl⟩
  rw [hg] at RS h
  rw [hk] at RT h
  clear hg hk hs ht
  cases g
  all_goals
    first
      | (have hk : k = false := h
         subst hk)
      | cases k
  all_goals
    clear h
    go_enter Tryd.func7, Tryd.ntmps7
    go_wp2_with fail
    go_at_call 31
    (with_reducible refine (RS.out _).mono ?_)
    rintro e w1 ⟨a, n, c, D, rfl, hb1⟩
    have BB := Lib.hid (((Bag.start w).go hb1).alloc (.cells #[.slice a n c] 25))
    clear hb1
    go_wp2_with fail
    go_at_call 31
    (with_reducible refine (RT.out _).mono ?_)
    rintro e w2 ⟨a2, n2, c2, D2, rfl, hb2⟩
    have BB := Lib.hid ((BB.out.go hb2).alloc (.cells #[.slice a2 n2 c2] 25))
    clear hb2
    go_wp2_with fail
    go_at_call 15
    refine (awake_any _).mono ?_
    rintro e w3 ⟨rfl, hb3⟩
    have BB := Lib.hid (BB.out.go hb3)
    clear hb3
    go_wp2
    go_ret
    exact ⟨rfl, BB.out.below⟩

set_option maxHeartbeats 6400000 in
set_option maxRecDepth 100000 in
theorem natDivisors_yes (s t : ByteArray) (w : World) (hs : s.size ≤ 120) (ht : t.size ≤ 120) (h1 : okB s.data.toList = true) (h2 : okB t.data.toList = true) :
    Calls Tryd.prog 7 #[.string s, .string t] w fun e w' => e = .returned (.bool true) ∧ Below w.heap.size w w' := by
  have RS := Lib.hid (fun wz => read_yes s wz hs h1)
  have RT := Lib.hid (fun wz => read_yes t wz ht h2)
  obtain ⟨b1, d1⟩ := read_bound hs h1
  obtain ⟨b2, d2⟩ := read_bound ht h2
  generalize numOf s.data.toList = N at *
  generalize numOf t.data.toList = M at *
  unfold ReadYes at RS RT
  have l1 := lim120 b1
  have l2 := lim120 b2
  obtain ⟨e13, he13⟩ : ∃ e13, e13 = 13 := ⟨_, rfl⟩
  have hM2 : M < 2 ^ (32 * e13) := by rw [Nat.pow_mul, he13]; exact l2
  obtain ⟨G, hG⟩ : ∃ G, Nat.gcd N M = G := ⟨_, rfl⟩
  have hGl : G < 4294967296 ^ 13 := by
    rcases Nat.eq_zero_or_pos N with h0 | h0
    · rw [← hG, h0, Nat.gcd_zero_left]; exact l2
    · exact Nat.lt_of_le_of_lt (by rw [← hG]; exact Nat.gcd_le_left M h0) l1
  have m1 : modz N G = 0 := by unfold modz; split; (· rfl); (· rw [← hG]; exact Nat.mod_eq_zero_of_dvd (Nat.gcd_dvd_left N M))
  have m2 : modz M G = 0 := by unfold modz; split; (· rfl); (· rw [← hG]; exact Nat.mod_eq_zero_of_dvd (Nat.gcd_dvd_right N M))
  obtain ⟨gb, hgb⟩ : ∃ gb, decide (G ≠ 0) = gb := ⟨_, rfl⟩
  obtain ⟨zb, hzb⟩ : ∃ zb, decide (G = 0) = zb := ⟨_, rfl⟩
  have hcase : (gb = true ∧ zb = false) ∨ (gb = false ∧ zb = true) := by
    by_cases h0 : G = 0
    · right; exact ⟨by rw [← hgb]; simp [h0], by rw [← hzb]; simp [h0]⟩
    · left; exact ⟨by rw [← hgb]; simp [h0], by rw [← hzb]; simp [h0]⟩
  have G1 : Hid (∀ wz a n c a2 n2 c2, NatIs wz (.agg #[.slice a n c]) N → NatIs wz (.agg #[.slice a2 n2 c2]) M → Calls Tryd.prog 42 #[.agg #[.slice a n c], .agg #[.slice a2 n2 c2]] wz fun e w' => NatOf3 wz w' e G) := fun wz a n c a2 n2 c2 h g => by
    have := gcd_any a n c a2 n2 c2 N M wz h g 13 (by omega) l1 l2
    rw [hG] at this; exact this
  have G2 : Hid (∀ wz a n c a2 n2 c2, NatIs wz (.agg #[.slice a n c]) M → NatIs wz (.agg #[.slice a2 n2 c2]) N → Calls Tryd.prog 42 #[.agg #[.slice a n c], .agg #[.slice a2 n2 c2]] wz fun e w' => NatOf3 wz w' e G) := fun wz a n c a2 n2 c2 h g => by
    have := gcd_any a n c a2 n2 c2 M N wz h g 13 (by omega) l2 l1
    rw [Nat.gcd_comm, hG] at this; exact this
  have TG : Hid (∀ wz a n c, NatIs wz (.agg #[.slice a n c]) G → Calls Tryd.prog 21 #[.agg #[.slice a n c]] wz fun e w' => e = .returned (.string (str (dec G))) ∧ Below wz.heap.size wz w') := fun wz a n c h => text_any _ _ wz h 13 (by omega) hGl
  have RG : Hid (∀ wz, Calls Tryd.prog 43 #[.string (str (dec N)), .string (str (dec M))] wz fun e w' => e = .returned (.string (str (dec G))) ∧ Below wz.heap.size wz w') := fun wz => by
    have := rgcd_any N M wz (by omega) (by omega) (32 * e13) (by omega) hM2
    rw [hG] at this; exact this
  have CG : Hid (∀ wz a n c a2 n2 c2, NatIs wz (.agg #[.slice a n c]) G → NatIs wz (.agg #[.slice a2 n2 c2]) G → Calls Tryd.prog 37 #[.agg #[.slice a n c], .agg #[.slice a2 n2 c2]] wz fun e w' => e = .returned (.int .i64 0) ∧ Below wz.heap.size wz w') := fun wz a n c a2 n2 c2 h g => by
    have := cmp_any _ _ G G wz h g
    rw [show cmpI G G = 0 by unfold cmpI; rw [if_neg (by omega), if_pos rfl]] at this; exact this
  have D1 : Hid (∀ wz a n c a2 n2 c2, NatIs wz (.agg #[.slice a n c]) N → NatIs wz (.agg #[.slice a2 n2 c2]) G → Calls Tryd.prog 38 #[.agg #[.slice a n c], .agg #[.slice a2 n2 c2]] wz fun e w' => DivOf3 wz w' e (N / G) 0 gb) := fun wz a n c a2 n2 c2 h g => (divMod_any _ _ N G wz h g 13 (by omega) l1).mono fun _ _ h => by
    have := h.three hgb
    rw [m1] at this; exact this
  have D2 : Hid (∀ wz a n c a2 n2 c2, NatIs wz (.agg #[.slice a n c]) M → NatIs wz (.agg #[.slice a2 n2 c2]) G → Calls Tryd.prog 38 #[.agg #[.slice a n c], .agg #[.slice a2 n2 c2]] wz fun e w' => DivOf3 wz w' e (M / G) 0 gb) := fun wz a n c a2 n2 c2 h g => (divMod_any _ _ M G wz h g 13 (by omega) l2).mono fun _ _ h => by
    have := h.three hgb
    rw [m2] at this; exact this
  have ZG : Hid (∀ wz v, NatIs wz v G → Calls Tryd.prog 22 #[v] wz fun e w' => e = .returned (.bool zb) ∧ Below wz.heap.size wz w') := fun wz v h => by
    have := zero_any v G wz h
    rw [hzb] at this; exact this
  have Z0 : Hid (∀ wz v, NatIs wz v 0 → Calls Tryd.prog 22 #[v] wz fun e w' => e = .returned (.bool true) ∧ Below wz.heap.size wz w') := fun wz v h => zero_any v 0 wz h
  obtain ⟨x, hx⟩ : ∃ x, str (dec N) = x := ⟨_, rfl⟩
  obtain ⟨y, hy⟩ : ∃ y, str (dec M) = y := ⟨_, rfl⟩
  obtain ⟨z, hz⟩ : ∃ z, str (dec G) = z := ⟨_, rfl⟩
  have hxs : x.size ≤ 120 := by rw [← hx, str_size]; unfold dec; rw [sdig_length]; exact d1
  have hys : y.size ≤ 120 := by rw [← hy, str_size]; unfold dec; rw [sdig_length]; exact d2
  rw [hx] at RS RG
  rw [hy] at RT RG
  rw [hz] at TG RG
  have zz : (z.toList == z.toList) = true := by simp
  clear hx hy hz b1 b2 d1 d2 h1 h2 hG hGl m1 m2 hgb hzb l1 l2 hM2 he13 hs ht
  by_cases hlen : 80 < x.size + y.size
  · have e80 : decide ((80 : Int) < (x.size : Int) + (y.size : Int)) = true := decide_eq_true (by omega)
    clear hcase
    go_enter Tryd.func7, Tryd.ntmps7
    go_wp2_with fail
    go_at_call 31
    (with_reducible refine (RS.out _).mono ?_)
    rintro e w1 ⟨a, n, c, rfl, _, hb1⟩
    have BB := Lib.hid (((Bag.start w).go hb1).alloc (.cells #[.slice a n c] 25))
    clear hb1
    go_wp2_with fail
    go_at_call 31
    (with_reducible refine (RT.out _).mono ?_)
    rintro e w2 ⟨a2, n2, c2, rfl, _, hb2⟩
    have BB := Lib.hid ((BB.out.go hb2).alloc (.cells #[.slice a2 n2 c2] 25))
    clear hb2
    go_wp2_with fail
    go_at_call 15
    refine (awake_any _).mono ?_
    rintro e w3 ⟨rfl, hb3⟩
    have BB := Lib.hid (BB.out.go hb3)
    clear hb3
    go_wp2
    go_ret
    exact ⟨rfl, BB.out.below⟩
  · have e80 : decide ((80 : Int) < (x.size : Int) + (y.size : Int)) = false := decide_eq_false (by omega)
    rcases hcase with ⟨rfl, rfl⟩ | ⟨rfl, rfl⟩
    all_goals
      go_enter Tryd.func7, Tryd.ntmps7
      go_wp2_with fail
      go_at_call 31
      (with_reducible refine (RS.out _).mono ?_)
      rintro e w1 ⟨a, n, c, rfl, hi1, hb1⟩
      have BB := Lib.hid ((((Bag.start w).go hb1).nat hi1).box (.slice a n c) 25)
      clear hb1 hi1
      go_wp2_with fail
      go_at_call 31
      (with_reducible refine (RT.out _).mono ?_)
      rintro e w2 ⟨a2, n2, c2, rfl, hi2, hb2⟩
      have BB := Lib.hid (((BB.out.go hb2).nat hi2).box (.slice a2 n2 c2) 25)
      clear hb2 hi2
      have q1 := BB.out.now.2.2.1.cell
      have q2 := BB.out.now.1.cell
      go_wp2_with fail
      go_at_call 42
      (with_reducible refine (G1.out _ a n c a2 n2 c2 BB.out.now.2.2.2.1 BB.out.now.2.1).mono ?_)
      rintro e w3 ⟨ag, ng, cg, rfl, hig, hb3⟩
      have BB := Lib.hid (((BB.out.go hb3).nat hig).box (.slice ag ng cg) 25)
      clear hig hb3 q1 q2
      have HC : Hid (∀ y, (fun y => Slot y w3.heap.size (.slice ag ng cg) ∧ NatIs y (.agg #[.slice ag ng cg]) G ∧ Slot y w2.heap.size (.slice a2 n2 c2) ∧ NatIs y (.agg #[.slice a2 n2 c2]) M ∧ Slot y w1.heap.size (.slice a n c) ∧ NatIs y (.agg #[.slice a n c]) N ∧ True) y → (y.cell? ⟨w1.heap.size, 0, none⟩ = some (.slice a n c) ∧ y.cell? ⟨w2.heap.size, 0, none⟩ = some (.slice a2 n2 c2) ∧ y.cell? ⟨w3.heap.size, 0, none⟩ = some (.slice ag ng cg))) := fun y h => ⟨h.2.2.2.2.1.cell, h.2.2.1.cell, h.1.cell⟩
      go_wp2_with fail
      go_region_held3 (fun y => (y.cell? ⟨w1.heap.size, 0, none⟩ = some (.slice a n c) ∧ y.cell? ⟨w2.heap.size, 0, none⟩ = some (.slice a2 n2 c2) ∧ y.cell? ⟨w3.heap.size, 0, none⟩ = some (.slice ag ng cg)) ∧ Bag w (fun y => Slot y w3.heap.size (.slice ag ng cg) ∧ NatIs y (.agg #[.slice ag ng cg]) G ∧ Slot y w2.heap.size (.slice a2 n2 c2) ∧ NatIs y (.agg #[.slice a2 n2 c2]) M ∧ Slot y w1.heap.size (.slice a n c) ∧ NatIs y (.agg #[.slice a n c]) N ∧ True) y)
        ((refine (fun h => ⟨HC.out _ h.now, h⟩ : Bag w (fun y => Slot y w3.heap.size (.slice ag ng cg) ∧ NatIs y (.agg #[.slice ag ng cg]) G ∧ Slot y w2.heap.size (.slice a2 n2 c2) ∧ NatIs y (.agg #[.slice a2 n2 c2]) M ∧ Slot y w1.heap.size (.slice a n c) ∧ NatIs y (.agg #[.slice a n c]) N ∧ True) _ → _) ?_; (first | exact BB.out.drew | exact Bag.go (show Bag w (fun y => Slot y w3.heap.size (.slice ag ng cg) ∧ NatIs y (.agg #[.slice ag ng cg]) G ∧ Slot y w2.heap.size (.slice a2 n2 c2) ∧ NatIs y (.agg #[.slice a2 n2 c2]) M ∧ Slot y w1.heap.size (.slice a n c) ∧ NatIs y (.agg #[.slice a n c]) N ∧ True) _ from by go_split_ands; assumption) hbz)))
        (first
          | (go_at_call 21; (with_reducible refine (TG.out _ ag ng cg ?_).mono ?_); exact (show Bag w (fun y => Slot y w3.heap.size (.slice ag ng cg) ∧ NatIs y (.agg #[.slice ag ng cg]) G ∧ Slot y w2.heap.size (.slice a2 n2 c2) ∧ NatIs y (.agg #[.slice a2 n2 c2]) M ∧ Slot y w1.heap.size (.slice a n c) ∧ NatIs y (.agg #[.slice a n c]) N ∧ True) _ from by go_split_ands; assumption).now.2.1; rintro e wy ⟨rfl, hbz⟩)
          | (go_at_call 43; (with_reducible refine (RG.out _).mono ?_); rintro e wy ⟨rfl, hbz⟩)
          | (go_at_call 42; (with_reducible refine (G2.out _ a2 n2 c2 a n c ?_ ?_).mono ?_); exact (show Bag w (fun y => Slot y w3.heap.size (.slice ag ng cg) ∧ NatIs y (.agg #[.slice ag ng cg]) G ∧ Slot y w2.heap.size (.slice a2 n2 c2) ∧ NatIs y (.agg #[.slice a2 n2 c2]) M ∧ Slot y w1.heap.size (.slice a n c) ∧ NatIs y (.agg #[.slice a n c]) N ∧ True) _ from by go_split_ands; assumption).now.2.2.2.1; exact (show Bag w (fun y => Slot y w3.heap.size (.slice ag ng cg) ∧ NatIs y (.agg #[.slice ag ng cg]) G ∧ Slot y w2.heap.size (.slice a2 n2 c2) ∧ NatIs y (.agg #[.slice a2 n2 c2]) M ∧ Slot y w1.heap.size (.slice a n c) ∧ NatIs y (.agg #[.slice a n c]) N ∧ True) _ from by go_split_ands; assumption).now.2.2.2.2.2.1; rintro e wy ⟨a5, n5, c5, rfl, hi5, hbz⟩)
          | (go_at_call 37; (with_reducible refine (CG.out _ a5 n5 c5 ag ng cg hi5 ?_).mono ?_); exact (show Bag w (fun y => Slot y w3.heap.size (.slice ag ng cg) ∧ NatIs y (.agg #[.slice ag ng cg]) G ∧ Slot y w2.heap.size (.slice a2 n2 c2) ∧ NatIs y (.agg #[.slice a2 n2 c2]) M ∧ Slot y w1.heap.size (.slice a n c) ∧ NatIs y (.agg #[.slice a n c]) N ∧ True) _ from by go_split_ands; assumption).now.2.1; rintro e wy ⟨rfl, hbz⟩))
      have BB := Lib.hid (show Bag w (fun y => Slot y w3.heap.size (.slice ag ng cg) ∧ NatIs y (.agg #[.slice ag ng cg]) G ∧ Slot y w2.heap.size (.slice a2 n2 c2) ∧ NatIs y (.agg #[.slice a2 n2 c2]) M ∧ Slot y w1.heap.size (.slice a n c) ∧ NatIs y (.agg #[.slice a n c]) N ∧ True) _ from by go_split_ands; assumption)
      have q1 := BB.out.now.2.2.2.2.1.cell
      have q3 := BB.out.now.1.cell
      go_wp2_with fail
      go_at_call 38
      (with_reducible refine (D1.out _ a n c ag ng cg BB.out.now.2.2.2.2.2.1 BB.out.now.2.1).mono ?_)
      rintro e w5 ⟨aq, nq, cq, ar, nr, cr, rfl, hiq, hir, hb5⟩
      have B5 := (((BB.out.go hb5).nat hir).alloc (.cells #[.slice aq nq cq] 25)).box (.slice ar nr cr) 25
      rw [World.size_alloc] at B5
      have BB := Lib.hid B5
      clear hiq hir hb5 B5 q1 q3
      have q2 := BB.out.now.2.2.2.2.1.cell
      have q3 := BB.out.now.2.2.1.cell
      go_wp2_with fail
      go_at_call 38
      (with_reducible refine (D2.out _ a2 n2 c2 ag ng cg BB.out.now.2.2.2.2.2.1 BB.out.now.2.2.2.1).mono ?_)
      rintro e w6 ⟨aq2, nq2, cq2, ar2, nr2, cr2, rfl, hiq, hir, hb6⟩
      have B6 := (((BB.out.go hb6).nat hir).alloc (.cells #[.slice aq2 nq2 cq2] 25)).box (.slice ar2 nr2 cr2) 25
      rw [World.size_alloc] at B6
      have BB := Lib.hid B6
      clear hiq hir hb6 B6 q2 q3
      have q3 := BB.out.now.2.2.2.2.1.cell
      go_wp2_with fail
      go_at_call 22
      (with_reducible refine (ZG.out _ _ BB.out.now.2.2.2.2.2.1).mono ?_)
      rintro e w7 ⟨rfl, hb7⟩
      have BB := Lib.hid (BB.out.go hb7)
      clear hb7 q3
      have q3 := BB.out.now.2.2.1.cell
      go_wp2_with fail
      go_at_call 22
      (with_reducible refine (Z0.out _ _ BB.out.now.2.2.2.1).mono ?_)
      rintro e w8 ⟨rfl, hb7⟩
      have BB := Lib.hid (BB.out.go hb7)
      clear hb7 q3
      have q3 := BB.out.now.1.cell
      go_wp2_with fail
      go_at_call 22
      (with_reducible refine (Z0.out _ _ BB.out.now.2.1).mono ?_)
      rintro e w9 ⟨rfl, hb7⟩
      have BB := Lib.hid (BB.out.go hb7)
      clear hb7 q3
      go_wp2_with fail
      go_at_call 15
      refine (awake_any _).mono ?_
      rintro e w10 ⟨rfl, hb7⟩
      have BB := Lib.hid (BB.out.go hb7)
      clear hb7
      go_wp2
      go_ret
      exact ⟨rfl, BB.out.below⟩

theorem natDivisors_walk (s t : ByteArray) (w : World) (hs : s.size ≤ maxLen) (ht : t.size ≤ maxLen) :
    Calls Tryd.prog 7 #[.string s, .string t] w fun e w' => e = .returned (.bool true) ∧ Below w.heap.size w w' := by
  cases h : (rd2 s && rd2 t) with
  | false => exact natDivisors_no s t w hs ht h
  | true =>
    rw [Bool.and_eq_true] at h
    have h1 := h.1
    have h2 := h.2
    unfold rd2 at h1 h2
    rw [Bool.and_eq_true, decide_eq_true_eq] at h1 h2
    exact natDivisors_yes s t w h1.1 h2.1 h1.2 h2.2

theorem own : ownKnob Tryd.prog.godebug = none := by kernel_rfl

set_option maxRecDepth 100000 in
theorem natDivisors_lifted (os : Os) (started : os.Started) (H : Type) (enc : TypeId × Value → H) :
    ReturnsInHanded {} Tryd.checked os 7 .any (fun w args => (Rows.natDivisorsSpec.pre enc Tryd.prog Tryd.f7 [] false w args ∧ laidMetH Tryd.prog Rows.natDivisorsRow.laid w) ∧ sizedMet enc Tryd.prog Tryd.f7 (OpenSpec.ofChange Rows.natDivisorsSpec) false w args)
      (Rows.natDivisorsSpec.post enc Tryd.prog Tryd.f7 false true false false) := by
  refine returnsInHanded_of_change_and (C := Tryd.checked) (X := fun w _ => laidMetH Tryd.prog Rows.natDivisorsRow.laid w) (fun _ _ _ hh h => h.of_heap hh) own started (by kernel_rfl) Tryd.func7
    (ChangeSpec.witness_shaped (enc := enc) (C := Tryd.checked) (os := os) (X := fun w _ => laidMetH Tryd.prog Rows.natDivisorsRow.laid w) false (World.laidAll Tryd.prog os Rows.natDivisorsRow.laid) #[.string ⟨#[]⟩, .string ⟨#[]⟩] 8 (World.laidAll_os _ _ _)
      (World.shaped_of_ZipB (by kernel_rfl) (by kernel_rfl)) (by kernel_rfl) (by kernel_rfl) (by kernel_rfl)
      (by rw [MakeChecks.laidMetH_plain _ _ _ (by kernel_rfl)]; exact laidMet_laidAll _ (by kernel_rfl) (by kernel_rfl))) ?_
  intro W base args ds gs before hval0 hW _ _ _ _
  have hval : ∀ (j : Nat) t v, Tryd.f7.params[j]? = some t → args[j]? = some v → Value.okWide Tryd.prog W .any base t v := hval0
  have hW' := hW
  obtain ⟨p, q, hA0, hV, rfl, _, _⟩ := hW
  have hA : DataW.TrodAll enc Tryd.prog W 0 (fun _ => true) true Tryd.f7.params.toList args.toList ds p := hA0
  rw [Tryd.params7] at hA hval
  obtain ⟨v0, v1, d0, d1, p0, p1, rfl, rfl, rfl, h0, h1⟩ := trodAll_two hA
  obtain ⟨rfl, rfl⟩ := trodVars_none hV
  obtain ⟨x0, rfl, rfl, rfl, b0⟩ := open_string Tryd.underlying9 (hval 0 9 v0 rfl rfl) h0
  obtain ⟨x1, rfl, rfl, rfl, b1⟩ := open_string Tryd.underlying9 (hval 1 9 v1 rfl rfl) h1
  simp only [List.append_nil] at hW'
  refine (natDivisors_walk x0 x1 W b0 b1).mono fun e W' ⟨he, hb⟩ => ?_
  subst he
  exact ⟨_, rfl, _, _, _, [], [], [], hW', trodAll_mk1 (shut_bool Tryd.underlying4 _), trodAll_mk2 (shut_string Tryd.underlying9 b0) (shut_string Tryd.underlying9 b1), rfl, hb.frame _, fun h => by cases h⟩

theorem natDivisors_row : Rows.NatDivisorsSaid :=
  OpenClaim.holds_of_wide 7 Tryd.f7 rfl rfl rfl rfl rfl rfl rfl ⟨rfl, rfl, rfl, rfl, rfl⟩ rfl rfl rfl rfl rfl (by kernel_rfl) Tryd.func7 (by kernel_rfl)
    (of_decide_eq_true (by kernel_rfl)) (by unfold Func.isWrapper; first | (rw [if_pos (by decide +kernel)]; kernel_rfl) | (rw [if_neg (by decide +kernel)]; exact ⟨rfl, rfl⟩))
    (fun os started H enc _ => natDivisors_lifted os started H enc)

theorem natDivisors_holds : Rows.NatDivisorsCardSaid :=
  Claim7.holds_tied_plain_at .later [] [.data, .pinned] true Rows.natDivisorsCard.stood.harness false natDivisors_row (fun _ h => by cases h) (by kernel_rfl) (fun _ h => by cases h) natDivisors_row_tie rfl ⟨rfl, rfl⟩ (by kernel_rfl) rfl
    (fun f fn hf hfn => by
      obtain rfl : f = 7 := Option.some.inj ((show Tryd.prog.funcNamed "typeball/typeballlaw01.NatDivisors" = some 7 by kernel_rfl).symm.trans hf) |>.symm
      obtain rfl : fn = Tryd.f7 := (Option.some.inj (Tryd.func7.symm.trans hfn)).symm
      exact ⟨by kernel_rfl, fun j t ht => by
        rw [Tryd.params7] at ht
        have hm : t ∈ [9] := by simpa using Array.mem_of_getElem? ht
        have hall : ([9].all fun u => !Tryd.prog.wantsStandIn u) = true := by kernel_rfl
        exact (show Tryd.prog.wantsStandIn t = false by simpa using List.all_eq_true.1 hall t hm)⟩)
    (by kernel_rfl)
#print axioms natDivisors_holds
end Go.Proofs.YtkjdoknmmiaapaaDoor
