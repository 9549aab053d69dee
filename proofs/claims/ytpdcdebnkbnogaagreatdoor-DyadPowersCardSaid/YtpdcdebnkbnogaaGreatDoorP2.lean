/-
  Texts of this seat, laid together.
-/
import Derived.Laws.StructEq
import Derived.BigRegion
import Derived.RegionTactic
import Derived.Deep.RegionWith
import Derived.Deep.RegionHeld3
import Derived.Deep.DrawnRows
import Derived.IntWalk
import Derived.Laws.BitsLemmas
import Derived.Lib.ItoaNum
import Derived.Test.YtpdcdebnkbnogaaGreatDoorShelf
import Derived.Deep.Strs
import Derived.ProofKit
import Derived.OpenShut
import Derived.Test.YtpdcdebnkbnogaaGreatDoorRows
import Derived.Test.YtpdcdebnkbnogaaGreatDoorQ1
import Derived.Test.YtpdcdebnkbnogaaGreatDoorQ2
import Derived.Test.YtpdcdebnkbnogaaGreatDoorQ3
import Derived.Test.YtpdcdebnkbnogaaGreatDoorQ4
import Derived.Test.YtpdcdebnkbnogaaGreatDoorQ5
import Derived.Test.YtpdcdebnkbnogaaGreatDoorQ6
import Derived.Test.YtpdcdebnkbnogaaGreatDoorQ7
import Derived.Test.YtpdcdebnkbnogaaGreatDoorQ8
import Derived.Test.YtpdcdebnkbnogaaGreatDoorQ9
import Derived.Test.YtpdcdebnkbnogaaGreatDoorQ10
import Derived.Test.YtpdcdebnkbnogaaGreatDoorP1
set_option maxHeartbeats 12800000
set_option maxRecDepth 100000
set_option linter.unusedSimpArgs false
set_option linter.unusedVariables false
namespace Go.Proofs.YtpdcdebnkbnogaaGreatDoor
open Go.RowKit
attribute [local go_sem ↓] Go.wp_at_zero Go.wp_at_succ
set_option linter.unusedVariables false
set_option linter.unusedSimpArgs false
def rd13 (b : Bool) (s t : ByteArray) : Bool := decide (s.size <= 40) && (decide (t.size <= 40) && ofO b s t)
theorem size_dl13 (N : Nat) : (str (dec N)).size = dl N := by rw [str_size]; exact sdig_length _ _
theorem ten40 : (10 : Nat) ^ 40 < 4294967296 ^ 7 := by decide
theorem rd13_spec {b : Bool} {s t : ByteArray} (h : rd13 b s t = true) : rB (ofP b s t) = b /\ rS (ofP b s t) = s /\ str (dec (ofQ b s t)) = t /\ 0 < ofQ b s t /\ Nat.gcd (ofP b s t).natAbs (ofQ b s t) = 1 /\ dl (ofP b s t).natAbs <= 40 /\ dl (ofQ b s t) <= 40 /\ (ofP b s t).natAbs < 4294967296 ^ 7 /\ ofQ b s t < 4294967296 ^ 7 := by
 unfold rd13 ofO at h
 rw [Bool.and_eq_true, Bool.and_eq_true, Bool.and_eq_true, decide_eq_true_eq, decide_eq_true_eq, decide_eq_true_eq] at h
 obtain ⟨hs, ht, hk, h1, h2, h3⟩ := h
 unfold ofK at hk
 rw [Bool.and_eq_true, Bool.and_eq_true, Bool.not_eq_true', decide_eq_false_iff_not] at hk
 have hM : 0 < numOf t.data.toList := by omega
 have d1 : dl (ofP b s t).natAbs <= 40 := by have := congrArg ByteArray.size h2; unfold rS at this; rw [size_dl13] at this; omega
 have d2 : dl (ofQ b s t) <= 40 := by have := congrArg ByteArray.size h3; rw [size_dl13] at this; omega
 have lim : ∀ N, dl N <= 40 -> N < 4294967296 ^ 7 := fun N h => Nat.lt_trans (Nat.lt_of_lt_of_le (dl_lt N) (Nat.pow_le_pow_right (by omega) h)) ten40
 exact ⟨h1, h2, h3, loQ_pos _ hM, lo_cop _ hM, d1, d2, lim _ d1, lim _ d2⟩
theorem read13_yes (b : Bool) (s t : ByteArray) (w : World) (h : rd13 b s t = true) :
    Calls Tryz.prog 15 #[.agg #[.bool b, .string s, .string t]] w fun e w' => RatTold3 w w' e (ofP b s t) (ofQ b s t) true := by
 unfold rd13 at h
 rw [Bool.and_eq_true, Bool.and_eq_true, decide_eq_true_eq, decide_eq_true_eq] at h
 have BB := Lib.hid ((Bag.start w).box3 (.bool b) (.string s) (.string t) 46 |>.box3 (.slice none 0 0) (.bool false) (.slice none 0 0) 53)
 simp only [World.size_alloc] at BB
 have RT := Lib.hid (fun wz => r3Right_any b s t wz (by omega) (by omega))
 have OF := Lib.hid (fun wz => of_any' b s t wz (by omega) (by omega))
 rw [h.2.2, if_pos rfl, if_pos rfl] at OF
 rw [h.2.2] at RT
 unfold RatTold3 at OF
 generalize ofP b s t = P at *
 generalize ofQ b s t = Q at *
 have q0 := BB.out.now.2.1.cell
 have q1 := BB.out.now.2.1.cell1
 have q2 := BB.out.now.2.1.cell2
 have l1 : decide ((40 : Int) < s.size) = false := decide_eq_false (by omega)
 have l2 : decide ((40 : Int) < t.size) = false := decide_eq_false (by omega)
 clear h
 go_enter Tryz.func15, Tryz.ntmps15
 go_wp2_with fail
 go_at_call 52
 (with_reducible refine (RT.out _).mono ?_)
 rintro e w2 ⟨rfl, hb2⟩
 have BB := Lib.hid (BB.out.go hb2)
 have q0 := BB.out.now.2.1.cell
 have q1 := BB.out.now.2.1.cell1
 have q2 := BB.out.now.2.1.cell2
 clear hb2
 go_wp2_with fail
 go_at_call 53
 (with_reducible refine (OF.out _).mono ?_)
 rintro e w3 ⟨a3, n3, c3, m3, a4, n4, c4, rfl, hr, hb3⟩
 have BB := Lib.hid (BB.out.go hb3)
 have hs := BB.out.now.1
 have u0 := hs.cell
 have u1 := hs.cell1
 have u2 := hs.cell2
 have g0 := hs.free
 have g1 := hs.free1
 have g2 := hs.free2
 have HS := hs.set (.slice a3 n3 c3) (.bool m3) (.slice a4 n4 c4)
 have HE := Lib.hid (RatTold3.done true BB.out.below (by omega) hs hr)
 clear hs hr hb3
 go_wp2
 exact bodyPost_ret (v := .tuple #[.agg #[.slice a3 n3 c3, .bool m3, .slice a4 n4 c4], .bool true]) (by simp [results, Tryz.results15, go_sem, HS]) rfl HE.out
theorem read13_no (b : Bool) (s t : ByteArray) (w : World) (h : rd13 b s t = false) :
    Calls Tryz.prog 15 #[.agg #[.bool b, .string s, .string t]] w fun e w' => RatTold3 w w' e 0 1 false := by
 have BB := Lib.hid ((Bag.start w).box3 (.bool b) (.string s) (.string t) 46 |>.box3 (.slice none 0 0) (.bool false) (.slice none 0 0) 53)
 simp only [World.size_alloc] at BB
 have q0 := BB.out.now.2.1.cell
 have q1 := BB.out.now.2.1.cell1
 have q2 := BB.out.now.2.1.cell2
 by_cases h1 : s.size <= 40
 · by_cases h2 : t.size <= 40
   · unfold rd13 at h
     rw [decide_eq_true h1, decide_eq_true h2, Bool.true_and, Bool.true_and] at h
     have RT := Lib.hid (fun wz => r3Right_any b s t wz (by omega) (by omega))
     rw [h] at RT
     have l1 : decide ((40 : Int) < s.size) = false := decide_eq_false (by omega)
     have l2 : decide ((40 : Int) < t.size) = false := decide_eq_false (by omega)
     clear h h1 h2
     go_enter Tryz.func15, Tryz.ntmps15
     go_wp2_with fail
     go_at_call 52
     (with_reducible refine (RT.out _).mono ?_)
     rintro e w2 ⟨rfl, hb2⟩
     have BB := Lib.hid (BB.out.go hb2)
     have hs := BB.out.now.1
     have u0 := hs.cell
     have u1 := hs.cell1
     have u2 := hs.cell2
     have g0 := hs.free
     have g1 := hs.free1
     have g2 := hs.free2
     have HS := hs.set (.slice none 0 0) (.bool false) (.slice none 0 0)
     have HE := Lib.hid (RatTold3.done false BB.out.below (by omega) hs (RatAt.zero _))
     clear hs hb2
     go_wp2
     exact bodyPost_ret (v := .tuple #[.agg #[.slice none 0 0, .bool false, .slice none 0 0], .bool false]) (by simp [results, Tryz.results15, go_sem, HS]) rfl HE.out
   · have l1 : decide ((40 : Int) < s.size) = false := decide_eq_false (by omega)
     have l2 : decide ((40 : Int) < t.size) = true := decide_eq_true (by omega)
     have hs := BB.out.now.1
     have u0 := hs.cell
     have u1 := hs.cell1
     have u2 := hs.cell2
     have g0 := hs.free
     have g1 := hs.free1
     have g2 := hs.free2
     clear hs h h1 h2
     go_enter Tryz.func15, Tryz.ntmps15
     go_wp2
     exact bodyPost_ret (v := .tuple #[.agg #[.slice none 0 0, .bool false, .slice none 0 0], .bool false]) (by simp [results, Tryz.results15, go_sem]) rfl ⟨none, 0, 0, false, none, 0, 0, rfl, RatAt.zero _, BB.out.below⟩
 · have l1 : decide ((40 : Int) < s.size) = true := decide_eq_true (by omega)
   have hs := BB.out.now.1
   have u0 := hs.cell
   have u1 := hs.cell1
   have u2 := hs.cell2
   have g0 := hs.free
   have g1 := hs.free1
   have g2 := hs.free2
   clear hs h h1
   go_enter Tryz.func15, Tryz.ntmps15
   go_wp2
   exact bodyPost_ret (v := .tuple #[.agg #[.slice none 0 0, .bool false, .slice none 0 0], .bool false]) (by simp [results, Tryz.results15, go_sem]) rfl ⟨none, 0, 0, false, none, 0, 0, rfl, RatAt.zero _, BB.out.below⟩
end Go.Proofs.YtpdcdebnkbnogaaGreatDoor
namespace Go.Proofs.YtpdcdebnkbnogaaGreatDoor
open Go.RowKit
theorem powN_val {X n : Nat} {most : Int} (h : (lb (X ^ n) : Int) <= most) : powN X (n : Int) most = (X ^ n, true) := by
 by_cases h0 : n = 0
 · subst h0
   unfold powN
   rw [if_pos (.inl (by omega)), Nat.pow_zero]
 by_cases h1 : X = 1
 · subst h1
   unfold powN
   rw [if_pos (.inr rfl), Nat.one_pow]
 by_cases h2 : X = 0
 · subst h2
   unfold powN
   rw [if_neg (by omega), if_pos rfl, Nat.zero_pow (by omega)]
 · exact powN_full (k := n) (by omega) (by omega) rfl h
theorem lb_small {N m : Nat} (h : N < 4294967296 ^ m) : lb N <= m := lb_le.2 (by rw [← pow32]; exact h)
theorem sgn_pow (P : Int) : ∀ n : Nat, sgn (raS P (n : Int)) (P.natAbs ^ n) = P ^ n := by
 have key : ∀ n : Nat, P ^ n = if P < 0 /\ n % 2 = 1 then -((P.natAbs ^ n : Nat) : Int) else ((P.natAbs ^ n : Nat) : Int) := by
  intro n
  induction n with
  | zero => rw [if_neg (by omega)]; simp
  | succ n ih =>
   rw [Int.pow_succ, ih, Nat.pow_succ, Int.natCast_mul]
   by_cases hP : P < 0
   · have e : (P.natAbs : Int) = -P := by omega
     by_cases hn : n % 2 = 1
     · rw [if_pos ⟨hP, hn⟩, if_neg (by omega), e, Int.neg_mul, Int.mul_neg]
     · rw [if_neg (by omega), if_pos ⟨hP, by omega⟩, e, Int.mul_neg, Int.neg_neg]
   · have e : (P.natAbs : Int) = P := by omega
     rw [if_neg (by omega), if_neg (by omega), e]
 intro n
 rw [key n]
 by_cases h : P < 0 /\ n % 2 = 1
 · rw [if_pos h]
   have hb : raS P (n : Int) = true := by
    unfold raS
    rw [decide_eq_true h.1, decide_eq_true (by omega)]
    rfl
   rw [hb]
   rfl
 · rw [if_neg h]
   have hb : raS P (n : Int) = false := by
    unfold raS
    refine Bool.eq_false_iff.2 (fun e => h ?_)
    rw [Bool.and_eq_true, decide_eq_true_eq, decide_eq_true_eq] at e
    omega
   rw [hb]
   rfl
theorem ra_val {P : Int} {Q n : Nat} (h1 : P.natAbs ^ n < 4294967296 ^ 64) (h2 : Q ^ n < 4294967296 ^ 64) : raO P Q (n : Int) 64 = true /\ raP P Q (n : Int) 64 = P ^ n /\ raQ P Q (n : Int) 64 = Q ^ n := by
 have e1 := powN_val (most := 64) (show (lb (P.natAbs ^ n) : Int) <= 64 by have := lb_small h1; omega)
 have e2 := powN_val (most := 64) (show (lb (Q ^ n) : Int) <= 64 by have := lb_small h2; omega)
 have e3 : raO P Q (n : Int) 64 = true := by unfold raO; rw [e1, e2]; rfl
 refine ⟨e3, ?_, ?_⟩
 · unfold raP
   rw [e3, if_pos rfl, e1]
   exact sgn_pow P n
 · unfold raQ
   rw [e3, if_pos rfl, e2]
theorem lim_val {P : Int} {Q : Nat} (h1 : P.natAbs < 4294967296 ^ 64) (h2 : Q < 4294967296 ^ 64) : lim3 64 (P, Q, 0) = (P, Q, 0) := by
 rw [lim3_yes, if_neg]
 unfold limZ
 have := lbs_le32.2 h1
 have := lbs_le32.2 h2
 omega
theorem fit_small {Z : Int} (h : -9223372036854775808 <= Z /\ Z <= 9223372036854775807) : fitB Z = true := decide_eq_true h
theorem limB_cases {P : Int} {Q : Nat} (h : limB P Q = true) : Q = 1 /\ (P = 0 ∨ P = 1 ∨ P = -1) := by
 unfold limB at h
 rw [Bool.and_eq_true, Bool.or_eq_true, decide_eq_true_eq, decide_eq_true_eq, decide_eq_true_eq] at h
 omega
theorem neg_pow1 : ∀ n : Nat, (-1 : Int) ^ n = if n % 2 = 0 then 1 else -1
 | 0 => rfl
 | n + 1 => by
  rw [Int.pow_succ, neg_pow1 n]
  by_cases h : n % 2 = 0
  · rw [if_pos h, if_neg (by omega)]; rfl
  · rw [if_neg h, if_pos (by omega)]; rfl
theorem pow_ok {P : Int} {Q n : Nat} (hn : n <= 3000) (h1 : P.natAbs ^ n < 4294967296 ^ 64) (h2 : Q ^ n < 4294967296 ^ 64) : twoT 42 P Q (n : Int) 1 64 = (P ^ n, Q ^ n, 0) := by
 have hv : twoT 42 P Q (n : Int) 1 64 = lim3 64 (powT P Q (n : Int) 1 64) := by
  unfold twoT
  rw [show cmpK 42 = false from rfl, show logK 42 = false from rfl, show numK 42 = true from rfl, numT_42]
  rfl
 have h1' : (P ^ n).natAbs < 4294967296 ^ 64 := by rw [Int.natAbs_pow]; exact h1
 rw [hv]
 have e : powT P Q (n : Int) 1 64 = (P ^ n, Q ^ n, 0) := by
  unfold powT
  rw [if_neg (by omega)]
  by_cases h0 : n = 0
  · subst h0
    rw [if_pos (show ((0 : Nat) : Int) = 0 from rfl), Int.pow_zero, Nat.pow_zero]
  rw [if_neg (by omega)]
  cases hl : limB P Q with
  | true =>
   obtain ⟨rfl, hP⟩ := limB_cases hl
   rw [if_pos rfl, Nat.one_pow]
   rcases hP with rfl | rfl | rfl
   · rw [Int.zero_pow h0]
     split <;> rfl
   · rw [Int.one_pow]
     split <;> rfl
   · rw [neg_pow1]
     by_cases hp : n % 2 = 0
     · rw [if_pos hp, if_pos (by omega)]; rfl
     · rw [if_neg hp, if_neg (by omega)]
  | false =>
   obtain ⟨e1, e2, e3⟩ := ra_val h1 h2
   rw [if_neg (by decide), fit_small (by omega), if_neg (by decide)]
   have p0 : (0 : Int) <= (n : Int) := by omega
   unfold poO poP poQ
   rw [if_pos p0, if_pos p0, if_pos p0, e1, e2, e3, if_pos rfl]
 rw [e]
 exact lim_val h1' h2
theorem int_pow_add (a : Int) (m : Nat) : ∀ n, a ^ (m + n) = a ^ m * a ^ n
 | 0 => by rw [Nat.add_zero, Int.pow_zero, Int.mul_one]
 | n + 1 => by rw [← Nat.add_assoc, Int.pow_succ, int_pow_add a m n, Int.pow_succ, Int.mul_assoc]
theorem int_pow_mul (a : Int) (m : Nat) : ∀ n, a ^ (m * n) = (a ^ m) ^ n
 | 0 => by rw [Nat.mul_zero, Int.pow_zero, Int.pow_zero]
 | n + 1 => by rw [Nat.mul_succ, int_pow_add, int_pow_mul a m n, Int.pow_succ]
theorem int_mul_pow (a b : Int) : ∀ n : Nat, (a * b) ^ n = a ^ n * b ^ n
 | 0 => by rw [Int.pow_zero, Int.pow_zero, Int.pow_zero]; rfl
 | n + 1 => by rw [Int.pow_succ, int_mul_pow a b n, Int.pow_succ, Int.pow_succ]; ac_rfl
theorem cmpZ_eq {Z Y : Int} (h : Z = Y) : cmpZ Z Y = 0 := by rw [h]; unfold cmpZ; rw [if_neg (by omega), if_pos rfl]
theorem pow_sum (P : Int) (Q i k : Nat) : cmpZ (tmP (P ^ i) (Q ^ i) (P ^ k) (Q ^ k) * ((Q ^ (i + k) : Nat) : Int)) (P ^ (i + k) * (tmQ (P ^ i) (Q ^ i) (P ^ k) (Q ^ k) : Nat)) = 0 := by
 refine cmpZ_eq ?_
 unfold tmP tmQ
 rw [int_pow_add, Nat.pow_add]
 exact lo_cross _ _
theorem pow_neg_val {P : Int} {Q i : Nat} (hP0 : P ≠ 0 ∨ i = 0) (hQ : 0 < Q) (hg : Nat.gcd P.natAbs Q = 1) (hi : i <= 7) (h1 : P.natAbs ^ i < 4294967296 ^ 64) (h2 : Q ^ i < 4294967296 ^ 64) :
    ∃ (U : Int) (V : Nat), twoT 42 P Q (-(i : Int)) 1 64 = (U, V, 0) /\ U * P ^ i = (V : Int) * (Q ^ i : Nat) /\ 0 < V /\ U.natAbs < 4294967296 ^ 64 /\ V < 4294967296 ^ 64 := by
 have hv : twoT 42 P Q (-(i : Int)) 1 64 = lim3 64 (powT P Q (-(i : Int)) 1 64) := by
  unfold twoT
  rw [show cmpK 42 = false from rfl, show logK 42 = false from rfl, show numK 42 = true from rfl, numT_42]
  rfl
 have one : (1 : Int).natAbs < 4294967296 ^ 64 /\ (1 : Nat) < 4294967296 ^ 64 /\ (-1 : Int).natAbs < 4294967296 ^ 64 := by
  have : (1 : Nat) < 4294967296 ^ 64 := Nat.one_lt_pow (by omega) (by omega)
  exact ⟨this, this, this⟩
 by_cases h0 : i = 0
 · subst h0
   refine ⟨1, 1, ?_, by simp, by omega, one.1, one.2.1⟩
   rw [hv]
   unfold powT
   rw [if_neg (by omega), if_pos (by omega)]
   exact lim_val one.1 one.2.1
 have hP : P ≠ 0 := hP0.resolve_right h0
 cases hl : limB P Q with
 | true =>
  obtain ⟨rfl, hPc⟩ := limB_cases hl
  rcases hPc with h | rfl | rfl
  · exact absurd h hP
  · refine ⟨1, 1, ?_, by rw [Int.one_pow, Nat.one_pow]; rfl, by omega, one.1, one.2.1⟩
    rw [hv]
    unfold powT
    rw [if_neg (by omega), if_neg (by omega), hl, if_pos rfl]
    have : ((if -(i : Int) % 2 = 0 then (1 : Int) * 1 else 1), 1, 0) = ((1 : Int), (1 : Nat), (0 : Int)) := by split <;> rfl
    rw [this]
    exact lim_val one.1 one.2.1
  · by_cases hp : i % 2 = 0
    · refine ⟨1, 1, ?_, by rw [neg_pow1, if_pos hp, Nat.one_pow]; rfl, by omega, one.1, one.2.1⟩
      rw [hv]
      unfold powT
      rw [if_neg (by omega), if_neg (by omega), hl, if_pos rfl, if_pos (by omega)]
      exact lim_val one.1 one.2.1
    · refine ⟨-1, 1, ?_, by rw [neg_pow1, if_neg hp, Nat.one_pow]; rfl, by omega, one.2.2, one.2.1⟩
      rw [hv]
      unfold powT
      rw [if_neg (by omega), if_neg (by omega), hl, if_pos rfl, if_neg (by omega)]
      exact lim_val one.2.2 one.2.1
 | false =>
  have ei : inP P Q = upZ Q P /\ inQ P Q = P.natAbs := by
   show nwP (1 * (Q : Int)) (P * ((1 : Nat) : Int)) = _ /\ nwQ (1 * (Q : Int)) (P * ((1 : Nat) : Int)) = _
   rw [Int.one_mul, show P * ((1 : Nat) : Int) = P from Int.mul_one P]
   unfold nwP nwQ
   refine lo_one ?_
   rw [upZ_abs, Int.natAbs_natCast, Nat.gcd_comm]
   exact hg
  have ha : (upZ Q P).natAbs = Q := by rw [upZ_abs]; exact Int.natAbs_natCast Q
  obtain ⟨e1, e2, e3⟩ := ra_val (P := upZ Q P) (Q := P.natAbs) (n := i) (by rw [ha]; exact h2) h1
  refine ⟨(upZ Q P) ^ i, P.natAbs ^ i, ?_, ?_, Nat.pow_pos (by omega), by rw [Int.natAbs_pow, ha]; exact h2, h1⟩
  · rw [hv]
    unfold powT
    rw [if_neg (by omega), if_neg (by omega), hl, if_neg (by decide), fit_small (by omega), if_neg (by decide)]
    have p0 : ¬ (0 : Int) <= -(i : Int) := by omega
    have pm : ¬ -(i : Int) = -9223372036854775808 := by omega
    unfold poO poP poQ
    rw [if_neg p0, if_neg p0, if_neg p0, if_neg hP, if_neg hP, if_neg hP, if_neg pm, if_neg pm, if_neg pm, Int.neg_neg, ei.1, ei.2, e1, e2, e3, if_pos rfl]
    exact lim_val (by rw [Int.natAbs_pow, ha]; exact h2) h1
  · rw [← int_mul_pow, show ((P.natAbs ^ i : Nat) : Int) * ((Q ^ i : Nat) : Int) = (((P.natAbs : Int)) * (Q : Int)) ^ i by rw [int_mul_pow, Int.natCast_pow, Int.natCast_pow]]
    congr 1
    have hs := upZ_sgn Q P
    have hQ' : ¬ (Q : Int) < 0 := by omega
    have hQ0 : ¬ (Q : Int) = 0 := by omega
    rw [decide_eq_false hQ', decide_eq_false hQ0] at hs
    by_cases hPn : P < 0
    · rw [decide_eq_true hPn] at hs
      have h3 : upZ (Q : Int) P < 0 := of_decide_eq_true hs
      have h4 : upZ (Q : Int) P = -(Q : Int) := by omega
      have h5 : (P.natAbs : Int) = -P := by omega
      rw [h4, h5, Int.neg_mul, Int.neg_mul, Int.mul_comm]
    · rw [decide_eq_false hPn] at hs
      have h3 : ¬ upZ (Q : Int) P < 0 := of_decide_eq_false hs
      have h4 : upZ (Q : Int) P = (Q : Int) := by omega
      have h5 : (P.natAbs : Int) = P := by omega
      rw [h4, h5, Int.mul_comm]
theorem pow_neg_none {Q i : Nat} (hi : 0 < i) : twoT 42 0 Q (-(i : Int)) 1 64 = (0, 1, 22) := by
 have hv : twoT 42 0 Q (-(i : Int)) 1 64 = lim3 64 (powT 0 Q (-(i : Int)) 1 64) := by
  unfold twoT
  rw [show cmpK 42 = false from rfl, show logK 42 = false from rfl, show numK 42 = true from rfl, numT_42]
  rfl
 rw [hv]
 unfold powT
 rw [if_pos (.inr ⟨rfl, by omega⟩)]
 rfl
theorem pow_one_by {A B : Int} {C D : Nat} (h : A * B = (C : Int) * (D : Nat)) : cmpZ (tmP A C B D * ((1 : Nat) : Int)) (1 * (tmQ A C B D : Nat)) = 0 := by
 refine cmpZ_eq ?_
 unfold tmP tmQ
 have h' : A * B = ((C * D : Nat) : Int) := by rw [h, Int.natCast_mul]
 have hc := lo_cross (A * B) (C * D)
 rw [Int.one_mul, show loP (A * B) (C * D) * ((1 : Nat) : Int) = loP (A * B) (C * D) from Int.mul_one _]
 by_cases h0 : C * D = 0
 · rw [h', h0]
   unfold loP loQ sgn
   simp
 · rw [h'] at hc ⊢
   have hc' : loP ((C * D : Nat) : Int) (C * D) * ((C * D : Nat) : Int) = (loQ ((C * D : Nat) : Int) (C * D) : Int) * ((C * D : Nat) : Int) := by rw [hc, Int.mul_comm]
   exact Int.eq_of_mul_eq_mul_right (by omega) hc'
theorem small8 {N n : Nat} (h : dl N <= 8) (hn : n <= 49) : N ^ n < 4294967296 ^ 64 := by
 have h1 : N <= 10 ^ 8 := Nat.le_of_lt (Nat.lt_of_lt_of_le (dl_lt N) (Nat.pow_le_pow_right (by omega) h))
 refine Nat.lt_of_le_of_lt (Nat.pow_le_pow_left h1 n) (Nat.lt_of_le_of_lt (Nat.pow_le_pow_right (by decide) hn) ?_)
 decide +kernel
theorem dl8 {N n : Nat} (h : dl N <= 8) (hn : n <= 7) : dl (N ^ n) <= 60 := by
 have h1 : N < 10 ^ 8 := Nat.lt_of_lt_of_le (dl_lt N) (Nat.pow_le_pow_right (by omega) h)
 refine Nat.le_trans (dl_le _ 57 (by omega) ?_) (by omega)
 refine Nat.lt_of_le_of_lt (Nat.pow_le_pow_left (Nat.le_of_lt h1) n) (Nat.lt_of_le_of_lt (Nat.pow_le_pow_right (by decide) hn) ?_)
 decide +kernel
theorem pow_facts {P : Int} {Q i k : Nat} (hQ : 0 < Q) (hg : Nat.gcd P.natAbs Q = 1) (dP : dl P.natAbs <= 8) (dQ : dl Q <= 8) (hi : i <= 7) (hk : k <= 7) :
    ∃ (U1 : Int) (V1 : Nat) (U2 : Int) (V2 : Nat) (U3 : Int) (V3 : Nat) (U4 : Int) (V4 : Nat) (U6 : Int) (V6 : Nat) (E6 : Int),
     twoT 42 P Q (i : Int) 1 64 = (U1, V1, 0) /\ twoT 42 P Q (k : Int) 1 64 = (U2, V2, 0) /\ twoT 42 P Q ((i : Int) + (k : Int)) 1 64 = (U3, V3, 0) /\ twoT 42 U1 V1 (k : Int) 1 64 = (U4, V4, 0) /\ twoT 42 P Q ((i : Int) * (k : Int)) 1 64 = (U4, V4, 0) /\ twoT 42 P Q (-(i : Int)) 1 64 = (U6, V6, E6) /\
     cmpZ (tmP U1 V1 U2 V2 * ((V3 : Nat) : Int)) (U3 * (tmQ U1 V1 U2 V2 : Nat)) = 0 /\ (0 < V1 /\ 0 < V2 /\ 0 < V3 /\ 0 < V4 /\ 0 < V6) /\
     (U1.natAbs < 4294967296 ^ 64 /\ V1 < 4294967296 ^ 64 /\ U2.natAbs < 4294967296 ^ 64 /\ V2 < 4294967296 ^ 64 /\ U3.natAbs < 4294967296 ^ 64 /\ V3 < 4294967296 ^ 64 /\ U4.natAbs < 4294967296 ^ 64 /\ V4 < 4294967296 ^ 64) /\ (dl U1.natAbs <= 60 /\ dl V1 <= 60) /\
     ((P = 0 /\ 0 < i /\ E6 = 22) ∨ (¬ (P = 0 /\ 0 < i) /\ E6 = 0 /\ U6.natAbs < 4294967296 ^ 64 /\ V6 < 4294967296 ^ 64 /\ cmpZ (tmP U6 V6 U1 V1 * ((1 : Nat) : Int)) (1 * (tmQ U6 V6 U1 V1 : Nat)) = 0)) := by
 have hik : i * k <= 49 := Nat.mul_le_mul hi hk
 have b : ∀ n, n <= 49 -> P.natAbs ^ n < 4294967296 ^ 64 /\ Q ^ n < 4294967296 ^ 64 := fun n hn => ⟨small8 dP hn, small8 dQ hn⟩
 have c : ∀ n, n <= 49 -> (P ^ n).natAbs < 4294967296 ^ 64 /\ Q ^ n < 4294967296 ^ 64 := fun n hn => ⟨by rw [Int.natAbs_pow]; exact small8 dP hn, small8 dQ hn⟩
 have e1 := pow_ok (by omega) (b i (by omega)).1 (b i (by omega)).2
 have e2 := pow_ok (by omega) (b k (by omega)).1 (b k (by omega)).2
 have e3 := pow_ok (by omega) (b (i + k) (by omega)).1 (b (i + k) (by omega)).2
 have e5 := pow_ok (by omega) (b (i * k) hik).1 (b (i * k) hik).2
 have e4 : twoT 42 (P ^ i) (Q ^ i) (k : Int) 1 64 = (P ^ (i * k), Q ^ (i * k), 0) := by
  have := pow_ok (P := P ^ i) (Q := Q ^ i) (n := k) (by omega) (by rw [Int.natAbs_pow, ← Nat.pow_mul]; exact (b (i * k) hik).1) (by rw [← Nat.pow_mul]; exact (b (i * k) hik).2)
  rw [← int_pow_mul, ← Nat.pow_mul] at this
  exact this
 rw [Int.natCast_add] at e3
 rw [Int.natCast_mul] at e5
 have hd : dl (P ^ i).natAbs <= 60 /\ dl (Q ^ i) <= 60 := ⟨by rw [Int.natAbs_pow]; exact dl8 dP hi, dl8 dQ hi⟩
 by_cases hz : P = 0 /\ 0 < i
 · obtain ⟨rfl, h0⟩ := hz
   exact ⟨_, _, _, _, _, _, _, _, _, _, _, e1, e2, e3, e4, e5, pow_neg_none h0, pow_sum _ _ _ _, ⟨Nat.pow_pos hQ, Nat.pow_pos hQ, Nat.pow_pos hQ, Nat.pow_pos hQ, Nat.one_pos⟩, ⟨(c i (by omega)).1, (c i (by omega)).2, (c k (by omega)).1, (c k (by omega)).2, (c (i + k) (by omega)).1, (c (i + k) (by omega)).2, (c (i * k) hik).1, (c (i * k) hik).2⟩, hd, .inl ⟨rfl, h0, rfl⟩⟩
 · obtain ⟨U, V, e6, h1, h2, h3, h4⟩ := pow_neg_val (P := P) (Q := Q) (i := i) (by omega) hQ hg hi (b i (by omega)).1 (b i (by omega)).2
   exact ⟨_, _, _, _, _, _, _, _, _, _, _, e1, e2, e3, e4, e5, e6, pow_sum _ _ _ _, ⟨Nat.pow_pos hQ, Nat.pow_pos hQ, Nat.pow_pos hQ, Nat.pow_pos hQ, h2⟩, ⟨(c i (by omega)).1, (c i (by omega)).2, (c k (by omega)).1, (c k (by omega)).2, (c (i + k) (by omega)).1, (c (i + k) (by omega)).2, (c (i * k) hik).1, (c (i * k) hik).2⟩, hd, .inr ⟨hz, rfl, h3, h4, pow_one_by h1⟩⟩
end Go.Proofs.YtpdcdebnkbnogaaGreatDoor
namespace Go.Proofs.YtpdcdebnkbnogaaGreatDoor
open Go.ChangeShapes Go.WideShapes Go.ChangeAt Go.RowKit Go.WideMaps Go.WideElems Go.Deep
theorem cellsNum : Tryz.prog.cellsOf 46 = 3 := by kernel_rfl
theorem cellsBool : Tryz.prog.cellsOf 4 = 1 := by kernel_rfl
theorem cellsStr : Tryz.prog.cellsOf 9 = 1 := by kernel_rfl
theorem open_num {H : Type} {enc : TypeId × Value -> H} {W : World} {r : Reach} {b0 : Nat} {sp : Nat -> Bool} {v0 : Value} {d0 : DataW H} {p0 : List MemPlace}
    (hv : Value.okWide Tryz.prog W r b0 46 v0) (h0 : DataW.Trod enc Tryz.prog W 0 sp true 46 v0 d0 p0) :
    ∃ (b : Bool) (s t : ByteArray), v0 = .agg #[.bool b, .string s, .string t] /\ d0 = .agg [.lit (.bool b), .lit (.string s.data.toList), .lit (.string t.data.toList)] /\ p0 = [] /\ s.size <= maxLen /\ t.size <= maxLen := by
 obtain ⟨cs, rfl, hsz⟩ := okWide_struct Tryz.underlying46 hv
 rw [cellsNum] at hsz
 obtain ⟨l⟩ := cs
 match l, hsz with
 | [c0, c1, c2], _ =>
 obtain ⟨fuel, hf⟩ := h0
 obtain ⟨y0, y1, y2, m, hx, _, hy0, hy1, hy2⟩ := trod_struct3 Tryz.underlying46 hf
 obtain ⟨b, e0, rfl⟩ := DataW.trod_bool Tryz.underlying4 hy0
 obtain ⟨s, e1, rfl, hs⟩ := DataW.trod_string Tryz.underlying9 hy1
 obtain ⟨t, e2, rfl, ht⟩ := DataW.trod_string Tryz.underlying9 hy2
 simp [Value.cells, cellsBool] at e0
 simp [Value.cells, cellsStr] at e1 e2
 subst e0 e1 e2
 simp only [Prod.mk.injEq] at hx
 obtain ⟨rfl, rfl⟩ := hx
 exact ⟨b, s, t, rfl, rfl, rfl, hs, ht⟩
theorem shut_num {H : Type} {enc : TypeId × Value -> H} {W : World} {sp : Nat -> Bool} {b : Bool} {s t : ByteArray} (hs : s.size <= maxLen) (ht : t.size <= maxLen) :
    DataW.Trod enc Tryz.prog W 0 sp true 46 (.agg #[.bool b, .string s, .string t]) (.agg [.lit (.bool b), .lit (.string s.data.toList), .lit (.string t.data.toList)]) [] :=
 ⟨2, by
   have f0 : DataW.trod enc Tryz.prog W 0 sp true 1 4 [.bool b] = some (.lit (.bool b), []) := by simp [DataW.trod, Tryz.underlying4]
   have f1 : DataW.trod enc Tryz.prog W 0 sp true 1 9 [.string s] = some (.lit (.string s.data.toList), []) := by simp [DataW.trod, Tryz.underlying9, hs]
   have f2 : DataW.trod enc Tryz.prog W 0 sp true 1 9 [.string t] = some (.lit (.string t.data.toList), []) := by simp [DataW.trod, Tryz.underlying9, ht]
   have := trod_struct3_mk (enc := enc) (w := W) (base := 0) (spare := sp) (held := true) (n := 1) (cs := [.bool b, .string s, .string t]) Tryz.underlying46 (by simp [cellsNum]) (by simpa [cellsBool] using f0) (by simpa [cellsStr] using f1) (by simpa [cellsStr] using f2)
   simpa [Value.cells] using this⟩
end Go.Proofs.YtpdcdebnkbnogaaGreatDoor
