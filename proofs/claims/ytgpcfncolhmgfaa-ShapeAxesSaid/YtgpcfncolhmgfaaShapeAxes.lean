/-
  Proved: the law ShapeAxes of package typeballlaw07 returns true for every two lists of integers and every two integers (statement ShapeAxesSaid), under the row's own conditions.
-/
import Derived.Test.YtgpcfncolhmgfaaSh7
import Derived.Test.YtgpcfncolhmgfaaSh8
import Derived.Test.YtgpcfncolhmgfaaOp0
import Derived.SizedLaws
namespace Go.Proofs.Ytgpcfncolhmgfaa
open Go.ChangeShapes Go.WideShapes Go.ChangeAt Go.RowKit

/-- A row of integers, nil or not, appended to a row that the call owns. -/
theorem run_append_krow {w : World} (ty : TypeId) (base : Nat) (v : Value) (n : Nat) (xs : List Value) (hown : w.ownsRow base 3 1 v n xs) (a : Option Addr) (m c : Nat) (f : Nat → Int) (h : KRow w .i64 a m c f) (hn : a = none → c = 0) (h1 : n + m ≤ 1000000) (hbase : base ≤ w.heap.size) :
    ∃ v' w', (Builtin.append_ #[22, 22] ty #[v, .slice a m c]).run Try.prog w = .ok v' w' ∧ w'.ownsRow base 3 1 v' (n + m) (xs ++ kcs .i64 f m) ∧ w.grownBy w' v.ownBlock := by
  obtain ⟨i0, hi, hz0, hz1, hz2⟩ := info_parts infoI
  cases a with
  | none =>
    have hc := hn rfl
    subst hc
    have hm : m = 0 := by have := h.1; omega
    subst hm
    refine ⟨v, w, run_append_owned_none w base _ ty _ i0 1 Try.underlying22 hi v n xs hown, ?_, ⟨rfl, rfl, rfl, Nat.le_refl _, fun _ _ _ => rfl⟩⟩
    rw [show kcs .i64 f 0 = [] from rfl, List.append_nil]
    exact hown
  | some ad =>
    obtain ⟨b9, off9, sp⟩ := ad
    have hnews : ∀ i u, (kcs .i64 f m)[i]? = some u → w.cell? ((⟨b9, off9, sp⟩ : Addr).add i) = some u := by
      rcases h.2.2 with h0 | ⟨_, _, e, _⟩
      · rw [h0]; intro i u hu; simp [kcs] at hu
      · cases e; exact krow_news h
    obtain ⟨v', w', e1, e2, e3, _⟩ := run_append_own (P := Try.prog) w base 22 ty 3 i0 _ 1 8 Try.underlying22 hi hz0 hz1 hz2 rfl (by omega) v n xs hown ⟨b9, off9, sp⟩ m c (kcs .i64 f m) (by rw [kcs_length, Nat.mul_one]) hnews (kcs_one .i64 f m) (by unfold maxLen; omega) (by omega) hbase
    exact ⟨v', w', e1, e2, e3⟩

theorem wpList_append_run_g {P : Program} (w : World) {ops : Array Oper} {rest : List Oper} {o : Oper} {a : Act} {Q : Exit → Act → World → Prop} (s x : Operand) (t tn : TypeId)
    (ho : o.op = .call { callee := .builtin .append, args := #[s, x], argTypes := #[t, tn] }) (hw : Region.wanted o (yielded ops a.tmps) = true) (vs vx : Value) (hs : a.eval s = vs) (hx : a.eval x = vx)
    (v' : Value) (w' : World) (hr : (Builtin.append_ #[t, tn] o.type #[vs, vx]).run P w = .ok v' w') (h : wpList P ops Q rest (a.put o.dst v') w') : wpList P ops Q (o :: rest) a w :=
  wpList_step fun _ hK => by rw [if_pos hw]; exact Lib.wp_append_run w s x t tn ho vs vx hs hx v' w' hr (hK _ _ h)

theorem sameB_self (f : Nat → Int) (n : Nat) : sameB f f n = true := sameB_iff.2 fun _ _ => rfl

set_option maxHeartbeats 6400000 in
set_option maxRecDepth 100000 in
theorem shapeAxes_walk (a : Option Addr) (n c : Nat) (f : Nat → Int) (i x : Int) (a2 : Option Addr) (m c2 : Nat) (g : Nat → Int) (w : World) (h : KRow w .i64 a n c f) (hf : In64 f n) (hn0 : a = none → c = 0)
    (_ : -9223372036854775808 ≤ i ∧ i ≤ 9223372036854775807) (_ : -9223372036854775808 ≤ x ∧ x ≤ 9223372036854775807) (h2 : KRow w .i64 a2 m c2 g) (_ : In64 g m) (hn2 : a2 = none → c2 = 0) :
    Calls Try.prog 5 #[.slice a n c, .int .i64 i, .int .i64 x, .slice a2 m c2] w fun e w' => e = .returned (.bool true) ∧ Below w.heap.size w w' := by
  have hl := h.len
  have hl2 := h2.len
  by_cases h60 : n ≤ 60 ∧ m ≤ 60
  · have d1 : ¬ ((60 : Int) < n) := by omega
    have d2 : ¬ ((60 : Int) < m) := by omega
    have SP := Lib.hid (fun wz (h : KRow wz .i64 a n c f) => split_any a n c f i wz h hf)
    unfold SpTold at SP
    have BB := Lib.hid ((((Bag.start w).krow h2).krow h))
    have HB0 : Hid (n ≤ 60 ∧ m ≤ 60) := Lib.hid h60
    have SA := Lib.hid (fun wz (h : KRow wz .i64 a n c f) (h2 : KRow wz .i64 a2 m c2 g) => same_any a n c f a2 m c2 g wz h h2)
    have IS := Lib.hid (fun wz (h : KRow wz .i64 a n c f) (h2 : KRow wz .i64 a2 m c2 g) => r6Same_any a n c f a2 m c2 g wz h h2)
    have SS : Hid (∀ wz, KRow wz .i64 a n c f → Calls Try.prog 20 #[.slice a n c, .slice a n c] wz fun e w' => e = .returned (.bool true) ∧ Below wz.heap.size wz w') := Lib.hid (fun wz h => (same_any a n c f a n c f wz h h).mono (by
      rintro e w' ⟨rfl, hb⟩
      rw [decide_eq_true rfl, sameB_self]
      exact ⟨rfl, hb⟩))
    have IQ : Hid (∀ (wz : World) (n3 : Nat) (a3 a4 : Option Addr) (c3 c4 : Nat) (f3 f4 : Nat → Int), KRow wz .i64 a3 n3 c3 f3 → KRow wz .i64 a4 n3 c4 f4 → (∀ j, j < n3 → f3 j = f4 j) → Calls Try.prog 14 #[.slice a3 n3 c3, .slice a4 n3 c4] wz fun e w' => e = .returned (.bool true) ∧ Below wz.heap.size wz w') := Lib.hid (fun wz n3 a3 a4 c3 c4 f3 f4 h3 h4 he => (r6Same_any a3 n3 c3 f3 a4 n3 c4 f4 wz h3 h4).mono (by
      rintro e w' ⟨rfl, hb⟩
      rw [decide_eq_true rfl, sameB_iff.2 he]
      exact ⟨rfl, hb⟩))
    have JN : Hid (∀ (wz : World) (g3 : Nat) (t : TypeId), KRow wz .i64 a n c f → KRow wz .i64 a2 m c2 g → Row wz g3 t #[.slice a n c, .slice a2 m c2, .slice a n c] → Calls Try.prog 21 #[.slice (some ⟨g3, 0, none⟩) 3 3] wz fun e w' => (∃ a' c', e = .returned (.slice a' (n + m + n) c') ∧ KRow w' .i64 a' (n + m + n) c' (app (app f n g) (n + m) f)) ∧ Below wz.heap.size wz w') := Lib.hid (fun wz g3 t h h2 hr => by
      have hL := LRow.three hr h h2 h hn0 hn2 hn0
      have ht : tot (fun j => if j = 0 then n else if j = 1 then m else n) 3 = n + m + n := by show 0 + n + m + n = n + m + n; omega
      have := join_any _ 3 3 _ _ _ _ wz hL (by omega) (by rw [ht]; omega)
      rw [ht] at this
      refine this.mono ?_
      rintro e w' ⟨a', c', rfl, hk, hb⟩
      refine ⟨⟨a', c', rfl, hk.congr (fun j hj => ?_)⟩, hb⟩
      show app (app (app (fun _ => 0) 0 f) (0 + n) g) (0 + n + m) f j = app (app f n g) (n + m) f j
      unfold app
      rw [Nat.zero_add]
      by_cases e1 : j < n + m
      · rw [if_pos e1, if_pos e1]
        by_cases e2 : j < n
        · rw [if_pos e2, if_pos e2, if_neg (by omega)]; rfl
        · rw [if_neg e2, if_neg e2]
      · rw [if_neg e1, if_neg e1])
    have J0 : Hid (∀ wz : World, Calls Try.prog 21 #[.slice none 0 0] wz fun e w' => (∃ a' c', e = .returned (.slice a' 0 c')) ∧ Below wz.heap.size wz w') := Lib.hid (fun wz => by
      have := join_any none 0 0 (fun _ => none) (fun _ => 0) (fun _ => 0) (fun _ _ => 0) wz ⟨Nat.le_refl _, Nat.zero_le _, .inl rfl⟩ (by omega) (by show 0 ≤ _; omega)
      refine this.mono ?_
      rintro e w' ⟨a', c', rfl, _, hb⟩
      exact ⟨⟨a', c', rfl⟩, hb⟩)
    have AP := Lib.hid (fun (wz : World) ty base v n3 xs hown a3 m3 c3 f3 h3 hn3 hz hbase => run_append_krow (w := wz) ty base v n3 xs hown a3 m3 c3 f3 h3 hn3 hz hbase)
    have HN0 := Lib.hid hn0
    have HN2 := Lib.hid hn2
    have WI := Lib.hid (fun wz (h : KRow wz .i64 a n c f) => with_any a n c f i x wz h (by omega))
    have RW := Lib.hid (fun wz (h : KRow wz .i64 a n c f) => r7With_any a n c f i x wz h (by omega))
    have WO := Lib.hid (fun wz (h : KRow wz .i64 a n c f) => without_any a n c f i wz h (by omega))
    have RO := Lib.hid (fun wz (h : KRow wz .i64 a n c f) => r7Without_any a n c f i wz h (by omega))
    have CN := Lib.hid (fun wz (h : KRow wz .i64 a n c f) => r6Count_any a n c f wz h hf)
    have AW := Lib.hid (fun wz => awake7_any wz)
    unfold SameTold at SA IS
    unfold CntTold at CN
    obtain ⟨bq, hb⟩ : ∃ b, (decide (n = m) && sameB f g n) = b := ⟨_, rfl⟩
    rw [hb] at SA IS
    clear hb
    have ebb : (bq != bq) = false := by cases bq <;> rfl
    generalize woN n i = n7 at *
    generalize woF f n i = f7 at *
    generalize wiF f i x = f6 at *
    have HKL := Lib.hid (fun wz (hk : KRow wz .i64 a n c f) => hk)

    cases hs : shB f n with
    | true =>
      rw [hs] at CN
      generalize cntI f n = cn at *
      by_cases hin : 0 ≤ i ∧ i < n
      · obtain ⟨h0, h1⟩ := hin
        obtain ⟨k, rfl⟩ : ∃ k : Nat, i = k := ⟨i.toNat, by omega⟩
        have hk : k < n := by omega
        have hspb : spB f n k = true := by unfold spB; rw [hs, decide_eq_true (show (0 : Int) ≤ k by omega), decide_eq_true (show (k : Int) < n by omega)]; rfl
        rw [hspb, if_pos rfl, if_pos rfl, if_pos rfl, show ((k : Nat) : Int).toNat = k from rfl] at SP
        obtain ⟨b, off, rfl, hbb, hcc⟩ := h.get hk
        obtain ⟨h8, hax⟩ := sh_ax hs
        have hcm := h.2.1
        unfold maxLen at hcm
        have HC : Hid (∀ wz, KRow wz .i64 (some ⟨b, off, none⟩) n c f → wz.cell? ⟨b, off + k, none⟩ = some (.int .i64 (f k))) := Lib.hid (fun wz h => by
          obtain ⟨b', off', e', _, hc'⟩ := h.get hk
          cases e'
          exact hc')
        have P1 : Hid (∀ wz, KRow wz .i64 (some ⟨b, off, none⟩) n c f → Calls Try.prog 26 #[.slice (some ⟨b, off, none⟩) k c] wz fun e w' => e = .returned (.int .i64 (itm f k)) ∧ wz = w') := Lib.hid (fun wz h => r7Product_any _ _ _ _ wz (h.take (by omega)) (ax_le (by omega) hax))
        have P3 : Hid (∀ (wz : World) (ad : Option Addr) (n9 c9 : Nat), n9 = n - (k + 1) → n9 ≤ c9 → c9 ≤ c → (ad = some ⟨b, off + (k + 1), none⟩ ∧ c9 = c - (k + 1) ∨ n9 = 0) → KRow wz .i64 (some ⟨b, off, none⟩) n c f → Calls Try.prog 26 #[.slice ad n9 c9] wz fun e w' => e = .returned (.int .i64 (itm (shf f (k + 1)) (n - (k + 1)))) ∧ wz = w') := Lib.hid (fun wz ad n9 c9 hn9 hc1 hc2 had h => by
          subst hn9
          refine r7Product_any _ _ _ _ wz ?_ (ax_shf (k + 1) hax _ (by omega))
          rcases had with ⟨rfl, rfl⟩ | h0
          · exact h.from (show k + 1 ≤ n by omega)
          · rw [h0]; exact KRow.nought _ _ _ _ (by unfold maxLen; omega) _)
        have hw1 := IntWalk.i64_in ((k : Int) + 1) (by omega)
        have d3 : ¬ ((c : Int) < k) := by omega
        have d4 : (0 : Int) ≤ k := by omega
        have d5 : ¬ ((n : Int) < (k : Int) + 1) := by omega
        have d6 : (0 : Int) ≤ (k : Int) + 1 := by omega
        have d7 : ¬ ((k : Int) < 0) := by omega
        have d8 : ¬ ((n : Int) ≤ k) := by omega
        have d9 : (k : Int) < n := by omega
        have hg9 : ((k : Int) + 1).toNat = k + 1 := by omega
        generalize itm f k = x1 at *
        generalize itm (shf f (k + 1)) (n - (k + 1)) = x3 at *
        generalize f k = x2 at *
        have e1 : (x1 == x1) = true := beq_self_eq_true x1
        have e2 : (x2 == x2) = true := beq_self_eq_true x2
        have e3 : (x3 == x3) = true := beq_self_eq_true x3
        by_cases hck : c = k + 1
        · subst hck
          obtain rfl : n = k + 1 := by omega
          have P2 := Lib.hid (fun wz h => P3.out wz (some ⟨b, off, none⟩) 0 0 (by omega) (by omega) (by omega) (.inr rfl) h)
          clear h h2 hf h60
          clear hs hax hcc
          go_enter Try.func5, Try.ntmps5
          go_wp2_with fail
          go_at_call 19
          (with_reducible refine (SP.out _ BB.out.now.1).mono ?_)
          rintro e w1 ⟨rfl, hb1⟩
          have BB := Lib.hid (BB.out.go hb1)
          clear hb1
          go_wp2_with fail
          go_at_call 20
          (with_reducible refine (SA.out _ BB.out.now.1 BB.out.now.2.1).mono ?_)
          rintro e w2 ⟨rfl, hb1⟩
          have BB := Lib.hid (BB.out.go hb1)
          clear hb1
          go_wp2_with fail
          go_at_call 14
          (with_reducible refine (IS.out _ BB.out.now.1 BB.out.now.2.1).mono ?_)
          rintro e w3 ⟨rfl, hb1⟩
          have BB := Lib.hid (BB.out.go hb1)
          clear hb1
          go_wp2_with fail
          go_at_call 20
          (with_reducible refine (SS.out _ BB.out.now.1).mono ?_)
          rintro e w4 ⟨rfl, hb1⟩
          have BB := Lib.hid ((BB.out.go hb1).newRow #[.slice (some ⟨b, off, none⟩) (k + 1) (k + 1), .slice a2 m c2, .slice (some ⟨b, off, none⟩) (k + 1) (k + 1)] 22)
          clear hb1
          go_wp2_with fail
          go_at_call 21
          (with_reducible refine (JN.out _ _ _ BB.out.now.2.1 BB.out.now.2.2.1 BB.out.now.1).mono ?_)
          rintro e w5 ⟨⟨a5, c5, rfl, hk5⟩, hb1⟩
          have BB := Lib.hid ((BB.out.go hb1).krow hk5)
          clear hb1 hk5
          have k1 := BB.out.now.2.2.1
          have k2 := BB.out.now.2.2.2.1
          have g0 : Below w5.heap.size w5 (w5.alloc (.cells #[] 3)) := (Below.refl _ _).alloc (Nat.le_refl _) _
          have o0 := World.ownsRow_lit (e := 3) (size := 1) w5 #[] 0 (Nat.le_refl _) (Nat.zero_le _) rfl
          obtain ⟨v1, y1, r1, o1, q1⟩ := AP.out _ 22 w5.heap.size _ 0 _ o0 (some ⟨b, off, none⟩) (k + 1) (k + 1) f (k1.below g0) HN0.out (by have := HB0.out; omega) g0.size
          have g1 := g0.grown q1 g0.size (fun z hz => (o0.lt z hz).1)
          obtain ⟨v2, y2, r2, o2, q2⟩ := AP.out y1 22 w5.heap.size _ _ _ o1 a2 m c2 g (k2.below g1) HN2.out (by have := HB0.out; omega) g1.size
          have g2 := g1.grown q2 g1.size (fun z hz => (o1.lt z hz).1)
          obtain ⟨v3, y3, r3, o3, q3⟩ := AP.out y2 22 w5.heap.size _ _ _ o2 (some ⟨b, off, none⟩) (k + 1) (k + 1) f (k1.below g2) HN0.out (by have := HB0.out; omega) g2.size
          have g3 := g2.grown q3 g2.size (fun z hz => (o2.lt z hz).1)
          rw [Nat.zero_add, List.nil_append, ← kcs_app, ← kcs_app] at o3
          obtain ⟨a9, c9, rfl, k9⟩ := KRow.of_own o3
          have k5 := BB.out.now.1.below g3
          have BB := Lib.hid ((BB.out.go g3))
          have K9 := Lib.hid (And.intro k5 k9)
          clear k1 k2 g0 o0 o1 o2 o3 q1 q2 q3 g1 g2 g3 k5 k9
          go_wp2_with (first
            | (at_builtin; refine wpList_append_run_g _ (.tmp 51) (.tmp 52) 22 22 rfl rfl _ _ rfl rfl _ _ r1 ?_)
            | (at_builtin; refine wpList_append_run_g _ (.tmp 53) (.tmp 54) 22 22 rfl rfl _ _ rfl rfl _ _ r2 ?_)
            | (at_builtin; refine wpList_append_run_g _ (.tmp 55) (.tmp 56) 22 22 rfl rfl _ _ rfl rfl _ _ r3 ?_))
          go_at_call 14
          (with_reducible refine (IQ.out _ _ _ _ _ _ _ _ K9.out.1 K9.out.2 (fun _ _ => rfl)).mono ?_)
          rintro e w6 ⟨rfl, hb1⟩
          have BB := Lib.hid (BB.out.go hb1)
          clear hb1 K9 r1 r2 r3
          go_wp2_with fail
          go_at_call 21
          (with_reducible refine (J0.out _).mono ?_)
          rintro e w7 ⟨⟨a7, c7, rfl⟩, hb1⟩
          have BB := Lib.hid (BB.out.go hb1)
          clear hb1
          go_wp2_with fail
          go_at_call 22
          (with_reducible refine (WI.out _ BB.out.now.2.2.1).mono ?_)
          rintro e w8 ⟨a8, c8, rfl, hk8, hb1⟩
          have BB := Lib.hid ((BB.out.go hb1).krow hk8)
          clear hb1 hk8
          go_wp2_with fail
          go_at_call 23
          (with_reducible refine (RW.out _ BB.out.now.2.2.2.1).mono ?_)
          rintro e w10 ⟨a10, c10, rfl, hk8, hb1⟩
          have BB := Lib.hid ((BB.out.go hb1).krow hk8)
          clear hb1 hk8
          go_wp2_with fail
          go_at_call 14
          (with_reducible refine (IQ.out _ _ _ _ _ _ _ _ BB.out.now.2.1 BB.out.now.1 (fun _ _ => rfl)).mono ?_)
          rintro e w11 ⟨rfl, hb1⟩
          have BB := Lib.hid (BB.out.go hb1)
          clear hb1
          go_wp2_with fail
          go_at_call 24
          (with_reducible refine (WO.out _ BB.out.now.2.2.2.2.1).mono ?_)
          rintro e w12 ⟨a12, c12, rfl, hk8, hb1⟩
          have BB := Lib.hid ((BB.out.go hb1).krow hk8)
          clear hb1 hk8
          go_wp2_with fail
          go_at_call 25
          (with_reducible refine (RO.out _ BB.out.now.2.2.2.2.2.1).mono ?_)
          rintro e w13 ⟨a13, c13, rfl, hk8, hb1⟩
          have BB := Lib.hid ((BB.out.go hb1).krow hk8)
          clear hb1 hk8
          go_wp2_with fail
          go_at_call 14
          (with_reducible refine (IQ.out _ _ _ _ _ _ _ _ BB.out.now.2.1 BB.out.now.1 (fun _ _ => rfl)).mono ?_)
          rintro e w14 ⟨rfl, hb1⟩
          have BB := Lib.hid (BB.out.go hb1)
          clear hb1
          go_wp2_with fail
          go_at_call 7
          (with_reducible refine (CN.out _ BB.out.now.2.2.2.2.2.2.1).mono ?_)
          rintro e w15 ⟨rfl, rfl⟩
          have hcell := HC.out _ BB.out.now.2.2.2.2.2.2.1
          go_wp2_with fail
          go_at_call 26
          (with_reducible refine (P1.out _ BB.out.now.2.2.2.2.2.2.1).mono ?_)
          rintro e w16 ⟨rfl, rfl⟩
          go_wp2_with fail
          go_at_call 26
          (with_reducible refine (P2.out _ BB.out.now.2.2.2.2.2.2.1).mono ?_)
          rintro e w16 ⟨rfl, rfl⟩
          go_wp2_with fail
          go_at_call 6
          refine (AW.out _).mono ?_
          rintro e w16 ⟨rfl, hb1⟩
          have HE := Lib.hid (BB.out.go hb1).below
          clear hb1
          go_wp2
          go_ret
          exact ⟨rfl, HE.out⟩
        · have P2 := Lib.hid (fun wz h => P3.out wz _ _ _ rfl (by omega) (by omega) (.inl ⟨rfl, rfl⟩) h)
          clear h h2 hf h60
          clear hs hax hcc
          go_enter Try.func5, Try.ntmps5
          go_wp2_with fail
          go_at_call 19
          (with_reducible refine (SP.out _ BB.out.now.1).mono ?_)
          rintro e w1 ⟨rfl, hb1⟩
          have BB := Lib.hid (BB.out.go hb1)
          clear hb1
          go_wp2_with fail
          go_at_call 20
          (with_reducible refine (SA.out _ BB.out.now.1 BB.out.now.2.1).mono ?_)
          rintro e w2 ⟨rfl, hb1⟩
          have BB := Lib.hid (BB.out.go hb1)
          clear hb1
          go_wp2_with fail
          go_at_call 14
          (with_reducible refine (IS.out _ BB.out.now.1 BB.out.now.2.1).mono ?_)
          rintro e w3 ⟨rfl, hb1⟩
          have BB := Lib.hid (BB.out.go hb1)
          clear hb1
          go_wp2_with fail
          go_at_call 20
          (with_reducible refine (SS.out _ BB.out.now.1).mono ?_)
          rintro e w4 ⟨rfl, hb1⟩
          have BB := Lib.hid ((BB.out.go hb1).newRow #[.slice (some ⟨b, off, none⟩) n c, .slice a2 m c2, .slice (some ⟨b, off, none⟩) n c] 22)
          clear hb1
          go_wp2_with fail
          go_at_call 21
          (with_reducible refine (JN.out _ _ _ BB.out.now.2.1 BB.out.now.2.2.1 BB.out.now.1).mono ?_)
          rintro e w5 ⟨⟨a5, c5, rfl, hk5⟩, hb1⟩
          have BB := Lib.hid ((BB.out.go hb1).krow hk5)
          clear hb1 hk5
          have k1 := BB.out.now.2.2.1
          have k2 := BB.out.now.2.2.2.1
          have g0 : Below w5.heap.size w5 (w5.alloc (.cells #[] 3)) := (Below.refl _ _).alloc (Nat.le_refl _) _
          have o0 := World.ownsRow_lit (e := 3) (size := 1) w5 #[] 0 (Nat.le_refl _) (Nat.zero_le _) rfl
          obtain ⟨v1, y1, r1, o1, q1⟩ := AP.out _ 22 w5.heap.size _ 0 _ o0 (some ⟨b, off, none⟩) n c f (k1.below g0) HN0.out (by have := HB0.out; omega) g0.size
          have g1 := g0.grown q1 g0.size (fun z hz => (o0.lt z hz).1)
          obtain ⟨v2, y2, r2, o2, q2⟩ := AP.out y1 22 w5.heap.size _ _ _ o1 a2 m c2 g (k2.below g1) HN2.out (by have := HB0.out; omega) g1.size
          have g2 := g1.grown q2 g1.size (fun z hz => (o1.lt z hz).1)
          obtain ⟨v3, y3, r3, o3, q3⟩ := AP.out y2 22 w5.heap.size _ _ _ o2 (some ⟨b, off, none⟩) n c f (k1.below g2) HN0.out (by have := HB0.out; omega) g2.size
          have g3 := g2.grown q3 g2.size (fun z hz => (o2.lt z hz).1)
          rw [Nat.zero_add, List.nil_append, ← kcs_app, ← kcs_app] at o3
          obtain ⟨a9, c9, rfl, k9⟩ := KRow.of_own o3
          have k5 := BB.out.now.1.below g3
          have BB := Lib.hid ((BB.out.go g3))
          have K9 := Lib.hid (And.intro k5 k9)
          clear k1 k2 g0 o0 o1 o2 o3 q1 q2 q3 g1 g2 g3 k5 k9
          go_wp2_with (first
            | (at_builtin; refine wpList_append_run_g _ (.tmp 51) (.tmp 52) 22 22 rfl rfl _ _ rfl rfl _ _ r1 ?_)
            | (at_builtin; refine wpList_append_run_g _ (.tmp 53) (.tmp 54) 22 22 rfl rfl _ _ rfl rfl _ _ r2 ?_)
            | (at_builtin; refine wpList_append_run_g _ (.tmp 55) (.tmp 56) 22 22 rfl rfl _ _ rfl rfl _ _ r3 ?_))
          go_at_call 14
          (with_reducible refine (IQ.out _ _ _ _ _ _ _ _ K9.out.1 K9.out.2 (fun _ _ => rfl)).mono ?_)
          rintro e w6 ⟨rfl, hb1⟩
          have BB := Lib.hid (BB.out.go hb1)
          clear hb1 K9 r1 r2 r3
          go_wp2_with fail
          go_at_call 21
          (with_reducible refine (J0.out _).mono ?_)
          rintro e w7 ⟨⟨a7, c7, rfl⟩, hb1⟩
          have BB := Lib.hid (BB.out.go hb1)
          clear hb1
          go_wp2_with fail
          go_at_call 22
          (with_reducible refine (WI.out _ BB.out.now.2.2.1).mono ?_)
          rintro e w8 ⟨a8, c8, rfl, hk8, hb1⟩
          have BB := Lib.hid ((BB.out.go hb1).krow hk8)
          clear hb1 hk8
          go_wp2_with fail
          go_at_call 23
          (with_reducible refine (RW.out _ BB.out.now.2.2.2.1).mono ?_)
          rintro e w10 ⟨a10, c10, rfl, hk8, hb1⟩
          have BB := Lib.hid ((BB.out.go hb1).krow hk8)
          clear hb1 hk8
          go_wp2_with fail
          go_at_call 14
          (with_reducible refine (IQ.out _ _ _ _ _ _ _ _ BB.out.now.2.1 BB.out.now.1 (fun _ _ => rfl)).mono ?_)
          rintro e w11 ⟨rfl, hb1⟩
          have BB := Lib.hid (BB.out.go hb1)
          clear hb1
          go_wp2_with fail
          go_at_call 24
          (with_reducible refine (WO.out _ BB.out.now.2.2.2.2.1).mono ?_)
          rintro e w12 ⟨a12, c12, rfl, hk8, hb1⟩
          have BB := Lib.hid ((BB.out.go hb1).krow hk8)
          clear hb1 hk8
          go_wp2_with fail
          go_at_call 25
          (with_reducible refine (RO.out _ BB.out.now.2.2.2.2.2.1).mono ?_)
          rintro e w13 ⟨a13, c13, rfl, hk8, hb1⟩
          have BB := Lib.hid ((BB.out.go hb1).krow hk8)
          clear hb1 hk8
          go_wp2_with fail
          go_at_call 14
          (with_reducible refine (IQ.out _ _ _ _ _ _ _ _ BB.out.now.2.1 BB.out.now.1 (fun _ _ => rfl)).mono ?_)
          rintro e w14 ⟨rfl, hb1⟩
          have BB := Lib.hid (BB.out.go hb1)
          clear hb1
          go_wp2_with fail
          go_at_call 7
          (with_reducible refine (CN.out _ BB.out.now.2.2.2.2.2.2.1).mono ?_)
          rintro e w15 ⟨rfl, rfl⟩
          have hcell := HC.out _ BB.out.now.2.2.2.2.2.2.1
          go_wp2_with fail
          go_at_call 26
          (with_reducible refine (P1.out _ BB.out.now.2.2.2.2.2.2.1).mono ?_)
          rintro e w16 ⟨rfl, rfl⟩
          go_wp2_with fail
          go_at_call 26
          (with_reducible refine (P2.out _ BB.out.now.2.2.2.2.2.2.1).mono ?_)
          rintro e w16 ⟨rfl, rfl⟩
          go_wp2_with fail
          go_at_call 6
          refine (AW.out _).mono ?_
          rintro e w16 ⟨rfl, hb1⟩
          have HE := Lib.hid (BB.out.go hb1).below
          clear hb1
          go_wp2
          go_ret
          exact ⟨rfl, HE.out⟩
      · have hspb : spB f n i = false := by unfold spB; rw [has_no hin, Bool.and_false]
        rw [hspb, if_neg (by decide), if_neg (by decide), if_neg (by decide)] at SP
        clear h h2 hf h60 hs hspb
        by_cases h0 : i < 0
        · clear hin
          go_enter Try.func5, Try.ntmps5
          go_wp2_with fail
          go_at_call 19
          (with_reducible refine (SP.out _ BB.out.now.1).mono ?_)
          rintro e w1 ⟨rfl, hb1⟩
          have BB := Lib.hid (BB.out.go hb1)
          clear hb1
          go_wp2_with fail
          go_at_call 20
          (with_reducible refine (SA.out _ BB.out.now.1 BB.out.now.2.1).mono ?_)
          rintro e w2 ⟨rfl, hb1⟩
          have BB := Lib.hid (BB.out.go hb1)
          clear hb1
          go_wp2_with fail
          go_at_call 14
          (with_reducible refine (IS.out _ BB.out.now.1 BB.out.now.2.1).mono ?_)
          rintro e w3 ⟨rfl, hb1⟩
          have BB := Lib.hid (BB.out.go hb1)
          clear hb1
          go_wp2_with fail
          go_at_call 20
          (with_reducible refine (SS.out _ BB.out.now.1).mono ?_)
          rintro e w4 ⟨rfl, hb1⟩
          have BB := Lib.hid ((BB.out.go hb1).newRow #[.slice a n c, .slice a2 m c2, .slice a n c] 22)
          clear hb1
          go_wp2_with fail
          go_at_call 21
          (with_reducible refine (JN.out _ _ _ BB.out.now.2.1 BB.out.now.2.2.1 BB.out.now.1).mono ?_)
          rintro e w5 ⟨⟨a5, c5, rfl, hk5⟩, hb1⟩
          have BB := Lib.hid ((BB.out.go hb1).krow hk5)
          clear hb1 hk5
          have k1 := BB.out.now.2.2.1
          have k2 := BB.out.now.2.2.2.1
          have g0 : Below w5.heap.size w5 (w5.alloc (.cells #[] 3)) := (Below.refl _ _).alloc (Nat.le_refl _) _
          have o0 := World.ownsRow_lit (e := 3) (size := 1) w5 #[] 0 (Nat.le_refl _) (Nat.zero_le _) rfl
          obtain ⟨v1, y1, r1, o1, q1⟩ := AP.out _ 22 w5.heap.size _ 0 _ o0 a n c f (k1.below g0) HN0.out (by have := HB0.out; omega) g0.size
          have g1 := g0.grown q1 g0.size (fun z hz => (o0.lt z hz).1)
          obtain ⟨v2, y2, r2, o2, q2⟩ := AP.out y1 22 w5.heap.size _ _ _ o1 a2 m c2 g (k2.below g1) HN2.out (by have := HB0.out; omega) g1.size
          have g2 := g1.grown q2 g1.size (fun z hz => (o1.lt z hz).1)
          obtain ⟨v3, y3, r3, o3, q3⟩ := AP.out y2 22 w5.heap.size _ _ _ o2 a n c f (k1.below g2) HN0.out (by have := HB0.out; omega) g2.size
          have g3 := g2.grown q3 g2.size (fun z hz => (o2.lt z hz).1)
          rw [Nat.zero_add, List.nil_append, ← kcs_app, ← kcs_app] at o3
          obtain ⟨a9, c9, rfl, k9⟩ := KRow.of_own o3
          have k5 := BB.out.now.1.below g3
          have BB := Lib.hid ((BB.out.go g3))
          have K9 := Lib.hid (And.intro k5 k9)
          clear k1 k2 g0 o0 o1 o2 o3 q1 q2 q3 g1 g2 g3 k5 k9
          go_wp2_with (first
            | (at_builtin; refine wpList_append_run_g _ (.tmp 51) (.tmp 52) 22 22 rfl rfl _ _ rfl rfl _ _ r1 ?_)
            | (at_builtin; refine wpList_append_run_g _ (.tmp 53) (.tmp 54) 22 22 rfl rfl _ _ rfl rfl _ _ r2 ?_)
            | (at_builtin; refine wpList_append_run_g _ (.tmp 55) (.tmp 56) 22 22 rfl rfl _ _ rfl rfl _ _ r3 ?_))
          go_at_call 14
          (with_reducible refine (IQ.out _ _ _ _ _ _ _ _ K9.out.1 K9.out.2 (fun _ _ => rfl)).mono ?_)
          rintro e w6 ⟨rfl, hb1⟩
          have BB := Lib.hid (BB.out.go hb1)
          clear hb1 K9 r1 r2 r3
          go_wp2_with fail
          go_at_call 21
          (with_reducible refine (J0.out _).mono ?_)
          rintro e w7 ⟨⟨a7, c7, rfl⟩, hb1⟩
          have BB := Lib.hid (BB.out.go hb1)
          clear hb1
          go_wp2_with fail
          go_at_call 22
          (with_reducible refine (WI.out _ BB.out.now.2.2.1).mono ?_)
          rintro e w8 ⟨a8, c8, rfl, hk8, hb1⟩
          have BB := Lib.hid ((BB.out.go hb1).krow hk8)
          clear hb1 hk8
          go_wp2_with fail
          go_at_call 23
          (with_reducible refine (RW.out _ BB.out.now.2.2.2.1).mono ?_)
          rintro e w10 ⟨a10, c10, rfl, hk8, hb1⟩
          have BB := Lib.hid ((BB.out.go hb1).krow hk8)
          clear hb1 hk8
          go_wp2_with fail
          go_at_call 14
          (with_reducible refine (IQ.out _ _ _ _ _ _ _ _ BB.out.now.2.1 BB.out.now.1 (fun _ _ => rfl)).mono ?_)
          rintro e w11 ⟨rfl, hb1⟩
          have BB := Lib.hid (BB.out.go hb1)
          clear hb1
          go_wp2_with fail
          go_at_call 24
          (with_reducible refine (WO.out _ BB.out.now.2.2.2.2.1).mono ?_)
          rintro e w12 ⟨a12, c12, rfl, hk8, hb1⟩
          have BB := Lib.hid ((BB.out.go hb1).krow hk8)
          clear hb1 hk8
          go_wp2_with fail
          go_at_call 25
          (with_reducible refine (RO.out _ BB.out.now.2.2.2.2.2.1).mono ?_)
          rintro e w13 ⟨a13, c13, rfl, hk8, hb1⟩
          have BB := Lib.hid ((BB.out.go hb1).krow hk8)
          clear hb1 hk8
          go_wp2_with fail
          go_at_call 14
          (with_reducible refine (IQ.out _ _ _ _ _ _ _ _ BB.out.now.2.1 BB.out.now.1 (fun _ _ => rfl)).mono ?_)
          rintro e w14 ⟨rfl, hb1⟩
          have BB := Lib.hid (BB.out.go hb1)
          clear hb1
          go_wp2_with fail
          go_at_call 7
          (with_reducible refine (CN.out _ BB.out.now.2.2.2.2.2.2.1).mono ?_)
          rintro e w15 ⟨rfl, rfl⟩
          go_wp2_with fail
          go_at_call 6
          refine (AW.out _).mono ?_
          rintro e w16 ⟨rfl, hb1⟩
          have HE := Lib.hid (BB.out.go hb1).below
          clear hb1
          go_wp2
          go_ret
          exact ⟨rfl, HE.out⟩
        · have h1 : (n : Int) ≤ i := by omega
          clear hin
          go_enter Try.func5, Try.ntmps5
          go_wp2_with fail
          go_at_call 19
          (with_reducible refine (SP.out _ BB.out.now.1).mono ?_)
          rintro e w1 ⟨rfl, hb1⟩
          have BB := Lib.hid (BB.out.go hb1)
          clear hb1
          go_wp2_with fail
          go_at_call 20
          (with_reducible refine (SA.out _ BB.out.now.1 BB.out.now.2.1).mono ?_)
          rintro e w2 ⟨rfl, hb1⟩
          have BB := Lib.hid (BB.out.go hb1)
          clear hb1
          go_wp2_with fail
          go_at_call 14
          (with_reducible refine (IS.out _ BB.out.now.1 BB.out.now.2.1).mono ?_)
          rintro e w3 ⟨rfl, hb1⟩
          have BB := Lib.hid (BB.out.go hb1)
          clear hb1
          go_wp2_with fail
          go_at_call 20
          (with_reducible refine (SS.out _ BB.out.now.1).mono ?_)
          rintro e w4 ⟨rfl, hb1⟩
          have BB := Lib.hid ((BB.out.go hb1).newRow #[.slice a n c, .slice a2 m c2, .slice a n c] 22)
          clear hb1
          go_wp2_with fail
          go_at_call 21
          (with_reducible refine (JN.out _ _ _ BB.out.now.2.1 BB.out.now.2.2.1 BB.out.now.1).mono ?_)
          rintro e w5 ⟨⟨a5, c5, rfl, hk5⟩, hb1⟩
          have BB := Lib.hid ((BB.out.go hb1).krow hk5)
          clear hb1 hk5
          have k1 := BB.out.now.2.2.1
          have k2 := BB.out.now.2.2.2.1
          have g0 : Below w5.heap.size w5 (w5.alloc (.cells #[] 3)) := (Below.refl _ _).alloc (Nat.le_refl _) _
          have o0 := World.ownsRow_lit (e := 3) (size := 1) w5 #[] 0 (Nat.le_refl _) (Nat.zero_le _) rfl
          obtain ⟨v1, y1, r1, o1, q1⟩ := AP.out _ 22 w5.heap.size _ 0 _ o0 a n c f (k1.below g0) HN0.out (by have := HB0.out; omega) g0.size
          have g1 := g0.grown q1 g0.size (fun z hz => (o0.lt z hz).1)
          obtain ⟨v2, y2, r2, o2, q2⟩ := AP.out y1 22 w5.heap.size _ _ _ o1 a2 m c2 g (k2.below g1) HN2.out (by have := HB0.out; omega) g1.size
          have g2 := g1.grown q2 g1.size (fun z hz => (o1.lt z hz).1)
          obtain ⟨v3, y3, r3, o3, q3⟩ := AP.out y2 22 w5.heap.size _ _ _ o2 a n c f (k1.below g2) HN0.out (by have := HB0.out; omega) g2.size
          have g3 := g2.grown q3 g2.size (fun z hz => (o2.lt z hz).1)
          rw [Nat.zero_add, List.nil_append, ← kcs_app, ← kcs_app] at o3
          obtain ⟨a9, c9, rfl, k9⟩ := KRow.of_own o3
          have k5 := BB.out.now.1.below g3
          have BB := Lib.hid ((BB.out.go g3))
          have K9 := Lib.hid (And.intro k5 k9)
          clear k1 k2 g0 o0 o1 o2 o3 q1 q2 q3 g1 g2 g3 k5 k9
          go_wp2_with (first
            | (at_builtin; refine wpList_append_run_g _ (.tmp 51) (.tmp 52) 22 22 rfl rfl _ _ rfl rfl _ _ r1 ?_)
            | (at_builtin; refine wpList_append_run_g _ (.tmp 53) (.tmp 54) 22 22 rfl rfl _ _ rfl rfl _ _ r2 ?_)
            | (at_builtin; refine wpList_append_run_g _ (.tmp 55) (.tmp 56) 22 22 rfl rfl _ _ rfl rfl _ _ r3 ?_))
          go_at_call 14
          (with_reducible refine (IQ.out _ _ _ _ _ _ _ _ K9.out.1 K9.out.2 (fun _ _ => rfl)).mono ?_)
          rintro e w6 ⟨rfl, hb1⟩
          have BB := Lib.hid (BB.out.go hb1)
          clear hb1 K9 r1 r2 r3
          go_wp2_with fail
          go_at_call 21
          (with_reducible refine (J0.out _).mono ?_)
          rintro e w7 ⟨⟨a7, c7, rfl⟩, hb1⟩
          have BB := Lib.hid (BB.out.go hb1)
          clear hb1
          go_wp2_with fail
          go_at_call 22
          (with_reducible refine (WI.out _ BB.out.now.2.2.1).mono ?_)
          rintro e w8 ⟨a8, c8, rfl, hk8, hb1⟩
          have BB := Lib.hid ((BB.out.go hb1).krow hk8)
          clear hb1 hk8
          go_wp2_with fail
          go_at_call 23
          (with_reducible refine (RW.out _ BB.out.now.2.2.2.1).mono ?_)
          rintro e w10 ⟨a10, c10, rfl, hk8, hb1⟩
          have BB := Lib.hid ((BB.out.go hb1).krow hk8)
          clear hb1 hk8
          go_wp2_with fail
          go_at_call 14
          (with_reducible refine (IQ.out _ _ _ _ _ _ _ _ BB.out.now.2.1 BB.out.now.1 (fun _ _ => rfl)).mono ?_)
          rintro e w11 ⟨rfl, hb1⟩
          have BB := Lib.hid (BB.out.go hb1)
          clear hb1
          go_wp2_with fail
          go_at_call 24
          (with_reducible refine (WO.out _ BB.out.now.2.2.2.2.1).mono ?_)
          rintro e w12 ⟨a12, c12, rfl, hk8, hb1⟩
          have BB := Lib.hid ((BB.out.go hb1).krow hk8)
          clear hb1 hk8
          go_wp2_with fail
          go_at_call 25
          (with_reducible refine (RO.out _ BB.out.now.2.2.2.2.2.1).mono ?_)
          rintro e w13 ⟨a13, c13, rfl, hk8, hb1⟩
          have BB := Lib.hid ((BB.out.go hb1).krow hk8)
          clear hb1 hk8
          go_wp2_with fail
          go_at_call 14
          (with_reducible refine (IQ.out _ _ _ _ _ _ _ _ BB.out.now.2.1 BB.out.now.1 (fun _ _ => rfl)).mono ?_)
          rintro e w14 ⟨rfl, hb1⟩
          have BB := Lib.hid (BB.out.go hb1)
          clear hb1
          go_wp2_with fail
          go_at_call 7
          (with_reducible refine (CN.out _ BB.out.now.2.2.2.2.2.2.1).mono ?_)
          rintro e w15 ⟨rfl, rfl⟩
          go_wp2_with fail
          go_at_call 6
          refine (AW.out _).mono ?_
          rintro e w16 ⟨rfl, hb1⟩
          have HE := Lib.hid (BB.out.go hb1).below
          clear hb1
          go_wp2
          go_ret
          exact ⟨rfl, HE.out⟩
    | false =>
      have hspb : spB f n i = false := by unfold spB; rw [hs]; rfl
      rw [hspb, if_neg (by decide), if_neg (by decide), if_neg (by decide)] at SP
      rw [hs] at CN
      generalize cntI f n = cn at *
      clear h h2 hf h60 hs hspb
      go_enter Try.func5, Try.ntmps5
      go_wp2_with fail
      go_at_call 19
      (with_reducible refine (SP.out _ BB.out.now.1).mono ?_)
      rintro e w1 ⟨rfl, hb1⟩
      have BB := Lib.hid (BB.out.go hb1)
      clear hb1
      go_wp2_with fail
      go_at_call 20
      (with_reducible refine (SA.out _ BB.out.now.1 BB.out.now.2.1).mono ?_)
      rintro e w2 ⟨rfl, hb1⟩
      have BB := Lib.hid (BB.out.go hb1)
      clear hb1
      go_wp2_with fail
      go_at_call 14
      (with_reducible refine (IS.out _ BB.out.now.1 BB.out.now.2.1).mono ?_)
      rintro e w3 ⟨rfl, hb1⟩
      have BB := Lib.hid (BB.out.go hb1)
      clear hb1
      go_wp2_with fail
      go_at_call 20
      (with_reducible refine (SS.out _ BB.out.now.1).mono ?_)
      rintro e w4 ⟨rfl, hb1⟩
      have BB := Lib.hid ((BB.out.go hb1).newRow #[.slice a n c, .slice a2 m c2, .slice a n c] 22)
      clear hb1
      go_wp2_with fail
      go_at_call 21
      (with_reducible refine (JN.out _ _ _ BB.out.now.2.1 BB.out.now.2.2.1 BB.out.now.1).mono ?_)
      rintro e w5 ⟨⟨a5, c5, rfl, hk5⟩, hb1⟩
      have BB := Lib.hid ((BB.out.go hb1).krow hk5)
      clear hb1 hk5
      have k1 := BB.out.now.2.2.1
      have k2 := BB.out.now.2.2.2.1
      have g0 : Below w5.heap.size w5 (w5.alloc (.cells #[] 3)) := (Below.refl _ _).alloc (Nat.le_refl _) _
      have o0 := World.ownsRow_lit (e := 3) (size := 1) w5 #[] 0 (Nat.le_refl _) (Nat.zero_le _) rfl
      obtain ⟨v1, y1, r1, o1, q1⟩ := AP.out _ 22 w5.heap.size _ 0 _ o0 a n c f (k1.below g0) HN0.out (by have := HB0.out; omega) g0.size
      have g1 := g0.grown q1 g0.size (fun z hz => (o0.lt z hz).1)
      obtain ⟨v2, y2, r2, o2, q2⟩ := AP.out y1 22 w5.heap.size _ _ _ o1 a2 m c2 g (k2.below g1) HN2.out (by have := HB0.out; omega) g1.size
      have g2 := g1.grown q2 g1.size (fun z hz => (o1.lt z hz).1)
      obtain ⟨v3, y3, r3, o3, q3⟩ := AP.out y2 22 w5.heap.size _ _ _ o2 a n c f (k1.below g2) HN0.out (by have := HB0.out; omega) g2.size
      have g3 := g2.grown q3 g2.size (fun z hz => (o2.lt z hz).1)
      rw [Nat.zero_add, List.nil_append, ← kcs_app, ← kcs_app] at o3
      obtain ⟨a9, c9, rfl, k9⟩ := KRow.of_own o3
      have k5 := BB.out.now.1.below g3
      have BB := Lib.hid ((BB.out.go g3))
      have K9 := Lib.hid (And.intro k5 k9)
      clear k1 k2 g0 o0 o1 o2 o3 q1 q2 q3 g1 g2 g3 k5 k9
      go_wp2_with (first
        | (at_builtin; refine wpList_append_run_g _ (.tmp 51) (.tmp 52) 22 22 rfl rfl _ _ rfl rfl _ _ r1 ?_)
        | (at_builtin; refine wpList_append_run_g _ (.tmp 53) (.tmp 54) 22 22 rfl rfl _ _ rfl rfl _ _ r2 ?_)
        | (at_builtin; refine wpList_append_run_g _ (.tmp 55) (.tmp 56) 22 22 rfl rfl _ _ rfl rfl _ _ r3 ?_))
      go_at_call 14
      (with_reducible refine (IQ.out _ _ _ _ _ _ _ _ K9.out.1 K9.out.2 (fun _ _ => rfl)).mono ?_)
      rintro e w6 ⟨rfl, hb1⟩
      have BB := Lib.hid (BB.out.go hb1)
      clear hb1 K9 r1 r2 r3
      go_wp2_with fail
      go_at_call 21
      (with_reducible refine (J0.out _).mono ?_)
      rintro e w7 ⟨⟨a7, c7, rfl⟩, hb1⟩
      have BB := Lib.hid (BB.out.go hb1)
      clear hb1
      go_wp2_with fail
      go_at_call 22
      (with_reducible refine (WI.out _ BB.out.now.2.2.1).mono ?_)
      rintro e w8 ⟨a8, c8, rfl, hk8, hb1⟩
      have BB := Lib.hid ((BB.out.go hb1).krow hk8)
      clear hb1 hk8
      go_wp2_with fail
      go_at_call 23
      (with_reducible refine (RW.out _ BB.out.now.2.2.2.1).mono ?_)
      rintro e w10 ⟨a10, c10, rfl, hk8, hb1⟩
      have BB := Lib.hid ((BB.out.go hb1).krow hk8)
      clear hb1 hk8
      go_wp2_with fail
      go_at_call 14
      (with_reducible refine (IQ.out _ _ _ _ _ _ _ _ BB.out.now.2.1 BB.out.now.1 (fun _ _ => rfl)).mono ?_)
      rintro e w11 ⟨rfl, hb1⟩
      have BB := Lib.hid (BB.out.go hb1)
      clear hb1
      go_wp2_with fail
      go_at_call 24
      (with_reducible refine (WO.out _ BB.out.now.2.2.2.2.1).mono ?_)
      rintro e w12 ⟨a12, c12, rfl, hk8, hb1⟩
      have BB := Lib.hid ((BB.out.go hb1).krow hk8)
      clear hb1 hk8
      go_wp2_with fail
      go_at_call 25
      (with_reducible refine (RO.out _ BB.out.now.2.2.2.2.2.1).mono ?_)
      rintro e w13 ⟨a13, c13, rfl, hk8, hb1⟩
      have BB := Lib.hid ((BB.out.go hb1).krow hk8)
      clear hb1 hk8
      go_wp2_with fail
      go_at_call 14
      (with_reducible refine (IQ.out _ _ _ _ _ _ _ _ BB.out.now.2.1 BB.out.now.1 (fun _ _ => rfl)).mono ?_)
      rintro e w14 ⟨rfl, hb1⟩
      have BB := Lib.hid (BB.out.go hb1)
      clear hb1
      go_wp2_with fail
      go_at_call 7
      (with_reducible refine (CN.out _ BB.out.now.2.2.2.2.2.2.1).mono ?_)
      rintro e w15 ⟨rfl, rfl⟩
      go_wp2_with fail
      go_at_call 6
      refine (AW.out _).mono ?_
      rintro e w16 ⟨rfl, hb1⟩
      have HE := Lib.hid (BB.out.go hb1).below
      clear hb1
      go_wp2
      go_ret
      exact ⟨rfl, HE.out⟩
  · have AW := Lib.hid (fun wz => awake7_any wz)
    have BB := Lib.hid (Bag.start w)
    clear h h2 hf
    by_cases hn : n ≤ 60
    · have d1 : ¬ ((60 : Int) < n) := by omega
      have d2 : (60 : Int) < m := by omega
      clear h60
      go_enter Try.func5, Try.ntmps5
      go_wp2_with fail
      go_at_call 6
      refine (AW.out _).mono ?_
      rintro e w16 ⟨rfl, hb1⟩
      have HE := Lib.hid (BB.out.go hb1).below
      clear hb1
      go_wp2
      go_ret
      exact ⟨rfl, HE.out⟩
    · have d1 : (60 : Int) < n := by omega
      clear h60
      go_enter Try.func5, Try.ntmps5
      go_wp2_with fail
      go_at_call 6
      refine (AW.out _).mono ?_
      rintro e w16 ⟨rfl, hb1⟩
      have HE := Lib.hid (BB.out.go hb1).below
      clear hb1
      go_wp2
      go_ret
      exact ⟨rfl, HE.out⟩

theorem own : ownKnob Try.prog.godebug = none := by kernel_rfl
theorem laidOut : laidOutB Try.prog = true := by kernel_rfl

set_option maxHeartbeats 800000 in
set_option maxRecDepth 100000 in
theorem shapeAxes_lifted (os : Os) (started : os.Started) (H : Type) (enc : TypeId × Value → H) :
    ReturnsInHanded {} Try.checked os 5 .any (Rows.shapeAxesSpec.pre6 enc Try.prog Try.f5 Rows.shapeAxesRow.domain false) (Rows.shapeAxesSpec.post enc Try.prog Try.f5 false true false false) := by
  refine returnsInHanded_of_change_sized (C := Try.checked) own started (by kernel_rfl) Try.func5
    (ChangeSpec.witness6 (enc := enc) (C := Try.checked) false ⟨#[], #[.slice none 0 0, .int .i64 0, .int .i64 0, .slice none 0 0], []⟩ 8 (by kernel_rfl) (by kernel_rfl) (by kernel_rfl) (by kernel_rfl)) ?_
  intro W base args ds gs before hval0 hW _ _ _
  have hval : ∀ (j : Nat) t v, Try.f5.params[j]? = some t → args[j]? = some v → Value.okWide Try.prog W .any base t v := hval0
  have hW' := hW
  obtain ⟨p, q, hA0, hV, rfl, _, _⟩ := hW
  have hA : DataW.TrodAll enc Try.prog W 0 (fun _ => true) true Try.f5.params.toList args.toList ds p := hA0
  rw [Try.params5] at hA hval
  obtain ⟨v0, v1, v2, v3, d0, d1, d2, d3, p0, p1, p2, p3, rfl, rfl, rfl, h0, h1, h2, h3⟩ := trodAll_four hA
  obtain ⟨rfl, rfl⟩ := trodVars_none hV
  obtain ⟨a0, n0, c0, f0, rfl, k0, w0, z0⟩ := open_krowN Try.underlying22 Try.underlying3 (by kernel_rfl) (hval 0 22 v0 rfl rfl) h0
  obtain ⟨x1, rfl, rfl, rfl, w1⟩ := open_int Try.underlying3 (hval 1 3 v1 rfl rfl) h1
  have b1 : -9223372036854775808 ≤ x1 ∧ x1 ≤ 9223372036854775807 := by simpa [Lit.wf, IntKind.min, IntKind.max, IntKind.signed, IntKind.bits] using w1
  obtain ⟨x2, rfl, rfl, rfl, w2⟩ := open_int Try.underlying3 (hval 2 3 v2 rfl rfl) h2
  have b2 : -9223372036854775808 ≤ x2 ∧ x2 ≤ 9223372036854775807 := by simpa [Lit.wf, IntKind.min, IntKind.max, IntKind.signed, IntKind.bits] using w2
  obtain ⟨a3, n3, c3, f3, rfl, k3, w3, z3⟩ := open_krowN Try.underlying22 Try.underlying3 (by kernel_rfl) (hval 3 22 v3 rfl rfl) h3
  have hlt : ∀ y ∈ p0 ++ ([] ++ ([] ++ (p3))), y.block < W.heap.size := fun y hy => by simpa using hW'.lt y (by simpa using hy)
  simp only [List.append_nil] at hW'
  refine (shapeAxes_walk a0 n0 c0 f0 x1 x2 a3 n3 c3 f3 W k0 (in64_of w0) z0 b1 b2 k3 (in64_of w3) z3).mono fun e W' ⟨he, hb⟩ => ?_
  subst he
  exact ⟨_, rfl, _, _, _, [], _, [], hW', trodAll_mk1 (shut_bool Try.underlying4 _), trodAll_mk4 (Below.trod laidOut (by kernel_rfl) (of_decide_eq_true (by kernel_rfl)) h0 hb (fun y hy => hlt y (by simp [hy]))) (shut_int Try.underlying3 w1) (shut_int Try.underlying3 w2) (Below.trod laidOut (by kernel_rfl) (of_decide_eq_true (by kernel_rfl)) h3 hb (fun y hy => hlt y (by simp [hy]))), rfl, hb.frame _, fun h => by cases h⟩

theorem shapeAxes_holds : Rows.ShapeAxesSaid :=
  OpenClaim.holds_of_wide 5 Try.f5 rfl rfl rfl rfl rfl rfl rfl ⟨rfl, rfl, rfl, rfl, rfl⟩ rfl rfl rfl rfl rfl (by kernel_rfl) Try.func5 (by kernel_rfl)
    (of_decide_eq_true (by kernel_rfl)) (by unfold Func.isWrapper; first | (rw [if_pos (by decide +kernel)]; kernel_rfl) | (rw [if_neg (by decide +kernel)]; exact ⟨rfl, rfl⟩))
    (fun os started H enc _ => shapeAxes_lifted os started H enc)

#print axioms shapeAxes_holds
end Go.Proofs.Ytgpcfncolhmgfaa
