/-
  Package nat: Of and DivMod, by contract, over the numbers that they are.
-/
import Derived.Test.YtkjdoknmmiaapaaDoorNat16
namespace Go.Proofs.YtkjdoknmmiaapaaDoor
open Go.RowKit

/-- Of, with where its limbs lie: in new memory. -/
def OfOut (w w' : World) (e : Ending) (x : Nat) : Prop := ∃ a n c f, e = .returned (.agg #[.slice a n c]) ∧ SlAt w' .u32 4294967296 a n c f ∧ val f n = x ∧ (n = 0 ∨ f (n - 1) ≠ 0) ∧ (∀ y, a = some y → w.heap.size ≤ y.block) ∧ Below w.heap.size w w'

set_option maxRecDepth 100000 in
theorem of_pl (x : Nat) (w : World) (hx : x < 18446744073709551616) : Calls Tryd.prog 29 #[.int .u64 x] w fun e w' => OfOut w w' e x := by
  obtain ⟨lo, hlo⟩ : ∃ lo, x % 4294967296 = lo := ⟨_, rfl⟩
  obtain ⟨hi, hhi⟩ : ∃ hi, x / 4294967296 = hi := ⟨_, rfl⟩
  have e1 : (x : Int) % 4294967296 = (lo : Int) := by omega
  have e2 : (x : Int) / 4294967296 = (hi : Int) := by omega
  have e3 : (hi : Int) % 4294967296 = (hi : Int) := by omega
  have s0 := Slot.new w (.slice none 0 0) 25
  have hn := heap_new (w.alloc (.cells #[.slice none 0 0] 25)) (.cells #[.int .u32 lo, .int .u32 hi] 86)
  rw [World.size_alloc] at hn
  have hsl : SlAt ((w.alloc (.cells #[.slice none 0 0] 25)).alloc (.cells #[.int .u32 lo, .int .u32 hi] 86)) .u32 4294967296 (some ⟨w.heap.size + 1, 0, none⟩) 2 2 (fun j => if j = 0 then lo else hi) := by
    refine ⟨Nat.le_refl _, by omega, fun j hj => by show (if j = 0 then lo else hi) < _; split <;> omega, .inr ⟨_, 0, rfl, by rw [World.size_alloc, World.size_alloc]; omega, Cells.of_block (cs := [.int .u32 lo, .int .u32 hi]) hn ?_⟩⟩
    intro j hj
    match j, hj with
    | 0, _ => rfl
    | 1, _ => rfl
  have hv : val (fun j => if j = 0 then lo else hi) 2 = x := by simp [val]; omega
  have HT := Lib.hid (trimmed_pl _ 2 2 _ _ hsl)
  have HV := Lib.hid hv
  have S0 := Lib.hid (s0.alloc (.cells #[.int .u32 lo, .int .u32 hi] 86))
  have HB := Lib.hid (below2 w (.cells #[.slice none 0 0] 25) (.cells #[.int .u32 lo, .int .u32 hi] 86))
  clear s0 hn hsl hv hlo hhi
  go_enter Tryd.func29, Tryd.ntmps29
  go_wp2_with fail
  go_at_call 72
  refine HT.out.mono ?_
  rintro e w4 ⟨a3, n3, c3, f3, rfl, hs3, hv3, ht3, hp3, hb4⟩
  have X3 := S0.out.below hb4
  have HEND : OfOut w (w4.setCell ⟨w.heap.size, 0, none⟩ (.slice a3 n3 c3)) (.returned (.agg #[.slice a3 n3 c3])) x :=
    ⟨a3, n3, c3, f3, rfl, hs3.wrote ((Wrote.refl w.heap.size 0 1 w4).setCell (Nat.le_refl _) (by omega) _) (by rintro y rfl; rcases hp3 with h | h <;> cases h; simp), hv3.trans HV.out, ht3, by rintro y rfl; rcases hp3 with h | h <;> cases h; simp, (HB.out.trans (hb4.mono HB.out.size)).setCell (Nat.le_refl _) _⟩
  have hc4 := X3.cell
  have hf4 := X3.free
  have HE := Lib.hid HEND
  clear hs3 hv3 ht3 hb4 hp3 X3 HEND
  go_wp2
  exact bodyPost_ret (v := .agg #[.slice a3 n3 c3]) (by simp [results, Tryd.results29, go_sem, hc4]) rfl HE.out

theorem of_any (x : Nat) (w : World) (hx : x < 18446744073709551616) : Calls Tryd.prog 29 #[.int .u64 x] w fun e w' => NatOut w w' e x :=
  (of_pl x w hx).mono fun _ _ ⟨a, n, c, f, h1, h2, h3, h4, _, h6⟩ => ⟨_, h1, ⟨a, n, c, f, rfl, h2, h3, h4⟩, h6⟩

def modz (N M : Nat) : Nat := if M = 0 then 0 else N % M
/-- Quotient, rest, and whether there is one. -/
def DivOut (w w' : World) (e : Ending) (N M : Nat) : Prop := ∃ v u, e = .returned (.tuple #[v, u, .bool (decide (M ≠ 0))]) ∧ NatIs w' v (N / M) ∧ NatIs w' u (modz N M) ∧ Below w.heap.size w w'

theorem divOut_store {w w5 : World} {k1 k2 : Nat} {a1 a2 : Option Addr} {n1 c1 n2 c2 : Nat} {f1 f2 : Nat → Nat} {N M : Nat} (hM : M ≠ 0) (hb : Below w.heap.size w w5) (hk1 : w.heap.size ≤ k1) (hk2 : w.heap.size ≤ k2)
    (hs1 : SlAt w5 .u32 4294967296 a1 n1 c1 f1) (hv1 : val f1 n1 = N / M) (ht1 : n1 = 0 ∨ f1 (n1 - 1) ≠ 0) (hd1 : ∀ x, a1 = some x → x.block ≠ k1 ∧ x.block ≠ k2)
    (hs2 : SlAt w5 .u32 4294967296 a2 n2 c2 f2) (hv2 : val f2 n2 = N % M) (ht2 : n2 = 0 ∨ f2 (n2 - 1) ≠ 0) (hd2 : ∀ x, a2 = some x → x.block ≠ k1 ∧ x.block ≠ k2) (u1 u2 : Value) :
    DivOut w ((w5.setCell ⟨k1, 0, none⟩ u1).setCell ⟨k2, 0, none⟩ u2) (.returned (.tuple #[.agg #[.slice a1 n1 c1], .agg #[.slice a2 n2 c2], .bool true])) N M := by
  have q1 : Wrote k1 0 1 w5 (w5.setCell ⟨k1, 0, none⟩ u1) := (Wrote.refl k1 0 1 w5).setCell (Nat.le_refl _) (by omega) u1
  have q2 : Wrote k2 0 1 (w5.setCell ⟨k1, 0, none⟩ u1) ((w5.setCell ⟨k1, 0, none⟩ u1).setCell ⟨k2, 0, none⟩ u2) := (Wrote.refl k2 0 1 _).setCell (Nat.le_refl _) (by omega) u2
  refine ⟨_, _, by rw [show decide (M ≠ 0) = true by simp [hM]], ⟨a1, n1, c1, f1, rfl, (hs1.wrote q1 (fun x hx => (hd1 x hx).1)).wrote q2 (fun x hx => (hd1 x hx).2), hv1, ht1⟩, ⟨a2, n2, c2, f2, rfl, (hs2.wrote q1 (fun x hx => (hd2 x hx).1)).wrote q2 (fun x hx => (hd2 x hx).2), ?_, ht2⟩, (hb.setCell hk1 u1).setCell hk2 u2⟩
  unfold modz; rw [if_neg hM]; exact hv2

theorem slot4 (w : World) (x y z z' : Value) (t : TypeId) : let W := ((((w.alloc (.cells #[x] t)).alloc (.cells #[y] t)).alloc (.cells #[z] t)).alloc (.cells #[z'] t))
    Slot W w.heap.size x ∧ Slot W (w.heap.size + 1) y ∧ Slot W (w.heap.size + 1 + 1) z ∧ Slot W (w.heap.size + 1 + 1 + 1) z' ∧ Below w.heap.size w W := by
  obtain ⟨a, b, c, d⟩ := slot3 w x y z t
  refine ⟨a.alloc _, b.alloc _, c.alloc _, ?_, d.alloc d.size _⟩
  have := Slot.new (((w.alloc (.cells #[x] t)).alloc (.cells #[y] t)).alloc (.cells #[z] t)) z' t
  rw [World.size_alloc, World.size_alloc, World.size_alloc] at this
  exact this

/-- divideBy, over a row of the call's own. -/
theorem divideBy_own (w0 : World) (b n cs N m : Nat) (w : World) (h : Own w0 w b n N) (hn : n ≤ 1000000) (hm : m < 4294967296) (hm0 : 0 < m) :
    Calls Tryd.prog 74 #[.slice (some ⟨b, 0, none⟩) n cs, .int .u32 m] w fun e w' => e = .returned (.int .u32 (N % m : Nat)) ∧ Own w0 w' b n (N / m) ∧ Wrote b 0 n w w' := by
  obtain ⟨f, h1, h2, h3⟩ := h.row
  refine (divideBy_any b 0 n cs f m w h.free h1 h2 hn hm hm0).mono ?_
  rintro e w' ⟨r, rfl, hr, hw, hf, d, hd, hb, _, hR⟩
  rw [Nat.zero_add] at hw
  unfold DivEnd at hR
  rw [h3] at hR
  have e1 : N % m = r := by rw [← hR, Nat.mul_add_mod, Nat.mod_eq_of_lt hr]
  have e2 : N / m = val d n := by rw [← hR, Nat.mul_add_div hm0, Nat.div_eq_of_lt hr, Nat.add_zero]
  exact ⟨by rw [e1], ⟨h.ge, Nat.lt_of_lt_of_le h.lt hw.size, hf, d, hd, hb, e2.symm⟩, hw⟩

set_option maxHeartbeats 1600000 in
set_option maxRecDepth 100000 in
theorem divMod_any (v u : Value) (N M : Nat) (w : World) (h : NatIs w v N) (g : NatIs w u M) (k : Nat) (hk : k ≤ 900000) (hN : N < 4294967296 ^ k) : Calls Tryd.prog 38 #[v, u] w fun e w' => DivOut w w' e N M := by
  have HZ := Lib.hid (fun w1 (hb : Below w.heap.size w w1) => zero_any u M w1 (g.below hb))
  have HC := Lib.hid (fun w1 (hb : Below w.heap.size w w1) => cmp_any v u N M w1 (h.below hb) (g.below hb))
  obtain ⟨a, n, c, f, rfl, hs, hv, ht⟩ := h
  obtain ⟨a2, n2, c2, f2, rfl, hs2, hv2, ht2⟩ := g
  have hn : n ≤ 900000 := Nat.le_trans (NatIs.short hv ht hN) hk
  obtain ⟨s1, s2, s3, s4, hB⟩ := slot4 w (.slice a n c) (.slice a2 n2 c2) (.slice none 0 0) (.slice none 0 0) 25
  have HB := Lib.hid hB
  have S1 := Lib.hid s1
  have S2 := Lib.hid s2
  have S3 := Lib.hid s3
  have S4 := Lib.hid s4
  have HS := Lib.hid hs
  have HS2 := Lib.hid hs2
  have HV := Lib.hid hv
  have HV2 := Lib.hid hv2
  have HT := Lib.hid ht
  have HT2 := Lib.hid ht2
  clear s1 s2 s3 s4 hB hs hs2 hv hv2 ht ht2 hN hk
  by_cases h0 : M = 0
  · subst h0
    go_enter Tryd.func38, Tryd.ntmps38
    go_wp2_with fail
    go_at_call 22
    refine (HZ.out _ HB.out).mono ?_
    rintro e w1 ⟨rfl, hb1⟩
    have t3 := S3.out.below hb1
    have t4 := S4.out.below hb1
    have hc3 := t3.cell
    have hf3 := t3.free
    have hc4 := t4.cell
    have hf4 := t4.free
    have HE : Hid (DivOut w ((w1.setCell ⟨w.heap.size + 1 + 1, 0, none⟩ (.slice none 0 0)).setCell ⟨w.heap.size + 1 + 1 + 1, 0, none⟩ (.slice none 0 0)) (.returned (.tuple #[.agg #[.slice none 0 0], .agg #[.slice none 0 0], .bool false])) N 0) :=
      ⟨_, _, rfl, by rw [Nat.div_zero]; exact NatIs.zero _, NatIs.zero _, ((HB.out.trans (hb1.mono HB.out.size)).setCell (by simp; omega) _).setCell (by simp; omega) _⟩
    clear hb1 t3 t4
    go_wp2
    exact bodyPost_ret (v := .tuple #[.agg #[.slice none 0 0], .agg #[.slice none 0 0], .bool false]) (by simp [results, Tryd.results38, go_sem, hc3, hc4]) rfl HE.out
  · have hM : decide (M = 0) = false := by simp [h0]
    have HM0 := Lib.hid h0
    rw [hM] at HZ
    clear h0 hM
    by_cases hlt : N < M
    · rw [cmp_neg hlt] at HC
      have HLT := Lib.hid hlt
      clear hlt
      go_enter Tryd.func38, Tryd.ntmps38
      go_wp2_with fail
      go_at_call 22
      refine (HZ.out _ HB.out).mono ?_
      rintro e w1 ⟨rfl, hb1⟩
      have T1 := Lib.hid (S1.out.below hb1)
      have T2 := Lib.hid (S2.out.below hb1)
      have T3 := Lib.hid (S3.out.below hb1)
      have T4 := Lib.hid (S4.out.below hb1)
      have HB1 := Lib.hid (HB.out.trans (hb1.mono HB.out.size))
      have hc1 := T1.out.cell
      have hc2 := T2.out.cell
      clear hb1
      go_wp2_with fail
      go_at_call 37
      refine (HC.out _ HB1.out).mono ?_
      rintro e w2 ⟨rfl, hb2⟩
      have U1 := Lib.hid (T1.out.below hb2)
      have U3 := Lib.hid (T3.out.below hb2)
      have U4 := Lib.hid (T4.out.below hb2)
      have HB2 := Lib.hid (HB1.out.trans (hb2.mono HB1.out.size))
      clear hb2 hc1 hc2
      have hc1 := U1.out.cell
      go_wp2_with fail
      go_at_call 73
      refine (copied_own a n c f n w2 (HS.out.below HB2.out) (Nat.le_refl _) (by omega)).mono ?_
      rintro e w3 ⟨b, rfl, ho, hb3⟩
      obtain ⟨q, hq, hqv⟩ := ho.slAt (by omega)
      have hbn : w.heap.size + 4 ≤ b := by have := ho.ge; have := U4.out.lt; omega
      have HQ := Lib.hid hq
      have HQV := Lib.hid hqv
      have V3 := Lib.hid (U3.out.below hb3)
      have V4 := Lib.hid (U4.out.below hb3)
      have HB3 := Lib.hid (HB2.out.trans (hb3.mono HB2.out.size))
      clear hb3 ho hq hqv hc1
      go_wp2_with fail
      go_at_call 72
      refine (trimmed_pl _ n n q w3 HQ.out).mono ?_
      rintro e w4 ⟨a3, n3, c3, f3, rfl, hs3, hv3, ht3, hp3, hb4⟩
      have t3 := V3.out.below hb4
      have t4 := V4.out.below hb4
      have hc3 := t3.cell
      have hf3 := t3.free
      have hc4 := t4.cell
      have hf4 := t4.free
      have HE := Lib.hid (divOut_store (N := N) (M := M) (k1 := w.heap.size + 1 + 1) (k2 := w.heap.size + 1 + 1 + 1) (u1 := .slice none 0 0) (u2 := .slice a3 n3 c3) HM0.out (HB3.out.trans (hb4.mono HB3.out.size)) (by omega) (by omega)
        (SlAt.nil w4 .u32 4294967296 (fun _ => 0)) (by rw [Nat.div_eq_of_lt HLT.out]; rfl) (.inl rfl) (fun x hx => by cases hx)
        hs3 (by rw [Nat.mod_eq_of_lt HLT.out, hv3, HQV.out, HV.out]) ht3 (by rintro x rfl; rcases hp3 with h | h <;> cases h; simp; omega))
      clear hs3 hv3 ht3 hb4 hp3 t3 t4
      go_wp2
      exact bodyPost_ret (v := .tuple #[.agg #[.slice none 0 0], .agg #[.slice a3 n3 c3], .bool true]) (by simp [results, Tryd.results38, go_sem, hc3, hc4]) rfl HE.out
    · obtain ⟨k, hk⟩ := cmp_pos (show M ≤ N by omega)
      rw [hk] at HC
      have hlen : n2 ≤ n := by
        rcases Nat.lt_or_ge n n2 with h | h
        · have := nat_len_lt HS.out.2.2.1 HT2.out h; rw [HV.out, HV2.out] at this; omega
        · exact h
      have hn2 : 0 < n2 := by
        rcases Nat.eq_zero_or_pos n2 with h | h
        · have h1 := HV2.out; subst h; exact absurd h1.symm HM0.out
        · exact h
      clear hk hlt
      by_cases h1 : n2 = 1
      · subst h1
        obtain ⟨b2, off2, rfl, hb2l, hg0, hgl⟩ := HS2.out.limb (show 0 < 1 by omega)
        have e0 : f2 0 = M := by have := HV2.out; simpa [val] using this
        rw [e0] at hg0 hgl
        rw [Nat.add_zero] at hg0
        have HG0 := Lib.hid hg0
        have hml : M < 4294967296 := hgl
        clear hg0 e0 hgl
        go_enter Tryd.func38, Tryd.ntmps38
        go_wp2_with fail
        go_at_call 22
        refine (HZ.out _ HB.out).mono ?_
        rintro e w1 ⟨rfl, hb1⟩
        have T1 := Lib.hid (S1.out.below hb1)
        have T2 := Lib.hid (S2.out.below hb1)
        have T3 := Lib.hid (S3.out.below hb1)
        have T4 := Lib.hid (S4.out.below hb1)
        have HB1 := Lib.hid (HB.out.trans (hb1.mono HB.out.size))
        have hc1 := T1.out.cell
        have hc2 := T2.out.cell
        clear hb1
        go_wp2_with fail
        go_at_call 37
        refine (HC.out _ HB1.out).mono ?_
        rintro e w2 ⟨rfl, hb2⟩
        have U1 := Lib.hid (T1.out.below hb2)
        have U2 := Lib.hid (T2.out.below hb2)
        have U3 := Lib.hid (T3.out.below hb2)
        have U4 := Lib.hid (T4.out.below hb2)
        have HB2 := Lib.hid (HB1.out.trans (hb2.mono HB1.out.size))
        clear hb2 hc1 hc2
        have hc1 := U1.out.cell
        have hc2 := U2.out.cell
        go_wp2_with fail
        go_at_call 73
        refine (copied_own a n c f n w2 (HS.out.below HB2.out) (Nat.le_refl _) (by omega)).mono ?_
        rintro e w3 ⟨b, rfl, ho, hb3⟩
        have hbn : w.heap.size + 4 ≤ b := by have := ho.ge; have := U4.out.lt; omega
        have HO : Hid (Own w w3 b n N) := ⟨by omega, ho.lt, ho.free, by rw [← HV.out]; exact ho.row⟩
        have X2 := Lib.hid (U2.out.below hb3)
        have X3 := Lib.hid (U3.out.below hb3)
        have X4 := Lib.hid (U4.out.below hb3)
        have HB3 := Lib.hid (HB2.out.trans (hb3.mono HB2.out.size))
        clear hb3 ho hc1 hc2
        have hc2 := X2.out.cell
        have hg0 : w3.cell? ⟨b2, off2, none⟩ = some (.int .u32 M) := by have := (HB3.out.cell (p := ⟨b2, off2, none⟩) hb2l).trans HG0.out; exact this
        go_wp2_with fail
        go_at_call 74
        refine (divideBy_own w b n n N M w3 HO.out (by omega) hml (by have := HM0.out; omega)).mono ?_
        rintro e w4 ⟨rfl, ho4, hw4⟩
        obtain ⟨q, hq, hqv⟩ := ho4.slAt (by omega)
        have HQ := Lib.hid hq
        have HQV := Lib.hid hqv
        have Y3 := Lib.hid (X3.out.wrote hw4 (by omega))
        have Y4 := Lib.hid (X4.out.wrote hw4 (by omega))
        have HB4 : Hid (Below w.heap.size w w4) := hw4.below HB3.out HO.out.ge HB3.out.size
        have hbl4 := ho4.lt
        have hmod : N % M < 4294967296 := by have := Nat.mod_lt N (show 0 < M by have := HM0.out; omega); omega
        clear hq hqv ho4 hw4 hc2 hg0
        obtain ⟨R, hR⟩ : ∃ R, N % M = R := ⟨_, rfl⟩
        rw [hR] at hmod ⊢
        have HR := Lib.hid hR
        clear hR
        go_wp2_with fail
        go_at_call 72
        refine (trimmed_pl _ n n q w4 HQ.out).mono ?_
        rintro e w5 ⟨a3, n3, c3, f3, rfl, hs3, hv3, ht3, hp3, hb5⟩
        have V3 := Lib.hid (Y3.out.below hb5)
        have V4 := Lib.hid (Y4.out.below hb5)
        have HB5 := Lib.hid (HB4.out.trans (hb5.mono HB4.out.size))
        have HS3 := Lib.hid hs3
        have HV3 := Lib.hid hv3
        have HT3 := Lib.hid ht3
        have HP3 := Lib.hid hp3
        clear hs3 hv3 ht3 hp3 hb5
        go_wp2_with fail
        go_at_call 29
        refine (of_pl R w5 (by omega)).mono ?_
        rintro e w6 ⟨a4, n4, c4, f4, rfl, hs4, hv4, ht4, HP4, hb6⟩
        have hs3 := HS3.out
        have hv3 := HV3.out
        have ht3 := HT3.out
        have hp3 := HP3.out
        have t3 := V3.out.below hb6
        have t4 := V4.out.below hb6
        have hc3 := t3.cell
        have hf3 := t3.free
        have hc4 := t4.cell
        have hf4 := t4.free
        have hs3' := hs3.below hb6
        have HE := Lib.hid (divOut_store (N := N) (M := M) (k1 := w.heap.size + 1 + 1) (k2 := w.heap.size + 1 + 1 + 1) (u1 := .slice a3 n3 c3) (u2 := .slice a4 n4 c4) HM0.out (HB5.out.trans (hb6.mono HB5.out.size)) (by omega) (by omega)
          hs3' (hv3.trans HQV.out) ht3 (by rintro x rfl; rcases hp3 with h | h <;> cases h; simp; omega)
          hs4 (by rw [HR.out]; exact hv4) ht4 (fun x hx => by have h1 := HP4 x hx; have h2 := V4.out.lt; constructor <;> omega))
        clear hs3 hs3' hv3 ht3 hs4 hv4 ht4 hb6 hp3 HP4 t3 t4
        go_wp2
        exact bodyPost_ret (v := .tuple #[.agg #[.slice a3 n3 c3], .agg #[.slice a4 n4 c4], .bool true]) (by simp [results, Tryd.results38, go_sem, hc3, hc4]) rfl HE.out
      · have h2 : 2 ≤ n2 := by omega
        have htp : 0 < f2 (n2 - 1) := by have := HT2.out; omega
        have HTP := Lib.hid htp
        have h3 : ((n2 : Int) == 1) = false := by simp; omega
        clear h1 htp
        go_enter Tryd.func38, Tryd.ntmps38
        go_wp2_with fail
        go_at_call 22
        refine (HZ.out _ HB.out).mono ?_
        rintro e w1 ⟨rfl, hb1⟩
        have T1 := Lib.hid (S1.out.below hb1)
        have T2 := Lib.hid (S2.out.below hb1)
        have T3 := Lib.hid (S3.out.below hb1)
        have T4 := Lib.hid (S4.out.below hb1)
        have HB1 := Lib.hid (HB.out.trans (hb1.mono HB.out.size))
        have hc1 := T1.out.cell
        have hc2 := T2.out.cell
        clear hb1
        go_wp2_with fail
        go_at_call 37
        refine (HC.out _ HB1.out).mono ?_
        rintro e w2 ⟨rfl, hb2⟩
        have U1 := Lib.hid (T1.out.below hb2)
        have U2 := Lib.hid (T2.out.below hb2)
        have U3 := Lib.hid (T3.out.below hb2)
        have U4 := Lib.hid (T4.out.below hb2)
        have HB2 := Lib.hid (HB1.out.trans (hb2.mono HB1.out.size))
        clear hb2 hc1 hc2
        have hc1 := U1.out.cell
        have hc2 := U2.out.cell
        go_wp2_with fail
        go_at_call 84
        refine (divideLong_any a n c f a2 n2 c2 f2 w2 (HS.out.below HB2.out) (HS2.out.below HB2.out) h2 hlen HTP.out (by omega)).mono ?_
        rintro e w3 ⟨qb, rb, rfl, hq, hr, hb3⟩
        rw [HV.out, HV2.out] at hq hr
        obtain ⟨q, hq1, hq2⟩ := hq.slAt (by omega)
        obtain ⟨r, hr1, hr2⟩ := hr.row
        have hr3 : SlAt w3 .u32 4294967296 (some ⟨rb, 0, none⟩) n2 (n + 1) r := ⟨by omega, by omega, hr2.1, .inr ⟨rb, 0, rfl, hr.lt, hr1⟩⟩
        have hqn : w.heap.size + 4 ≤ qb := by have := hq.ge; have := U4.out.lt; omega
        have hrn : w.heap.size + 4 ≤ rb := by have := hr.ge; have := U4.out.lt; omega
        have HQ := Lib.hid hq1
        have HQV := Lib.hid hq2
        have HR1 := Lib.hid hr3
        have HRV := Lib.hid hr2.2
        have X3 := Lib.hid (U3.out.below hb3)
        have X4 := Lib.hid (U4.out.below hb3)
        have HB3 := Lib.hid (HB2.out.trans (hb3.mono HB2.out.size))
        clear hb3 hq hr hq1 hq2 hr1 hr2 hr3 hc1 hc2
        go_wp2_with fail
        go_at_call 72
        refine (trimmed_pl _ _ _ q w3 HQ.out).mono ?_
        rintro e w5 ⟨a3, n3, c3, f3, rfl, hs3, hv3, ht3, hp3, hb5⟩
        have V3 := Lib.hid (X3.out.below hb5)
        have V4 := Lib.hid (X4.out.below hb5)
        have HB5 := Lib.hid (HB3.out.trans (hb5.mono HB3.out.size))
        have HR2 := Lib.hid (HR1.out.below hb5)
        have HS3 := Lib.hid hs3
        have HV3 := Lib.hid hv3
        have HT3 := Lib.hid ht3
        have HP3 := Lib.hid hp3
        clear hs3 hv3 ht3 hp3 hb5
        go_wp2_with fail
        go_at_call 72
        refine (trimmed_pl _ n2 (n + 1) r w5 HR2.out).mono ?_
        rintro e w6 ⟨a4, n4, c4, f4, rfl, hs4, hv4, ht4, HP4, hb6⟩
        have hs3 := HS3.out
        have hv3 := HV3.out
        have ht3 := HT3.out
        have hp3 := HP3.out
        have t3 := V3.out.below hb6
        have t4 := V4.out.below hb6
        have hc3 := t3.cell
        have hf3 := t3.free
        have hc4 := t4.cell
        have hf4 := t4.free
        have hs3' := hs3.below hb6
        have HE := Lib.hid (divOut_store (N := N) (M := M) (k1 := w.heap.size + 1 + 1) (k2 := w.heap.size + 1 + 1 + 1) (u1 := .slice a3 n3 c3) (u2 := .slice a4 n4 c4) HM0.out (HB5.out.trans (hb6.mono HB5.out.size)) (by omega) (by omega)
          hs3' (hv3.trans HQV.out) ht3 (by rintro x rfl; rcases hp3 with h | h <;> cases h; simp; omega)
          hs4 (hv4.trans HRV.out) ht4 (by rintro x rfl; rcases HP4 with h | h <;> cases h; simp; omega))
        clear hs3 hs3' hv3 ht3 hs4 hv4 ht4 hb6 hp3 HP4 t3 t4
        go_wp2
        exact bodyPost_ret (v := .tuple #[.agg #[.slice a3 n3 c3], .agg #[.slice a4 n4 c4], .bool true]) (by simp [results, Tryd.results38, go_sem, hc3, hc4]) rfl HE.out

end Go.Proofs.YtkjdoknmmiaapaaDoor
