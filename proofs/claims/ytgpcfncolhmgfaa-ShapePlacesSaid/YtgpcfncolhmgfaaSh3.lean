/-
  Package shape: slices.Equal of integers, Same; the document's layer 6 and 7: Place, by contract.
-/
import Derived.Test.YtgpcfncolhmgfaaSh1
namespace Go.Proofs.Ytgpcfncolhmgfaa
open Go.RowKit

set_option maxHeartbeats 1600000 in
set_option maxRecDepth 100000 in
theorem equalI_any (a : Option Addr) (n c : Nat) (f : Nat → Int) (a2 : Option Addr) (n2 c2 : Nat) (g : Nat → Int) (w : World) (h : KRow w .i64 a n c f) (h2 : KRow w .i64 a2 n2 c2 g) :
    Calls Try.prog 31 #[.slice a n c, .slice a2 n2 c2] w fun e w' => SameTold (decide (n = n2) && sameB f g n) w w' e := by
  have hl := h.len
  have hl2 := h2.len
  have H1 := Lib.hid h
  have H2 := Lib.hid h2
  clear h h2
  by_cases hn : n = n2
  · subst hn
    rw [decide_eq_true rfl, Bool.true_and]
    have dn : ((n : Int) != n) = false := bne_self_eq_false _
    go_enter Try.func31, Try.ntmps31
    go_wp2
    go_loopw [13] (fun i wr => ∃ k : Nat, k ≤ n ∧ i = .int .i64 k ∧ Hid (Below w.heap.size w wr ∧ sameB f g k = true)) (fun i _ => n - (intOf i).toNat)
    case atStart => exact ⟨0, by omega, rfl, Below.refl _ _, rfl⟩
    case round =>
      obtain ⟨k, hk, rfl, hrel⟩ := hrel
      obtain ⟨hbl, hsm⟩ := hrel.out
      by_cases hlt : k < n
      · obtain ⟨b, off, rfl, hb, hc⟩ := (H1.out.below hbl).get hlt
        obtain ⟨b2, off2, rfl, hb2, hc2⟩ := (H2.out.below hbl).get hlt
        have HBL := Lib.hid hbl
        have hk0 : (0 : Int) ≤ k := by omega
        have hk1 : (k : Int) < n := by omega
        have hk2 : (k : Int) ≤ n := by omega
        by_cases hq : f k = g k
        · have hsm2 : Hid (sameB f g (k + 1) = true) := by show (sameB f g k && _) = true; rw [hsm, decide_eq_true hq]; rfl
          clear hbl hsm
          rw [← hq] at hc2
          have hne : (f k != f k) = false := bne_self_eq_false _
          generalize f k = x at *
          clear hq
          go_wp2_with fail
          go_quiet (fail)
          have HBE : Hid (Below w.heap.size w (wr.drewN nq) ∧ sameB f g (k + 1) = true) := ⟨below_drewN HBL.out nq, hsm2.out⟩
          go_wp2
          go_roundw
          case rel => exact ⟨k + 1, by omega, by go_num, HBE.out⟩
          case measure => simp [intOf]; omega
        · have hno : sameB f g n = false := by
            cases hx : sameB f g n with
            | false => rfl
            | true => exact absurd ((sameB_iff.1 hx) k hlt) hq
          have HN := Lib.hid hno
          have hne : (f k != g k) = true := bne_iff_ne.2 hq
          clear hbl hsm hno
          generalize f k = x at *
          generalize g k = y at *
          clear hq
          go_wp2_with fail
          go_quiet (fail)
          have HBE : Hid (SameTold (sameB f g n) w (wr.drewN nq) (.returned (.bool false))) := ⟨by rw [HN.out], below_drewN HBL.out nq⟩
          go_wp2
          go_ret
          exact HBE.out
      · obtain rfl : k = n := by omega
        have HE : Hid (SameTold (sameB f g k) w wr (.returned (.bool true))) := ⟨by rw [hsm], hbl⟩
        clear hbl hsm
        go_wp2
        go_ret
        exact HE.out
  · rw [decide_eq_false hn, Bool.false_and]
    have dn : ((n : Int) != n2) = true := bne_iff_ne.2 (by omega)
    have HE : Hid (SameTold false w w (.returned (.bool false))) := ⟨rfl, Below.refl _ _⟩
    clear hn
    go_enter Try.func31, Try.ntmps31
    go_wp2
    go_ret
    exact HE.out

set_option maxHeartbeats 1600000 in
theorem same_any (a : Option Addr) (n c : Nat) (f : Nat → Int) (a2 : Option Addr) (n2 c2 : Nat) (g : Nat → Int) (w : World) (h : KRow w .i64 a n c f) (h2 : KRow w .i64 a2 n2 c2 g) :
    Calls Try.prog 20 #[.slice a n c, .slice a2 n2 c2] w fun e w' => SameTold (decide (n = n2) && sameB f g n) w w' e := by
  have EQ := Lib.hid (equalI_any a n c f a2 n2 c2 g w h h2)
  unfold SameTold at EQ
  unfold SameTold
  generalize (decide (n = n2) && sameB f g n) = x at *
  clear h h2
  go_enter Try.func20, Try.ntmps20
  go_wp2_with fail
  go_at_call 31
  (with_reducible refine (EQ.out).mono ?_)
  rintro e w1 ⟨rfl, hb⟩
  have HB := Lib.hid hb
  clear hb
  go_wp2
  go_ret
  exact ⟨rfl, HB.out⟩

/-- What the document's Place answers, of axes that need be no shape. -/
def rplB (f : Nat → Int) (n : Nat) (g : Nat → Int) (m : Nat) : Bool := inB f g (min n m)
def RPlTold (f : Nat → Int) (n : Nat) (g : Nat → Int) (m : Nat) (w w' : World) (e : Ending) : Prop :=
  ∃ x, e = .returned (.int .i64 x) ∧ (inB f g (min n m) = false → x = -1) ∧ (axB f (min n m) = true → inB f g (min n m) = true → x = plc f g (min n m)) ∧ Below w.heap.size w w'

set_option maxHeartbeats 1600000 in
set_option maxRecDepth 100000 in
theorem r6Place_any (a : Option Addr) (n c : Nat) (f : Nat → Int) (a2 : Option Addr) (m c2 : Nat) (g : Nat → Int) (w : World) (h : KRow w .i64 a n c f) (h2 : KRow w .i64 a2 m c2 g) :
    Calls Try.prog 13 #[.slice a n c, .slice a2 m c2] w fun e w' => RPlTold f n g m w w' e := by
  have hl := h.len
  have hl2 := h2.len
  have H1 := Lib.hid h
  have H2 := Lib.hid h2
  clear h h2
  obtain ⟨mn, hmn⟩ : ∃ q, min n m = q := ⟨_, rfl⟩
  have hm1 : mn ≤ n := by omega
  have hm2 : mn ≤ m := by omega
  unfold RPlTold
  rw [hmn]
  go_enter Try.func13, Try.ntmps13
  go_wp2
  go_loopw [5, 6] (fun t i wr => ∃ (k : Nat) (x : Int), k ≤ mn ∧ i = .int .i64 k ∧ t = .int .i64 x ∧ Hid (inB f g k = true ∧ (axB f k = true → x = plc f g k) ∧ Below w.heap.size w wr)) (fun _ i _ => mn - (intOf i).toNat)
  case atStart => exact ⟨0, 0, by omega, rfl, rfl, rfl, fun _ => rfl, Below.refl _ _⟩
  case round =>
    obtain ⟨k, x, hk, rfl, rfl, hrel⟩ := hrel
    obtain ⟨hin, hpl, hbl⟩ := hrel.out
    by_cases hlt : k < mn
    · obtain ⟨b, off, rfl, hb, hc⟩ := (H1.out.below hbl).get (show k < n by omega)
      obtain ⟨b2, off2, rfl, hb2, hc2⟩ := (H2.out.below hbl).get (show k < m by omega)
      have HBL := Lib.hid hbl
      have hk0 : (0 : Int) ≤ k := by omega
      have hk1 : (k : Int) < n := by omega
      have hk2 : (k : Int) < m := by omega
      by_cases h0 : g k < 0
      · have HN := Lib.hid (inB_no (f := f) (g := g) hlt (by omega))
        clear hbl hin hpl hrel hmn
        generalize g k = y at *
        generalize f k = x' at *
        go_wp2_with fail
        go_quiet (fail)
        have HBE := Lib.hid (below_drewN HBL.out nq)
        go_wp2
        go_ret
        exact ⟨-1, rfl, fun _ => rfl, (fun _ h => by rw [HN.out] at h; cases h), HBE.out⟩
      · by_cases h1 : f k ≤ g k
        · have HN := Lib.hid (inB_no (f := f) (g := g) hlt (by omega))
          clear hbl hin hpl hrel hmn
          generalize g k = y at *
          generalize f k = x' at *
          go_wp2_with fail
          go_quiet (fail)
          have HBE := Lib.hid (below_drewN HBL.out nq)
          go_wp2
          go_ret
          exact ⟨-1, rfl, fun _ => rfl, (fun _ h => by rw [HN.out] at h; cases h), HBE.out⟩
        · have hin' : inB f g (k + 1) = true := by unfold inB; rw [hin, decide_eq_true (show 0 ≤ g k by omega), decide_eq_true (show g k < f k by omega)]; rfl
          have hpl' : axB f (k + 1) = true → wrap64 (wrap64 (x * f k) + g k) = plc f g (k + 1) := fun hax => by
            have hpb := plc_bd hax hin'
            have hpb0 := plc_bd (ax_le (Nat.le_succ k) hax) hin
            have hit := (ax_bd hax).2.2.2
            have hrm := (ax_bd hax).2.1
            have e2 : plc f g (k + 1) = plc f g k * f k + g k := rfl
            rw [e2] at hpb
            have hm0 : 0 ≤ plc f g k * f k := Int.mul_nonneg hpb0.1 (by omega)
            rw [hpl (ax_le (Nat.le_succ k) hax), IntWalk.wrap64_in (plc f g k * f k) (by omega), IntWalk.wrap64_in (plc f g k * f k + g k) (by omega)]
            exact e2.symm
          have HN := Lib.hid (And.intro hin' hpl')
          clear hbl hin hin' hpl hpl' hrel hmn
          generalize g k = y at *
          generalize f k = x' at *
          go_wp2_with fail
          go_quiet (fail)
          go_wp2_with fail
          go_quiet (fail)
          go_wp2
          go_roundw
          case rel => exact ⟨k + 1, _, by omega, by go_num, rfl, HN.out.1, HN.out.2, below_drewN HBL.out _⟩
          case measure => simp [intOf]; omega
    · obtain rfl : k = mn := by omega
      have HE := Lib.hid (And.intro hin (And.intro hpl hbl))
      clear hbl hin hpl hrel
      by_cases hkn : (k : Int) < n
      · have hkm : ¬ (k : Int) < m := by omega
        go_wp2
        go_ret
        exact ⟨x, rfl, fun h => (by rw [HE.out.1] at h; cases h), fun h _ => HE.out.2.1 h, HE.out.2.2⟩
      · go_wp2
        go_ret
        exact ⟨x, rfl, fun h => (by rw [HE.out.1] at h; cases h), fun h _ => HE.out.2.1 h, HE.out.2.2⟩

set_option maxHeartbeats 1600000 in
set_option maxRecDepth 100000 in
theorem r7Place_any (a : Option Addr) (n c : Nat) (f : Nat → Int) (a2 : Option Addr) (m c2 : Nat) (g : Nat → Int) (w : World) (h : KRow w .i64 a n c f) (hf : In64 f n) (h2 : KRow w .i64 a2 m c2 g) :
    Calls Try.prog 18 #[.slice a n c, .slice a2 m c2] w fun e w' => PlTold f n g m w w' e := by
  have hl := h.len
  have hl2 := h2.len
  have CN := Lib.hid (fun wz (h : KRow wz .i64 a n c f) => r6Count_any a n c f wz h hf)
  unfold CntTold at CN
  have RP := Lib.hid (r6Place_any a n c f a2 m c2 g w h h2)
  unfold RPlTold at RP
  have H := Lib.hid h
  clear h h2 hf
  cases hs : shB f n with
  | false =>
    have HE := Lib.hid (fun wz (hb : Below w.heap.size w wz) => PlTold.no (f := f) (n := n) (g := g) (m := m) hb (by unfold plB; rw [hs]; rfl))
    rw [hs] at CN
    generalize cntI f n = x at *
    clear hs
    go_enter Try.func18, Try.ntmps18
    go_wp2_with fail
    go_at_call 7
    (with_reducible refine (CN.out _ H.out).mono ?_)
    rintro e w1 ⟨rfl, rfl⟩
    go_wp2_with fail
    go_at_call 13
    (with_reducible refine (RP.out).mono ?_)
    rintro e w2 ⟨z, rfl, hz1, hz2, hb⟩
    have HB := Lib.hid hb
    clear hz1 hz2 hb
    go_wp2
    go_ret2
    exact HE.out _ HB.out
  | true =>
    rw [hs] at CN
    generalize cntI f n = x at *
    have HS := Lib.hid hs
    clear hs
    by_cases hnm : m = n
    · subst hnm
      have dn : ((m : Int) != m) = false := bne_self_eq_false _
      have hmin : min m m = m := by omega
      rw [hmin] at RP
      have hax := (sh_ax HS.out).2
      have HAX := Lib.hid hax
      cases hin : inB f g m with
      | false =>
        have HE := Lib.hid (fun wz (hb : Below w.heap.size w wz) => PlTold.no (f := f) (n := m) (g := g) (m := m) hb (by unfold plB; rw [hin, Bool.and_false, Bool.and_false]))
        have RP : Hid (Calls Try.prog 13 #[.slice a m c, .slice a2 m c2] w fun e w' => e = .returned (.int .i64 (-1)) ∧ Below w.heap.size w w') :=
          Lib.hid (RP.out.mono (by rintro e w2 ⟨z, rfl, hz1, _, hb⟩; exact ⟨by rw [hz1 hin], hb⟩))
        clear hin hax hmin
        go_enter Try.func18, Try.ntmps18
        go_wp2_with fail
        go_at_call 7
        (with_reducible refine (CN.out _ H.out).mono ?_)
        rintro e w1 ⟨rfl, rfl⟩
        go_wp2_with fail
        go_at_call 13
        (with_reducible refine (RP.out).mono ?_)
        rintro e w2 ⟨rfl, hb⟩
        have HB := Lib.hid hb
        clear hb
        go_wp2
        go_ret2
        exact HE.out _ HB.out
      | true =>
        have HY := Lib.hid (fun wz (hb : Below w.heap.size w wz) => PlTold.yes (f := f) (g := g) (n := m) hb HS.out hin)
        have hp := plc_bd hax hin
        have RP : Hid (Calls Try.prog 13 #[.slice a m c, .slice a2 m c2] w fun e w' => e = .returned (.int .i64 (plc f g m)) ∧ Below w.heap.size w w') :=
          Lib.hid (RP.out.mono (by rintro e w2 ⟨z, rfl, _, hz2, hb⟩; exact ⟨by rw [hz2 hax hin], hb⟩))
        have HP := Lib.hid hp
        generalize plc f g m = p at *
        clear hin hax hmin hp
        go_enter Try.func18, Try.ntmps18
        go_wp2_with fail
        go_at_call 7
        (with_reducible refine (CN.out _ H.out).mono ?_)
        rintro e w1 ⟨rfl, rfl⟩
        go_wp2_with fail
        go_at_call 13
        (with_reducible refine (RP.out).mono ?_)
        rintro e w2 ⟨rfl, hb⟩
        have HB := Lib.hid hb
        have hp0 := HP.out.1
        clear hb
        go_wp2
        go_ret2
        exact HY.out _ HB.out
    · have dn : ((n : Int) != m) = true := bne_iff_ne.2 (by omega)
      have HE := Lib.hid (fun wz (hb : Below w.heap.size w wz) => PlTold.no (f := f) (n := n) (g := g) (m := m) hb (by unfold plB; rw [decide_eq_false (Ne.symm hnm), Bool.false_and, Bool.and_false]))
      clear hnm
      go_enter Try.func18, Try.ntmps18
      go_wp2_with fail
      go_at_call 7
      (with_reducible refine (CN.out _ H.out).mono ?_)
      rintro e w1 ⟨rfl, rfl⟩
      go_wp2_with fail
      go_at_call 13
      (with_reducible refine (RP.out).mono ?_)
      rintro e w2 ⟨z, rfl, hz1, hz2, hb⟩
      have HB := Lib.hid hb
      clear hz1 hz2 hb
      go_wp2
      go_ret2
      exact HE.out _ HB.out

end Go.Proofs.Ytgpcfncolhmgfaa
