/-
  Lists compared (package slices), numbers and arrays compared (package array), by contract.
-/
import Derived.Test.YtdnbpkbapmlfaaaGreatDoorAr15
import Derived.Laws.StructEq
import Derived.ChangeKeysEq
namespace Go.Proofs.YtdnbpkbapmlfaaaGreatDoor
open Go.RowKit

set_option maxHeartbeats 1600000 in
set_option maxRecDepth 100000 in
theorem eqRunes_any (a : Option Addr) (n c : Nat) (f : Nat → Int) (a2 : Option Addr) (n2 c2 : Nat) (g : Nat → Int) (w : World) (h : KRow w .i32 a n c f) (h2 : KRow w .i32 a2 n2 c2 g) :
    Calls Tryz.prog 86 #[.slice a n c, .slice a2 n2 c2] w fun e w' => SameTold (decide (n = n2) && sameB f g n) w w' e := by
  have hl := h.len
  have hl2 := h2.len
  have H1 := Lib.hid h
  have H2 := Lib.hid h2
  clear h h2
  by_cases hn : n = n2
  · subst hn
    rw [decide_eq_true rfl, Bool.true_and]
    have dn : ((n : Int) != n) = false := bne_self_eq_false _
    go_enter Tryz.func86, Tryz.ntmps86
    go_wp2
    go_loopw [13] (fun i wr => ∃ k : Nat, k ≤ n ∧ i = .int .i64 k ∧ Hid (Below w.heap.size w wr ∧ sameB f g k = true)) (fun i _ => n - (intOf i).toNat)
    case atStart => exact ⟨0, by omega, rfl, Below.refl _ _, rfl⟩
    case round =>
      obtain ⟨k, hk, rfl, hrel⟩ := hrel
      obtain ⟨hbl, hsm⟩ := hrel.out
      by_cases hlt : k < n
      · obtain ⟨b, off, rfl, hb, hc⟩ := (H1.out.below hbl).get hlt
        obtain ⟨b2, off2, rfl, hb2, hc2⟩ := (H2.out.below hbl).get hlt
        have HBL := Lib.hid hbl
        have hk0 : (0 : Int) ≤ k := by omega
        have hk1 : (k : Int) < n := by omega
        have hk2 : (k : Int) ≤ n := by omega
        by_cases hq : f k = g k
        · have hsm2 : Hid (sameB f g (k + 1) = true) := by show (sameB f g k && _) = true; rw [hsm, decide_eq_true hq]; rfl
          clear hbl hsm
          rw [← hq] at hc2
          have hne : (f k != f k) = false := bne_self_eq_false _
          generalize f k = x at *
          clear hq
          go_wp2_with fail
          go_quiet (fail)
          have HBE : Hid (Below w.heap.size w (wr.drewN nq) ∧ sameB f g (k + 1) = true) := ⟨below_drewN HBL.out nq, hsm2.out⟩
          go_wp2
          go_roundw
          case rel => exact ⟨k + 1, by omega, by go_num, HBE.out⟩
          case measure => simp [intOf]; omega
        · have hno : sameB f g n = false := by
            cases hx : sameB f g n with
            | false => rfl
            | true => exact absurd ((sameB_iff.1 hx) k hlt) hq
          have HN := Lib.hid hno
          have hne : (f k != g k) = true := bne_iff_ne.2 hq
          clear hbl hsm hno
          generalize f k = x at *
          generalize g k = y at *
          clear hq
          go_wp2_with fail
          go_quiet (fail)
          have HBE : Hid (SameTold (sameB f g n) w (wr.drewN nq) (.returned (.bool false))) := ⟨by rw [HN.out], below_drewN HBL.out nq⟩
          go_wp2
          go_ret
          exact HBE.out
      · obtain rfl : k = n := by omega
        have HE : Hid (SameTold (sameB f g k) w wr (.returned (.bool true))) := ⟨by rw [hsm], hbl⟩
        clear hbl hsm
        go_wp2
        go_ret
        exact HE.out
  · rw [decide_eq_false hn, Bool.false_and]
    have dn : ((n : Int) != n2) = true := bne_iff_ne.2 (by omega)
    have HE : Hid (SameTold false w w (.returned (.bool false))) := ⟨rfl, Below.refl _ _⟩
    clear hn
    go_enter Tryz.func86, Tryz.ntmps86
    go_wp2
    go_ret
    exact HE.out

theorem cmp_eq0 (Z Y : Int) : (cmpZ Z Y == 0) = decide (Z = Y) := by
  unfold cmpZ
  by_cases h1 : Z < Y
  · rw [if_pos h1, decide_eq_false (by omega)]; rfl
  · rw [if_neg h1]
    by_cases h2 : Z = Y
    · rw [if_pos h2, decide_eq_true h2]; rfl
    · rw [if_neg h2, decide_eq_false h2]; rfl

set_option maxHeartbeats 1600000 in
set_option maxRecDepth 100000 in
theorem equal_any (a : Option Addr) (n c : Nat) (m : Bool) (a2 : Option Addr) (n2 c2 : Nat) (P : Int) (Q : Nat) (b : Option Addr) (k l : Nat) (v : Bool) (b2 : Option Addr) (k2 l2 : Nat) (P' : Int) (Q' : Nat) (w : World)
    (h : RatAt w a n c m a2 n2 c2 P Q) (g : RatAt w b k l v b2 k2 l2 P' Q') (hQ : 0 < Q) (hQ' : 0 < Q') (K : Nat) (hK : K ≤ 400000) (h1 : P.natAbs < 4294967296 ^ K) (h2 : Q < 4294967296 ^ K) (h3 : P'.natAbs < 4294967296 ^ K) (h4 : Q' < 4294967296 ^ K) :
    Calls Tryz.prog 88 #[.agg #[.slice a n c, .bool m, .slice a2 n2 c2], .agg #[.slice b k l, .bool v, .slice b2 k2 l2]] w fun e w' => e = .returned (.bool (decide (P * Q' = P' * Q))) ∧ Below w.heap.size w w' := by
  have BB := Lib.hid (((((Bag.start w).rat h).rat g).box3 (.slice a n c) (.bool m) (.slice a2 n2 c2) 30).box3 (.slice b k l) (.bool v) (.slice b2 k2 l2) 30)
  simp only [World.size_alloc] at BB
  have CM := Lib.hid (fun wz p q => ratCmp_any a n c m a2 n2 c2 P Q b k l v b2 k2 l2 P' Q' wz p q hQ hQ' K hK h1 h2 h3 h4)
  rw [← cmp_eq0]
  generalize cmpZ (P * Q') (P' * Q) = z at *
  clear h g hQ hQ' h1 h2 h3 h4
  go_enter Tryz.func88, Tryz.ntmps88
  go_wp2_with fail
  go_at_call 131
  (with_reducible refine (CM.out _ BB.out.now.2.2.2.1 BB.out.now.2.2.1).mono ?_)
  rintro e w2 ⟨rfl, hb2⟩
  have HE := Lib.hid (BB.out.go hb2).below
  clear hb2
  go_wp2
  go_ret
  exact ⟨rfl, HE.out⟩

/-- Are the first numbers the same? -/
def rsB (fP : Nat → Int) (fQ : Nat → Nat) (gP : Nat → Int) (gQ : Nat → Nat) : Nat → Bool
  | 0 => true
  | k + 1 => rsB fP fQ gP gQ k && decide (fP k * gQ k = gP k * fQ k)
theorem rsB_iff {fP : Nat → Int} {fQ : Nat → Nat} {gP : Nat → Int} {gQ : Nat → Nat} {n : Nat} : rsB fP fQ gP gQ n = true ↔ ∀ j, j < n → fP j * gQ j = gP j * fQ j := by
  induction n with
  | zero => exact ⟨fun _ j h => absurd h (Nat.not_lt_zero _), fun _ => rfl⟩
  | succ n ih =>
    show (rsB fP fQ gP gQ n && _) = true ↔ _
    rw [Bool.and_eq_true, ih, decide_eq_true_eq]
    constructor
    · rintro ⟨h1, h2⟩ j hj
      rcases Nat.lt_or_ge j n with h | h
      · exact h1 j h
      · obtain rfl : j = n := by omega
        exact h2
    · exact fun h => ⟨fun j hj => h j (by omega), h n (by omega)⟩
/-- Numbers that can be compared. -/
def CmpOk (K : Nat) (fP : Nat → Int) (fQ : Nat → Nat) (n : Nat) : Prop := ∀ j, j < n → 0 < fQ j ∧ (fP j).natAbs < 4294967296 ^ K ∧ fQ j < 4294967296 ^ K

set_option maxHeartbeats 1600000 in
set_option maxRecDepth 100000 in
theorem eqFunc_any (a : Option Addr) (n c : Nat) (fP : Nat → Int) (fQ : Nat → Nat) (a2 : Option Addr) (n2 c2 : Nat) (gP : Nat → Int) (gQ : Nat → Nat) (w : World) (h : RRow w a n c fP fQ) (h2 : RRow w a2 n2 c2 gP gQ) (K : Nat) (hK : K ≤ 400000) (q1 : CmpOk K fP fQ n) (q2 : CmpOk K gP gQ n2) :
    Calls Tryz.prog 87 #[.slice a n c, .slice a2 n2 c2, .func (.func 88) #[] #[]] w fun e w' => SameTold (decide (n = n2) && rsB fP fQ gP gQ n) w w' e := by
  have hl := h.len
  have hl2 := h2.len
  have H1 := Lib.hid h
  have H2 := Lib.hid h2
  clear h h2
  by_cases hn : n = n2
  · subst hn
    have EQ := Lib.hid (fun a n' c m a2 n2 c2 b k l v b2 k2 l2 j (hj : j < n) wz p q => equal_any a n' c m a2 n2 c2 (fP j) (fQ j) b k l v b2 k2 l2 (gP j) (gQ j) wz p q (q1 j hj).1 (q2 j hj).1 K hK (q1 j hj).2.1 (q1 j hj).2.2 (q2 j hj).2.1 (q2 j hj).2.2)
    rw [decide_eq_true rfl, Bool.true_and]
    have dn : ((n : Int) != n) = false := bne_self_eq_false _
    clear q1 q2
    go_enter Tryz.func87, Tryz.ntmps87
    go_wp2
    go_loopw [17] (fun i wr => ∃ k : Nat, k ≤ n ∧ i = .int .i64 k ∧ Hid (Below w.heap.size w wr ∧ rsB fP fQ gP gQ k = true)) (fun i _ => n - (intOf i).toNat)
    case atStart => exact ⟨0, by omega, rfl, Below.refl _ _, rfl⟩
    case round =>
      obtain ⟨k, hk, rfl, hrel⟩ := hrel
      obtain ⟨hbl, hsm⟩ := hrel.out
      by_cases hlt : k < n
      · obtain ⟨b, off, a', n', c', m', a2', n2', c2', rfl, hlb, e1, e2, e3, hi⟩ := (H1.out.below hbl).get hlt
        obtain ⟨b2, off2, x', k', l', v', x2', k2', l2', rfl, hlb2, d1, d2, d3, hj⟩ := (H2.out.below hbl).get hlt
        have HBL := Lib.hid hbl
        have BB := Lib.hid (((((Bag.start wr).rat hi).rat hj).box3 (.slice a' n' c') (.bool m') (.slice a2' n2' c2') 30).box3 (.slice x' k' l') (.bool v') (.slice x2' k2' l2') 30)
        simp only [World.size_alloc] at BB
        have EK := Lib.hid (EQ.out a' n' c' m' a2' n2' c2' x' k' l' v' x2' k2' l2' k hlt)
        have hwr := hbl.size
        by_cases hq : fP k * gQ k = gP k * fQ k
        · have hsm2 : Hid (rsB fP fQ gP gQ (k + 1) = true) := by show (rsB fP fQ gP gQ k && _) = true; rw [hsm, decide_eq_true hq]; rfl
          rw [decide_eq_true hq] at EK
          clear hbl hsm hq hi hj
          go_wp2_with fail
          go_at_call 88
          (with_reducible refine (EK.out _ BB.out.now.2.2.2.1 BB.out.now.2.2.1).mono ?_)
          rintro e w3 ⟨rfl, hb3⟩
          have HBE : Hid (Below w.heap.size w w3 ∧ rsB fP fQ gP gQ (k + 1) = true) := ⟨HBL.out.trans ((BB.out.go hb3).below.mono hwr), hsm2.out⟩
          clear hb3
          go_wp2
          go_roundw
          case rel => exact ⟨k + 1, by omega, by go_num, HBE.out⟩
          case measure => simp [intOf]; omega
        · have hno : rsB fP fQ gP gQ n = false := by
            cases hx : rsB fP fQ gP gQ n with
            | false => rfl
            | true => exact absurd ((rsB_iff.1 hx) k hlt) hq
          have HN := Lib.hid hno
          rw [decide_eq_false hq] at EK
          clear hbl hsm hno hq hi hj
          go_wp2_with fail
          go_at_call 88
          (with_reducible refine (EK.out _ BB.out.now.2.2.2.1 BB.out.now.2.2.1).mono ?_)
          rintro e w3 ⟨rfl, hb3⟩
          have HBE : Hid (SameTold (rsB fP fQ gP gQ n) w w3 (.returned (.bool false))) := ⟨by rw [HN.out], HBL.out.trans ((BB.out.go hb3).below.mono hwr)⟩
          clear hb3
          go_wp2
          go_ret
          exact HBE.out
      · obtain rfl : k = n := by omega
        have HE : Hid (SameTold (rsB fP fQ gP gQ k) w wr (.returned (.bool true))) := ⟨by rw [hsm], hbl⟩
        clear hbl hsm
        go_wp2
        go_ret
        exact HE.out
  · rw [decide_eq_false hn, Bool.false_and]
    have dn : ((n : Int) != n2) = true := bne_iff_ne.2 (by omega)
    have HE : Hid (SameTold false w w (.returned (.bool false))) := ⟨rfl, Below.refl _ _⟩
    clear hn q1 q2
    go_enter Tryz.func87, Tryz.ntmps87
    go_wp2
    go_ret
    exact HE.out

end Go.Proofs.YtdnbpkbapmlfaaaGreatDoor
