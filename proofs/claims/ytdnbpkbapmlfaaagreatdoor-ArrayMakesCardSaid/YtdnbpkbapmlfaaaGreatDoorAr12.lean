/-
  The document's layer 6: Runes, Same, by contract.
-/
import Derived.Test.YtdnbpkbapmlfaaaGreatDoorAr9
import Derived.Laws.StructEq
namespace Go.Proofs.YtdnbpkbapmlfaaaGreatDoor
open Go.RowKit

set_option maxHeartbeats 1600000 in
set_option maxRecDepth 100000 in
theorem r5Runes_any (a : Option Addr) (n c : Nat) (f : Nat → Int) (a2 : Option Addr) (n2 c2 : Nat) (g : Nat → Int) (w : World) (h : KRow w .i32 a n c f) (h2 : KRow w .i32 a2 n2 c2 g) :
    Calls Tryz.prog 33 #[.slice a n c, .slice a2 n2 c2] w fun e w' => SameTold (decide (n = n2) && sameB f g n) w w' e := by
  have hl := h.len
  have hl2 := h2.len
  have H1 := Lib.hid h
  have H2 := Lib.hid h2
  clear h h2
  by_cases hn : n = n2
  · subst hn
    rw [decide_eq_true rfl, Bool.true_and]
    have dn : ((n : Int) != n) = false := bne_self_eq_false _
    go_enter Tryz.func33, Tryz.ntmps33
    go_wp2
    go_loopw [5] (fun i wr => ∃ k : Nat, k ≤ n ∧ i = .int .i64 k ∧ Hid (Below w.heap.size w wr ∧ sameB f g k = true)) (fun i _ => n - (intOf i).toNat)
    case atStart => exact ⟨0, by omega, rfl, Below.refl _ _, rfl⟩
    case round =>
      obtain ⟨k, hk, rfl, hrel⟩ := hrel
      obtain ⟨hbl, hsm⟩ := hrel.out
      by_cases hlt : k < n
      · obtain ⟨b, off, rfl, hb, hc⟩ := (H1.out.below hbl).get hlt
        obtain ⟨b2, off2, rfl, hb2, hc2⟩ := (H2.out.below hbl).get hlt
        have HBL := Lib.hid hbl
        have hk0 : (0 : Int) ≤ k := by omega
        have hk1 : (k : Int) < n := by omega
        have hk2 : (k : Int) ≤ n := by omega
        by_cases hq : f k = g k
        · have hsm2 : Hid (sameB f g (k + 1) = true) := by show (sameB f g k && _) = true; rw [hsm, decide_eq_true hq]; rfl
          have hne : (f k != g k) = false := by rw [hq]; exact bne_self_eq_false _
          clear hbl hsm
          rw [← hq] at hc2
          have hne : (f k != f k) = false := bne_self_eq_false _
          generalize f k = x at *
          clear hq
          go_wp2_with fail
          go_quiet (fail)
          have HBE : Hid (Below w.heap.size w (wr.drewN nq) ∧ sameB f g (k + 1) = true) := ⟨below_drewN HBL.out nq, hsm2.out⟩
          go_wp2
          go_roundw
          case rel => exact ⟨k + 1, by omega, by go_num, HBE.out⟩
          case measure => simp [intOf]; omega
        · have hno : sameB f g n = false := by
            cases hx : sameB f g n with
            | false => rfl
            | true => exact absurd ((sameB_iff.1 hx) k hlt) hq
          have HN := Lib.hid hno
          have hne : (f k != g k) = true := bne_iff_ne.2 hq
          clear hbl hsm hno
          generalize f k = x at *
          generalize g k = y at *
          clear hq
          go_wp2_with fail
          go_quiet (fail)
          have HBE : Hid (SameTold (sameB f g n) w (wr.drewN nq) (.returned (.bool false))) := ⟨by rw [HN.out], below_drewN HBL.out nq⟩
          go_wp2
          go_ret
          exact HBE.out
      · obtain rfl : k = n := by omega
        have HE : Hid (SameTold (sameB f g k) w wr (.returned (.bool true))) := ⟨by rw [hsm], hbl⟩
        clear hbl hsm
        go_wp2
        go_ret
        exact HE.out
  · rw [decide_eq_false hn, Bool.false_and]
    have dn : ((n : Int) != n2) = true := bne_iff_ne.2 (by omega)
    have HE : Hid (SameTold false w w (.returned (.bool false))) := ⟨rfl, Below.refl _ _⟩
    clear hn
    go_enter Tryz.func33, Tryz.ntmps33
    go_wp2
    go_ret
    exact HE.out


/-- Are the first numbers alike? -/
def nsB (fB : Nat → Bool) (fS fT : Nat → ByteArray) (gB : Nat → Bool) (gS gT : Nat → ByteArray) : Nat → Bool
  | 0 => true
  | k + 1 => nsB fB fS fT gB gS gT k && (decide (fB k = gB k) && (decide (fS k = gS k) && decide (fT k = gT k)))
theorem nsB_iff {fB : Nat → Bool} {fS fT : Nat → ByteArray} {gB : Nat → Bool} {gS gT : Nat → ByteArray} {n : Nat} : nsB fB fS fT gB gS gT n = true ↔ ∀ j, j < n → fB j = gB j ∧ fS j = gS j ∧ fT j = gT j := by
  induction n with
  | zero => exact ⟨fun _ j h => absurd h (Nat.not_lt_zero _), fun _ => rfl⟩
  | succ n ih =>
    show (nsB fB fS fT gB gS gT n && _) = true ↔ _
    rw [Bool.and_eq_true, Bool.and_eq_true, Bool.and_eq_true, decide_eq_true_eq, decide_eq_true_eq, decide_eq_true_eq, ih]
    constructor
    · rintro ⟨h1, h2, h3, h4⟩ j hj
      rcases Nat.lt_or_ge j n with h | h
      · exact h1 j h
      · obtain rfl : j = n := by omega
        exact ⟨h2, h3, h4⟩
    · intro h
      exact ⟨fun j hj => h j (by omega), h n (by omega)⟩
/-- Are two plain arrays alike? -/
def plB (ch ch' : Bool) (r r' : Nat) (S S' : Nat → Int) (tn tn' : Nat) (g g' : Nat → Int) (nn nn' : Nat) (fB : Nat → Bool) (fS fT : Nat → ByteArray) (gB : Nat → Bool) (gS gT : Nat → ByteArray) : Bool :=
  decide (ch = ch') && ((decide (r = r') && sameB S S' r) && ((decide (tn = tn') && sameB g g' tn) && (decide (nn = nn') && nsB fB fS fT gB gS gT nn)))

theorem toList_ne {a b : ByteArray} (h : a ≠ b) : ¬ a.toList = b.toList := fun e => h (by rw [ByteArray.toList_eq, ByteArray.toList_eq] at e; exact ByteArray.ext (Array.toList_inj.1 e))
theorem ne3 {u1 v1 : Bool} {u2 v2 u3 v3 : ByteArray} (h : ¬ (u1 = v1 ∧ u2 = v2 ∧ u3 = v3)) : (u1 = true ∧ v1 = false) ∨ (u1 = false ∧ v1 = true) ∨ (u1 = v1 ∧ ¬ u2.toList = v2.toList) ∨ (u1 = v1 ∧ u2 = v2 ∧ ¬ u3.toList = v3.toList) := by
  cases u1 <;> cases v1
  · by_cases h2 : u2 = v2
    · exact .inr (.inr (.inr ⟨rfl, h2, toList_ne fun h3 => h ⟨rfl, h2, h3⟩⟩))
    · exact .inr (.inr (.inl ⟨rfl, toList_ne h2⟩))
  · exact .inr (.inl ⟨rfl, rfl⟩)
  · exact .inl ⟨rfl, rfl⟩
  · by_cases h2 : u2 = v2
    · exact .inr (.inr (.inr ⟨rfl, h2, toList_ne fun h3 => h ⟨rfl, h2, h3⟩⟩))
    · exact .inr (.inr (.inl ⟨rfl, toList_ne h2⟩))
theorem pl_cells {w : World} {k : Nat} {t : TypeId} {sa : Option Addr} {sn sc : Nat} {ch : Bool} {ta : Option Addr} {tn tc : Nat} {na : Option Addr} {nn nc : Nat} (h : Row w k t #[.slice sa sn sc, .bool ch, .slice ta tn tc, .slice na nn nc]) :
    w.cell? ⟨k, 0, none⟩ = some (.slice sa sn sc) ∧ w.cell? ⟨k, 1, none⟩ = some (.bool ch) ∧ w.cell? ⟨k, 2, none⟩ = some (.slice ta tn tc) ∧ w.cell? ⟨k, 3, none⟩ = some (.slice na nn nc) := ⟨h.cell 0, h.cell 1, h.cell 2, h.cell 3⟩

set_option maxHeartbeats 1600000 in
set_option maxRecDepth 100000 in
theorem r6PSame_any (cs cs' : Array Value) (S : Nat → Int) (r : Nat) (ch : Bool) (g : Nat → Int) (tn : Nat) (fB : Nat → Bool) (fS fT : Nat → ByteArray) (nn : Nat) (S' : Nat → Int) (r' : Nat) (ch' : Bool) (g' : Nat → Int) (tn' : Nat) (gB : Nat → Bool) (gS gT : Nat → ByteArray) (nn' : Nat)
    (w : World) (h : PlnAt w cs S r ch g tn fB fS fT nn) (h' : PlnAt w cs' S' r' ch' g' tn' gB gS gT nn') :
    Calls Tryz.prog 23 #[.agg cs, .agg cs'] w fun e w' => SameTold (plB ch ch' r r' S S' tn tn' g g' nn nn' fB fS fT gB gS gT) w w' e := by
  obtain ⟨sa, sc, ta, tc, na, nc, rfl, h1, h2, h3⟩ := h
  obtain ⟨sa', sc', ta', tc', na', nc', rfl, h1', h2', h3'⟩ := h'
  have IS := Lib.hid (fun wz p q => r6Same_any sa r sc S sa' r' sc' S' wz p q)
  have RS := Lib.hid (fun wz p q => r5Runes_any ta tn tc g ta' tn' tc' g' wz p q)
  have BB := Lib.hid (((((((((Bag.start w).krow h1).krow h2).qrow h3).krow h1').krow h2').qrow h3').newRow (plC sa r sc ch ta tn tc na nn nc) 46).newRow (plC sa' r' sc' ch' ta' tn' tc' na' nn' nc') 46)
  simp only [World.size_alloc] at BB
  have hl := h3.len
  have hl' := h3'.len
  unfold SameTold at IS RS
  unfold plC at BB
  unfold plC
  clear h1 h2 h3 h1' h2' h3'
  by_cases hc : ch = ch'
  · subst hc
    have hp1 : plB ch ch r r' S S' tn tn' g g' nn nn' fB fS fT gB gS gT = ((decide (r = r') && sameB S S' r) && ((decide (tn = tn') && sameB g g' tn) && (decide (nn = nn') && nsB fB fS fT gB gS gT nn))) := by unfold plB; rw [decide_eq_true rfl, Bool.true_and]
    rw [hp1]
    clear hp1
    cases hx : (decide (r = r') && sameB S S' r) with
    | false =>
      rw [hx] at IS
      rw [Bool.false_and]
      clear hx
      go_enter Tryz.func23, Tryz.ntmps23
      go_wp2_with fail
      go_at_call 25
      (with_reducible refine (IS.out _ BB.out.now.2.2.2.2.2.2.2.1 BB.out.now.2.2.2.2.1).mono ?_)
      rintro e w2 ⟨rfl, hb2⟩
      have HE := Lib.hid (BB.out.go hb2).below
      clear hb2
      go_wp2
      go_ret
      exact ⟨rfl, HE.out⟩
    | true =>
      rw [hx] at IS
      rw [Bool.true_and]
      clear hx
      cases hx : (decide (tn = tn') && sameB g g' tn) with
      | false =>
        rw [hx] at RS
        rw [Bool.false_and]
        clear hx
        go_enter Tryz.func23, Tryz.ntmps23
        go_wp2_with fail
        go_at_call 25
        (with_reducible refine (IS.out _ BB.out.now.2.2.2.2.2.2.2.1 BB.out.now.2.2.2.2.1).mono ?_)
        rintro e w2 ⟨rfl, hb2⟩
        have BB := Lib.hid (BB.out.go hb2)
        clear hb2
        obtain ⟨x0, x1, x2, x3⟩ := pl_cells BB.out.now.2.1
        obtain ⟨y0, y1, y2, y3⟩ := pl_cells BB.out.now.1
        go_wp2_with fail
        go_at_call 33
        (with_reducible refine (RS.out _ BB.out.now.2.2.2.2.2.2.1 BB.out.now.2.2.2.1).mono ?_)
        rintro e w3 ⟨rfl, hb3⟩
        have HE := Lib.hid (BB.out.go hb3).below
        clear hb3
        go_wp2
        go_ret
        exact ⟨rfl, HE.out⟩
      | true =>
        rw [hx] at RS
        rw [Bool.true_and]
        clear hx
        by_cases hn : nn = nn'
        · subst hn
          rw [decide_eq_true rfl, Bool.true_and]
          have dn : ((nn : Int) != nn) = false := bne_self_eq_false _
          go_enter Tryz.func23, Tryz.ntmps23
          go_wp2_with fail
          go_at_call 25
          (with_reducible refine (IS.out _ BB.out.now.2.2.2.2.2.2.2.1 BB.out.now.2.2.2.2.1).mono ?_)
          rintro e w2 ⟨rfl, hb2⟩
          have BB := Lib.hid (BB.out.go hb2)
          clear hb2
          obtain ⟨x0, x1, x2, x3⟩ := pl_cells BB.out.now.2.1
          obtain ⟨y0, y1, y2, y3⟩ := pl_cells BB.out.now.1
          go_wp2_with fail
          go_at_call 33
          (with_reducible refine (RS.out _ BB.out.now.2.2.2.2.2.2.1 BB.out.now.2.2.2.1).mono ?_)
          rintro e w3 ⟨rfl, hb3⟩
          have BB := Lib.hid (BB.out.go hb3)
          clear hb3
          obtain ⟨x0, x1, x2, x3⟩ := pl_cells BB.out.now.2.1
          obtain ⟨y0, y1, y2, y3⟩ := pl_cells BB.out.now.1
          have H0 := Lib.hid BB.out.below
          go_wp2_with fail
          go_loopw [5] (fun i wr => ∃ k : Nat, k ≤ nn ∧ i = .int .i64 k ∧ Hid (Below w3.heap.size w3 wr ∧ nsB fB fS fT gB gS gT k = true)) (fun i _ => nn - (intOf i).toNat)
          case atStart => exact ⟨0, by omega, rfl, Below.refl _ _, rfl⟩
          case round =>
            obtain ⟨k, hk, rfl, hrel⟩ := hrel
            obtain ⟨hbl, hsm⟩ := hrel.out
            have B4 := Lib.hid (BB.out.go hbl)
            clear x0 x1 x2 x3 y0 y1 y2 y3
            obtain ⟨x0, x1, x2, x3⟩ := pl_cells B4.out.now.2.1
            obtain ⟨y0, y1, y2, y3⟩ := pl_cells B4.out.now.1
            by_cases hlt : k < nn
            · obtain ⟨b, off, rfl, hb, c1, c2, c3⟩ := B4.out.now.2.2.2.2.2.1.get hlt
              obtain ⟨b2, off2, rfl, hb2, d1, d2, d3⟩ := B4.out.now.2.2.1.get hlt
              have HBL := Lib.hid hbl
              by_cases hq : fB k = gB k ∧ fS k = gS k ∧ fT k = gT k
              · have hsm2 : Hid (nsB fB fS fT gB gS gT (k + 1) = true) := by show (nsB fB fS fT gB gS gT k && _) = true; rw [hsm, decide_eq_true hq.1, decide_eq_true hq.2.1, decide_eq_true hq.2.2]; rfl
                rw [← hq.1] at d1
                rw [← hq.2.1] at d2
                rw [← hq.2.2] at d3
                clear hq hbl hsm
                generalize fB k = u1 at *
                generalize fS k = u2 at *
                generalize fT k = u3 at *
                go_wp2_with fail
                go_quiet (fail)
                have HBE : Hid (Below w3.heap.size w3 (wr.drewN nq) ∧ nsB fB fS fT gB gS gT (k + 1) = true) := ⟨below_drewN HBL.out nq, hsm2.out⟩
                go_wp2
                go_roundw
                case rel => exact ⟨k + 1, by omega, by go_num, HBE.out⟩
                case measure => simp [intOf]; omega
              · have hno : nsB fB fS fT gB gS gT nn = false := by
                  cases hx : nsB fB fS fT gB gS gT nn with
                  | false => rfl
                  | true => exact absurd ((nsB_iff.1 hx) k hlt) hq
                have HN := Lib.hid hno
                clear hbl hsm hno
                generalize fB k = u1 at *
                generalize fS k = u2 at *
                generalize fT k = u3 at *
                generalize gB k = v1 at *
                generalize gS k = v2 at *
                generalize gT k = v3 at *
                rcases ne3 hq with ⟨rfl, rfl⟩ | ⟨rfl, rfl⟩ | ⟨rfl, hd⟩ | ⟨rfl, rfl, hd⟩
                all_goals
                  clear hq
                  go_wp2_with fail
                  go_quiet (fail)
                  have HBE : Hid (SameTold (nsB fB fS fT gB gS gT nn) w (wr.drewN nq) (.returned (.bool false))) := ⟨by rw [HN.out], below_drewN B4.out.below nq⟩
                  go_wp2
                  go_ret
                  exact HBE.out
            · obtain rfl : k = nn := by omega
              have HE : Hid (SameTold (nsB fB fS fT gB gS gT k) w wr (.returned (.bool true))) := ⟨by rw [hsm], B4.out.below⟩
              clear hbl hsm
              go_wp2
              go_ret
              exact HE.out
        · rw [decide_eq_false hn, Bool.false_and]
          have dn : ((nn : Int) != nn') = true := bne_iff_ne.2 (by omega)
          clear hn
          go_enter Tryz.func23, Tryz.ntmps23
          go_wp2_with fail
          go_at_call 25
          (with_reducible refine (IS.out _ BB.out.now.2.2.2.2.2.2.2.1 BB.out.now.2.2.2.2.1).mono ?_)
          rintro e w2 ⟨rfl, hb2⟩
          have BB := Lib.hid (BB.out.go hb2)
          clear hb2
          obtain ⟨x0, x1, x2, x3⟩ := pl_cells BB.out.now.2.1
          obtain ⟨y0, y1, y2, y3⟩ := pl_cells BB.out.now.1
          go_wp2_with fail
          go_at_call 33
          (with_reducible refine (RS.out _ BB.out.now.2.2.2.2.2.2.1 BB.out.now.2.2.2.1).mono ?_)
          rintro e w3 ⟨rfl, hb3⟩
          have BB := Lib.hid (BB.out.go hb3)
          clear hb3
          obtain ⟨x0, x1, x2, x3⟩ := pl_cells BB.out.now.2.1
          obtain ⟨y0, y1, y2, y3⟩ := pl_cells BB.out.now.1
          have HE := Lib.hid BB.out.below
          go_wp2
          go_ret
          exact ⟨rfl, HE.out⟩
  · have hb : plB ch ch' r r' S S' tn tn' g g' nn nn' fB fS fT gB gS gT = false := by unfold plB; rw [decide_eq_false hc, Bool.false_and]
    rw [hb]
    have HE := Lib.hid BB.out.below
    clear hb
    cases ch <;> cases ch'
    · exact absurd rfl hc
    · clear hc
      go_enter Tryz.func23, Tryz.ntmps23
      go_wp2
      go_ret
      exact ⟨rfl, HE.out⟩
    · clear hc
      go_enter Tryz.func23, Tryz.ntmps23
      go_wp2
      go_ret
      exact ⟨rfl, HE.out⟩
    · exact absurd rfl hc

end Go.Proofs.YtdnbpkbapmlfaaaGreatDoor
