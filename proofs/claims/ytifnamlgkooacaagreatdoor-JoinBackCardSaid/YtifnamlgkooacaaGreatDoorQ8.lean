/-
  Texts of this seat, laid together.
-/
import Derived.Laws.OwnMore
import Derived.Deep.RegionHeld3
import Derived.Lib.AppendZeros
import Derived.Deep.QuietTactic
import Derived.BigQuiet
import Derived.StillTailTactics
import Derived.ProofKit
import Derived.Carry
import Derived.Deep.Grids
import Derived.Test.YtifnamlgkooacaaGreatDoorQ1
import Derived.Test.YtifnamlgkooacaaGreatDoorQ2
import Derived.Test.YtifnamlgkooacaaGreatDoorQ3
import Derived.Test.YtifnamlgkooacaaGreatDoorQ4
import Derived.Test.YtifnamlgkooacaaGreatDoorQ5
import Derived.Test.YtifnamlgkooacaaGreatDoorQ6
import Derived.Test.YtifnamlgkooacaaGreatDoorQ7

namespace Go.Proofs.YtifnamlgkooacaaGreatDoor
open Go.RowKit
attribute [local go_sem ↓] Go.wp_at_zero Go.wp_at_succ
theorem stA {ops : Array Oper} {rest : List Oper} {o : Oper} {a : Act} {w : World} {Q : Exit → Act → World → Prop} (hgd : o.guard = none) (x y : Operand) (ho : o.op = .store 32 x y) (g : Nat) (hx : a.eval x = .pointer (some ⟨g, 0, none⟩))
    (cs : Array Value) (hy : a.eval y = .agg cs) (hc : IsA cs) {old : Array Value} (hg : Row w g 32 old) (hz : IsA old)
    (h : wpList Tryz.prog ops Q rest (a.put o.dst undef) (w.setRow g cs)) : wpList Tryz.prog ops Q (o :: rest) a w :=
  wpList_store_row hgd _ x y ho g _ hx hy _ old hg (by rw [arr12, hc.size]) (by rw [hz.size, hc.size]) hc.one h
theorem MoR.told {w w' : World} {x : Array Value} {E : Int} {S : Nat → Int} {r : Nat} {ch : Bool} {L : Nat} {g fP : Nat → Int} {fQ : Nat → Nat} (h : MoR w' x E S r ch L g fP fQ) (hb : Below w.heap.size w w') : MoTold E S r ch L g fP fQ w w' (.returned (.tuple #[.agg x, .int .i64 E])) := ⟨x, rfl, h.2.1, h.2.2, hb⟩
/-- The axis along which two arrays are laid one behind the other. -/
def caK (q : Nat) (i : Int) : Int := if i < 0 then (q : Int) - 1 else i
def jnT (r1 : Nat) (S1 : Nat → Int) (r2 : Nat) (S2 : Nat → Int) (k : Nat) : Nat → Int := wiF (grS r1 S1 r2 S2) (k : Nat) (exN r1 S1 (grR r1 r2) k + exN r2 S2 (grR r1 r2) k)
def jnN (r : Nat) (S : Nat → Int) (q : Nat) (s : Nat → Int) (k : Nat) : Nat := (exN r S q k * stF s q k).toNat
def jnE (kb : Bool) (r1 : Nat) (S1 : Nat → Int) (r2 : Nat) (S2 : Nat → Int) (i : Int) : Int :=
  if kb = false then 22 else if ((grR r1 r2 : Nat) : Int) ≤ caK (grR r1 r2) i then 23 else
    if exE r1 S1 (grR r1 r2) (grS r1 S1 r2 S2) (caK (grR r1 r2) i).toNat = 0 then
      (if exE r2 S2 (grR r1 r2) (grS r1 S1 r2 S2) (caK (grR r1 r2) i).toNat = 0 then pkE (jnT r1 S1 r2 S2 (caK (grR r1 r2) i).toNat) (grR r1 r2) else exE r2 S2 (grR r1 r2) (grS r1 S1 r2 S2) (caK (grR r1 r2) i).toNat)
    else exE r1 S1 (grR r1 r2) (grS r1 S1 r2 S2) (caK (grR r1 r2) i).toNat
theorem gr_sh {r1 r2 : Nat} {S1 S2 : Nat → Int} (h1 : shB S1 r1 = true) (h2 : shB S2 r2 = true) : shB (grS r1 S1 r2 S2) (grR r1 r2) = true ∧ 1 ≤ grR r1 r2 := by
  unfold grS grR
  split
  · exact ⟨h2, by omega⟩
  · split
    · exact ⟨h1, by omega⟩
    · exact ⟨by decide, by omega⟩
theorem KRow.apartA {w : World} {a : Option Addr} {n c : Nat} {f : Nat → Int} {k : Nat} (h : KRow w .i64 a n c f) (hn : n = 0 ∨ ∀ x, a = some x → x.block ≠ k) (cs : Array Value) : KRow (w.setRow k cs) .i64 a n c f := h.away hn (Far.setRow _ _ _)
set_option linter.unusedSimpArgs false in
set_option linter.unusedVariables false in
set_option maxHeartbeats 6400000 in
set_option maxRecDepth 100000 in
theorem catenate_any (x1 : Array Value) (S1 : Nat → Int) (r1 : Nat) (ch1 : Bool) (L1 : Nat) (g1 P1 : Nat → Int) (Q1 : Nat → Nat) (x2 : Array Value) (S2 : Nat → Int) (r2 : Nat) (ch2 : Bool) (L2 : Nat) (g2 P2 : Nat → Int) (Q2 : Nat → Nat) (i : Int) (w : World) (h1 : Arr w x1 S1 r1 ch1 L1 g1 P1 Q1) (h2 : Arr w x2 S2 r2 ch2 L2 g2 P2 Q2)
    (hsh1 : shB S1 r1 = true) (hc1 : itm S1 r1 = (L1 : Nat)) (hsh2 : shB S2 r2 = true) (hc2 : itm S2 r2 = (L2 : Nat)) (hi : -9223372036854775808 ≤ i ∧ i ≤ 9223372036854775807) :
    Calls Tryz.prog 8 #[.agg x1, .agg x2, .int .i64 i] w fun e w' => MoTold (jnE (kdB ch1 L1 ch2 L2) r1 S1 r2 S2 i) (jnT r1 S1 r2 S2 (caK (grR r1 r2) i).toNat) (grR r1 r2) (kdC ch1 L1 ch2 L2) (itm (jnT r1 S1 r2 S2 (caK (grR r1 r2) i).toNat) (grR r1 r2)).toNat (wvF (jnN r1 S1 (grR r1 r2) (grS r1 S1 r2 S2) (caK (grR r1 r2) i).toNat) (jnN r2 S2 (grR r1 r2) (grS r1 S1 r2 S2) (caK (grR r1 r2) i).toNat) (fun j => elC L1 g1 32 (exG r1 j)) (fun j => elC L2 g2 32 (exG r2 j))) (wvF (jnN r1 S1 (grR r1 r2) (grS r1 S1 r2 S2) (caK (grR r1 r2) i).toNat) (jnN r2 S2 (grR r1 r2) (grS r1 S1 r2 S2) (caK (grR r1 r2) i).toNat) (fun j => elP L1 P1 (exG r1 j)) (fun j => elP L2 P2 (exG r2 j))) (wvF (jnN r1 S1 (grR r1 r2) (grS r1 S1 r2 S2) (caK (grR r1 r2) i).toNat) (jnN r2 S2 (grR r1 r2) (grS r1 S1 r2 S2) (caK (grR r1 r2) i).toNat) (fun j => elQ L1 Q1 (exG r1 j)) (fun j => elQ L2 Q2 (exG r2 j))) w w' e := by
  obtain ⟨na1, nn1, nc1, ta1, tn1, tc1, hx1, _⟩ := h1.form
  subst hx1
  obtain ⟨na2, nn2, nc2, ta2, tn2, tc2, hx2, _⟩ := h2.form
  subst hx2
  have hr1 := (sh_ax hsh1).1
  have hr2 := (sh_ax hsh2).1
  have H1 := Lib.hid h1
  have H2 := Lib.hid h2
  have AL := Lib.hid (fun wz h1 h2 => alike_any (arrC ch1 ((r1 : Int) - 1) (dm S1 r1) na1 nn1 nc1 ta1 tn1 tc1) S1 r1 ch1 L1 g1 P1 Q1 (arrC ch2 ((r2 : Int) - 1) (dm S2 r2) na2 nn2 nc2 ta2 tn2 tc2) S2 r2 ch2 L2 g2 P2 Q2 wz h1 h2 hsh1 hc1 hsh2 hc2)
  have BB0 := Lib.hid ((((Bag.start w).newRow (arrC ch1 ((r1 : Int) - 1) (dm S1 r1) na1 nn1 nc1 ta1 tn1 tc1) 32).newRow (arrC ch2 ((r2 : Int) - 1) (dm S2 r2) na2 nn2 nc2 ta2 tn2 tc2) 32).newRow zerC 32)
  simp only [World.size_alloc] at BB0
  have BB := Lib.hid (show Bag w (fun y => Row y w.heap.size 32 (arrC ch1 ((r1 : Int) - 1) (dm S1 r1) na1 nn1 nc1 ta1 tn1 tc1) ∧ Row y (w.heap.size + 1) 32 (arrC ch2 ((r2 : Int) - 1) (dm S2 r2) na2 nn2 nc2 ta2 tn2 tc2) ∧ Row y (w.heap.size + 1 + 1) 32 zerC ∧ True) _ from ⟨BB0.out.below, fun a b hb ⟨q1, q2, q3, _⟩ => ⟨q1.below hb, q2.below hb, q3.below hb, trivial⟩, BB0.out.now.2.2.1, BB0.out.now.2.1, BB0.out.now.1, trivial⟩)
  have HR1 := Lib.hid BB.out.now.1
  have HR2 := Lib.hid BB.out.now.2.1
  clear h1 h2 BB0
  obtain ⟨KB, hKB⟩ : ∃ b, kdB ch1 L1 ch2 L2 = b := ⟨_, rfl⟩
  obtain ⟨CH, hCH⟩ : ∃ b, kdC ch1 L1 ch2 L2 = b := ⟨_, rfl⟩
  rw [hKB, hCH]
  rw [hKB, hCH] at AL
  clear hKB hCH
  obtain ⟨hss, hq1⟩ := gr_sh hsh1 hsh2
  have GR := Lib.hid (fun y1 y2 wz h1 h2 => greater_any y1 S1 r1 CH L1 g1 P1 Q1 y2 S2 r2 CH L2 g2 P2 Q2 wz h1 h2 hr1 hr2)
  have hdE : jnE KB r1 S1 r2 S2 i = jnE KB r1 S1 r2 S2 i := rfl
  unfold jnE at hdE ⊢
  unfold jnT at hdE ⊢
  obtain ⟨q, hq⟩ : ∃ q, grR r1 r2 = q := ⟨_, rfl⟩
  obtain ⟨s, hs⟩ : ∃ s, grS r1 S1 r2 S2 = s := ⟨_, rfl⟩
  rw [hq, hs] at hss GR ⊢
  rw [hq] at hq1
  have hq8 := (sh_ax hss).1
  have HQ1 := Lib.hid hq1
  clear hdE hq hs
  have EX1 : Hid (∀ k, k < q → ∀ y a c wz, Arr wz y S1 r1 CH L1 g1 P1 Q1 → KRow wz .i64 a q c s → Calls Tryz.prog 27 #[.agg y, .slice a q c, .int .i64 (k : Nat)] wz fun e w' => ∃ z, e = .returned (.tuple #[.agg z, .int .i64 (exE r1 S1 q s k)]) ∧ IsA z ∧ (exE r1 S1 q s k = 0 → Arr w' z (exS r1 S1 q s k) q CH (itm (exS r1 S1 q s k) q).toNat (fun j => elC L1 g1 32 (exG r1 j)) (fun j => elP L1 P1 (exG r1 j)) (fun j => elQ L1 Q1 (exG r1 j))) ∧ Below wz.heap.size wz w') := Lib.hid (fun k hk y a c wz h hs => (extended_any y S1 r1 CH L1 g1 P1 Q1 a q c s k wz h hsh1 hc1 hs hss hk).mono (fun _ _ hq => by
    obtain ⟨x, he, hm, hb⟩ := hq.res
    exact ⟨x, he, hm.1, hm.2.1, hb⟩))
  have EX2 : Hid (∀ k, k < q → ∀ y a c wz, Arr wz y S2 r2 CH L2 g2 P2 Q2 → KRow wz .i64 a q c s → Calls Tryz.prog 27 #[.agg y, .slice a q c, .int .i64 (k : Nat)] wz fun e w' => ∃ z, e = .returned (.tuple #[.agg z, .int .i64 (exE r2 S2 q s k)]) ∧ IsA z ∧ (exE r2 S2 q s k = 0 → Arr w' z (exS r2 S2 q s k) q CH (itm (exS r2 S2 q s k) q).toNat (fun j => elC L2 g2 32 (exG r2 j)) (fun j => elP L2 P2 (exG r2 j)) (fun j => elQ L2 Q2 (exG r2 j))) ∧ Below wz.heap.size wz w') := Lib.hid (fun k hk y a c wz h hs => (extended_any y S2 r2 CH L2 g2 P2 Q2 a q c s k wz h hsh2 hc2 hs hss hk).mono (fun _ _ hq => by
    obtain ⟨x, he, hm, hb⟩ := hq.res
    exact ⟨x, he, hm.1, hm.2.1, hb⟩))
  obtain ⟨KK, hKK⟩ : ∃ k : Nat, (caK q i).toNat = k := ⟨_, rfl⟩
  rw [hKK]
  obtain ⟨T, hT⟩ : ∃ f, wiF s (KK : Nat) (exN r1 S1 q KK + exN r2 S2 q KK) = f := ⟨_, rfl⟩
  rw [hT]
  obtain ⟨M, hM⟩ : ∃ n, (itm T q).toNat = n := ⟨_, rfl⟩
  rw [hM]
  obtain ⟨N1, hN1⟩ : ∃ n, jnN r1 S1 q s KK = n := ⟨_, rfl⟩
  obtain ⟨N2, hN2⟩ : ∃ n, jnN r2 S2 q s KK = n := ⟨_, rfl⟩
  rw [hN1, hN2]
  obtain ⟨E, hE⟩ : ∃ E, (if KB = false then 22 else if ((q : Nat) : Int) ≤ caK q i then 23 else if exE r1 S1 q s KK = 0 then (if exE r2 S2 q s KK = 0 then pkE T q else exE r2 S2 q s KK) else exE r1 S1 q s KK : Int) = E := ⟨_, rfl⟩
  rw [hE]
  have BH : Hid (∀ k : Nat, caK q i = (k : Nat) → k < q → KB = true → exE r1 S1 q s k = 0 → exE r2 S2 q s k = 0 → ∀ y1 y2 wz, Arr wz y1 (exS r1 S1 q s k) q CH (itm (exS r1 S1 q s k) q).toNat (fun j => elC L1 g1 32 (exG r1 j)) (fun j => elP L1 P1 (exG r1 j)) (fun j => elQ L1 Q1 (exG r1 j)) → Arr wz y2 (exS r2 S2 q s k) q CH (itm (exS r2 S2 q s k) q).toNat (fun j => elC L2 g2 32 (exG r2 j)) (fun j => elP L2 P2 (exG r2 j)) (fun j => elQ L2 Q2 (exG r2 j)) →
      Calls Tryz.prog 28 #[.agg y1, .agg y2, .int .i64 (k : Nat)] wz fun e w' => ∃ y, e = .returned (.tuple #[.agg y, .int .i64 E]) ∧ MoR w' y E T q CH M (wvF N1 N2 (fun j => elC L1 g1 32 (exG r1 j)) (fun j => elC L2 g2 32 (exG r2 j))) (wvF N1 N2 (fun j => elP L1 P1 (exG r1 j)) (fun j => elP L2 P2 (exG r2 j))) (wvF N1 N2 (fun j => elQ L1 Q1 (exG r1 j)) (fun j => elQ L2 Q2 (exG r2 j))) ∧ Below wz.heap.size wz w') := Lib.hid (fun k hk hkq hkb e1 e2 y1 y2 wz a1 a2 => by
    have hkk : KK = k := by rw [← hKK, hk]; rfl
    subst hkk
    obtain ⟨b1, b2, b3, _⟩ := ex_sh hkq hss hsh1 e1
    obtain ⟨c1, c2, c3, _⟩ := ex_sh hkq hss hsh2 e2
    have bx := ax_bd (sh_ax b1).2
    have cx := ax_bd (sh_ax c1).2
    have st : 0 ≤ stF s q KK := (ax_bd (ax_shf (KK + 1) (sh_ax hss).2 (q - (KK + 1)) (by omega))).2.2.1
    have est : ∀ v, stF (wiF s (KK : Nat) v) q KK = stF s q KK := fun v => itm_congr (fun j _ => wi_off (s := s) (j := KK + 1 + j) v (by omega))
    have n1 : (N1 : Int) = exN r1 S1 q KK * stF s q KK := by rw [← hN1]; unfold jnN; exact Int.toNat_of_nonneg (Int.mul_nonneg b2 st)
    have n2 : (N2 : Int) = exN r2 S2 q KK * stF s q KK := by rw [← hN2]; unfold jnN; exact Int.toNat_of_nonneg (Int.mul_nonneg c2 st)
    have hb := behind_any y1 (exS r1 S1 q s KK) q CH _ _ _ _ y2 (exS r2 S2 q s KK) _ _ _ _ KK N1 N2 wz a1 a2 b1 c1 (by omega) (by omega) hkq (fun a ha hak => by unfold exS; rw [wi_off _ hak, wi_off _ hak]) (by unfold exS; rw [wi_at, est]; exact n1) (by unfold exS; rw [wi_at, est]; exact n2)
    have eT : wiF (exS r1 S1 q s KK) (KK : Nat) (exS r1 S1 q s KK KK + exS r2 S2 q s KK KK) = T := by rw [← hT]; unfold exS; rw [wi_wi, wi_at, wi_at]
    have eE : pkE T q = E := by
      rw [← hE, if_neg (by rw [hkb]; decide), if_neg (by rw [hk]; omega), if_pos e1, if_pos e2]
    have eM : (itm (exS r1 S1 q s KK) q).toNat + (itm (exS r2 S2 q s KK) q).toNat = M := by
      obtain ⟨n, hn⟩ : ∃ n : Nat, exN r1 S1 q KK = n := ⟨(exN r1 S1 q KK).toNat, by omega⟩
      obtain ⟨m, hm⟩ : ∃ m : Nat, exN r2 S2 q KK = m := ⟨(exN r2 S2 q KK).toNat, by omega⟩
      obtain ⟨B, _, _, l1, l2, l3⟩ := wv_len (T := T) (x := exS r1 S1 q s KK) (y := exS r2 S2 q s KK) (n := n) (m := m) (N1 := N1) (N2 := N2) hkq (by rw [← hT, wi_at, hn, hm]; push_cast; rfl) (by unfold exS; rw [wi_at]; exact hn) (by unfold exS; rw [wi_at]; exact hm)
        (fun a _ hak => by rw [← hT]; unfold exS; rw [wi_off _ hak, wi_off _ hak]) (fun a _ hak => by rw [← hT]; unfold exS; rw [wi_off _ hak, wi_off _ hak]) (fun a ha => by rw [← hT, wi_off _ (by omega)]; exact (ax_le4 hss (by omega)).1) (by rw [← hT, est, ← hn]; exact n1) (by rw [← hT, est, ← hm]; exact n2)
      rw [← hM, l1, l2, l3, Int.toNat_natCast, Int.toNat_natCast, Int.toNat_natCast, Nat.mul_add]
    rw [eT, eE, eM] at hb
    exact hb.mono (fun _ _ hq => hq.res))
  have HE22 : Hid (KB = false → E = 22) := Lib.hid (fun e => by rw [← hE, if_pos e])
  have HE23 : Hid (KB = true → ¬ i < 0 → (q : Int) ≤ i → E = 23) := Lib.hid (fun e h1 h2 => by rw [← hE, if_neg (by rw [e]; decide), if_pos (by unfold caK; rw [if_neg h1]; exact h2)])
  have HE1 : Hid (∀ k : Nat, caK q i = (k : Nat) → k < q → KB = true → exE r1 S1 q s k ≠ 0 → E = exE r1 S1 q s k) := Lib.hid (fun k hk hkq hkb e1 => by
    have hkk : KK = k := by rw [← hKK, hk]; rfl
    subst hkk
    rw [← hE, if_neg (by rw [hkb]; decide), if_neg (by rw [hk]; omega), if_neg e1])
  have HE2 : Hid (∀ k : Nat, caK q i = (k : Nat) → k < q → KB = true → exE r1 S1 q s k = 0 → exE r2 S2 q s k ≠ 0 → E = exE r2 S2 q s k) := Lib.hid (fun k hk hkq hkb e1 e2 => by
    have hkk : KK = k := by rw [← hKK, hk]; rfl
    subst hkk
    rw [← hE, if_neg (by rw [hkb]; decide), if_neg (by rw [hk]; omega), if_pos e1, if_neg e2])
  have HNO : Hid (∀ E wz, E ≠ 0 → Below w.heap.size w wz → MoTold E T q CH M (wvF N1 N2 (fun j => elC L1 g1 32 (exG r1 j)) (fun j => elC L2 g2 32 (exG r2 j))) (wvF N1 N2 (fun j => elP L1 P1 (exG r1 j)) (fun j => elP L2 P2 (exG r2 j))) (wvF N1 N2 (fun j => elQ L1 Q1 (exG r1 j)) (fun j => elQ L2 Q2 (exG r2 j))) w (wz.setRow (w.heap.size + 1 + 1) zerC) (.returned (.tuple #[.agg zerC, .int .i64 E]))) := Lib.hid (fun E wz hE hb => MoTold.no hE (below_put hb (show w.heap.size ≤ w.heap.size + 1 + 1 by omega) zerC))
  clear hE hT hM hN1 hN2 hKK hss hsh1 hsh2 hc1 hc2 hr1 hr2 hq1
  cases KB with
  | false =>
    obtain rfl := HE22.out rfl
    clear EX1 EX2 BH HE1 HE2 HE23 HE22
    unfold arrC
    go_enter Tryz.func8, Tryz.ntmps8
    go_wp2_with (first
      | (refine ld_arr rfl (.tmp 3) rfl (w.heap.size) rfl HR1.out ?_)
      | (refine ld_arr rfl (.tmp 4) rfl (w.heap.size + 1) rfl HR2.out ?_))
    go_at_call 25
    (with_reducible refine (AL.out _ ?_ ?_).mono ?_)
    · exact H1.out.below BB.out.below
    · exact H2.out.below BB.out.below
    rintro e w2 ⟨y1, y2, rfl, i1, i2, hA, hb2⟩
    have B2 := BB.out.go hb2
    have HZ1 := Lib.hid B2.now.1
    have hz2 := B2.now.2.1.puto (k := w.heap.size) (by omega) y1
    have HZ2 := Lib.hid hz2
    have I1 := Lib.hid i1
    have I2 := Lib.hid i2
    have F1 := Lib.hid ((B2.now.1.put y1).puto (k := w.heap.size + 1) (by omega) y2)
    have F2 := Lib.hid (hz2.put y2)
    have F3 := Lib.hid ((B2.now.2.2.1.puto (k := w.heap.size) (by omega) y1).puto (k := w.heap.size + 1) (by omega) y2)
    have F4 := Lib.hid (below_put (below_put B2.below (Nat.le_refl _) y1) (show w.heap.size ≤ w.heap.size + 1 by omega) y2)
    have HE := Lib.hid (HNO.out 22 _ (by decide) F4.out)
    clear hA hb2 B2 hz2 i1 i2
    go_wp2_with (first
      | (refine stA rfl (.tmp 3) (.tmp 15) rfl (w.heap.size) rfl y1 rfl I1.out HZ1.out (IsA.of _ _ _ _ _ _ _ _ _) ?_)
      | (refine stA rfl (.tmp 4) (.tmp 16) rfl (w.heap.size + 1) rfl y2 rfl I2.out HZ2.out (IsA.of _ _ _ _ _ _ _ _ _) ?_)
      | (refine st_arr rfl (.tmp 6) (.tmp 20) rfl (w.heap.size + 1 + 1) rfl false 0 (fun _ => 0) none 0 0 none 0 0 rfl F3.out rfl ?_))
    exact bodyPost_ret (res_arr2 Tryz.results8 rfl rfl (F3.out.put _) rfl) rfl HE.out
  | true =>
    have HF23 := Lib.hid (HE23.out rfl)
    have BH2 := Lib.hid (fun k h1 h2 => BH.out k h1 h2 rfl)
    have HF1 := Lib.hid (fun k h1 h2 => HE1.out k h1 h2 rfl)
    have HF2 := Lib.hid (fun k h1 h2 => HE2.out k h1 h2 rfl)
    clear HE22 HE23 BH HE1 HE2
    unfold arrC
    go_enter Tryz.func8, Tryz.ntmps8
    go_wp2_with (first
      | (refine ld_arr rfl (.tmp 3) rfl (w.heap.size) rfl HR1.out ?_)
      | (refine ld_arr rfl (.tmp 4) rfl (w.heap.size + 1) rfl HR2.out ?_))
    go_at_call 25
    (with_reducible refine (AL.out _ ?_ ?_).mono ?_)
    · exact H1.out.below BB.out.below
    · exact H2.out.below BB.out.below
    rintro e w2 ⟨y1, y2, rfl, i1, i2, hA, hb2⟩
    have B2 := BB.out.go hb2
    have HZ1 := Lib.hid B2.now.1
    have hz2 := B2.now.2.1.puto (k := w.heap.size) (by omega) y1
    have HZ2 := Lib.hid hz2
    have I1 := Lib.hid i1
    have I2 := Lib.hid i2
    have F1 := Lib.hid ((B2.now.1.put y1).puto (k := w.heap.size + 1) (by omega) y2)
    have F2 := Lib.hid (hz2.put y2)
    have F3 := Lib.hid ((B2.now.2.2.1.puto (k := w.heap.size) (by omega) y1).puto (k := w.heap.size + 1) (by omega) y2)
    have F4 := Lib.hid (below_put (below_put B2.below (Nat.le_refl _) y1) (show w.heap.size ≤ w.heap.size + 1 by omega) y2)
    have F5 := Lib.hid (((hA trivial).1.store B2.now.1 (IsA.of _ _ _ _ _ _ _ _ _) y1).store hz2 (IsA.of _ _ _ _ _ _ _ _ _) y2)
    have F6 := Lib.hid (((hA trivial).2.store B2.now.1 (IsA.of _ _ _ _ _ _ _ _ _) y1).store hz2 (IsA.of _ _ _ _ _ _ _ _ _) y2)
    clear hA hb2 B2 hz2 i1 i2
    go_wp2_with (first
      | (refine stA rfl (.tmp 3) (.tmp 15) rfl (w.heap.size) rfl y1 rfl I1.out HZ1.out (IsA.of _ _ _ _ _ _ _ _ _) ?_)
      | (refine stA rfl (.tmp 4) (.tmp 16) rfl (w.heap.size + 1) rfl y2 rfl I2.out HZ2.out (IsA.of _ _ _ _ _ _ _ _ _) ?_)
      | (refine ld8G (by rfl) 3 rfl (w.heap.size) y1 (by rfl) F1.out I1.out.size ?_)
      | (refine ld8G (by rfl) 4 rfl (w.heap.size + 1) y2 (by rfl) F2.out I2.out.size ?_))
    generalize hW : ((w2.setRow w.heap.size y1).setRow (w.heap.size + 1) y2) = Y2 at *
    have BC := Lib.hid (show Bag w (fun y => Row y w.heap.size 32 y1 ∧ Row y (w.heap.size + 1) 32 y2 ∧ Row y (w.heap.size + 1 + 1) 32 zerC ∧ Arr y y1 S1 r1 CH L1 g1 P1 Q1 ∧ Arr y y2 S2 r2 CH L2 g2 P2 Q2) Y2 from ⟨F4.out, (fun a b hb ⟨q1, q2, q3, q4, q5⟩ => ⟨q1.below hb, q2.below hb, q3.below hb, q4.below hb, q5.below hb⟩), F1.out, F2.out, F3.out, F5.out, F6.out⟩)
    clear hW HZ1 HZ2 F1 F2 F3 F4 F5 F6
    go_at_call 26
    (refine (GR.out _ _ _ BC.out.now.2.2.2.1 BC.out.now.2.2.2.2).mono ?_)
    rintro e w3 ⟨aS, cS, rfl, hkS, hnS, hb3⟩
    have HNS : Hid (∀ x, aS = some x → x.block ≠ w.heap.size) := Lib.hid (fun x hx => by have h1 := hnS x hx; have h2 := BC.out.now.1.lt; omega)
    have hlS := hkS.len
    have BC := Lib.hid ((BC.out.go hb3).krow hkS)
    have hq1 := HQ1.out
    clear hkS hb3 hnS
    by_cases hin : i < 0
    · obtain ⟨k, hqk⟩ : ∃ k : Nat, q - 1 = k := ⟨_, rfl⟩
      have e1 : (q : Int) - 1 = (k : Nat) := by omega
      have hkq : k < q := by omega
      have hck : caK q i = (k : Nat) := by unfold caK; rw [if_pos hin, e1]
      have w1 := IntWalk.i64_in ((q : Int) - 1) (by omega)
      have w2' := IntWalk.i64_in ((k : Nat) : Int) (by omega)
      have d1 : ¬ ((q : Nat) : Int) ≤ (k : Nat) := by omega
      have d2 : ((k : Nat) : Int) < (q : Nat) := by omega
      clear hqk
      have EK1 := Lib.hid (EX1.out k hkq)
      have EK2 := Lib.hid (EX2.out k hkq)
      have BK := Lib.hid (BH2.out k hck hkq)
      have HEA := Lib.hid (HF1.out k hck hkq)
      have HEB := Lib.hid (HF2.out k hck hkq)
      obtain ⟨E1, hE1⟩ : ∃ E, exE r1 S1 q s k = E := ⟨_, rfl⟩
      obtain ⟨E2, hE2⟩ : ∃ E, exE r2 S2 q s k = E := ⟨_, rfl⟩
      obtain ⟨X1, hX1⟩ : ∃ f, exS r1 S1 q s k = f := ⟨_, rfl⟩
      obtain ⟨X2, hX2⟩ : ∃ f, exS r2 S2 q s k = f := ⟨_, rfl⟩
      obtain ⟨M1, hM1⟩ : ∃ n, (itm X1 q).toNat = n := ⟨_, rfl⟩
      obtain ⟨M2, hM2⟩ : ∃ n, (itm X2 q).toNat = n := ⟨_, rfl⟩
      rw [hX1, hE1, hM1] at EK1
      rw [hX2, hE2, hM2] at EK2
      rw [hE1, hE2, hX1, hX2, hM1, hM2] at BK
      rw [hE1] at HEA
      rw [hE1, hE2] at HEB
      clear EX1 EX2 BH2 HF1 HF2 HF23 hck hE1 hE2 hX1 hX2 hM1 hM2
      have HY1 := Lib.hid BC.out.now.2.1
      go_wp2_with (refine ld8G (by rfl) 3 rfl (w.heap.size) y1 (by rfl) HY1.out I1.out.size ?_)
      go_at_call 27
      (refine (EK1.out _ _ _ _ BC.out.now.2.2.2.2.1 BC.out.now.1).mono ?_)
      rintro e w4 ⟨z1, rfl, j1, hz1, hb4⟩
      have B4 := BC.out.go hb4
      have J1 := Lib.hid j1
      have HZ1 := Lib.hid B4.now.2.1
      have G1 := Lib.hid (B4.now.2.1.put z1)
      have G2 := Lib.hid (B4.now.2.2.1.puto (k := w.heap.size) (by omega) z1)
      have G3 := Lib.hid (B4.now.2.2.2.1.puto (k := w.heap.size) (by omega) z1)
      have G4 := Lib.hid (below_put B4.below (Nat.le_refl _) z1)
      by_cases h0 : E1 = 0
      · subst h0
        have G5 := Lib.hid ((hz1 rfl).store B4.now.2.1 I1.out z1)
        have G6 := Lib.hid (B4.now.2.2.2.2.2.store B4.now.2.1 I1.out z1)
        have G7 := Lib.hid (KRow.apartA B4.now.1 (.inr HNS.out) z1)
        clear hz1 hb4 B4 j1 HY1 BC HEA
        go_wp2_with (first
          | (refine stA rfl (.tmp 3) (.tmp 39) rfl (w.heap.size) rfl z1 rfl J1.out HZ1.out I1.out ?_)
          | (refine ld8G (by rfl) 4 rfl (w.heap.size + 1) y2 (by rfl) G2.out I2.out.size ?_))
        generalize hW : (w4.setRow w.heap.size z1) = Y4 at *
        have BC := Lib.hid (show Bag w (fun y => Row y w.heap.size 32 z1 ∧ Row y (w.heap.size + 1) 32 y2 ∧ Row y (w.heap.size + 1 + 1) 32 zerC ∧ Arr y z1 X1 q CH M1 (fun j => elC L1 g1 32 (exG r1 j)) (fun j => elP L1 P1 (exG r1 j)) (fun j => elQ L1 Q1 (exG r1 j)) ∧ Arr y y2 S2 r2 CH L2 g2 P2 Q2) Y4 from ⟨G4.out, (fun a b hb ⟨q1, q2, q3, q4, q5⟩ => ⟨q1.below hb, q2.below hb, q3.below hb, q4.below hb, q5.below hb⟩), G1.out, G2.out, G3.out, G5.out, G6.out⟩)
        clear hW HZ1 G1 G2 G3 G4 G5 G6
        go_at_call 27
        (refine (EK2.out _ _ _ _ BC.out.now.2.2.2.2 G7.out).mono ?_)
        rintro e w5 ⟨z2, rfl, j2, hz2, hb5⟩
        have B5 := BC.out.go hb5
        have J2 := Lib.hid j2
        have HZ2 := Lib.hid B5.now.2.1
        have G1 := Lib.hid (B5.now.1.puto (k := w.heap.size + 1) (by omega) z2)
        have G2 := Lib.hid (B5.now.2.1.put z2)
        have G3 := Lib.hid (B5.now.2.2.1.puto (k := w.heap.size + 1) (by omega) z2)
        have G4 := Lib.hid (below_put B5.below (show w.heap.size ≤ w.heap.size + 1 by omega) z2)
        by_cases h1 : E2 = 0
        · subst h1
          have G5 := Lib.hid (B5.now.2.2.2.1.store B5.now.2.1 I2.out z2)
          have G6 := Lib.hid ((hz2 rfl).store B5.now.2.1 I2.out z2)
          clear hz2 hb5 B5 j2 BC HEB G7
          go_wp2_with (first
            | (refine stA rfl (.tmp 4) (.tmp 50) rfl (w.heap.size + 1) rfl z2 rfl J2.out HZ2.out I2.out ?_)
            | (refine ld8G (by rfl) 3 rfl (w.heap.size) z1 (by rfl) G1.out J1.out.size ?_)
            | (refine ld8G (by rfl) 4 rfl (w.heap.size + 1) z2 (by rfl) G2.out J2.out.size ?_))
          generalize hW : (w5.setRow (w.heap.size + 1) z2) = Y5 at *
          go_at_call 28
          (refine (BK.out trivial trivial _ _ _ G5.out G6.out).mono ?_)
          rintro e w6 ⟨y6, rfl, hM, hb6⟩
          have HZ6 := Lib.hid (G3.out.below hb6)
          have HE := Lib.hid ((hM.store (G3.out.below hb6) IsA.zer y6).told (below_put (G4.out.trans (hb6.mono G4.out.size)) (show w.heap.size ≤ w.heap.size + 1 + 1 by omega) y6))
          have J6 := Lib.hid hM.1
          clear hM hb6 hW HZ2 G1 G2 G3 G4 G5 G6
          go_wp2_with (refine stA rfl (.tmp 6) (.tmp 60) rfl (w.heap.size + 1 + 1) rfl y6 rfl J6.out HZ6.out IsA.zer ?_)
          exact bodyPost_ret (res_arr2 Tryz.results8 rfl rfl (HZ6.out.put _) J6.out.size) rfl HE.out
        · have dE : (E2 != 0) = true := bne_iff_ne.2 h1
          obtain rfl := HEB.out trivial h1
          have HE := Lib.hid (HNO.out _ _ h1 G4.out)
          clear hz2 hb5 B5 j2 BC HEB h1 BK G7
          go_wp2_with (first
            | (refine stA rfl (.tmp 4) (.tmp 50) rfl (w.heap.size + 1) rfl z2 rfl J2.out HZ2.out I2.out ?_)
            | (refine st_arr rfl (.tmp 6) (.tmp 54) rfl (w.heap.size + 1 + 1) rfl false 0 (fun _ => 0) none 0 0 none 0 0 rfl G3.out rfl ?_))
          exact bodyPost_ret (res_arr2 Tryz.results8 rfl rfl (G3.out.put _) rfl) rfl HE.out
      · have dE : (E1 != 0) = true := bne_iff_ne.2 h0
        obtain rfl := HEA.out h0
        have HE := Lib.hid (HNO.out _ _ h0 G4.out)
        clear hz1 hb4 B4 j1 HY1 BC HEA HEB h0 BK EK2
        go_wp2_with (first
          | (refine stA rfl (.tmp 3) (.tmp 39) rfl (w.heap.size) rfl z1 rfl J1.out HZ1.out I1.out ?_)
          | (refine st_arr rfl (.tmp 6) (.tmp 43) rfl (w.heap.size + 1 + 1) rfl false 0 (fun _ => 0) none 0 0 none 0 0 rfl G3.out rfl ?_))
        exact bodyPost_ret (res_arr2 Tryz.results8 rfl rfl (G3.out.put _) rfl) rfl HE.out
    · by_cases hiq : (q : Int) ≤ i
      · have HZ3 := Lib.hid BC.out.now.2.2.2.1
        obtain rfl := HF23.out (by omega) hiq
        have HE := Lib.hid (HNO.out 23 _ (by decide) BC.out.below)
        clear EX1 EX2 BH2 HF1 HF2 HF23
        go_wp2_with (refine st_arr rfl (.tmp 6) (.tmp 33) rfl (w.heap.size + 1 + 1) rfl false 0 (fun _ => 0) none 0 0 none 0 0 rfl HZ3.out rfl ?_)
        exact bodyPost_ret (res_arr2 Tryz.results8 rfl rfl (HZ3.out.put _) rfl) rfl HE.out
      · obtain ⟨k, rfl⟩ : ∃ k : Nat, i = (k : Nat) := ⟨i.toNat, by omega⟩
        have hkq : k < q := by omega
        have hck : caK q ((k : Nat) : Int) = (k : Nat) := by unfold caK; rw [if_neg hin]
        have d1 : ¬ ((q : Nat) : Int) ≤ (k : Nat) := by omega
        have d2 : ((k : Nat) : Int) < (q : Nat) := by omega
        have EK1 := Lib.hid (EX1.out k hkq)
        have EK2 := Lib.hid (EX2.out k hkq)
        have BK := Lib.hid (BH2.out k hck hkq)
        have HEA := Lib.hid (HF1.out k hck hkq)
        have HEB := Lib.hid (HF2.out k hck hkq)
        obtain ⟨E1, hE1⟩ : ∃ E, exE r1 S1 q s k = E := ⟨_, rfl⟩
        obtain ⟨E2, hE2⟩ : ∃ E, exE r2 S2 q s k = E := ⟨_, rfl⟩
        obtain ⟨X1, hX1⟩ : ∃ f, exS r1 S1 q s k = f := ⟨_, rfl⟩
        obtain ⟨X2, hX2⟩ : ∃ f, exS r2 S2 q s k = f := ⟨_, rfl⟩
        obtain ⟨M1, hM1⟩ : ∃ n, (itm X1 q).toNat = n := ⟨_, rfl⟩
        obtain ⟨M2, hM2⟩ : ∃ n, (itm X2 q).toNat = n := ⟨_, rfl⟩
        rw [hX1, hE1, hM1] at EK1
        rw [hX2, hE2, hM2] at EK2
        rw [hE1, hE2, hX1, hX2, hM1, hM2] at BK
        rw [hE1] at HEA
        rw [hE1, hE2] at HEB
        clear EX1 EX2 BH2 HF1 HF2 HF23 hck hE1 hE2 hX1 hX2 hM1 hM2
        have HY1 := Lib.hid BC.out.now.2.1
        go_wp2_with (refine ld8G (by rfl) 3 rfl (w.heap.size) y1 (by rfl) HY1.out I1.out.size ?_)
        go_at_call 27
        (refine (EK1.out _ _ _ _ BC.out.now.2.2.2.2.1 BC.out.now.1).mono ?_)
        rintro e w4 ⟨z1, rfl, j1, hz1, hb4⟩
        have B4 := BC.out.go hb4
        have J1 := Lib.hid j1
        have HZ1 := Lib.hid B4.now.2.1
        have G1 := Lib.hid (B4.now.2.1.put z1)
        have G2 := Lib.hid (B4.now.2.2.1.puto (k := w.heap.size) (by omega) z1)
        have G3 := Lib.hid (B4.now.2.2.2.1.puto (k := w.heap.size) (by omega) z1)
        have G4 := Lib.hid (below_put B4.below (Nat.le_refl _) z1)
        by_cases h0 : E1 = 0
        · subst h0
          have G5 := Lib.hid ((hz1 rfl).store B4.now.2.1 I1.out z1)
          have G6 := Lib.hid (B4.now.2.2.2.2.2.store B4.now.2.1 I1.out z1)
          have G7 := Lib.hid (KRow.apartA B4.now.1 (.inr HNS.out) z1)
          clear hz1 hb4 B4 j1 HY1 BC HEA
          go_wp2_with (first
            | (refine stA rfl (.tmp 3) (.tmp 39) rfl (w.heap.size) rfl z1 rfl J1.out HZ1.out I1.out ?_)
            | (refine ld8G (by rfl) 4 rfl (w.heap.size + 1) y2 (by rfl) G2.out I2.out.size ?_))
          generalize hW : (w4.setRow w.heap.size z1) = Y4 at *
          have BC := Lib.hid (show Bag w (fun y => Row y w.heap.size 32 z1 ∧ Row y (w.heap.size + 1) 32 y2 ∧ Row y (w.heap.size + 1 + 1) 32 zerC ∧ Arr y z1 X1 q CH M1 (fun j => elC L1 g1 32 (exG r1 j)) (fun j => elP L1 P1 (exG r1 j)) (fun j => elQ L1 Q1 (exG r1 j)) ∧ Arr y y2 S2 r2 CH L2 g2 P2 Q2) Y4 from ⟨G4.out, (fun a b hb ⟨q1, q2, q3, q4, q5⟩ => ⟨q1.below hb, q2.below hb, q3.below hb, q4.below hb, q5.below hb⟩), G1.out, G2.out, G3.out, G5.out, G6.out⟩)
          clear hW HZ1 G1 G2 G3 G4 G5 G6
          go_at_call 27
          (refine (EK2.out _ _ _ _ BC.out.now.2.2.2.2 G7.out).mono ?_)
          rintro e w5 ⟨z2, rfl, j2, hz2, hb5⟩
          have B5 := BC.out.go hb5
          have J2 := Lib.hid j2
          have HZ2 := Lib.hid B5.now.2.1
          have G1 := Lib.hid (B5.now.1.puto (k := w.heap.size + 1) (by omega) z2)
          have G2 := Lib.hid (B5.now.2.1.put z2)
          have G3 := Lib.hid (B5.now.2.2.1.puto (k := w.heap.size + 1) (by omega) z2)
          have G4 := Lib.hid (below_put B5.below (show w.heap.size ≤ w.heap.size + 1 by omega) z2)
          by_cases h1 : E2 = 0
          · subst h1
            have G5 := Lib.hid (B5.now.2.2.2.1.store B5.now.2.1 I2.out z2)
            have G6 := Lib.hid ((hz2 rfl).store B5.now.2.1 I2.out z2)
            clear hz2 hb5 B5 j2 BC HEB G7
            go_wp2_with (first
              | (refine stA rfl (.tmp 4) (.tmp 50) rfl (w.heap.size + 1) rfl z2 rfl J2.out HZ2.out I2.out ?_)
              | (refine ld8G (by rfl) 3 rfl (w.heap.size) z1 (by rfl) G1.out J1.out.size ?_)
              | (refine ld8G (by rfl) 4 rfl (w.heap.size + 1) z2 (by rfl) G2.out J2.out.size ?_))
            generalize hW : (w5.setRow (w.heap.size + 1) z2) = Y5 at *
            go_at_call 28
            (refine (BK.out trivial trivial _ _ _ G5.out G6.out).mono ?_)
            rintro e w6 ⟨y6, rfl, hM, hb6⟩
            have HZ6 := Lib.hid (G3.out.below hb6)
            have HE := Lib.hid ((hM.store (G3.out.below hb6) IsA.zer y6).told (below_put (G4.out.trans (hb6.mono G4.out.size)) (show w.heap.size ≤ w.heap.size + 1 + 1 by omega) y6))
            have J6 := Lib.hid hM.1
            clear hM hb6 hW HZ2 G1 G2 G3 G4 G5 G6
            go_wp2_with (refine stA rfl (.tmp 6) (.tmp 60) rfl (w.heap.size + 1 + 1) rfl y6 rfl J6.out HZ6.out IsA.zer ?_)
            exact bodyPost_ret (res_arr2 Tryz.results8 rfl rfl (HZ6.out.put _) J6.out.size) rfl HE.out
          · have dE : (E2 != 0) = true := bne_iff_ne.2 h1
            obtain rfl := HEB.out trivial h1
            have HE := Lib.hid (HNO.out _ _ h1 G4.out)
            clear hz2 hb5 B5 j2 BC HEB h1 BK G7
            go_wp2_with (first
              | (refine stA rfl (.tmp 4) (.tmp 50) rfl (w.heap.size + 1) rfl z2 rfl J2.out HZ2.out I2.out ?_)
              | (refine st_arr rfl (.tmp 6) (.tmp 54) rfl (w.heap.size + 1 + 1) rfl false 0 (fun _ => 0) none 0 0 none 0 0 rfl G3.out rfl ?_))
            exact bodyPost_ret (res_arr2 Tryz.results8 rfl rfl (G3.out.put _) rfl) rfl HE.out
        · have dE : (E1 != 0) = true := bne_iff_ne.2 h0
          obtain rfl := HEA.out h0
          have HE := Lib.hid (HNO.out _ _ h0 G4.out)
          clear hz1 hb4 B4 j1 HY1 BC HEA HEB h0 BK EK2
          go_wp2_with (first
            | (refine stA rfl (.tmp 3) (.tmp 39) rfl (w.heap.size) rfl z1 rfl J1.out HZ1.out I1.out ?_)
            | (refine st_arr rfl (.tmp 6) (.tmp 43) rfl (w.heap.size + 1 + 1) rfl false 0 (fun _ => 0) none 0 0 none 0 0 rfl G3.out rfl ?_))
          exact bodyPost_ret (res_arr2 Tryz.results8 rfl rfl (G3.out.put _) rfl) rfl HE.out
end Go.Proofs.YtifnamlgkooacaaGreatDoor

namespace Go.Proofs.YtifnamlgkooacaaGreatDoor
open Go.RowKit
theorem kcs_splice (ki : IntKind) {F G F' : Nat → Int} {M off m : Nat} (h : off + m ≤ M) (e1 : ∀ j, j < off → F' j = F j) (e2 : ∀ j, j < m → F' (off + j) = G j) (e3 : ∀ j, off + m ≤ j → j < M → F' j = F j) :
    splice (kcs ki F M) off (kcs ki G m) = kcs ki F' M := by
  have hF := kcs_length ki F M
  have hG := kcs_length ki G m
  have hF' := kcs_length ki F' M
  apply List.ext_getElem?
  intro j
  unfold splice
  rw [hG]
  rcases Nat.lt_or_ge j off with h1 | h1
  · rw [List.getElem?_append_left (by rw [List.length_take, hF]; omega), List.getElem?_take_of_lt h1, kcs_get ki F M j (by omega), kcs_get ki F' M j (by omega), e1 j h1]
  · rw [List.getElem?_append_right (by rw [List.length_take, hF]; omega), List.length_take, hF, Nat.min_eq_left (by omega)]
    rcases Nat.lt_or_ge j (off + m) with h2 | h2
    · rw [List.getElem?_append_left (by rw [hG]; omega), kcs_get ki G m (j - off) (by omega), kcs_get ki F' M j (by omega), ← e2 (j - off) (by omega), show off + (j - off) = j by omega]
    · rw [List.getElem?_append_right (by rw [hG]; omega), hG, List.getElem?_drop, show off + m + (j - off - m) = j by omega]
      rcases Nat.lt_or_ge j M with h3 | h3
      · rw [kcs_get ki F M j h3, kcs_get ki F' M j h3, e3 j h2 h3]
      · rw [List.getElem?_eq_none (by omega), List.getElem?_eq_none (by omega)]
theorem kcs_made (M : Nat) : madeCells (Value.cells (.int .i64 0)) M = (kcs .i64 (fun _ => 0) M).toArray := by
  apply Array.toList_inj.1
  have h : (madeCells (Value.cells (.int .i64 0)) M).toList = List.replicate M (.int .i64 0) := toList_madeCells_one (.int .i64 0) M
  rw [h]
  apply List.ext_getElem?
  intro j
  show _ = (kcs .i64 (fun _ => 0) M)[j]?
  rcases Nat.lt_or_ge j M with h3 | h3
  · rw [kcs_get _ _ _ _ h3, List.getElem?_replicate, if_pos h3]
  · rw [List.getElem?_eq_none (by rw [List.length_replicate]; omega), List.getElem?_eq_none (by rw [kcs_length]; omega)]
/-- The first ones laid. -/
def fst (x : Int) (n : Nat) : Nat → Int := fun j => if j < n then x else 0
set_option maxHeartbeats 3200000 in
set_option maxRecDepth 100000 in
theorem repeat1_at (a : Option Addr) (c : Nat) (f : Nat → Int) (M : Nat) (w : World) (h : KRow w .i64 a 1 c f) (hM : M ≤ 1000000) :
    Calls Tryz.prog 80 #[.slice a 1 c, .int .i64 M] w fun e w' => e = .returned (.slice (some ⟨w.heap.size, 0, none⟩) M M) ∧ KRow w' .i64 (some ⟨w.heap.size, 0, none⟩) M M (fun _ => f 0) ∧ Below w.heap.size w w' ∧ w.heap.size < w'.heap.size := by
  obtain ⟨i0, hi, hz0, hz1, hz2⟩ := info_parts infoI
  have hmk := fun wz => run_make (P := Tryz.prog) wz 22 3 i0 _ Tryz.underlying22 hi hz0 .i64 .i64 M M (by omega) (by omega) (by rw [hz2]; omega) (by omega)
  simp only [Int.toNat_natCast, hz1, Nat.mul_one] at hmk
  have hsz : (Tryz.prog.info? 3).map (·.size) = some 1 := by rw [hi, Option.map_some, hz1]
  obtain ⟨b, off, rfl, hb, hc⟩ := h.get (show 0 < 1 by omega)
  rw [Nat.add_zero] at hc
  generalize f 0 = x at *
  have MU : Hid (∀ wz, Calls Tryz.prog 106 #[.int .u64 1, .int .u64 (M : Nat)] wz fun e w' => e = .returned (.tuple #[.int .u64 0, .int .u64 (M : Nat)]) ∧ wz = w') := Lib.hid (fun wz => by
    have h0 := Tryz.bits_Mul 1 M (by omega) (by omega) wz
    rw [Nat.one_mul, Nat.div_eq_of_lt (by omega), Nat.mod_eq_of_lt (by omega)] at h0
    exact h0.mono (by rintro e w' ⟨rfl, rfl⟩; exact ⟨rfl, rfl⟩))
  have wu := IntWalk.u64_in (M : Int) (by omega)
  have wi := IntWalk.i64_in (M : Int) (by omega)
  have HR0 := Row.new w 3 (madeCells (Value.cells (.int .i64 0)) M)
  have hb0 : Below w.heap.size w (w.alloc (.cells (madeCells (Value.cells (.int .i64 0)) M) 3)) := (Below.refl _ _).alloc (Nat.le_refl _) _
  have hcb := (hb0.cell (p := ⟨b, off, none⟩) hb).trans hc
  rw [kcs_made] at hmk HR0 hb0 hcb
  have HG := Lib.hid HR0
  have HB := Lib.hid hb0
  have HLN : Hid ((kcs .i64 (fun _ => x) (min 1 M)).length = Nat.min 1 M) := Lib.hid (kcs_length _ _ _)
  have HPOS : Hid (∀ j v, (kcs .i64 (fun _ => x) (min 1 M))[j]? = some v → (w.alloc (.cells (kcs .i64 (fun _ => 0) M).toArray 3)).cell? ((⟨b, off, none⟩ : Addr).add j) = some v) := Lib.hid (fun j v hj => by
    have hj2 : j < min 1 M := by
      have := (List.getElem?_eq_some_iff.1 hj).1
      rwa [kcs_length] at this
    rw [kcs_get _ _ _ _ hj2] at hj
    obtain rfl := Option.some.inj hj
    obtain rfl : j = 0 := by omega
    rw [show (⟨b, off, none⟩ : Addr).add 0 = ⟨b, off, none⟩ by simp [Addr.add]]
    exact hcb)
  have HFIT : Hid (0 + (kcs .i64 (fun _ => x) (min 1 M)).length ≤ (kcs .i64 (fun _ => 0) M).length) := Lib.hid (by rw [kcs_length, kcs_length]; omega)
  have HONE := Lib.hid (kcs_one .i64 (fun _ => x) (min 1 M))
  have HSP : Hid (splice (kcs .i64 (fun _ => 0) M) 0 (kcs .i64 (fun _ => x) (min 1 M)) = kcs .i64 (fst x (min 1 M)) M) := Lib.hid (kcs_splice .i64 (by omega) (fun j hj => absurd hj (Nat.not_lt_zero _)) (fun j hj => by unfold fst; rw [if_pos (by omega)]) (fun j hj _ => by unfold fst; rw [if_neg (by omega)]))
  have hMn : (0 : Int) ≤ M := by omega
  clear h hi hz0 hz1 hz2 HR0 hb0 hcb
  go_enter Tryz.func80, Tryz.ntmps80
  go_wp2_with fail
  go_at_call 106
  (with_reducible refine (MU.out _).mono ?_)
  rintro e w1 ⟨rfl, rfl⟩
  go_wp2_with (refine wpList_copy_splice rfl (.tmp 31) (.tmp 32) 22 22 rfl 3 Tryz.underlying22 hsz (some ⟨w.heap.size, 0, none⟩) (some ⟨b, off, none⟩) M M 1 c rfl rfl w.heap.size 0 (kcs .i64 (fun _ => 0) M) 3 HG.out (kcs .i64 (fun _ => x) (min 1 M)) HLN.out (fun _ => ⟨rfl, _, rfl, HPOS.out⟩) HFIT.out HONE.out w.heap.size w HB.out (Nat.le_refl _) ?_)
  intro w2 hg2 hb2
  have hln := HLN.out
  rw [HSP.out] at hg2
  rw [hln]
  have H0 : Hid (Row w2 w.heap.size 3 (kcs .i64 (fst x (min 1 M)) M).toArray ∧ Below w.heap.size w w2) := Lib.hid ⟨hg2.out, hb2⟩
  clear hg2 hb2 HG HB HLN HPOS HFIT HONE HSP hln
  go_wp2_with fail
  go_loopw [8] (fun i wr => ∃ k : Nat, k ≤ M ∧ (M = 0 ∨ 1 ≤ k) ∧ i = .int .i64 k ∧ Hid (Row wr w.heap.size 3 (kcs .i64 (fst x k) M).toArray ∧ Below w.heap.size w wr)) (fun i _ => M - (intOf i).toNat)
  case atStart => exact ⟨min 1 M, by omega, by omega, rfl, H0.out⟩
  case round =>
    obtain ⟨k, hk, hk1, rfl, hrel⟩ := hrel
    by_cases hlt : k < M
    · have hk0 : 1 ≤ k := by omega
      have hki : (k : Int) < M := by omega
      have hkn : (0 : Int) ≤ k := by omega
      have HG := Lib.hid hrel.out.1
      have HB := Lib.hid hrel.out.2.drew
      have HLN : Hid ((kcs .i64 (fun _ => x) (min k (M - k))).length = Nat.min k (M - k)) := Lib.hid (kcs_length _ _ _)
      have HPOS : Hid (∀ j v, (kcs .i64 (fun _ => x) (min k (M - k)))[j]? = some v → wr.drew.cell? ((⟨w.heap.size, 0, none⟩ : Addr).add j) = some v) := Lib.hid (fun j v hj => by
        have hj2 : j < min k (M - k) := by
          have := (List.getElem?_eq_some_iff.1 hj).1
          rwa [kcs_length] at this
        rw [kcs_get _ _ _ _ hj2] at hj
        obtain rfl := Option.some.inj hj
        rw [show (⟨w.heap.size, 0, none⟩ : Addr).add j = ⟨w.heap.size, j, none⟩ by unfold Addr.add; split <;> simp_all]
        show wr.cell? _ = _
        rw [hrel.out.1.cell, List.getElem?_toArray, kcs_get _ _ _ _ (by omega)]
        unfold fst
        rw [if_pos (by omega)])
      have HFIT : Hid (k + (kcs .i64 (fun _ => x) (min k (M - k))).length ≤ (kcs .i64 (fst x k) M).length) := Lib.hid (by rw [kcs_length, kcs_length]; omega)
      have HONE := Lib.hid (kcs_one .i64 (fun _ => x) (min k (M - k)))
      have HSP : Hid (splice (kcs .i64 (fst x k) M) k (kcs .i64 (fun _ => x) (min k (M - k))) = kcs .i64 (fst x (k + min k (M - k))) M) := Lib.hid (kcs_splice .i64 (by omega) (fun j hj => by unfold fst; rw [if_pos (by omega), if_pos hj]) (fun j hj => by unfold fst; rw [if_pos (by omega)]) (fun j hj _ => by unfold fst; rw [if_neg (by omega), if_neg (by omega)]))
      obtain ⟨q, hq⟩ : ∃ q : Nat, Nat.min k (M - k) = q := ⟨_, rfl⟩
      have hq1 : 1 ≤ q := by have : Nat.min k (M - k) = min k (M - k) := rfl; omega
      have hq2 : k + q ≤ M := by have : Nat.min k (M - k) = min k (M - k) := rfl; omega
      have HQ : Hid (min k (M - k) = q) := Lib.hid hq
      have w2 := IntWalk.i64_in ((k : Int) + (q : Int)) (by omega)
      have HLQ : Hid ((kcs .i64 (fun _ => x) (min k (M - k))).length = q) := Lib.hid (HLN.out.trans hq)
      have HMK : Hid (¬ M = k) := Lib.hid (by omega)
      clear hrel hq
      go_wp2_with fail
      go_region_held3 (fun _ => True)
        (exact trivial)
        ((refine step_copy_splice rfl (.tmp 41) (.tmp 44) 22 22 rfl 3 Tryz.underlying22 hsz (some ⟨w.heap.size, k, none⟩) (some ⟨w.heap.size, 0, none⟩) (M - k) (M - k) k M (by rw [if_neg HMK.out]; rfl) rfl w.heap.size k (kcs .i64 (fst x k) M) 3 HG.out (kcs .i64 (fun _ => x) (min k (M - k))) HLN.out (fun _ => ⟨rfl, _, rfl, HPOS.out⟩) HFIT.out HONE.out w.heap.size w HB.out (Nat.le_refl _) ?_; intro w4 hg4 hb4; rw [HLQ.out]))
      have HN : Hid (Row w4 w.heap.size 3 (kcs .i64 (fst x (k + q)) M).toArray ∧ Below w.heap.size w w4) := Lib.hid ⟨by have := hg4.out; rw [HSP.out, HQ.out] at this; exact this, hb4⟩
      clear hg4 hb4
      go_wp2
      go_roundw
      case rel => exact ⟨k + q, hq2, by omega, by go_num, HN.out⟩
      case measure => simp [intOf]; omega
    · obtain rfl : k = M := by omega
      have HE : Hid (KRow wr .i64 (some ⟨w.heap.size, 0, none⟩) k k (fun _ => x) ∧ Below w.heap.size w wr ∧ w.heap.size < wr.heap.size) := Lib.hid ⟨((IBox.of_row hrel.out.1).congr (h' := fun _ => x) (fun j hj => by unfold fst; rw [if_pos hj])).krow (by unfold maxLen; omega), hrel.out.2, hrel.out.1.lt⟩
      clear hrel
      go_wp2
      go_ret
      exact ⟨rfl, HE.out⟩
theorem KTo.over {w : World} {g n k : Nat} {f : Nat → Int} (h : KTo w g n k f) (x : Int) : KTo (w.setCell ⟨g, k, none⟩ (.int .i64 x)) g n k f := by
  obtain ⟨h1, h2, h3⟩ := h
  refine ⟨by simpa using h1, h2.set _ _, fun j hj => ?_⟩
  obtain ⟨z, e1, e2⟩ := h3 j hj
  by_cases e : j = k
  · subst e
    exact ⟨x, World.cell?_setCell_same _ _ _ e1, fun h => absurd h (Nat.lt_irrefl _)⟩
  · exact ⟨z, by rw [World.cell?_setCell_other _ _ _ _ (fun h => by injection h with _ h; omega)]; exact e1, e2⟩
end Go.Proofs.YtifnamlgkooacaaGreatDoor

namespace Go.Proofs.YtifnamlgkooacaaGreatDoor
open Go.RowKit
/-- The cells of a row of slices of one length. -/
def sls (A : Nat → Option Addr) (C : Nat → Nat) (L : Nat) : Nat → List Value
  | 0 => []
  | k + 1 => sls A C L k ++ [.slice (A k) L (C k)]
theorem sls_length (A : Nat → Option Addr) (C : Nat → Nat) (L : Nat) : ∀ k, (sls A C L k).length = k
  | 0 => rfl
  | k + 1 => by unfold sls; rw [List.length_append, sls_length A C L k]; rfl
theorem sls_get (A : Nat → Option Addr) (C : Nat → Nat) (L : Nat) : ∀ k j, j < k → (sls A C L k)[j]? = some (.slice (A j) L (C j))
  | 0, j, h => absurd h (Nat.not_lt_zero _)
  | k + 1, j, h => by
    have hl := sls_length A C L k
    unfold sls
    rcases Nat.lt_or_ge j k with h1 | h1
    · rw [List.getElem?_append_left (by omega)]
      exact sls_get A C L k j h1
    · obtain rfl : j = k := by omega
      rw [List.getElem?_append_right (by omega), hl, Nat.sub_self]
      rfl
theorem infoS : (Tryz.prog.info? 22).map (fun i => (i.zero, i.size, i.bytes)) = some (some (.slice none 0 0), 1, 24) := by kernel_rfl
/-- The rows of the next axis in the making. -/
def AllSt (y0 wr : World) (f : Nat → Int) (i cnt : Nat) (v : Value) : Prop :=
  Below y0.heap.size y0 wr ∧ ∃ A C, wr.ownsRow y0.heap.size 22 1 v cnt (sls A C (i + 1) cnt) ∧ ∀ r, r < cnt → KRow wr .i64 (A r) (i + 1) (C r) (dgs f (i + 1) (r : Nat)) ∧ ∃ g, A r = some ⟨g, 0, none⟩
theorem AllSt.nought (y0 : World) (f : Nat → Int) (i : Nat) : AllSt y0 y0 f i 0 (.slice none 0 0) := ⟨Below.refl _ _, fun _ => none, fun _ => 0, World.ownsRow_nil _ _ _ _, fun _ h => absurd h (Nat.not_lt_zero _)⟩
/-- All rows of an axis, as a row of rows. -/
theorem AllSt.done {y0 wr : World} {f : Nat → Int} {i cnt : Nat} {v : Value} (h : AllSt y0 wr f i cnt v) : ∃ la lc A C, v = .slice la cnt lc ∧ LRow wr la cnt lc A (fun _ => i + 1) C (fun r => dgs f (i + 1) (r : Nat)) := by
  obtain ⟨_, A, C, ho, hk⟩ := h
  have hA : ∀ r, r < cnt → A r ≠ none := fun r hr e => by
    obtain ⟨g, e2⟩ := (hk r hr).2
    rw [e] at e2
    cases e2
  rcases ho.2 with ⟨rfl, rfl⟩ | ⟨g, cap, cur, rfl, _, hh, h1, h2, _, _⟩
  · exact ⟨none, 0, A, C, rfl, Nat.le_refl _, Nat.zero_le _, .inl rfl⟩
  · refine ⟨some ⟨g, 0, none⟩, cap, A, C, rfl, h1, h2, .inr ⟨g, 0, rfl, Row.lt (t := 22) hh, fun j hj => ⟨?_, (hk j hj).1, fun e => absurd e (hA j hj)⟩⟩⟩
    have := ho.cells (g := g) rfl j _ (sls_get A C (i + 1) cnt j hj)
    rwa [show (⟨g, 0, none⟩ : Addr).add j = ⟨g, 0 + j, none⟩ by unfold Addr.add; split <;> simp_all] at this
end Go.Proofs.YtifnamlgkooacaaGreatDoor

namespace Go.Proofs.YtifnamlgkooacaaGreatDoor
open Go.RowKit
attribute [local go_sem ↓] Go.wp_at_zero Go.wp_at_succ
/-- Rows of integers in the making: the first k are laid. -/
def LTo (w : World) (g n k : Nat) (N : Nat → Nat) (F : Nat → Nat → Int) : Prop :=
  g < w.heap.size ∧ Free w g ∧ ∃ (A : Nat → Option Addr) (C : Nat → Nat), ∀ j, j < n → (∃ z, w.cell? ⟨g, j, none⟩ = some z ∧ ∀ ki x, z ≠ .int ki x) ∧ (j < k → w.cell? ⟨g, j, none⟩ = some (.slice (A j) (N j) (C j)) ∧ KRow w .i64 (A j) (N j) (C j) (F j) ∧ (A j = none → C j = 0))
theorem LTo.below {w w' : World} {g n k : Nat} {N : Nat → Nat} {F : Nat → Nat → Int} (h : LTo w g n k N F) (hb : Below w.heap.size w w') : LTo w' g n k N F := by
  obtain ⟨h1, h2, A, C, h3⟩ := h
  refine ⟨Nat.lt_of_lt_of_le h1 hb.size, h2.below hb h1, A, C, fun j hj => ?_⟩
  obtain ⟨⟨z, e1, e2⟩, e3⟩ := h3 j hj
  exact ⟨⟨z, (hb.cell (p := ⟨g, j, none⟩) h1).trans e1, e2⟩, fun hk => ⟨(hb.cell (p := ⟨g, j, none⟩) h1).trans (e3 hk).1, (e3 hk).2.1.below hb, (e3 hk).2.2⟩⟩
theorem LTo.place {w : World} {g n k : Nat} {N : Nat → Nat} {F : Nat → Nat → Int} (h : LTo w g n k N F) {j : Nat} (hj : j < n) : (∃ z, w.cell? ⟨g, j, none⟩ = some z ∧ ∀ ki x, z ≠ .int ki x) ∧ w.frozen? ⟨g, j, none⟩ = false := by
  obtain ⟨h1, h2, A, C, h3⟩ := h
  exact ⟨(h3 j hj).1, h2 j⟩
theorem LTo.put {w : World} {g n k : Nat} {N N' : Nat → Nat} {F F' : Nat → Nat → Int} (h : LTo w g n k N F) {i : Nat} (hi : i < n) {a : Option Addr} {c : Nat} (hr : KRow w .i64 a (N' i) c (F' i)) (ha : a = none → c = 0) : ∀ k', (∀ j, j < k' → j ≠ i → j < k ∧ N' j = N j ∧ F' j = F j) → LTo (w.setCell ⟨g, i, none⟩ (.slice a (N' i) c)) g n k' N' F' := by
  intro k' hk'
  obtain ⟨h1, h2, A, C, h3⟩ := h
  obtain ⟨⟨z0, q1, q2⟩, _⟩ := h3 i hi
  refine ⟨by simpa using h1, h2.set _ _, (fun j => if j = i then a else A j), (fun j => if j = i then c else C j), fun j hj => ?_⟩
  obtain ⟨⟨z, e1, e2⟩, e3⟩ := h3 j hj
  by_cases e : j = i
  · subst e
    have hs := World.cell?_setCell_same w ⟨g, j, none⟩ (.slice a (N' j) c) e1
    refine ⟨⟨_, hs, fun _ _ h => by cases h⟩, fun _ => ?_⟩
    simp only [if_true]
    exact ⟨hs, hr.setAt q1 (fun z => q2 _ z) _, ha⟩
  · have hs : (w.setCell ⟨g, i, none⟩ (.slice a (N' i) c)).cell? ⟨g, j, none⟩ = w.cell? ⟨g, j, none⟩ := World.cell?_setCell_other _ _ _ _ (fun h => by injection h with _ h; omega)
    refine ⟨⟨z, hs.trans e1, e2⟩, fun hk => ?_⟩
    simp only [if_neg e]
    obtain ⟨h4, h5, h6⟩ := hk' j hk e
    obtain ⟨q3, q4, q5⟩ := e3 h4
    rw [h5, h6]
    exact ⟨hs.trans q3, q4.setAt q1 (fun z => q2 _ z) _, q5⟩
theorem LTo.step {w : World} {g n k : Nat} {N : Nat → Nat} {F : Nat → Nat → Int} (h : LTo w g n k N F) (hk : k < n) {a : Addr} {c : Nat} (hr : KRow w .i64 (some a) (N k) c (F k)) : LTo (w.setCell ⟨g, k, none⟩ (.slice (some a) (N k) c)) g n (k + 1) N F :=
  h.put hk hr (fun e => by cases e) (k + 1) (fun j hj hne => ⟨by omega, rfl, rfl⟩)
theorem LTo.done {w : World} {g n : Nat} {N : Nat → Nat} {F : Nat → Nat → Int} (h : LTo w g n n N F) (hn : n ≤ maxLen) : ∃ A C, LRow w (some ⟨g, 0, none⟩) n n A N C F := by
  obtain ⟨h1, h2, A, C, h3⟩ := h
  refine ⟨A, C, Nat.le_refl _, hn, .inr ⟨g, 0, rfl, h1, fun j hj => ?_⟩⟩
  obtain ⟨_, e3⟩ := h3 j hj
  obtain ⟨e4, e5, e6⟩ := e3 hj
  rw [Nat.zero_add]
  exact ⟨e4, e5, e6⟩
theorem LTo.made (w : World) (n : Nat) (t : TypeId) (N : Nat → Nat) (F : Nat → Nat → Int) {mc : Array Value} (hmc : mc = madeCells (Value.cells (.slice none 0 0)) n) : LTo (w.alloc (.cells mc t)) w.heap.size n 0 N F := by
  subst hmc
  have hR := Row.new w t (madeCells (Value.cells (.slice none 0 0)) n)
  refine ⟨hR.lt, fun o => hR.free o, fun _ => none, fun _ => 0, fun j hj => ⟨⟨.slice none 0 0, ?_, fun _ _ h => by cases h⟩, fun h => absurd h (Nat.not_lt_zero _)⟩⟩
  rw [hR.cell]
  unfold madeCells
  rw [Array.getElem?_map, Array.getElem?_range, if_pos (by omega), Option.map_some]
  simp [Value.cells, Nat.mod_one]
/-- The axes of an array, one of none as one of ones. -/
def paS (r : Nat) (S : Nat → Int) : Nat → Int := fun j => if r = 0 then 1 else S j
/-- How many elements of every axis, and from where on. -/
def paN (drop : Bool) (b : Int) (P S : Nat → Int) : Nat → Nat := fun j => (tkN drop (bnd b (P j)) (S j)).toNat
def paF (drop : Bool) (b : Int) (P S : Nat → Int) : Nat → Nat → Int := fun j q => tkF drop (bnd b (P j)) (S j) + (q : Int)
/-- The error of what is taken, or dropped. -/
def paE (drop : Bool) (b : Int) (r0 : Nat) (ch0 : Bool) (L0 : Nat) (P0 : Nat → Int) (Q0 : Nat → Nat) (S : Nat → Int) (r : Nat) : Int :=
  if liE r0 (whC ch0 L0 P0 Q0) = 0 then (if r = 0 ∨ L0 = r then (if 8 < L0 then 23 else pkE (lnF (paN drop b P0 (paS r S))) L0) else 24) else liE r0 (whC ch0 L0 P0 Q0)
theorem sh_ones {n : Nat} (h : n ≤ 8) : shB (fun _ => 1) n = true ∧ itm (fun _ => 1) n = 1 := by
  have h1 : ∀ k, rm (fun _ => 1) k = 1 := fun k => by
    induction k with
    | zero => rfl
    | succ k ih => show rm (fun _ => 1) k * max 1 1 = 1; rw [ih]; rfl
  have h2 : ∀ k, axB (fun _ => 1) k = true := fun k => by
    induction k with
    | zero => rfl
    | succ k ih => show (axB (fun _ => 1) k && (decide (0 ≤ (1 : Int)) && decide (rm (fun _ => 1) (k + 1) ≤ 4096))) = true; rw [ih, h1]; rfl
  have h3 : ∀ k, itm (fun _ => 1) k = 1 := fun k => by
    induction k with
    | zero => rfl
    | succ k ih => show itm (fun _ => 1) k * 1 = 1; rw [ih]; rfl
  unfold shB
  rw [h2, decide_eq_true h]
  exact ⟨rfl, h3 n⟩
theorem in64_const {x : Int} (h : -9223372036854775808 ≤ x ∧ x ≤ 9223372036854775807) (n : Nat) : In64 (fun _ => x) n := fun _ _ => h
theorem sh_more {f : Nat → Int} {n : Nat} (h : 8 < n) : shB f n = false := by
  unfold shB
  rw [decide_eq_false (by omega)]
  rfl
theorem repeat1_new (a : Option Addr) (c : Nat) (x : Int) (M : Nat) (w : World) (h : KRow w .i64 a 1 c (fun _ => x)) (hM : M ≤ 1000000) :
    Calls Tryz.prog 80 #[.slice a 1 c, .int .i64 M] w fun e w' => ∃ g, e = .returned (.slice (some ⟨g, 0, none⟩) M M) ∧ w.heap.size ≤ g ∧ g < w'.heap.size ∧ KRow w' .i64 (some ⟨g, 0, none⟩) M M (fun _ => x) ∧ Below w.heap.size w w' :=
  (repeat1_at a c (fun _ => x) M w h hM).mono (fun _ _ ⟨h1, h2, h3, h4⟩ => ⟨_, h1, Nat.le_refl _, h4, h2, h3⟩)
set_option linter.unusedSimpArgs false in
set_option linter.unusedVariables false in
set_option maxHeartbeats 6400000 in
set_option maxRecDepth 100000 in
theorem part_any (fv : FuncId) (drop : Bool) (he : Enters Tryz.prog fv) (HTL : Tells fv drop) (cs0 : Array Value) (S0 : Nat → Int) (r0 : Nat) (ch0 : Bool) (L0 : Nat) (g0 P0 : Nat → Int) (Q0 : Nat → Nat) (cs : Array Value) (S : Nat → Int) (r : Nat) (ch : Bool) (L : Nat) (g fP : Nat → Int) (fQ : Nat → Nat) (w : World)
    (h0 : Arr w cs0 S0 r0 ch0 L0 g0 P0 Q0) (h : Arr w cs S r ch L g fP fQ) (hr0 : r0 ≤ 8) (hQ0 : ch0 = false → ∀ j, j < L0 → 0 < Q0 j) (hL0 : L0 ≤ 4096) (hS : In64 S r) (hsh : shB S r = true) (hcnt : itm S r = (L : Nat)) :
    Calls Tryz.prog 41 #[.agg cs0, .agg cs, .func (.func fv) #[] #[]] w fun e w' => MoTold (paE drop 4097 r0 ch0 L0 P0 Q0 S r) (lnF (paN drop 4097 P0 (paS r S))) L0 ch (itm (lnF (paN drop 4097 P0 (paS r S))) L0).toNat (fun j => elC L g 32 (pkG (paS r S) (lnF (paN drop 4097 P0 (paS r S))) L0 (paF drop 4097 P0 (paS r S)) j)) (fun j => elP L fP (pkG (paS r S) (lnF (paN drop 4097 P0 (paS r S))) L0 (paF drop 4097 P0 (paS r S)) j)) (fun j => elQ L fQ (pkG (paS r S) (lnF (paN drop 4097 P0 (paS r S))) L0 (paF drop 4097 P0 (paS r S)) j)) w w' e := by
  have he' := he
  unfold Enters at he'
  obtain ⟨nb, nnb, ncb, tb, tnb, tcb, hcs0, _⟩ := h0.form
  subst hcs0
  obtain ⟨na, nn, nc, ta, tn, tc, hcs, _⟩ := h.form
  subst hcs
  obtain ⟨h8, hax⟩ := sh_ax hsh
  obtain ⟨i1, hi1, hy0, hy1, hy2⟩ := info_parts infoS
  have hmk := fun wz => run_make (P := Tryz.prog) wz 104 22 i1 _ Tryz.underlying104 hi1 hy0 .i64 .i64 L0 L0 (by omega) (by omega) (by rw [hy2]; omega) (by omega)
  simp only [Int.toNat_natCast, hy1, Nat.mul_one] at hmk
  have H0 := Lib.hid h0
  have H := Lib.hid h
  have LI := Lib.hid (fun wz h => cutList_any (arrC ch0 ((r0 : Int) - 1) (dm S0 r0) nb nnb ncb tb tnb tcb) S0 r0 ch0 L0 g0 P0 Q0 wz h hr0 hQ0 (by omega))
  unfold LiNew at LI
  have RK := Lib.hid (fun wz h => rank8_any (arrC ch ((r : Int) - 1) (dm S r) na nn nc ta tn tc) S r ch L g fP fQ wz h (by omega))
  have B0 := Lib.hid ((((Bag.start w).newRow (arrC ch0 ((r0 : Int) - 1) (dm S0 r0) nb nnb ncb tb tnb tcb) 32).newRow (arrC ch ((r : Int) - 1) (dm S r) na nn nc ta tn tc) 32).newRow zerC 32)
  simp only [World.size_alloc] at B0
  have HR1 := Lib.hid B0.out.now.2.2.1
  have hhi : whC ch0 L0 P0 Q0 = true → In64 P0 L0 := whC_in
  -- letters
  obtain ⟨S2, hS2⟩ : ∃ f, paS r S = f := ⟨_, rfl⟩
  obtain ⟨NN, hNN⟩ : ∃ f, paN drop 4097 P0 S2 = f := ⟨_, rfl⟩
  obtain ⟨FF, hFF⟩ : ∃ f, paF drop 4097 P0 S2 = f := ⟨_, rfl⟩
  obtain ⟨TT, hTT⟩ : ∃ f, lnF NN = f := ⟨_, rfl⟩
  obtain ⟨EE, hEE⟩ : ∃ E, paE drop 4097 r0 ch0 L0 P0 Q0 S r = E := ⟨_, rfl⟩
  rw [hEE]
  unfold paE at hEE
  rw [hS2, hNN, hTT] at hEE
  rw [hS2, hNN, hFF, hTT]
  obtain ⟨eC, heC⟩ : ∃ f : Nat → Int, (fun j => elC L g 32 (pkG S2 TT L0 FF j)) = f := ⟨_, rfl⟩
  obtain ⟨eP, heP⟩ : ∃ f : Nat → Int, (fun j => elP L fP (pkG S2 TT L0 FF j)) = f := ⟨_, rfl⟩
  obtain ⟨eQ, heQ⟩ : ∃ f : Nat → Nat, (fun j => elQ L fQ (pkG S2 TT L0 FF j)) = f := ⟨_, rfl⟩
  obtain ⟨MM, hMM⟩ : ∃ E, (itm TT L0).toNat = E := ⟨_, rfl⟩
  rw [heC, heP, heQ, hMM]
  have HNO : Hid (∀ E wz, EE = E → E ≠ 0 → Below w.heap.size w wz → MoTold EE TT L0 ch MM eC eP eQ w (wz.setRow (w.heap.size + 1 + 1) zerC) (.returned (.tuple #[.agg zerC, .int .i64 E]))) := Lib.hid (fun E wz e hE hb => by
    subst e
    exact MoTold.no hE (below_put hb (show w.heap.size ≤ w.heap.size + 1 + 1 by omega) zerC))
  have HSX : Hid (∀ k, k < L0 → (r = 0 ∨ L0 = r) → 0 ≤ S2 k ∧ S2 k ≤ 4096) := Lib.hid (fun k hk hor => by
    rw [← hS2]
    unfold paS
    by_cases e : r = 0
    · rw [if_pos e]; omega
    · rw [if_neg e]
      exact ax_le4 hsh (by omega))
  have TL : Hid ((r = 0 ∨ L0 = r) → ∀ k, k < L0 → ∀ wz, Calls Tryz.prog fv #[.int .i64 (bnd 4097 (P0 k)), .int .i64 (S2 k)] wz fun e w' => ∃ a c, e = .returned (.slice (some a) (NN k) c) ∧ KRow w' .i64 (some a) (NN k) c (FF k) ∧ Below wz.heap.size wz w') := Lib.hid (fun hor k hk wz => by
    have h1 := HSX.out k hk hor
    have h2 := bnd_bd (b := 4097) (by omega) (P0 k)
    refine (HTL wz (bnd 4097 (P0 k)) (S2 k) (by omega) (by omega) h1.1 h1.2).mono ?_
    rintro e w' ⟨a, m, c, rfl, hm, hkr, hb⟩
    have hmn : m = NN k := by rw [← hNN]; unfold paN; rw [← hm]; rfl
    subst hmn
    rw [← hFF]
    exact ⟨a, c, rfl, hkr, hb⟩)
  have CPG : Hid (∀ X, (r = 0 ∨ L0 = r) → shB S2 L0 = true → L0 ≤ 8 → EE = pkE TT L0 → ∀ aF cF A C wz, Arr wz X S2 L0 ch L g fP fQ → LRow wz aF L0 cF A NN C FF → Calls Tryz.prog 82 #[.agg X, .slice aF L0 cF] wz fun e w' => MoTold EE TT L0 ch MM eC eP eQ wz w' e) := Lib.hid (fun X hor hs hl8 hE aF cF A C wz q1 q2 => by
    have hb : ∀ j, j < L0 → 0 ≤ S2 j ∧ S2 j ≤ 4096 := fun j hj => HSX.out j hj hor
    have := cpicked_any X S2 L0 ch L g fP fQ aF cF A NN C FF wz q1 hl8 (fun j hj => by have := hb j hj; omega) hs q2 (fun j hj => by
        rw [← hNN]
        have h1 := hb j hj
        have h2 := bnd_bd (b := 4097) (by omega) (P0 j)
        unfold paN tkN
        split <;> omega) (fun j q hj hq => by
        have h1 := hb j hj
        have h2 := bnd_bd (b := 4097) (by omega) (P0 j)
        have h3 : q < 10000 := by
          rw [← hNN] at hq
          unfold paN tkN at hq
          split at hq <;> omega
        rw [← hFF]
        show -1000000000 ≤ tkF drop (bnd 4097 (P0 j)) (S2 j) + (q : Int) ∧ tkF drop (bnd 4097 (P0 j)) (S2 j) + (q : Int) ≤ 1000000000
        unfold tkF
        split <;> split <;> omega)
    rw [hTT, heC, heP, heQ, hMM, ← hE] at this
    exact this)
  have HS1 : r = 0 → S2 = fun _ => 1 := fun e => by rw [← hS2]; funext j; unfold paS; rw [if_pos e]
  have HS3 : r ≠ 0 → S2 = S := fun e => by rw [← hS2]; funext j; unfold paS; rw [if_neg e]
  clear hS2 hNN hFF hTT heC heP heQ hMM HTL h0 h hQ0 hi1 hy0 hy1 hy2 HSX
  generalize whC ch0 L0 P0 Q0 = wb at *
  by_cases hE : liE r0 wb = 0
  · have hin := hhi (liE_whole hE)
    rw [if_pos hE] at hEE
    rw [hE] at LI
    clear hE hhi
    have hp64 := Lib.hid hin
    by_cases hr : r = 0
    · have hS2 := HS1 hr
      have TL := Lib.hid (TL.out (.inl hr))
      have CPG := Lib.hid (fun X => CPG.out X (.inl hr))
      subst hS2
      rw [if_pos (.inl hr)] at hEE
      have hL1 : L = 1 := by rw [hr] at hcnt; have : itm S 0 = 1 := rfl; omega
      have d0 : (((r : Nat) : Int) == 0) = true := beq_iff_eq.2 (by omega)
      subst hL1
      clear HS1 HS3 hcnt hax hsh hS hr
      unfold arrC
      go_enter Tryz.func41, Tryz.ntmps41
      go_wp2_with (refine ld_arr rfl (.tmp 3) rfl w.heap.size rfl HR1.out ?_)
      go_at_call 79
      (with_reducible refine (LI.out _ ?_).mono ?_)
      · exact H0.out.below B0.out.below
      rintro e w3 ⟨aL, mL, cL, rfl, hk6, hb3⟩
      obtain ⟨hm6, hk7, hnw⟩ := hk6 trivial
      clear hk6
      subst mL
      have BB := Lib.hid (B0.out.go hb3)
      have BB : Hid (Bag w (fun y => Row y (w.heap.size + 1 + 1) 32 zerC ∧ Row y (w.heap.size + 1) 32 (arrC ch ((r : Int) - 1) (dm S r) na nn nc ta tn tc) ∧ KRow y .i64 aL L0 cL P0 ∧ True) w3) := Lib.hid ⟨BB.out.below, fun a b hb ⟨h1, h2, h3, _⟩ => ⟨h1.below hb, h2.below hb, h3.below hb, trivial⟩, BB.out.now.1, BB.out.now.2.1, hk7, trivial⟩
      have HNW : Hid (L0 = 0 ∨ ∀ x, aL = some x → x.block ≠ w.heap.size + 1) := Lib.hid (hnw.imp id (fun h x hx => by have := h x hx; simp only [World.size_alloc] at this; omega))
      have HR4 := Lib.hid BB.out.now.2.1
      have hl := hk7.len
      clear hk7 hnw hb3
      go_wp2_with (refine ld_arr rfl (.tmp 4) rfl (w.heap.size + 1) rfl HR4.out ?_)
      go_at_call 23
      (with_reducible refine (RK.out _ ?_).mono ?_)
      · exact H.out.below BB.out.below
      rintro e w4 ⟨rfl, hb4⟩
      have BB := Lib.hid (BB.out.go hb4)
      clear hb4 HR4
      have RP := Lib.hid (fun a wz (q : KRow wz .i64 a 1 1 (fun _ => 1)) => repeat1_new a 1 1 L0 wz q (by omega))
      go_wp2_with fail
      generalize hYY : w4 = YY at *
      clear hYY
      by_cases hl8 : 8 < L0
      · rw [if_pos hl8] at hEE
        have hbf : (shB (fun _ => 1) L0 && decide (itm (fun _ => 1) L0 = ((1 : Nat) : Int))) = false := by rw [sh_more hl8]; rfl
        have PK : Hid (∀ k4 k5 wz, Arr wz (arrC ch ((r : Int) - 1) (dm S r) na nn nc ta tn tc) S r ch 1 g fP fQ → KRow wz .i64 (some ⟨k4, 0, none⟩) L0 L0 (fun _ => 1) → KRow wz .i64 (some ⟨k5, 0, none⟩) 1 1 (fun _ => 0) → Calls Tryz.prog 52 #[.agg (arrC ch ((r : Int) - 1) (dm S r) na nn nc ta tn tc), .slice (some ⟨k4, 0, none⟩) L0 L0, .slice (some ⟨k5, 0, none⟩) 1 1] wz fun e w' => ∃ x6, e = .returned (.tuple #[.agg x6, .bool false]) ∧ IsA x6 ∧ Below wz.heap.size wz w') := Lib.hid (fun k4 k5 wz q1 q2 q3 => (pick8_any (arrC ch ((r : Int) - 1) (dm S r) na nn nc ta tn tc) S r ch 1 g fP fQ (some ⟨k4, 0, none⟩) L0 L0 (fun _ => 1) (some ⟨k5, 0, none⟩) 1 1 (fun _ => 0) wz q1 q2 (in64_const (by omega) _) q3 (in64_const (by omega) _) (by omega)).mono (by
          rintro e w' ⟨x6, he, hx, hb⟩
          rw [hbf] at he hx
          rw [if_neg (by decide)] at hx
          exact ⟨x6, he, hx ▸ IsA.zer, hb⟩))
        clear hl8 hbf CPG TL
        refine wp_region_inv2 ⟨(fun j => ([[28], [29], [30], [31], [32], [33], [34], [27], [35], [36], [10], [10], [11]] : List (List Nat)).getD j []), (fun j => ([[], [], [], [2], [1, 2, 3], [], [0, 1, 2, 3, 4, 5], [0, 1, 2, 3, 4, 5, 6], [0, 1, 2, 3, 4, 5, 6, 7], [0, 1, 2, 3, 4, 5, 6, 7], [], [0, 1, 2, 3, 4, 5, 6, 7, 8, 10], [0, 1, 2, 3, 4, 5, 6, 7, 8, 9, 10, 11]] : List (List Nat)).getD j []), [1, 4, 5, 10]⟩ (fun jj vv yy => match jj with | 0 => vv = [some (.agg (arrC ch ((r : Int) - 1) (dm S r) na nn nc ta tn tc))] | 1 => ∃ (k1 : Nat), vv = [some (.slice (some ⟨k1, 0, none⟩) 1 1)] ∧ KRow yy .i64 (some ⟨k1, 0, none⟩) 1 1 (fun _ => 1) | 2 => vv = [some (.slice aL L0 cL)] | 3 => vv = [some (.int .i64 L0)] | 4 => ∃ (k4 : Nat), vv = [some (.slice (some ⟨k4, 0, none⟩) L0 L0)] ∧ KRow yy .i64 (some ⟨k4, 0, none⟩) L0 L0 (fun _ => 1) | 5 => ∃ (k5 : Nat), vv = [some (.slice (some ⟨k5, 0, none⟩) 1 1)] ∧ KRow yy .i64 (some ⟨k5, 0, none⟩) 1 1 (fun _ => 0) | 6 => ∃ (x6 : Array Value), vv = [some (.tuple #[.agg x6, .bool false])] ∧ IsA x6 | 7 => ∃ (x6 : Array Value), vv = [some (.tuple #[.agg x6, .bool false])] ∧ IsA x6 | 8 => ∃ (x6 : Array Value), vv = [some (.agg x6)] ∧ IsA x6 | 9 => vv = [some (.bool false)] | 10 => ∃ (k10 : Nat), ∃ (z10 : Array Value), vv = [some (.pointer (some ⟨k10, 0, none⟩))] ∧ Row yy k10 32 z10 ∧ IsA z10 ∧ YY.heap.size ≤ k10 | 11 => ∃ (k10 : Nat), ∃ (x6 : Array Value), vv = [some (.pointer (some ⟨k10, 0, none⟩))] ∧ Row yy k10 32 x6 ∧ IsA x6 | 12 => vv = [some (.bool false)] | _ => True) (Bag YY (fun _ => True)) (by kernel_rfl) (by kernel_rfl) (by kernel_rfl) (Bag.start YY).drew ?_ ?_ ?_
        · intro jj vv yw yw2 hb h
          match jj, h with
          | 0, h => exact h
          | 1, ⟨k1, e1, g1_0⟩ => exact Exists.intro k1 (And.intro e1 (g1_0.below hb))
          | 2, h => exact h
          | 3, h => exact h
          | 4, ⟨k4, e4, g4_0⟩ => exact Exists.intro k4 (And.intro e4 (g4_0.below hb))
          | 5, ⟨k5, e5, g5_0⟩ => exact Exists.intro k5 (And.intro e5 (g5_0.below hb))
          | 6, h => exact h
          | 7, h => exact h
          | 8, h => exact h
          | 9, h => exact h
          | 10, ⟨k10, z10, e10, g10_0, g10_1, g10_2⟩ => exact Exists.intro k10 (Exists.intro z10 (And.intro e10 (And.intro (g10_0.below hb) (And.intro g10_1 g10_2))))
          | 11, ⟨k10, x6, e11, g11_0, g11_1⟩ => exact Exists.intro k10 (Exists.intro x6 (And.intro e11 (And.intro (g11_0.below hb) g11_1)))
          | 12, h => exact h
          | _ + 13, h => exact h
        · intro ac yw hsz hdf hold hB hp
          obtain ⟨k10, x6, e11, r10, i6⟩ := hp 11 (by decide)
          have t10 : ac.tmps[10]? = some (.pointer (some ⟨k10, 0, none⟩)) := (List.cons.inj e11).1
          have t11 : ac.tmps[11]? = some (.bool false) := (List.cons.inj (hp 12 (by decide))).1
          have t2 : ac.tmps[2]? = some (.func (.func fv) #[] #[]) := hold 2 (by kernel_rfl)
          have t4 : ac.tmps[4]? = some (.pointer (some ⟨w.heap.size + 1, 0, none⟩)) := hold 4 (by kernel_rfl)
          have t6 : ac.tmps[6]? = some (.pointer (some ⟨w.heap.size + 1 + 1, 0, none⟩)) := hold 6 (by kernel_rfl)
          have t8 : ac.tmps[8]? = some (.slice aL L0 cL) := hold 8 (by kernel_rfl)
          have BB := Lib.hid (BB.out.go hB.below)
          have HZ := Lib.hid BB.out.now.1
          have HE := Lib.hid (HNO.out 23 _ hEE.symm (by decide) BB.out.below)
          clear hold hp e11 r10 i6 hB hEE
          obtain ⟨TW, hTW⟩ : ∃ TW : Nat → Value, ∀ i, (ac.tmps[i]?).getD undef = TW i := ⟨_, fun _ => rfl⟩
          have f2 := (hTW 2).symm.trans (congrArg (fun x => Option.getD x undef) t2)
          have f4 := (hTW 4).symm.trans (congrArg (fun x => Option.getD x undef) t4)
          have f6 := (hTW 6).symm.trans (congrArg (fun x => Option.getD x undef) t6)
          have f8 := (hTW 8).symm.trans (congrArg (fun x => Option.getD x undef) t8)
          have f10 := (hTW 10).symm.trans (congrArg (fun x => Option.getD x undef) t10)
          have f11 := (hTW 11).symm.trans (congrArg (fun x => Option.getD x undef) t11)
          have hac := act_eq (n := 75) hsz TW hTW
          rw [show ((List.range 75).map TW).toArray = #[TW 0, TW 1, TW 2, TW 3, TW 4, TW 5, TW 6, TW 7, TW 8, TW 9, TW 10, TW 11, TW 12, TW 13, TW 14, TW 15, TW 16, TW 17, TW 18, TW 19, TW 20, TW 21, TW 22, TW 23, TW 24, TW 25, TW 26, TW 27, TW 28, TW 29, TW 30, TW 31, TW 32, TW 33, TW 34, TW 35, TW 36, TW 37, TW 38, TW 39, TW 40, TW 41, TW 42, TW 43, TW 44, TW 45, TW 46, TW 47, TW 48, TW 49, TW 50, TW 51, TW 52, TW 53, TW 54, TW 55, TW 56, TW 57, TW 58, TW 59, TW 60, TW 61, TW 62, TW 63, TW 64, TW 65, TW 66, TW 67, TW 68, TW 69, TW 70, TW 71, TW 72, TW 73, TW 74] from rfl, f2, f4, f6, f8, f10, f11, hdf] at hac
          simp only [Option.getD_some] at hac
          subst hac
          clear hTW f2 f4 f6 f8 f10 f11
          unfold zerC arrC at HZ
          go_wp2_with (refine st_arr rfl (.tmp 6) (.tmp 39) rfl (w.heap.size + 1 + 1) rfl false 0 (fun _ => 0) none 0 0 none 0 0 rfl HZ.out rfl ?_)
          exact bodyPost_ret (res_arr2 Tryz.results41 rfl rfl (HZ.out.put _) rfl) rfl HE.out
        refine Stps2.cons (o := _) ?_ ?_
        · intro ac yw hsz hold hB hp K hK
          have t4 : ac.tmps[4]? = some (.pointer (some ⟨w.heap.size + 1, 0, none⟩)) := hold 4 (by kernel_rfl)
          clear hold hp hsz
          rw [if_pos (by rfl)]
          refine ld8 4 rfl (w.heap.size + 1) ((arrC ch ((r : Int) - 1) (dm S r) na nn nc ta tn tc)) t4 ((BB.out.go hB.below).now.2.1) (rfl) ?_
          exact hK.out _ _ ⟨hB, rfl, Nat.le_refl _, .inl (Below.refl _ _), fun h => absurd h (by decide)⟩
        refine Stps2.cons (o := _) ?_ ?_
        · intro ac yw hsz hold hB hp K hK
          clear hold hp hsz
          have hbz : Below yw.heap.size yw (yw.alloc (.cells #[.int .i64 1] 3)) ∧ yw.heap.size < (yw.alloc (.cells #[.int .i64 1] 3)).heap.size := ⟨(Below.refl _ _).alloc (Nat.le_refl _) _, by rw [World.size_alloc]; omega⟩
          go_simp
          exact hK.out _ _ ⟨hB.alloc _, Exists.intro yw.heap.size (And.intro rfl (KRow.one' yw .i64 1 3)), Nat.le_of_lt hbz.2, .inl hbz.1, fun _ => ⟨_, rfl, Nat.le_refl _, hbz.2⟩⟩
        refine Stps2.cons (o := _) ?_ ?_
        · intro ac yw hsz hold hB hp K hK
          have t8 : ac.tmps[8]? = some (.slice aL L0 cL) := hold 8 (by kernel_rfl)
          clear hold hp hsz
          go_simp
          exact hK.out _ _ ⟨hB, rfl, Nat.le_refl _, .inl (Below.refl _ _), fun h => absurd h (by decide)⟩
        refine Stps2.cons (o := _) ?_ ?_
        · intro ac yw hsz hold hB hp K hK
          have e2 := hp 2 (by decide)
          have t30 : ac.tmps[30]? = some (.slice aL L0 cL) := (List.cons.inj e2).1
          clear hold hp hsz e2
          go_simp
          exact hK.out _ _ ⟨hB, rfl, Nat.le_refl _, .inl (Below.refl _ _), fun h => absurd h (by decide)⟩
        refine Stps2.cons (o := _) ?_ ?_
        · intro ac yw hsz hold hB hp K hK
          obtain ⟨k1_1, e1, g1_0⟩ := hp 1 (by decide)
          have t29 : ac.tmps[29]? = some (.slice (some ⟨k1_1, 0, none⟩) 1 1) := (List.cons.inj e1).1
          have e3 := hp 3 (by decide)
          have t31 : ac.tmps[31]? = some (.int .i64 L0) := (List.cons.inj e3).1
          clear hold hp hsz e1 e3
          go_simp
          (go_at_call 80; (refine (RP.out _ _ g1_0).mono ?_); rintro e wz ⟨k4, rfl, hge, hlt4, h4_0, hbz⟩)
          exact hK.out _ _ ⟨hB.go hbz, Exists.intro k4 (And.intro rfl h4_0), hbz.size, .inl hbz, fun _ => ⟨_, rfl, hge, hlt4⟩⟩
        refine Stps2.cons (o := _) ?_ ?_
        · intro ac yw hsz hold hB hp K hK
          clear hold hp hsz
          have hbz : Below yw.heap.size yw (yw.alloc (.cells #[.int .i64 0] 3)) ∧ yw.heap.size < (yw.alloc (.cells #[.int .i64 0] 3)).heap.size := ⟨(Below.refl _ _).alloc (Nat.le_refl _) _, by rw [World.size_alloc]; omega⟩
          go_simp
          exact hK.out _ _ ⟨hB.alloc _, Exists.intro yw.heap.size (And.intro rfl (KRow.one' yw .i64 0 3)), Nat.le_of_lt hbz.2, .inl hbz.1, fun _ => ⟨_, rfl, Nat.le_refl _, hbz.2⟩⟩
        refine Stps2.cons (o := _) ?_ ?_
        · intro ac yw hsz hold hB hp K hK
          have e0 := hp 0 (by decide)
          have t28 : ac.tmps[28]? = some (.agg (arrC ch ((r : Int) - 1) (dm S r) na nn nc ta tn tc)) := (List.cons.inj e0).1
          obtain ⟨k4_4, e4, g4_0⟩ := hp 4 (by decide)
          have t32 : ac.tmps[32]? = some (.slice (some ⟨k4_4, 0, none⟩) L0 L0) := (List.cons.inj e4).1
          obtain ⟨k5_5, e5, g5_0⟩ := hp 5 (by decide)
          have t33 : ac.tmps[33]? = some (.slice (some ⟨k5_5, 0, none⟩) 1 1) := (List.cons.inj e5).1
          clear hold hp hsz e0 e4 e5
          go_simp
          (go_at_call 52; (refine (PK.out _ _ _ (H.out.below (BB.out.go hB.below).below) g4_0 g5_0).mono ?_); rintro e wz ⟨x6, rfl, h6_0, hbz⟩)
          exact hK.out _ _ ⟨hB.go hbz, Exists.intro x6 (And.intro rfl h6_0), hbz.size, .inl hbz, fun h => absurd h (by decide)⟩
        refine Stps2.cons (o := _) ?_ ?_
        · intro ac yw hsz hold hB hp K hK
          obtain ⟨x6_6, e6, g6_0⟩ := hp 6 (by decide)
          have t34 : ac.tmps[34]? = some (.tuple #[.agg x6_6, .bool false]) := (List.cons.inj e6).1
          clear hold hp hsz e6
          go_simp
          exact hK.out _ _ ⟨hB, Exists.intro x6_6 (And.intro rfl g6_0), Nat.le_refl _, .inl (Below.refl _ _), fun h => absurd h (by decide)⟩
        refine Stps2.cons (o := _) ?_ ?_
        · intro ac yw hsz hold hB hp K hK
          obtain ⟨x6_7, e7, g7_0⟩ := hp 7 (by decide)
          have t27 : ac.tmps[27]? = some (.tuple #[.agg x6_7, .bool false]) := (List.cons.inj e7).1
          clear hold hp hsz e7
          go_simp
          exact hK.out _ _ ⟨hB, Exists.intro x6_7 (And.intro rfl g7_0), Nat.le_refl _, .inl (Below.refl _ _), fun h => absurd h (by decide)⟩
        refine Stps2.cons (o := _) ?_ ?_
        · intro ac yw hsz hold hB hp K hK
          obtain ⟨x6_7, e7, g7_0⟩ := hp 7 (by decide)
          have t27 : ac.tmps[27]? = some (.tuple #[.agg x6_7, .bool false]) := (List.cons.inj e7).1
          clear hold hp hsz e7
          go_simp
          exact hK.out _ _ ⟨hB, rfl, Nat.le_refl _, .inl (Below.refl _ _), fun h => absurd h (by decide)⟩
        refine Stps2.cons (o := _) ?_ ?_
        · intro ac yw hsz hold hB hp K hK
          clear hold hp hsz
          have hbz : Below yw.heap.size yw (yw.alloc (.cells zerC 32)) ∧ yw.heap.size < (yw.alloc (.cells zerC 32)).heap.size := ⟨(Below.refl _ _).alloc (Nat.le_refl _) _, by rw [World.size_alloc]; omega⟩
          go_simp
          exact hK.out _ _ ⟨hB.alloc _, Exists.intro yw.heap.size (Exists.intro zerC (And.intro rfl (And.intro ((Row.new yw _ zerC)) (And.intro IsA.zer hB.below.size)))), Nat.le_of_lt hbz.2, .inl hbz.1, fun _ => ⟨_, rfl, Nat.le_refl _, hbz.2⟩⟩
        refine Stps2.cons (o := _) ?_ ?_
        · intro ac yw hsz hold hB hp K hK
          obtain ⟨k10_10, z10_10, e10, g10_0, g10_1, g10_2⟩ := hp 10 (by decide)
          have t10 : ac.tmps[10]? = some (.pointer (some ⟨k10_10, 0, none⟩)) := (List.cons.inj e10).1
          obtain ⟨x6_8, e8, g8_0⟩ := hp 8 (by decide)
          have t35 : ac.tmps[35]? = some (.agg x6_8) := (List.cons.inj e8).1
          clear hold hp hsz e10 e8
          rw [if_pos (by rfl)]
          have HB : Bag _ (fun _ => True) (yw.setRow k10_10 x6_8) := ⟨below_put hB.below g10_2 _, fun _ _ _ _ => trivial, trivial⟩
          refine st8 10 35 rfl k10_10 x6_8 t10 t35 _ z10_10 g10_0 g10_1 g8_0 ?_
          refine hK.out undef _ ⟨HB, Exists.intro k10_10 (Exists.intro x6_8 (And.intro (congrArg (fun x => [x]) t10) (And.intro (g10_0.put _) g8_0))), by simp [World.setRow], .inr ?_, fun h => absurd h (by decide)⟩
          intro jj hj hap h
          match jj, h with
          | 0, h => exact h
          | 1, ⟨k1, e1, g1_0⟩ =>
            have hne : k1 ≠ k10_10 := fun e => hap 10 (by decide) 1 (by decide) (by decide) (by decide) (by decide) k10_10 ⟨10, _, rfl, t10, rfl⟩ ⟨29, _, rfl, (List.cons.inj e1).1, congrArg some e⟩
            exact Exists.intro k1 (And.intro e1 (g1_0.away (.inr (fun x hx => by obtain rfl := Option.some.inj hx; exact hne)) (Far.setRow _ _ _)))
          | 2, h => exact h
          | 3, h => exact h
          | 4, ⟨k4, e4, g4_0⟩ =>
            have hne : k4 ≠ k10_10 := fun e => hap 10 (by decide) 4 (by decide) (by decide) (by decide) (by decide) k10_10 ⟨10, _, rfl, t10, rfl⟩ ⟨32, _, rfl, (List.cons.inj e4).1, congrArg some e⟩
            exact Exists.intro k4 (And.intro e4 (g4_0.away (.inr (fun x hx => by obtain rfl := Option.some.inj hx; exact hne)) (Far.setRow _ _ _)))
          | 5, ⟨k5, e5, g5_0⟩ =>
            have hne : k5 ≠ k10_10 := fun e => hap 10 (by decide) 5 (by decide) (by decide) (by decide) (by decide) k10_10 ⟨10, _, rfl, t10, rfl⟩ ⟨33, _, rfl, (List.cons.inj e5).1, congrArg some e⟩
            exact Exists.intro k5 (And.intro e5 (g5_0.away (.inr (fun x hx => by obtain rfl := Option.some.inj hx; exact hne)) (Far.setRow _ _ _)))
          | 6, h => exact h
          | 7, h => exact h
          | 8, h => exact h
          | 9, h => exact h
          | 10, ⟨k10, z10, e10, g10_0, g10_1, g10_2⟩ =>
            have e9 : k10 = k10_10 := by have := (List.cons.inj e10).1.symm.trans t10; cases this; rfl
            subst e9
            exact Exists.intro _ (Exists.intro _ (And.intro e10 (And.intro (g10_0.put _) (And.intro g8_0 g10_2))))
          | 11, _ => exact absurd rfl hj
          | 12, h => exact h
          | _ + 13, h => exact h
        refine Stps2.cons (o := _) ?_ ?_
        · intro ac yw hsz hold hB hp K hK
          have e9 := hp 9 (by decide)
          have t36 : ac.tmps[36]? = some (.bool false) := (List.cons.inj e9).1
          clear hold hp hsz e9
          go_simp
          exact hK.out _ _ ⟨hB, rfl, Nat.le_refl _, .inl (Below.refl _ _), fun h => absurd h (by decide)⟩
        exact Stps2.nil _
      · rw [if_neg hl8] at hEE
        have hL8 : L0 ≤ 8 := by omega
        have hbt : (shB (fun _ => 1) L0 && decide (itm (fun _ => 1) L0 = ((1 : Nat) : Int))) = true := by rw [(sh_ones hL8).1, (sh_ones hL8).2]; rfl
        have PK : Hid (∀ k4 k5 wz, Arr wz (arrC ch ((r : Int) - 1) (dm S r) na nn nc ta tn tc) S r ch 1 g fP fQ → KRow wz .i64 (some ⟨k4, 0, none⟩) L0 L0 (fun _ => 1) → KRow wz .i64 (some ⟨k5, 0, none⟩) 1 1 (fun _ => 0) → Calls Tryz.prog 52 #[.agg (arrC ch ((r : Int) - 1) (dm S r) na nn nc ta tn tc), .slice (some ⟨k4, 0, none⟩) L0 L0, .slice (some ⟨k5, 0, none⟩) 1 1] wz fun e w' => ∃ x6, e = .returned (.tuple #[.agg x6, .bool true]) ∧ Arr w' x6 (fun _ => 1) L0 ch 1 g fP fQ ∧ Below wz.heap.size wz w') := Lib.hid (fun k4 k5 wz q1 q2 q3 => (pick8_any (arrC ch ((r : Int) - 1) (dm S r) na nn nc ta tn tc) S r ch 1 g fP fQ (some ⟨k4, 0, none⟩) L0 L0 (fun _ => 1) (some ⟨k5, 0, none⟩) 1 1 (fun _ => 0) wz q1 q2 (in64_const (by omega) _) q3 (in64_const (by omega) _) (by omega)).mono (by
          rintro e w' ⟨x6, he, hx, hb⟩
          rw [hbt] at he hx
          rw [if_pos rfl] at hx
          exact ⟨x6, he, hx.on (fun j hj => by obtain rfl : j = 0 := by omega
                                               rfl) (fun j hj => by obtain rfl : j = 0 := by omega
                                                                    rfl) (fun j hj => by obtain rfl : j = 0 := by omega
                                                                                         rfl), hb⟩))
        have CP := Lib.hid (fun X => CPG.out X (sh_ones hL8).1 hL8 hEE.symm)
        clear hl8 hbt CPG hEE
        refine wp_region_inv2 ⟨(fun j => ([[28], [29], [30], [31], [32], [33], [34], [27], [35], [36], [10], [10], [11]] : List (List Nat)).getD j []), (fun j => ([[], [], [], [2], [1, 2, 3], [], [0, 1, 2, 3, 4, 5], [0, 1, 2, 3, 4, 5, 6], [0, 1, 2, 3, 4, 5, 6, 7], [0, 1, 2, 3, 4, 5, 6, 7], [], [0, 1, 2, 3, 4, 5, 6, 7, 8, 10], [0, 1, 2, 3, 4, 5, 6, 7, 8, 9, 10, 11]] : List (List Nat)).getD j []), [1, 4, 5, 10]⟩ (fun jj vv yy => match jj with | 0 => vv = [some (.agg (arrC ch ((r : Int) - 1) (dm S r) na nn nc ta tn tc))] | 1 => ∃ (k1 : Nat), vv = [some (.slice (some ⟨k1, 0, none⟩) 1 1)] ∧ KRow yy .i64 (some ⟨k1, 0, none⟩) 1 1 (fun _ => 1) | 2 => vv = [some (.slice aL L0 cL)] | 3 => vv = [some (.int .i64 L0)] | 4 => ∃ (k4 : Nat), vv = [some (.slice (some ⟨k4, 0, none⟩) L0 L0)] ∧ KRow yy .i64 (some ⟨k4, 0, none⟩) L0 L0 (fun _ => 1) | 5 => ∃ (k5 : Nat), vv = [some (.slice (some ⟨k5, 0, none⟩) 1 1)] ∧ KRow yy .i64 (some ⟨k5, 0, none⟩) 1 1 (fun _ => 0) | 6 => ∃ (x6 : Array Value), vv = [some (.tuple #[.agg x6, .bool true])] ∧ Arr yy x6 (fun _ => 1) L0 ch 1 g fP fQ ∧ IsA x6 | 7 => ∃ (x6 : Array Value), vv = [some (.tuple #[.agg x6, .bool true])] ∧ Arr yy x6 (fun _ => 1) L0 ch 1 g fP fQ ∧ IsA x6 | 8 => ∃ (x6 : Array Value), vv = [some (.agg x6)] ∧ Arr yy x6 (fun _ => 1) L0 ch 1 g fP fQ ∧ IsA x6 | 9 => vv = [some (.bool true)] | 10 => ∃ (k10 : Nat), ∃ (z10 : Array Value), vv = [some (.pointer (some ⟨k10, 0, none⟩))] ∧ Row yy k10 32 z10 ∧ IsA z10 ∧ YY.heap.size ≤ k10 | 11 => ∃ (k10 : Nat), ∃ (x6 : Array Value), vv = [some (.pointer (some ⟨k10, 0, none⟩))] ∧ Row yy k10 32 x6 ∧ Arr yy x6 (fun _ => 1) L0 ch 1 g fP fQ ∧ IsA x6 | 12 => vv = [some (.bool true)] | _ => True) (Bag YY (fun _ => True)) (by kernel_rfl) (by kernel_rfl) (by kernel_rfl) (Bag.start YY).drew ?_ ?_ ?_
        · intro jj vv yw yw2 hb h
          match jj, h with
          | 0, h => exact h
          | 1, ⟨k1, e1, g1_0⟩ => exact Exists.intro k1 (And.intro e1 (g1_0.below hb))
          | 2, h => exact h
          | 3, h => exact h
          | 4, ⟨k4, e4, g4_0⟩ => exact Exists.intro k4 (And.intro e4 (g4_0.below hb))
          | 5, ⟨k5, e5, g5_0⟩ => exact Exists.intro k5 (And.intro e5 (g5_0.below hb))
          | 6, ⟨x6, e6, g6_0, g6_1⟩ => exact Exists.intro x6 (And.intro e6 (And.intro (g6_0.below hb) g6_1))
          | 7, ⟨x6, e7, g7_0, g7_1⟩ => exact Exists.intro x6 (And.intro e7 (And.intro (g7_0.below hb) g7_1))
          | 8, ⟨x6, e8, g8_0, g8_1⟩ => exact Exists.intro x6 (And.intro e8 (And.intro (g8_0.below hb) g8_1))
          | 9, h => exact h
          | 10, ⟨k10, z10, e10, g10_0, g10_1, g10_2⟩ => exact Exists.intro k10 (Exists.intro z10 (And.intro e10 (And.intro (g10_0.below hb) (And.intro g10_1 g10_2))))
          | 11, ⟨k10, x6, e11, g11_0, g11_1, g11_2⟩ => exact Exists.intro k10 (Exists.intro x6 (And.intro e11 (And.intro (g11_0.below hb) (And.intro (g11_1.below hb) g11_2))))
          | 12, h => exact h
          | _ + 13, h => exact h
        · intro ac yw hsz hdf hold hB hp
          obtain ⟨k10, x6, e11, r10, a6, i6⟩ := hp 11 (by decide)
          have t10 : ac.tmps[10]? = some (.pointer (some ⟨k10, 0, none⟩)) := (List.cons.inj e11).1
          have t11 : ac.tmps[11]? = some (.bool true) := (List.cons.inj (hp 12 (by decide))).1
          have t2 : ac.tmps[2]? = some (.func (.func fv) #[] #[]) := hold 2 (by kernel_rfl)
          have t4 : ac.tmps[4]? = some (.pointer (some ⟨w.heap.size + 1, 0, none⟩)) := hold 4 (by kernel_rfl)
          have t6 : ac.tmps[6]? = some (.pointer (some ⟨w.heap.size + 1 + 1, 0, none⟩)) := hold 6 (by kernel_rfl)
          have t8 : ac.tmps[8]? = some (.slice aL L0 cL) := hold 8 (by kernel_rfl)
          have BB := Lib.hid (BB.out.go hB.below)
          have HR10 := Lib.hid r10
          have HRA := Lib.hid BB.out.now.2.1
          have HA : Hid (Arr (yw.setRow (w.heap.size + 1) x6) x6 (fun _ => 1) L0 ch 1 g fP fQ) := Lib.hid (a6.store HRA.out ⟨_, _, _, _, _, _, _, _, _, rfl⟩ x6)
          have HR4 := Lib.hid (HRA.out.put x6)
          have BB : Hid (Bag w (fun y => Row y (w.heap.size + 1 + 1) 32 zerC ∧ Row y (w.heap.size + 1) 32 x6 ∧ KRow y .i64 aL L0 cL P0 ∧ True) (yw.setRow (w.heap.size + 1) x6)) := Lib.hid ⟨below_put BB.out.below (show w.heap.size ≤ w.heap.size + 1 by omega) x6, fun a b hb ⟨h1, h2, h3, _⟩ => ⟨h1.below hb, h2.below hb, h3.below hb, trivial⟩, BB.out.now.1.puto (show w.heap.size + 1 + 1 ≠ w.heap.size + 1 by omega) x6, HRA.out.put x6, BB.out.now.2.2.1.away HNW.out (Far.setRow _ _ _), trivial⟩
          have CP : Hid (∀ aF cF A C wz, Arr wz x6 (fun _ => 1) L0 ch 1 g fP fQ → LRow wz aF L0 cF A NN C FF → Calls Tryz.prog 82 #[.agg x6, .slice aF L0 cF] wz fun e w' => MoTold EE TT L0 ch MM eC eP eQ wz w' e) := Lib.hid (fun aF cF A C wz q1 q2 => CP.out x6 aF cF A C wz q1 q2)
          have RK2 := Lib.hid (fun wz h => rank8_any x6 (fun _ => 1) L0 ch 1 g fP fQ wz h (by omega))
          have SH2 : Hid (∀ wz, Arr wz x6 (fun _ => 1) L0 ch 1 g fP fQ → Calls Tryz.prog 35 #[.agg x6] wz fun e w' => ∃ g c', e = .returned (.slice (some ⟨g, 0, none⟩) L0 c') ∧ wz.heap.size ≤ g ∧ g < w'.heap.size ∧ KRow w' .i64 (some ⟨g, 0, none⟩) L0 c' (fun _ => 1) ∧ Below wz.heap.size wz w') := Lib.hid (fun wz q => shape_new x6 (fun _ => 1) L0 ch 1 g fP fQ wz q hL8)
          obtain ⟨q1, q2, q3, q4, q5, q6, q7, q8, q9, hx6⟩ := i6
          subst hx6
          clear hold hp e11 r10 a6 hB
          obtain ⟨TW, hTW⟩ : ∃ TW : Nat → Value, ∀ i, (ac.tmps[i]?).getD undef = TW i := ⟨_, fun _ => rfl⟩
          have f2 := (hTW 2).symm.trans (congrArg (fun x => Option.getD x undef) t2)
          have f4 := (hTW 4).symm.trans (congrArg (fun x => Option.getD x undef) t4)
          have f6 := (hTW 6).symm.trans (congrArg (fun x => Option.getD x undef) t6)
          have f8 := (hTW 8).symm.trans (congrArg (fun x => Option.getD x undef) t8)
          have f10 := (hTW 10).symm.trans (congrArg (fun x => Option.getD x undef) t10)
          have f11 := (hTW 11).symm.trans (congrArg (fun x => Option.getD x undef) t11)
          have hac := act_eq (n := 75) hsz TW hTW
          rw [show ((List.range 75).map TW).toArray = #[TW 0, TW 1, TW 2, TW 3, TW 4, TW 5, TW 6, TW 7, TW 8, TW 9, TW 10, TW 11, TW 12, TW 13, TW 14, TW 15, TW 16, TW 17, TW 18, TW 19, TW 20, TW 21, TW 22, TW 23, TW 24, TW 25, TW 26, TW 27, TW 28, TW 29, TW 30, TW 31, TW 32, TW 33, TW 34, TW 35, TW 36, TW 37, TW 38, TW 39, TW 40, TW 41, TW 42, TW 43, TW 44, TW 45, TW 46, TW 47, TW 48, TW 49, TW 50, TW 51, TW 52, TW 53, TW 54, TW 55, TW 56, TW 57, TW 58, TW 59, TW 60, TW 61, TW 62, TW 63, TW 64, TW 65, TW 66, TW 67, TW 68, TW 69, TW 70, TW 71, TW 72, TW 73, TW 74] from rfl, f2, f4, f6, f8, f10, f11, hdf] at hac
          simp only [Option.getD_some] at hac
          subst hac
          clear hTW f2 f4 f6 f8 f10 f11
          unfold arrC at HR10 HR4 HRA
          go_wp2_with (first
            | (refine ld_arr rfl (.tmp 10) rfl k10 rfl HR10.out ?_)
            | (refine st_arr rfl (.tmp 4) (.tmp 40) rfl (w.heap.size + 1) rfl _ _ _ _ _ _ _ _ _ rfl HRA.out rfl ?_)
            | (refine ld_arr rfl (.tmp 4) rfl (w.heap.size + 1) rfl HR4.out ?_))
          go_at_call 23
          (with_reducible refine (RK2.out _ ?_).mono ?_)
          · exact HA.out
          rintro e w7 ⟨rfl, hb7⟩
          have HA := Lib.hid (HA.out.below hb7)
          have BB := Lib.hid (BB.out.go hb7)
          clear hb7
          have d9 : ((L0 : Int) != (L0 : Int)) = false := bne_self_eq_false _
          have HB71 : Hid (Below w7.heap.size w7 (w7.alloc (.cells (madeCells (Value.cells (.slice none 0 0)) L0) 22))) := Lib.hid ((Below.refl _ _).alloc (Nat.le_refl _) _)
          have B1 := Lib.hid (BB.out.go HB71.out)
          have HR5 := Lib.hid B1.out.now.2.1
          have HLT := Lib.hid (LTo.made w7 L0 22 NN FF rfl)
          have HA2 := Lib.hid (HA.out.below HB71.out)
          clear HNO
          go_wp2_with (refine ld_arr rfl (.tmp 4) rfl (w.heap.size + 1) rfl HR5.out ?_)
          go_at_call 35
          (with_reducible refine (SH2.out _ ?_).mono ?_)
          · exact HA2.out
          rintro e w8 ⟨g8, c8, rfl, hge8, hlt8, hk8, hb8⟩
          rw [World.size_alloc] at hge8
          have HB78 := Lib.hid (HB71.out.trans (hb8.mono HB71.out.size))
          have HLT8 := Lib.hid (HLT.out.below hb8)
          have HK8 := Lib.hid hk8
          have hl8 := hk8.len
          clear hk8 hb8
          go_wp2_with fail
          go_loopw [53] (fun i wr => ∃ k : Nat, k ≤ L0 ∧ i = .int .i64 k ∧ Hid (Wrote w7.heap.size 0 L0 w8 wr ∧ LTo wr w7.heap.size L0 k NN FF)) (fun i _ => L0 - (intOf i).toNat)
          case atStart => exact ⟨0, by omega, rfl, Wrote.refl _ _ _ _, HLT8.out⟩
          case round =>
            obtain ⟨k, hk, rfl, hrel⟩ := hrel
            obtain ⟨hwr, hto⟩ := hrel.out
            have hbw : Below w7.heap.size w7 wr := hwr.below HB78.out (Nat.le_refl _) HB78.out.size
            have BW := Lib.hid (BB.out.go hbw)
            by_cases hlt : k < L0
            · obtain ⟨b1, o1, e1, hb1, hc1⟩ := HK8.out.get hlt
              cases e1
              rw [Nat.zero_add] at hc1
              have hc1' := (World.cell?_of_block (w := w8) (w' := wr) (a := ⟨g8, k, none⟩) (hwr.block g8 hb1 (by omega))).trans hc1
              obtain ⟨b2, o2, e2, hb2, hc2⟩ := BB.out.now.2.2.1.get hlt
              cases e2
              have hc2' := (hbw.cell (p := ⟨b2, o2 + k, none⟩) hb2).trans hc2
              have hwl : w7.heap.size < wr.heap.size := hto.1
              have hTL := Lib.hid (fun wz => TL.out k hlt wz)
              obtain ⟨⟨z0, x1, nz⟩, y1⟩ := hto.place hlt
              have HTO := Lib.hid hto
              have HWR := Lib.hid hwr
              have hk0 : (0 : Int) ≤ k := by omega
              have hk1 : (k : Int) < L0 := by omega
              clear hrel hwr hto hbw hc1 hc2 x1
              obtain ⟨tt, htt⟩ : ∃ tt, bnd 4097 (P0 k) = tt := ⟨_, rfl⟩
              rw [htt] at hTL
              generalize (fun _ : Nat => (1 : Int)) k = sk at *
              have BDk := Lib.hid (fun wz => bounded_any (P0 k) wz)
              rw [htt] at BDk
              clear htt
              generalize P0 k = pk at *
              go_wp2_with fail
              go_at_call 81
              (with_reducible refine (BDk.out _).mono ?_)
              rintro e w9 ⟨rfl, rfl⟩
              go_wp2_with fail
              go_at_fn fv
              (refine (hTL.out _).mono ?_)
              rintro e w10 ⟨a10, c10, rfl, hk10, hb10⟩
              have hto := HTO.out.below hb10
              obtain ⟨⟨z0, x1, nz⟩, y1⟩ := hto.place hlt
              have HN : Hid (Wrote w7.heap.size 0 L0 w8 (w10.setCell ⟨w7.heap.size, k, none⟩ (.slice (some a10) (NN k) c10)) ∧ LTo (w10.setCell ⟨w7.heap.size, k, none⟩ (.slice (some a10) (NN k) c10)) w7.heap.size L0 (k + 1) NN FF) := Lib.hid ⟨(HWR.out.trans (Wrote.of_below hb10 hwl)).setCell (Nat.zero_le k) hlt _, hto.step hlt hk10⟩
              clear hto hk10 hb10
              generalize NN k = nk at *
              go_wp2
              go_roundw
              case rel => exact ⟨k + 1, by omega, by go_num, HN.out⟩
              case measure => simp [intOf]; omega
            · have hkl : k = L0 := by omega
              subst k
              obtain ⟨A9, C9, hLR⟩ := hto.done (by unfold maxLen; omega)
              have HLR := Lib.hid hLR
              have HR9 := Lib.hid BW.out.now.2.1
              have HA9 := Lib.hid (HA.out.below hbw)
              clear hrel hwr hto hbw hLR hlt
              go_wp2_with (refine ld_arr rfl (.tmp 4) rfl (w.heap.size + 1) rfl HR9.out ?_)
              go_at_call 82
              (refine (CP.out _ _ _ _ _ HA9.out HLR.out).mono ?_)
              rintro e w9 hmt
              obtain ⟨x9, rfl, hm9, hb9⟩ := hmt.res
              have B9 := BW.out.go hb9
              have HZ := Lib.hid B9.now.1
              have HE : Hid (MoTold EE TT L0 ch MM eC eP eQ w (w9.setRow (w.heap.size + 1 + 1) x9) (.returned (.tuple #[.agg x9, .int .i64 EE]))) := Lib.hid ⟨x9, rfl, fun e => (hm9.2.1 e).put HZ.out x9, hm9.2.2, below_put B9.below (show w.heap.size ≤ w.heap.size + 1 + 1 by omega) x9⟩
              obtain ⟨q1, q2, q3, q4, q5, q6, q7, q8, q9, hx9⟩ := hm9.1
              subst hx9
              clear hmt hm9 hb9 B9
              unfold arrC
              unfold arrC at HZ
              go_wp2_with (refine st_arr rfl (.tmp 6) (.tmp 73) rfl (w.heap.size + 1 + 1) rfl _ _ _ _ _ _ _ _ _ rfl HZ.out rfl ?_)
              exact bodyPost_ret (res_arr2 Tryz.results41 rfl rfl (HZ.out.put _) rfl) rfl HE.out
        refine Stps2.cons (o := _) ?_ ?_
        · intro ac yw hsz hold hB hp K hK
          have t4 : ac.tmps[4]? = some (.pointer (some ⟨w.heap.size + 1, 0, none⟩)) := hold 4 (by kernel_rfl)
          clear hold hp hsz
          rw [if_pos (by rfl)]
          refine ld8 4 rfl (w.heap.size + 1) ((arrC ch ((r : Int) - 1) (dm S r) na nn nc ta tn tc)) t4 ((BB.out.go hB.below).now.2.1) (rfl) ?_
          exact hK.out _ _ ⟨hB, rfl, Nat.le_refl _, .inl (Below.refl _ _), fun h => absurd h (by decide)⟩
        refine Stps2.cons (o := _) ?_ ?_
        · intro ac yw hsz hold hB hp K hK
          clear hold hp hsz
          have hbz : Below yw.heap.size yw (yw.alloc (.cells #[.int .i64 1] 3)) ∧ yw.heap.size < (yw.alloc (.cells #[.int .i64 1] 3)).heap.size := ⟨(Below.refl _ _).alloc (Nat.le_refl _) _, by rw [World.size_alloc]; omega⟩
          go_simp
          exact hK.out _ _ ⟨hB.alloc _, Exists.intro yw.heap.size (And.intro rfl (KRow.one' yw .i64 1 3)), Nat.le_of_lt hbz.2, .inl hbz.1, fun _ => ⟨_, rfl, Nat.le_refl _, hbz.2⟩⟩
        refine Stps2.cons (o := _) ?_ ?_
        · intro ac yw hsz hold hB hp K hK
          have t8 : ac.tmps[8]? = some (.slice aL L0 cL) := hold 8 (by kernel_rfl)
          clear hold hp hsz
          go_simp
          exact hK.out _ _ ⟨hB, rfl, Nat.le_refl _, .inl (Below.refl _ _), fun h => absurd h (by decide)⟩
        refine Stps2.cons (o := _) ?_ ?_
        · intro ac yw hsz hold hB hp K hK
          have e2 := hp 2 (by decide)
          have t30 : ac.tmps[30]? = some (.slice aL L0 cL) := (List.cons.inj e2).1
          clear hold hp hsz e2
          go_simp
          exact hK.out _ _ ⟨hB, rfl, Nat.le_refl _, .inl (Below.refl _ _), fun h => absurd h (by decide)⟩
        refine Stps2.cons (o := _) ?_ ?_
        · intro ac yw hsz hold hB hp K hK
          obtain ⟨k1_1, e1, g1_0⟩ := hp 1 (by decide)
          have t29 : ac.tmps[29]? = some (.slice (some ⟨k1_1, 0, none⟩) 1 1) := (List.cons.inj e1).1
          have e3 := hp 3 (by decide)
          have t31 : ac.tmps[31]? = some (.int .i64 L0) := (List.cons.inj e3).1
          clear hold hp hsz e1 e3
          go_simp
          (go_at_call 80; (refine (RP.out _ _ g1_0).mono ?_); rintro e wz ⟨k4, rfl, hge, hlt4, h4_0, hbz⟩)
          exact hK.out _ _ ⟨hB.go hbz, Exists.intro k4 (And.intro rfl h4_0), hbz.size, .inl hbz, fun _ => ⟨_, rfl, hge, hlt4⟩⟩
        refine Stps2.cons (o := _) ?_ ?_
        · intro ac yw hsz hold hB hp K hK
          clear hold hp hsz
          have hbz : Below yw.heap.size yw (yw.alloc (.cells #[.int .i64 0] 3)) ∧ yw.heap.size < (yw.alloc (.cells #[.int .i64 0] 3)).heap.size := ⟨(Below.refl _ _).alloc (Nat.le_refl _) _, by rw [World.size_alloc]; omega⟩
          go_simp
          exact hK.out _ _ ⟨hB.alloc _, Exists.intro yw.heap.size (And.intro rfl (KRow.one' yw .i64 0 3)), Nat.le_of_lt hbz.2, .inl hbz.1, fun _ => ⟨_, rfl, Nat.le_refl _, hbz.2⟩⟩
        refine Stps2.cons (o := _) ?_ ?_
        · intro ac yw hsz hold hB hp K hK
          have e0 := hp 0 (by decide)
          have t28 : ac.tmps[28]? = some (.agg (arrC ch ((r : Int) - 1) (dm S r) na nn nc ta tn tc)) := (List.cons.inj e0).1
          obtain ⟨k4_4, e4, g4_0⟩ := hp 4 (by decide)
          have t32 : ac.tmps[32]? = some (.slice (some ⟨k4_4, 0, none⟩) L0 L0) := (List.cons.inj e4).1
          obtain ⟨k5_5, e5, g5_0⟩ := hp 5 (by decide)
          have t33 : ac.tmps[33]? = some (.slice (some ⟨k5_5, 0, none⟩) 1 1) := (List.cons.inj e5).1
          clear hold hp hsz e0 e4 e5
          go_simp
          (go_at_call 52; (refine (PK.out _ _ _ (H.out.below (BB.out.go hB.below).below) g4_0 g5_0).mono ?_); rintro e wz ⟨x6, rfl, h6_0, hbz⟩)
          exact hK.out _ _ ⟨hB.go hbz, Exists.intro x6 (And.intro rfl (And.intro h6_0 h6_0.isA)), hbz.size, .inl hbz, fun h => absurd h (by decide)⟩
        refine Stps2.cons (o := _) ?_ ?_
        · intro ac yw hsz hold hB hp K hK
          obtain ⟨x6_6, e6, g6_0, g6_1⟩ := hp 6 (by decide)
          have t34 : ac.tmps[34]? = some (.tuple #[.agg x6_6, .bool true]) := (List.cons.inj e6).1
          clear hold hp hsz e6
          go_simp
          exact hK.out _ _ ⟨hB, Exists.intro x6_6 (And.intro rfl (And.intro g6_0 g6_1)), Nat.le_refl _, .inl (Below.refl _ _), fun h => absurd h (by decide)⟩
        refine Stps2.cons (o := _) ?_ ?_
        · intro ac yw hsz hold hB hp K hK
          obtain ⟨x6_7, e7, g7_0, g7_1⟩ := hp 7 (by decide)
          have t27 : ac.tmps[27]? = some (.tuple #[.agg x6_7, .bool true]) := (List.cons.inj e7).1
          clear hold hp hsz e7
          go_simp
          exact hK.out _ _ ⟨hB, Exists.intro x6_7 (And.intro rfl (And.intro g7_0 g7_1)), Nat.le_refl _, .inl (Below.refl _ _), fun h => absurd h (by decide)⟩
        refine Stps2.cons (o := _) ?_ ?_
        · intro ac yw hsz hold hB hp K hK
          obtain ⟨x6_7, e7, g7_0, g7_1⟩ := hp 7 (by decide)
          have t27 : ac.tmps[27]? = some (.tuple #[.agg x6_7, .bool true]) := (List.cons.inj e7).1
          clear hold hp hsz e7
          go_simp
          exact hK.out _ _ ⟨hB, rfl, Nat.le_refl _, .inl (Below.refl _ _), fun h => absurd h (by decide)⟩
        refine Stps2.cons (o := _) ?_ ?_
        · intro ac yw hsz hold hB hp K hK
          clear hold hp hsz
          have hbz : Below yw.heap.size yw (yw.alloc (.cells zerC 32)) ∧ yw.heap.size < (yw.alloc (.cells zerC 32)).heap.size := ⟨(Below.refl _ _).alloc (Nat.le_refl _) _, by rw [World.size_alloc]; omega⟩
          go_simp
          exact hK.out _ _ ⟨hB.alloc _, Exists.intro yw.heap.size (Exists.intro zerC (And.intro rfl (And.intro ((Row.new yw _ zerC)) (And.intro IsA.zer hB.below.size)))), Nat.le_of_lt hbz.2, .inl hbz.1, fun _ => ⟨_, rfl, Nat.le_refl _, hbz.2⟩⟩
        refine Stps2.cons (o := _) ?_ ?_
        · intro ac yw hsz hold hB hp K hK
          obtain ⟨k10_10, z10_10, e10, g10_0, g10_1, g10_2⟩ := hp 10 (by decide)
          have t10 : ac.tmps[10]? = some (.pointer (some ⟨k10_10, 0, none⟩)) := (List.cons.inj e10).1
          obtain ⟨x6_8, e8, g8_0, g8_1⟩ := hp 8 (by decide)
          have t35 : ac.tmps[35]? = some (.agg x6_8) := (List.cons.inj e8).1
          clear hold hp hsz e10 e8
          rw [if_pos (by rfl)]
          have HB : Bag _ (fun _ => True) (yw.setRow k10_10 x6_8) := ⟨below_put hB.below g10_2 _, fun _ _ _ _ => trivial, trivial⟩
          refine st8 10 35 rfl k10_10 x6_8 t10 t35 _ z10_10 g10_0 g10_1 g8_1 ?_
          refine hK.out undef _ ⟨HB, Exists.intro k10_10 (Exists.intro x6_8 (And.intro (congrArg (fun x => [x]) t10) (And.intro (g10_0.put _) (And.intro (g8_0.store g10_0 g10_1 _) g8_1)))), by simp [World.setRow], .inr ?_, fun h => absurd h (by decide)⟩
          intro jj hj hap h
          match jj, h with
          | 0, h => exact h
          | 1, ⟨k1, e1, g1_0⟩ =>
            have hne : k1 ≠ k10_10 := fun e => hap 10 (by decide) 1 (by decide) (by decide) (by decide) (by decide) k10_10 ⟨10, _, rfl, t10, rfl⟩ ⟨29, _, rfl, (List.cons.inj e1).1, congrArg some e⟩
            exact Exists.intro k1 (And.intro e1 (g1_0.away (.inr (fun x hx => by obtain rfl := Option.some.inj hx; exact hne)) (Far.setRow _ _ _)))
          | 2, h => exact h
          | 3, h => exact h
          | 4, ⟨k4, e4, g4_0⟩ =>
            have hne : k4 ≠ k10_10 := fun e => hap 10 (by decide) 4 (by decide) (by decide) (by decide) (by decide) k10_10 ⟨10, _, rfl, t10, rfl⟩ ⟨32, _, rfl, (List.cons.inj e4).1, congrArg some e⟩
            exact Exists.intro k4 (And.intro e4 (g4_0.away (.inr (fun x hx => by obtain rfl := Option.some.inj hx; exact hne)) (Far.setRow _ _ _)))
          | 5, ⟨k5, e5, g5_0⟩ =>
            have hne : k5 ≠ k10_10 := fun e => hap 10 (by decide) 5 (by decide) (by decide) (by decide) (by decide) k10_10 ⟨10, _, rfl, t10, rfl⟩ ⟨33, _, rfl, (List.cons.inj e5).1, congrArg some e⟩
            exact Exists.intro k5 (And.intro e5 (g5_0.away (.inr (fun x hx => by obtain rfl := Option.some.inj hx; exact hne)) (Far.setRow _ _ _)))
          | 6, ⟨x6, e6, g6_0, g6_1⟩ =>
            exact Exists.intro x6 (And.intro e6 (And.intro (g6_0.store g10_0 g10_1 _) g6_1))
          | 7, ⟨x6, e7, g7_0, g7_1⟩ =>
            exact Exists.intro x6 (And.intro e7 (And.intro (g7_0.store g10_0 g10_1 _) g7_1))
          | 8, ⟨x6, e8, g8_0, g8_1⟩ =>
            exact Exists.intro x6 (And.intro e8 (And.intro (g8_0.store g10_0 g10_1 _) g8_1))
          | 9, h => exact h
          | 10, ⟨k10, z10, e10, g10_0, g10_1, g10_2⟩ =>
            have e9 : k10 = k10_10 := by have := (List.cons.inj e10).1.symm.trans t10; cases this; rfl
            subst e9
            exact Exists.intro _ (Exists.intro _ (And.intro e10 (And.intro (g10_0.put _) (And.intro g8_1 g10_2))))
          | 11, _ => exact absurd rfl hj
          | 12, h => exact h
          | _ + 13, h => exact h
        refine Stps2.cons (o := _) ?_ ?_
        · intro ac yw hsz hold hB hp K hK
          have e9 := hp 9 (by decide)
          have t36 : ac.tmps[36]? = some (.bool true) := (List.cons.inj e9).1
          clear hold hp hsz e9
          go_simp
          exact hK.out _ _ ⟨hB, rfl, Nat.le_refl _, .inl (Below.refl _ _), fun h => absurd h (by decide)⟩
        exact Stps2.nil _
    · have hS2 := HS3 hr
      rw [hS2] at TL CPG
      have d0 : (((r : Nat) : Int) == 0) = false := beq_eq_false_iff_ne.2 (by omega)
      have CP : Hid (L0 = r → ∀ aF cF A C wz, Arr wz (arrC ch ((r : Int) - 1) (dm S r) na nn nc ta tn tc) S r ch L g fP fQ → LRow wz aF L0 cF A NN C FF → Calls Tryz.prog 82 #[.agg (arrC ch ((r : Int) - 1) (dm S r) na nn nc ta tn tc), .slice aF L0 cF] wz fun e w' => MoTold EE TT L0 ch MM eC eP eQ wz w' e) := Lib.hid (fun e aF cF A C wz q1 q2 => by
        rw [if_pos (.inr e), if_neg (by omega)] at hEE
        exact CPG.out (arrC ch ((r : Int) - 1) (dm S r) na nn nc ta tn tc) (.inr e) (by rw [e]; exact hsh) (by omega) hEE.symm aF cF A C wz (by rw [e]; exact q1) q2)
      have HNE : Hid (¬ L0 = r → EE = 24) := Lib.hid (fun e => by rw [if_neg (fun h => h.elim hr e)] at hEE; exact hEE.symm)
      have RK2 := RK
      have HSB : Hid (L0 = r → True) := Lib.hid (fun _ => trivial)
      have SH2 : Hid (L0 = r → ∀ wz, Arr wz (arrC ch ((r : Int) - 1) (dm S r) na nn nc ta tn tc) S r ch L g fP fQ → Calls Tryz.prog 35 #[.agg (arrC ch ((r : Int) - 1) (dm S r) na nn nc ta tn tc)] wz fun e w' => ∃ g c', e = .returned (.slice (some ⟨g, 0, none⟩) L0 c') ∧ wz.heap.size ≤ g ∧ g < w'.heap.size ∧ KRow w' .i64 (some ⟨g, 0, none⟩) L0 c' S ∧ Below wz.heap.size wz w') := Lib.hid (fun e wz q => by rw [e]; exact shape_new (arrC ch ((r : Int) - 1) (dm S r) na nn nc ta tn tc) S r ch L g fP fQ wz q h8)
      have TL : Hid (L0 = r → ∀ k, k < L0 → ∀ wz, Calls Tryz.prog fv #[.int .i64 (bnd 4097 (P0 k)), .int .i64 (S k)] wz fun e w' => ∃ a c, e = .returned (.slice (some a) (NN k) c) ∧ KRow w' .i64 (some a) (NN k) c (FF k) ∧ Below wz.heap.size wz w') := Lib.hid (fun e => TL.out (.inr e))
      clear HS1 HS3 hcnt hax hsh hS hEE CPG hS2 S2
      unfold arrC
      go_enter Tryz.func41, Tryz.ntmps41
      go_wp2_with (refine ld_arr rfl (.tmp 3) rfl w.heap.size rfl HR1.out ?_)
      go_at_call 79
      (with_reducible refine (LI.out _ ?_).mono ?_)
      · exact H0.out.below B0.out.below
      rintro e w3 ⟨aL, mL, cL, rfl, hk6, hb3⟩
      obtain ⟨hm6, hk7, hnw⟩ := hk6 trivial
      clear hk6
      subst mL
      have BB := Lib.hid (B0.out.go hb3)
      have BB : Hid (Bag w (fun y => Row y (w.heap.size + 1 + 1) 32 zerC ∧ Row y (w.heap.size + 1) 32 (arrC ch ((r : Int) - 1) (dm S r) na nn nc ta tn tc) ∧ KRow y .i64 aL L0 cL P0 ∧ True) w3) := Lib.hid ⟨BB.out.below, fun a b hb ⟨h1, h2, h3, _⟩ => ⟨h1.below hb, h2.below hb, h3.below hb, trivial⟩, BB.out.now.1, BB.out.now.2.1, hk7, trivial⟩
      have HR4 := Lib.hid BB.out.now.2.1
      have hl := hk7.len
      clear hk7 hnw hb3
      go_wp2_with (refine ld_arr rfl (.tmp 4) rfl (w.heap.size + 1) rfl HR4.out ?_)
      go_at_call 23
      (with_reducible refine (RK.out _ ?_).mono ?_)
      · exact H.out.below BB.out.below
      rintro e w4 ⟨rfl, hb4⟩
      have BB := Lib.hid (BB.out.go hb4)
      have HA := Lib.hid (H.out.below BB.out.below)
      clear hb4 HR4
      have HR4 := Lib.hid BB.out.now.2.1
      go_wp2_with (refine ld_arr rfl (.tmp 4) rfl (w.heap.size + 1) rfl HR4.out ?_)
      go_at_call 23
      (with_reducible refine (RK2.out _ ?_).mono ?_)
      · exact HA.out
      rintro e w7 ⟨rfl, hb7⟩
      have HA := Lib.hid (HA.out.below hb7)
      have BB := Lib.hid (BB.out.go hb7)
      clear hb7
      by_cases hlr : L0 = r
      · have d9 : ((L0 : Int) != (r : Int)) = false := by rw [hlr]; exact bne_self_eq_false _
        have CP := Lib.hid (CP.out hlr)
        have SH2 := Lib.hid (SH2.out hlr)
        have TL := Lib.hid (TL.out hlr)
        have HSB := Lib.hid (HSB.out hlr)
        have HB71 : Hid (Below w7.heap.size w7 (w7.alloc (.cells (madeCells (Value.cells (.slice none 0 0)) L0) 22))) := Lib.hid ((Below.refl _ _).alloc (Nat.le_refl _) _)
        have B1 := Lib.hid (BB.out.go HB71.out)
        have HR5 := Lib.hid B1.out.now.2.1
        have HLT := Lib.hid (LTo.made w7 L0 22 NN FF rfl)
        have HA2 := Lib.hid (HA.out.below HB71.out)
        clear hlr HNO HNE
        go_wp2_with (refine ld_arr rfl (.tmp 4) rfl (w.heap.size + 1) rfl HR5.out ?_)
        go_at_call 35
        (with_reducible refine (SH2.out _ ?_).mono ?_)
        · exact HA2.out
        rintro e w8 ⟨g8, c8, rfl, hge8, hlt8, hk8, hb8⟩
        rw [World.size_alloc] at hge8
        have HB78 := Lib.hid (HB71.out.trans (hb8.mono HB71.out.size))
        have HLT8 := Lib.hid (HLT.out.below hb8)
        have HK8 := Lib.hid hk8
        have hl8 := hk8.len
        clear hk8 hb8
        go_wp2_with fail
        go_loopw [53] (fun i wr => ∃ k : Nat, k ≤ L0 ∧ i = .int .i64 k ∧ Hid (Wrote w7.heap.size 0 L0 w8 wr ∧ LTo wr w7.heap.size L0 k NN FF)) (fun i _ => L0 - (intOf i).toNat)
        case atStart => exact ⟨0, by omega, rfl, Wrote.refl _ _ _ _, HLT8.out⟩
        case round =>
          obtain ⟨k, hk, rfl, hrel⟩ := hrel
          obtain ⟨hwr, hto⟩ := hrel.out
          have hbw : Below w7.heap.size w7 wr := hwr.below HB78.out (Nat.le_refl _) HB78.out.size
          have BW := Lib.hid (BB.out.go hbw)
          by_cases hlt : k < L0
          · obtain ⟨b1, o1, e1, hb1, hc1⟩ := HK8.out.get hlt
            cases e1
            rw [Nat.zero_add] at hc1
            have hc1' := (World.cell?_of_block (w := w8) (w' := wr) (a := ⟨g8, k, none⟩) (hwr.block g8 hb1 (by omega))).trans hc1
            obtain ⟨b2, o2, e2, hb2, hc2⟩ := BB.out.now.2.2.1.get hlt
            cases e2
            have hc2' := (hbw.cell (p := ⟨b2, o2 + k, none⟩) hb2).trans hc2
            have hwl : w7.heap.size < wr.heap.size := hto.1
            have hTL := Lib.hid (fun wz => TL.out k hlt wz)
            obtain ⟨⟨z0, x1, nz⟩, y1⟩ := hto.place hlt
            have HTO := Lib.hid hto
            have HWR := Lib.hid hwr
            have hk0 : (0 : Int) ≤ k := by omega
            have hk1 : (k : Int) < L0 := by omega
            clear hrel hwr hto hbw hc1 hc2 x1
            obtain ⟨tt, htt⟩ : ∃ tt, bnd 4097 (P0 k) = tt := ⟨_, rfl⟩
            rw [htt] at hTL
            generalize S k = sk at *
            have BDk := Lib.hid (fun wz => bounded_any (P0 k) wz)
            rw [htt] at BDk
            clear htt
            generalize P0 k = pk at *
            go_wp2_with fail
            go_at_call 81
            (with_reducible refine (BDk.out _).mono ?_)
            rintro e w9 ⟨rfl, rfl⟩
            go_wp2_with fail
            go_at_fn fv
            (refine (hTL.out _).mono ?_)
            rintro e w10 ⟨a10, c10, rfl, hk10, hb10⟩
            have hto := HTO.out.below hb10
            obtain ⟨⟨z0, x1, nz⟩, y1⟩ := hto.place hlt
            have HN : Hid (Wrote w7.heap.size 0 L0 w8 (w10.setCell ⟨w7.heap.size, k, none⟩ (.slice (some a10) (NN k) c10)) ∧ LTo (w10.setCell ⟨w7.heap.size, k, none⟩ (.slice (some a10) (NN k) c10)) w7.heap.size L0 (k + 1) NN FF) := Lib.hid ⟨(HWR.out.trans (Wrote.of_below hb10 hwl)).setCell (Nat.zero_le k) hlt _, hto.step hlt hk10⟩
            clear hto hk10 hb10
            generalize NN k = nk at *
            go_wp2
            go_roundw
            case rel => exact ⟨k + 1, by omega, by go_num, HN.out⟩
            case measure => simp [intOf]; omega
          · have hkl : k = L0 := by omega
            subst k
            obtain ⟨A9, C9, hLR⟩ := hto.done (by unfold maxLen; omega)
            have HLR := Lib.hid hLR
            have HR9 := Lib.hid BW.out.now.2.1
            have HA9 := Lib.hid (HA.out.below hbw)
            clear hrel hwr hto hbw hLR hlt
            go_wp2_with (refine ld_arr rfl (.tmp 4) rfl (w.heap.size + 1) rfl HR9.out ?_)
            go_at_call 82
            (refine (CP.out _ _ _ _ _ HA9.out HLR.out).mono ?_)
            rintro e w9 hmt
            obtain ⟨x9, rfl, hm9, hb9⟩ := hmt.res
            have B9 := BW.out.go hb9
            have HZ := Lib.hid B9.now.1
            have HE : Hid (MoTold EE TT L0 ch MM eC eP eQ w (w9.setRow (w.heap.size + 1 + 1) x9) (.returned (.tuple #[.agg x9, .int .i64 EE]))) := Lib.hid ⟨x9, rfl, fun e => (hm9.2.1 e).put HZ.out x9, hm9.2.2, below_put B9.below (show w.heap.size ≤ w.heap.size + 1 + 1 by omega) x9⟩
            obtain ⟨q1, q2, q3, q4, q5, q6, q7, q8, q9, hx9⟩ := hm9.1
            subst hx9
            clear hmt hm9 hb9 B9
            unfold arrC
            unfold arrC at HZ
            go_wp2_with (refine st_arr rfl (.tmp 6) (.tmp 73) rfl (w.heap.size + 1 + 1) rfl _ _ _ _ _ _ _ _ _ rfl HZ.out rfl ?_)
            exact bodyPost_ret (res_arr2 Tryz.results41 rfl rfl (HZ.out.put _) rfl) rfl HE.out
      · have d9 : ((L0 : Int) != (r : Int)) = true := bne_iff_ne.2 (by omega)
        have HZ := Lib.hid BB.out.now.1
        have HE := Lib.hid (HNO.out 24 _ (HNE.out hlr) (by decide) BB.out.below)
        clear hlr CP
        unfold zerC arrC at HZ
        try unfold zerC arrC
        go_wp2_with (refine st_arr rfl (.tmp 6) (.tmp 46) rfl (w.heap.size + 1 + 1) rfl false 0 (fun _ => 0) none 0 0 none 0 0 rfl HZ.out rfl ?_)
        exact bodyPost_ret (res_arr2 Tryz.results41 rfl rfl (HZ.out.put _) rfl) rfl HE.out
  · rw [if_neg hE] at hEE
    generalize liE r0 wb = E0 at *
    have dE : (E0 != 0) = true := bne_iff_ne.2 hE
    have HQ := Lib.hid (And.intro hEE.symm hE)
    clear hEE hE HS1 HS3 hcnt hax hsh hS CPG TL hhi
    unfold arrC
    go_enter Tryz.func41, Tryz.ntmps41
    go_wp2_with (refine ld_arr rfl (.tmp 3) rfl w.heap.size rfl HR1.out ?_)
    go_at_call 79
    (with_reducible refine (LI.out _ ?_).mono ?_)
    · exact H0.out.below B0.out.below
    rintro e w3 ⟨aL, mL, cL, rfl, hk6, hb3⟩
    have BB := Lib.hid (B0.out.go hb3)
    have HZ := Lib.hid BB.out.now.1
    have HE := Lib.hid (HNO.out E0 _ HQ.out.1 HQ.out.2 BB.out.below)
    clear hb3 hk6
    go_wp2_with (refine st_arr rfl (.tmp 6) (.tmp 22) rfl (w.heap.size + 1 + 1) rfl false 0 (fun _ => 0) none 0 0 none 0 0 rfl HZ.out rfl ?_)
    exact bodyPost_ret (res_arr2 Tryz.results41 rfl rfl (HZ.out.put _) rfl) rfl HE.out
end Go.Proofs.YtifnamlgkooacaaGreatDoor

namespace Go.Proofs.YtifnamlgkooacaaGreatDoor
open Go.RowKit
attribute [local go_sem ↓] Go.wp_at_zero Go.wp_at_succ
set_option linter.unusedSimpArgs false in
set_option maxHeartbeats 3200000 in
set_option maxRecDepth 100000 in
theorem take_any (cs0 : Array Value) (S0 : Nat → Int) (r0 : Nat) (ch0 : Bool) (L0 : Nat) (g0 P0 : Nat → Int) (Q0 : Nat → Nat) (cs : Array Value) (S : Nat → Int) (r : Nat) (ch : Bool) (L : Nat) (g fP : Nat → Int) (fQ : Nat → Nat) (w : World)
    (h0 : Arr w cs0 S0 r0 ch0 L0 g0 P0 Q0) (h : Arr w cs S r ch L g fP fQ) (hr0 : r0 ≤ 8) (hQ0 : ch0 = false → ∀ j, j < L0 → 0 < Q0 j) (hL0 : L0 ≤ 4096) (hS : In64 S r) (hsh : shB S r = true) (hcnt : itm S r = (L : Nat)) :
    Calls Tryz.prog 15 #[.agg cs0, .agg cs] w fun e w' => MoTold (paE false 4097 r0 ch0 L0 P0 Q0 S r) (lnF (paN false 4097 P0 (paS r S))) L0 ch (itm (lnF (paN false 4097 P0 (paS r S))) L0).toNat (fun j => elC L g 32 (pkG (paS r S) (lnF (paN false 4097 P0 (paS r S))) L0 (paF false 4097 P0 (paS r S)) j)) (fun j => elP L fP (pkG (paS r S) (lnF (paN false 4097 P0 (paS r S))) L0 (paF false 4097 P0 (paS r S)) j)) (fun j => elQ L fQ (pkG (paS r S) (lnF (paN false 4097 P0 (paS r S))) L0 (paF false 4097 P0 (paS r S)) j)) w w' e := by
  obtain ⟨nb, nnb, ncb, tb, tnb, tcb, hcs0, _⟩ := h0.form
  subst hcs0
  obtain ⟨na, nn, nc, ta, tn, tc, hcs, _⟩ := h.form
  subst hcs
  have H0 := Lib.hid h0
  have H := Lib.hid h
  have PT := Lib.hid (fun wz (q0 : Arr wz (arrC ch0 ((r0 : Int) - 1) (dm S0 r0) nb nnb ncb tb tnb tcb) S0 r0 ch0 L0 g0 P0 Q0) (q : Arr wz (arrC ch ((r : Int) - 1) (dm S r) na nn nc ta tn tc) S r ch L g fP fQ) => part_any 42 false ent_taken taken_any (arrC ch0 ((r0 : Int) - 1) (dm S0 r0) nb nnb ncb tb tnb tcb) S0 r0 ch0 L0 g0 P0 Q0 (arrC ch ((r : Int) - 1) (dm S r) na nn nc ta tn tc) S r ch L g fP fQ wz q0 q hr0 hQ0 hL0 hS hsh hcnt)
  have B0 := Lib.hid ((((Bag.start w).newRow (arrC ch0 ((r0 : Int) - 1) (dm S0 r0) nb nnb ncb tb tnb tcb) 32).newRow (arrC ch ((r : Int) - 1) (dm S r) na nn nc ta tn tc) 32).newRow zerC 32)
  simp only [World.size_alloc] at B0
  have HR1 := Lib.hid B0.out.now.2.2.1
  have HR2 := Lib.hid B0.out.now.2.1
  generalize (paE false 4097 r0 ch0 L0 P0 Q0 S r) = EE at *
  generalize (fun j => elC L g 32 (pkG (paS r S) (lnF (paN false 4097 P0 (paS r S))) L0 (paF false 4097 P0 (paS r S)) j)) = eC at *
  generalize (fun j => elP L fP (pkG (paS r S) (lnF (paN false 4097 P0 (paS r S))) L0 (paF false 4097 P0 (paS r S)) j)) = eP at *
  generalize (fun j => elQ L fQ (pkG (paS r S) (lnF (paN false 4097 P0 (paS r S))) L0 (paF false 4097 P0 (paS r S)) j)) = eQ at *
  generalize (itm (lnF (paN false 4097 P0 (paS r S))) L0).toNat = MM at *
  generalize lnF (paN false 4097 P0 (paS r S)) = TT at *
  clear h0 h hQ0 hS hsh
  unfold arrC
  go_enter Tryz.func15, Tryz.ntmps15
  go_wp2_with (first
    | (refine ld_arr rfl (.tmp 2) rfl w.heap.size rfl HR1.out ?_)
    | (refine ld_arr rfl (.tmp 3) rfl (w.heap.size + 1) rfl HR2.out ?_))
  go_at_call 41
  (refine (PT.out _ (H0.out.below B0.out.below) (H.out.below B0.out.below)).mono ?_)
  rintro e w9 hmt
  obtain ⟨x9, rfl, hm9, hb9⟩ := hmt.res
  have B9 := B0.out.go hb9
  have HZ := Lib.hid B9.now.1
  have HE : Hid (MoTold EE TT L0 ch MM eC eP eQ w (w9.setRow (w.heap.size + 1 + 1) x9) (.returned (.tuple #[.agg x9, .int .i64 EE]))) := Lib.hid ⟨x9, rfl, fun e => (hm9.2.1 e).put HZ.out x9, hm9.2.2, below_put B9.below (show w.heap.size ≤ w.heap.size + 1 + 1 by omega) x9⟩
  obtain ⟨q1, q2, q3, q4, q5, q6, q7, q8, q9, hx9⟩ := hm9.1
  subst hx9
  clear hmt hm9 hb9 B9
  unfold arrC
  unfold arrC at HZ
  go_wp2_with (refine st_arr rfl (.tmp 4) (.tmp 9) rfl (w.heap.size + 1 + 1) rfl _ _ _ _ _ _ _ _ _ rfl HZ.out rfl ?_)
  exact bodyPost_ret (res_arr2 Tryz.results15 rfl rfl (HZ.out.put _) rfl) rfl HE.out
set_option linter.unusedSimpArgs false in
set_option maxHeartbeats 3200000 in
set_option maxRecDepth 100000 in
theorem drop_any (cs0 : Array Value) (S0 : Nat → Int) (r0 : Nat) (ch0 : Bool) (L0 : Nat) (g0 P0 : Nat → Int) (Q0 : Nat → Nat) (cs : Array Value) (S : Nat → Int) (r : Nat) (ch : Bool) (L : Nat) (g fP : Nat → Int) (fQ : Nat → Nat) (w : World)
    (h0 : Arr w cs0 S0 r0 ch0 L0 g0 P0 Q0) (h : Arr w cs S r ch L g fP fQ) (hr0 : r0 ≤ 8) (hQ0 : ch0 = false → ∀ j, j < L0 → 0 < Q0 j) (hL0 : L0 ≤ 4096) (hS : In64 S r) (hsh : shB S r = true) (hcnt : itm S r = (L : Nat)) :
    Calls Tryz.prog 17 #[.agg cs0, .agg cs] w fun e w' => MoTold (paE true 4097 r0 ch0 L0 P0 Q0 S r) (lnF (paN true 4097 P0 (paS r S))) L0 ch (itm (lnF (paN true 4097 P0 (paS r S))) L0).toNat (fun j => elC L g 32 (pkG (paS r S) (lnF (paN true 4097 P0 (paS r S))) L0 (paF true 4097 P0 (paS r S)) j)) (fun j => elP L fP (pkG (paS r S) (lnF (paN true 4097 P0 (paS r S))) L0 (paF true 4097 P0 (paS r S)) j)) (fun j => elQ L fQ (pkG (paS r S) (lnF (paN true 4097 P0 (paS r S))) L0 (paF true 4097 P0 (paS r S)) j)) w w' e := by
  obtain ⟨nb, nnb, ncb, tb, tnb, tcb, hcs0, _⟩ := h0.form
  subst hcs0
  obtain ⟨na, nn, nc, ta, tn, tc, hcs, _⟩ := h.form
  subst hcs
  have H0 := Lib.hid h0
  have H := Lib.hid h
  have PT := Lib.hid (fun wz (q0 : Arr wz (arrC ch0 ((r0 : Int) - 1) (dm S0 r0) nb nnb ncb tb tnb tcb) S0 r0 ch0 L0 g0 P0 Q0) (q : Arr wz (arrC ch ((r : Int) - 1) (dm S r) na nn nc ta tn tc) S r ch L g fP fQ) => part_any 44 true ent_left left_any (arrC ch0 ((r0 : Int) - 1) (dm S0 r0) nb nnb ncb tb tnb tcb) S0 r0 ch0 L0 g0 P0 Q0 (arrC ch ((r : Int) - 1) (dm S r) na nn nc ta tn tc) S r ch L g fP fQ wz q0 q hr0 hQ0 hL0 hS hsh hcnt)
  have B0 := Lib.hid ((((Bag.start w).newRow (arrC ch0 ((r0 : Int) - 1) (dm S0 r0) nb nnb ncb tb tnb tcb) 32).newRow (arrC ch ((r : Int) - 1) (dm S r) na nn nc ta tn tc) 32).newRow zerC 32)
  simp only [World.size_alloc] at B0
  have HR1 := Lib.hid B0.out.now.2.2.1
  have HR2 := Lib.hid B0.out.now.2.1
  generalize (paE true 4097 r0 ch0 L0 P0 Q0 S r) = EE at *
  generalize (fun j => elC L g 32 (pkG (paS r S) (lnF (paN true 4097 P0 (paS r S))) L0 (paF true 4097 P0 (paS r S)) j)) = eC at *
  generalize (fun j => elP L fP (pkG (paS r S) (lnF (paN true 4097 P0 (paS r S))) L0 (paF true 4097 P0 (paS r S)) j)) = eP at *
  generalize (fun j => elQ L fQ (pkG (paS r S) (lnF (paN true 4097 P0 (paS r S))) L0 (paF true 4097 P0 (paS r S)) j)) = eQ at *
  generalize (itm (lnF (paN true 4097 P0 (paS r S))) L0).toNat = MM at *
  generalize lnF (paN true 4097 P0 (paS r S)) = TT at *
  clear h0 h hQ0 hS hsh
  unfold arrC
  go_enter Tryz.func17, Tryz.ntmps17
  go_wp2_with (first
    | (refine ld_arr rfl (.tmp 2) rfl w.heap.size rfl HR1.out ?_)
    | (refine ld_arr rfl (.tmp 3) rfl (w.heap.size + 1) rfl HR2.out ?_))
  go_at_call 41
  (refine (PT.out _ (H0.out.below B0.out.below) (H.out.below B0.out.below)).mono ?_)
  rintro e w9 hmt
  obtain ⟨x9, rfl, hm9, hb9⟩ := hmt.res
  have B9 := B0.out.go hb9
  have HZ := Lib.hid B9.now.1
  have HE : Hid (MoTold EE TT L0 ch MM eC eP eQ w (w9.setRow (w.heap.size + 1 + 1) x9) (.returned (.tuple #[.agg x9, .int .i64 EE]))) := Lib.hid ⟨x9, rfl, fun e => (hm9.2.1 e).put HZ.out x9, hm9.2.2, below_put B9.below (show w.heap.size ≤ w.heap.size + 1 + 1 by omega) x9⟩
  obtain ⟨q1, q2, q3, q4, q5, q6, q7, q8, q9, hx9⟩ := hm9.1
  subst hx9
  clear hmt hm9 hb9 B9
  unfold arrC
  unfold arrC at HZ
  go_wp2_with (refine st_arr rfl (.tmp 4) (.tmp 9) rfl (w.heap.size + 1 + 1) rfl _ _ _ _ _ _ _ _ _ rfl HZ.out rfl ?_)
  exact bodyPost_ret (res_arr2 Tryz.results17 rfl rfl (HZ.out.put _) rfl) rfl HE.out
end Go.Proofs.YtifnamlgkooacaaGreatDoor

namespace Go.Proofs.YtifnamlgkooacaaGreatDoor
open Go.RowKit
theorem tn_nn (ch : Bool) (L : Nat) : tnO ch L + nnO ch L = L := by unfold tnO nnO; cases ch <;> simp
theorem Pln.len {cs : Array Value} {S : Nat → Int} {r : Nat} {ch : Bool} {L : Nat} {g : Nat → Int} {fB : Nat → Bool} {fS fT : Nat → ByteArray} (wz : World) (h : Pln wz cs S r ch L g fB fS fT) (hL : L ≤ 1000000) :
    Calls Tryz.prog 63 #[.agg cs] wz fun e w' => e = .returned (.int .i64 (L : Nat)) ∧ Below wz.heap.size wz w' := by
  have := r6Len_any cs S r ch g (tnO ch L) fB fS fT (nnO ch L) wz h (by have := nnO_le ch L; omega) (by have := nnO_le ch L; omega)
  rw [tn_nn] at this
  exact this
end Go.Proofs.YtifnamlgkooacaaGreatDoor

namespace Go.Proofs.YtifnamlgkooacaaGreatDoor
open Go.RowKit
theorem Pln.on {w : World} {cs : Array Value} {S : Nat → Int} {r : Nat} {ch : Bool} {L : Nat} {g g' : Nat → Int} {fB fB' : Nat → Bool} {fS fT fS' fT' : Nat → ByteArray} (h : Pln w cs S r ch L g fB fS fT) (e0 : ∀ j, j < L → g j = g' j) (e1 : ∀ j, j < L → fB j = fB' j) (e2 : ∀ j, j < L → fS j = fS' j) (e3 : ∀ j, j < L → fT j = fT' j) : Pln w cs S r ch L g' fB' fS' fT' := by
  obtain ⟨sa, sc, ta, tc, na, nc, e, h1, h2, h3⟩ := h
  have hn := nnO_le ch L
  exact ⟨sa, sc, ta, tc, na, nc, e, h1, h2.congr (fun j hj => e0 j (by omega)), h3.congr (fun j hj => ⟨e1 j (by omega), e2 j (by omega), e3 j (by omega)⟩)⟩
end Go.Proofs.YtifnamlgkooacaaGreatDoor

namespace Go.Proofs.YtifnamlgkooacaaGreatDoor
open Go.RowKit
/-- Two rows that grow, apart from one another. -/
def OwnII (y0 w : World) (a : Option Addr) (c : Nat) (f : Nat → Int) (a2 : Option Addr) (c2 : Nat) (f2 : Nat → Int) (k : Nat) : Prop :=
  OwnI y0 w a k c f ∧ OwnI y0 w a2 k c2 f2 ∧ ∀ b, (Value.slice a k c).ownBlock = some b → (Value.slice a2 k c2).ownBlock ≠ some b
theorem OwnII.nil (y0 : World) (f f2 : Nat → Int) : OwnII y0 y0 none 0 f none 0 f2 0 := ⟨OwnI.nil _ _, OwnI.nil _ _, fun b h => by cases h⟩
end Go.Proofs.YtifnamlgkooacaaGreatDoor

namespace Go.Proofs.YtifnamlgkooacaaGreatDoor
open Go.RowKit
/-- A list of integers. -/
def LArr (w : World) (x : Array Value) (n : Nat) (f : Nat → Int) : Prop := Arr w x (fun _ => (n : Int)) 1 false n (fun _ => 0) f (fun _ => 1)
theorem LArr.below {w w' : World} {x : Array Value} {n : Nat} {f : Nat → Int} (h : LArr w x n f) (hb : Below w.heap.size w w') : LArr w' x n f := Arr.below h hb
theorem pkG_one {S T : Nat → Int} {F : Nat → Nat → Int} {N M j : Nat} (hS : S 0 = N) (hT : T 0 = M) (hj : j < M) : pkG S T 1 F j = if 0 ≤ F 0 j ∧ F 0 j < N then F 0 j else -1 := by
  have e : dgs T 1 (j : Nat) 0 = j := by
    show (if 0 = 0 then (j : Int) % T 0 else _) = _
    rw [if_pos rfl, hT]
    exact Int.emod_eq_of_lt (by omega) (by omega)
  have e2 : pkI F (dgs T 1 (j : Nat)) 0 = F 0 j := by unfold pkI; rw [e]; rfl
  unfold pkG
  have h1 : inB S (pkI F (dgs T 1 (j : Nat))) 1 = (decide (0 ≤ F 0 j) && decide (F 0 j < N)) := by
    show (true && (decide (0 ≤ pkI F (dgs T 1 (j : Nat)) 0) && decide (pkI F (dgs T 1 (j : Nat)) 0 < S 0))) = _
    rw [e2, hS, Bool.true_and]
  have h2 : plc S (pkI F (dgs T 1 (j : Nat))) 1 = F 0 j := by
    show 0 * S 0 + pkI F (dgs T 1 (j : Nat)) 0 = F 0 j
    rw [e2]; omega
  rw [h1, h2]
  by_cases h : 0 ≤ F 0 j ∧ F 0 j < N
  · rw [if_pos h, decide_eq_true h.1, decide_eq_true h.2]; rfl
  · rw [if_neg h]
    have : (decide (0 ≤ F 0 j) && decide (F 0 j < (N : Int))) = false := by
      rw [Bool.and_eq_false_iff, decide_eq_false_iff_not, decide_eq_false_iff_not]
      omega
    rw [this]; rfl
theorem itm_one9 {T : Nat → Int} {M : Nat} (hT : T 0 = M) : (itm T 1).toNat = M := by
  show (1 * T 0).toNat = M
  rw [hT]; omega
theorem LArr.of {w : World} {x : Array Value} {S T : Nat → Int} {r : Nat} {F : Nat → Nat → Int} {n M : Nat} {G f f' : Nat → Int} (hr : r = 1) (h : Arr w x T r false (itm T r).toNat G (fun j => elP n f (pkG S T r F j)) (fun j => elQ n (fun _ => 1) (pkG S T r F j))) (hS : S 0 = (n : Int)) (hT : T 0 = (M : Int))
    (hf : ∀ j, j < M → (0 ≤ F 0 j ∧ F 0 j < n ∧ f' j = f (F 0 j).toNat) ∨ (¬ (0 ≤ F 0 j ∧ F 0 j < n) ∧ f' j = 0)) : LArr w x M f' := by
  subst hr
  rw [itm_one9 hT] at h
  have h1 : Arr w x T 1 false M (fun _ => 0) _ _ := ⟨(fun e => by cases e), h.2⟩
  refine (h1.on (fun _ _ => rfl) (fun j hj => ?_) (fun j hj => ?_)).shape (fun j hj => ?_)
  · show elP n f (pkG S T 1 F j) = f' j
    rw [pkG_one hS hT hj]
    rcases hf j hj with ⟨a, b, c⟩ | ⟨a, c⟩
    · rw [if_pos ⟨a, b⟩, c]; unfold elP; rw [if_pos ⟨a, b⟩]
    · rw [if_neg a, c]; rfl
  · show elQ n (fun _ => 1) (pkG S T 1 F j) = 1
    unfold elQ
    split <;> rfl
  · obtain rfl : j = 0 := by omega
    exact hT
theorem wh_one {k : Int} (h : -9223372036854775808 ≤ k ∧ k ≤ 9223372036854775807) : whC false 1 (fun _ => k) (fun _ => 1) = true := by
  show (true && (decide (1 = 1) && fitB k)) = true
  unfold fitB
  rw [decide_eq_true h]; rfl
theorem sh_list9 {n : Nat} (h : n ≤ 4096) : shB (fun _ => (n : Int)) 1 = true := by
  rw [shB_one, decide_eq_true (by omega), decide_eq_true (by omega)]; rfl
theorem in_list {n : Nat} (h : n ≤ 4096) : In64 (fun _ => (n : Int)) 1 := fun j _ => by show _ ≤ (n : Int) ∧ (n : Int) ≤ _; omega
theorem cn_list (n : Nat) : itm (fun _ => (n : Int)) 1 = (n : Nat) := by
  show 1 * (n : Int) = n
  omega
theorem pa_ok {drop : Bool} {P S : Nat → Int} {Q : Nat → Nat} {M : Nat} (hw : whC false 1 P Q = true) (hT : lnF (paN drop 4097 P (paS 1 S)) 0 = (M : Int)) (hM : M ≤ 4096) : paE drop 4097 0 false 1 P Q S 1 = 0 := by
  unfold paE
  rw [hw, if_pos (by rfl), if_pos (.inr rfl), if_neg (by omega)]
  unfold pkE
  rw [shB_one, hT, decide_eq_true (by omega), decide_eq_true (by omega)]; rfl
set_option maxRecDepth 100000 in
theorem takeL (c0 c : Array Value) (k n : Nat) (f : Nat → Int) (w : World) (h0 : Arr w c0 (fun _ => 0) 0 false 1 (fun _ => 0) (fun _ => (k : Int)) (fun _ => 1)) (h : LArr w c n f) (hk : k ≤ n) (hn : n ≤ 4096) :
    Calls Tryz.prog 15 #[.agg c0, .agg c] w fun e w' => ∃ x, e = .returned (.tuple #[.agg x, .int .i64 0]) ∧ LArr w' x k f ∧ Below w.heap.size w w' := by
  have hb : bnd 4097 (k : Int) = k := by unfold bnd; omega
  have hT : lnF (paN false 4097 (fun _ => (k : Int)) (paS 1 (fun _ => (n : Int)))) 0 = (k : Int) := by
    show ((tkN false (bnd 4097 (k : Int)) _).toNat : Int) = k
    rw [hb]
    show (((k : Int).natAbs : Int).toNat : Int) = k
    omega
  refine (take_any c0 (fun _ => 0) 0 false 1 (fun _ => 0) (fun _ => (k : Int)) (fun _ => 1) c (fun _ => (n : Int)) 1 false n (fun _ => 0) f (fun _ => 1) w h0 h (by omega) (fun _ _ _ => Nat.one_pos) (by omega) (in_list hn) (sh_list9 hn) (cn_list n)).mono ?_
  intro e w' q
  obtain ⟨x, he, hx, hb2⟩ := q.ok (pa_ok (wh_one (by omega)) hT (by omega))
  refine ⟨x, he, LArr.of rfl hx (show (if 1 = 0 then 1 else (n : Int)) = n by rw [if_neg (by omega)]) hT (fun j hj => .inl ?_), hb2⟩
  have e1 : paF false 4097 (fun _ => (k : Int)) (paS 1 (fun _ => (n : Int))) 0 j = (j : Int) := by
    show (if bnd 4097 (k : Int) < 0 then _ else 0) + (j : Int) = j
    rw [if_neg (by omega)]; omega
  rw [e1]
  exact ⟨by omega, by omega, rfl⟩
set_option maxRecDepth 100000 in
theorem dropL (c0 c : Array Value) (k n : Nat) (f : Nat → Int) (w : World) (h0 : Arr w c0 (fun _ => 0) 0 false 1 (fun _ => 0) (fun _ => (k : Int)) (fun _ => 1)) (h : LArr w c n f) (hk : k ≤ n) (hn : n ≤ 4096) :
    Calls Tryz.prog 17 #[.agg c0, .agg c] w fun e w' => ∃ x, e = .returned (.tuple #[.agg x, .int .i64 0]) ∧ LArr w' x (n - k) (fun j => f (k + j)) ∧ Below w.heap.size w w' := by
  have hb : bnd 4097 (k : Int) = k := by unfold bnd; omega
  have hT : lnF (paN true 4097 (fun _ => (k : Int)) (paS 1 (fun _ => (n : Int)))) 0 = ((n - k : Nat) : Int) := by
    show ((tkN true (bnd 4097 (k : Int)) (if 1 = 0 then 1 else (n : Int))).toNat : Int) = _
    rw [hb, if_neg (by omega)]
    show ((max ((n : Int) - ((k : Int).natAbs : Int)) 0).toNat : Int) = _
    omega
  refine (drop_any c0 (fun _ => 0) 0 false 1 (fun _ => 0) (fun _ => (k : Int)) (fun _ => 1) c (fun _ => (n : Int)) 1 false n (fun _ => 0) f (fun _ => 1) w h0 h (by omega) (fun _ _ _ => Nat.one_pos) (by omega) (in_list hn) (sh_list9 hn) (cn_list n)).mono ?_
  intro e w' q
  obtain ⟨x, he, hx, hb2⟩ := q.ok (pa_ok (wh_one (by omega)) hT (by omega))
  refine ⟨x, he, LArr.of rfl hx (show (if 1 = 0 then 1 else (n : Int)) = n by rw [if_neg (by omega)]) hT (fun j hj => .inl ?_), hb2⟩
  have e1 : paF true 4097 (fun _ => (k : Int)) (paS 1 (fun _ => (n : Int))) 0 j = ((k + j : Nat) : Int) := by
    show (if 0 < bnd 4097 (k : Int) then bnd 4097 (k : Int) else 0) + (j : Int) = _
    rw [hb]
    split <;> omega
  rw [e1]
  exact ⟨by omega, by omega, rfl⟩
end Go.Proofs.YtifnamlgkooacaaGreatDoor

namespace Go.Proofs.YtifnamlgkooacaaGreatDoor
open Go.ChangeShapes Go.WideShapes Go.ChangeAt Go.RowKit
theorem open_krow {H : Type} {enc : TypeId × Value → H} {P : Program} {w : World} {base : Nat} {t e : TypeId} {ki : IntKind} {v : Value} {d : DataW H} {p : List MemPlace} (ht : P.underlying t = some (.slice e)) (he : P.underlying e = some (.int ki)) (hc : P.cellsOf e = 1)
    {r : Reach} {b0 : Nat} (hv : Value.okWide P w r b0 t v) (h : DataW.Trod enc P w base (fun _ => true) true t v d p) :
    ∃ a n c f, v = .slice a n c ∧ KRow w ki a n c f ∧ ∀ j, j < n → (Lit.int ki (f j)).wf = true := by
  obtain ⟨a0, len, cap, rfl⟩ := okWide_slice ht hv
  obtain ⟨fuel, hf⟩ := h
  rcases open_ints ht he hc hf with ⟨hcs, _⟩ | ⟨a, len', cap', zs, hcs, _, hl, hmx, hz, _, hcell, hwz⟩
  · simp [Value.cells] at hcs
    obtain ⟨rfl, rfl, rfl⟩ := hcs
    exact ⟨none, 0, 0, fun _ => 0, rfl, ⟨Nat.le_refl _, Nat.zero_le _, .inl rfl⟩, fun j hj => absurd hj (Nat.not_lt_zero _)⟩
  · simp [Value.cells] at hcs
    obtain ⟨rfl, rfl, rfl⟩ := hcs
    simp only [if_true] at hz
    refine ⟨some a, len, cap, fun j => zs.getD j 0, rfl, ⟨hl, hmx, ?_⟩, fun j hj => ?_⟩
    · rcases Nat.eq_zero_or_pos len with h0 | h0
      · exact .inl h0
      · obtain ⟨b, off, spot⟩ := a
        have hspot : spot = none := by simpa [Addr.add] using World.cell?_spot (hcell 0 (by omega))
        subst hspot
        have h1 : ∀ j, j < zs.length → w.cell? ⟨b, off + j, none⟩ = some (.int ki (zs.getD j 0)) := fun j hj => by rw [← add_plain]; exact hcell j hj
        exact .inr ⟨b, off, rfl, World.block_lt_of_cell? w _ (h1 0 (by omega)), fun j hj => h1 j (by omega)⟩
    · refine hwz _ ?_
      have : zs.getD j 0 = zs[j]'(by omega) := by simp [List.getD, show j < zs.length by omega]
      show zs.getD j 0 ∈ zs
      rw [this]
      exact List.getElem_mem _
section
variable {H : Type} {enc : TypeId × Value → H} {P : Program} {w : World} {base : Nat} {spare : Nat → Bool} {held : Bool}
end
end Go.Proofs.YtifnamlgkooacaaGreatDoor

namespace Go.Proofs.YtifnamlgkooacaaGreatDoor
open Go.ChangeShapes Go.WideShapes Go.ChangeAt Go.RowKit
/-- A row of truths. -/
def BRow (w : World) (a : Option Addr) (n c : Nat) (f : Nat → Bool) : Prop := n ≤ c ∧ c ≤ maxLen ∧ (n = 0 ∨ ∃ b off, a = some ⟨b, off, none⟩ ∧ b < w.heap.size ∧ ∀ j, j < n → w.cell? ⟨b, off + j, none⟩ = some (.bool (f j)))
theorem BRow.below {w w' : World} {a : Option Addr} {n c : Nat} {f : Nat → Bool} (h : BRow w a n c f) (hb : Below w.heap.size w w') : BRow w' a n c f := by
  obtain ⟨h1, h2, h3⟩ := h
  refine ⟨h1, h2, h3.imp id ?_⟩
  rintro ⟨b, off, rfl, hl, hc⟩
  exact ⟨b, off, rfl, Nat.lt_of_lt_of_le hl hb.size, fun j hj => (hb.cell (p := ⟨b, off + j, none⟩) hl).trans (hc j hj)⟩
theorem BRow.get {w : World} {a : Option Addr} {n c : Nat} {f : Nat → Bool} (h : BRow w a n c f) {j : Nat} (hj : j < n) : ∃ b off, a = some ⟨b, off, none⟩ ∧ b < w.heap.size ∧ w.cell? ⟨b, off + j, none⟩ = some (.bool (f j)) := by
  rcases h.2.2 with h | ⟨b, off, rfl, hl, hc⟩
  · omega
  · exact ⟨b, off, rfl, hl, hc j hj⟩
theorem BRow.len {w : World} {a : Option Addr} {n c : Nat} {f : Nat → Bool} (h : BRow w a n c f) : n ≤ c ∧ n ≤ 9223372036854775807 := by
  have h1 := h.1
  have h2 := h.2.1
  unfold maxLen at h2
  exact ⟨h1, by omega⟩
theorem in8_of {f : Nat → Int} {n : Nat} (h : ∀ j, j < n → (Lit.int .i8 (f j)).wf = true) : ∀ j, j < n → -128 ≤ f j ∧ f j ≤ 127 := fun j hj => by
  simpa [Lit.wf, IntKind.min, IntKind.max, IntKind.signed, IntKind.bits] using h j hj
/-- Two rows that grow, apart from one another, each as long as it is. -/
def OwnIJ (y0 w : World) (a : Option Addr) (k c : Nat) (f : Nat → Int) (a2 : Option Addr) (k2 c2 : Nat) (f2 : Nat → Int) : Prop :=
  OwnI y0 w a k c f ∧ OwnI y0 w a2 k2 c2 f2 ∧ ∀ b, (Value.slice a k c).ownBlock = some b → (Value.slice a2 k2 c2).ownBlock ≠ some b
theorem OwnIJ.nil (y0 : World) (f f2 : Nat → Int) : OwnIJ y0 y0 none 0 0 f none 0 0 f2 := ⟨OwnI.nil _ _, OwnI.nil _ _, fun b h => by cases h⟩
theorem OwnIJ.symm {y0 w : World} {a a2 : Option Addr} {k c k2 c2 : Nat} {f f2 : Nat → Int} (h : OwnIJ y0 w a k c f a2 k2 c2 f2) : OwnIJ y0 w a2 k2 c2 f2 a k c f := ⟨h.2.1, h.1, fun b hb e => h.2.2 b e hb⟩
theorem shownL {w : World} {cs p : Array Value} {n : Nat} {f : Nat → Int} (h : LArr w cs n f) (hp : ∀ T, Pln w p (fun _ => (n : Int)) 1 false n T (fun j => rB (f j)) (fun j => rS (f j)) (fun _ => str (dec 1))) (hL : n ≤ 1000) (hP : ∀ j, j < n → (f j).natAbs ≤ 1000) : Shown w cs p := by
  refine ⟨_, 1, false, n, fun _ => 0, f, fun _ => 1, fun _ => (n : Int), fun _ => 0, _, _, _, h, hp _, by omega, by omega, fun _ j hj => ?_, fun j hj => rfl, fun _ _ => rfl, fun j hj => ⟨rfl, rfl, rfl⟩⟩
  have := hP j hj
  refine ⟨Nat.one_pos, ?_, (by decide : (1 : Nat) < 4294967296 ^ 7)⟩
  have : (1000 : Nat) < 4294967296 ^ 7 := by decide
  omega
end Go.Proofs.YtifnamlgkooacaaGreatDoor

namespace Go.Proofs.YtifnamlgkooacaaGreatDoor
open Go.RowKit
theorem wv_list {α : Type} {n m j : Nat} {f g : Nat → α} (hj : j < n + m) : wvF n m f g j = if j < n then f j else g (j - n) := by
  unfold wvF
  rw [Nat.mod_eq_of_lt hj, Nat.div_eq_of_lt hj, Nat.zero_mul, Nat.zero_mul, Nat.zero_add, Nat.zero_add]
/-- Two lists of numbers, one behind the other. -/
theorem catL (x y : Array Value) (n m : Nat) (f g : Nat → Int) (i : Int) (hi : i = -1 ∨ i = 0) (w : World) (h : LArr w x n f) (h2 : LArr w y m g) (hn : n + m ≤ 4096) :
    Calls Tryz.prog 8 #[.agg x, .agg y, .int .i64 i] w fun e w' => ∃ z, e = .returned (.tuple #[.agg z, .int .i64 0]) ∧ LArr w' z (n + m) (app f n g) ∧ Below w.heap.size w w' := by
  have hk : caK 1 i = 0 := by
    unfold caK
    rcases hi with rfl | rfl <;> rfl
  have hq : grR 1 1 = 1 := rfl
  have hs : grS 1 (fun _ => (n : Int)) 1 (fun _ => (m : Int)) = fun _ => (n : Int) := rfl
  have e1 : exE 1 (fun _ => (n : Int)) 1 (fun _ => (n : Int)) 0 = 0 := rfl
  have e2 : exE 1 (fun _ => (m : Int)) 1 (fun _ => (n : Int)) 0 = 0 := rfl
  have hT0 : jnT 1 (fun _ => (n : Int)) 1 (fun _ => (m : Int)) 0 0 = ((n + m : Nat) : Int) := by
    unfold jnT
    rw [hq, wi_at]
    show (n : Int) + (m : Int) = _
    push_cast; rfl
  have hM : (itm (jnT 1 (fun _ => (n : Int)) 1 (fun _ => (m : Int)) 0) 1).toNat = n + m := itm_one9 hT0
  have hN1 : jnN 1 (fun _ => (n : Int)) 1 (fun _ => (n : Int)) 0 = n := by
    show ((n : Int) * 1).toNat = n
    omega
  have hN2 : jnN 1 (fun _ => (m : Int)) 1 (fun _ => (n : Int)) 0 = m := by
    show ((m : Int) * 1).toNat = m
    omega
  have hE : jnE (kdB false n false m) 1 (fun _ => (n : Int)) 1 (fun _ => (m : Int)) i = 0 := by
    have hkb : kdB false n false m = true := rfl
    have hsh : shB (jnT 1 (fun _ => (n : Int)) 1 (fun _ => (m : Int)) 0) 1 = true := by
      rw [shB_one, hT0, decide_eq_true (show (0 : Int) ≤ ((n + m : Nat) : Int) by omega), decide_eq_true (show ((n + m : Nat) : Int) ≤ 4096 by omega)]; rfl
    unfold jnE
    rw [hkb, hq, hk, hs, if_neg (by decide), if_neg (by decide), show (0 : Int).toNat = 0 from rfl, if_pos e1, if_pos e2]
    unfold pkE
    rw [hsh]; rfl
  have hc := catenate_any x (fun _ => (n : Int)) 1 false n (fun _ => 0) f (fun _ => 1) y (fun _ => (m : Int)) 1 false m (fun _ => 0) g (fun _ => 1) i w h h2 (sh_list9 (by omega)) (cn_list n) (sh_list9 (by omega)) (cn_list m) (by omega)
  rw [hE] at hc
  refine hc.mono ?_
  intro e w' hq0
  obtain ⟨z, he, hz, hb⟩ := hq0.ok rfl
  refine ⟨z, he, ?_, hb⟩
  rw [hq, hk, hs, show (0 : Int).toNat = 0 from rfl, hM, hN1, hN2] at hz
  have h1 : Arr w' z (jnT 1 (fun _ => (n : Int)) 1 (fun _ => (m : Int)) 0) 1 false (n + m) (fun _ => 0) _ _ := ⟨(fun e => by cases e), hz.2⟩
  refine (h1.on (fun _ _ => rfl) (fun j hj => ?_) (fun j hj => ?_)).shape (fun j hj => ?_)
  · rw [wv_list hj]
    unfold app
    by_cases e : j < n
    · rw [if_pos e, if_pos e]
      show (if 0 ≤ (j : Int) ∧ (j : Int) < n then f (j : Int).toNat else 0) = f j
      rw [if_pos (by omega)]; rfl
    · rw [if_neg e, if_neg e]
      show (if 0 ≤ ((j - n : Nat) : Int) ∧ ((j - n : Nat) : Int) < m then g ((j - n : Nat) : Int).toNat else 0) = g (j - n)
      rw [if_pos (by omega)]; rfl
  · rw [wv_list hj]
    unfold elQ
    split <;> (split <;> rfl)
  · obtain rfl : j = 0 := by omega
    exact hT0
theorem LArr.on {w : World} {x : Array Value} {n : Nat} {f f' : Nat → Int} (h : LArr w x n f) (e : ∀ j, j < n → f j = f' j) : LArr w x n f' := Arr.on h (fun _ _ => rfl) e (fun _ _ => rfl)
/-- A list is the same as itself, wherever it lies. -/
theorem sameL {w : World} {x y : Array Value} {n : Nat} {f : Nat → Int} (h : LArr w x n f) (h2 : LArr w y n f) (hP : ∀ j, j < n → (f j).natAbs ≤ 1000) :
    Calls Tryz.prog 18 #[.agg x, .agg y] w fun e w' => e = .returned (.bool true) ∧ Below w.heap.size w w' := by
  obtain ⟨na, nc, rfl, hr⟩ := h.2 rfl
  obtain ⟨nb, nd, rfl, hr2⟩ := h2.2 rfl
  have hok : CmpOk 7 f (fun _ => 1) n := fun j hj => by
    have h1 := hP j hj
    have h2 : (1000 : Nat) < 4294967296 ^ 7 := by decide
    exact ⟨Nat.one_pos, by omega, (by decide : (1 : Nat) < 4294967296 ^ 7)⟩
  have := aSame_any false (((1 : Nat) : Int) - 1) (dm (fun _ => (n : Int)) 1) na n nc none 0 0 f (fun _ => 1) (fun _ => 0) false (((1 : Nat) : Int) - 1) (dm (fun _ => (n : Int)) 1) nb n nd none 0 0 f (fun _ => 1) (fun _ => 0) w hr (KRow.nought _ _ _ _ (Nat.zero_le _) _) hr2 (KRow.nought _ _ _ _ (Nat.zero_le _) _) 7 (by omega) hok hok
  have hb : asB false false (((1 : Nat) : Int) - 1) (((1 : Nat) : Int) - 1) (dm (fun _ => (n : Int)) 1) (dm (fun _ => (n : Int)) 1) 0 0 (fun _ => 0) (fun _ => 0) n n f (fun _ => 1) f (fun _ => 1) = true := by
    unfold asB
    rw [sameB_iff.2 (fun _ _ => rfl), sameB_iff.2 (fun _ _ => rfl), rsB_iff.2 (fun _ _ => rfl), decide_eq_true rfl, decide_eq_true rfl, decide_eq_true rfl, decide_eq_true rfl]
    rfl
  rw [hb] at this
  exact this
end Go.Proofs.YtifnamlgkooacaaGreatDoor

namespace Go.Proofs.YtifnamlgkooacaaGreatDoor
open Go.RowKit
attribute [local go_sem ↓] Go.wp_at_zero Go.wp_at_succ
set_option linter.unusedSimpArgs false in
set_option maxHeartbeats 3200000 in
set_option maxRecDepth 100000 in
theorem showsOkJ_any (cs pcs : Array Value) (w : World) (h : Shown w cs pcs) :
    Calls Tryz.prog 11 #[.agg cs, .int .i64 0, .agg pcs, .int .i64 0] w fun e w' => e = .returned (.bool true) ∧ Below w.heap.size w w' := by
  obtain ⟨S, r, ch, L, g, fP, fQ, S', g', fB, fS, fT, h1, h2, hr, hL, hs, e1, e2, e3⟩ := h.ex
  have HP := Lib.hid h2
  obtain ⟨na, nn, nc, ta, tn, tc, hcs, _⟩ := h1.form
  subst hcs
  obtain ⟨sa, sc, xa, xc, ya, yc, rfl, _⟩ := h2
  have H := Lib.hid h1
  have PL := Lib.hid (fun wz h => plain8_any (arrC ch ((r : Int) - 1) (dm S r) na nn nc ta tn tc) S r ch L g fP fQ wz hr h hL hs)
  have SM := Lib.hid (fun cs1 wz (q : Pln wz cs1 S r ch L g (fun j => rB (fP j)) (fun j => rS (fP j)) (fun j => str (dec (fQ j)))) (z : Pln wz (plC sa r sc ch xa (tnO ch L) xc ya (nnO ch L) yc) S' r ch L g' fB fS fT) => pl_same (plB_of2 e1 e2 e3) q z)
  have BB := Lib.hid (((Bag.start w).newRow (arrC ch ((r : Int) - 1) (dm S r) na nn nc ta tn tc) 32).newRow (plC sa r sc ch xa (tnO ch L) xc ya (nnO ch L) yc) 26)
  simp only [World.size_alloc] at BB
  clear h h1 hr hL hs e1 e2 e3
  unfold arrC plC
  go_enter Tryz.func11, Tryz.ntmps11
  go_wp2_with fail
  have hWW := BB.out.below
  unfold arrC plC at hWW
  unfold plC at BB
  unfold arrC at BB
  generalize hW : ((w.alloc (.cells _ 32)).alloc (.cells _ 26)) = WW at *
  clear hW hWW
  refine wp_region_inv2 ⟨(fun j => ([[17], [18], [19], [20], [8]] : List (List Nat)).getD j []), (fun j => ([[], [0], [], [0, 1, 2], [0, 1, 2, 3]] : List (List Nat)).getD j []), []⟩ (fun jj vv yy => match jj with | 0 => vv = [some (.agg (arrC ch ((r : Int) - 1) (dm S r) na nn nc ta tn tc))] | 1 => ∃ (x1 : Array Value), vv = [some (.agg x1)] ∧ Pln yy x1 S r ch L g (fun j => rB (fP j)) (fun j => rS (fP j)) (fun j => str (dec (fQ j))) | 2 => vv = [some (.agg (plC sa r sc ch xa (tnO ch L) xc ya (nnO ch L) yc))] | 3 => vv = [some (.bool true)] | 4 => vv = [some (.bool true)] | _ => True) (Bag WW (fun _ => True)) (by kernel_rfl) (by kernel_rfl) (by kernel_rfl) (Bag.start WW).drew ?_ ?_ ?_
  · intro jj vv yw yw2 hb h
    match jj, h with
    | 0, h => exact h
    | 1, ⟨x1, e1, g1_0⟩ => exact Exists.intro x1 (And.intro e1 (g1_0.below hb))
    | 2, h => exact h
    | 3, h => exact h
    | 4, h => exact h
    | _ + 5, h => exact h
  · intro ac yw hsz hdf hold hB hp
    have t8 : ac.tmps[8]? = some (.bool true) := (List.cons.inj (hp 4 (by decide))).1
    have HE := Lib.hid (BB.out.go hB.below).below
    clear hold hp
    obtain ⟨TW, hTW⟩ : ∃ TW : Nat → Value, ∀ i, (ac.tmps[i]?).getD undef = TW i := ⟨_, fun _ => rfl⟩
    have f8 := (hTW 8).symm.trans (congrArg (fun x => Option.getD x undef) t8)
    have hac := act_eq (n := 21) hsz TW hTW
    rw [show ((List.range 21).map TW).toArray = #[TW 0, TW 1, TW 2, TW 3, TW 4, TW 5, TW 6, TW 7, TW 8, TW 9, TW 10, TW 11, TW 12, TW 13, TW 14, TW 15, TW 16, TW 17, TW 18, TW 19, TW 20] from rfl, f8, hdf] at hac
    simp only [Option.getD_some] at hac
    subst hac
    clear hTW f8
    go_wp2
    go_ret
    exact ⟨rfl, HE.out⟩
  refine Stps2.cons (o := _) ?_ ?_
  · intro ac yw hsz hold hB hp K hK
    have t4 : ac.tmps[4]? = some (.pointer (some ⟨w.heap.size, 0, none⟩)) := hold 4 (by kernel_rfl)
    clear hold hp hsz
    rw [if_pos (by rfl)]
    refine ld8 4 rfl (w.heap.size) ((arrC ch ((r : Int) - 1) (dm S r) na nn nc ta tn tc)) t4 ((BB.out.go hB.below).now.2.1) (rfl) ?_
    exact hK.out _ _ ⟨hB, rfl, Nat.le_refl _, .inl (Below.refl _ _), fun h => absurd h (by decide)⟩
  refine Stps2.cons (o := _) ?_ ?_
  · intro ac yw hsz hold hB hp K hK
    have e0 := hp 0 (by decide)
    have t17 : ac.tmps[17]? = some (.agg (arrC ch ((r : Int) - 1) (dm S r) na nn nc ta tn tc)) := (List.cons.inj e0).1
    clear hold hp hsz e0
    go_simp
    (go_at_call 34; (with_reducible refine (PL.out _ (H.out.below (BB.out.go hB.below).below)).mono ?_); rintro e wz ⟨x1, rfl, h1_0, hbz⟩)
    exact hK.out _ _ ⟨hB.go hbz, Exists.intro x1 (And.intro rfl h1_0), hbz.size, .inl hbz, fun h => absurd h (by decide)⟩
  refine Stps2.cons (o := _) ?_ ?_
  · intro ac yw hsz hold hB hp K hK
    have t6 : ac.tmps[6]? = some (.pointer (some ⟨w.heap.size + 1, 0, none⟩)) := hold 6 (by kernel_rfl)
    clear hold hp hsz
    rw [if_pos (by rfl)]
    refine ldP 6 rfl (w.heap.size + 1) ((plC sa r sc ch xa (tnO ch L) xc ya (nnO ch L) yc)) t6 ((BB.out.go hB.below).now.1) (rfl) ?_
    exact hK.out _ _ ⟨hB, rfl, Nat.le_refl _, .inl (Below.refl _ _), fun h => absurd h (by decide)⟩
  refine Stps2.cons (o := _) ?_ ?_
  · intro ac yw hsz hold hB hp K hK
    obtain ⟨x1_1, e1, g1_0⟩ := hp 1 (by decide)
    have t18 : ac.tmps[18]? = some (.agg x1_1) := (List.cons.inj e1).1
    have e2 := hp 2 (by decide)
    have t19 : ac.tmps[19]? = some (.agg (plC sa r sc ch xa (tnO ch L) xc ya (nnO ch L) yc)) := (List.cons.inj e2).1
    clear hold hp hsz e1 e2
    go_simp
    (go_at_call 33; (with_reducible refine (SM.out _ _ g1_0 (HP.out.below (BB.out.go hB.below).below)).mono ?_); rintro e wz ⟨rfl, hbz⟩)
    exact hK.out _ _ ⟨hB.go hbz, rfl, hbz.size, .inl hbz, fun h => absurd h (by decide)⟩
  refine Stps2.cons (o := _) ?_ ?_
  · intro ac yw hsz hold hB hp K hK
    have e3 := hp 3 (by decide)
    have t20 : ac.tmps[20]? = some (.bool true) := (List.cons.inj e3).1
    clear hold hp hsz e3
    go_simp
    exact hK.out _ _ ⟨hB, rfl, Nat.le_refl _, .inl (Below.refl _ _), fun h => absurd h (by decide)⟩
  exact Stps2.nil _
end Go.Proofs.YtifnamlgkooacaaGreatDoor
