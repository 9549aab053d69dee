/-
  Texts of this seat, laid together.
-/
import Derived.Test.YtifnamlgkooacaaGreatDoorQ1
import Derived.Test.YtifnamlgkooacaaGreatDoorQ2
import Derived.Test.YtifnamlgkooacaaGreatDoorQ3
import Derived.Test.YtifnamlgkooacaaGreatDoorQ4
import Derived.Test.YtifnamlgkooacaaGreatDoorQ5
import Derived.Test.YtifnamlgkooacaaGreatDoorQ6
import Derived.Test.YtifnamlgkooacaaGreatDoorQ7
import Derived.Test.YtifnamlgkooacaaGreatDoorQ8

namespace Go.Proofs.YtifnamlgkooacaaGreatDoor
open Go.RowKit
attribute [local go_sem ↓] Go.wp_at_zero Go.wp_at_succ
/-- The shape of what is laid side by side, along an axis that is put in. -/
def lmR (r1 r2 : Nat) : Nat := if r1 = 0 then r2 else r1
def lmS (r1 : Nat) (S1 : Nat → Int) (S2 : Nat → Int) : Nat → Int := if r1 = 0 then S2 else S1
def lmT (s : Nat → Int) (k : Nat) : Nat → Int := wiF (insF s k 1) (k : Nat) 2
def lmN (s : Nat → Int) (q k : Nat) : Nat := (stF (insF s k 1) (q + 1) k).toNat
def lmE (kb : Bool) (q : Nat) (s : Nat → Int) (r2 : Nat) (S2 : Nat → Int) (i : Int) : Int :=
  if kb = false then 22 else if i < 0 ∨ (q : Int) < i ∨ q = 8 then 23 else if cvE r2 S2 q s = 0 then pkE (lmT s i.toNat) (q + 1) else cvE r2 S2 q s
/-- What lies in Laminate's variables. -/
def LmP (fl : Bool) (k1 k2 k3 : Nat) (c1 c2 : Array Value) (K : World → Prop) (y : World) : Prop := (fl = false → Row y k1 32 c1 ∧ Row y k2 32 c2 ∧ K y) ∧ ∃ z, Row y k3 32 z ∧ IsA z
theorem LmP.stay {fl : Bool} {k1 k2 k3 : Nat} {c1 c2 : Array Value} {K : World → Prop} (hK : ∀ a b, Below a.heap.size a b → K a → K b) : ∀ a b, Below a.heap.size a b → LmP fl k1 k2 k3 c1 c2 K a → LmP fl k1 k2 k3 c1 c2 K b := by
  rintro a b hb ⟨h1, z3, h3, i3⟩
  exact ⟨fun e => ⟨(h1 e).1.below hb, (h1 e).2.1.below hb, hK _ _ hb (h1 e).2.2⟩, z3, h3.below hb, i3⟩
theorem LmP.put {w y : World} {fl : Bool} {k1 k2 k3 : Nat} {c1 c2 : Array Value} {K : World → Prop} (h : Bag w (LmP fl k1 k2 k3 c1 c2 K) y) (hw : w.heap.size ≤ k3) (cs : Array Value) (hc : IsA cs) : Bag w (LmP true k1 k2 k3 c1 c2 K) (y.setRow k3 cs) := by
  obtain ⟨_, z3, h3, i3⟩ := h.now
  refine ⟨below_put h.below hw _, ?_, (fun e => by cases e), _, h3.put _, hc⟩
  rintro a b hb ⟨_, z4, h4, i4⟩
  exact ⟨(fun e => by cases e), z4, h4.below hb, i4⟩
set_option linter.unusedSimpArgs false in
set_option linter.unusedVariables false in
set_option maxHeartbeats 6400000 in
set_option maxRecDepth 100000 in
theorem laminate_any (x1 : Array Value) (S1 : Nat → Int) (r1 : Nat) (ch1 : Bool) (L1 : Nat) (g1 P1 : Nat → Int) (Q1 : Nat → Nat) (x2 : Array Value) (S2 : Nat → Int) (r2 : Nat) (ch2 : Bool) (L2 : Nat) (g2 P2 : Nat → Int) (Q2 : Nat → Nat) (i : Int) (w : World) (h1 : Arr w x1 S1 r1 ch1 L1 g1 P1 Q1) (h2 : Arr w x2 S2 r2 ch2 L2 g2 P2 Q2)
    (hsh1 : shB S1 r1 = true) (hc1 : itm S1 r1 = (L1 : Nat)) (hsh2 : shB S2 r2 = true) (hc2 : itm S2 r2 = (L2 : Nat)) (hi : -9223372036854775808 ≤ i ∧ i ≤ 9223372036854775807) :
    Calls Tryz.prog 12 #[.agg x1, .agg x2, .int .i64 i] w fun e w' => MoTold (lmE (kdB ch1 L1 ch2 L2) (lmR r1 r2) (lmS r1 S1 S2) r2 S2 i) (lmT (lmS r1 S1 S2) i.toNat) (lmR r1 r2 + 1) (kdC ch1 L1 ch2 L2) (itm (lmT (lmS r1 S1 S2) i.toNat) (lmR r1 r2 + 1)).toNat (wvF (lmN (lmS r1 S1 S2) (lmR r1 r2) i.toNat) (lmN (lmS r1 S1 S2) (lmR r1 r2) i.toNat) (fun j => elC L1 g1 32 (exG r1 j)) (fun j => elC L2 g2 32 (exG r2 j))) (wvF (lmN (lmS r1 S1 S2) (lmR r1 r2) i.toNat) (lmN (lmS r1 S1 S2) (lmR r1 r2) i.toNat) (fun j => elP L1 P1 (exG r1 j)) (fun j => elP L2 P2 (exG r2 j))) (wvF (lmN (lmS r1 S1 S2) (lmR r1 r2) i.toNat) (lmN (lmS r1 S1 S2) (lmR r1 r2) i.toNat) (fun j => elQ L1 Q1 (exG r1 j)) (fun j => elQ L2 Q2 (exG r2 j))) w w' e := by
  obtain ⟨na1, nn1, nc1, ta1, tn1, tc1, hx1, _⟩ := h1.form
  subst hx1
  obtain ⟨na2, nn2, nc2, ta2, tn2, tc2, hx2, _⟩ := h2.form
  subst hx2
  have hr1 := (sh_ax hsh1).1
  have hr2 := (sh_ax hsh2).1
  have H1 := Lib.hid h1
  have H2 := Lib.hid h2
  have AL := Lib.hid (fun wz h1 h2 => alike_any (arrC ch1 ((r1 : Int) - 1) (dm S1 r1) na1 nn1 nc1 ta1 tn1 tc1) S1 r1 ch1 L1 g1 P1 Q1 (arrC ch2 ((r2 : Int) - 1) (dm S2 r2) na2 nn2 nc2 ta2 tn2 tc2) S2 r2 ch2 L2 g2 P2 Q2 wz h1 h2 hsh1 hc1 hsh2 hc2)
  have BB0 := Lib.hid ((((Bag.start w).newRow (arrC ch1 ((r1 : Int) - 1) (dm S1 r1) na1 nn1 nc1 ta1 tn1 tc1) 32).newRow (arrC ch2 ((r2 : Int) - 1) (dm S2 r2) na2 nn2 nc2 ta2 tn2 tc2) 32).newRow zerC 32)
  simp only [World.size_alloc] at BB0
  have BB := Lib.hid (show Bag w (fun y => Row y w.heap.size 32 (arrC ch1 ((r1 : Int) - 1) (dm S1 r1) na1 nn1 nc1 ta1 tn1 tc1) ∧ Row y (w.heap.size + 1) 32 (arrC ch2 ((r2 : Int) - 1) (dm S2 r2) na2 nn2 nc2 ta2 tn2 tc2) ∧ Row y (w.heap.size + 1 + 1) 32 zerC ∧ True) _ from ⟨BB0.out.below, fun a b hb ⟨q1, q2, q3, _⟩ => ⟨q1.below hb, q2.below hb, q3.below hb, trivial⟩, BB0.out.now.2.2.1, BB0.out.now.2.1, BB0.out.now.1, trivial⟩)
  have HR1 := Lib.hid BB.out.now.1
  have HR2 := Lib.hid BB.out.now.2.1
  clear h1 h2 BB0
  obtain ⟨KB, hKB⟩ : ∃ b, kdB ch1 L1 ch2 L2 = b := ⟨_, rfl⟩
  obtain ⟨CH, hCH⟩ : ∃ b, kdC ch1 L1 ch2 L2 = b := ⟨_, rfl⟩
  rw [hKB, hCH]
  rw [hKB, hCH] at AL
  clear hKB hCH
  have hss : shB (lmS r1 S1 S2) (lmR r1 r2) = true := by unfold lmS lmR; split <;> assumption
  have SH1 := Lib.hid (fun y1 wz h => shape_new y1 S1 r1 CH L1 g1 P1 Q1 wz h hr1)
  have SH2 := Lib.hid (fun y2 wz h => shape_new y2 S2 r2 CH L2 g2 P2 Q2 wz h hr2)
  have RK1 := Lib.hid (fun y1 wz h => rank8_any y1 S1 r1 CH L1 g1 P1 Q1 wz h (by omega))
  have hqz : r1 = 0 → lmR r1 r2 = r2 ∧ lmS r1 S1 S2 = S2 := fun e => ⟨by unfold lmR; rw [if_pos e], by unfold lmS; rw [if_pos e]⟩
  have hqn : r1 ≠ 0 → lmR r1 r2 = r1 ∧ lmS r1 S1 S2 = S1 := fun e => ⟨by unfold lmR; rw [if_neg e], by unfold lmS; rw [if_neg e]⟩
  obtain ⟨q, hq⟩ : ∃ q, lmR r1 r2 = q := ⟨_, rfl⟩
  obtain ⟨s, hs⟩ : ∃ s, lmS r1 S1 S2 = s := ⟨_, rfl⟩
  rw [hq, hs] at hss hqz hqn
  rw [hq, hs]
  have hqq := (sh_ax hss).1
  clear hq hs
  unfold lmE
  obtain ⟨KK, hKK⟩ : ∃ k : Nat, i.toNat = k := ⟨_, rfl⟩
  rw [hKK]
  obtain ⟨T, hT⟩ : ∃ f, lmT s KK = f := ⟨_, rfl⟩
  rw [hT]
  obtain ⟨M, hM⟩ : ∃ n, (itm T (q + 1)).toNat = n := ⟨_, rfl⟩
  rw [hM]
  obtain ⟨N, hN⟩ : ∃ n, lmN s q KK = n := ⟨_, rfl⟩
  rw [hN]
  obtain ⟨X, hX⟩ : ∃ f, insF s KK 1 = f := ⟨_, rfl⟩
  obtain ⟨Ms, hMs⟩ : ∃ n, (itm s q).toNat = n := ⟨_, rfl⟩
  obtain ⟨E, hE⟩ : ∃ E, (if KB = false then 22 else if i < 0 ∨ (q : Int) < i ∨ q = 8 then 23 else if cvE r2 S2 q s = 0 then pkE T (q + 1) else cvE r2 S2 q s : Int) = E := ⟨_, rfl⟩
  rw [hE]
  have LY1 : Hid (∀ k : Nat, i = (k : Nat) → k ≤ q → q + 1 ≤ 8 → ∀ y g c wz, Arr wz y S1 r1 CH L1 g1 P1 Q1 → KRow wz .i64 (some ⟨g, 0, none⟩) q c s → Calls Tryz.prog 37 #[.agg y, .slice (some ⟨g, 0, none⟩) q c, .int .i64 (k : Nat)] wz fun e w' => ∃ z, e = .returned (.agg z) ∧ Arr w' z X (q + 1) CH Ms (fun j => elC L1 g1 32 (exG r1 j)) (fun j => elP L1 P1 (exG r1 j)) (fun j => elQ L1 Q1 (exG r1 j)) ∧ Below wz.heap.size wz w') := Lib.hid (fun k hk hkq h8 y g c wz h hs => by
    have hkk : KK = k := by rw [← hKK, hk]; rfl
    subst hkk
    rw [← hX, ← hMs]
    exact layer_any y S1 r1 CH L1 g1 P1 Q1 (some ⟨g, 0, none⟩) q c s KK wz h hr1 hs (fun e => by cases e) hkq h8 hss)
  have LY2 : Hid (∀ k : Nat, i = (k : Nat) → k ≤ q → q + 1 ≤ 8 → ∀ y g c wz, Arr wz y S2 r2 CH L2 g2 P2 Q2 → KRow wz .i64 (some ⟨g, 0, none⟩) q c s → Calls Tryz.prog 37 #[.agg y, .slice (some ⟨g, 0, none⟩) q c, .int .i64 (k : Nat)] wz fun e w' => ∃ z, e = .returned (.agg z) ∧ Arr w' z X (q + 1) CH Ms (fun j => elC L2 g2 32 (exG r2 j)) (fun j => elP L2 P2 (exG r2 j)) (fun j => elQ L2 Q2 (exG r2 j)) ∧ Below wz.heap.size wz w') := Lib.hid (fun k hk hkq h8 y g c wz h hs => by
    have hkk : KK = k := by rw [← hKK, hk]; rfl
    subst hkk
    rw [← hX, ← hMs]
    exact layer_any y S2 r2 CH L2 g2 P2 Q2 (some ⟨g, 0, none⟩) q c s KK wz h hr2 hs (fun e => by cases e) hkq h8 hss)
  have CV := Lib.hid (fun y g c wz (h : Arr wz y S2 r2 CH L2 g2 P2 Q2) (hs : KRow wz .i64 (some ⟨g, 0, none⟩) q c s) => covers_any y S2 r2 CH L2 g2 P2 Q2 (some ⟨g, 0, none⟩) q c s wz h hr2 hs)
  have BH : Hid (∀ k : Nat, i = (k : Nat) → k ≤ q → q + 1 ≤ 8 → KB = true → cvE r2 S2 q s = 0 → ∀ y1 y2 wz, Arr wz y1 X (q + 1) CH Ms (fun j => elC L1 g1 32 (exG r1 j)) (fun j => elP L1 P1 (exG r1 j)) (fun j => elQ L1 Q1 (exG r1 j)) → Arr wz y2 X (q + 1) CH Ms (fun j => elC L2 g2 32 (exG r2 j)) (fun j => elP L2 P2 (exG r2 j)) (fun j => elQ L2 Q2 (exG r2 j)) →
      Calls Tryz.prog 28 #[.agg y1, .agg y2, .int .i64 (k : Nat)] wz fun e w' => ∃ y, e = .returned (.tuple #[.agg y, .int .i64 E]) ∧ MoR w' y E T (q + 1) CH M (wvF N N (fun j => elC L1 g1 32 (exG r1 j)) (fun j => elC L2 g2 32 (exG r2 j))) (wvF N N (fun j => elP L1 P1 (exG r1 j)) (fun j => elP L2 P2 (exG r2 j))) (wvF N N (fun j => elQ L1 Q1 (exG r1 j)) (fun j => elQ L2 Q2 (exG r2 j))) ∧ Below wz.heap.size wz w') := Lib.hid (fun k hk hkq h8 hkb hcv y1 y2 wz a1 a2 => by
    have hkk : KK = k := by rw [← hKK, hk]; rfl
    subst hkk
    have hXk : X KK = 1 := by rw [← hX, ins_at]
    have hXs : shB X (q + 1) = true := by rw [← hX]; exact ins_sh hkq h8 hss
    have hXi : itm X (q + 1) = (Ms : Nat) := by
      have hb := ax_bd (sh_ax hss).2
      rw [← hX, (ins_rm hkq).2, ← hMs]
      omega
    have st : 0 ≤ stF X (q + 1) KK := (ax_bd (ax_shf (KK + 1) (sh_ax hXs).2 (q + 1 - (KK + 1)) (by omega))).2.2.1
    have n1 : (N : Int) = stF X (q + 1) KK := by rw [← hN]; unfold lmN; rw [hX]; exact Int.toNat_of_nonneg st
    have eT : wiF X (KK : Nat) (X KK + X KK) = T := by rw [← hT, hXk]; unfold lmT; rw [hX]; rfl
    have hb := behind_any y1 X (q + 1) CH _ _ _ _ y2 X _ _ _ _ KK N N wz a1 a2 hXs hXs hXi hXi (by omega) (fun _ _ _ => rfl) (by rw [hXk, Int.one_mul]; exact n1) (by rw [hXk, Int.one_mul]; exact n1)
    have eE : pkE T (q + 1) = E := by
      rw [← hE, if_neg (by rw [hkb]; decide), if_neg (by omega), if_pos hcv]
    have eM : Ms + Ms = M := by
      have est : stF T (q + 1) KK = stF X (q + 1) KK := by
        rw [← eT]
        exact itm_congr (fun j _ => wi_off (s := X) (j := KK + 1 + j) _ (by omega))
      obtain ⟨B, _, _, l1, _, l3⟩ := wv_len (T := T) (x := X) (y := X) (n := 1) (m := 1) (N1 := N) (N2 := N) (show KK < q + 1 by omega) (by rw [← eT, wi_at, hXk]; rfl) hXk hXk
        (fun a _ hak => by rw [← eT, wi_off _ hak]) (fun a _ hak => by rw [← eT, wi_off _ hak]) (fun a ha => by rw [← eT, wi_off _ (by omega)]; exact (ax_le4 hXs (by omega)).1) (by rw [est, n1]; omega) (by rw [est, n1]; omega)
      rw [hXi] at l1
      have l1 : Ms = B * N := by exact_mod_cast l1
      rw [← hM, l3, Int.toNat_natCast, l1, Nat.mul_add]
    rw [eT, eE, eM] at hb
    exact hb.mono (fun _ _ hq => hq.res))
  have HE22 : Hid (KB = false → E = 22) := Lib.hid (fun e => by rw [← hE, if_pos e])
  have HE23 : Hid (KB = true → (i < 0 ∨ (q : Int) < i ∨ q = 8) → E = 23) := Lib.hid (fun e h1 => by rw [← hE, if_neg (by rw [e]; decide), if_pos h1])
  have HE2 : Hid (KB = true → ¬ (i < 0 ∨ (q : Int) < i ∨ q = 8) → cvE r2 S2 q s ≠ 0 → E = cvE r2 S2 q s) := Lib.hid (fun hkb h1 e2 => by
    rw [← hE, if_neg (by rw [hkb]; decide), if_neg h1, if_neg e2])
  have HNO : Hid (∀ E wz, E ≠ 0 → Below w.heap.size w wz → MoTold E T (q + 1) CH M (wvF N N (fun j => elC L1 g1 32 (exG r1 j)) (fun j => elC L2 g2 32 (exG r2 j))) (wvF N N (fun j => elP L1 P1 (exG r1 j)) (fun j => elP L2 P2 (exG r2 j))) (wvF N N (fun j => elQ L1 Q1 (exG r1 j)) (fun j => elQ L2 Q2 (exG r2 j))) w (wz.setRow (w.heap.size + 1 + 1) zerC) (.returned (.tuple #[.agg zerC, .int .i64 E]))) := Lib.hid (fun E wz hE hb => MoTold.no hE (below_put hb (show w.heap.size ≤ w.heap.size + 1 + 1 by omega) zerC))
  clear hE hT hM hN hKK hss hsh1 hsh2 hc1 hc2 hr1 hr2 hX hMs
  cases KB with
  | false =>
    obtain rfl := HE22.out rfl
    clear BH HE2 HE23 HE22 LY1 LY2 CV SH1 SH2 RK1 hqz hqn
    unfold arrC
    go_enter Tryz.func12, Tryz.ntmps12
    go_wp2_with (first
      | (refine ld_arr rfl (.tmp 3) rfl (w.heap.size) rfl HR1.out ?_)
      | (refine ld_arr rfl (.tmp 4) rfl (w.heap.size + 1) rfl HR2.out ?_))
    go_at_call 25
    (with_reducible refine (AL.out _ ?_ ?_).mono ?_)
    · exact H1.out.below BB.out.below
    · exact H2.out.below BB.out.below
    rintro e w2 ⟨y1, y2, rfl, i1, i2, hA, hb2⟩
    have B2 := BB.out.go hb2
    have HZ1 := Lib.hid B2.now.1
    have hz2 := B2.now.2.1.puto (k := w.heap.size) (by omega) y1
    have HZ2 := Lib.hid hz2
    have I1 := Lib.hid i1
    have I2 := Lib.hid i2
    have F1 := Lib.hid ((B2.now.1.put y1).puto (k := w.heap.size + 1) (by omega) y2)
    have F2 := Lib.hid (hz2.put y2)
    have F3 := Lib.hid ((B2.now.2.2.1.puto (k := w.heap.size) (by omega) y1).puto (k := w.heap.size + 1) (by omega) y2)
    have F4 := Lib.hid (below_put (below_put B2.below (Nat.le_refl _) y1) (show w.heap.size ≤ w.heap.size + 1 by omega) y2)
    have HE := Lib.hid (HNO.out 22 _ (by decide) F4.out)
    clear hA hb2 B2 hz2 i1 i2
    go_wp2_with (first
      | (refine stA rfl (.tmp 3) (.tmp 15) rfl (w.heap.size) rfl y1 rfl I1.out HZ1.out (IsA.of _ _ _ _ _ _ _ _ _) ?_)
      | (refine stA rfl (.tmp 4) (.tmp 16) rfl (w.heap.size + 1) rfl y2 rfl I2.out HZ2.out (IsA.of _ _ _ _ _ _ _ _ _) ?_)
      | (refine st_arr rfl (.tmp 6) (.tmp 20) rfl (w.heap.size + 1 + 1) rfl false 0 (fun _ => 0) none 0 0 none 0 0 rfl F3.out rfl ?_))
    exact bodyPost_ret (res_arr2 Tryz.results12 rfl rfl (F3.out.put _) rfl) rfl HE.out
  | true =>
    have HF23 := Lib.hid (HE23.out rfl)
    have BH2 := Lib.hid (fun k h1 h2 h3 => BH.out k h1 h2 h3 rfl)
    have HF2 := Lib.hid (HE2.out rfl)
    clear HE22 HE23 BH HE2
    by_cases h0 : r1 = 0
    · obtain ⟨e1, e2⟩ := hqz h0
      have SHQ : Hid (∀ y wz, Arr wz y S2 r2 CH L2 g2 P2 Q2 → Calls Tryz.prog 35 #[.agg y] wz fun e w' => ∃ g c', e = .returned (.slice (some ⟨g, 0, none⟩) q c') ∧ wz.heap.size ≤ g ∧ g < w'.heap.size ∧ KRow w' .i64 (some ⟨g, 0, none⟩) q c' s ∧ Below wz.heap.size wz w') := Lib.hid (fun y wz h => by
        rw [e1, e2]
        exact SH2.out y wz h)
      have d0 : ((r1 : Int) == 0) = true := beq_iff_eq.2 (by omega)
      clear hqz hqn h0 e1 e2
      unfold arrC
      go_enter Tryz.func12, Tryz.ntmps12
      go_wp2_with (first
        | (refine ld_arr rfl (.tmp 3) rfl (w.heap.size) rfl HR1.out ?_)
        | (refine ld_arr rfl (.tmp 4) rfl (w.heap.size + 1) rfl HR2.out ?_))
      go_at_call 25
      (with_reducible refine (AL.out _ ?_ ?_).mono ?_)
      · exact H1.out.below BB.out.below
      · exact H2.out.below BB.out.below
      rintro e w2 ⟨y1, y2, rfl, i1, i2, hA, hb2⟩
      have B2 := BB.out.go hb2
      have HZ1 := Lib.hid B2.now.1
      have hz2 := B2.now.2.1.puto (k := w.heap.size) (by omega) y1
      have HZ2 := Lib.hid hz2
      have I1 := Lib.hid i1
      have I2 := Lib.hid i2
      have F1 := Lib.hid ((B2.now.1.put y1).puto (k := w.heap.size + 1) (by omega) y2)
      have F2 := Lib.hid (hz2.put y2)
      have F3 := Lib.hid ((B2.now.2.2.1.puto (k := w.heap.size) (by omega) y1).puto (k := w.heap.size + 1) (by omega) y2)
      have F4 := Lib.hid (below_put (below_put B2.below (Nat.le_refl _) y1) (show w.heap.size ≤ w.heap.size + 1 by omega) y2)
      have F5 := Lib.hid (((hA trivial).1.store B2.now.1 (IsA.of _ _ _ _ _ _ _ _ _) y1).store hz2 (IsA.of _ _ _ _ _ _ _ _ _) y2)
      have F6 := Lib.hid (((hA trivial).2.store B2.now.1 (IsA.of _ _ _ _ _ _ _ _ _) y1).store hz2 (IsA.of _ _ _ _ _ _ _ _ _) y2)
      clear hA hb2 B2 hz2 i1 i2
      go_wp2_with (first
        | (refine stA rfl (.tmp 3) (.tmp 15) rfl (w.heap.size) rfl y1 rfl I1.out HZ1.out (IsA.of _ _ _ _ _ _ _ _ _) ?_)
        | (refine stA rfl (.tmp 4) (.tmp 16) rfl (w.heap.size + 1) rfl y2 rfl I2.out HZ2.out (IsA.of _ _ _ _ _ _ _ _ _) ?_)
        | (refine ld8G (by rfl) 3 rfl (w.heap.size) y1 (by rfl) F1.out I1.out.size ?_))
      generalize hW : ((w2.setRow w.heap.size y1).setRow (w.heap.size + 1) y2) = Y2 at *
      have BC := Lib.hid (show Bag w (fun y => Row y w.heap.size 32 y1 ∧ Row y (w.heap.size + 1) 32 y2 ∧ Row y (w.heap.size + 1 + 1) 32 zerC ∧ Arr y y1 S1 r1 CH L1 g1 P1 Q1 ∧ Arr y y2 S2 r2 CH L2 g2 P2 Q2) Y2 from ⟨F4.out, (fun a b hb ⟨q1, q2, q3, q4, q5⟩ => ⟨q1.below hb, q2.below hb, q3.below hb, q4.below hb, q5.below hb⟩), F1.out, F2.out, F3.out, F5.out, F6.out⟩)
      clear hW HZ1 HZ2 F1 F2 F3 F4 F5 F6
      go_at_call 35
      (refine (SH1.out _ _ BC.out.now.2.2.2.1).mono ?_)
      rintro e w3 ⟨ks, cS, rfl, _, _, hkS, hb3⟩
      have hlS := hkS.len
      have BC := Lib.hid (BC.out.go hb3)
      have HY1 := Lib.hid BC.out.now.1
      have HY2 := Lib.hid BC.out.now.2.1
      clear hkS hb3 hlS
      go_wp2_with (refine ld8G (by rfl) 3 rfl (w.heap.size) y1 (by rfl) HY1.out I1.out.size ?_)
      go_at_call 23
      (refine (RK1.out _ _ BC.out.now.2.2.2.1).mono ?_)
      rintro e w5 ⟨rfl, hb5⟩
      have BC := Lib.hid (BC.out.go hb5)
      have HY2 := Lib.hid BC.out.now.2.1
      clear hb5 HY1
      go_wp2_with (refine ld8G (by rfl) 4 rfl (w.heap.size + 1) y2 (by rfl) HY2.out I2.out.size ?_)
      go_at_call 35
      (refine (SHQ.out _ _ BC.out.now.2.2.2.2).mono ?_)
      rintro e w6 ⟨ks, cS, rfl, _, _, hkS, hb6⟩
      have hlS := hkS.len
      have BC := Lib.hid ((BC.out.go hb6).krow hkS)
      clear hb6 hkS HY2
      have HNB : Hid (q ≤ 8) := Lib.hid (by omega)
      by_cases h23 : i < 0 ∨ (q : Int) < i ∨ q = 8
      · obtain rfl := HF23.out h23
        have HZ3 := Lib.hid BC.out.now.2.2.2.1
        have HE := Lib.hid (HNO.out 23 _ (by decide) BC.out.below)
        clear HF23 HF2 BH2 LY1 LY2 CV
        rcases h23 with h | h | h
        · go_wp2_with (refine st_arr rfl (.tmp 6) (.tmp 41) rfl (w.heap.size + 1 + 1) rfl false 0 (fun _ => 0) none 0 0 none 0 0 rfl HZ3.out rfl ?_)
          exact bodyPost_ret (res_arr2 Tryz.results12 rfl rfl (HZ3.out.put _) rfl) rfl HE.out
        · have d1 : ¬ i < 0 := by omega
          go_wp2_with (refine st_arr rfl (.tmp 6) (.tmp 41) rfl (w.heap.size + 1 + 1) rfl false 0 (fun _ => 0) none 0 0 none 0 0 rfl HZ3.out rfl ?_)
          exact bodyPost_ret (res_arr2 Tryz.results12 rfl rfl (HZ3.out.put _) rfl) rfl HE.out
        · have d3 : ((q : Int) == 8) = true := beq_iff_eq.2 (by omega)
          clear h
          by_cases h4 : i < 0
          · go_wp2_with (refine st_arr rfl (.tmp 6) (.tmp 41) rfl (w.heap.size + 1 + 1) rfl false 0 (fun _ => 0) none 0 0 none 0 0 rfl HZ3.out rfl ?_)
            exact bodyPost_ret (res_arr2 Tryz.results12 rfl rfl (HZ3.out.put _) rfl) rfl HE.out
          · by_cases h5 : (q : Int) < i
            · go_wp2_with (refine st_arr rfl (.tmp 6) (.tmp 41) rfl (w.heap.size + 1 + 1) rfl false 0 (fun _ => 0) none 0 0 none 0 0 rfl HZ3.out rfl ?_)
              exact bodyPost_ret (res_arr2 Tryz.results12 rfl rfl (HZ3.out.put _) rfl) rfl HE.out
            · go_wp2_with (refine st_arr rfl (.tmp 6) (.tmp 41) rfl (w.heap.size + 1 + 1) rfl false 0 (fun _ => 0) none 0 0 none 0 0 rfl HZ3.out rfl ?_)
              exact bodyPost_ret (res_arr2 Tryz.results12 rfl rfl (HZ3.out.put _) rfl) rfl HE.out
      · obtain ⟨k, rfl⟩ : ∃ k : Nat, i = (k : Nat) := ⟨i.toNat, by omega⟩
        have hkq : k ≤ q := by omega
        have hq8 : q + 1 ≤ 8 := by omega
        have d1 : ¬ ((k : Nat) : Int) < 0 := by omega
        have d2 : ¬ ((q : Nat) : Int) < (k : Nat) := by omega
        have d3 : ((q : Int) == 8) = false := beq_eq_false_iff_ne.2 (by omega)
        have d4 : decide (q < k) = false := decide_eq_false (by omega)
        have d5 : k ≤ q := hkq
        have HY2 := Lib.hid BC.out.now.2.2.1
        have LY1 := Lib.hid (LY1.out k rfl hkq hq8)
        have LY2 := Lib.hid (LY2.out k rfl hkq hq8)
        have BK := Lib.hid (BH2.out k rfl hkq hq8)
        have HEB := Lib.hid (HF2.out h23)
        obtain ⟨E2, hE2⟩ : ∃ E, cvE r2 S2 q s = E := ⟨_, rfl⟩
        rw [hE2] at CV BK HEB
        clear h23 HF23 HF2 BH2 hE2
        go_wp2_with (refine ld8G (by rfl) 4 rfl (w.heap.size + 1) y2 (by rfl) HY2.out I2.out.size ?_)
        go_at_call 36
        (refine (CV.out _ _ _ _ BC.out.now.2.2.2.2.2 BC.out.now.1).mono ?_)
        rintro e w4 ⟨rfl, hb4⟩
        have BC := Lib.hid (BC.out.go hb4)
        clear hb4 HY2 CV
        by_cases h1 : E2 = 0
        · subst h1
          have BK3 := Lib.hid (BK.out rfl)
          clear BK
          obtain ⟨Y3, hY3⟩ : ∃ y, y = w4 := ⟨_, rfl⟩
          subst hY3
          go_wp2_with fail
          have BP : Bag w (LmP false (w.heap.size) (w.heap.size + 1) (w.heap.size + 1 + 1) y1 y2 (fun y => Arr y y1 S1 r1 CH L1 g1 P1 Q1 ∧ Arr y y2 S2 r2 CH L2 g2 P2 Q2 ∧ KRow y .i64 (some ⟨ks, 0, none⟩) q cS s)) Y3 := ⟨BC.out.below, LmP.stay (fun a b hb ⟨q1, q2, q3⟩ => ⟨q1.below hb, q2.below hb, q3.below hb⟩), fun _ => ⟨BC.out.now.2.1, BC.out.now.2.2.1, BC.out.now.2.2.2.2.1, BC.out.now.2.2.2.2.2, BC.out.now.1⟩, _, BC.out.now.2.2.2.1, IsA.zer⟩
          refine wp_region_inv4 ⟨(fun j => ([[49], [50], [51], [52], [53], [54], [55], [56], [57], [58], [59], [60], [], [7]] : List (List Nat)).getD j []), (fun j => ([[], [], [], [0, 1, 2], [], [], [], [0, 1, 2, 3, 4, 5, 6], [], [0, 1, 2, 3, 4, 5, 6, 7, 8], [0, 1, 2, 3, 4, 5, 6, 7, 8, 9], [0, 1, 2, 3, 4, 5, 6, 7, 8, 9], [0, 1, 2, 3, 4, 5, 6, 7, 8, 9, 10, 11], [0, 1, 2, 3, 4, 5, 6, 7, 8, 9, 10, 11, 12]] : List (List Nat)).getD j []), []⟩ (fun jj vv yy => match jj with | 0 => vv = [some (.agg y1)] | 1 => vv = [some (.slice (some ⟨ks, 0, none⟩) q cS)] | 2 => vv = [some (.int .i64 (k : Nat))] | 3 => ∃ (x3 : Array Value), vv = [some (.agg x3)] ∧ Arr yy x3 X (q + 1) CH Ms (fun j => elC L1 g1 32 (exG r1 j)) (fun j => elP L1 P1 (exG r1 j)) (fun j => elQ L1 Q1 (exG r1 j)) | 4 => vv = [some (.agg y2)] | 5 => vv = [some (.slice (some ⟨ks, 0, none⟩) q cS)] | 6 => vv = [some (.int .i64 (k : Nat))] | 7 => ∃ (x7 : Array Value), vv = [some (.agg x7)] ∧ Arr yy x7 X (q + 1) CH Ms (fun j => elC L2 g2 32 (exG r2 j)) (fun j => elP L2 P2 (exG r2 j)) (fun j => elQ L2 Q2 (exG r2 j)) | 8 => vv = [some (.int .i64 (k : Nat))] | 9 => ∃ (x9 : Array Value), vv = [some (.tuple #[.agg x9, .int .i64 E])] ∧ MoR yy x9 E T (q + 1) CH M (wvF N N (fun j => elC L1 g1 32 (exG r1 j)) (fun j => elC L2 g2 32 (exG r2 j))) (wvF N N (fun j => elP L1 P1 (exG r1 j)) (fun j => elP L2 P2 (exG r2 j))) (wvF N N (fun j => elQ L1 Q1 (exG r1 j)) (fun j => elQ L2 Q2 (exG r2 j))) ∧ IsA x9 | 10 => ∃ (x9 : Array Value), vv = [some (.agg x9)] ∧ MoR yy x9 E T (q + 1) CH M (wvF N N (fun j => elC L1 g1 32 (exG r1 j)) (fun j => elC L2 g2 32 (exG r2 j))) (wvF N N (fun j => elP L1 P1 (exG r1 j)) (fun j => elP L2 P2 (exG r2 j))) (wvF N N (fun j => elQ L1 Q1 (exG r1 j)) (fun j => elQ L2 Q2 (exG r2 j))) ∧ IsA x9 | 11 => vv = [some (.int .i64 E)] | 12 => ∃ (x9 : Array Value), Row yy (w.heap.size + 1 + 1) 32 x9 ∧ MoR yy x9 E T (q + 1) CH M (wvF N N (fun j => elC L1 g1 32 (exG r1 j)) (fun j => elC L2 g2 32 (exG r2 j))) (wvF N N (fun j => elP L1 P1 (exG r1 j)) (fun j => elP L2 P2 (exG r2 j))) (wvF N N (fun j => elQ L1 Q1 (exG r1 j)) (fun j => elQ L2 Q2 (exG r2 j))) ∧ IsA x9 | 13 => vv = [some (.int .i64 E)] | _ => True) (fun f => Bag w (LmP (f 12) (w.heap.size) (w.heap.size + 1) (w.heap.size + 1 + 1) y1 y2 (fun y => Arr y y1 S1 r1 CH L1 g1 P1 Q1 ∧ Arr y y2 S2 r2 CH L2 g2 P2 Q2 ∧ KRow y .i64 (some ⟨ks, 0, none⟩) q cS s))) (by kernel_rfl) (by kernel_rfl) (by kernel_rfl) BP.drew ?_ ?_ ?_
          · intro jj vv yw yw2 hb h
            match jj, h with
            | 0, h => exact h
            | 1, h => exact h
            | 2, h => exact h
            | 3, ⟨x3, e3, g3_0⟩ => exact Exists.intro x3 (And.intro e3 (g3_0.below hb))
            | 4, h => exact h
            | 5, h => exact h
            | 6, h => exact h
            | 7, ⟨x7, e7, g7_0⟩ => exact Exists.intro x7 (And.intro e7 (g7_0.below hb))
            | 8, h => exact h
            | 9, ⟨x9, e9, g9_0, g9_1⟩ => exact Exists.intro x9 (And.intro e9 (And.intro (g9_0.below hb) g9_1))
            | 10, ⟨x9, e10, g10_0, g10_1⟩ => exact Exists.intro x9 (And.intro e10 (And.intro (g10_0.below hb) g10_1))
            | 11, h => exact h
            | 12, ⟨x9, g12_0, g12_1, g12_2⟩ => exact Exists.intro x9 (And.intro (g12_0.below hb) (And.intro (g12_1.below hb) g12_2))
            | 13, h => exact h
            | _ + 14, h => exact h
          · intro ac yw hsz hdf hold hB hp
            obtain ⟨x9, r6, m9, i9⟩ := hp 12 (by decide)
            have t7 : ac.tmps[7]? = some (.int .i64 E) := (List.cons.inj (hp 13 (by decide))).1
            have t6 : ac.tmps[6]? = some (.pointer (some ⟨w.heap.size + 1 + 1, 0, none⟩)) := hold 6 (by kernel_rfl)
            have HX := Lib.hid r6
            have HI := Lib.hid i9
            have HE := Lib.hid (m9.told hB.below)
            clear hold hp r6 m9 i9 hB
            obtain ⟨TZ, hTZ⟩ : ∃ TZ : Nat → Value, ∀ i, (ac.tmps[i]?).getD undef = TZ i := ⟨_, fun _ => rfl⟩
            have f6 := (hTZ 6).symm.trans (congrArg (fun x => Option.getD x undef) t6)
            have f7 := (hTZ 7).symm.trans (congrArg (fun x => Option.getD x undef) t7)
            have hac := act_eq (n := 61) hsz TZ hTZ
            rw [show ((List.range 61).map TZ).toArray = #[TZ 0, TZ 1, TZ 2, TZ 3, TZ 4, TZ 5, TZ 6, TZ 7, TZ 8, TZ 9, TZ 10, TZ 11, TZ 12, TZ 13, TZ 14, TZ 15, TZ 16, TZ 17, TZ 18, TZ 19, TZ 20, TZ 21, TZ 22, TZ 23, TZ 24, TZ 25, TZ 26, TZ 27, TZ 28, TZ 29, TZ 30, TZ 31, TZ 32, TZ 33, TZ 34, TZ 35, TZ 36, TZ 37, TZ 38, TZ 39, TZ 40, TZ 41, TZ 42, TZ 43, TZ 44, TZ 45, TZ 46, TZ 47, TZ 48, TZ 49, TZ 50, TZ 51, TZ 52, TZ 53, TZ 54, TZ 55, TZ 56, TZ 57, TZ 58, TZ 59, TZ 60] from rfl, f6, f7, hdf] at hac
            simp only [Option.getD_some] at hac
            subst hac
            clear hTZ f6 f7
            go_wp2_with fail
            exact bodyPost_ret (res_arr2 Tryz.results12 rfl rfl HX.out HI.out.size) rfl HE.out
          refine Stps4.cons (o := _) ?_ ?_
          · intro f ac yw hsz hold hB hp hf K hK
            have t3 : ac.tmps[3]? = some (.pointer (some ⟨w.heap.size, 0, none⟩)) := hold 3 (by kernel_rfl)
            clear hold hp hsz
            rw [if_pos (by rfl)]
            refine ld8 3 rfl (w.heap.size) (y1) t3 ((hB.now.1 (hf 12 (by decide))).1) (I1.out.size) ?_
            exact hK.out _ _ ⟨hB, rfl, Nat.le_refl _, .inl (Below.refl _ _), fun h => absurd h (by decide)⟩
          refine Stps4.cons (o := _) ?_ ?_
          · intro f ac yw hsz hold hB hp hf K hK
            have t9 : ac.tmps[9]? = some (.slice (some ⟨ks, 0, none⟩) q cS) := hold 9 (by kernel_rfl)
            clear hold hp hsz hf
            go_simp
            exact hK.out _ _ ⟨hB, rfl, Nat.le_refl _, .inl (Below.refl _ _), fun h => absurd h (by decide)⟩
          refine Stps4.cons (o := _) ?_ ?_
          · intro f ac yw hsz hold hB hp hf K hK
            have t2 : ac.tmps[2]? = some (.int .i64 (k : Nat)) := hold 2 (by kernel_rfl)
            clear hold hp hsz hf
            go_simp
            exact hK.out _ _ ⟨hB, rfl, Nat.le_refl _, .inl (Below.refl _ _), fun h => absurd h (by decide)⟩
          refine Stps4.cons (o := _) ?_ ?_
          · intro f ac yw hsz hold hB hp hf K hK
            have e0 := hp 0 (by decide)
            have t49 : ac.tmps[49]? = some (.agg y1) := (List.cons.inj e0).1
            have e1 := hp 1 (by decide)
            have t50 : ac.tmps[50]? = some (.slice (some ⟨ks, 0, none⟩) q cS) := (List.cons.inj e1).1
            have e2 := hp 2 (by decide)
            have t51 : ac.tmps[51]? = some (.int .i64 (k : Nat)) := (List.cons.inj e2).1
            clear hold hp hsz e0 e1 e2
            go_simp
            (go_at_call 37; (refine (LY1.out _ _ _ _ (hB.now.1 (hf 12 (by decide))).2.2.1 (hB.now.1 (hf 12 (by decide))).2.2.2.2).mono ?_); rintro e wz ⟨x3, rfl, h3_0, hbz⟩)
            exact hK.out _ _ ⟨hB.go hbz, Exists.intro x3 (And.intro rfl h3_0), hbz.size, .inl hbz, fun h => absurd h (by decide)⟩
          refine Stps4.cons (o := _) ?_ ?_
          · intro f ac yw hsz hold hB hp hf K hK
            have t4 : ac.tmps[4]? = some (.pointer (some ⟨w.heap.size + 1, 0, none⟩)) := hold 4 (by kernel_rfl)
            clear hold hp hsz
            rw [if_pos (by rfl)]
            refine ld8 4 rfl (w.heap.size + 1) (y2) t4 ((hB.now.1 (hf 12 (by decide))).2.1) (I2.out.size) ?_
            exact hK.out _ _ ⟨hB, rfl, Nat.le_refl _, .inl (Below.refl _ _), fun h => absurd h (by decide)⟩
          refine Stps4.cons (o := _) ?_ ?_
          · intro f ac yw hsz hold hB hp hf K hK
            have t9 : ac.tmps[9]? = some (.slice (some ⟨ks, 0, none⟩) q cS) := hold 9 (by kernel_rfl)
            clear hold hp hsz hf
            go_simp
            exact hK.out _ _ ⟨hB, rfl, Nat.le_refl _, .inl (Below.refl _ _), fun h => absurd h (by decide)⟩
          refine Stps4.cons (o := _) ?_ ?_
          · intro f ac yw hsz hold hB hp hf K hK
            have t2 : ac.tmps[2]? = some (.int .i64 (k : Nat)) := hold 2 (by kernel_rfl)
            clear hold hp hsz hf
            go_simp
            exact hK.out _ _ ⟨hB, rfl, Nat.le_refl _, .inl (Below.refl _ _), fun h => absurd h (by decide)⟩
          refine Stps4.cons (o := _) ?_ ?_
          · intro f ac yw hsz hold hB hp hf K hK
            have e4 := hp 4 (by decide)
            have t53 : ac.tmps[53]? = some (.agg y2) := (List.cons.inj e4).1
            have e5 := hp 5 (by decide)
            have t54 : ac.tmps[54]? = some (.slice (some ⟨ks, 0, none⟩) q cS) := (List.cons.inj e5).1
            have e6 := hp 6 (by decide)
            have t55 : ac.tmps[55]? = some (.int .i64 (k : Nat)) := (List.cons.inj e6).1
            clear hold hp hsz e4 e5 e6
            go_simp
            (go_at_call 37; (refine (LY2.out _ _ _ _ (hB.now.1 (hf 12 (by decide))).2.2.2.1 (hB.now.1 (hf 12 (by decide))).2.2.2.2).mono ?_); rintro e wz ⟨x7, rfl, h7_0, hbz⟩)
            exact hK.out _ _ ⟨hB.go hbz, Exists.intro x7 (And.intro rfl h7_0), hbz.size, .inl hbz, fun h => absurd h (by decide)⟩
          refine Stps4.cons (o := _) ?_ ?_
          · intro f ac yw hsz hold hB hp hf K hK
            have t2 : ac.tmps[2]? = some (.int .i64 (k : Nat)) := hold 2 (by kernel_rfl)
            clear hold hp hsz hf
            go_simp
            exact hK.out _ _ ⟨hB, rfl, Nat.le_refl _, .inl (Below.refl _ _), fun h => absurd h (by decide)⟩
          refine Stps4.cons (o := _) ?_ ?_
          · intro f ac yw hsz hold hB hp hf K hK
            obtain ⟨x3_3, e3, g3_0⟩ := hp 3 (by decide)
            have t52 : ac.tmps[52]? = some (.agg x3_3) := (List.cons.inj e3).1
            obtain ⟨x7_7, e7, g7_0⟩ := hp 7 (by decide)
            have t56 : ac.tmps[56]? = some (.agg x7_7) := (List.cons.inj e7).1
            have e8 := hp 8 (by decide)
            have t57 : ac.tmps[57]? = some (.int .i64 (k : Nat)) := (List.cons.inj e8).1
            clear hold hp hsz hf e3 e7 e8
            go_simp
            (go_at_call 28; (refine (BK3.out _ _ _ g3_0 g7_0).mono ?_); rintro e wz ⟨x9, rfl, h9_0, hbz⟩)
            exact hK.out _ _ ⟨hB.go hbz, Exists.intro x9 (And.intro rfl (And.intro h9_0 h9_0.1)), hbz.size, .inl hbz, fun h => absurd h (by decide)⟩
          refine Stps4.cons (o := _) ?_ ?_
          · intro f ac yw hsz hold hB hp hf K hK
            obtain ⟨x9_9, e9, g9_0, g9_1⟩ := hp 9 (by decide)
            have t58 : ac.tmps[58]? = some (.tuple #[.agg x9_9, .int .i64 E]) := (List.cons.inj e9).1
            clear hold hp hsz hf e9
            go_simp
            exact hK.out _ _ ⟨hB, Exists.intro x9_9 (And.intro rfl (And.intro g9_0 g9_1)), Nat.le_refl _, .inl (Below.refl _ _), fun h => absurd h (by decide)⟩
          refine Stps4.cons (o := _) ?_ ?_
          · intro f ac yw hsz hold hB hp hf K hK
            obtain ⟨x9_9, e9, g9_0, g9_1⟩ := hp 9 (by decide)
            have t58 : ac.tmps[58]? = some (.tuple #[.agg x9_9, .int .i64 E]) := (List.cons.inj e9).1
            clear hold hp hsz hf e9
            go_simp
            exact hK.out _ _ ⟨hB, rfl, Nat.le_refl _, .inl (Below.refl _ _), fun h => absurd h (by decide)⟩
          refine Stps4.cons (o := _) ?_ ?_
          · intro f ac yw hsz hold hB hp hf K hK
            obtain ⟨x9_10, e10, g10_0, g10_1⟩ := hp 10 (by decide)
            have t59 : ac.tmps[59]? = some (.agg x9_10) := (List.cons.inj e10).1
            have t6 : ac.tmps[6]? = some (.pointer (some ⟨w.heap.size + 1 + 1, 0, none⟩)) := hold 6 (by kernel_rfl)
            clear hold hp hsz hf e10
            rw [if_pos (by rfl)]
            obtain ⟨zz, hz, iz⟩ := hB.now.2
            have HB := LmP.put hB (by omega) (x9_10) g10_1
            refine st8 6 59 rfl (w.heap.size + 1 + 1) x9_10 t6 t59 _ zz hz iz g10_1 ?_
            refine hK.out undef _ ⟨HB, Exists.intro x9_10 (And.intro (hz.put _) (And.intro (g10_0.store hz iz _) g10_1)), by simp [World.setRow], .inr ?_, fun h => absurd h (by decide)⟩
            intro jj hj hap h
            match jj, h with
            | 0, h => exact h
            | 1, h => exact h
            | 2, h => exact h
            | 3, ⟨x3, e3, g3_0⟩ => exact Exists.intro x3 (And.intro e3 (g3_0.store hz iz _))
            | 4, h => exact h
            | 5, h => exact h
            | 6, h => exact h
            | 7, ⟨x7, e7, g7_0⟩ => exact Exists.intro x7 (And.intro e7 (g7_0.store hz iz _))
            | 8, h => exact h
            | 9, ⟨x9, e9, g9_0, g9_1⟩ => exact Exists.intro x9 (And.intro e9 (And.intro (g9_0.store hz iz _) g9_1))
            | 10, ⟨x9, e10, g10_0, g10_1⟩ => exact Exists.intro x9 (And.intro e10 (And.intro (g10_0.store hz iz _) g10_1))
            | 11, h => exact h
            | 12, _ => exact absurd rfl hj
            | 13, h => exact h
            | _ + 14, h => exact h
          refine Stps4.cons (o := _) ?_ ?_
          · intro f ac yw hsz hold hB hp hf K hK
            have e11 := hp 11 (by decide)
            have t60 : ac.tmps[60]? = some (.int .i64 E) := (List.cons.inj e11).1
            clear hold hp hsz hf e11
            go_simp
            exact hK.out _ _ ⟨hB, rfl, Nat.le_refl _, .inl (Below.refl _ _), fun h => absurd h (by decide)⟩
          exact Stps4.nil _
        · have dE : (E2 != 0) = true := bne_iff_ne.2 h1
          have HZ3 := Lib.hid BC.out.now.2.2.2.1
          obtain rfl := HEB.out h1
          have HE := Lib.hid (HNO.out _ _ h1 BC.out.below)
          clear HEB h1 BK
          go_wp2_with (refine st_arr rfl (.tmp 6) (.tmp 47) rfl (w.heap.size + 1 + 1) rfl false 0 (fun _ => 0) none 0 0 none 0 0 rfl HZ3.out rfl ?_)
          exact bodyPost_ret (res_arr2 Tryz.results12 rfl rfl (HZ3.out.put _) rfl) rfl HE.out
    · obtain ⟨e1, e2⟩ := hqn h0
      have SHQ : Hid (∀ y wz, Arr wz y S1 r1 CH L1 g1 P1 Q1 → Calls Tryz.prog 35 #[.agg y] wz fun e w' => ∃ g c', e = .returned (.slice (some ⟨g, 0, none⟩) q c') ∧ wz.heap.size ≤ g ∧ g < w'.heap.size ∧ KRow w' .i64 (some ⟨g, 0, none⟩) q c' s ∧ Below wz.heap.size wz w') := Lib.hid (fun y wz h => by
        rw [e1, e2]
        exact SH1.out y wz h)
      have d0 : ((r1 : Int) == 0) = false := beq_eq_false_iff_ne.2 (by omega)
      clear hqz hqn h0 e1 e2
      unfold arrC
      go_enter Tryz.func12, Tryz.ntmps12
      go_wp2_with (first
        | (refine ld_arr rfl (.tmp 3) rfl (w.heap.size) rfl HR1.out ?_)
        | (refine ld_arr rfl (.tmp 4) rfl (w.heap.size + 1) rfl HR2.out ?_))
      go_at_call 25
      (with_reducible refine (AL.out _ ?_ ?_).mono ?_)
      · exact H1.out.below BB.out.below
      · exact H2.out.below BB.out.below
      rintro e w2 ⟨y1, y2, rfl, i1, i2, hA, hb2⟩
      have B2 := BB.out.go hb2
      have HZ1 := Lib.hid B2.now.1
      have hz2 := B2.now.2.1.puto (k := w.heap.size) (by omega) y1
      have HZ2 := Lib.hid hz2
      have I1 := Lib.hid i1
      have I2 := Lib.hid i2
      have F1 := Lib.hid ((B2.now.1.put y1).puto (k := w.heap.size + 1) (by omega) y2)
      have F2 := Lib.hid (hz2.put y2)
      have F3 := Lib.hid ((B2.now.2.2.1.puto (k := w.heap.size) (by omega) y1).puto (k := w.heap.size + 1) (by omega) y2)
      have F4 := Lib.hid (below_put (below_put B2.below (Nat.le_refl _) y1) (show w.heap.size ≤ w.heap.size + 1 by omega) y2)
      have F5 := Lib.hid (((hA trivial).1.store B2.now.1 (IsA.of _ _ _ _ _ _ _ _ _) y1).store hz2 (IsA.of _ _ _ _ _ _ _ _ _) y2)
      have F6 := Lib.hid (((hA trivial).2.store B2.now.1 (IsA.of _ _ _ _ _ _ _ _ _) y1).store hz2 (IsA.of _ _ _ _ _ _ _ _ _) y2)
      clear hA hb2 B2 hz2 i1 i2
      go_wp2_with (first
        | (refine stA rfl (.tmp 3) (.tmp 15) rfl (w.heap.size) rfl y1 rfl I1.out HZ1.out (IsA.of _ _ _ _ _ _ _ _ _) ?_)
        | (refine stA rfl (.tmp 4) (.tmp 16) rfl (w.heap.size + 1) rfl y2 rfl I2.out HZ2.out (IsA.of _ _ _ _ _ _ _ _ _) ?_)
        | (refine ld8G (by rfl) 3 rfl (w.heap.size) y1 (by rfl) F1.out I1.out.size ?_))
      generalize hW : ((w2.setRow w.heap.size y1).setRow (w.heap.size + 1) y2) = Y2 at *
      have BC := Lib.hid (show Bag w (fun y => Row y w.heap.size 32 y1 ∧ Row y (w.heap.size + 1) 32 y2 ∧ Row y (w.heap.size + 1 + 1) 32 zerC ∧ Arr y y1 S1 r1 CH L1 g1 P1 Q1 ∧ Arr y y2 S2 r2 CH L2 g2 P2 Q2) Y2 from ⟨F4.out, (fun a b hb ⟨q1, q2, q3, q4, q5⟩ => ⟨q1.below hb, q2.below hb, q3.below hb, q4.below hb, q5.below hb⟩), F1.out, F2.out, F3.out, F5.out, F6.out⟩)
      clear hW HZ1 HZ2 F1 F2 F3 F4 F5 F6
      go_at_call 35
      (refine (SHQ.out _ _ BC.out.now.2.2.2.1).mono ?_)
      rintro e w3 ⟨ks, cS, rfl, _, _, hkS, hb3⟩
      have hlS := hkS.len
      have BC := Lib.hid ((BC.out.go hb3).krow hkS)
      have HY1 := Lib.hid BC.out.now.2.1
      clear hkS hb3
      go_wp2_with (refine ld8G (by rfl) 3 rfl (w.heap.size) y1 (by rfl) HY1.out I1.out.size ?_)
      go_at_call 23
      (refine (RK1.out _ _ BC.out.now.2.2.2.2.1).mono ?_)
      rintro e w5 ⟨rfl, hb5⟩
      have BC := Lib.hid (BC.out.go hb5)
      clear hb5 HY1
      have HNB : Hid (q ≤ 8) := Lib.hid (by omega)
      by_cases h23 : i < 0 ∨ (q : Int) < i ∨ q = 8
      · obtain rfl := HF23.out h23
        have HZ3 := Lib.hid BC.out.now.2.2.2.1
        have HE := Lib.hid (HNO.out 23 _ (by decide) BC.out.below)
        clear HF23 HF2 BH2 LY1 LY2 CV
        rcases h23 with h | h | h
        · go_wp2_with (refine st_arr rfl (.tmp 6) (.tmp 41) rfl (w.heap.size + 1 + 1) rfl false 0 (fun _ => 0) none 0 0 none 0 0 rfl HZ3.out rfl ?_)
          exact bodyPost_ret (res_arr2 Tryz.results12 rfl rfl (HZ3.out.put _) rfl) rfl HE.out
        · have d1 : ¬ i < 0 := by omega
          go_wp2_with (refine st_arr rfl (.tmp 6) (.tmp 41) rfl (w.heap.size + 1 + 1) rfl false 0 (fun _ => 0) none 0 0 none 0 0 rfl HZ3.out rfl ?_)
          exact bodyPost_ret (res_arr2 Tryz.results12 rfl rfl (HZ3.out.put _) rfl) rfl HE.out
        · have d3 : ((q : Int) == 8) = true := beq_iff_eq.2 (by omega)
          clear h
          by_cases h4 : i < 0
          · go_wp2_with (refine st_arr rfl (.tmp 6) (.tmp 41) rfl (w.heap.size + 1 + 1) rfl false 0 (fun _ => 0) none 0 0 none 0 0 rfl HZ3.out rfl ?_)
            exact bodyPost_ret (res_arr2 Tryz.results12 rfl rfl (HZ3.out.put _) rfl) rfl HE.out
          · by_cases h5 : (q : Int) < i
            · go_wp2_with (refine st_arr rfl (.tmp 6) (.tmp 41) rfl (w.heap.size + 1 + 1) rfl false 0 (fun _ => 0) none 0 0 none 0 0 rfl HZ3.out rfl ?_)
              exact bodyPost_ret (res_arr2 Tryz.results12 rfl rfl (HZ3.out.put _) rfl) rfl HE.out
            · go_wp2_with (refine st_arr rfl (.tmp 6) (.tmp 41) rfl (w.heap.size + 1 + 1) rfl false 0 (fun _ => 0) none 0 0 none 0 0 rfl HZ3.out rfl ?_)
              exact bodyPost_ret (res_arr2 Tryz.results12 rfl rfl (HZ3.out.put _) rfl) rfl HE.out
      · obtain ⟨k, rfl⟩ : ∃ k : Nat, i = (k : Nat) := ⟨i.toNat, by omega⟩
        have hkq : k ≤ q := by omega
        have hq8 : q + 1 ≤ 8 := by omega
        have d1 : ¬ ((k : Nat) : Int) < 0 := by omega
        have d2 : ¬ ((q : Nat) : Int) < (k : Nat) := by omega
        have d3 : ((q : Int) == 8) = false := beq_eq_false_iff_ne.2 (by omega)
        have d4 : decide (q < k) = false := decide_eq_false (by omega)
        have d5 : k ≤ q := hkq
        have HY2 := Lib.hid BC.out.now.2.2.1
        have LY1 := Lib.hid (LY1.out k rfl hkq hq8)
        have LY2 := Lib.hid (LY2.out k rfl hkq hq8)
        have BK := Lib.hid (BH2.out k rfl hkq hq8)
        have HEB := Lib.hid (HF2.out h23)
        obtain ⟨E2, hE2⟩ : ∃ E, cvE r2 S2 q s = E := ⟨_, rfl⟩
        rw [hE2] at CV BK HEB
        clear h23 HF23 HF2 BH2 hE2
        go_wp2_with (refine ld8G (by rfl) 4 rfl (w.heap.size + 1) y2 (by rfl) HY2.out I2.out.size ?_)
        go_at_call 36
        (refine (CV.out _ _ _ _ BC.out.now.2.2.2.2.2 BC.out.now.1).mono ?_)
        rintro e w4 ⟨rfl, hb4⟩
        have BC := Lib.hid (BC.out.go hb4)
        clear hb4 HY2 CV
        by_cases h1 : E2 = 0
        · subst h1
          have BK3 := Lib.hid (BK.out rfl)
          clear BK
          obtain ⟨Y3, hY3⟩ : ∃ y, y = w4 := ⟨_, rfl⟩
          subst hY3
          go_wp2_with fail
          have BP : Bag w (LmP false (w.heap.size) (w.heap.size + 1) (w.heap.size + 1 + 1) y1 y2 (fun y => Arr y y1 S1 r1 CH L1 g1 P1 Q1 ∧ Arr y y2 S2 r2 CH L2 g2 P2 Q2 ∧ KRow y .i64 (some ⟨ks, 0, none⟩) q cS s)) Y3 := ⟨BC.out.below, LmP.stay (fun a b hb ⟨q1, q2, q3⟩ => ⟨q1.below hb, q2.below hb, q3.below hb⟩), fun _ => ⟨BC.out.now.2.1, BC.out.now.2.2.1, BC.out.now.2.2.2.2.1, BC.out.now.2.2.2.2.2, BC.out.now.1⟩, _, BC.out.now.2.2.2.1, IsA.zer⟩
          refine wp_region_inv4 ⟨(fun j => ([[49], [50], [51], [52], [53], [54], [55], [56], [57], [58], [59], [60], [], [7]] : List (List Nat)).getD j []), (fun j => ([[], [], [], [0, 1, 2], [], [], [], [0, 1, 2, 3, 4, 5, 6], [], [0, 1, 2, 3, 4, 5, 6, 7, 8], [0, 1, 2, 3, 4, 5, 6, 7, 8, 9], [0, 1, 2, 3, 4, 5, 6, 7, 8, 9], [0, 1, 2, 3, 4, 5, 6, 7, 8, 9, 10, 11], [0, 1, 2, 3, 4, 5, 6, 7, 8, 9, 10, 11, 12]] : List (List Nat)).getD j []), []⟩ (fun jj vv yy => match jj with | 0 => vv = [some (.agg y1)] | 1 => vv = [some (.slice (some ⟨ks, 0, none⟩) q cS)] | 2 => vv = [some (.int .i64 (k : Nat))] | 3 => ∃ (x3 : Array Value), vv = [some (.agg x3)] ∧ Arr yy x3 X (q + 1) CH Ms (fun j => elC L1 g1 32 (exG r1 j)) (fun j => elP L1 P1 (exG r1 j)) (fun j => elQ L1 Q1 (exG r1 j)) | 4 => vv = [some (.agg y2)] | 5 => vv = [some (.slice (some ⟨ks, 0, none⟩) q cS)] | 6 => vv = [some (.int .i64 (k : Nat))] | 7 => ∃ (x7 : Array Value), vv = [some (.agg x7)] ∧ Arr yy x7 X (q + 1) CH Ms (fun j => elC L2 g2 32 (exG r2 j)) (fun j => elP L2 P2 (exG r2 j)) (fun j => elQ L2 Q2 (exG r2 j)) | 8 => vv = [some (.int .i64 (k : Nat))] | 9 => ∃ (x9 : Array Value), vv = [some (.tuple #[.agg x9, .int .i64 E])] ∧ MoR yy x9 E T (q + 1) CH M (wvF N N (fun j => elC L1 g1 32 (exG r1 j)) (fun j => elC L2 g2 32 (exG r2 j))) (wvF N N (fun j => elP L1 P1 (exG r1 j)) (fun j => elP L2 P2 (exG r2 j))) (wvF N N (fun j => elQ L1 Q1 (exG r1 j)) (fun j => elQ L2 Q2 (exG r2 j))) ∧ IsA x9 | 10 => ∃ (x9 : Array Value), vv = [some (.agg x9)] ∧ MoR yy x9 E T (q + 1) CH M (wvF N N (fun j => elC L1 g1 32 (exG r1 j)) (fun j => elC L2 g2 32 (exG r2 j))) (wvF N N (fun j => elP L1 P1 (exG r1 j)) (fun j => elP L2 P2 (exG r2 j))) (wvF N N (fun j => elQ L1 Q1 (exG r1 j)) (fun j => elQ L2 Q2 (exG r2 j))) ∧ IsA x9 | 11 => vv = [some (.int .i64 E)] | 12 => ∃ (x9 : Array Value), Row yy (w.heap.size + 1 + 1) 32 x9 ∧ MoR yy x9 E T (q + 1) CH M (wvF N N (fun j => elC L1 g1 32 (exG r1 j)) (fun j => elC L2 g2 32 (exG r2 j))) (wvF N N (fun j => elP L1 P1 (exG r1 j)) (fun j => elP L2 P2 (exG r2 j))) (wvF N N (fun j => elQ L1 Q1 (exG r1 j)) (fun j => elQ L2 Q2 (exG r2 j))) ∧ IsA x9 | 13 => vv = [some (.int .i64 E)] | _ => True) (fun f => Bag w (LmP (f 12) (w.heap.size) (w.heap.size + 1) (w.heap.size + 1 + 1) y1 y2 (fun y => Arr y y1 S1 r1 CH L1 g1 P1 Q1 ∧ Arr y y2 S2 r2 CH L2 g2 P2 Q2 ∧ KRow y .i64 (some ⟨ks, 0, none⟩) q cS s))) (by kernel_rfl) (by kernel_rfl) (by kernel_rfl) BP.drew ?_ ?_ ?_
          · intro jj vv yw yw2 hb h
            match jj, h with
            | 0, h => exact h
            | 1, h => exact h
            | 2, h => exact h
            | 3, ⟨x3, e3, g3_0⟩ => exact Exists.intro x3 (And.intro e3 (g3_0.below hb))
            | 4, h => exact h
            | 5, h => exact h
            | 6, h => exact h
            | 7, ⟨x7, e7, g7_0⟩ => exact Exists.intro x7 (And.intro e7 (g7_0.below hb))
            | 8, h => exact h
            | 9, ⟨x9, e9, g9_0, g9_1⟩ => exact Exists.intro x9 (And.intro e9 (And.intro (g9_0.below hb) g9_1))
            | 10, ⟨x9, e10, g10_0, g10_1⟩ => exact Exists.intro x9 (And.intro e10 (And.intro (g10_0.below hb) g10_1))
            | 11, h => exact h
            | 12, ⟨x9, g12_0, g12_1, g12_2⟩ => exact Exists.intro x9 (And.intro (g12_0.below hb) (And.intro (g12_1.below hb) g12_2))
            | 13, h => exact h
            | _ + 14, h => exact h
          · intro ac yw hsz hdf hold hB hp
            obtain ⟨x9, r6, m9, i9⟩ := hp 12 (by decide)
            have t7 : ac.tmps[7]? = some (.int .i64 E) := (List.cons.inj (hp 13 (by decide))).1
            have t6 : ac.tmps[6]? = some (.pointer (some ⟨w.heap.size + 1 + 1, 0, none⟩)) := hold 6 (by kernel_rfl)
            have HX := Lib.hid r6
            have HI := Lib.hid i9
            have HE := Lib.hid (m9.told hB.below)
            clear hold hp r6 m9 i9 hB
            obtain ⟨TZ, hTZ⟩ : ∃ TZ : Nat → Value, ∀ i, (ac.tmps[i]?).getD undef = TZ i := ⟨_, fun _ => rfl⟩
            have f6 := (hTZ 6).symm.trans (congrArg (fun x => Option.getD x undef) t6)
            have f7 := (hTZ 7).symm.trans (congrArg (fun x => Option.getD x undef) t7)
            have hac := act_eq (n := 61) hsz TZ hTZ
            rw [show ((List.range 61).map TZ).toArray = #[TZ 0, TZ 1, TZ 2, TZ 3, TZ 4, TZ 5, TZ 6, TZ 7, TZ 8, TZ 9, TZ 10, TZ 11, TZ 12, TZ 13, TZ 14, TZ 15, TZ 16, TZ 17, TZ 18, TZ 19, TZ 20, TZ 21, TZ 22, TZ 23, TZ 24, TZ 25, TZ 26, TZ 27, TZ 28, TZ 29, TZ 30, TZ 31, TZ 32, TZ 33, TZ 34, TZ 35, TZ 36, TZ 37, TZ 38, TZ 39, TZ 40, TZ 41, TZ 42, TZ 43, TZ 44, TZ 45, TZ 46, TZ 47, TZ 48, TZ 49, TZ 50, TZ 51, TZ 52, TZ 53, TZ 54, TZ 55, TZ 56, TZ 57, TZ 58, TZ 59, TZ 60] from rfl, f6, f7, hdf] at hac
            simp only [Option.getD_some] at hac
            subst hac
            clear hTZ f6 f7
            go_wp2_with fail
            exact bodyPost_ret (res_arr2 Tryz.results12 rfl rfl HX.out HI.out.size) rfl HE.out
          refine Stps4.cons (o := _) ?_ ?_
          · intro f ac yw hsz hold hB hp hf K hK
            have t3 : ac.tmps[3]? = some (.pointer (some ⟨w.heap.size, 0, none⟩)) := hold 3 (by kernel_rfl)
            clear hold hp hsz
            rw [if_pos (by rfl)]
            refine ld8 3 rfl (w.heap.size) (y1) t3 ((hB.now.1 (hf 12 (by decide))).1) (I1.out.size) ?_
            exact hK.out _ _ ⟨hB, rfl, Nat.le_refl _, .inl (Below.refl _ _), fun h => absurd h (by decide)⟩
          refine Stps4.cons (o := _) ?_ ?_
          · intro f ac yw hsz hold hB hp hf K hK
            have t9 : ac.tmps[9]? = some (.slice (some ⟨ks, 0, none⟩) q cS) := hold 9 (by kernel_rfl)
            clear hold hp hsz hf
            go_simp
            exact hK.out _ _ ⟨hB, rfl, Nat.le_refl _, .inl (Below.refl _ _), fun h => absurd h (by decide)⟩
          refine Stps4.cons (o := _) ?_ ?_
          · intro f ac yw hsz hold hB hp hf K hK
            have t2 : ac.tmps[2]? = some (.int .i64 (k : Nat)) := hold 2 (by kernel_rfl)
            clear hold hp hsz hf
            go_simp
            exact hK.out _ _ ⟨hB, rfl, Nat.le_refl _, .inl (Below.refl _ _), fun h => absurd h (by decide)⟩
          refine Stps4.cons (o := _) ?_ ?_
          · intro f ac yw hsz hold hB hp hf K hK
            have e0 := hp 0 (by decide)
            have t49 : ac.tmps[49]? = some (.agg y1) := (List.cons.inj e0).1
            have e1 := hp 1 (by decide)
            have t50 : ac.tmps[50]? = some (.slice (some ⟨ks, 0, none⟩) q cS) := (List.cons.inj e1).1
            have e2 := hp 2 (by decide)
            have t51 : ac.tmps[51]? = some (.int .i64 (k : Nat)) := (List.cons.inj e2).1
            clear hold hp hsz e0 e1 e2
            go_simp
            (go_at_call 37; (refine (LY1.out _ _ _ _ (hB.now.1 (hf 12 (by decide))).2.2.1 (hB.now.1 (hf 12 (by decide))).2.2.2.2).mono ?_); rintro e wz ⟨x3, rfl, h3_0, hbz⟩)
            exact hK.out _ _ ⟨hB.go hbz, Exists.intro x3 (And.intro rfl h3_0), hbz.size, .inl hbz, fun h => absurd h (by decide)⟩
          refine Stps4.cons (o := _) ?_ ?_
          · intro f ac yw hsz hold hB hp hf K hK
            have t4 : ac.tmps[4]? = some (.pointer (some ⟨w.heap.size + 1, 0, none⟩)) := hold 4 (by kernel_rfl)
            clear hold hp hsz
            rw [if_pos (by rfl)]
            refine ld8 4 rfl (w.heap.size + 1) (y2) t4 ((hB.now.1 (hf 12 (by decide))).2.1) (I2.out.size) ?_
            exact hK.out _ _ ⟨hB, rfl, Nat.le_refl _, .inl (Below.refl _ _), fun h => absurd h (by decide)⟩
          refine Stps4.cons (o := _) ?_ ?_
          · intro f ac yw hsz hold hB hp hf K hK
            have t9 : ac.tmps[9]? = some (.slice (some ⟨ks, 0, none⟩) q cS) := hold 9 (by kernel_rfl)
            clear hold hp hsz hf
            go_simp
            exact hK.out _ _ ⟨hB, rfl, Nat.le_refl _, .inl (Below.refl _ _), fun h => absurd h (by decide)⟩
          refine Stps4.cons (o := _) ?_ ?_
          · intro f ac yw hsz hold hB hp hf K hK
            have t2 : ac.tmps[2]? = some (.int .i64 (k : Nat)) := hold 2 (by kernel_rfl)
            clear hold hp hsz hf
            go_simp
            exact hK.out _ _ ⟨hB, rfl, Nat.le_refl _, .inl (Below.refl _ _), fun h => absurd h (by decide)⟩
          refine Stps4.cons (o := _) ?_ ?_
          · intro f ac yw hsz hold hB hp hf K hK
            have e4 := hp 4 (by decide)
            have t53 : ac.tmps[53]? = some (.agg y2) := (List.cons.inj e4).1
            have e5 := hp 5 (by decide)
            have t54 : ac.tmps[54]? = some (.slice (some ⟨ks, 0, none⟩) q cS) := (List.cons.inj e5).1
            have e6 := hp 6 (by decide)
            have t55 : ac.tmps[55]? = some (.int .i64 (k : Nat)) := (List.cons.inj e6).1
            clear hold hp hsz e4 e5 e6
            go_simp
            (go_at_call 37; (refine (LY2.out _ _ _ _ (hB.now.1 (hf 12 (by decide))).2.2.2.1 (hB.now.1 (hf 12 (by decide))).2.2.2.2).mono ?_); rintro e wz ⟨x7, rfl, h7_0, hbz⟩)
            exact hK.out _ _ ⟨hB.go hbz, Exists.intro x7 (And.intro rfl h7_0), hbz.size, .inl hbz, fun h => absurd h (by decide)⟩
          refine Stps4.cons (o := _) ?_ ?_
          · intro f ac yw hsz hold hB hp hf K hK
            have t2 : ac.tmps[2]? = some (.int .i64 (k : Nat)) := hold 2 (by kernel_rfl)
            clear hold hp hsz hf
            go_simp
            exact hK.out _ _ ⟨hB, rfl, Nat.le_refl _, .inl (Below.refl _ _), fun h => absurd h (by decide)⟩
          refine Stps4.cons (o := _) ?_ ?_
          · intro f ac yw hsz hold hB hp hf K hK
            obtain ⟨x3_3, e3, g3_0⟩ := hp 3 (by decide)
            have t52 : ac.tmps[52]? = some (.agg x3_3) := (List.cons.inj e3).1
            obtain ⟨x7_7, e7, g7_0⟩ := hp 7 (by decide)
            have t56 : ac.tmps[56]? = some (.agg x7_7) := (List.cons.inj e7).1
            have e8 := hp 8 (by decide)
            have t57 : ac.tmps[57]? = some (.int .i64 (k : Nat)) := (List.cons.inj e8).1
            clear hold hp hsz hf e3 e7 e8
            go_simp
            (go_at_call 28; (refine (BK3.out _ _ _ g3_0 g7_0).mono ?_); rintro e wz ⟨x9, rfl, h9_0, hbz⟩)
            exact hK.out _ _ ⟨hB.go hbz, Exists.intro x9 (And.intro rfl (And.intro h9_0 h9_0.1)), hbz.size, .inl hbz, fun h => absurd h (by decide)⟩
          refine Stps4.cons (o := _) ?_ ?_
          · intro f ac yw hsz hold hB hp hf K hK
            obtain ⟨x9_9, e9, g9_0, g9_1⟩ := hp 9 (by decide)
            have t58 : ac.tmps[58]? = some (.tuple #[.agg x9_9, .int .i64 E]) := (List.cons.inj e9).1
            clear hold hp hsz hf e9
            go_simp
            exact hK.out _ _ ⟨hB, Exists.intro x9_9 (And.intro rfl (And.intro g9_0 g9_1)), Nat.le_refl _, .inl (Below.refl _ _), fun h => absurd h (by decide)⟩
          refine Stps4.cons (o := _) ?_ ?_
          · intro f ac yw hsz hold hB hp hf K hK
            obtain ⟨x9_9, e9, g9_0, g9_1⟩ := hp 9 (by decide)
            have t58 : ac.tmps[58]? = some (.tuple #[.agg x9_9, .int .i64 E]) := (List.cons.inj e9).1
            clear hold hp hsz hf e9
            go_simp
            exact hK.out _ _ ⟨hB, rfl, Nat.le_refl _, .inl (Below.refl _ _), fun h => absurd h (by decide)⟩
          refine Stps4.cons (o := _) ?_ ?_
          · intro f ac yw hsz hold hB hp hf K hK
            obtain ⟨x9_10, e10, g10_0, g10_1⟩ := hp 10 (by decide)
            have t59 : ac.tmps[59]? = some (.agg x9_10) := (List.cons.inj e10).1
            have t6 : ac.tmps[6]? = some (.pointer (some ⟨w.heap.size + 1 + 1, 0, none⟩)) := hold 6 (by kernel_rfl)
            clear hold hp hsz hf e10
            rw [if_pos (by rfl)]
            obtain ⟨zz, hz, iz⟩ := hB.now.2
            have HB := LmP.put hB (by omega) (x9_10) g10_1
            refine st8 6 59 rfl (w.heap.size + 1 + 1) x9_10 t6 t59 _ zz hz iz g10_1 ?_
            refine hK.out undef _ ⟨HB, Exists.intro x9_10 (And.intro (hz.put _) (And.intro (g10_0.store hz iz _) g10_1)), by simp [World.setRow], .inr ?_, fun h => absurd h (by decide)⟩
            intro jj hj hap h
            match jj, h with
            | 0, h => exact h
            | 1, h => exact h
            | 2, h => exact h
            | 3, ⟨x3, e3, g3_0⟩ => exact Exists.intro x3 (And.intro e3 (g3_0.store hz iz _))
            | 4, h => exact h
            | 5, h => exact h
            | 6, h => exact h
            | 7, ⟨x7, e7, g7_0⟩ => exact Exists.intro x7 (And.intro e7 (g7_0.store hz iz _))
            | 8, h => exact h
            | 9, ⟨x9, e9, g9_0, g9_1⟩ => exact Exists.intro x9 (And.intro e9 (And.intro (g9_0.store hz iz _) g9_1))
            | 10, ⟨x9, e10, g10_0, g10_1⟩ => exact Exists.intro x9 (And.intro e10 (And.intro (g10_0.store hz iz _) g10_1))
            | 11, h => exact h
            | 12, _ => exact absurd rfl hj
            | 13, h => exact h
            | _ + 14, h => exact h
          refine Stps4.cons (o := _) ?_ ?_
          · intro f ac yw hsz hold hB hp hf K hK
            have e11 := hp 11 (by decide)
            have t60 : ac.tmps[60]? = some (.int .i64 E) := (List.cons.inj e11).1
            clear hold hp hsz hf e11
            go_simp
            exact hK.out _ _ ⟨hB, rfl, Nat.le_refl _, .inl (Below.refl _ _), fun h => absurd h (by decide)⟩
          exact Stps4.nil _
        · have dE : (E2 != 0) = true := bne_iff_ne.2 h1
          have HZ3 := Lib.hid BC.out.now.2.2.2.1
          obtain rfl := HEB.out h1
          have HE := Lib.hid (HNO.out _ _ h1 BC.out.below)
          clear HEB h1 BK
          go_wp2_with (refine st_arr rfl (.tmp 6) (.tmp 47) rfl (w.heap.size + 1 + 1) rfl false 0 (fun _ => 0) none 0 0 none 0 0 rfl HZ3.out rfl ?_)
          exact bodyPost_ret (res_arr2 Tryz.results12 rfl rfl (HZ3.out.put _) rfl) rfl HE.out
end Go.Proofs.YtifnamlgkooacaaGreatDoor

namespace Go.Proofs.YtifnamlgkooacaaGreatDoor
open Go.RowKit
attribute [local go_sem ↓] Go.wp_at_zero Go.wp_at_succ
def jw1S : Nat → Int := jnT 1 (fun _ => ((2 : Nat) : Int)) 0 (fun _ => 0) ((caK (grR 1 0) (-1)).toNat)
def jw1g : Nat → Int := wvF (jnN 1 (fun _ => ((2 : Nat) : Int)) (grR 1 0) (grS 1 (fun _ => ((2 : Nat) : Int)) 0 (fun _ => 0)) ((caK (grR 1 0) (-1)).toNat)) (jnN 0 (fun _ => 0) (grR 1 0) (grS 1 (fun _ => ((2 : Nat) : Int)) 0 (fun _ => 0)) ((caK (grR 1 0) (-1)).toNat)) (fun j => elC 2 (fun _ => 0) 32 (exG 1 j)) (fun j => elC 1 (fun _ => 0) 32 (exG 0 j))
def jw1P : Nat → Int := wvF (jnN 1 (fun _ => ((2 : Nat) : Int)) (grR 1 0) (grS 1 (fun _ => ((2 : Nat) : Int)) 0 (fun _ => 0)) ((caK (grR 1 0) (-1)).toNat)) (jnN 0 (fun _ => 0) (grR 1 0) (grS 1 (fun _ => ((2 : Nat) : Int)) 0 (fun _ => 0)) ((caK (grR 1 0) (-1)).toNat)) (fun j => elP 2 (lt [1, 2]) (exG 1 j)) (fun j => elP 1 (fun _ => 3) (exG 0 j))
def jw1Q : Nat → Nat := wvF (jnN 1 (fun _ => ((2 : Nat) : Int)) (grR 1 0) (grS 1 (fun _ => ((2 : Nat) : Int)) 0 (fun _ => 0)) ((caK (grR 1 0) (-1)).toNat)) (jnN 0 (fun _ => 0) (grR 1 0) (grS 1 (fun _ => ((2 : Nat) : Int)) 0 (fun _ => 0)) ((caK (grR 1 0) (-1)).toNat)) (fun j => elQ 2 (fun _ => 1) (exG 1 j)) (fun j => elQ 1 (fun _ => 1) (exG 0 j))
def jw2S : Nat → Int := lmT (lmS 1 (fun _ => ((2 : Nat) : Int)) (fun _ => ((2 : Nat) : Int))) ((1 : Int).toNat)
def jw2g : Nat → Int := wvF (lmN (lmS 1 (fun _ => ((2 : Nat) : Int)) (fun _ => ((2 : Nat) : Int))) (lmR 1 1) ((1 : Int).toNat)) (lmN (lmS 1 (fun _ => ((2 : Nat) : Int)) (fun _ => ((2 : Nat) : Int))) (lmR 1 1) ((1 : Int).toNat)) (fun j => elC 2 (fun _ => 0) 32 (exG 1 j)) (fun j => elC 2 (fun _ => 0) 32 (exG 1 j))
def jw2P : Nat → Int := wvF (lmN (lmS 1 (fun _ => ((2 : Nat) : Int)) (fun _ => ((2 : Nat) : Int))) (lmR 1 1) ((1 : Int).toNat)) (lmN (lmS 1 (fun _ => ((2 : Nat) : Int)) (fun _ => ((2 : Nat) : Int))) (lmR 1 1) ((1 : Int).toNat)) (fun j => elP 2 (lt [1, 2]) (exG 1 j)) (fun j => elP 2 (lt [3, 4]) (exG 1 j))
def jw2Q : Nat → Nat := wvF (lmN (lmS 1 (fun _ => ((2 : Nat) : Int)) (fun _ => ((2 : Nat) : Int))) (lmR 1 1) ((1 : Int).toNat)) (lmN (lmS 1 (fun _ => ((2 : Nat) : Int)) (fun _ => ((2 : Nat) : Int))) (lmR 1 1) ((1 : Int).toNat)) (fun j => elQ 2 (fun _ => 1) (exG 1 j)) (fun j => elQ 2 (fun _ => 1) (exG 1 j))
theorem less4 {p : Nat → Prop} (h0 : p 0) (h1 : p 1) (h2 : p 2) (h3 : p 3) : ∀ j, j < 4 → p j
  | 0, _ => h0
  | 1, _ => h1
  | 2, _ => h2
  | 3, _ => h3
  | n + 4, h => absurd h (by omega)
theorem pintsK {wz : World} {a : Option Addr} {c n : Nat} {l : List Int} (h : KRow wz .i64 a n c (lt l)) (h64 : l.all (fun x => decide (-9223372036854775808 ≤ x ∧ x ≤ 9223372036854775807)) = true) (hn : n ≤ 1000000) :
    Calls Tryz.prog 20 #[.slice a n c] wz fun e w' => ∃ p, e = .returned (.agg p) ∧ PlJ w' p l n ∧ Below wz.heap.size wz w' :=
  (r6Ints_any a n c (lt l) wz h (lt64 h64 n) hn).mono (by
    intro e w' hq
    obtain ⟨p, he, _, hb⟩ := hq (fun _ => 0)
    refine ⟨p, he, fun T => ?_, hb⟩
    obtain ⟨p2, he2, h2, _⟩ := hq T
    rw [he] at he2
    injection he2 with he2
    injection he2 with he2
    rw [he2]
    exact h2)
set_option linter.unusedSimpArgs false in
set_option maxHeartbeats 6400000 in
set_option maxRecDepth 100000 in
theorem awake10_any (w : World) : Calls Tryz.prog 7 #[] w fun e w' => e = .returned (.bool true) ∧ Below w.heap.size w w' := by
  have I3 : Hid (∀ wz, Calls Tryz.prog 16 #[.int .i64 3] wz fun e w' => ∃ x, e = .returned (.agg x) ∧ Arr w' x (fun _ => 0) 0 false 1 (fun _ => 0) (fun _ => 3) (fun _ => 1) ∧ Below wz.heap.size wz w') := Lib.hid (fun wz => (int8_any 3 wz (by omega)).mono (by
    rintro e w' ⟨x, he, h, hb⟩
    exact ⟨x, he, h _, hb⟩))
  have INa : Hid (∀ a c wz, KRow wz .i64 a 2 c (lt [1, 2]) → Calls Tryz.prog 14 #[.slice a 2 c] wz fun e w' => ∃ x, e = .returned (.agg x) ∧ Arr w' x (fun _ => ((2 : Nat) : Int)) 1 false 2 (fun _ => 0) (lt [1, 2]) (fun _ => 1) ∧ Below wz.heap.size wz w') := Lib.hid (fun a c wz h => (ints8_any a 2 c (lt [1, 2]) wz h (lt64 (by decide) 2) (by omega)).mono (by
    rintro e w' ⟨x, he, h, hb⟩
    exact ⟨x, he, h _, hb⟩))
  have INb : Hid (∀ a c wz, KRow wz .i64 a 2 c (lt [3, 4]) → Calls Tryz.prog 14 #[.slice a 2 c] wz fun e w' => ∃ x, e = .returned (.agg x) ∧ Arr w' x (fun _ => ((2 : Nat) : Int)) 1 false 2 (fun _ => 0) (lt [3, 4]) (fun _ => 1) ∧ Below wz.heap.size wz w') := Lib.hid (fun a c wz h => (ints8_any a 2 c (lt [3, 4]) wz h (lt64 (by decide) 2) (by omega)).mono (by
    rintro e w' ⟨x, he, h, hb⟩
    exact ⟨x, he, h _, hb⟩))
  have CT : Hid (∀ c0 c wz, Arr wz c0 (fun _ => ((2 : Nat) : Int)) 1 false 2 (fun _ => 0) (lt [1, 2]) (fun _ => 1) → Arr wz c (fun _ => 0) 0 false 1 (fun _ => 0) (fun _ => 3) (fun _ => 1) → Calls Tryz.prog 8 #[.agg c0, .agg c, .int .i64 (-1)] wz fun e w' => ∃ x, e = .returned (.tuple #[.agg x, .int .i64 0]) ∧ Arr w' x jw1S 1 false 3 jw1g jw1P jw1Q ∧ Below wz.heap.size wz w') := Lib.hid (fun c0 c wz h0 h =>
    (catenate_any c0 (fun _ => ((2 : Nat) : Int)) 1 false 2 (fun _ => 0) (lt [1, 2]) (fun _ => 1) c (fun _ => 0) 0 false 1 (fun _ => 0) (fun _ => 3) (fun _ => 1) (-1) wz h0 h (by decide) (by decide) (by decide) (by decide) (by omega)).mono (fun _ _ q => q.ok (by decide)))
  have LM : Hid (∀ c0 c wz, Arr wz c0 (fun _ => ((2 : Nat) : Int)) 1 false 2 (fun _ => 0) (lt [1, 2]) (fun _ => 1) → Arr wz c (fun _ => ((2 : Nat) : Int)) 1 false 2 (fun _ => 0) (lt [3, 4]) (fun _ => 1) → Calls Tryz.prog 12 #[.agg c0, .agg c, .int .i64 (1)] wz fun e w' => ∃ x, e = .returned (.tuple #[.agg x, .int .i64 0]) ∧ Arr w' x jw2S 2 false 4 jw2g jw2P jw2Q ∧ Below wz.heap.size wz w') := Lib.hid (fun c0 c wz h0 h =>
    (laminate_any c0 (fun _ => ((2 : Nat) : Int)) 1 false 2 (fun _ => 0) (lt [1, 2]) (fun _ => 1) c (fun _ => ((2 : Nat) : Int)) 1 false 2 (fun _ => 0) (lt [3, 4]) (fun _ => 1) (1) wz h0 h (by decide) (by decide) (by decide) (by decide) (by omega)).mono (fun _ _ q => q.ok (by decide)))
  have RI : Hid (∀ a c wz, KRow wz .i64 a 3 c (lt [1, 2, 3]) → Calls Tryz.prog 20 #[.slice a 3 c] wz fun e w' => ∃ p, e = .returned (.agg p) ∧ PlJ w' p [1, 2, 3] 3 ∧ Below wz.heap.size wz w') := Lib.hid (fun a c wz h => pintsK h (by decide) (by omega))
  have SH : Hid (∀ wz x p, Arr wz x jw1S 1 false 3 jw1g jw1P jw1Q → PlJ wz p [1, 2, 3] 3 → Shown wz x p) := Lib.hid (fun wz x p h hp => shownJ h hp (by omega) (by decide) (less3 (by decide) (by decide) (by decide)))
  have SO := Lib.hid (fun cs p wz h => showsOkJ_any cs p wz h)
  have WH : Hid (∀ x wz, Arr wz x jw2S 2 false 4 jw2g jw2P jw2Q → Calls Tryz.prog 22 #[.agg x] wz fun e w' => ∃ a c, e = .returned (.tuple #[.slice a 4 c, .bool true]) ∧ KRow w' .i64 a 4 c jw2P ∧ Below wz.heap.size wz w') := Lib.hid (fun x wz h => (whole8_any x jw2S 2 false 4 jw2g jw2P jw2Q wz h (fun _ j hj => less4 (p := fun j => 0 < jw2Q j) (by decide) (by decide) (by decide) (by decide) j hj) (by omega)).mono (by
    rw [show whC false 4 jw2P jw2Q = true by decide]
    rintro e w' ⟨a, m, c, rfl, ⟨rfl, hk⟩, hb⟩
    exact ⟨a, c, rfl, hk, hb⟩))
  have RK : Hid (∀ x wz, Arr wz x jw2S 2 false 4 jw2g jw2P jw2Q → Calls Tryz.prog 23 #[.agg x] wz fun e w' => e = .returned (.int .i64 2) ∧ Below wz.heap.size wz w') := Lib.hid (fun x wz h => rank8_any x jw2S 2 false 4 jw2g jw2P jw2Q wz h (by omega))
  have IS : Hid (∀ a c a2 c2 wz, KRow wz .i64 a 4 c jw2P → KRow wz .i64 a2 4 c2 (lt [1, 3, 2, 4]) → Calls Tryz.prog 24 #[.slice a 4 c, .slice a2 4 c2] wz fun e w' => e = .returned (.bool true) ∧ Below wz.heap.size wz w') := Lib.hid (fun a c a2 c2 wz h h2 => by
    have := r6Same_any a 4 c jw2P a2 4 c2 (lt [1, 3, 2, 4]) wz h h2
    rw [decide_eq_true rfl, show sameB jw2P (lt [1, 3, 2, 4]) 4 = true by decide] at this
    exact this)
  go_enter Tryz.func7, Tryz.ntmps7
  go_wp2_with fail
  have B9 := Lib.hid (((Bag.start w).alloc (.cells #[.int .i64 1, .int .i64 2] 3)).krow (KRow.lits w [1, 2] 3 (by decide) rfl))
  go_at_call 14
  (refine (INa.out _ _ _ B9.out.now.1).mono ?_)
  rintro e wa ⟨xa, rfl, ha, hba⟩
  have B9 := Lib.hid ((Bag.fresh (B9.out.go hba).below).arr ha)
  clear ha hba
  go_wp2_with fail
  go_at_call 16
  (refine (I3.out _).mono ?_)
  rintro e wb ⟨xb, rfl, hb, hbb⟩
  have B9 := Lib.hid ((B9.out.go hbb).arr hb)
  clear hb hbb
  go_wp2_with fail
  go_at_call 8
  (refine (CT.out _ _ _ B9.out.now.2.1 B9.out.now.1).mono ?_)
  rintro e W1 ⟨x1, rfl, h1, hb1⟩
  have HB1 := Lib.hid (B9.out.go hb1).below
  have HA1 := Lib.hid h1
  obtain ⟨n1, m1, d1, u1, v1, y1, hx1, _⟩ := h1.form
  have hx1 : _ = (arrC false 0 (dm jw1S 1) n1 m1 d1 u1 v1 y1) := hx1
  subst hx1
  clear h1 hb1 B9
  have BB := Lib.hid (((Bag.fresh HB1.out).arr HA1.out).newRow (arrC false 0 (dm jw1S 1) n1 m1 d1 u1 v1 y1) 32)
  have B9 := Lib.hid ((BB.out.alloc (.cells #[.int .i64 1, .int .i64 2] 3)).krow (KRow.lits (W1.alloc (.cells (arrC false 0 (dm jw1S 1) n1 m1 d1 u1 v1 y1) 32)) [1, 2] 3 (by decide) rfl))
  simp only [World.size_alloc] at B9
  clear HB1 HA1 BB
  unfold arrC
  unfold arrC at B9
  go_wp2_with fail
  go_at_call 14
  (refine (INa.out _ _ _ B9.out.now.1).mono ?_)
  rintro e wc ⟨xc, rfl, hc, hbc⟩
  have BB := Lib.hid (show Bag w (fun y => Row y W1.heap.size 32 (arrC false 0 (dm jw1S 1) n1 m1 d1 u1 v1 y1) ∧ Arr y (arrC false 0 (dm jw1S 1) n1 m1 d1 u1 v1 y1) jw1S 1 false 3 jw1g jw1P jw1Q ∧ Arr y xc (fun _ => ((2 : Nat) : Int)) 1 false 2 (fun _ => 0) (lt [1, 2]) (fun _ => 1)) wc from ⟨(B9.out.go hbc).below, fun a b hb ⟨q1, q2, q3⟩ => ⟨q1.below hb, q2.below hb, q3.below hb⟩, (B9.out.go hbc).now.2.1, (B9.out.go hbc).now.2.2.1, hc⟩)
  have B9 := Lib.hid ((BB.out.alloc (.cells #[.int .i64 3, .int .i64 4] 3)).krow (KRow.lits wc [3, 4] 3 (by decide) rfl))
  clear hc hbc BB
  unfold arrC at B9
  go_wp2_with fail
  go_at_call 14
  (refine (INb.out _ _ _ B9.out.now.1).mono ?_)
  rintro e wd ⟨xd, rfl, hd, hbd⟩
  have B9 := Lib.hid ((B9.out.go hbd).arr hd)
  clear hd hbd
  go_wp2_with fail
  go_at_call 12
  (refine (LM.out _ _ _ B9.out.now.2.2.2.2 B9.out.now.1).mono ?_)
  rintro e W2 ⟨x2, rfl, h2, hb2⟩
  have BB := Lib.hid (B9.out.go hb2)
  have HA2 := Lib.hid h2
  obtain ⟨n2, m2, d2, u2, v2, y2, hx2, _⟩ := h2.form
  have hx2 : _ = (arrC false 1 (dm jw2S 2) n2 m2 d2 u2 v2 y2) := hx2
  subst hx2
  clear h2 hb2 B9
  have B9 := Lib.hid (show Bag w (fun y => Row y W1.heap.size 32 (arrC false 0 (dm jw1S 1) n1 m1 d1 u1 v1 y1) ∧ Arr y (arrC false 0 (dm jw1S 1) n1 m1 d1 u1 v1 y1) jw1S 1 false 3 jw1g jw1P jw1Q ∧ Row y W2.heap.size 32 (arrC false 1 (dm jw2S 2) n2 m2 d2 u2 v2 y2) ∧ Arr y (arrC false 1 (dm jw2S 2) n2 m2 d2 u2 v2 y2) jw2S 2 false 4 jw2g jw2P jw2Q) (W2.alloc (.cells (arrC false 1 (dm jw2S 2) n2 m2 d2 u2 v2 y2) 32)) from ⟨(BB.out.alloc _).below, fun a b hb ⟨q1, q2, q3, q4⟩ => ⟨q1.below hb, q2.below hb, q3.below hb, q4.below hb⟩, (BB.out.alloc _).now.2.2.1, (BB.out.alloc _).now.2.2.2.1, Row.new _ _ _, HA2.out.below ((Below.refl _ _).alloc (Nat.le_refl _) _)⟩)
  have HR2 := Lib.hid B9.out.now.2.2.1
  clear BB HA2
  unfold arrC at B9 HR2
  unfold arrC
  go_wp2_with (refine ld_arr rfl (.tmp 3) rfl W2.heap.size rfl HR2.out ?_)
  go_at_call 22
  (with_reducible refine (WH.out _ _ ?_).mono ?_)
  · exact B9.out.now.2.2.2
  rintro e Y4 ⟨al, cl, rfl, hkl, hbl⟩
  have hll := hkl.len
  have BB := Lib.hid (B9.out.go hbl)
  have RW1 : Hid (∀ yz, Below Y4.heap.size Y4 yz → Row yz W1.heap.size 32 (arrC false 0 (dm jw1S 1) n1 m1 d1 u1 v1 y1)) := Lib.hid (fun yz hb => Row.below BB.out.now.1 hb)
  have A1 : Hid (∀ yz, Below Y4.heap.size Y4 yz → Arr yz (arrC false 0 (dm jw1S 1) n1 m1 d1 u1 v1 y1) jw1S 1 false 3 jw1g jw1P jw1Q) := Lib.hid (fun yz hb => Arr.below BB.out.now.2.1 hb)
  have RW2 : Hid (∀ yz, Below Y4.heap.size Y4 yz → Row yz W2.heap.size 32 (arrC false 1 (dm jw2S 2) n2 m2 d2 u2 v2 y2)) := Lib.hid (fun yz hb => Row.below BB.out.now.2.2.1 hb)
  have A2 : Hid (∀ yz, Below Y4.heap.size Y4 yz → Arr yz (arrC false 1 (dm jw2S 2) n2 m2 d2 u2 v2 y2) jw2S 2 false 4 jw2g jw2P jw2Q) := Lib.hid (fun yz hb => Arr.below BB.out.now.2.2.2 hb)
  have KL : Hid (∀ yz, Below Y4.heap.size Y4 yz → KRow yz .i64 al 4 cl jw2P) := Lib.hid (fun yz hb => KRow.below hkl hb)
  have SZ1 : Hid (IsA (arrC false 0 (dm jw1S 1) n1 m1 d1 u1 v1 y1)) := Lib.hid ⟨_, _, _, _, _, _, _, _, _, rfl⟩
  have SZ2 : Hid (IsA (arrC false 1 (dm jw2S 2) n2 m2 d2 u2 v2 y2)) := Lib.hid ⟨_, _, _, _, _, _, _, _, _, rfl⟩
  have BB := Lib.hid (Bag.fresh BB.out.below)
  clear hkl hbl B9 HR2
  go_wp2_with fail
  generalize (arrC false 0 (dm jw1S 1) n1 m1 d1 u1 v1 y1) = X1 at RW1 A1 SZ1
  generalize (arrC false 1 (dm jw2S 2) n2 m2 d2 u2 v2 y2) = X2 at RW2 A2 SZ2
  refine wp_region_inv2 ⟨(fun j => ([[27], [28], [29], [30], [31], [32], [33], [34], [35], [36], [37], [38], [39], [40], [41], [42], [43], [44], [45], [46], [47], [48], [0]] : List (List Nat)).getD j []), (fun j => ([[], [], [], [2], [0, 1, 2, 3], [0, 1, 2, 3, 4], [0, 1, 2, 3, 4, 5], [0, 1, 2, 3, 4, 5, 6], [0, 1, 2, 3, 4, 5, 6, 7], [0, 1, 2, 3, 4, 5, 6, 7, 8], [0, 1, 2, 3, 4, 5, 6, 7, 8, 9], [0, 1, 2, 3, 4, 5, 6, 7, 8, 9, 10], [0, 1, 2, 3, 4, 5, 6, 7, 8, 9, 10, 11], [0, 1, 2, 3, 4, 5, 6, 7, 8, 9, 10, 11, 12], [0, 1, 2, 3, 4, 5, 6, 7, 8, 9, 10, 11, 12, 13], [0, 1, 2, 3, 4, 5, 6, 7, 8, 9, 10, 11, 12, 13, 14], [0, 1, 2, 3, 4, 5, 6, 7, 8, 9, 10, 11, 12, 13, 14, 15], [0, 1, 2, 3, 4, 5, 6, 7, 8, 9, 10, 11, 12, 13, 14, 15, 16], [0, 1, 2, 3, 4, 5, 6, 7, 8, 9, 10, 11, 12, 13, 14, 15, 16, 17], [0, 1, 2, 3, 4, 5, 6, 7, 8, 9, 10, 11, 12, 13, 14, 15, 16, 17], [0, 1, 2, 3, 4, 5, 6, 7, 8, 9, 10, 11, 12, 13, 14, 15, 16, 17, 18, 19], [0, 1, 2, 3, 4, 5, 6, 7, 8, 9, 10, 11, 12, 13, 14, 15, 16, 17, 18, 19, 20], [0, 1, 2, 3, 4, 5, 6, 7, 8, 9, 10, 11, 12, 13, 14, 15, 16, 17, 18, 19, 20, 21]] : List (List Nat)).getD j []), [2, 19]⟩ (fun jj vv yy => match jj with | 0 => vv = [some (.agg X1)] | 1 => vv = [some (.int .i64 0)] | 2 => ∃ (k2 : Nat), vv = [some (.slice (some ⟨k2, 0, none⟩) 3 3)] ∧ KRow yy .i64 (some ⟨k2, 0, none⟩) 3 3 (lt [1, 2, 3]) | 3 => ∃ (x3 : Array Value), vv = [some (.agg x3)] ∧ PlJ yy x3 [1, 2, 3] 3 | 4 => vv = [some (.bool true)] | 5 => vv = [some (.bool true)] | 6 => vv = [some (.int .i64 0)] | 7 => vv = [some (.bool true)] | 8 => vv = [some (.bool true)] | 9 => vv = [some (.bool true)] | 10 => vv = [some (.bool true)] | 11 => vv = [some (.bool true)] | 12 => vv = [some (.bool true)] | 13 => vv = [some (.agg X2)] | 14 => vv = [some (.int .i64 2)] | 15 => vv = [some (.bool true)] | 16 => vv = [some (.bool true)] | 17 => vv = [some (.bool true)] | 18 => vv = [some (.slice al 4 cl)] | 19 => ∃ (k19 : Nat), vv = [some (.slice (some ⟨k19, 0, none⟩) 4 4)] ∧ KRow yy .i64 (some ⟨k19, 0, none⟩) 4 4 (lt [1, 3, 2, 4]) | 20 => vv = [some (.bool true)] | 21 => vv = [some (.bool true)] | 22 => vv = [some (.bool true)] | _ => True) (Bag Y4 (fun _ => True)) (by kernel_rfl) (by kernel_rfl) (by kernel_rfl) (Bag.start Y4).drew ?_ ?_ ?_
  · intro jj vv yw yw2 hb h
    match jj, h with
    | 0, h => exact h
    | 1, h => exact h
    | 2, ⟨k2, e2, g2_0⟩ => exact Exists.intro k2 (And.intro e2 (g2_0.below hb))
    | 3, ⟨x3, e3, g3_0⟩ => exact Exists.intro x3 (And.intro e3 (g3_0.below hb))
    | 4, h => exact h
    | 5, h => exact h
    | 6, h => exact h
    | 7, h => exact h
    | 8, h => exact h
    | 9, h => exact h
    | 10, h => exact h
    | 11, h => exact h
    | 12, h => exact h
    | 13, h => exact h
    | 14, h => exact h
    | 15, h => exact h
    | 16, h => exact h
    | 17, h => exact h
    | 18, h => exact h
    | 19, ⟨k19, e19, g19_0⟩ => exact Exists.intro k19 (And.intro e19 (g19_0.below hb))
    | 20, h => exact h
    | 21, h => exact h
    | 22, h => exact h
    | _ + 23, h => exact h
  · intro ac yw hsz hdf hold hB hp
    have t0 : ac.tmps[0]? = some (.bool true) := (List.cons.inj (hp 22 (by decide))).1
    have HE := Lib.hid (BB.out.go hB.below).below
    clear hold hp
    obtain ⟨TV, hTV⟩ : ∃ TV : Nat → Value, ∀ i, (ac.tmps[i]?).getD undef = TV i := ⟨_, fun _ => rfl⟩
    have f0 := (hTV 0).symm.trans (congrArg (fun x => Option.getD x undef) t0)
    have hac := act_eq (n := 49) hsz TV hTV
    rw [show ((List.range 49).map TV).toArray = #[TV 0, TV 1, TV 2, TV 3, TV 4, TV 5, TV 6, TV 7, TV 8, TV 9, TV 10, TV 11, TV 12, TV 13, TV 14, TV 15, TV 16, TV 17, TV 18, TV 19, TV 20, TV 21, TV 22, TV 23, TV 24, TV 25, TV 26, TV 27, TV 28, TV 29, TV 30, TV 31, TV 32, TV 33, TV 34, TV 35, TV 36, TV 37, TV 38, TV 39, TV 40, TV 41, TV 42, TV 43, TV 44, TV 45, TV 46, TV 47, TV 48] from rfl, f0, hdf] at hac
    simp only [Option.getD_some] at hac
    subst hac
    clear hTV f0
    go_wp2
    go_ret
    exact ⟨rfl, HE.out⟩
  refine Stps2.cons (o := _) ?_ ?_
  · intro ac yw hsz hold hB hp K hK
    have t1 : ac.tmps[1]? = some (.pointer (some ⟨W1.heap.size, 0, none⟩)) := hold 1 (by kernel_rfl)
    clear hold hp hsz
    rw [if_pos (by rfl)]
    refine ld8 1 rfl (W1.heap.size) (X1) t1 (RW1.out _ hB.below) (SZ1.out.size) ?_
    exact hK.out _ _ ⟨hB, rfl, Nat.le_refl _, .inl (Below.refl _ _), fun h => absurd h (by decide)⟩
  refine Stps2.cons (o := _) ?_ ?_
  · intro ac yw hsz hold hB hp K hK
    have t2 : ac.tmps[2]? = some (.int .i64 0) := hold 2 (by kernel_rfl)
    clear hold hp hsz
    go_simp
    exact hK.out _ _ ⟨hB, rfl, Nat.le_refl _, .inl (Below.refl _ _), fun h => absurd h (by decide)⟩
  refine Stps2.cons (o := _) ?_ ?_
  · intro ac yw hsz hold hB hp K hK
    clear hold hp hsz
    have hbz : Below yw.heap.size yw (yw.alloc (.cells #[.int .i64 1, .int .i64 2, .int .i64 3] 3)) ∧ yw.heap.size < (yw.alloc (.cells #[.int .i64 1, .int .i64 2, .int .i64 3] 3)).heap.size := ⟨(Below.refl _ _).alloc (Nat.le_refl _) _, by rw [World.size_alloc]; omega⟩
    have kz : KRow (yw.alloc (.cells #[.int .i64 1, .int .i64 2, .int .i64 3] 3)) .i64 (some ⟨yw.heap.size, 0, none⟩) 3 3 (lt [1, 2, 3]) := KRow.lits yw [1, 2, 3] 3 (by decide) rfl
    go_simp
    exact hK.out _ _ ⟨hB.alloc _, Exists.intro yw.heap.size (And.intro rfl kz), Nat.le_of_lt hbz.2, .inl hbz.1, fun _ => ⟨_, rfl, Nat.le_refl _, hbz.2⟩⟩
  refine Stps2.cons (o := _) ?_ ?_
  · intro ac yw hsz hold hB hp K hK
    obtain ⟨k2_2, e2, g2_0⟩ := hp 2 (by decide)
    have t29 : ac.tmps[29]? = some (.slice (some ⟨k2_2, 0, none⟩) 3 3) := (List.cons.inj e2).1
    clear hold hp hsz e2
    go_simp
    (go_at_call 20; (with_reducible refine (RI.out _ _ _ g2_0).mono ?_); rintro e wz ⟨x3, rfl, h3_0, hbz⟩)
    exact hK.out _ _ ⟨hB.go hbz, Exists.intro x3 (And.intro rfl h3_0), hbz.size, .inl hbz, fun h => absurd h (by decide)⟩
  refine Stps2.cons (o := _) ?_ ?_
  · intro ac yw hsz hold hB hp K hK
    have e0 := hp 0 (by decide)
    have t27 : ac.tmps[27]? = some (.agg X1) := (List.cons.inj e0).1
    have e1 := hp 1 (by decide)
    have t28 : ac.tmps[28]? = some (.int .i64 0) := (List.cons.inj e1).1
    obtain ⟨x3_3, e3, g3_0⟩ := hp 3 (by decide)
    have t30 : ac.tmps[30]? = some (.agg x3_3) := (List.cons.inj e3).1
    clear hold hp hsz e0 e1 e3
    go_simp
    (go_at_call 11; (with_reducible refine (SO.out _ _ _ (SH.out _ _ _ (A1.out _ hB.below) g3_0)).mono ?_); rintro e wz ⟨rfl, hbz⟩)
    exact hK.out _ _ ⟨hB.go hbz, rfl, hbz.size, .inl hbz, fun h => absurd h (by decide)⟩
  refine Stps2.cons (o := _) ?_ ?_
  · intro ac yw hsz hold hB hp K hK
    have e4 := hp 4 (by decide)
    have t31 : ac.tmps[31]? = some (.bool true) := (List.cons.inj e4).1
    clear hold hp hsz e4
    go_simp
    exact hK.out _ _ ⟨hB, rfl, Nat.le_refl _, .inl (Below.refl _ _), fun h => absurd h (by decide)⟩
  refine Stps2.cons (o := _) ?_ ?_
  · intro ac yw hsz hold hB hp K hK
    have t32 : ac.tmps[32]? = some (.bool true) := (List.cons.inj (hp 5 (by decide))).1
    rw [if_pos (wanted_pos rfl rfl t32)]
    have t4 : ac.tmps[4]? = some (.int .i64 0) := hold 4 (by kernel_rfl)
    clear hold hp hsz
    go_simp
    exact hK.out _ _ ⟨hB, rfl, Nat.le_refl _, .inl (Below.refl _ _), fun h => absurd h (by decide)⟩
  refine Stps2.cons (o := _) ?_ ?_
  · intro ac yw hsz hold hB hp K hK
    have t32 : ac.tmps[32]? = some (.bool true) := (List.cons.inj (hp 5 (by decide))).1
    rw [if_pos (wanted_pos rfl rfl t32)]
    have e6 := hp 6 (by decide)
    have t33 : ac.tmps[33]? = some (.int .i64 0) := (List.cons.inj e6).1
    clear hold hp hsz e6
    go_simp
    exact hK.out _ _ ⟨hB, rfl, Nat.le_refl _, .inl (Below.refl _ _), fun h => absurd h (by decide)⟩
  refine Stps2.cons (o := _) ?_ ?_
  · intro ac yw hsz hold hB hp K hK
    have e5 := hp 5 (by decide)
    have t32 : ac.tmps[32]? = some (.bool true) := (List.cons.inj e5).1
    have e7 := hp 7 (by decide)
    have t34 : ac.tmps[34]? = some (.bool true) := (List.cons.inj e7).1
    clear hold hp hsz e5 e7
    go_simp
    exact hK.out _ _ ⟨hB, rfl, Nat.le_refl _, .inl (Below.refl _ _), fun h => absurd h (by decide)⟩
  refine Stps2.cons (o := _) ?_ ?_
  · intro ac yw hsz hold hB hp K hK
    have e8 := hp 8 (by decide)
    have t35 : ac.tmps[35]? = some (.bool true) := (List.cons.inj e8).1
    clear hold hp hsz e8
    go_simp
    exact hK.out _ _ ⟨hB, rfl, Nat.le_refl _, .inl (Below.refl _ _), fun h => absurd h (by decide)⟩
  refine Stps2.cons (o := _) ?_ ?_
  · intro ac yw hsz hold hB hp K hK
    have t36 : ac.tmps[36]? = some (.bool true) := (List.cons.inj (hp 9 (by decide))).1
    rw [if_pos (wanted_pos rfl rfl t36)]
    have t6 : ac.tmps[6]? = some (.bool true) := hold 6 (by kernel_rfl)
    clear hold hp hsz
    go_simp
    exact hK.out _ _ ⟨hB, rfl, Nat.le_refl _, .inl (Below.refl _ _), fun h => absurd h (by decide)⟩
  refine Stps2.cons (o := _) ?_ ?_
  · intro ac yw hsz hold hB hp K hK
    have e9 := hp 9 (by decide)
    have t36 : ac.tmps[36]? = some (.bool true) := (List.cons.inj e9).1
    have e10 := hp 10 (by decide)
    have t37 : ac.tmps[37]? = some (.bool true) := (List.cons.inj e10).1
    clear hold hp hsz e9 e10
    go_simp
    exact hK.out _ _ ⟨hB, rfl, Nat.le_refl _, .inl (Below.refl _ _), fun h => absurd h (by decide)⟩
  refine Stps2.cons (o := _) ?_ ?_
  · intro ac yw hsz hold hB hp K hK
    have e11 := hp 11 (by decide)
    have t38 : ac.tmps[38]? = some (.bool true) := (List.cons.inj e11).1
    clear hold hp hsz e11
    go_simp
    exact hK.out _ _ ⟨hB, rfl, Nat.le_refl _, .inl (Below.refl _ _), fun h => absurd h (by decide)⟩
  refine Stps2.cons (o := _) ?_ ?_
  · intro ac yw hsz hold hB hp K hK
    have t39 : ac.tmps[39]? = some (.bool true) := (List.cons.inj (hp 12 (by decide))).1
    rw [if_pos (wanted_pos rfl rfl t39)]
    have t3 : ac.tmps[3]? = some (.pointer (some ⟨W2.heap.size, 0, none⟩)) := hold 3 (by kernel_rfl)
    clear hold hp hsz
    refine ld8 3 rfl (W2.heap.size) (X2) t3 (RW2.out _ hB.below) (SZ2.out.size) ?_
    exact hK.out _ _ ⟨hB, rfl, Nat.le_refl _, .inl (Below.refl _ _), fun h => absurd h (by decide)⟩
  refine Stps2.cons (o := _) ?_ ?_
  · intro ac yw hsz hold hB hp K hK
    have t39 : ac.tmps[39]? = some (.bool true) := (List.cons.inj (hp 12 (by decide))).1
    rw [if_pos (wanted_pos rfl rfl t39)]
    have e13 := hp 13 (by decide)
    have t40 : ac.tmps[40]? = some (.agg X2) := (List.cons.inj e13).1
    clear hold hp hsz e13
    go_simp
    (go_at_call 23; (with_reducible refine (RK.out _ _ (A2.out _ hB.below)).mono ?_); rintro e wz ⟨rfl, hbz⟩)
    exact hK.out _ _ ⟨hB.go hbz, rfl, hbz.size, .inl hbz, fun h => absurd h (by decide)⟩
  refine Stps2.cons (o := _) ?_ ?_
  · intro ac yw hsz hold hB hp K hK
    have t39 : ac.tmps[39]? = some (.bool true) := (List.cons.inj (hp 12 (by decide))).1
    rw [if_pos (wanted_pos rfl rfl t39)]
    have e14 := hp 14 (by decide)
    have t41 : ac.tmps[41]? = some (.int .i64 2) := (List.cons.inj e14).1
    clear hold hp hsz e14
    go_simp
    exact hK.out _ _ ⟨hB, rfl, Nat.le_refl _, .inl (Below.refl _ _), fun h => absurd h (by decide)⟩
  refine Stps2.cons (o := _) ?_ ?_
  · intro ac yw hsz hold hB hp K hK
    have e12 := hp 12 (by decide)
    have t39 : ac.tmps[39]? = some (.bool true) := (List.cons.inj e12).1
    have e15 := hp 15 (by decide)
    have t42 : ac.tmps[42]? = some (.bool true) := (List.cons.inj e15).1
    clear hold hp hsz e12 e15
    go_simp
    exact hK.out _ _ ⟨hB, rfl, Nat.le_refl _, .inl (Below.refl _ _), fun h => absurd h (by decide)⟩
  refine Stps2.cons (o := _) ?_ ?_
  · intro ac yw hsz hold hB hp K hK
    have e16 := hp 16 (by decide)
    have t43 : ac.tmps[43]? = some (.bool true) := (List.cons.inj e16).1
    clear hold hp hsz e16
    go_simp
    exact hK.out _ _ ⟨hB, rfl, Nat.le_refl _, .inl (Below.refl _ _), fun h => absurd h (by decide)⟩
  refine Stps2.cons (o := _) ?_ ?_
  · intro ac yw hsz hold hB hp K hK
    have t44 : ac.tmps[44]? = some (.bool true) := (List.cons.inj (hp 17 (by decide))).1
    rw [if_pos (wanted_pos rfl rfl t44)]
    have t5 : ac.tmps[5]? = some (.slice al 4 cl) := hold 5 (by kernel_rfl)
    clear hold hp hsz
    go_simp
    exact hK.out _ _ ⟨hB, rfl, Nat.le_refl _, .inl (Below.refl _ _), fun h => absurd h (by decide)⟩
  refine Stps2.cons (o := _) ?_ ?_
  · intro ac yw hsz hold hB hp K hK
    have t44 : ac.tmps[44]? = some (.bool true) := (List.cons.inj (hp 17 (by decide))).1
    rw [if_pos (wanted_pos rfl rfl t44)]
    clear hold hp hsz
    have hbz : Below yw.heap.size yw (yw.alloc (.cells #[.int .i64 1, .int .i64 3, .int .i64 2, .int .i64 4] 3)) ∧ yw.heap.size < (yw.alloc (.cells #[.int .i64 1, .int .i64 3, .int .i64 2, .int .i64 4] 3)).heap.size := ⟨(Below.refl _ _).alloc (Nat.le_refl _) _, by rw [World.size_alloc]; omega⟩
    have kz : KRow (yw.alloc (.cells #[.int .i64 1, .int .i64 3, .int .i64 2, .int .i64 4] 3)) .i64 (some ⟨yw.heap.size, 0, none⟩) 4 4 (lt [1, 3, 2, 4]) := KRow.lits yw [1, 3, 2, 4] 3 (by decide) rfl
    go_simp
    exact hK.out _ _ ⟨hB.alloc _, Exists.intro yw.heap.size (And.intro rfl kz), Nat.le_of_lt hbz.2, .inl hbz.1, fun _ => ⟨_, rfl, Nat.le_refl _, hbz.2⟩⟩
  refine Stps2.cons (o := _) ?_ ?_
  · intro ac yw hsz hold hB hp K hK
    have t44 : ac.tmps[44]? = some (.bool true) := (List.cons.inj (hp 17 (by decide))).1
    rw [if_pos (wanted_pos rfl rfl t44)]
    have e18 := hp 18 (by decide)
    have t45 : ac.tmps[45]? = some (.slice al 4 cl) := (List.cons.inj e18).1
    obtain ⟨k19_19, e19, g19_0⟩ := hp 19 (by decide)
    have t46 : ac.tmps[46]? = some (.slice (some ⟨k19_19, 0, none⟩) 4 4) := (List.cons.inj e19).1
    clear hold hp hsz e18 e19
    go_simp
    (go_at_call 24; (with_reducible refine (IS.out _ _ _ _ _ (KL.out _ hB.below) g19_0).mono ?_); rintro e wz ⟨rfl, hbz⟩)
    exact hK.out _ _ ⟨hB.go hbz, rfl, hbz.size, .inl hbz, fun h => absurd h (by decide)⟩
  refine Stps2.cons (o := _) ?_ ?_
  · intro ac yw hsz hold hB hp K hK
    have e17 := hp 17 (by decide)
    have t44 : ac.tmps[44]? = some (.bool true) := (List.cons.inj e17).1
    have e20 := hp 20 (by decide)
    have t47 : ac.tmps[47]? = some (.bool true) := (List.cons.inj e20).1
    clear hold hp hsz e17 e20
    go_simp
    exact hK.out _ _ ⟨hB, rfl, Nat.le_refl _, .inl (Below.refl _ _), fun h => absurd h (by decide)⟩
  refine Stps2.cons (o := _) ?_ ?_
  · intro ac yw hsz hold hB hp K hK
    have e21 := hp 21 (by decide)
    have t48 : ac.tmps[48]? = some (.bool true) := (List.cons.inj e21).1
    clear hold hp hsz e21
    go_simp
    exact hK.out _ _ ⟨hB, rfl, Nat.le_refl _, .inl (Below.refl _ _), fun h => absurd h (by decide)⟩
  exact Stps2.nil _
end Go.Proofs.YtifnamlgkooacaaGreatDoor
