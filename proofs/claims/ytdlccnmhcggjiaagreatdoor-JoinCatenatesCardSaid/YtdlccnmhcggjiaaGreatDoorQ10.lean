/-
  Texts of this seat, laid together.
-/
import Derived.Laws.EntriesVeiled
import Derived.Shelf.Abstract
import Derived.Lib.AppendZeros
import Derived.Deep.QuietTactic
import Derived.BigQuiet
import Derived.Deep.RegionHeld3
import Derived.Laws.OwnMore
import Derived.StillTailTactics
import Derived.Test.YtdlccnmhcggjiaaGreatDoorQ1
import Derived.Test.YtdlccnmhcggjiaaGreatDoorQ2
import Derived.Test.YtdlccnmhcggjiaaGreatDoorQ3
import Derived.Test.YtdlccnmhcggjiaaGreatDoorQ4
import Derived.Test.YtdlccnmhcggjiaaGreatDoorQ5
import Derived.Test.YtdlccnmhcggjiaaGreatDoorQ6
import Derived.Test.YtdlccnmhcggjiaaGreatDoorQ7
import Derived.Test.YtdlccnmhcggjiaaGreatDoorQ8
import Derived.Test.YtdlccnmhcggjiaaGreatDoorQ9
set_option maxHeartbeats 12800000
set_option maxRecDepth 100000
set_option linter.unusedSimpArgs false
set_option linter.unusedVariables false
namespace Go.Proofs.YtdlccnmhcggjiaaGreatDoor
open Go.RowKit
attribute [local go_sem ↓] Go.wp_at_zero Go.wp_at_succ
def lmR (r1 r2 : Nat) : Nat := if r1 = 0 then r2 else r1
def lmS (r1 : Nat) (S1 : Nat -> Int) (S2 : Nat -> Int) : Nat -> Int := if r1 = 0 then S2 else S1
def lmT (s : Nat -> Int) (k : Nat) : Nat -> Int := wiF (insF s k 1) (k : Nat) 2
def lmN (s : Nat -> Int) (q k : Nat) : Nat := (stF (insF s k 1) (q + 1) k).toNat
def lmE (kb : Bool) (q : Nat) (s : Nat -> Int) (r2 : Nat) (S2 : Nat -> Int) (i : Int) : Int :=
 if kb = false then 22 else if i < 0 ∨ (q : Int) < i ∨ q = 8 then 23 else if cvE r2 S2 q s = 0 then pkE (lmT s i.toNat) (q + 1) else cvE r2 S2 q s
def LmP (fl : Bool) (k1 k2 k3 : Nat) (c1 c2 : Array Value) (K : World -> Prop) (y : World) : Prop := (fl = false -> Row y k1 32 c1 /\ Row y k2 32 c2 /\ K y) /\ ∃ z, Row y k3 32 z /\ IsA z
theorem LmP.stay {fl : Bool} {k1 k2 k3 : Nat} {c1 c2 : Array Value} {K : World -> Prop} (hK : ∀ a b, Below a.heap.size a b -> K a -> K b) : ∀ a b, Below a.heap.size a b -> LmP fl k1 k2 k3 c1 c2 K a -> LmP fl k1 k2 k3 c1 c2 K b := by
 rintro a b hb ⟨h1, z3, h3, i3⟩
 exact ⟨fun e => ⟨(h1 e).1.below hb, (h1 e).2.1.below hb, hK _ _ hb (h1 e).2.2⟩, z3, h3.below hb, i3⟩
theorem LmP.put {w y : World} {fl : Bool} {k1 k2 k3 : Nat} {c1 c2 : Array Value} {K : World -> Prop} (h : Bag w (LmP fl k1 k2 k3 c1 c2 K) y) (hw : w.heap.size <= k3) (cs : Array Value) (hc : IsA cs) : Bag w (LmP true k1 k2 k3 c1 c2 K) (y.setRow k3 cs) := by
 obtain ⟨_, z3, h3, i3⟩ := h.now
 refine ⟨below_put h.below hw _, ?_, (fun e => by cases e), _, h3.put _, hc⟩
 rintro a b hb ⟨_, z4, h4, i4⟩
 exact ⟨(fun e => by cases e), z4, h4.below hb, i4⟩
theorem laminate_any (x1 : Array Value) (S1 : Nat -> Int) (r1 : Nat) (ch1 : Bool) (L1 : Nat) (g1 P1 : Nat -> Int) (Q1 : Nat -> Nat) (x2 : Array Value) (S2 : Nat -> Int) (r2 : Nat) (ch2 : Bool) (L2 : Nat) (g2 P2 : Nat -> Int) (Q2 : Nat -> Nat) (i : Int) (w : World) (h1 : Arr w x1 S1 r1 ch1 L1 g1 P1 Q1) (h2 : Arr w x2 S2 r2 ch2 L2 g2 P2 Q2)
    (hsh1 : shB S1 r1 = true) (hc1 : itm S1 r1 = (L1 : Nat)) (hsh2 : shB S2 r2 = true) (hc2 : itm S2 r2 = (L2 : Nat)) (hi : -9223372036854775808 <= i /\ i <= 9223372036854775807) :
    Calls Tryz.prog 14 #[.agg x1, .agg x2, .int .i64 i] w fun e w' => MoTold (lmE (kdB ch1 L1 ch2 L2) (lmR r1 r2) (lmS r1 S1 S2) r2 S2 i) (lmT (lmS r1 S1 S2) i.toNat) (lmR r1 r2 + 1) (kdC ch1 L1 ch2 L2) (itm (lmT (lmS r1 S1 S2) i.toNat) (lmR r1 r2 + 1)).toNat (wvF (lmN (lmS r1 S1 S2) (lmR r1 r2) i.toNat) (lmN (lmS r1 S1 S2) (lmR r1 r2) i.toNat) (fun j => elC L1 g1 32 (exG r1 j)) (fun j => elC L2 g2 32 (exG r2 j))) (wvF (lmN (lmS r1 S1 S2) (lmR r1 r2) i.toNat) (lmN (lmS r1 S1 S2) (lmR r1 r2) i.toNat) (fun j => elP L1 P1 (exG r1 j)) (fun j => elP L2 P2 (exG r2 j))) (wvF (lmN (lmS r1 S1 S2) (lmR r1 r2) i.toNat) (lmN (lmS r1 S1 S2) (lmR r1 r2) i.toNat) (fun j => elQ L1 Q1 (exG r1 j)) (fun j => elQ L2 Q2 (exG r2 j))) w w' e := by
 obtain ⟨na1, nn1, nc1, ta1, tn1, tc1, hx1, _⟩ := h1.form
 subst hx1
 obtain ⟨na2, nn2, nc2, ta2, tn2, tc2, hx2, _⟩ := h2.form
 subst hx2
 have hr1 := (sh_ax hsh1).1
 have hr2 := (sh_ax hsh2).1
 have H1 := Lib.hid h1
 have H2 := Lib.hid h2
 have AL := Lib.hid (fun wz h1 h2 => alike_any (arrC ch1 ((r1 : Int) - 1) (dm S1 r1) na1 nn1 nc1 ta1 tn1 tc1) S1 r1 ch1 L1 g1 P1 Q1 (arrC ch2 ((r2 : Int) - 1) (dm S2 r2) na2 nn2 nc2 ta2 tn2 tc2) S2 r2 ch2 L2 g2 P2 Q2 wz h1 h2 hsh1 hc1 hsh2 hc2)
 have BB0 := Lib.hid ((((Bag.start w).newRow (arrC ch1 ((r1 : Int) - 1) (dm S1 r1) na1 nn1 nc1 ta1 tn1 tc1) 32).newRow (arrC ch2 ((r2 : Int) - 1) (dm S2 r2) na2 nn2 nc2 ta2 tn2 tc2) 32).newRow zerC 32)
 simp only [World.size_alloc] at BB0
 have BB := Lib.hid (show Bag w (fun y => Row y w.heap.size 32 (arrC ch1 ((r1 : Int) - 1) (dm S1 r1) na1 nn1 nc1 ta1 tn1 tc1) /\ Row y (w.heap.size + 1) 32 (arrC ch2 ((r2 : Int) - 1) (dm S2 r2) na2 nn2 nc2 ta2 tn2 tc2) /\ Row y (w.heap.size + 1 + 1) 32 zerC /\ True) _ from ⟨BB0.out.below, fun a b hb ⟨q1, q2, q3, _⟩ => ⟨q1.below hb, q2.below hb, q3.below hb, trivial⟩, BB0.out.now.2.2.1, BB0.out.now.2.1, BB0.out.now.1, trivial⟩)
 have HR1 := Lib.hid BB.out.now.1
 have HR2 := Lib.hid BB.out.now.2.1
 clear h1 h2 BB0
 obtain ⟨KB, hKB⟩ : ∃ b, kdB ch1 L1 ch2 L2 = b := ⟨_, rfl⟩
 obtain ⟨CH, hCH⟩ : ∃ b, kdC ch1 L1 ch2 L2 = b := ⟨_, rfl⟩
 rw [hKB, hCH]
 rw [hKB, hCH] at AL
 clear hKB hCH
 have hss : shB (lmS r1 S1 S2) (lmR r1 r2) = true := by unfold lmS lmR; split <;> assumption
 have SH1 := Lib.hid (fun y1 wz h => shape_new y1 S1 r1 CH L1 g1 P1 Q1 wz h hr1)
 have SH2 := Lib.hid (fun y2 wz h => shape_new y2 S2 r2 CH L2 g2 P2 Q2 wz h hr2)
 have RK1 := Lib.hid (fun y1 wz h => rank8_any y1 S1 r1 CH L1 g1 P1 Q1 wz h (by omega))
 have hqz : r1 = 0 -> lmR r1 r2 = r2 /\ lmS r1 S1 S2 = S2 := fun e => ⟨by unfold lmR; rw [if_pos e], by unfold lmS; rw [if_pos e]⟩
 have hqn : r1 ≠ 0 -> lmR r1 r2 = r1 /\ lmS r1 S1 S2 = S1 := fun e => ⟨by unfold lmR; rw [if_neg e], by unfold lmS; rw [if_neg e]⟩
 obtain ⟨q, hq⟩ : ∃ q, lmR r1 r2 = q := ⟨_, rfl⟩
 obtain ⟨s, hs⟩ : ∃ s, lmS r1 S1 S2 = s := ⟨_, rfl⟩
 rw [hq, hs] at hss hqz hqn
 rw [hq, hs]
 have hqq := (sh_ax hss).1
 clear hq hs
 unfold lmE
 obtain ⟨KK, hKK⟩ : ∃ k : Nat, i.toNat = k := ⟨_, rfl⟩
 rw [hKK]
 obtain ⟨T, hT⟩ : ∃ f, lmT s KK = f := ⟨_, rfl⟩
 rw [hT]
 obtain ⟨M, hM⟩ : ∃ n, (itm T (q + 1)).toNat = n := ⟨_, rfl⟩
 rw [hM]
 obtain ⟨N, hN⟩ : ∃ n, lmN s q KK = n := ⟨_, rfl⟩
 rw [hN]
 obtain ⟨X, hX⟩ : ∃ f, insF s KK 1 = f := ⟨_, rfl⟩
 obtain ⟨Ms, hMs⟩ : ∃ n, (itm s q).toNat = n := ⟨_, rfl⟩
 obtain ⟨E, hE⟩ : ∃ E, (if KB = false then 22 else if i < 0 ∨ (q : Int) < i ∨ q = 8 then 23 else if cvE r2 S2 q s = 0 then pkE T (q + 1) else cvE r2 S2 q s : Int) = E := ⟨_, rfl⟩
 rw [hE]
 have LY1 : Hid (∀ k : Nat, i = (k : Nat) -> k <= q -> q + 1 <= 8 -> ∀ y g c wz, Arr wz y S1 r1 CH L1 g1 P1 Q1 -> KRow wz .i64 (some ⟨g, 0, none⟩) q c s -> Calls Tryz.prog 48 #[.agg y, .slice (some ⟨g, 0, none⟩) q c, .int .i64 (k : Nat)] wz fun e w' => ∃ z, e = .returned (.agg z) /\ Arr w' z X (q + 1) CH Ms (fun j => elC L1 g1 32 (exG r1 j)) (fun j => elP L1 P1 (exG r1 j)) (fun j => elQ L1 Q1 (exG r1 j)) /\ Below wz.heap.size wz w') := Lib.hid (fun k hk hkq h8 y g c wz h hs => by
  have hkk : KK = k := by rw [← hKK, hk]; rfl
  subst hkk
  rw [← hX, ← hMs]
  exact layer_any y S1 r1 CH L1 g1 P1 Q1 (some ⟨g, 0, none⟩) q c s KK wz h hr1 hs (fun e => by cases e) hkq h8 hss)
 have LY2 : Hid (∀ k : Nat, i = (k : Nat) -> k <= q -> q + 1 <= 8 -> ∀ y g c wz, Arr wz y S2 r2 CH L2 g2 P2 Q2 -> KRow wz .i64 (some ⟨g, 0, none⟩) q c s -> Calls Tryz.prog 48 #[.agg y, .slice (some ⟨g, 0, none⟩) q c, .int .i64 (k : Nat)] wz fun e w' => ∃ z, e = .returned (.agg z) /\ Arr w' z X (q + 1) CH Ms (fun j => elC L2 g2 32 (exG r2 j)) (fun j => elP L2 P2 (exG r2 j)) (fun j => elQ L2 Q2 (exG r2 j)) /\ Below wz.heap.size wz w') := Lib.hid (fun k hk hkq h8 y g c wz h hs => by
  have hkk : KK = k := by rw [← hKK, hk]; rfl
  subst hkk
  rw [← hX, ← hMs]
  exact layer_any y S2 r2 CH L2 g2 P2 Q2 (some ⟨g, 0, none⟩) q c s KK wz h hr2 hs (fun e => by cases e) hkq h8 hss)
 have CV := Lib.hid (fun y g c wz (h : Arr wz y S2 r2 CH L2 g2 P2 Q2) (hs : KRow wz .i64 (some ⟨g, 0, none⟩) q c s) => covers_any y S2 r2 CH L2 g2 P2 Q2 (some ⟨g, 0, none⟩) q c s wz h hr2 hs)
 have BH : Hid (∀ k : Nat, i = (k : Nat) -> k <= q -> q + 1 <= 8 -> KB = true -> cvE r2 S2 q s = 0 -> ∀ y1 y2 wz, Arr wz y1 X (q + 1) CH Ms (fun j => elC L1 g1 32 (exG r1 j)) (fun j => elP L1 P1 (exG r1 j)) (fun j => elQ L1 Q1 (exG r1 j)) -> Arr wz y2 X (q + 1) CH Ms (fun j => elC L2 g2 32 (exG r2 j)) (fun j => elP L2 P2 (exG r2 j)) (fun j => elQ L2 Q2 (exG r2 j)) ->
     Calls Tryz.prog 39 #[.agg y1, .agg y2, .int .i64 (k : Nat)] wz fun e w' => ∃ y, e = .returned (.tuple #[.agg y, .int .i64 E]) /\ MoR w' y E T (q + 1) CH M (wvF N N (fun j => elC L1 g1 32 (exG r1 j)) (fun j => elC L2 g2 32 (exG r2 j))) (wvF N N (fun j => elP L1 P1 (exG r1 j)) (fun j => elP L2 P2 (exG r2 j))) (wvF N N (fun j => elQ L1 Q1 (exG r1 j)) (fun j => elQ L2 Q2 (exG r2 j))) /\ Below wz.heap.size wz w') := Lib.hid (fun k hk hkq h8 hkb hcv y1 y2 wz a1 a2 => by
  have hkk : KK = k := by rw [← hKK, hk]; rfl
  subst hkk
  have hXk : X KK = 1 := by rw [← hX, ins_at]
  have hXs : shB X (q + 1) = true := by rw [← hX]; exact ins_sh hkq h8 hss
  have hXi : itm X (q + 1) = (Ms : Nat) := by
   have hb := ax_bd (sh_ax hss).2
   rw [← hX, (ins_rm hkq).2, ← hMs]
   omega
  have st : 0 <= stF X (q + 1) KK := (ax_bd (ax_shf (KK + 1) (sh_ax hXs).2 (q + 1 - (KK + 1)) (by omega))).2.2.1
  have n1 : (N : Int) = stF X (q + 1) KK := by rw [← hN]; unfold lmN; rw [hX]; exact Int.toNat_of_nonneg st
  have eT : wiF X (KK : Nat) (X KK + X KK) = T := by rw [← hT, hXk]; unfold lmT; rw [hX]; rfl
  have hb := behind_any y1 X (q + 1) CH _ _ _ _ y2 X _ _ _ _ KK N N wz a1 a2 hXs hXs hXi hXi (by omega) (fun _ _ _ => rfl) (by rw [hXk, Int.one_mul]; exact n1) (by rw [hXk, Int.one_mul]; exact n1)
  have eE : pkE T (q + 1) = E := by
   rw [← hE, if_neg (by rw [hkb]; decide), if_neg (by omega), if_pos hcv]
  have eM : Ms + Ms = M := by
   have est : stF T (q + 1) KK = stF X (q + 1) KK := by
    rw [← eT]
    exact itm_congr (fun j _ => wi_off (s := X) (j := KK + 1 + j) _ (by omega))
   obtain ⟨B, _, _, l1, _, l3⟩ := wv_len (T := T) (x := X) (y := X) (n := 1) (m := 1) (N1 := N) (N2 := N) (show KK < q + 1 by omega) (by rw [← eT, wi_at, hXk]; rfl) hXk hXk
    (fun a _ hak => by rw [← eT, wi_off _ hak]) (fun a _ hak => by rw [← eT, wi_off _ hak]) (fun a ha => by rw [← eT, wi_off _ (by omega)]; exact (ax_le4 hXs (by omega)).1) (by rw [est, n1]; omega) (by rw [est, n1]; omega)
   rw [hXi] at l1
   have l1 : Ms = B * N := by exact_mod_cast l1
   rw [← hM, l3, Int.toNat_natCast, l1, Nat.mul_add]
  rw [eT, eE, eM] at hb
  exact hb.mono (fun _ _ hq => hq.res))
 have HE22 : Hid (KB = false -> E = 22) := Lib.hid (fun e => by rw [← hE, if_pos e])
 have HE23 : Hid (KB = true -> (i < 0 ∨ (q : Int) < i ∨ q = 8) -> E = 23) := Lib.hid (fun e h1 => by rw [← hE, if_neg (by rw [e]; decide), if_pos h1])
 have HE2 : Hid (KB = true -> ¬ (i < 0 ∨ (q : Int) < i ∨ q = 8) -> cvE r2 S2 q s ≠ 0 -> E = cvE r2 S2 q s) := Lib.hid (fun hkb h1 e2 => by
  rw [← hE, if_neg (by rw [hkb]; decide), if_neg h1, if_neg e2])
 have HNO : Hid (∀ E wz, E ≠ 0 -> Below w.heap.size w wz -> MoTold E T (q + 1) CH M (wvF N N (fun j => elC L1 g1 32 (exG r1 j)) (fun j => elC L2 g2 32 (exG r2 j))) (wvF N N (fun j => elP L1 P1 (exG r1 j)) (fun j => elP L2 P2 (exG r2 j))) (wvF N N (fun j => elQ L1 Q1 (exG r1 j)) (fun j => elQ L2 Q2 (exG r2 j))) w (wz.setRow (w.heap.size + 1 + 1) zerC) (.returned (.tuple #[.agg zerC, .int .i64 E]))) := Lib.hid (fun E wz hE hb => MoTold.no hE (below_put hb (show w.heap.size <= w.heap.size + 1 + 1 by omega) zerC))
 clear hE hT hM hN hKK hss hsh1 hsh2 hc1 hc2 hr1 hr2 hX hMs
 cases KB with
 | false =>
  obtain rfl := HE22.out rfl
  clear BH HE2 HE23 HE22 LY1 LY2 CV SH1 SH2 RK1 hqz hqn
  unfold arrC
  go_enter Tryz.func14, Tryz.ntmps14
  go_wp2_with (first
   | (refine ld_arr rfl (.tmp 3) rfl (w.heap.size) rfl HR1.out ?_)
   | (refine ld_arr rfl (.tmp 4) rfl (w.heap.size + 1) rfl HR2.out ?_))
  go_at_call 36
  (with_reducible refine (AL.out _ ?_ ?_).mono ?_)
  · exact H1.out.below BB.out.below
  · exact H2.out.below BB.out.below
  rintro e w2 ⟨y1, y2, rfl, i1, i2, hA, hb2⟩
  have B2 := BB.out.go hb2
  have HZ1 := Lib.hid B2.now.1
  have hz2 := B2.now.2.1.puto (k := w.heap.size) (by omega) y1
  have HZ2 := Lib.hid hz2
  have I1 := Lib.hid i1
  have I2 := Lib.hid i2
  have F1 := Lib.hid ((B2.now.1.put y1).puto (k := w.heap.size + 1) (by omega) y2)
  have F2 := Lib.hid (hz2.put y2)
  have F3 := Lib.hid ((B2.now.2.2.1.puto (k := w.heap.size) (by omega) y1).puto (k := w.heap.size + 1) (by omega) y2)
  have F4 := Lib.hid (below_put (below_put B2.below (Nat.le_refl _) y1) (show w.heap.size <= w.heap.size + 1 by omega) y2)
  have HE := Lib.hid (HNO.out 22 _ (by decide) F4.out)
  clear hA hb2 B2 hz2 i1 i2
  go_wp2_with (first
   | (refine stA rfl (.tmp 3) (.tmp 15) rfl (w.heap.size) rfl y1 rfl I1.out HZ1.out (IsA.of _ _ _ _ _ _ _ _ _) ?_)
   | (refine stA rfl (.tmp 4) (.tmp 16) rfl (w.heap.size + 1) rfl y2 rfl I2.out HZ2.out (IsA.of _ _ _ _ _ _ _ _ _) ?_)
   | (refine st_arr rfl (.tmp 6) (.tmp 20) rfl (w.heap.size + 1 + 1) rfl false 0 (fun _ => 0) none 0 0 none 0 0 rfl F3.out rfl ?_))
  exact bodyPost_ret (res_arr2 Tryz.results14 rfl rfl (F3.out.put _) rfl) rfl HE.out
 | true =>
  have HF23 := Lib.hid (HE23.out rfl)
  have BH2 := Lib.hid (fun k h1 h2 h3 => BH.out k h1 h2 h3 rfl)
  have HF2 := Lib.hid (HE2.out rfl)
  clear HE22 HE23 BH HE2
  by_cases h0 : r1 = 0
  · obtain ⟨e1, e2⟩ := hqz h0
    have SHQ : Hid (∀ y wz, Arr wz y S2 r2 CH L2 g2 P2 Q2 -> Calls Tryz.prog 46 #[.agg y] wz fun e w' => ∃ g c', e = .returned (.slice (some ⟨g, 0, none⟩) q c') /\ wz.heap.size <= g /\ g < w'.heap.size /\ KRow w' .i64 (some ⟨g, 0, none⟩) q c' s /\ Below wz.heap.size wz w') := Lib.hid (fun y wz h => by
     rw [e1, e2]
     exact SH2.out y wz h)
    have d0 : ((r1 : Int) == 0) = true := beq_iff_eq.2 (by omega)
    clear hqz hqn h0 e1 e2
    unfold arrC
    go_enter Tryz.func14, Tryz.ntmps14
    go_wp2_with (first
     | (refine ld_arr rfl (.tmp 3) rfl (w.heap.size) rfl HR1.out ?_)
     | (refine ld_arr rfl (.tmp 4) rfl (w.heap.size + 1) rfl HR2.out ?_))
    go_at_call 36
    (with_reducible refine (AL.out _ ?_ ?_).mono ?_)
    · exact H1.out.below BB.out.below
    · exact H2.out.below BB.out.below
    rintro e w2 ⟨y1, y2, rfl, i1, i2, hA, hb2⟩
    have B2 := BB.out.go hb2
    have HZ1 := Lib.hid B2.now.1
    have hz2 := B2.now.2.1.puto (k := w.heap.size) (by omega) y1
    have HZ2 := Lib.hid hz2
    have I1 := Lib.hid i1
    have I2 := Lib.hid i2
    have F1 := Lib.hid ((B2.now.1.put y1).puto (k := w.heap.size + 1) (by omega) y2)
    have F2 := Lib.hid (hz2.put y2)
    have F3 := Lib.hid ((B2.now.2.2.1.puto (k := w.heap.size) (by omega) y1).puto (k := w.heap.size + 1) (by omega) y2)
    have F4 := Lib.hid (below_put (below_put B2.below (Nat.le_refl _) y1) (show w.heap.size <= w.heap.size + 1 by omega) y2)
    have F5 := Lib.hid (((hA trivial).1.store B2.now.1 (IsA.of _ _ _ _ _ _ _ _ _) y1).store hz2 (IsA.of _ _ _ _ _ _ _ _ _) y2)
    have F6 := Lib.hid (((hA trivial).2.store B2.now.1 (IsA.of _ _ _ _ _ _ _ _ _) y1).store hz2 (IsA.of _ _ _ _ _ _ _ _ _) y2)
    clear hA hb2 B2 hz2 i1 i2
    go_wp2_with (first
     | (refine stA rfl (.tmp 3) (.tmp 15) rfl (w.heap.size) rfl y1 rfl I1.out HZ1.out (IsA.of _ _ _ _ _ _ _ _ _) ?_)
     | (refine stA rfl (.tmp 4) (.tmp 16) rfl (w.heap.size + 1) rfl y2 rfl I2.out HZ2.out (IsA.of _ _ _ _ _ _ _ _ _) ?_)
     | (refine ld8G (by rfl) 3 rfl (w.heap.size) y1 (by rfl) F1.out I1.out.size ?_))
    generalize hW : ((w2.setRow w.heap.size y1).setRow (w.heap.size + 1) y2) = Y2 at *
    have BC := Lib.hid (show Bag w (fun y => Row y w.heap.size 32 y1 /\ Row y (w.heap.size + 1) 32 y2 /\ Row y (w.heap.size + 1 + 1) 32 zerC /\ Arr y y1 S1 r1 CH L1 g1 P1 Q1 /\ Arr y y2 S2 r2 CH L2 g2 P2 Q2) Y2 from ⟨F4.out, (fun a b hb ⟨q1, q2, q3, q4, q5⟩ => ⟨q1.below hb, q2.below hb, q3.below hb, q4.below hb, q5.below hb⟩), F1.out, F2.out, F3.out, F5.out, F6.out⟩)
    clear hW HZ1 HZ2 F1 F2 F3 F4 F5 F6
    go_at_call 46
    (refine (SH1.out _ _ BC.out.now.2.2.2.1).mono ?_)
    rintro e w3 ⟨ks, cS, rfl, _, _, hkS, hb3⟩
    have hlS := hkS.len
    have BC := Lib.hid (BC.out.go hb3)
    have HY1 := Lib.hid BC.out.now.1
    have HY2 := Lib.hid BC.out.now.2.1
    clear hkS hb3 hlS
    go_wp2_with (refine ld8G (by rfl) 3 rfl (w.heap.size) y1 (by rfl) HY1.out I1.out.size ?_)
    go_at_call 34
    (refine (RK1.out _ _ BC.out.now.2.2.2.1).mono ?_)
    rintro e w5 ⟨rfl, hb5⟩
    have BC := Lib.hid (BC.out.go hb5)
    have HY2 := Lib.hid BC.out.now.2.1
    clear hb5 HY1
    go_wp2_with (refine ld8G (by rfl) 4 rfl (w.heap.size + 1) y2 (by rfl) HY2.out I2.out.size ?_)
    go_at_call 46
    (refine (SHQ.out _ _ BC.out.now.2.2.2.2).mono ?_)
    rintro e w6 ⟨ks, cS, rfl, _, _, hkS, hb6⟩
    have hlS := hkS.len
    have BC := Lib.hid ((BC.out.go hb6).krow hkS)
    clear hb6 hkS HY2
    have HNB : Hid (q <= 8) := Lib.hid (by omega)
    by_cases h23 : i < 0 ∨ (q : Int) < i ∨ q = 8
    · obtain rfl := HF23.out h23
      have HZ3 := Lib.hid BC.out.now.2.2.2.1
      have HE := Lib.hid (HNO.out 23 _ (by decide) BC.out.below)
      clear HF23 HF2 BH2 LY1 LY2 CV
      rcases h23 with h | h | h
      · go_wp2_with (refine st_arr rfl (.tmp 6) (.tmp 41) rfl (w.heap.size + 1 + 1) rfl false 0 (fun _ => 0) none 0 0 none 0 0 rfl HZ3.out rfl ?_)
        exact bodyPost_ret (res_arr2 Tryz.results14 rfl rfl (HZ3.out.put _) rfl) rfl HE.out
      · have d1 : ¬ i < 0 := by omega
        go_wp2_with (refine st_arr rfl (.tmp 6) (.tmp 41) rfl (w.heap.size + 1 + 1) rfl false 0 (fun _ => 0) none 0 0 none 0 0 rfl HZ3.out rfl ?_)
        exact bodyPost_ret (res_arr2 Tryz.results14 rfl rfl (HZ3.out.put _) rfl) rfl HE.out
      · have d3 : ((q : Int) == 8) = true := beq_iff_eq.2 (by omega)
        clear h
        by_cases h4 : i < 0
        · go_wp2_with (refine st_arr rfl (.tmp 6) (.tmp 41) rfl (w.heap.size + 1 + 1) rfl false 0 (fun _ => 0) none 0 0 none 0 0 rfl HZ3.out rfl ?_)
          exact bodyPost_ret (res_arr2 Tryz.results14 rfl rfl (HZ3.out.put _) rfl) rfl HE.out
        · by_cases h5 : (q : Int) < i
          · go_wp2_with (refine st_arr rfl (.tmp 6) (.tmp 41) rfl (w.heap.size + 1 + 1) rfl false 0 (fun _ => 0) none 0 0 none 0 0 rfl HZ3.out rfl ?_)
            exact bodyPost_ret (res_arr2 Tryz.results14 rfl rfl (HZ3.out.put _) rfl) rfl HE.out
          · go_wp2_with (refine st_arr rfl (.tmp 6) (.tmp 41) rfl (w.heap.size + 1 + 1) rfl false 0 (fun _ => 0) none 0 0 none 0 0 rfl HZ3.out rfl ?_)
            exact bodyPost_ret (res_arr2 Tryz.results14 rfl rfl (HZ3.out.put _) rfl) rfl HE.out
    · obtain ⟨k, rfl⟩ : ∃ k : Nat, i = (k : Nat) := ⟨i.toNat, by omega⟩
      have hkq : k <= q := by omega
      have hq8 : q + 1 <= 8 := by omega
      have d1 : ¬ ((k : Nat) : Int) < 0 := by omega
      have d2 : ¬ ((q : Nat) : Int) < (k : Nat) := by omega
      have d3 : ((q : Int) == 8) = false := beq_eq_false_iff_ne.2 (by omega)
      have d4 : decide (q < k) = false := decide_eq_false (by omega)
      have d5 : k <= q := hkq
      have HY2 := Lib.hid BC.out.now.2.2.1
      have LY1 := Lib.hid (LY1.out k rfl hkq hq8)
      have LY2 := Lib.hid (LY2.out k rfl hkq hq8)
      have BK := Lib.hid (BH2.out k rfl hkq hq8)
      have HEB := Lib.hid (HF2.out h23)
      obtain ⟨E2, hE2⟩ : ∃ E, cvE r2 S2 q s = E := ⟨_, rfl⟩
      rw [hE2] at CV BK HEB
      clear h23 HF23 HF2 BH2 hE2
      go_wp2_with (refine ld8G (by rfl) 4 rfl (w.heap.size + 1) y2 (by rfl) HY2.out I2.out.size ?_)
      go_at_call 47
      (refine (CV.out _ _ _ _ BC.out.now.2.2.2.2.2 BC.out.now.1).mono ?_)
      rintro e w4 ⟨rfl, hb4⟩
      have BC := Lib.hid (BC.out.go hb4)
      clear hb4 HY2 CV
      by_cases h1 : E2 = 0
      · subst h1
        have BK3 := Lib.hid (BK.out rfl)
        clear BK
        obtain ⟨Y3, hY3⟩ : ∃ y, y = w4 := ⟨_, rfl⟩
        subst hY3
        go_wp2_with fail
        have BP : Bag w (LmP false (w.heap.size) (w.heap.size + 1) (w.heap.size + 1 + 1) y1 y2 (fun y => Arr y y1 S1 r1 CH L1 g1 P1 Q1 /\ Arr y y2 S2 r2 CH L2 g2 P2 Q2 /\ KRow y .i64 (some ⟨ks, 0, none⟩) q cS s)) Y3 := ⟨BC.out.below, LmP.stay (fun a b hb ⟨q1, q2, q3⟩ => ⟨q1.below hb, q2.below hb, q3.below hb⟩), fun _ => ⟨BC.out.now.2.1, BC.out.now.2.2.1, BC.out.now.2.2.2.2.1, BC.out.now.2.2.2.2.2, BC.out.now.1⟩, _, BC.out.now.2.2.2.1, IsA.zer⟩
        refine wp_region_inv4 ⟨(fun j => ([[49], [50], [51], [52], [53], [54], [55], [56], [57], [58], [59], [60], [], [7]] : List (List Nat)).getD j []), (fun j => ([[], [], [], [0, 1, 2], [], [], [], [0, 1, 2, 3, 4, 5, 6], [], [0, 1, 2, 3, 4, 5, 6, 7, 8], [0, 1, 2, 3, 4, 5, 6, 7, 8, 9], [0, 1, 2, 3, 4, 5, 6, 7, 8, 9], [0, 1, 2, 3, 4, 5, 6, 7, 8, 9, 10, 11], [0, 1, 2, 3, 4, 5, 6, 7, 8, 9, 10, 11, 12]] : List (List Nat)).getD j []), []⟩ (fun jj vv yy => match jj with | 0 => vv = [some (.agg y1)] | 1 => vv = [some (.slice (some ⟨ks, 0, none⟩) q cS)] | 2 => vv = [some (.int .i64 (k : Nat))] | 3 => ∃ (x3 : Array Value), vv = [some (.agg x3)] /\ Arr yy x3 X (q + 1) CH Ms (fun j => elC L1 g1 32 (exG r1 j)) (fun j => elP L1 P1 (exG r1 j)) (fun j => elQ L1 Q1 (exG r1 j)) | 4 => vv = [some (.agg y2)] | 5 => vv = [some (.slice (some ⟨ks, 0, none⟩) q cS)] | 6 => vv = [some (.int .i64 (k : Nat))] | 7 => ∃ (x7 : Array Value), vv = [some (.agg x7)] /\ Arr yy x7 X (q + 1) CH Ms (fun j => elC L2 g2 32 (exG r2 j)) (fun j => elP L2 P2 (exG r2 j)) (fun j => elQ L2 Q2 (exG r2 j)) | 8 => vv = [some (.int .i64 (k : Nat))] | 9 => ∃ (x9 : Array Value), vv = [some (.tuple #[.agg x9, .int .i64 E])] /\ MoR yy x9 E T (q + 1) CH M (wvF N N (fun j => elC L1 g1 32 (exG r1 j)) (fun j => elC L2 g2 32 (exG r2 j))) (wvF N N (fun j => elP L1 P1 (exG r1 j)) (fun j => elP L2 P2 (exG r2 j))) (wvF N N (fun j => elQ L1 Q1 (exG r1 j)) (fun j => elQ L2 Q2 (exG r2 j))) /\ IsA x9 | 10 => ∃ (x9 : Array Value), vv = [some (.agg x9)] /\ MoR yy x9 E T (q + 1) CH M (wvF N N (fun j => elC L1 g1 32 (exG r1 j)) (fun j => elC L2 g2 32 (exG r2 j))) (wvF N N (fun j => elP L1 P1 (exG r1 j)) (fun j => elP L2 P2 (exG r2 j))) (wvF N N (fun j => elQ L1 Q1 (exG r1 j)) (fun j => elQ L2 Q2 (exG r2 j))) /\ IsA x9 | 11 => vv = [some (.int .i64 E)] | 12 => ∃ (x9 : Array Value), Row yy (w.heap.size + 1 + 1) 32 x9 /\ MoR yy x9 E T (q + 1) CH M (wvF N N (fun j => elC L1 g1 32 (exG r1 j)) (fun j => elC L2 g2 32 (exG r2 j))) (wvF N N (fun j => elP L1 P1 (exG r1 j)) (fun j => elP L2 P2 (exG r2 j))) (wvF N N (fun j => elQ L1 Q1 (exG r1 j)) (fun j => elQ L2 Q2 (exG r2 j))) /\ IsA x9 | 13 => vv = [some (.int .i64 E)] | _ => True) (fun f => Bag w (LmP (f 12) (w.heap.size) (w.heap.size + 1) (w.heap.size + 1 + 1) y1 y2 (fun y => Arr y y1 S1 r1 CH L1 g1 P1 Q1 /\ Arr y y2 S2 r2 CH L2 g2 P2 Q2 /\ KRow y .i64 (some ⟨ks, 0, none⟩) q cS s))) (by kernel_rfl) (by kernel_rfl) (by kernel_rfl) BP.drew ?_ ?_ ?_
        · intro jj vv yw yw2 hb h
          match jj, h with
          | 0, h => exact h
          | 1, h => exact h
          | 2, h => exact h
          | 3, ⟨x3, e3, g3_0⟩ => exact Exists.intro x3 (And.intro e3 (g3_0.below hb))
          | 4, h => exact h
          | 5, h => exact h
          | 6, h => exact h
          | 7, ⟨x7, e7, g7_0⟩ => exact Exists.intro x7 (And.intro e7 (g7_0.below hb))
          | 8, h => exact h
          | 9, ⟨x9, e9, g9_0, g9_1⟩ => exact Exists.intro x9 (And.intro e9 (And.intro (g9_0.below hb) g9_1))
          | 10, ⟨x9, e10, g10_0, g10_1⟩ => exact Exists.intro x9 (And.intro e10 (And.intro (g10_0.below hb) g10_1))
          | 11, h => exact h
          | 12, ⟨x9, g12_0, g12_1, g12_2⟩ => exact Exists.intro x9 (And.intro (g12_0.below hb) (And.intro (g12_1.below hb) g12_2))
          | 13, h => exact h
          | _ + 14, h => exact h
        · intro ac yw hsz hdf hold hB hp
          obtain ⟨x9, r6, m9, i9⟩ := hp 12 (by decide)
          have t7 : ac.tmps[7]? = some (.int .i64 E) := (List.cons.inj (hp 13 (by decide))).1
          have t6 : ac.tmps[6]? = some (.pointer (some ⟨w.heap.size + 1 + 1, 0, none⟩)) := hold 6 (by kernel_rfl)
          have HX := Lib.hid r6
          have HI := Lib.hid i9
          have HE := Lib.hid (m9.told hB.below)
          clear hold hp r6 m9 i9 hB
          obtain ⟨TZ, hTZ⟩ : ∃ TZ : Nat -> Value, ∀ i, (ac.tmps[i]?).getD undef = TZ i := ⟨_, fun _ => rfl⟩
          have f6 := (hTZ 6).symm.trans (congrArg (fun x => Option.getD x undef) t6)
          have f7 := (hTZ 7).symm.trans (congrArg (fun x => Option.getD x undef) t7)
          have hac := act_eq (n := 61) hsz TZ hTZ
          rw [show ((List.range 61).map TZ).toArray = #[TZ 0, TZ 1, TZ 2, TZ 3, TZ 4, TZ 5, TZ 6, TZ 7, TZ 8, TZ 9, TZ 10, TZ 11, TZ 12, TZ 13, TZ 14, TZ 15, TZ 16, TZ 17, TZ 18, TZ 19, TZ 20, TZ 21, TZ 22, TZ 23, TZ 24, TZ 25, TZ 26, TZ 27, TZ 28, TZ 29, TZ 30, TZ 31, TZ 32, TZ 33, TZ 34, TZ 35, TZ 36, TZ 37, TZ 38, TZ 39, TZ 40, TZ 41, TZ 42, TZ 43, TZ 44, TZ 45, TZ 46, TZ 47, TZ 48, TZ 49, TZ 50, TZ 51, TZ 52, TZ 53, TZ 54, TZ 55, TZ 56, TZ 57, TZ 58, TZ 59, TZ 60] from rfl, f6, f7, hdf] at hac
          simp only [Option.getD_some] at hac
          subst hac
          clear hTZ f6 f7
          go_wp2_with fail
          exact bodyPost_ret (res_arr2 Tryz.results14 rfl rfl HX.out HI.out.size) rfl HE.out
        refine Stps4.cons (o := _) ?_ ?_
        · intro f ac yw hsz hold hB hp hf K hK
          have t3 : ac.tmps[3]? = some (.pointer (some ⟨w.heap.size, 0, none⟩)) := hold 3 (by kernel_rfl)
          clear hold hp hsz
          rw [if_pos (by rfl)]
          refine ld8 3 rfl (w.heap.size) (y1) t3 ((hB.now.1 (hf 12 (by decide))).1) (I1.out.size) ?_
          exact hK.out _ _ ⟨hB, rfl, Nat.le_refl _, .inl (Below.refl _ _), fun h => absurd h (by decide)⟩
        refine Stps4.cons (o := _) ?_ ?_
        · intro f ac yw hsz hold hB hp hf K hK
          have t9 : ac.tmps[9]? = some (.slice (some ⟨ks, 0, none⟩) q cS) := hold 9 (by kernel_rfl)
          clear hold hp hsz hf
          go_simp
          exact hK.out _ _ ⟨hB, rfl, Nat.le_refl _, .inl (Below.refl _ _), fun h => absurd h (by decide)⟩
        refine Stps4.cons (o := _) ?_ ?_
        · intro f ac yw hsz hold hB hp hf K hK
          have t2 : ac.tmps[2]? = some (.int .i64 (k : Nat)) := hold 2 (by kernel_rfl)
          clear hold hp hsz hf
          go_simp
          exact hK.out _ _ ⟨hB, rfl, Nat.le_refl _, .inl (Below.refl _ _), fun h => absurd h (by decide)⟩
        refine Stps4.cons (o := _) ?_ ?_
        · intro f ac yw hsz hold hB hp hf K hK
          have e0 := hp 0 (by decide)
          have t49 : ac.tmps[49]? = some (.agg y1) := (List.cons.inj e0).1
          have e1 := hp 1 (by decide)
          have t50 : ac.tmps[50]? = some (.slice (some ⟨ks, 0, none⟩) q cS) := (List.cons.inj e1).1
          have e2 := hp 2 (by decide)
          have t51 : ac.tmps[51]? = some (.int .i64 (k : Nat)) := (List.cons.inj e2).1
          clear hold hp hsz e0 e1 e2
          go_simp
          (go_at_call 48; (refine (LY1.out _ _ _ _ (hB.now.1 (hf 12 (by decide))).2.2.1 (hB.now.1 (hf 12 (by decide))).2.2.2.2).mono ?_); rintro e wz ⟨x3, rfl, h3_0, hbz⟩)
          exact hK.out _ _ ⟨hB.go hbz, Exists.intro x3 (And.intro rfl h3_0), hbz.size, .inl hbz, fun h => absurd h (by decide)⟩
        refine Stps4.cons (o := _) ?_ ?_
        · intro f ac yw hsz hold hB hp hf K hK
          have t4 : ac.tmps[4]? = some (.pointer (some ⟨w.heap.size + 1, 0, none⟩)) := hold 4 (by kernel_rfl)
          clear hold hp hsz
          rw [if_pos (by rfl)]
          refine ld8 4 rfl (w.heap.size + 1) (y2) t4 ((hB.now.1 (hf 12 (by decide))).2.1) (I2.out.size) ?_
          exact hK.out _ _ ⟨hB, rfl, Nat.le_refl _, .inl (Below.refl _ _), fun h => absurd h (by decide)⟩
        refine Stps4.cons (o := _) ?_ ?_
        · intro f ac yw hsz hold hB hp hf K hK
          have t9 : ac.tmps[9]? = some (.slice (some ⟨ks, 0, none⟩) q cS) := hold 9 (by kernel_rfl)
          clear hold hp hsz hf
          go_simp
          exact hK.out _ _ ⟨hB, rfl, Nat.le_refl _, .inl (Below.refl _ _), fun h => absurd h (by decide)⟩
        refine Stps4.cons (o := _) ?_ ?_
        · intro f ac yw hsz hold hB hp hf K hK
          have t2 : ac.tmps[2]? = some (.int .i64 (k : Nat)) := hold 2 (by kernel_rfl)
          clear hold hp hsz hf
          go_simp
          exact hK.out _ _ ⟨hB, rfl, Nat.le_refl _, .inl (Below.refl _ _), fun h => absurd h (by decide)⟩
        refine Stps4.cons (o := _) ?_ ?_
        · intro f ac yw hsz hold hB hp hf K hK
          have e4 := hp 4 (by decide)
          have t53 : ac.tmps[53]? = some (.agg y2) := (List.cons.inj e4).1
          have e5 := hp 5 (by decide)
          have t54 : ac.tmps[54]? = some (.slice (some ⟨ks, 0, none⟩) q cS) := (List.cons.inj e5).1
          have e6 := hp 6 (by decide)
          have t55 : ac.tmps[55]? = some (.int .i64 (k : Nat)) := (List.cons.inj e6).1
          clear hold hp hsz e4 e5 e6
          go_simp
          (go_at_call 48; (refine (LY2.out _ _ _ _ (hB.now.1 (hf 12 (by decide))).2.2.2.1 (hB.now.1 (hf 12 (by decide))).2.2.2.2).mono ?_); rintro e wz ⟨x7, rfl, h7_0, hbz⟩)
          exact hK.out _ _ ⟨hB.go hbz, Exists.intro x7 (And.intro rfl h7_0), hbz.size, .inl hbz, fun h => absurd h (by decide)⟩
        refine Stps4.cons (o := _) ?_ ?_
        · intro f ac yw hsz hold hB hp hf K hK
          have t2 : ac.tmps[2]? = some (.int .i64 (k : Nat)) := hold 2 (by kernel_rfl)
          clear hold hp hsz hf
          go_simp
          exact hK.out _ _ ⟨hB, rfl, Nat.le_refl _, .inl (Below.refl _ _), fun h => absurd h (by decide)⟩
        refine Stps4.cons (o := _) ?_ ?_
        · intro f ac yw hsz hold hB hp hf K hK
          obtain ⟨x3_3, e3, g3_0⟩ := hp 3 (by decide)
          have t52 : ac.tmps[52]? = some (.agg x3_3) := (List.cons.inj e3).1
          obtain ⟨x7_7, e7, g7_0⟩ := hp 7 (by decide)
          have t56 : ac.tmps[56]? = some (.agg x7_7) := (List.cons.inj e7).1
          have e8 := hp 8 (by decide)
          have t57 : ac.tmps[57]? = some (.int .i64 (k : Nat)) := (List.cons.inj e8).1
          clear hold hp hsz hf e3 e7 e8
          go_simp
          (go_at_call 39; (refine (BK3.out _ _ _ g3_0 g7_0).mono ?_); rintro e wz ⟨x9, rfl, h9_0, hbz⟩)
          exact hK.out _ _ ⟨hB.go hbz, Exists.intro x9 (And.intro rfl (And.intro h9_0 h9_0.1)), hbz.size, .inl hbz, fun h => absurd h (by decide)⟩
        refine Stps4.cons (o := _) ?_ ?_
        · intro f ac yw hsz hold hB hp hf K hK
          obtain ⟨x9_9, e9, g9_0, g9_1⟩ := hp 9 (by decide)
          have t58 : ac.tmps[58]? = some (.tuple #[.agg x9_9, .int .i64 E]) := (List.cons.inj e9).1
          clear hold hp hsz hf e9
          go_simp
          exact hK.out _ _ ⟨hB, Exists.intro x9_9 (And.intro rfl (And.intro g9_0 g9_1)), Nat.le_refl _, .inl (Below.refl _ _), fun h => absurd h (by decide)⟩
        refine Stps4.cons (o := _) ?_ ?_
        · intro f ac yw hsz hold hB hp hf K hK
          obtain ⟨x9_9, e9, g9_0, g9_1⟩ := hp 9 (by decide)
          have t58 : ac.tmps[58]? = some (.tuple #[.agg x9_9, .int .i64 E]) := (List.cons.inj e9).1
          clear hold hp hsz hf e9
          go_simp
          exact hK.out _ _ ⟨hB, rfl, Nat.le_refl _, .inl (Below.refl _ _), fun h => absurd h (by decide)⟩
        refine Stps4.cons (o := _) ?_ ?_
        · intro f ac yw hsz hold hB hp hf K hK
          obtain ⟨x9_10, e10, g10_0, g10_1⟩ := hp 10 (by decide)
          have t59 : ac.tmps[59]? = some (.agg x9_10) := (List.cons.inj e10).1
          have t6 : ac.tmps[6]? = some (.pointer (some ⟨w.heap.size + 1 + 1, 0, none⟩)) := hold 6 (by kernel_rfl)
          clear hold hp hsz hf e10
          rw [if_pos (by rfl)]
          obtain ⟨zz, hz, iz⟩ := hB.now.2
          have HB := LmP.put hB (by omega) (x9_10) g10_1
          refine st8 6 59 rfl (w.heap.size + 1 + 1) x9_10 t6 t59 _ zz hz iz g10_1 ?_
          refine hK.out undef _ ⟨HB, Exists.intro x9_10 (And.intro (hz.put _) (And.intro (g10_0.store hz iz _) g10_1)), by simp [World.setRow], .inr ?_, fun h => absurd h (by decide)⟩
          intro jj hj hap h
          match jj, h with
          | 0, h => exact h
          | 1, h => exact h
          | 2, h => exact h
          | 3, ⟨x3, e3, g3_0⟩ => exact Exists.intro x3 (And.intro e3 (g3_0.store hz iz _))
          | 4, h => exact h
          | 5, h => exact h
          | 6, h => exact h
          | 7, ⟨x7, e7, g7_0⟩ => exact Exists.intro x7 (And.intro e7 (g7_0.store hz iz _))
          | 8, h => exact h
          | 9, ⟨x9, e9, g9_0, g9_1⟩ => exact Exists.intro x9 (And.intro e9 (And.intro (g9_0.store hz iz _) g9_1))
          | 10, ⟨x9, e10, g10_0, g10_1⟩ => exact Exists.intro x9 (And.intro e10 (And.intro (g10_0.store hz iz _) g10_1))
          | 11, h => exact h
          | 12, _ => exact absurd rfl hj
          | 13, h => exact h
          | _ + 14, h => exact h
        refine Stps4.cons (o := _) ?_ ?_
        · intro f ac yw hsz hold hB hp hf K hK
          have e11 := hp 11 (by decide)
          have t60 : ac.tmps[60]? = some (.int .i64 E) := (List.cons.inj e11).1
          clear hold hp hsz hf e11
          go_simp
          exact hK.out _ _ ⟨hB, rfl, Nat.le_refl _, .inl (Below.refl _ _), fun h => absurd h (by decide)⟩
        exact Stps4.nil _
      · have dE : (E2 != 0) = true := bne_iff_ne.2 h1
        have HZ3 := Lib.hid BC.out.now.2.2.2.1
        obtain rfl := HEB.out h1
        have HE := Lib.hid (HNO.out _ _ h1 BC.out.below)
        clear HEB h1 BK
        go_wp2_with (refine st_arr rfl (.tmp 6) (.tmp 47) rfl (w.heap.size + 1 + 1) rfl false 0 (fun _ => 0) none 0 0 none 0 0 rfl HZ3.out rfl ?_)
        exact bodyPost_ret (res_arr2 Tryz.results14 rfl rfl (HZ3.out.put _) rfl) rfl HE.out
  · obtain ⟨e1, e2⟩ := hqn h0
    have SHQ : Hid (∀ y wz, Arr wz y S1 r1 CH L1 g1 P1 Q1 -> Calls Tryz.prog 46 #[.agg y] wz fun e w' => ∃ g c', e = .returned (.slice (some ⟨g, 0, none⟩) q c') /\ wz.heap.size <= g /\ g < w'.heap.size /\ KRow w' .i64 (some ⟨g, 0, none⟩) q c' s /\ Below wz.heap.size wz w') := Lib.hid (fun y wz h => by
     rw [e1, e2]
     exact SH1.out y wz h)
    have d0 : ((r1 : Int) == 0) = false := beq_eq_false_iff_ne.2 (by omega)
    clear hqz hqn h0 e1 e2
    unfold arrC
    go_enter Tryz.func14, Tryz.ntmps14
    go_wp2_with (first
     | (refine ld_arr rfl (.tmp 3) rfl (w.heap.size) rfl HR1.out ?_)
     | (refine ld_arr rfl (.tmp 4) rfl (w.heap.size + 1) rfl HR2.out ?_))
    go_at_call 36
    (with_reducible refine (AL.out _ ?_ ?_).mono ?_)
    · exact H1.out.below BB.out.below
    · exact H2.out.below BB.out.below
    rintro e w2 ⟨y1, y2, rfl, i1, i2, hA, hb2⟩
    have B2 := BB.out.go hb2
    have HZ1 := Lib.hid B2.now.1
    have hz2 := B2.now.2.1.puto (k := w.heap.size) (by omega) y1
    have HZ2 := Lib.hid hz2
    have I1 := Lib.hid i1
    have I2 := Lib.hid i2
    have F1 := Lib.hid ((B2.now.1.put y1).puto (k := w.heap.size + 1) (by omega) y2)
    have F2 := Lib.hid (hz2.put y2)
    have F3 := Lib.hid ((B2.now.2.2.1.puto (k := w.heap.size) (by omega) y1).puto (k := w.heap.size + 1) (by omega) y2)
    have F4 := Lib.hid (below_put (below_put B2.below (Nat.le_refl _) y1) (show w.heap.size <= w.heap.size + 1 by omega) y2)
    have F5 := Lib.hid (((hA trivial).1.store B2.now.1 (IsA.of _ _ _ _ _ _ _ _ _) y1).store hz2 (IsA.of _ _ _ _ _ _ _ _ _) y2)
    have F6 := Lib.hid (((hA trivial).2.store B2.now.1 (IsA.of _ _ _ _ _ _ _ _ _) y1).store hz2 (IsA.of _ _ _ _ _ _ _ _ _) y2)
    clear hA hb2 B2 hz2 i1 i2
    go_wp2_with (first
     | (refine stA rfl (.tmp 3) (.tmp 15) rfl (w.heap.size) rfl y1 rfl I1.out HZ1.out (IsA.of _ _ _ _ _ _ _ _ _) ?_)
     | (refine stA rfl (.tmp 4) (.tmp 16) rfl (w.heap.size + 1) rfl y2 rfl I2.out HZ2.out (IsA.of _ _ _ _ _ _ _ _ _) ?_)
     | (refine ld8G (by rfl) 3 rfl (w.heap.size) y1 (by rfl) F1.out I1.out.size ?_))
    generalize hW : ((w2.setRow w.heap.size y1).setRow (w.heap.size + 1) y2) = Y2 at *
    have BC := Lib.hid (show Bag w (fun y => Row y w.heap.size 32 y1 /\ Row y (w.heap.size + 1) 32 y2 /\ Row y (w.heap.size + 1 + 1) 32 zerC /\ Arr y y1 S1 r1 CH L1 g1 P1 Q1 /\ Arr y y2 S2 r2 CH L2 g2 P2 Q2) Y2 from ⟨F4.out, (fun a b hb ⟨q1, q2, q3, q4, q5⟩ => ⟨q1.below hb, q2.below hb, q3.below hb, q4.below hb, q5.below hb⟩), F1.out, F2.out, F3.out, F5.out, F6.out⟩)
    clear hW HZ1 HZ2 F1 F2 F3 F4 F5 F6
    go_at_call 46
    (refine (SHQ.out _ _ BC.out.now.2.2.2.1).mono ?_)
    rintro e w3 ⟨ks, cS, rfl, _, _, hkS, hb3⟩
    have hlS := hkS.len
    have BC := Lib.hid ((BC.out.go hb3).krow hkS)
    have HY1 := Lib.hid BC.out.now.2.1
    clear hkS hb3
    go_wp2_with (refine ld8G (by rfl) 3 rfl (w.heap.size) y1 (by rfl) HY1.out I1.out.size ?_)
    go_at_call 34
    (refine (RK1.out _ _ BC.out.now.2.2.2.2.1).mono ?_)
    rintro e w5 ⟨rfl, hb5⟩
    have BC := Lib.hid (BC.out.go hb5)
    clear hb5 HY1
    have HNB : Hid (q <= 8) := Lib.hid (by omega)
    by_cases h23 : i < 0 ∨ (q : Int) < i ∨ q = 8
    · obtain rfl := HF23.out h23
      have HZ3 := Lib.hid BC.out.now.2.2.2.1
      have HE := Lib.hid (HNO.out 23 _ (by decide) BC.out.below)
      clear HF23 HF2 BH2 LY1 LY2 CV
      rcases h23 with h | h | h
      · go_wp2_with (refine st_arr rfl (.tmp 6) (.tmp 41) rfl (w.heap.size + 1 + 1) rfl false 0 (fun _ => 0) none 0 0 none 0 0 rfl HZ3.out rfl ?_)
        exact bodyPost_ret (res_arr2 Tryz.results14 rfl rfl (HZ3.out.put _) rfl) rfl HE.out
      · have d1 : ¬ i < 0 := by omega
        go_wp2_with (refine st_arr rfl (.tmp 6) (.tmp 41) rfl (w.heap.size + 1 + 1) rfl false 0 (fun _ => 0) none 0 0 none 0 0 rfl HZ3.out rfl ?_)
        exact bodyPost_ret (res_arr2 Tryz.results14 rfl rfl (HZ3.out.put _) rfl) rfl HE.out
      · have d3 : ((q : Int) == 8) = true := beq_iff_eq.2 (by omega)
        clear h
        by_cases h4 : i < 0
        · go_wp2_with (refine st_arr rfl (.tmp 6) (.tmp 41) rfl (w.heap.size + 1 + 1) rfl false 0 (fun _ => 0) none 0 0 none 0 0 rfl HZ3.out rfl ?_)
          exact bodyPost_ret (res_arr2 Tryz.results14 rfl rfl (HZ3.out.put _) rfl) rfl HE.out
        · by_cases h5 : (q : Int) < i
          · go_wp2_with (refine st_arr rfl (.tmp 6) (.tmp 41) rfl (w.heap.size + 1 + 1) rfl false 0 (fun _ => 0) none 0 0 none 0 0 rfl HZ3.out rfl ?_)
            exact bodyPost_ret (res_arr2 Tryz.results14 rfl rfl (HZ3.out.put _) rfl) rfl HE.out
          · go_wp2_with (refine st_arr rfl (.tmp 6) (.tmp 41) rfl (w.heap.size + 1 + 1) rfl false 0 (fun _ => 0) none 0 0 none 0 0 rfl HZ3.out rfl ?_)
            exact bodyPost_ret (res_arr2 Tryz.results14 rfl rfl (HZ3.out.put _) rfl) rfl HE.out
    · obtain ⟨k, rfl⟩ : ∃ k : Nat, i = (k : Nat) := ⟨i.toNat, by omega⟩
      have hkq : k <= q := by omega
      have hq8 : q + 1 <= 8 := by omega
      have d1 : ¬ ((k : Nat) : Int) < 0 := by omega
      have d2 : ¬ ((q : Nat) : Int) < (k : Nat) := by omega
      have d3 : ((q : Int) == 8) = false := beq_eq_false_iff_ne.2 (by omega)
      have d4 : decide (q < k) = false := decide_eq_false (by omega)
      have d5 : k <= q := hkq
      have HY2 := Lib.hid BC.out.now.2.2.1
      have LY1 := Lib.hid (LY1.out k rfl hkq hq8)
      have LY2 := Lib.hid (LY2.out k rfl hkq hq8)
      have BK := Lib.hid (BH2.out k rfl hkq hq8)
      have HEB := Lib.hid (HF2.out h23)
      obtain ⟨E2, hE2⟩ : ∃ E, cvE r2 S2 q s = E := ⟨_, rfl⟩
      rw [hE2] at CV BK HEB
      clear h23 HF23 HF2 BH2 hE2
      go_wp2_with (refine ld8G (by rfl) 4 rfl (w.heap.size + 1) y2 (by rfl) HY2.out I2.out.size ?_)
      go_at_call 47
      (refine (CV.out _ _ _ _ BC.out.now.2.2.2.2.2 BC.out.now.1).mono ?_)
      rintro e w4 ⟨rfl, hb4⟩
      have BC := Lib.hid (BC.out.go hb4)
      clear hb4 HY2 CV
      by_cases h1 : E2 = 0
      · subst h1
        have BK3 := Lib.hid (BK.out rfl)
        clear BK
        obtain ⟨Y3, hY3⟩ : ∃ y, y = w4 := ⟨_, rfl⟩
        subst hY3
        go_wp2_with fail
        have BP : Bag w (LmP false (w.heap.size) (w.heap.size + 1) (w.heap.size + 1 + 1) y1 y2 (fun y => Arr y y1 S1 r1 CH L1 g1 P1 Q1 /\ Arr y y2 S2 r2 CH L2 g2 P2 Q2 /\ KRow y .i64 (some ⟨ks, 0, none⟩) q cS s)) Y3 := ⟨BC.out.below, LmP.stay (fun a b hb ⟨q1, q2, q3⟩ => ⟨q1.below hb, q2.below hb, q3.below hb⟩), fun _ => ⟨BC.out.now.2.1, BC.out.now.2.2.1, BC.out.now.2.2.2.2.1, BC.out.now.2.2.2.2.2, BC.out.now.1⟩, _, BC.out.now.2.2.2.1, IsA.zer⟩
        refine wp_region_inv4 ⟨(fun j => ([[49], [50], [51], [52], [53], [54], [55], [56], [57], [58], [59], [60], [], [7]] : List (List Nat)).getD j []), (fun j => ([[], [], [], [0, 1, 2], [], [], [], [0, 1, 2, 3, 4, 5, 6], [], [0, 1, 2, 3, 4, 5, 6, 7, 8], [0, 1, 2, 3, 4, 5, 6, 7, 8, 9], [0, 1, 2, 3, 4, 5, 6, 7, 8, 9], [0, 1, 2, 3, 4, 5, 6, 7, 8, 9, 10, 11], [0, 1, 2, 3, 4, 5, 6, 7, 8, 9, 10, 11, 12]] : List (List Nat)).getD j []), []⟩ (fun jj vv yy => match jj with | 0 => vv = [some (.agg y1)] | 1 => vv = [some (.slice (some ⟨ks, 0, none⟩) q cS)] | 2 => vv = [some (.int .i64 (k : Nat))] | 3 => ∃ (x3 : Array Value), vv = [some (.agg x3)] /\ Arr yy x3 X (q + 1) CH Ms (fun j => elC L1 g1 32 (exG r1 j)) (fun j => elP L1 P1 (exG r1 j)) (fun j => elQ L1 Q1 (exG r1 j)) | 4 => vv = [some (.agg y2)] | 5 => vv = [some (.slice (some ⟨ks, 0, none⟩) q cS)] | 6 => vv = [some (.int .i64 (k : Nat))] | 7 => ∃ (x7 : Array Value), vv = [some (.agg x7)] /\ Arr yy x7 X (q + 1) CH Ms (fun j => elC L2 g2 32 (exG r2 j)) (fun j => elP L2 P2 (exG r2 j)) (fun j => elQ L2 Q2 (exG r2 j)) | 8 => vv = [some (.int .i64 (k : Nat))] | 9 => ∃ (x9 : Array Value), vv = [some (.tuple #[.agg x9, .int .i64 E])] /\ MoR yy x9 E T (q + 1) CH M (wvF N N (fun j => elC L1 g1 32 (exG r1 j)) (fun j => elC L2 g2 32 (exG r2 j))) (wvF N N (fun j => elP L1 P1 (exG r1 j)) (fun j => elP L2 P2 (exG r2 j))) (wvF N N (fun j => elQ L1 Q1 (exG r1 j)) (fun j => elQ L2 Q2 (exG r2 j))) /\ IsA x9 | 10 => ∃ (x9 : Array Value), vv = [some (.agg x9)] /\ MoR yy x9 E T (q + 1) CH M (wvF N N (fun j => elC L1 g1 32 (exG r1 j)) (fun j => elC L2 g2 32 (exG r2 j))) (wvF N N (fun j => elP L1 P1 (exG r1 j)) (fun j => elP L2 P2 (exG r2 j))) (wvF N N (fun j => elQ L1 Q1 (exG r1 j)) (fun j => elQ L2 Q2 (exG r2 j))) /\ IsA x9 | 11 => vv = [some (.int .i64 E)] | 12 => ∃ (x9 : Array Value), Row yy (w.heap.size + 1 + 1) 32 x9 /\ MoR yy x9 E T (q + 1) CH M (wvF N N (fun j => elC L1 g1 32 (exG r1 j)) (fun j => elC L2 g2 32 (exG r2 j))) (wvF N N (fun j => elP L1 P1 (exG r1 j)) (fun j => elP L2 P2 (exG r2 j))) (wvF N N (fun j => elQ L1 Q1 (exG r1 j)) (fun j => elQ L2 Q2 (exG r2 j))) /\ IsA x9 | 13 => vv = [some (.int .i64 E)] | _ => True) (fun f => Bag w (LmP (f 12) (w.heap.size) (w.heap.size + 1) (w.heap.size + 1 + 1) y1 y2 (fun y => Arr y y1 S1 r1 CH L1 g1 P1 Q1 /\ Arr y y2 S2 r2 CH L2 g2 P2 Q2 /\ KRow y .i64 (some ⟨ks, 0, none⟩) q cS s))) (by kernel_rfl) (by kernel_rfl) (by kernel_rfl) BP.drew ?_ ?_ ?_
        · intro jj vv yw yw2 hb h
          match jj, h with
          | 0, h => exact h
          | 1, h => exact h
          | 2, h => exact h
          | 3, ⟨x3, e3, g3_0⟩ => exact Exists.intro x3 (And.intro e3 (g3_0.below hb))
          | 4, h => exact h
          | 5, h => exact h
          | 6, h => exact h
          | 7, ⟨x7, e7, g7_0⟩ => exact Exists.intro x7 (And.intro e7 (g7_0.below hb))
          | 8, h => exact h
          | 9, ⟨x9, e9, g9_0, g9_1⟩ => exact Exists.intro x9 (And.intro e9 (And.intro (g9_0.below hb) g9_1))
          | 10, ⟨x9, e10, g10_0, g10_1⟩ => exact Exists.intro x9 (And.intro e10 (And.intro (g10_0.below hb) g10_1))
          | 11, h => exact h
          | 12, ⟨x9, g12_0, g12_1, g12_2⟩ => exact Exists.intro x9 (And.intro (g12_0.below hb) (And.intro (g12_1.below hb) g12_2))
          | 13, h => exact h
          | _ + 14, h => exact h
        · intro ac yw hsz hdf hold hB hp
          obtain ⟨x9, r6, m9, i9⟩ := hp 12 (by decide)
          have t7 : ac.tmps[7]? = some (.int .i64 E) := (List.cons.inj (hp 13 (by decide))).1
          have t6 : ac.tmps[6]? = some (.pointer (some ⟨w.heap.size + 1 + 1, 0, none⟩)) := hold 6 (by kernel_rfl)
          have HX := Lib.hid r6
          have HI := Lib.hid i9
          have HE := Lib.hid (m9.told hB.below)
          clear hold hp r6 m9 i9 hB
          obtain ⟨TZ, hTZ⟩ : ∃ TZ : Nat -> Value, ∀ i, (ac.tmps[i]?).getD undef = TZ i := ⟨_, fun _ => rfl⟩
          have f6 := (hTZ 6).symm.trans (congrArg (fun x => Option.getD x undef) t6)
          have f7 := (hTZ 7).symm.trans (congrArg (fun x => Option.getD x undef) t7)
          have hac := act_eq (n := 61) hsz TZ hTZ
          rw [show ((List.range 61).map TZ).toArray = #[TZ 0, TZ 1, TZ 2, TZ 3, TZ 4, TZ 5, TZ 6, TZ 7, TZ 8, TZ 9, TZ 10, TZ 11, TZ 12, TZ 13, TZ 14, TZ 15, TZ 16, TZ 17, TZ 18, TZ 19, TZ 20, TZ 21, TZ 22, TZ 23, TZ 24, TZ 25, TZ 26, TZ 27, TZ 28, TZ 29, TZ 30, TZ 31, TZ 32, TZ 33, TZ 34, TZ 35, TZ 36, TZ 37, TZ 38, TZ 39, TZ 40, TZ 41, TZ 42, TZ 43, TZ 44, TZ 45, TZ 46, TZ 47, TZ 48, TZ 49, TZ 50, TZ 51, TZ 52, TZ 53, TZ 54, TZ 55, TZ 56, TZ 57, TZ 58, TZ 59, TZ 60] from rfl, f6, f7, hdf] at hac
          simp only [Option.getD_some] at hac
          subst hac
          clear hTZ f6 f7
          go_wp2_with fail
          exact bodyPost_ret (res_arr2 Tryz.results14 rfl rfl HX.out HI.out.size) rfl HE.out
        refine Stps4.cons (o := _) ?_ ?_
        · intro f ac yw hsz hold hB hp hf K hK
          have t3 : ac.tmps[3]? = some (.pointer (some ⟨w.heap.size, 0, none⟩)) := hold 3 (by kernel_rfl)
          clear hold hp hsz
          rw [if_pos (by rfl)]
          refine ld8 3 rfl (w.heap.size) (y1) t3 ((hB.now.1 (hf 12 (by decide))).1) (I1.out.size) ?_
          exact hK.out _ _ ⟨hB, rfl, Nat.le_refl _, .inl (Below.refl _ _), fun h => absurd h (by decide)⟩
        refine Stps4.cons (o := _) ?_ ?_
        · intro f ac yw hsz hold hB hp hf K hK
          have t9 : ac.tmps[9]? = some (.slice (some ⟨ks, 0, none⟩) q cS) := hold 9 (by kernel_rfl)
          clear hold hp hsz hf
          go_simp
          exact hK.out _ _ ⟨hB, rfl, Nat.le_refl _, .inl (Below.refl _ _), fun h => absurd h (by decide)⟩
        refine Stps4.cons (o := _) ?_ ?_
        · intro f ac yw hsz hold hB hp hf K hK
          have t2 : ac.tmps[2]? = some (.int .i64 (k : Nat)) := hold 2 (by kernel_rfl)
          clear hold hp hsz hf
          go_simp
          exact hK.out _ _ ⟨hB, rfl, Nat.le_refl _, .inl (Below.refl _ _), fun h => absurd h (by decide)⟩
        refine Stps4.cons (o := _) ?_ ?_
        · intro f ac yw hsz hold hB hp hf K hK
          have e0 := hp 0 (by decide)
          have t49 : ac.tmps[49]? = some (.agg y1) := (List.cons.inj e0).1
          have e1 := hp 1 (by decide)
          have t50 : ac.tmps[50]? = some (.slice (some ⟨ks, 0, none⟩) q cS) := (List.cons.inj e1).1
          have e2 := hp 2 (by decide)
          have t51 : ac.tmps[51]? = some (.int .i64 (k : Nat)) := (List.cons.inj e2).1
          clear hold hp hsz e0 e1 e2
          go_simp
          (go_at_call 48; (refine (LY1.out _ _ _ _ (hB.now.1 (hf 12 (by decide))).2.2.1 (hB.now.1 (hf 12 (by decide))).2.2.2.2).mono ?_); rintro e wz ⟨x3, rfl, h3_0, hbz⟩)
          exact hK.out _ _ ⟨hB.go hbz, Exists.intro x3 (And.intro rfl h3_0), hbz.size, .inl hbz, fun h => absurd h (by decide)⟩
        refine Stps4.cons (o := _) ?_ ?_
        · intro f ac yw hsz hold hB hp hf K hK
          have t4 : ac.tmps[4]? = some (.pointer (some ⟨w.heap.size + 1, 0, none⟩)) := hold 4 (by kernel_rfl)
          clear hold hp hsz
          rw [if_pos (by rfl)]
          refine ld8 4 rfl (w.heap.size + 1) (y2) t4 ((hB.now.1 (hf 12 (by decide))).2.1) (I2.out.size) ?_
          exact hK.out _ _ ⟨hB, rfl, Nat.le_refl _, .inl (Below.refl _ _), fun h => absurd h (by decide)⟩
        refine Stps4.cons (o := _) ?_ ?_
        · intro f ac yw hsz hold hB hp hf K hK
          have t9 : ac.tmps[9]? = some (.slice (some ⟨ks, 0, none⟩) q cS) := hold 9 (by kernel_rfl)
          clear hold hp hsz hf
          go_simp
          exact hK.out _ _ ⟨hB, rfl, Nat.le_refl _, .inl (Below.refl _ _), fun h => absurd h (by decide)⟩
        refine Stps4.cons (o := _) ?_ ?_
        · intro f ac yw hsz hold hB hp hf K hK
          have t2 : ac.tmps[2]? = some (.int .i64 (k : Nat)) := hold 2 (by kernel_rfl)
          clear hold hp hsz hf
          go_simp
          exact hK.out _ _ ⟨hB, rfl, Nat.le_refl _, .inl (Below.refl _ _), fun h => absurd h (by decide)⟩
        refine Stps4.cons (o := _) ?_ ?_
        · intro f ac yw hsz hold hB hp hf K hK
          have e4 := hp 4 (by decide)
          have t53 : ac.tmps[53]? = some (.agg y2) := (List.cons.inj e4).1
          have e5 := hp 5 (by decide)
          have t54 : ac.tmps[54]? = some (.slice (some ⟨ks, 0, none⟩) q cS) := (List.cons.inj e5).1
          have e6 := hp 6 (by decide)
          have t55 : ac.tmps[55]? = some (.int .i64 (k : Nat)) := (List.cons.inj e6).1
          clear hold hp hsz e4 e5 e6
          go_simp
          (go_at_call 48; (refine (LY2.out _ _ _ _ (hB.now.1 (hf 12 (by decide))).2.2.2.1 (hB.now.1 (hf 12 (by decide))).2.2.2.2).mono ?_); rintro e wz ⟨x7, rfl, h7_0, hbz⟩)
          exact hK.out _ _ ⟨hB.go hbz, Exists.intro x7 (And.intro rfl h7_0), hbz.size, .inl hbz, fun h => absurd h (by decide)⟩
        refine Stps4.cons (o := _) ?_ ?_
        · intro f ac yw hsz hold hB hp hf K hK
          have t2 : ac.tmps[2]? = some (.int .i64 (k : Nat)) := hold 2 (by kernel_rfl)
          clear hold hp hsz hf
          go_simp
          exact hK.out _ _ ⟨hB, rfl, Nat.le_refl _, .inl (Below.refl _ _), fun h => absurd h (by decide)⟩
        refine Stps4.cons (o := _) ?_ ?_
        · intro f ac yw hsz hold hB hp hf K hK
          obtain ⟨x3_3, e3, g3_0⟩ := hp 3 (by decide)
          have t52 : ac.tmps[52]? = some (.agg x3_3) := (List.cons.inj e3).1
          obtain ⟨x7_7, e7, g7_0⟩ := hp 7 (by decide)
          have t56 : ac.tmps[56]? = some (.agg x7_7) := (List.cons.inj e7).1
          have e8 := hp 8 (by decide)
          have t57 : ac.tmps[57]? = some (.int .i64 (k : Nat)) := (List.cons.inj e8).1
          clear hold hp hsz hf e3 e7 e8
          go_simp
          (go_at_call 39; (refine (BK3.out _ _ _ g3_0 g7_0).mono ?_); rintro e wz ⟨x9, rfl, h9_0, hbz⟩)
          exact hK.out _ _ ⟨hB.go hbz, Exists.intro x9 (And.intro rfl (And.intro h9_0 h9_0.1)), hbz.size, .inl hbz, fun h => absurd h (by decide)⟩
        refine Stps4.cons (o := _) ?_ ?_
        · intro f ac yw hsz hold hB hp hf K hK
          obtain ⟨x9_9, e9, g9_0, g9_1⟩ := hp 9 (by decide)
          have t58 : ac.tmps[58]? = some (.tuple #[.agg x9_9, .int .i64 E]) := (List.cons.inj e9).1
          clear hold hp hsz hf e9
          go_simp
          exact hK.out _ _ ⟨hB, Exists.intro x9_9 (And.intro rfl (And.intro g9_0 g9_1)), Nat.le_refl _, .inl (Below.refl _ _), fun h => absurd h (by decide)⟩
        refine Stps4.cons (o := _) ?_ ?_
        · intro f ac yw hsz hold hB hp hf K hK
          obtain ⟨x9_9, e9, g9_0, g9_1⟩ := hp 9 (by decide)
          have t58 : ac.tmps[58]? = some (.tuple #[.agg x9_9, .int .i64 E]) := (List.cons.inj e9).1
          clear hold hp hsz hf e9
          go_simp
          exact hK.out _ _ ⟨hB, rfl, Nat.le_refl _, .inl (Below.refl _ _), fun h => absurd h (by decide)⟩
        refine Stps4.cons (o := _) ?_ ?_
        · intro f ac yw hsz hold hB hp hf K hK
          obtain ⟨x9_10, e10, g10_0, g10_1⟩ := hp 10 (by decide)
          have t59 : ac.tmps[59]? = some (.agg x9_10) := (List.cons.inj e10).1
          have t6 : ac.tmps[6]? = some (.pointer (some ⟨w.heap.size + 1 + 1, 0, none⟩)) := hold 6 (by kernel_rfl)
          clear hold hp hsz hf e10
          rw [if_pos (by rfl)]
          obtain ⟨zz, hz, iz⟩ := hB.now.2
          have HB := LmP.put hB (by omega) (x9_10) g10_1
          refine st8 6 59 rfl (w.heap.size + 1 + 1) x9_10 t6 t59 _ zz hz iz g10_1 ?_
          refine hK.out undef _ ⟨HB, Exists.intro x9_10 (And.intro (hz.put _) (And.intro (g10_0.store hz iz _) g10_1)), by simp [World.setRow], .inr ?_, fun h => absurd h (by decide)⟩
          intro jj hj hap h
          match jj, h with
          | 0, h => exact h
          | 1, h => exact h
          | 2, h => exact h
          | 3, ⟨x3, e3, g3_0⟩ => exact Exists.intro x3 (And.intro e3 (g3_0.store hz iz _))
          | 4, h => exact h
          | 5, h => exact h
          | 6, h => exact h
          | 7, ⟨x7, e7, g7_0⟩ => exact Exists.intro x7 (And.intro e7 (g7_0.store hz iz _))
          | 8, h => exact h
          | 9, ⟨x9, e9, g9_0, g9_1⟩ => exact Exists.intro x9 (And.intro e9 (And.intro (g9_0.store hz iz _) g9_1))
          | 10, ⟨x9, e10, g10_0, g10_1⟩ => exact Exists.intro x9 (And.intro e10 (And.intro (g10_0.store hz iz _) g10_1))
          | 11, h => exact h
          | 12, _ => exact absurd rfl hj
          | 13, h => exact h
          | _ + 14, h => exact h
        refine Stps4.cons (o := _) ?_ ?_
        · intro f ac yw hsz hold hB hp hf K hK
          have e11 := hp 11 (by decide)
          have t60 : ac.tmps[60]? = some (.int .i64 E) := (List.cons.inj e11).1
          clear hold hp hsz hf e11
          go_simp
          exact hK.out _ _ ⟨hB, rfl, Nat.le_refl _, .inl (Below.refl _ _), fun h => absurd h (by decide)⟩
        exact Stps4.nil _
      · have dE : (E2 != 0) = true := bne_iff_ne.2 h1
        have HZ3 := Lib.hid BC.out.now.2.2.2.1
        obtain rfl := HEB.out h1
        have HE := Lib.hid (HNO.out _ _ h1 BC.out.below)
        clear HEB h1 BK
        go_wp2_with (refine st_arr rfl (.tmp 6) (.tmp 47) rfl (w.heap.size + 1 + 1) rfl false 0 (fun _ => 0) none 0 0 none 0 0 rfl HZ3.out rfl ?_)
        exact bodyPost_ret (res_arr2 Tryz.results14 rfl rfl (HZ3.out.put _) rfl) rfl HE.out
def jw1S : Nat -> Int := jnT 1 (fun _ => ((2 : Nat) : Int)) 0 (fun _ => 0) ((caK (grR 1 0) (-1)).toNat)
def jw1g : Nat -> Int := wvF (jnN 1 (fun _ => ((2 : Nat) : Int)) (grR 1 0) (grS 1 (fun _ => ((2 : Nat) : Int)) 0 (fun _ => 0)) ((caK (grR 1 0) (-1)).toNat)) (jnN 0 (fun _ => 0) (grR 1 0) (grS 1 (fun _ => ((2 : Nat) : Int)) 0 (fun _ => 0)) ((caK (grR 1 0) (-1)).toNat)) (fun j => elC 2 (fun _ => 0) 32 (exG 1 j)) (fun j => elC 1 (fun _ => 0) 32 (exG 0 j))
def jw1P : Nat -> Int := wvF (jnN 1 (fun _ => ((2 : Nat) : Int)) (grR 1 0) (grS 1 (fun _ => ((2 : Nat) : Int)) 0 (fun _ => 0)) ((caK (grR 1 0) (-1)).toNat)) (jnN 0 (fun _ => 0) (grR 1 0) (grS 1 (fun _ => ((2 : Nat) : Int)) 0 (fun _ => 0)) ((caK (grR 1 0) (-1)).toNat)) (fun j => elP 2 (lt [1, 2]) (exG 1 j)) (fun j => elP 1 (fun _ => 3) (exG 0 j))
def jw1Q : Nat -> Nat := wvF (jnN 1 (fun _ => ((2 : Nat) : Int)) (grR 1 0) (grS 1 (fun _ => ((2 : Nat) : Int)) 0 (fun _ => 0)) ((caK (grR 1 0) (-1)).toNat)) (jnN 0 (fun _ => 0) (grR 1 0) (grS 1 (fun _ => ((2 : Nat) : Int)) 0 (fun _ => 0)) ((caK (grR 1 0) (-1)).toNat)) (fun j => elQ 2 (fun _ => 1) (exG 1 j)) (fun j => elQ 1 (fun _ => 1) (exG 0 j))
def jw2S : Nat -> Int := lmT (lmS 1 (fun _ => ((2 : Nat) : Int)) (fun _ => ((2 : Nat) : Int))) ((1 : Int).toNat)
def jw2g : Nat -> Int := wvF (lmN (lmS 1 (fun _ => ((2 : Nat) : Int)) (fun _ => ((2 : Nat) : Int))) (lmR 1 1) ((1 : Int).toNat)) (lmN (lmS 1 (fun _ => ((2 : Nat) : Int)) (fun _ => ((2 : Nat) : Int))) (lmR 1 1) ((1 : Int).toNat)) (fun j => elC 2 (fun _ => 0) 32 (exG 1 j)) (fun j => elC 2 (fun _ => 0) 32 (exG 1 j))
def jw2P : Nat -> Int := wvF (lmN (lmS 1 (fun _ => ((2 : Nat) : Int)) (fun _ => ((2 : Nat) : Int))) (lmR 1 1) ((1 : Int).toNat)) (lmN (lmS 1 (fun _ => ((2 : Nat) : Int)) (fun _ => ((2 : Nat) : Int))) (lmR 1 1) ((1 : Int).toNat)) (fun j => elP 2 (lt [1, 2]) (exG 1 j)) (fun j => elP 2 (lt [3, 4]) (exG 1 j))
def jw2Q : Nat -> Nat := wvF (lmN (lmS 1 (fun _ => ((2 : Nat) : Int)) (fun _ => ((2 : Nat) : Int))) (lmR 1 1) ((1 : Int).toNat)) (lmN (lmS 1 (fun _ => ((2 : Nat) : Int)) (fun _ => ((2 : Nat) : Int))) (lmR 1 1) ((1 : Int).toNat)) (fun j => elQ 2 (fun _ => 1) (exG 1 j)) (fun j => elQ 2 (fun _ => 1) (exG 1 j))
theorem less4 {p : Nat -> Prop} (h0 : p 0) (h1 : p 1) (h2 : p 2) (h3 : p 3) : ∀ j, j < 4 -> p j
 | 0, _ => h0
 | 1, _ => h1
 | 2, _ => h2
 | 3, _ => h3
 | n + 4, h => absurd h (by omega)
theorem pintsK {wz : World} {a : Option Addr} {c n : Nat} {l : List Int} (h : KRow wz .i64 a n c (lt l)) (h64 : l.all (fun x => decide (-9223372036854775808 <= x /\ x <= 9223372036854775807)) = true) (hn : n <= 1000000) :
    Calls Tryz.prog 33 #[.slice a n c] wz fun e w' => ∃ p, e = .returned (.agg p) /\ PlJ w' p l n /\ Below wz.heap.size wz w' :=
 (r6Ints_any a n c (lt l) wz h (lt64 h64 n) hn).mono (by
   intro e w' hq
   obtain ⟨p, he, _, hb⟩ := hq (fun _ => 0)
   refine ⟨p, he, fun T => ?_, hb⟩
   obtain ⟨p2, he2, h2, _⟩ := hq T
   rw [he] at he2
   injection he2 with he2
   injection he2 with he2
   rw [he2]
   exact h2)
theorem awake10_any (w : World) : Calls Tryz.prog 9 #[] w fun e w' => e = .returned (.bool true) /\ Below w.heap.size w w' := by
 have I3 : Hid (∀ wz, Calls Tryz.prog 31 #[.int .i64 3] wz fun e w' => ∃ x, e = .returned (.agg x) /\ Arr w' x (fun _ => 0) 0 false 1 (fun _ => 0) (fun _ => 3) (fun _ => 1) /\ Below wz.heap.size wz w') := Lib.hid (fun wz => (int8_any 3 wz (by omega)).mono (by
  rintro e w' ⟨x, he, h, hb⟩
  exact ⟨x, he, h _, hb⟩))
 have INa : Hid (∀ a c wz, KRow wz .i64 a 2 c (lt [1, 2]) -> Calls Tryz.prog 30 #[.slice a 2 c] wz fun e w' => ∃ x, e = .returned (.agg x) /\ Arr w' x (fun _ => ((2 : Nat) : Int)) 1 false 2 (fun _ => 0) (lt [1, 2]) (fun _ => 1) /\ Below wz.heap.size wz w') := Lib.hid (fun a c wz h => (ints8_any a 2 c (lt [1, 2]) wz h (lt64 (by decide) 2) (by omega)).mono (by
  rintro e w' ⟨x, he, h, hb⟩
  exact ⟨x, he, h _, hb⟩))
 have INb : Hid (∀ a c wz, KRow wz .i64 a 2 c (lt [3, 4]) -> Calls Tryz.prog 30 #[.slice a 2 c] wz fun e w' => ∃ x, e = .returned (.agg x) /\ Arr w' x (fun _ => ((2 : Nat) : Int)) 1 false 2 (fun _ => 0) (lt [3, 4]) (fun _ => 1) /\ Below wz.heap.size wz w') := Lib.hid (fun a c wz h => (ints8_any a 2 c (lt [3, 4]) wz h (lt64 (by decide) 2) (by omega)).mono (by
  rintro e w' ⟨x, he, h, hb⟩
  exact ⟨x, he, h _, hb⟩))
 have CT : Hid (∀ c0 c wz, Arr wz c0 (fun _ => ((2 : Nat) : Int)) 1 false 2 (fun _ => 0) (lt [1, 2]) (fun _ => 1) -> Arr wz c (fun _ => 0) 0 false 1 (fun _ => 0) (fun _ => 3) (fun _ => 1) -> Calls Tryz.prog 10 #[.agg c0, .agg c, .int .i64 (-1)] wz fun e w' => ∃ x, e = .returned (.tuple #[.agg x, .int .i64 0]) /\ Arr w' x jw1S 1 false 3 jw1g jw1P jw1Q /\ Below wz.heap.size wz w') := Lib.hid (fun c0 c wz h0 h =>
  (catenate_any c0 (fun _ => ((2 : Nat) : Int)) 1 false 2 (fun _ => 0) (lt [1, 2]) (fun _ => 1) c (fun _ => 0) 0 false 1 (fun _ => 0) (fun _ => 3) (fun _ => 1) (-1) wz h0 h (by decide) (by decide) (by decide) (by decide) (by omega)).mono (fun _ _ q => q.ok (by decide)))
 have LM : Hid (∀ c0 c wz, Arr wz c0 (fun _ => ((2 : Nat) : Int)) 1 false 2 (fun _ => 0) (lt [1, 2]) (fun _ => 1) -> Arr wz c (fun _ => ((2 : Nat) : Int)) 1 false 2 (fun _ => 0) (lt [3, 4]) (fun _ => 1) -> Calls Tryz.prog 14 #[.agg c0, .agg c, .int .i64 (1)] wz fun e w' => ∃ x, e = .returned (.tuple #[.agg x, .int .i64 0]) /\ Arr w' x jw2S 2 false 4 jw2g jw2P jw2Q /\ Below wz.heap.size wz w') := Lib.hid (fun c0 c wz h0 h =>
  (laminate_any c0 (fun _ => ((2 : Nat) : Int)) 1 false 2 (fun _ => 0) (lt [1, 2]) (fun _ => 1) c (fun _ => ((2 : Nat) : Int)) 1 false 2 (fun _ => 0) (lt [3, 4]) (fun _ => 1) (1) wz h0 h (by decide) (by decide) (by decide) (by decide) (by omega)).mono (fun _ _ q => q.ok (by decide)))
 have RI : Hid (∀ a c wz, KRow wz .i64 a 3 c (lt [1, 2, 3]) -> Calls Tryz.prog 33 #[.slice a 3 c] wz fun e w' => ∃ p, e = .returned (.agg p) /\ PlJ w' p [1, 2, 3] 3 /\ Below wz.heap.size wz w') := Lib.hid (fun a c wz h => pintsK h (by decide) (by omega))
 have SH : Hid (∀ wz x p, Arr wz x jw1S 1 false 3 jw1g jw1P jw1Q -> PlJ wz p [1, 2, 3] 3 -> Shown wz x p) := Lib.hid (fun wz x p h hp => shownJ h hp (by omega) (by decide) (less3 (by decide) (by decide) (by decide)))
 have SO := Lib.hid (fun cs p wz h => showsOkJ_any cs p wz h)
 have WH : Hid (∀ x wz, Arr wz x jw2S 2 false 4 jw2g jw2P jw2Q -> Calls Tryz.prog 32 #[.agg x] wz fun e w' => ∃ a c, e = .returned (.tuple #[.slice a 4 c, .bool true]) /\ KRow w' .i64 a 4 c jw2P /\ Below wz.heap.size wz w') := Lib.hid (fun x wz h => (whole8_any x jw2S 2 false 4 jw2g jw2P jw2Q wz h (fun _ j hj => less4 (p := fun j => 0 < jw2Q j) (by decide) (by decide) (by decide) (by decide) j hj) (by omega)).mono (by
  rw [show whC false 4 jw2P jw2Q = true by decide]
  rintro e w' ⟨a, m, c, rfl, ⟨rfl, hk⟩, hb⟩
  exact ⟨a, c, rfl, hk, hb⟩))
 have RK : Hid (∀ x wz, Arr wz x jw2S 2 false 4 jw2g jw2P jw2Q -> Calls Tryz.prog 34 #[.agg x] wz fun e w' => e = .returned (.int .i64 2) /\ Below wz.heap.size wz w') := Lib.hid (fun x wz h => rank8_any x jw2S 2 false 4 jw2g jw2P jw2Q wz h (by omega))
 have IS : Hid (∀ a c a2 c2 wz, KRow wz .i64 a 4 c jw2P -> KRow wz .i64 a2 4 c2 (lt [1, 3, 2, 4]) -> Calls Tryz.prog 35 #[.slice a 4 c, .slice a2 4 c2] wz fun e w' => e = .returned (.bool true) /\ Below wz.heap.size wz w') := Lib.hid (fun a c a2 c2 wz h h2 => by
  have := r6Same_any a 4 c jw2P a2 4 c2 (lt [1, 3, 2, 4]) wz h h2
  rw [decide_eq_true rfl, show sameB jw2P (lt [1, 3, 2, 4]) 4 = true by decide] at this
  exact this)
 go_enter Tryz.func9, Tryz.ntmps9
 go_wp2_with fail
 have B9 := Lib.hid (((Bag.start w).alloc (.cells #[.int .i64 1, .int .i64 2] 3)).krow (KRow.lits w [1, 2] 3 (by decide) rfl))
 go_at_call 30
 (refine (INa.out _ _ _ B9.out.now.1).mono ?_)
 rintro e wa ⟨xa, rfl, ha, hba⟩
 have B9 := Lib.hid ((Bag.fresh (B9.out.go hba).below).arr ha)
 clear ha hba
 go_wp2_with fail
 go_at_call 31
 (refine (I3.out _).mono ?_)
 rintro e wb ⟨xb, rfl, hb, hbb⟩
 have B9 := Lib.hid ((B9.out.go hbb).arr hb)
 clear hb hbb
 go_wp2_with fail
 go_at_call 10
 (refine (CT.out _ _ _ B9.out.now.2.1 B9.out.now.1).mono ?_)
 rintro e W1 ⟨x1, rfl, h1, hb1⟩
 have HB1 := Lib.hid (B9.out.go hb1).below
 have HA1 := Lib.hid h1
 obtain ⟨n1, m1, d1, u1, v1, y1, hx1, _⟩ := h1.form
 have hx1 : _ = (arrC false 0 (dm jw1S 1) n1 m1 d1 u1 v1 y1) := hx1
 subst hx1
 clear h1 hb1 B9
 have BB := Lib.hid (((Bag.fresh HB1.out).arr HA1.out).newRow (arrC false 0 (dm jw1S 1) n1 m1 d1 u1 v1 y1) 32)
 have B9 := Lib.hid ((BB.out.alloc (.cells #[.int .i64 1, .int .i64 2] 3)).krow (KRow.lits (W1.alloc (.cells (arrC false 0 (dm jw1S 1) n1 m1 d1 u1 v1 y1) 32)) [1, 2] 3 (by decide) rfl))
 simp only [World.size_alloc] at B9
 clear HB1 HA1 BB
 unfold arrC
 unfold arrC at B9
 go_wp2_with fail
 go_at_call 30
 (refine (INa.out _ _ _ B9.out.now.1).mono ?_)
 rintro e wc ⟨xc, rfl, hc, hbc⟩
 have BB := Lib.hid (show Bag w (fun y => Row y W1.heap.size 32 (arrC false 0 (dm jw1S 1) n1 m1 d1 u1 v1 y1) /\ Arr y (arrC false 0 (dm jw1S 1) n1 m1 d1 u1 v1 y1) jw1S 1 false 3 jw1g jw1P jw1Q /\ Arr y xc (fun _ => ((2 : Nat) : Int)) 1 false 2 (fun _ => 0) (lt [1, 2]) (fun _ => 1)) wc from ⟨(B9.out.go hbc).below, fun a b hb ⟨q1, q2, q3⟩ => ⟨q1.below hb, q2.below hb, q3.below hb⟩, (B9.out.go hbc).now.2.1, (B9.out.go hbc).now.2.2.1, hc⟩)
 have B9 := Lib.hid ((BB.out.alloc (.cells #[.int .i64 3, .int .i64 4] 3)).krow (KRow.lits wc [3, 4] 3 (by decide) rfl))
 clear hc hbc BB
 unfold arrC at B9
 go_wp2_with fail
 go_at_call 30
 (refine (INb.out _ _ _ B9.out.now.1).mono ?_)
 rintro e wd ⟨xd, rfl, hd, hbd⟩
 have B9 := Lib.hid ((B9.out.go hbd).arr hd)
 clear hd hbd
 go_wp2_with fail
 go_at_call 14
 (refine (LM.out _ _ _ B9.out.now.2.2.2.2 B9.out.now.1).mono ?_)
 rintro e W2 ⟨x2, rfl, h2, hb2⟩
 have BB := Lib.hid (B9.out.go hb2)
 have HA2 := Lib.hid h2
 obtain ⟨n2, m2, d2, u2, v2, y2, hx2, _⟩ := h2.form
 have hx2 : _ = (arrC false 1 (dm jw2S 2) n2 m2 d2 u2 v2 y2) := hx2
 subst hx2
 clear h2 hb2 B9
 have B9 := Lib.hid (show Bag w (fun y => Row y W1.heap.size 32 (arrC false 0 (dm jw1S 1) n1 m1 d1 u1 v1 y1) /\ Arr y (arrC false 0 (dm jw1S 1) n1 m1 d1 u1 v1 y1) jw1S 1 false 3 jw1g jw1P jw1Q /\ Row y W2.heap.size 32 (arrC false 1 (dm jw2S 2) n2 m2 d2 u2 v2 y2) /\ Arr y (arrC false 1 (dm jw2S 2) n2 m2 d2 u2 v2 y2) jw2S 2 false 4 jw2g jw2P jw2Q) (W2.alloc (.cells (arrC false 1 (dm jw2S 2) n2 m2 d2 u2 v2 y2) 32)) from ⟨(BB.out.alloc _).below, fun a b hb ⟨q1, q2, q3, q4⟩ => ⟨q1.below hb, q2.below hb, q3.below hb, q4.below hb⟩, (BB.out.alloc _).now.2.2.1, (BB.out.alloc _).now.2.2.2.1, Row.new _ _ _, HA2.out.below ((Below.refl _ _).alloc (Nat.le_refl _) _)⟩)
 have HR2 := Lib.hid B9.out.now.2.2.1
 clear BB HA2
 unfold arrC at B9 HR2
 unfold arrC
 go_wp2_with (refine ld_arr rfl (.tmp 3) rfl W2.heap.size rfl HR2.out ?_)
 go_at_call 32
 (with_reducible refine (WH.out _ _ ?_).mono ?_)
 · exact B9.out.now.2.2.2
 rintro e Y4 ⟨al, cl, rfl, hkl, hbl⟩
 have hll := hkl.len
 have BB := Lib.hid (B9.out.go hbl)
 have RW1 : Hid (∀ yz, Below Y4.heap.size Y4 yz -> Row yz W1.heap.size 32 (arrC false 0 (dm jw1S 1) n1 m1 d1 u1 v1 y1)) := Lib.hid (fun yz hb => Row.below BB.out.now.1 hb)
 have A1 : Hid (∀ yz, Below Y4.heap.size Y4 yz -> Arr yz (arrC false 0 (dm jw1S 1) n1 m1 d1 u1 v1 y1) jw1S 1 false 3 jw1g jw1P jw1Q) := Lib.hid (fun yz hb => Arr.below BB.out.now.2.1 hb)
 have RW2 : Hid (∀ yz, Below Y4.heap.size Y4 yz -> Row yz W2.heap.size 32 (arrC false 1 (dm jw2S 2) n2 m2 d2 u2 v2 y2)) := Lib.hid (fun yz hb => Row.below BB.out.now.2.2.1 hb)
 have A2 : Hid (∀ yz, Below Y4.heap.size Y4 yz -> Arr yz (arrC false 1 (dm jw2S 2) n2 m2 d2 u2 v2 y2) jw2S 2 false 4 jw2g jw2P jw2Q) := Lib.hid (fun yz hb => Arr.below BB.out.now.2.2.2 hb)
 have KL : Hid (∀ yz, Below Y4.heap.size Y4 yz -> KRow yz .i64 al 4 cl jw2P) := Lib.hid (fun yz hb => KRow.below hkl hb)
 have SZ1 : Hid (IsA (arrC false 0 (dm jw1S 1) n1 m1 d1 u1 v1 y1)) := Lib.hid ⟨_, _, _, _, _, _, _, _, _, rfl⟩
 have SZ2 : Hid (IsA (arrC false 1 (dm jw2S 2) n2 m2 d2 u2 v2 y2)) := Lib.hid ⟨_, _, _, _, _, _, _, _, _, rfl⟩
 have BB := Lib.hid (Bag.fresh BB.out.below)
 clear hkl hbl B9 HR2
 go_wp2_with fail
 generalize (arrC false 0 (dm jw1S 1) n1 m1 d1 u1 v1 y1) = X1 at RW1 A1 SZ1
 generalize (arrC false 1 (dm jw2S 2) n2 m2 d2 u2 v2 y2) = X2 at RW2 A2 SZ2
 refine wp_region_inv2 ⟨(fun j => ([[27], [28], [29], [30], [31], [32], [33], [34], [35], [36], [37], [38], [39], [40], [41], [42], [43], [44], [45], [46], [47], [48], [0]] : List (List Nat)).getD j []), (fun j => ([[], [], [], [2], [0, 1, 2, 3], [0, 1, 2, 3, 4], [0, 1, 2, 3, 4, 5], [0, 1, 2, 3, 4, 5, 6], [0, 1, 2, 3, 4, 5, 6, 7], [0, 1, 2, 3, 4, 5, 6, 7, 8], [0, 1, 2, 3, 4, 5, 6, 7, 8, 9], [0, 1, 2, 3, 4, 5, 6, 7, 8, 9, 10], [0, 1, 2, 3, 4, 5, 6, 7, 8, 9, 10, 11], [0, 1, 2, 3, 4, 5, 6, 7, 8, 9, 10, 11, 12], [0, 1, 2, 3, 4, 5, 6, 7, 8, 9, 10, 11, 12, 13], [0, 1, 2, 3, 4, 5, 6, 7, 8, 9, 10, 11, 12, 13, 14], [0, 1, 2, 3, 4, 5, 6, 7, 8, 9, 10, 11, 12, 13, 14, 15], [0, 1, 2, 3, 4, 5, 6, 7, 8, 9, 10, 11, 12, 13, 14, 15, 16], [0, 1, 2, 3, 4, 5, 6, 7, 8, 9, 10, 11, 12, 13, 14, 15, 16, 17], [0, 1, 2, 3, 4, 5, 6, 7, 8, 9, 10, 11, 12, 13, 14, 15, 16, 17], [0, 1, 2, 3, 4, 5, 6, 7, 8, 9, 10, 11, 12, 13, 14, 15, 16, 17, 18, 19], [0, 1, 2, 3, 4, 5, 6, 7, 8, 9, 10, 11, 12, 13, 14, 15, 16, 17, 18, 19, 20], [0, 1, 2, 3, 4, 5, 6, 7, 8, 9, 10, 11, 12, 13, 14, 15, 16, 17, 18, 19, 20, 21]] : List (List Nat)).getD j []), [2, 19]⟩ (fun jj vv yy => match jj with | 0 => vv = [some (.agg X1)] | 1 => vv = [some (.int .i64 0)] | 2 => ∃ (k2 : Nat), vv = [some (.slice (some ⟨k2, 0, none⟩) 3 3)] /\ KRow yy .i64 (some ⟨k2, 0, none⟩) 3 3 (lt [1, 2, 3]) | 3 => ∃ (x3 : Array Value), vv = [some (.agg x3)] /\ PlJ yy x3 [1, 2, 3] 3 | 4 => vv = [some (.bool true)] | 5 => vv = [some (.bool true)] | 6 => vv = [some (.int .i64 0)] | 7 => vv = [some (.bool true)] | 8 => vv = [some (.bool true)] | 9 => vv = [some (.bool true)] | 10 => vv = [some (.bool true)] | 11 => vv = [some (.bool true)] | 12 => vv = [some (.bool true)] | 13 => vv = [some (.agg X2)] | 14 => vv = [some (.int .i64 2)] | 15 => vv = [some (.bool true)] | 16 => vv = [some (.bool true)] | 17 => vv = [some (.bool true)] | 18 => vv = [some (.slice al 4 cl)] | 19 => ∃ (k19 : Nat), vv = [some (.slice (some ⟨k19, 0, none⟩) 4 4)] /\ KRow yy .i64 (some ⟨k19, 0, none⟩) 4 4 (lt [1, 3, 2, 4]) | 20 => vv = [some (.bool true)] | 21 => vv = [some (.bool true)] | 22 => vv = [some (.bool true)] | _ => True) (Bag Y4 (fun _ => True)) (by kernel_rfl) (by kernel_rfl) (by kernel_rfl) (Bag.start Y4).drew ?_ ?_ ?_
 · intro jj vv yw yw2 hb h
   match jj, h with
   | 0, h => exact h
   | 1, h => exact h
   | 2, ⟨k2, e2, g2_0⟩ => exact Exists.intro k2 (And.intro e2 (g2_0.below hb))
   | 3, ⟨x3, e3, g3_0⟩ => exact Exists.intro x3 (And.intro e3 (g3_0.below hb))
   | 4, h => exact h
   | 5, h => exact h
   | 6, h => exact h
   | 7, h => exact h
   | 8, h => exact h
   | 9, h => exact h
   | 10, h => exact h
   | 11, h => exact h
   | 12, h => exact h
   | 13, h => exact h
   | 14, h => exact h
   | 15, h => exact h
   | 16, h => exact h
   | 17, h => exact h
   | 18, h => exact h
   | 19, ⟨k19, e19, g19_0⟩ => exact Exists.intro k19 (And.intro e19 (g19_0.below hb))
   | 20, h => exact h
   | 21, h => exact h
   | 22, h => exact h
   | _ + 23, h => exact h
 · intro ac yw hsz hdf hold hB hp
   have t0 : ac.tmps[0]? = some (.bool true) := (List.cons.inj (hp 22 (by decide))).1
   have HE := Lib.hid (BB.out.go hB.below).below
   clear hold hp
   obtain ⟨TV, hTV⟩ : ∃ TV : Nat -> Value, ∀ i, (ac.tmps[i]?).getD undef = TV i := ⟨_, fun _ => rfl⟩
   have f0 := (hTV 0).symm.trans (congrArg (fun x => Option.getD x undef) t0)
   have hac := act_eq (n := 49) hsz TV hTV
   rw [show ((List.range 49).map TV).toArray = #[TV 0, TV 1, TV 2, TV 3, TV 4, TV 5, TV 6, TV 7, TV 8, TV 9, TV 10, TV 11, TV 12, TV 13, TV 14, TV 15, TV 16, TV 17, TV 18, TV 19, TV 20, TV 21, TV 22, TV 23, TV 24, TV 25, TV 26, TV 27, TV 28, TV 29, TV 30, TV 31, TV 32, TV 33, TV 34, TV 35, TV 36, TV 37, TV 38, TV 39, TV 40, TV 41, TV 42, TV 43, TV 44, TV 45, TV 46, TV 47, TV 48] from rfl, f0, hdf] at hac
   simp only [Option.getD_some] at hac
   subst hac
   clear hTV f0
   go_wp2
   go_ret
   exact ⟨rfl, HE.out⟩
 refine Stps2.cons (o := _) ?_ ?_
 · intro ac yw hsz hold hB hp K hK
   have t1 : ac.tmps[1]? = some (.pointer (some ⟨W1.heap.size, 0, none⟩)) := hold 1 (by kernel_rfl)
   clear hold hp hsz
   rw [if_pos (by rfl)]
   refine ld8 1 rfl (W1.heap.size) (X1) t1 (RW1.out _ hB.below) (SZ1.out.size) ?_
   exact hK.out _ _ ⟨hB, rfl, Nat.le_refl _, .inl (Below.refl _ _), fun h => absurd h (by decide)⟩
 refine Stps2.cons (o := _) ?_ ?_
 · intro ac yw hsz hold hB hp K hK
   have t2 : ac.tmps[2]? = some (.int .i64 0) := hold 2 (by kernel_rfl)
   clear hold hp hsz
   go_simp
   exact hK.out _ _ ⟨hB, rfl, Nat.le_refl _, .inl (Below.refl _ _), fun h => absurd h (by decide)⟩
 refine Stps2.cons (o := _) ?_ ?_
 · intro ac yw hsz hold hB hp K hK
   clear hold hp hsz
   have hbz : Below yw.heap.size yw (yw.alloc (.cells #[.int .i64 1, .int .i64 2, .int .i64 3] 3)) /\ yw.heap.size < (yw.alloc (.cells #[.int .i64 1, .int .i64 2, .int .i64 3] 3)).heap.size := ⟨(Below.refl _ _).alloc (Nat.le_refl _) _, by rw [World.size_alloc]; omega⟩
   have kz : KRow (yw.alloc (.cells #[.int .i64 1, .int .i64 2, .int .i64 3] 3)) .i64 (some ⟨yw.heap.size, 0, none⟩) 3 3 (lt [1, 2, 3]) := KRow.lits yw [1, 2, 3] 3 (by decide) rfl
   go_simp
   exact hK.out _ _ ⟨hB.alloc _, Exists.intro yw.heap.size (And.intro rfl kz), Nat.le_of_lt hbz.2, .inl hbz.1, fun _ => ⟨_, rfl, Nat.le_refl _, hbz.2⟩⟩
 refine Stps2.cons (o := _) ?_ ?_
 · intro ac yw hsz hold hB hp K hK
   obtain ⟨k2_2, e2, g2_0⟩ := hp 2 (by decide)
   have t29 : ac.tmps[29]? = some (.slice (some ⟨k2_2, 0, none⟩) 3 3) := (List.cons.inj e2).1
   clear hold hp hsz e2
   go_simp
   (go_at_call 33; (with_reducible refine (RI.out _ _ _ g2_0).mono ?_); rintro e wz ⟨x3, rfl, h3_0, hbz⟩)
   exact hK.out _ _ ⟨hB.go hbz, Exists.intro x3 (And.intro rfl h3_0), hbz.size, .inl hbz, fun h => absurd h (by decide)⟩
 refine Stps2.cons (o := _) ?_ ?_
 · intro ac yw hsz hold hB hp K hK
   have e0 := hp 0 (by decide)
   have t27 : ac.tmps[27]? = some (.agg X1) := (List.cons.inj e0).1
   have e1 := hp 1 (by decide)
   have t28 : ac.tmps[28]? = some (.int .i64 0) := (List.cons.inj e1).1
   obtain ⟨x3_3, e3, g3_0⟩ := hp 3 (by decide)
   have t30 : ac.tmps[30]? = some (.agg x3_3) := (List.cons.inj e3).1
   clear hold hp hsz e0 e1 e3
   go_simp
   (go_at_call 13; (with_reducible refine (SO.out _ _ _ (SH.out _ _ _ (A1.out _ hB.below) g3_0)).mono ?_); rintro e wz ⟨rfl, hbz⟩)
   exact hK.out _ _ ⟨hB.go hbz, rfl, hbz.size, .inl hbz, fun h => absurd h (by decide)⟩
 refine Stps2.cons (o := _) ?_ ?_
 · intro ac yw hsz hold hB hp K hK
   have e4 := hp 4 (by decide)
   have t31 : ac.tmps[31]? = some (.bool true) := (List.cons.inj e4).1
   clear hold hp hsz e4
   go_simp
   exact hK.out _ _ ⟨hB, rfl, Nat.le_refl _, .inl (Below.refl _ _), fun h => absurd h (by decide)⟩
 refine Stps2.cons (o := _) ?_ ?_
 · intro ac yw hsz hold hB hp K hK
   have t32 : ac.tmps[32]? = some (.bool true) := (List.cons.inj (hp 5 (by decide))).1
   rw [if_pos (wanted_pos rfl rfl t32)]
   have t4 : ac.tmps[4]? = some (.int .i64 0) := hold 4 (by kernel_rfl)
   clear hold hp hsz
   go_simp
   exact hK.out _ _ ⟨hB, rfl, Nat.le_refl _, .inl (Below.refl _ _), fun h => absurd h (by decide)⟩
 refine Stps2.cons (o := _) ?_ ?_
 · intro ac yw hsz hold hB hp K hK
   have t32 : ac.tmps[32]? = some (.bool true) := (List.cons.inj (hp 5 (by decide))).1
   rw [if_pos (wanted_pos rfl rfl t32)]
   have e6 := hp 6 (by decide)
   have t33 : ac.tmps[33]? = some (.int .i64 0) := (List.cons.inj e6).1
   clear hold hp hsz e6
   go_simp
   exact hK.out _ _ ⟨hB, rfl, Nat.le_refl _, .inl (Below.refl _ _), fun h => absurd h (by decide)⟩
 refine Stps2.cons (o := _) ?_ ?_
 · intro ac yw hsz hold hB hp K hK
   have e5 := hp 5 (by decide)
   have t32 : ac.tmps[32]? = some (.bool true) := (List.cons.inj e5).1
   have e7 := hp 7 (by decide)
   have t34 : ac.tmps[34]? = some (.bool true) := (List.cons.inj e7).1
   clear hold hp hsz e5 e7
   go_simp
   exact hK.out _ _ ⟨hB, rfl, Nat.le_refl _, .inl (Below.refl _ _), fun h => absurd h (by decide)⟩
 refine Stps2.cons (o := _) ?_ ?_
 · intro ac yw hsz hold hB hp K hK
   have e8 := hp 8 (by decide)
   have t35 : ac.tmps[35]? = some (.bool true) := (List.cons.inj e8).1
   clear hold hp hsz e8
   go_simp
   exact hK.out _ _ ⟨hB, rfl, Nat.le_refl _, .inl (Below.refl _ _), fun h => absurd h (by decide)⟩
 refine Stps2.cons (o := _) ?_ ?_
 · intro ac yw hsz hold hB hp K hK
   have t36 : ac.tmps[36]? = some (.bool true) := (List.cons.inj (hp 9 (by decide))).1
   rw [if_pos (wanted_pos rfl rfl t36)]
   have t6 : ac.tmps[6]? = some (.bool true) := hold 6 (by kernel_rfl)
   clear hold hp hsz
   go_simp
   exact hK.out _ _ ⟨hB, rfl, Nat.le_refl _, .inl (Below.refl _ _), fun h => absurd h (by decide)⟩
 refine Stps2.cons (o := _) ?_ ?_
 · intro ac yw hsz hold hB hp K hK
   have e9 := hp 9 (by decide)
   have t36 : ac.tmps[36]? = some (.bool true) := (List.cons.inj e9).1
   have e10 := hp 10 (by decide)
   have t37 : ac.tmps[37]? = some (.bool true) := (List.cons.inj e10).1
   clear hold hp hsz e9 e10
   go_simp
   exact hK.out _ _ ⟨hB, rfl, Nat.le_refl _, .inl (Below.refl _ _), fun h => absurd h (by decide)⟩
 refine Stps2.cons (o := _) ?_ ?_
 · intro ac yw hsz hold hB hp K hK
   have e11 := hp 11 (by decide)
   have t38 : ac.tmps[38]? = some (.bool true) := (List.cons.inj e11).1
   clear hold hp hsz e11
   go_simp
   exact hK.out _ _ ⟨hB, rfl, Nat.le_refl _, .inl (Below.refl _ _), fun h => absurd h (by decide)⟩
 refine Stps2.cons (o := _) ?_ ?_
 · intro ac yw hsz hold hB hp K hK
   have t39 : ac.tmps[39]? = some (.bool true) := (List.cons.inj (hp 12 (by decide))).1
   rw [if_pos (wanted_pos rfl rfl t39)]
   have t3 : ac.tmps[3]? = some (.pointer (some ⟨W2.heap.size, 0, none⟩)) := hold 3 (by kernel_rfl)
   clear hold hp hsz
   refine ld8 3 rfl (W2.heap.size) (X2) t3 (RW2.out _ hB.below) (SZ2.out.size) ?_
   exact hK.out _ _ ⟨hB, rfl, Nat.le_refl _, .inl (Below.refl _ _), fun h => absurd h (by decide)⟩
 refine Stps2.cons (o := _) ?_ ?_
 · intro ac yw hsz hold hB hp K hK
   have t39 : ac.tmps[39]? = some (.bool true) := (List.cons.inj (hp 12 (by decide))).1
   rw [if_pos (wanted_pos rfl rfl t39)]
   have e13 := hp 13 (by decide)
   have t40 : ac.tmps[40]? = some (.agg X2) := (List.cons.inj e13).1
   clear hold hp hsz e13
   go_simp
   (go_at_call 34; (with_reducible refine (RK.out _ _ (A2.out _ hB.below)).mono ?_); rintro e wz ⟨rfl, hbz⟩)
   exact hK.out _ _ ⟨hB.go hbz, rfl, hbz.size, .inl hbz, fun h => absurd h (by decide)⟩
 refine Stps2.cons (o := _) ?_ ?_
 · intro ac yw hsz hold hB hp K hK
   have t39 : ac.tmps[39]? = some (.bool true) := (List.cons.inj (hp 12 (by decide))).1
   rw [if_pos (wanted_pos rfl rfl t39)]
   have e14 := hp 14 (by decide)
   have t41 : ac.tmps[41]? = some (.int .i64 2) := (List.cons.inj e14).1
   clear hold hp hsz e14
   go_simp
   exact hK.out _ _ ⟨hB, rfl, Nat.le_refl _, .inl (Below.refl _ _), fun h => absurd h (by decide)⟩
 refine Stps2.cons (o := _) ?_ ?_
 · intro ac yw hsz hold hB hp K hK
   have e12 := hp 12 (by decide)
   have t39 : ac.tmps[39]? = some (.bool true) := (List.cons.inj e12).1
   have e15 := hp 15 (by decide)
   have t42 : ac.tmps[42]? = some (.bool true) := (List.cons.inj e15).1
   clear hold hp hsz e12 e15
   go_simp
   exact hK.out _ _ ⟨hB, rfl, Nat.le_refl _, .inl (Below.refl _ _), fun h => absurd h (by decide)⟩
 refine Stps2.cons (o := _) ?_ ?_
 · intro ac yw hsz hold hB hp K hK
   have e16 := hp 16 (by decide)
   have t43 : ac.tmps[43]? = some (.bool true) := (List.cons.inj e16).1
   clear hold hp hsz e16
   go_simp
   exact hK.out _ _ ⟨hB, rfl, Nat.le_refl _, .inl (Below.refl _ _), fun h => absurd h (by decide)⟩
 refine Stps2.cons (o := _) ?_ ?_
 · intro ac yw hsz hold hB hp K hK
   have t44 : ac.tmps[44]? = some (.bool true) := (List.cons.inj (hp 17 (by decide))).1
   rw [if_pos (wanted_pos rfl rfl t44)]
   have t5 : ac.tmps[5]? = some (.slice al 4 cl) := hold 5 (by kernel_rfl)
   clear hold hp hsz
   go_simp
   exact hK.out _ _ ⟨hB, rfl, Nat.le_refl _, .inl (Below.refl _ _), fun h => absurd h (by decide)⟩
 refine Stps2.cons (o := _) ?_ ?_
 · intro ac yw hsz hold hB hp K hK
   have t44 : ac.tmps[44]? = some (.bool true) := (List.cons.inj (hp 17 (by decide))).1
   rw [if_pos (wanted_pos rfl rfl t44)]
   clear hold hp hsz
   have hbz : Below yw.heap.size yw (yw.alloc (.cells #[.int .i64 1, .int .i64 3, .int .i64 2, .int .i64 4] 3)) /\ yw.heap.size < (yw.alloc (.cells #[.int .i64 1, .int .i64 3, .int .i64 2, .int .i64 4] 3)).heap.size := ⟨(Below.refl _ _).alloc (Nat.le_refl _) _, by rw [World.size_alloc]; omega⟩
   have kz : KRow (yw.alloc (.cells #[.int .i64 1, .int .i64 3, .int .i64 2, .int .i64 4] 3)) .i64 (some ⟨yw.heap.size, 0, none⟩) 4 4 (lt [1, 3, 2, 4]) := KRow.lits yw [1, 3, 2, 4] 3 (by decide) rfl
   go_simp
   exact hK.out _ _ ⟨hB.alloc _, Exists.intro yw.heap.size (And.intro rfl kz), Nat.le_of_lt hbz.2, .inl hbz.1, fun _ => ⟨_, rfl, Nat.le_refl _, hbz.2⟩⟩
 refine Stps2.cons (o := _) ?_ ?_
 · intro ac yw hsz hold hB hp K hK
   have t44 : ac.tmps[44]? = some (.bool true) := (List.cons.inj (hp 17 (by decide))).1
   rw [if_pos (wanted_pos rfl rfl t44)]
   have e18 := hp 18 (by decide)
   have t45 : ac.tmps[45]? = some (.slice al 4 cl) := (List.cons.inj e18).1
   obtain ⟨k19_19, e19, g19_0⟩ := hp 19 (by decide)
   have t46 : ac.tmps[46]? = some (.slice (some ⟨k19_19, 0, none⟩) 4 4) := (List.cons.inj e19).1
   clear hold hp hsz e18 e19
   go_simp
   (go_at_call 35; (with_reducible refine (IS.out _ _ _ _ _ (KL.out _ hB.below) g19_0).mono ?_); rintro e wz ⟨rfl, hbz⟩)
   exact hK.out _ _ ⟨hB.go hbz, rfl, hbz.size, .inl hbz, fun h => absurd h (by decide)⟩
 refine Stps2.cons (o := _) ?_ ?_
 · intro ac yw hsz hold hB hp K hK
   have e17 := hp 17 (by decide)
   have t44 : ac.tmps[44]? = some (.bool true) := (List.cons.inj e17).1
   have e20 := hp 20 (by decide)
   have t47 : ac.tmps[47]? = some (.bool true) := (List.cons.inj e20).1
   clear hold hp hsz e17 e20
   go_simp
   exact hK.out _ _ ⟨hB, rfl, Nat.le_refl _, .inl (Below.refl _ _), fun h => absurd h (by decide)⟩
 refine Stps2.cons (o := _) ?_ ?_
 · intro ac yw hsz hold hB hp K hK
   have e21 := hp 21 (by decide)
   have t48 : ac.tmps[48]? = some (.bool true) := (List.cons.inj e21).1
   clear hold hp hsz e21
   go_simp
   exact hK.out _ _ ⟨hB, rfl, Nat.le_refl _, .inl (Below.refl _ _), fun h => absurd h (by decide)⟩
 exact Stps2.nil _
end Go.Proofs.YtdlccnmhcggjiaaGreatDoor
namespace Go.Proofs.YtdlccnmhcggjiaaGreatDoor
open Go.RowKit
theorem el_rel {S : Nat -> Int} {r : Nat} {ch : Bool} {L : Nat} {fB : Nat -> Bool} {fS fT : Nat -> ByteArray} (hG : Good S r ch L fB fS fT) (h : ch = false ∨ L = 0) (i : Int) :
    (0 < elQ L (gQ fB fS fT) i /\ (elP L (gP fB fS fT) i).natAbs < 4294967296 ^ 7 /\ elQ L (gQ fB fS fT) i < 4294967296 ^ 7) /\ (rB (elP L (gP fB fS fT) i) = elB L fB i /\ rS (elP L (gP fB fS fT) i) = elS L fS (rS 0) i /\ str (dec (elQ L (gQ fB fS fT) i)) = elS L fT (str (dec 1)) i) := by
 unfold elP elQ elB elS
 by_cases hi : 0 <= i /\ i < L
 · rw [if_pos hi, if_pos hi, if_pos hi, if_pos hi, if_pos hi]
   have hc : ch = false := h.resolve_right (by omega)
   have hj : i.toNat < L := by omega
   refine ⟨hG.small hc _ hj, hG.told _ ?_⟩
   rw [hc]
   exact hj
 · rw [if_neg hi, if_neg hi, if_neg hi, if_neg hi, if_neg hi]
   exact ⟨⟨Nat.one_pos, by decide, by decide⟩, rfl, rfl, rfl⟩
theorem kd_no {ch1 ch2 : Bool} {L1 L2 : Nat} (hb : kdB ch1 L1 ch2 L2 = true) (hc : kdC ch1 L1 ch2 L2 = false) : (ch1 = false ∨ L1 = 0) /\ (ch2 = false ∨ L2 = 0) := by
 unfold kdB at hb
 unfold kdC at hc
 rw [Bool.or_eq_true, Bool.or_eq_true, decide_eq_true_eq, decide_eq_true_eq, decide_eq_true_eq] at hb
 by_cases e : ch1 = ch2
 · rw [if_pos e] at hc
   exact ⟨.inl hc, .inl (e ▸ hc)⟩
 · rw [if_neg e] at hc
   by_cases e2 : L2 = 0
   · rw [if_pos e2] at hc
     exact ⟨.inl hc, .inr e2⟩
   · rw [if_neg e2] at hc
     exact ⟨.inr ((hb.resolve_left (fun h => h.elim e e2))), .inl hc⟩
theorem wv_same {S1 : Nat -> Int} {r1 : Nat} {ch1 : Bool} {L1 : Nat} {B1 : Nat -> Bool} {s1 t1 : Nat -> ByteArray} {S2 : Nat -> Int} {r2 : Nat} {ch2 : Bool} {L2 : Nat} {B2 : Nat -> Bool} {s2 t2 : Nat -> ByteArray} (h1 : Good S1 r1 ch1 L1 B1 s1 t1) (h2 : Good S2 r2 ch2 L2 B2 s2 t2) (hb : kdB ch1 L1 ch2 L2 = true) (N1 N2 M : Nat) (G1 G2 : Nat -> Int) :
    ElSame (kdC ch1 L1 ch2 L2) M (wvF N1 N2 (fun j => elP L1 (gP B1 s1 t1) (G1 j)) (fun j => elP L2 (gP B2 s2 t2) (G2 j))) (wvF N1 N2 (fun j => elQ L1 (gQ B1 s1 t1) (G1 j)) (fun j => elQ L2 (gQ B2 s2 t2) (G2 j)))
     (wvF N1 N2 (fun j => elB L1 B1 (G1 j)) (fun j => elB L2 B2 (G2 j))) (wvF N1 N2 (fun j => elS L1 s1 (rS 0) (G1 j)) (fun j => elS L2 s2 (rS 0) (G2 j))) (wvF N1 N2 (fun j => elS L1 t1 (str (dec 1)) (G1 j)) (fun j => elS L2 t2 (str (dec 1)) (G2 j))) := by
 have key : kdC ch1 L1 ch2 L2 = false -> ∀ j, (0 < wvF N1 N2 (fun j => elQ L1 (gQ B1 s1 t1) (G1 j)) (fun j => elQ L2 (gQ B2 s2 t2) (G2 j)) j /\ (wvF N1 N2 (fun j => elP L1 (gP B1 s1 t1) (G1 j)) (fun j => elP L2 (gP B2 s2 t2) (G2 j)) j).natAbs < 4294967296 ^ 7 /\ wvF N1 N2 (fun j => elQ L1 (gQ B1 s1 t1) (G1 j)) (fun j => elQ L2 (gQ B2 s2 t2) (G2 j)) j < 4294967296 ^ 7) /\
     (rB (wvF N1 N2 (fun j => elP L1 (gP B1 s1 t1) (G1 j)) (fun j => elP L2 (gP B2 s2 t2) (G2 j)) j) = wvF N1 N2 (fun j => elB L1 B1 (G1 j)) (fun j => elB L2 B2 (G2 j)) j /\ rS (wvF N1 N2 (fun j => elP L1 (gP B1 s1 t1) (G1 j)) (fun j => elP L2 (gP B2 s2 t2) (G2 j)) j) = wvF N1 N2 (fun j => elS L1 s1 (rS 0) (G1 j)) (fun j => elS L2 s2 (rS 0) (G2 j)) j /\
       str (dec (wvF N1 N2 (fun j => elQ L1 (gQ B1 s1 t1) (G1 j)) (fun j => elQ L2 (gQ B2 s2 t2) (G2 j)) j)) = wvF N1 N2 (fun j => elS L1 t1 (str (dec 1)) (G1 j)) (fun j => elS L2 t2 (str (dec 1)) (G2 j)) j) := fun hc j => by
  obtain ⟨k1, k2⟩ := kd_no hb hc
  unfold wvF
  by_cases e : j % (N1 + N2) < N1
  · rw [if_pos e, if_pos e, if_pos e, if_pos e, if_pos e]
    exact el_rel h1 k1 _
  · rw [if_neg e, if_neg e, if_neg e, if_neg e, if_neg e]
    exact el_rel h2 k2 _
 refine ⟨fun hc j _ => (key hc j).1, fun j hj => ?_⟩
 cases hc : kdC ch1 L1 ch2 L2 with
 | true => rw [hc] at hj; exact absurd hj (Nat.not_lt_zero _)
 | false => exact (key hc j).2
theorem pkE_zero {T : Nat -> Int} {r : Nat} (h : pkE T r = 0) : shB T r = true := by
 unfold pkE at h
 split at h
 · assumption
 · cases h
theorem jn_ok {kb : Bool} {r1 : Nat} {S1 : Nat -> Int} {r2 : Nat} {S2 : Nat -> Int} {i : Int} (h : jnE kb r1 S1 r2 S2 i = 0) : kb = true /\ shB (jnT r1 S1 r2 S2 (caK (grR r1 r2) i).toNat) (grR r1 r2) = true := by
 unfold jnE at h
 cases kb with
 | false => rw [if_pos rfl] at h; cases h
 | true =>
  rw [if_neg (by decide)] at h
  refine ⟨rfl, ?_⟩
  by_cases e1 : ((grR r1 r2 : Nat) : Int) <= caK (grR r1 r2) i
  · rw [if_pos e1] at h; cases h
  · rw [if_neg e1] at h
    by_cases e2 : exE r1 S1 (grR r1 r2) (grS r1 S1 r2 S2) (caK (grR r1 r2) i).toNat = 0
    · rw [if_pos e2] at h
      by_cases e3 : exE r2 S2 (grR r1 r2) (grS r1 S1 r2 S2) (caK (grR r1 r2) i).toNat = 0
      · rw [if_pos e3] at h; exact pkE_zero h
      · rw [if_neg e3] at h; exact absurd h e3
    · rw [if_neg e2] at h; exact absurd h e2
theorem showsM_any (x p : Array Value) (E : Int) (S : Nat -> Int) (r : Nat) (ch : Bool) (L : Nat) (g fP : Nat -> Int) (fQ : Nat -> Nat) (fB : Nat -> Bool) (fS fT : Nat -> ByteArray) (w : World) (h : MoR w x E S r ch L g fP fQ) (hp : PoR w p E S r ch L g fB fS fT) (hr : E = 0 -> (r <= 8 /\ L <= 1000000) /\ ElSame ch L fP fQ fB fS fT) :
    Calls Tryz.prog 13 #[.agg x, .int .i64 E, .agg p, .int .i64 E] w fun e w' => e = .returned (.bool true) /\ Below w.heap.size w w' := by
 by_cases hE : E = 0
 · exact showsJ_any x p E S r ch L g fP fQ fB fS fT w h hp (fun e => (hr e).1) (hr hE).2
 · rw [h.2.2 hE]
   obtain ⟨⟨sa, sn, sc, ch, ta, tn, tc, na, nn, nc, rfl⟩, _⟩ := hp
   exact showsNoJ_any E hE _ _ _ _ _ _ _ _ _ _ w
def sls (A : Nat -> Option Addr) (C : Nat -> Nat) (L : Nat) : Nat -> List Value
 | 0 => []
 | k + 1 => sls A C L k ++ [.slice (A k) L (C k)]
theorem sls_length (A : Nat -> Option Addr) (C : Nat -> Nat) (L : Nat) : ∀ k, (sls A C L k).length = k
 | 0 => rfl
 | k + 1 => by unfold sls; rw [List.length_append, sls_length A C L k]; rfl
theorem sls_get (A : Nat -> Option Addr) (C : Nat -> Nat) (L : Nat) : ∀ k j, j < k -> (sls A C L k)[j]? = some (.slice (A j) L (C j))
 | 0, j, h => absurd h (Nat.not_lt_zero _)
 | k + 1, j, h => by
  have hl := sls_length A C L k
  unfold sls
  rcases Nat.lt_or_ge j k with h1 | h1
  · rw [List.getElem?_append_left (by omega)]
    exact sls_get A C L k j h1
  · obtain rfl : j = k := by omega
    rw [List.getElem?_append_right (by omega), hl, Nat.sub_self]
    rfl
theorem sls_congr {A A' : Nat -> Option Addr} {C C' : Nat -> Nat} {L : Nat} : ∀ {n : Nat}, (∀ j, j < n -> A j = A' j /\ C j = C' j) -> sls A C L n = sls A' C' L n
 | 0, _ => rfl
 | n + 1, h => by unfold sls; rw [sls_congr (fun j hj => h j (by omega)), (h n (by omega)).1, (h n (by omega)).2]
theorem infoS : (Tryz.prog.info? 22).map (fun i => (i.zero, i.size, i.bytes)) = some (some (.slice none 0 0), 1, 24) := by kernel_rfl
def AllSt (y0 wr : World) (f : Nat -> Int) (i cnt : Nat) (v : Value) : Prop :=
 Below y0.heap.size y0 wr /\ ∃ A C, wr.ownsRow y0.heap.size 22 1 v cnt (sls A C (i + 1) cnt) /\ ∀ r, r < cnt -> KRow wr .i64 (A r) (i + 1) (C r) (dgs f (i + 1) (r : Nat)) /\ ∃ g, A r = some ⟨g, 0, none⟩
theorem AllSt.nought (y0 : World) (f : Nat -> Int) (i : Nat) : AllSt y0 y0 f i 0 (.slice none 0 0) := ⟨Below.refl _ _, fun _ => none, fun _ => 0, World.ownsRow_nil _ _ _ _, fun _ h => absurd h (Nat.not_lt_zero _)⟩
theorem AllSt.done {y0 wr : World} {f : Nat -> Int} {i cnt : Nat} {v : Value} (h : AllSt y0 wr f i cnt v) : ∃ la lc A C, v = .slice la cnt lc /\ LRow wr la cnt lc A (fun _ => i + 1) C (fun r => dgs f (i + 1) (r : Nat)) := by
 obtain ⟨_, A, C, ho, hk⟩ := h
 have hA : ∀ r, r < cnt -> A r ≠ none := fun r hr e => by
  obtain ⟨g, e2⟩ := (hk r hr).2
  rw [e] at e2
  cases e2
 rcases ho.2 with ⟨rfl, rfl⟩ | ⟨g, cap, cur, rfl, _, hh, h1, h2, _, _⟩
 · exact ⟨none, 0, A, C, rfl, Nat.le_refl _, Nat.zero_le _, .inl rfl⟩
 · refine ⟨some ⟨g, 0, none⟩, cap, A, C, rfl, h1, h2, .inr ⟨g, 0, rfl, Row.lt (t := 22) hh, fun j hj => ⟨?_, (hk j hj).1, fun e => absurd e (hA j hj)⟩⟩⟩
   have := ho.cells (g := g) rfl j _ (sls_get A C (i + 1) cnt j hj)
   rwa [show (⟨g, 0, none⟩ : Addr).add j = ⟨g, 0 + j, none⟩ by unfold Addr.add; split <;> simp_all] at this
theorem add_zero0 (g j : Nat) : (⟨g, 0, none⟩ : Addr).add j = ⟨g, 0 + j, none⟩ := by unfold Addr.add; split <;> simp_all
theorem all_step {y0 wr : World} {f : Nat -> Int} {i cnt k m : Nat} {v : Value} {ak : Option Addr} {ck : Nat} (h : AllSt y0 wr f i cnt v) (hk : KRow wr .i64 ak i ck (dgs f i (k : Nat))) (hn : ak = none -> ck = 0) (hi8 : i <= 8) (hcnt : cnt <= 5000) (hf : f i = ((f i).toNat : Nat)) (hm : m < (f i).toNat) (hc : cnt = k * (f i).toNat + m) :
    ∃ v1 y1, (Builtin.append_ #[22, 22] 22 #[.slice (some ⟨wr.heap.size, 0, none⟩) 0 0, .slice ak i ck]).run Tryz.prog (wr.alloc (.cells #[] 3)) = .ok v1 y1 /\
    ∃ a2 c2 y3, (Builtin.append_ #[22, 22] 22 #[v1, .slice (some ⟨y1.heap.size, 0, none⟩) 1 1]).run Tryz.prog (y1.alloc (.cells #[.int .i64 (m : Nat)] 3)) = .ok (.slice a2 (i + 1) c2) y3 /\
    ∃ v9 y5, (Builtin.append_ #[98, 98] 98 #[v, .slice (some ⟨y3.heap.size, 0, none⟩) 1 1]).run Tryz.prog (y3.alloc (.cells #[.slice a2 (i + 1) c2] 22)) = .ok v9 y5 /\ AllSt y0 y5 f i (cnt + 1) v9 := by
 obtain ⟨hbl, A, C, ho, hrows⟩ := h
 have hwr := hbl.size
 have g0 : Below wr.heap.size wr (wr.alloc (.cells #[] 3)) := (Below.refl _ _).alloc (Nat.le_refl _) _
 have o0 := World.ownsRow_lit (e := 3) (size := 1) wr #[] 0 (Nat.le_refl _) (Nat.zero_le _) rfl
 obtain ⟨v1, y1, r1, o1, q1⟩ := run_append_krow (w := wr.alloc (.cells #[] 3)) 22 wr.heap.size _ 0 _ o0 ak i ck _ (hk.below g0) hn (by omega) g0.size
 have g1 := g0.grown q1 g0.size (fun z hz => (o0.lt z hz).1)
 rw [Nat.zero_add, List.nil_append] at o1
 refine ⟨v1, y1, r1, ?_⟩
 have g2 : Below wr.heap.size wr (y1.alloc (.cells #[.int .i64 (m : Nat)] 3)) := g1.alloc g1.size _
 have o1' := own_below o1 ((Below.refl y1.heap.size y1).alloc (Nat.le_refl _) (.cells #[.int .i64 (m : Nat)] 3))
 have kone : KRow (y1.alloc (.cells #[.int .i64 (m : Nat)] 3)) .i64 (some ⟨y1.heap.size, 0, none⟩) 1 1 (fun _ => (m : Nat)) := by
  refine ⟨Nat.le_refl _, by unfold maxLen; omega, .inr ⟨_, 0, rfl, by simp, fun j hj => ?_⟩⟩
  obtain rfl : j = 0 := by omega
  exact (Row.new y1 3 #[.int .i64 (m : Nat)]).cell 0
 obtain ⟨v2, y3, r2, o2, q2⟩ := run_append_krow (w := y1.alloc (.cells #[.int .i64 (m : Nat)] 3)) 22 wr.heap.size _ i _ o1' (some ⟨y1.heap.size, 0, none⟩) 1 1 _ kone (fun e => by cases e) (by omega) g2.size
 have g3 := g2.grown q2 g2.size (fun z hz => (o1'.lt z hz).1)
 have hd : ∀ j, j < i + 1 -> app (dgs f i (k : Nat)) i (fun _ => (m : Nat)) j = dgs f (i + 1) (cnt : Nat) j := fun j hj => by
  have e0 : ((cnt : Nat) : Int) = (m : Nat) + f i * (k : Nat) := by rw [hc, hf]; simp [Int.mul_comm, Int.add_comm]
  have hfp : (0 : Int) < f i := by omega
  have e1 : ((cnt : Nat) : Int) % f i = m := by rw [e0, Int.add_mul_emod_self_left]; exact Int.emod_eq_of_lt (by omega) (by omega)
  have e2 : ((cnt : Nat) : Int) / f i = k := by rw [e0, Int.add_mul_ediv_left _ _ (by omega), Int.ediv_eq_zero_of_lt (by omega) (by omega), Int.zero_add]
  unfold app
  by_cases e : j < i
  · rw [if_pos e, dgs_low _ e, e2]
  · obtain rfl : j = i := by omega
    rw [if_neg e, dgs_top, e1]
 rw [← kcs_app, kcs_congr hd] at o2
 obtain ⟨a2, c2, rfl, hk2⟩ := KRow.of_own o2
 refine ⟨a2, c2, y3, r2, ?_⟩
 have g4 : Below wr.heap.size wr (y3.alloc (.cells #[.slice a2 (i + 1) c2] 22)) := g3.alloc g3.size _
 have ho4 := own_below ho g4
 obtain ⟨i0, hi, hz0, hz1, hz2⟩ := info_parts infoS
 obtain ⟨v9, y5, r3, o3, q3, _⟩ := run_append_own (P := Tryz.prog) (y3.alloc (.cells #[.slice a2 (i + 1) c2] 22)) y0.heap.size 98 98 22 i0 _ 1 24 Tryz.underlying98 hi hz0 hz1 hz2 rfl (by omega) v cnt _ ho4 ⟨y3.heap.size, 0, none⟩ 1 1 [.slice a2 (i + 1) c2] rfl (World.news_of_block (Row.new y3 22 #[.slice a2 (i + 1) c2])) (by intro u hu; simp at hu; subst hu; rfl) (by unfold maxLen; omega) (by omega) (Nat.le_trans hwr g4.size)
 refine ⟨v9, y5, r3, (hbl.trans (g4.mono hwr)).grown q3 (Nat.le_trans hwr g4.size) (fun z hz => (ho4.lt z hz).1), (fun r => if r = cnt then a2 else A r), (fun r => if r = cnt then c2 else C r), ?_, fun r hr => ?_⟩
 · show y5.ownsRow _ _ _ _ _ (sls _ _ (i + 1) cnt ++ [_])
   simp only [if_true]
   rw [sls_congr (A' := A) (C' := C) (fun j hj => ⟨if_neg (by omega), if_neg (by omega)⟩)]
   exact o3
 · have far : ∀ (ad : Option Addr) (cd : Nat) (h : Nat -> Int), KRow (y3.alloc (.cells #[.slice a2 (i + 1) c2] 22)) .i64 ad (i + 1) cd h -> (∀ b off, ad = some ⟨b, off, none⟩ -> v.ownBlock ≠ some b) -> KRow y5 .i64 ad (i + 1) cd h := fun ad cd h hkk hne => by
     refine ⟨hkk.1, hkk.2.1, hkk.2.2.imp id ?_⟩
     rintro ⟨b, off, rfl, hl, hcc⟩
     exact ⟨b, off, rfl, Nat.lt_of_lt_of_le hl q3.size, fun j hj => (World.cell?_of_block (a := ⟨b, off + j, none⟩) (q3.block b hl (fun e => hne b off rfl e.symm))).trans (hcc j hj)⟩
   by_cases e : r = cnt
   · subst e
     simp only [if_true]
     obtain ⟨gz, cz, ez, _, _⟩ := o2.form (show 0 < i + 1 by omega)
     injection ez with ez _ _
     refine ⟨far _ _ _ (hk2.below ((Below.refl y3.heap.size y3).alloc (Nat.le_refl _) _)) (fun b off e hb => ?_), gz, ez⟩
     have h1 := (ho.lt b hb).2
     subst e
     have h2 := (o2.lt b rfl).1
     omega
   · simp only [if_neg e]
     refine ⟨far _ _ _ ((hrows r (by omega)).1.below g4) (fun b off e2 hb => ?_), (hrows r (by omega)).2⟩
     obtain ⟨b', off', e3, hlb, hc3⟩ := (hrows r (by omega)).1.get (show 0 < i + 1 by omega)
     obtain ⟨gz, ez⟩ := (hrows r (by omega)).2
     rw [e2] at e3 ez
     cases e3
     cases ez
     rcases ho.2 with ⟨rfl, _⟩ | ⟨g, cap, cur, rfl, _, hh, _⟩
     · cases hb
     · have hgb : g = b := by simpa [Value.ownBlock] using hb
       subst hgb
       have h6 := ho.cells (g := g) rfl 0 _ (sls_get A C (i + 1) cnt 0 (by omega))
       rw [add_zero0, hc3] at h6
       cases h6
theorem r6All_any (a : Option Addr) (n c : Nat) (f : Nat -> Int) (M0 : Nat) (w : World) (h : KRow w .i64 a n c f) (hs : shB f n = true) (hM0 : itm f n = (M0 : Nat)) :
    Calls Tryz.prog 84 #[.slice a n c] w fun e w' => ∃ a' c' A C, e = .returned (.slice a' M0 c') /\ LRow w' a' M0 c' A (fun _ => n) C (fun r => dgs f n (r : Nat)) /\ Below w.heap.size w w' := by
 obtain ⟨h8, hax⟩ := sh_ax hs
 have hl := h.len
 have H := Lib.hid h
 have HAX := Lib.hid hax
 have H0 : Hid (itm f 0 = ((1 : Nat) : Int) /\ Below w.heap.size w ((w.alloc (.cells #[] 3)).alloc (.cells #[.slice (some ⟨w.heap.size, 0, none⟩) 0 0] 22)) /\ LRow ((w.alloc (.cells #[] 3)).alloc (.cells #[.slice (some ⟨w.heap.size, 0, none⟩) 0 0] 22)) (some ⟨w.heap.size + 1, 0, none⟩) 1 1 (fun _ => some ⟨w.heap.size, 0, none⟩) (fun _ => 0) (fun _ => 0) (fun r => dgs f 0 (r : Nat))) := Lib.hid (by
  have r1 := Row.new (w.alloc (.cells #[] 3)) 22 #[.slice (some ⟨w.heap.size, 0, none⟩) 0 0]
  rw [World.size_alloc] at r1
  refine ⟨rfl, ((Below.refl _ _).alloc (Nat.le_refl _) _).alloc (by simp) _, Nat.le_refl _, by unfold maxLen; omega, .inr ⟨_, 0, rfl, r1.lt, fun j hj => ?_⟩⟩
  obtain rfl : j = 0 := by omega
  exact ⟨r1.cell 0, KRow.nought _ _ _ _ (Nat.zero_le _) _, fun e => by cases e⟩)
 clear h hs hax
 go_enter Tryz.func84, Tryz.ntmps84
 go_wp2_with fail
 go_loopw [3, 4] (fun l j wr => ∃ (i M : Nat) (la : Option Addr) (lc : Nat), i <= n /\ j = .int .i64 i /\ l = .slice la M lc /\ Hid (itm f i = (M : Nat) /\ Below w.heap.size w wr /\ ∃ A C, LRow wr la M lc A (fun _ => i) C (fun r => dgs f i (r : Nat)))) (fun _ j _ => n - (intOf j).toNat)
 case atStart => exact ⟨0, 1, _, 1, by omega, rfl, rfl, H0.out.1, H0.out.2.1, _, _, H0.out.2.2⟩
 case round =>
  obtain ⟨i, M, la, lc, hi, rfl, rfl, hrel⟩ := hrel
  obtain ⟨hM, hbl, A, C, hL⟩ := hrel.out
  by_cases hlt : i < n
  · obtain ⟨F, hF⟩ : ∃ F, (f i).toNat = F := ⟨_, rfl⟩
    have hf0 := ax_nn HAX.out hlt
    have hfF : f i = (F : Nat) := by omega
    have hb1 := ax_bd (ax_le (show i + 1 <= n by omega) HAX.out)
    have hF4 : F <= 4096 := by
     have h2 := rm_pos f i
     have h3 : 1 * max (f i) 1 <= rm f i * max (f i) 1 := Int.mul_le_mul h2 (Int.le_refl _) (by omega) (by omega)
     have h4 : rm f (i + 1) = rm f i * max (f i) 1 := rfl
     omega
    have hMF : itm f (i + 1) = ((M * F : Nat) : Int) := by
     show itm f i * f i = _
     rw [hM, hfF, Int.natCast_mul]
    have hMF4 : M * F <= 4096 := by rw [hMF] at hb1; omega
    have HMF := Lib.hid (And.intro hMF hMF4)
    have HBL := Lib.hid hbl
    have HL := Lib.hid hL
    have HFF := Lib.hid (And.intro hF hfF)
    have hlen := hL.1
    have H1 := Lib.hid (AllSt.nought wr f i)
    have HK := Lib.hid (H.out.below hbl)
    have hml : M <= 9223372036854775807 := by have := hL.1; have := hL.2.1; unfold maxLen at this; omega
    clear hrel hbl hL hb1 hMF hMF4 hF hf0 hM
    have hwr := HBL.out.size
    obtain ⟨y0, hy0⟩ : ∃ y0, y0 = wr := ⟨_, rfl⟩
    subst hy0
    go_wp2_with fail
    go_loopw [5, 6] (fun v kk wk => ∃ (k : Nat) (v5 : Value), k <= M /\ kk = .int .i64 k /\ v5 = v /\ Hid (AllSt y0 wk f i (k * F) v5)) (fun _ kk _ => M - (intOf kk).toNat)
    case atStart => exact ⟨0, _, by omega, rfl, rfl, by rw [Nat.zero_mul]; exact H1.out⟩
    case round =>
     obtain ⟨k, v5, hk, rfl, hv5, hst⟩ := hrel
     subst hv5
     by_cases hkM : k < M
     · have HST := Lib.hid hst.out
       have hkF : k * F + F <= M * F := by
        have := Nat.mul_le_mul_right F (show k + 1 <= M by omega)
        rwa [Nat.add_mul, Nat.one_mul] at this
       have HKF := Lib.hid hkF
       clear hst hkF
       obtain ⟨y1, hy1⟩ : ∃ y1, y1 = wr := ⟨_, rfl⟩
       subst hy1
       go_wp2_with fail
       go_loopw [5, 7] (fun v mm wm => ∃ (m : Nat) (v6 : Value), m <= F /\ mm = .int .i64 m /\ v6 = v /\ Hid (AllSt y0 wm f i (k * F + m) v6)) (fun _ mm _ => F - (intOf mm).toNat)
       case atStart => exact ⟨0, _, by omega, rfl, rfl, HST.out⟩
       case round =>
        obtain ⟨m, v6, hm, rfl, hv6, hst⟩ := hrel
        subst hv6
        obtain ⟨b0, off0, hab, hb0, hc0⟩ := (HK.out.below hst.out.1).get hlt
        subst hab
        rw [HFF.out.2] at hc0
        by_cases hmF : m < F
        · have hL := HL.out
          obtain ⟨b, off, hlab, hb, hcl, hkr, hnn⟩ := (hL.below hst.out.1).get hkM
          subst hlab
          obtain ⟨v1, y2, r1, a2, c2, y3, r2, v9, y5, r3, hnew⟩ := all_step (m := m) (k := k) hst.out hkr hnn (by omega) (by have := HKF.out; have := HMF.out.2; omega) (by rw [HFF.out.1]; exact HFF.out.2) (by rw [HFF.out.1]; exact hmF) (by rw [HFF.out.1])
          have HN := Lib.hid hnew
          have d1 : (m : Int) < F := by omega
          have d2 : (m : Int) < 4096 := by omega
          clear hst hnew hL hkr hnn
          generalize A k = ak at *
          generalize C k = ck at *
          go_wp2_with (first
           | (at_builtin; refine Lib.wpList_append_run _ rfl (.tmp 35) (.tmp 39) 22 22 rfl _ _ rfl rfl _ _ r1 ?_)
           | (at_builtin; refine Lib.wpList_append_run _ rfl (.tmp 40) (.tmp 42) 22 22 rfl _ _ rfl rfl _ _ r2 ?_)
           | (at_builtin; refine Lib.wpList_append_run _ rfl (.tmp 34) (.tmp 44) 98 98 rfl _ _ rfl rfl _ _ r3 ?_))
          go_roundw
          case rel => exact ⟨m + 1, v9, by omega, by go_num, rfl, HN.out⟩
          case measure => simp [intOf]; omega
        · obtain rfl : m = F := by omega
          have HN : Hid (AllSt y0 wr f i ((k + 1) * m) v6) := Lib.hid (by rw [Nat.add_mul, Nat.one_mul]; exact hst.out)
          clear hst
          go_wp2
          go_roundw
          case rel => exact ⟨k + 1, v6, by omega, by go_num, rfl, HN.out⟩
          case measure => simp [intOf]; omega
     · obtain rfl : k = M := by omega
       obtain ⟨la2, lc2, A2, C2, hv, hL2⟩ := hst.out.done
       subst hv
       have HN : Hid (itm f (i + 1) = ((k * F : Nat) : Int) /\ Below w.heap.size w wr /\ ∃ A C, LRow wr la2 (k * F) lc2 A (fun _ => i + 1) C (fun r => dgs f (i + 1) (r : Nat))) := Lib.hid ⟨HMF.out.1, HBL.out.trans (hst.out.1.mono hwr), _, _, hL2⟩
       clear hst hL2
       go_wp2
       go_roundw
       case rel => exact ⟨i + 1, k * F, la2, lc2, by omega, by go_num, rfl, HN.out⟩
       case measure => simp [intOf]; omega
  · obtain rfl : i = n := by omega
    have hMM : M = M0 := by rw [hM0] at hM; omega
    subst hMM
    have HE : Hid (∃ A C, LRow wr la M lc A (fun _ => i) C (fun r => dgs f i (r : Nat))) := Lib.hid ⟨A, C, hL⟩
    have HBL := Lib.hid hbl
    clear hrel hbl hL hM
    go_wp2
    go_ret
    obtain ⟨A, C, hL⟩ := HE.out
    exact ⟨_, _, A, C, rfl, hL, HBL.out⟩
theorem Pln.on {w : World} {cs : Array Value} {S : Nat -> Int} {r : Nat} {ch : Bool} {L : Nat} {g g' : Nat -> Int} {fB fB' : Nat -> Bool} {fS fT fS' fT' : Nat -> ByteArray} (h : Pln w cs S r ch L g fB fS fT) (e0 : ∀ j, j < L -> g j = g' j) (e1 : ∀ j, j < L -> fB j = fB' j) (e2 : ∀ j, j < L -> fS j = fS' j) (e3 : ∀ j, j < L -> fT j = fT' j) : Pln w cs S r ch L g' fB' fS' fT' := by
 obtain ⟨sa, sc, ta, tc, na, nc, e, h1, h2, h3⟩ := h
 have hn := nnO_le ch L
 exact ⟨sa, sc, ta, tc, na, nc, e, h1, h2.congr (fun j hj => e0 j (by omega)), h3.congr (fun j hj => ⟨e1 j (by omega), e2 j (by omega), e3 j (by omega)⟩)⟩
theorem idx_new {wr : World} {a : Option Addr} {c m : Nat} {f : Nat -> Int} (h : KRow wr .i64 a m c f) (hn : a = none -> c = 0) (hm : 0 < m) (hm2 : m <= 1000000) :
    ∃ b c' y1, (Builtin.append_ #[22, 22] 22 #[.slice (some ⟨wr.heap.size, 0, none⟩) 0 0, .slice a m c]).run Tryz.prog (wr.alloc (.cells #[] 3)) = .ok (.slice (some ⟨b, 0, none⟩) m c') y1 /\ wr.heap.size <= b /\ IBox y1 b m f /\ m <= c' /\ c' <= maxLen /\ Below wr.heap.size wr y1 := by
 have hb : Below wr.heap.size wr (wr.alloc (.cells #[] 3)) := (Below.refl _ _).alloc (Nat.le_refl _) _
 have hown : (wr.alloc (.cells #[] 3)).ownsRow wr.heap.size 3 1 (.slice (some ⟨wr.heap.size, 0, none⟩) 0 0) 0 [] := ⟨rfl, .inr ⟨wr.heap.size, 0, #[], rfl, Nat.le_refl _, heap_alloc_new wr _, Nat.le_refl _, Nat.zero_le _, rfl, rfl⟩⟩
 obtain ⟨v', w', e1, e2, e3⟩ := run_append_krow 22 wr.heap.size _ 0 [] hown a m c f (h.below hb) hn (by omega) (by rw [World.size_alloc]; omega)
 rw [List.nil_append, Nat.zero_add] at e2
 have e4 := e2
 rcases e2.2 with ⟨_, e⟩ | ⟨g, cap, cur, rfl, hg, hh, h1, h2, _, _⟩
 · omega
 · refine ⟨g, cap, w', e1, hg, ⟨Row.lt (t := 3) hh, fun o => Row.free (t := 3) hh o, fun j hj => ?_⟩, h1, h2, ?_⟩
   · have := e4.cells (g := g) rfl j _ (kcs_get .i64 f m j hj)
     rwa [show (⟨g, 0, none⟩ : Addr).add j = ⟨g, j, none⟩ by unfold Addr.add; split <;> simp_all] at this
   · refine hb.trans ⟨e3.os, e3.tape, e3.output, e3.size, fun j hj => e3.block j (Nat.lt_of_lt_of_le hj (by rw [World.size_alloc]; omega)) (fun e => ?_)⟩
     have e' : j = wr.heap.size := by simpa [Value.ownBlock] using e
     omega
theorem IBox.krow2 {w : World} {g n c : Nat} {h : Nat -> Int} (q : IBox w g n h) (hn : n <= c) (hc : c <= maxLen) : KRow w .i64 (some ⟨g, 0, none⟩) n c h :=
 ⟨hn, hc, .inr ⟨g, 0, rfl, q.1, fun j hj => by rw [Nat.zero_add]; exact q.2.2 j hj⟩⟩
theorem step_append_run9 {P : Program} (w : World) {ops : Array Oper} {o : Oper} {a : Act} {K : Act -> World -> Prop} {Q : Exit -> Act -> World -> Prop} {E : Prop} (hgd : o.guard = none) (s x : Operand) (t tn : TypeId)
    (ho : o.op = .call { callee := .builtin .append, args := #[s, x], argTypes := #[t, tn] }) (vs vx : Value) (hs : a.eval s = vs) (hx : a.eval x = vx)
    (v' : Value) (w' : World) (hr : (Builtin.append_ #[t, tn] o.type #[vs, vx]).run P w = .ok v' w') (h : K (a.put o.dst v') w') : if Region.wanted o (yielded ops a.tmps) = true then Oper.wp P o a w K Q else E := by
 have hw : Region.wanted o (yielded ops a.tmps) = true := by simp [Region.wanted, hgd]
 rw [if_pos hw]
 exact Lib.wp_append_run w s x t tn ho vs vx hs hx v' w' hr h
theorem rplk_any (a : Option Addr) (n c : Nat) (f : Nat -> Int) (a2 : Option Addr) (c2 : Nat) (g : Nat -> Int) (w : World) (h : KRow w .i64 a n c f) (h2 : KRow w .i64 a2 n c2 g) (hax : axB f n = true) :
    Calls Tryz.prog 102 #[.slice a n c, .slice a2 n c2] w fun e w' => e = .returned (.int .i64 (if inB f g n then plc f g n else -1)) /\ Below w.heap.size w w' :=
 (r6Place_any a n c f a2 n c2 g w h h2).mono (by
   rintro e w' ⟨x, rfl, h0, h1, hb⟩
   rw [Nat.min_self] at h0 h1
   refine ⟨?_, hb⟩
   cases hq : inB f g n with
   | true => rw [h1 hax hq, if_pos rfl]
   | false => rw [h0 hq, if_neg (by decide)])
theorem PoTold.res2 {E : Int} {S : Nat -> Int} {r : Nat} {ch : Bool} {L : Nat} {g : Nat -> Int} {fB : Nat -> Bool} {fS fT : Nat -> ByteArray} {w w' : World} {e : Ending} (h : PoTold E S r ch L g fB fS fT w w' e) :
    ∃ x, e = .returned (.tuple #[.agg x, .int .i64 E]) /\ IsP x /\ (E = 0 -> Pln w' x S r ch L g fB fS fT) /\ (E ≠ 0 -> x = plZer) /\ Below w.heap.size w w' := by
 obtain ⟨x, he, h1, h2, hb⟩ := h
 refine ⟨x, he, ?_, h1, h2, hb⟩
 by_cases hE : E = 0
 · obtain ⟨_, _, _, _, _, _, e, _⟩ := (h1 hE).form
   exact ⟨_, _, _, _, _, _, _, _, _, _, e⟩
 · rw [h2 hE]
   exact ⟨_, _, _, _, _, _, _, _, _, _, rfl⟩
theorem sh_count {T : Nat -> Int} {r : Nat} (h : shB T r = true) : r <= 8 /\ (itm T r).toNat <= 4096 := by
 obtain ⟨h1, h2⟩ := sh_ax h
 have := ax_bd h2
 omega
theorem KRow.ofRow1 {w : World} {g : Nat} {t : TypeId} {ki : IntKind} {x : Int} (h : Row w g t #[.int ki x]) : KRow w ki (some ⟨g, 0, none⟩) 1 1 (fun _ => x) := by
 refine ⟨Nat.le_refl _, by unfold maxLen; omega, .inr ⟨g, 0, rfl, h.lt, fun j hj => ?_⟩⟩
 obtain rfl : j = 0 := by omega
 exact h.cell 0
theorem ownI_more {y0 wr : World} {a a2 : Option Addr} {k c m c2 N : Nat} {f g F : Nat -> Int} (h : OwnI y0 wr a k c f) (h2 : KRow wr .i64 a2 m c2 g) (hN : k + m = N) (hm : N <= 1000000) (e1 : ∀ j, j < k -> F j = f j) (e2 : ∀ j, j < m -> F (k + j) = g j) :
    ∃ a' c' y1, (Builtin.append_ #[22, 22] 22 #[.slice a k c, .slice a2 m c2]).run Tryz.prog wr = .ok (.slice a' N c') y1 /\ OwnI y0 y1 a' N c' F /\ wr.grownBy y1 (Value.slice a k c).ownBlock := by
 obtain ⟨i0, hi, hz0, hz1, hz2⟩ := info_parts infoI
 have hs0 := h.1.size
 have ek := kcs_app1 .i64 e1 e2
 subst hN
 cases a2 with
 | none =>
  have hm : m = 0 := by
   rcases h2.2.2 with h | ⟨_, _, h, _⟩
   · exact h
   · cases h
  subst hm
  have ho := h.2
  rw [show kcs .i64 g 0 = [] from rfl, List.append_nil] at ek
  rw [ek] at ho
  exact ⟨_, _, _, append_none1 y0.heap.size _ 3 i0 1 Tryz.underlying22 hi _ _ _ c2 ho, ⟨h.1, ho⟩, rfl, rfl, rfl, Nat.le_refl _, fun _ _ _ => rfl⟩
 | some ad =>
  obtain ⟨v', w', r1, r2, r3⟩ := run_append_krow 22 y0.heap.size _ k _ h.2 (some ad) m c2 g h2 (fun e => by cases e) hm hs0
  rw [ek] at r2
  obtain ⟨a', c', rfl, _⟩ := KRow.of_own r2
  exact ⟨a', c', w', r1, ⟨h.1.grown r3 (by omega) (fun q hq => (h.2.lt q hq).1), r2⟩, r3⟩
theorem step_ownI {ops : Array Oper} {o : Oper} {a : Act} {K : Act -> World -> Prop} {Q : Exit -> Act -> World -> Prop} {E : Prop} {y0 wr : World} (hgd : o.guard = none) (s x : Operand)
    (ho : o.op = .call { callee := .builtin .append, args := #[s, x], argTypes := #[22, 22] }) (hot : o.type = 22) {a0 a2 : Option Addr} {k c m c2 N : Nat} {f g F : Nat -> Int} (hs : a.eval s = .slice a0 k c) (hx : a.eval x = .slice a2 m c2)
    (h : OwnI y0 wr a0 k c f) (h2 : KRow wr .i64 a2 m c2 g) (hN : k + m = N) (hm : N <= 1000000) (e1 : ∀ j, j < k -> F j = f j) (e2 : ∀ j, j < m -> F (k + j) = g j)
    (hK : ∀ a' c' y1, OwnI y0 y1 a' N c' F -> wr.grownBy y1 (Value.slice a0 k c).ownBlock -> K (a.put o.dst (.slice a' N c')) y1) : if Region.wanted o (yielded ops a.tmps) = true then Oper.wp Tryz.prog o a wr K Q else E := by
 obtain ⟨a', c', y1, r1, r2, r3⟩ := ownI_more h h2 hN hm e1 e2
 exact step_append_run9 wr hgd s x _ _ ho _ _ hs hx _ _ (by rw [hot]; exact r1) (hK a' c' y1 r2 r3)
theorem ownI_new (y0 w : World) (f : Nat -> Int) (hb : Below y0.heap.size y0 w) : OwnI y0 (w.alloc (.cells #[] 3)) (some ⟨w.heap.size, 0, none⟩) 0 0 f :=
 ⟨hb.alloc hb.size _, ⟨rfl, .inr ⟨w.heap.size, 0, #[], rfl, hb.size, heap_alloc_new w _, Nat.le_refl _, Nat.zero_le _, rfl, rfl⟩⟩⟩
theorem rpart_any (a : Option Addr) (c : Nat) (S : Nat -> Int) (r k : Nat) (w : World) (h : KRow w .i64 a r c S) (hk : k <= r) (hr : r <= 900000) :
    Calls Tryz.prog 49 #[.slice a r c, .int .i64 (k : Nat)] w fun e w' => ∃ a' c', e = .returned (.slice a' (r + 1) c') /\ KRow w' .i64 a' (r + 1) c' (insF S k 1) /\ Below w.heap.size w w' := by
 obtain ⟨i0, hi, hz0, hz1, hz2⟩ := info_parts infoI
 have hl := h.len
 have hcm := h.2.1
 unfold maxLen at hcm
 have k1 := KRow.part h (l := 0) (m := k) (by omega)
 have k2 := KRow.part h (l := k) (m := r - k) (by omega)
 have hs1 : ∀ wz, (Instr.slice 22 (.slice a r c) none (some (.int .i64 (k : Nat))) none).run Tryz.prog wz = .ok (.slice (if c = 0 then a else a.map (·.add (0 * 1))) k c) wz := fun wz => by
  have ht : Tryz.prog.underlying 22 = some (.slice (Tryz.prog.elem 22)) := by kernel_rfl
  have he : Tryz.prog.elem 22 = 3 := by kernel_rfl
  rw [run_slice_h wz 22 a r c ht .i64 _ (by omega) (by omega)]
  simp [sizeOf, typeInfo, he, hi, hz1, Result.andThen, sliced]
 have hs2 : ∀ wz, (Instr.slice 22 (.slice a r c) (some (.int .i64 (k : Nat))) none none).run Tryz.prog wz = .ok (.slice (if c = k then a else a.map (·.add (k * 1))) (r - k) (c - k)) wz := fun wz => by
  have ht : Tryz.prog.underlying 22 = some (.slice (Tryz.prog.elem 22)) := by kernel_rfl
  have he : Tryz.prog.elem 22 = 3 := by kernel_rfl
  rw [run_slice_l wz 22 a r c ht .i64 _ (by omega) (by omega)]
  simp [sizeOf, typeInfo, he, hi, hz1, Result.andThen, sliced]
 obtain ⟨A1, hA1⟩ : ∃ x, (if c = 0 then a else a.map (·.add (0 * 1))) = x := ⟨_, rfl⟩
 obtain ⟨A2, hA2⟩ : ∃ x, (if c = k then a else a.map (·.add (k * 1))) = x := ⟨_, rfl⟩
 rw [hA1] at k1
 rw [hA2] at k2
 simp only [hA1] at hs1
 simp only [hA2] at hs2
 have K1 : Hid (KRow w .i64 A1 k c S) := Lib.hid (k1.congr (fun j _ => by unfold shf; rw [Nat.zero_add]))
 have K2 := Lib.hid k2
 have HI := Lib.hid (ins_parts S k 1)
 have E1 : Hid (∀ j, j < k -> S (0 + j) = S j) := Lib.hid (fun j _ => by rw [Nat.zero_add])
 have E2 : Hid (∀ j, j < k -> insF S k 1 j = S j) := Lib.hid (ins_parts S k 1).1
 have E3 : Hid (∀ j, j < 1 -> insF S k 1 (k + j) = 1) := Lib.hid (fun j hj => by rw [show j = 0 by omega]; exact ins_at S k 1)
 have E4 : Hid (∀ j, j < r - k -> insF S k 1 (k + 1 + j) = shf S k j) := Lib.hid (fun j _ => (ins_parts S k 1).2 j)
 have B0 : Hid (Below w.heap.size w w.drew) := Lib.hid (Below.refl _ w).drew
 have HA := Lib.hid (ownI_new w w.drew S B0.out)
 have HB := Lib.hid (HA.out.go ((Below.refl (w.drew.alloc (.cells #[] 3)).heap.size (w.drew.alloc (.cells #[] 3))).alloc (Nat.le_refl _) (.cells #[.int .i64 1] 3)))
 have HB1 : Hid (Row ((w.drew.alloc (.cells #[] 3)).alloc (.cells #[.int .i64 1] 3)) (w.heap.size + 1) 3 #[.int .i64 1]) := Lib.hid (by have q := Row.new (w.drew.alloc (.cells #[] 3)) 3 #[.int .i64 1]; rw [World.size_alloc] at q; exact q)
 have HC : Hid (OwnI w ((w.drew.alloc (.cells #[.int .i64 1] 3)).alloc (.cells #[] 3)) (some ⟨w.heap.size + 1, 0, none⟩) 0 0 S) := Lib.hid (by have q := ownI_new w (w.drew.alloc (.cells #[.int .i64 1] 3)) S (B0.out.alloc B0.out.size _); rw [World.size_alloc] at q; exact q)
 have HC1 := Lib.hid ((Row.new w.drew 3 #[.int .i64 1]).below ((Below.refl _ _).alloc (Nat.le_refl _) (.cells #[] 3)))
 generalize insF S k 1 = F at *
 generalize shf S k = G at *
 clear h k1 k2 hi hz0 hz1 hz2 hcm hA1 hA2
 go_enter Tryz.func49, Tryz.ntmps49
 go_wp2_with fail
 go_region_held3 (fun _ => True)
  (exact trivial)
  (first
    | (refine step_ownI rfl (.tmp 5) (.tmp 8) rfl rfl rfl rfl HA.out (K1.out.below HA.out.1) (Nat.zero_add k) (by omega) (fun _ h => absurd h (Nat.not_lt_zero _)) E1.out ?_; intro a4 c4 y4 ho4 hg4)
    | (refine step_ownI rfl (.tmp 5) (.tmp 8) rfl rfl rfl rfl HB.out (K1.out.below HB.out.1) (Nat.zero_add k) (by omega) (fun _ h => absurd h (Nat.not_lt_zero _)) E1.out ?_; intro a4 c4 y4 ho4 hg4)
    | (refine step_ownI rfl (.tmp 5) (.tmp 8) rfl rfl rfl rfl HC.out (K1.out.below HC.out.1) (Nat.zero_add k) (by omega) (fun _ h => absurd h (Nat.not_lt_zero _)) E1.out ?_; intro a4 c4 y4 ho4 hg4)
    | (refine step_ownI rfl (.tmp 9) (.tmp 10) rfl rfl rfl rfl (ho4.go ((Below.refl _ _).alloc (Nat.le_refl _) _)) (KRow.one' y4 .i64 1 _) rfl (by omega) E2.out E3.out ?_; intro a6 c6 y6 ho6 hg6)
    | (refine step_ownI rfl (.tmp 9) (.tmp 10) rfl rfl rfl rfl ho4 (KRow.ofRow1 (HB1.out.grown hg4 (by simp [Value.ownBlock]))) rfl (by omega) E2.out E3.out ?_; intro a6 c6 y6 ho6 hg6)
    | (refine step_ownI rfl (.tmp 9) (.tmp 10) rfl rfl rfl rfl ho4 (KRow.ofRow1 (HC1.out.grown hg4 (by simp [Value.ownBlock]))) rfl (by omega) E2.out E3.out ?_; intro a6 c6 y6 ho6 hg6)
    | (refine step_ownI rfl (.tmp 11) (.tmp 14) rfl rfl rfl rfl ho6 (K2.out.below ho6.1) (show k + 1 + (r - k) = r + 1 by omega) (by omega) (fun _ _ => rfl) E4.out ?_; intro a9 c9 y9 ho9 hg9))
 all_goals have HE := Lib.hid (And.intro ho9.krow ho9.1)
 all_goals clear ho4 hg4 ho6 hg6 ho9 hg9
 all_goals go_wp2
 all_goals go_ret
 all_goals exact ⟨_, _, rfl, HE.out⟩
end Go.Proofs.YtdlccnmhcggjiaaGreatDoor
