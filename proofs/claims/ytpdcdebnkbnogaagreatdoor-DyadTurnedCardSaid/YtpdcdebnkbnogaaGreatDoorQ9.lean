/-
  Texts of this seat, laid together.
-/
import Derived.Test.YtpdcdebnkbnogaaGreatDoorQ1
import Derived.Test.YtpdcdebnkbnogaaGreatDoorQ2
import Derived.Test.YtpdcdebnkbnogaaGreatDoorQ3
import Derived.Test.YtpdcdebnkbnogaaGreatDoorQ4
import Derived.Test.YtpdcdebnkbnogaaGreatDoorQ5
import Derived.Test.YtpdcdebnkbnogaaGreatDoorQ6
import Derived.Test.YtpdcdebnkbnogaaGreatDoorQ7
import Derived.Test.YtpdcdebnkbnogaaGreatDoorQ8
set_option maxHeartbeats 12800000
set_option maxRecDepth 100000
set_option linter.unusedSimpArgs false
set_option linter.unusedVariables false
namespace Go.Proofs.YtpdcdebnkbnogaaGreatDoor
open Go.RowKit
attribute [local go_sem ↓] Go.wp_at_zero Go.wp_at_succ
set_option linter.unusedVariables false
set_option linter.unusedSimpArgs false
theorem IntsAt.set2o {w : World} {k b : Nat} {a0 : Option Addr} {n0 c0 : Nat} {m0 : Bool} {n c : Nat} {f : Nat -> Int} (h : IntsAt w (some ⟨b, 0, none⟩) n c f) (e : b ≠ k)
    (hs : Slot2 w k (.slice a0 n0 c0) (.bool m0)) (u v : Value) : IntsAt ((w.setCell ⟨k, 0, none⟩ u).setCell ⟨k, 1, none⟩ v) (some ⟨b, 0, none⟩) n c f := by
 obtain ⟨h0, h1, h2⟩ := h
 refine ⟨h0, h1, ?_⟩
 rcases h2 with h2 | ⟨b', off, he, hl, hc⟩
 · exact .inl h2
 · cases he
   refine .inr ⟨b, 0, rfl, by simpa using hl, fun j hj => ?_⟩
   obtain ⟨a', n', c', m', e1, e2, hr⟩ := hc j hj
   have hn : ∀ o o' : Nat, (⟨k, o, none⟩ : Addr) ≠ ⟨b, o', none⟩ := fun o o' h => e (by cases h; rfl)
   refine ⟨a', n', c', m', ?_, ?_, hr.set2b hs _ _⟩ <;>
    (rw [World.cell?_setCell_other _ _ _ _ (hn _ _), World.cell?_setCell_other _ _ _ _ (hn _ _)]; assumption)
theorem RatAt.set2 {w : World} {k : Nat} {a0 : Option Addr} {n0 c0 : Nat} {m0 : Bool} {a : Option Addr} {n c : Nat} {m : Bool} {a2 : Option Addr} {n2 c2 : Nat} {P : Int} {Q : Nat} (q : RatAt w a n c m a2 n2 c2 P Q) (h : Slot2 w k (.slice a0 n0 c0) (.bool m0)) (u v : Value) : RatAt ((w.setCell ⟨k, 0, none⟩ u).setCell ⟨k, 1, none⟩ v) a n c m a2 n2 c2 P Q :=
 ⟨q.1.set2b h u v, q.2.set2b h (fun _ _ h => by cases h) (fun _ _ h => by cases h) u v⟩
theorem flQ_nat (A B : Nat) : flQ (A : Int) (B : Int) = ((A / B : Nat) : Int) := by
 unfold flQ flU flA
 rw [decide_eq_false (show ¬ (A : Int) < 0 by omega), decide_eq_false (show ¬ (B : Int) < 0 by omega), Int.natAbs_natCast, Int.natAbs_natCast]
 rfl
theorem ways_less {P P' : Int} {l : Int} (h0 : 0 <= P) (h1 : 0 <= P') (h : P' < P) : waysT P 1 P' 1 l = (0, 1, 0) := by
 unfold waysT
 rw [if_neg (by omega), if_pos h]
theorem ways_none {P P' : Int} {Q Q' : Nat} {l : Int} (h : (cntB P Q && cntB P' Q') = false) : waysT P Q P' Q' l = (0, 1, 22) := by
 unfold waysT
 rw [if_pos ?_]
 unfold cntB at h
 simp only [Bool.and_eq_false_iff, decide_eq_false_iff_not] at h
 omega
theorem cntB_iff {P : Int} {Q : Nat} (h : cntB P Q = true) : Q = 1 /\ 0 <= P := by
 unfold cntB at h
 rw [Bool.and_eq_true, decide_eq_true_eq, decide_eq_true_eq] at h
 exact h
theorem ways_far {P P' : Int} {l : Int} (h0 : 0 <= P) (h1 : P <= P') (hk : 2100 <= fewK P P') (hl : l <= 64) : waysT P 1 P' 1 l = (0, 1, 26) := by
 have hw : wyF (P'.toNat - fewK P P') l (fewK P P') = false := by
  refine wyF_no (j := 2100) hk ?_
  by_cases e : lbs (wy (P'.toNat - fewK P P') 2100) <= 64
  · have := wy_few (by unfold fewK at hk ⊢; omega) e
    omega
  · omega
 unfold waysT
 rw [if_neg (by omega), if_neg (by omega), hw, if_neg (by decide)]
abbrev WYP (W8 W9 W12 W14 : Nat) (ea : Option Addr) (en ec : Nat) (em : Bool) (rr : Int) (wa : Option Addr) (wn wc : Nat) (wm : Bool) (V : Int) (ca : Option Addr) (cn cc : Nat) (cm : Bool) (I : Int) (f : Nat -> Bool) (y : World) : Prop :=
 (f 13 = false -> Slot2 y W12 (.slice wa wn wc) (.bool wm)) /\ (∃ x0 y0 z0 b0, Slot2 y W12 (.slice x0 y0 z0) (.bool b0)) /\ Slot2 y W14 (.slice ca cn cc) (.bool cm) /\ IntAt y ca cn cc cm I /\ IntAt y wa wn wc wm V /\ IntAt y ea en ec em rr /\ Slot2 y W9 (.slice ea en ec) (.bool em) /\ Slot3 y W8 (.slice none 0 0) (.bool false) (.slice none 0 0)
theorem WYP.below {W8 W9 W12 W14 : Nat} {ea : Option Addr} {en ec : Nat} {em : Bool} {rr : Int} {wa : Option Addr} {wn wc : Nat} {wm : Bool} {V : Int} {ca : Option Addr} {cn cc : Nat} {cm : Bool} {I : Int} {f : Nat -> Bool} (y y' : World) (hb : Below y.heap.size y y') (h : WYP W8 W9 W12 W14 ea en ec em rr wa wn wc wm V ca cn cc cm I f y) : WYP W8 W9 W12 W14 ea en ec em rr wa wn wc wm V ca cn cc cm I f y' := by
 obtain ⟨h1, ⟨x0, y0, z0, b0, h2⟩, h3, h4, h5, h6, h7, h8⟩ := h
 exact ⟨fun e => (h1 e).below hb, ⟨x0, y0, z0, b0, h2.below hb⟩, h3.below hb, h4.below hb, h5.below hb, h6.below hb, h7.below hb, h8.below hb⟩
theorem WYP.put {w : World} {W8 W9 W12 W14 : Nat} {ea : Option Addr} {en ec : Nat} {em : Bool} {rr : Int} {wa : Option Addr} {wn wc : Nat} {wm : Bool} {V : Int} {ca : Option Addr} {cn cc : Nat} {cm : Bool} {I : Int} {f : Nat -> Bool} {y : World} (h : Bag w (WYP W8 W9 W12 W14 ea en ec em rr wa wn wc wm V ca cn cc cm I f) y)
    {x0 : Option Addr} {y0 z0 : Nat} {b0 : Bool} (s : Slot2 y W12 (.slice x0 y0 z0) (.bool b0)) (hw : w.heap.size <= W12) (h8 : W8 ≠ W12) (h9 : W9 ≠ W12) (h14 : W14 ≠ W12) (a n c m) : Bag w (WYP W8 W9 W12 W14 ea en ec em rr wa wn wc wm V ca cn cc cm I (upd f 13)) ((y.setCell ⟨W12, 0, none⟩ (.slice a n c)).setCell ⟨W12, 1, none⟩ (.bool m)) := by
 obtain ⟨h1, _, h3, h4, h5, h6, h7, h10⟩ := h.now
 exact ⟨(h.below.setCell (p := ⟨W12, 0, none⟩) hw _).setCell (p := ⟨W12, 1, none⟩) hw _, fun _ _ hb q => WYP.below _ _ hb q,
  fun e => by simp [upd] at e, ⟨a, n, c, m, s.set2 _ _⟩, h3.set2o h14 _ _, h4.set2b s _ _, h5.set2b s _ _, h6.set2b s _ _, h7.set2o h9 _ _, h10.set2o h8 _ _⟩
theorem dchoices_no (a : Option Addr) (n c : Nat) (m : Bool) (a2 : Option Addr) (n2 c2 : Nat) (P : Int) (Q : Nat) (b : Option Addr) (k l : Nat) (v : Bool) (b2 : Option Addr) (k2 l2 : Nat) (P' : Int) (Q' : Nat) (lm : Int) (w : World) (h : RatAt w a n c m a2 n2 c2 P Q) (g : RatAt w b k l v b2 k2 l2 P' Q') (hQ : 0 < Q) (hQ' : 0 < Q') (hn : (cntB P Q && cntB P' Q') = false) :
    Calls Tryz.prog 154 #[.agg #[.slice a n c, .bool m, .slice a2 n2 c2], .agg #[.slice b k l, .bool v, .slice b2 k2 l2], .int .i64 lm] w fun e w' => RatTold4 w w' e 0 1 22 := by
 have CA := Lib.hid (fun wz h => disCount_any a n c m a2 n2 c2 P Q wz h hQ)
 have CB := Lib.hid (fun wz h => disCount_any b k l v b2 k2 l2 P' Q' wz h hQ')
 cases ha : cntB P Q with
 | false =>
  rw [ha] at CA
  clear hQ hQ' hn ha
  have BB := Lib.hid ((((((Bag.start w).rat h).rat g).box3 (.slice a n c) (.bool m) (.slice a2 n2 c2) 53).box3 (.slice b k l) (.bool v) (.slice b2 k2 l2) 53).box3 (.slice none 0 0) (.bool false) (.slice none 0 0) 53)
  simp only [World.size_alloc] at BB
  have q00 := BB.out.now.2.2.1.cell
  have q01 := BB.out.now.2.2.1.cell1
  have q02 := BB.out.now.2.2.1.cell2
  have q10 := BB.out.now.2.1.cell
  have q11 := BB.out.now.2.1.cell1
  have q12 := BB.out.now.2.1.cell2
  go_enter Tryz.func154, Tryz.ntmps154
  go_wp2_with fail
  go_at_call 191
  (with_reducible refine (CA.out _ BB.out.now.2.2.2.2.1).mono ?_)
  rintro e w1 ⟨rfl, hb1⟩
  have BB := Lib.hid (BB.out.go hb1)
  clear hb1
  clear q00 q01 q02 q10 q11 q12
  have q00 := BB.out.now.2.2.1.cell
  have q01 := BB.out.now.2.2.1.cell1
  have q02 := BB.out.now.2.2.1.cell2
  have q10 := BB.out.now.2.1.cell
  have q11 := BB.out.now.2.1.cell1
  have q12 := BB.out.now.2.1.cell2
  have hs := BB.out.now.1
  have u0 := hs.cell
  have u1 := hs.cell1
  have u2 := hs.cell2
  have g0 := hs.free
  have g1 := hs.free1
  have g2 := hs.free2
  have HS := hs.set (.slice none 0 0) (.bool false) (.slice none 0 0)
  have HE := Lib.hid (RatTold4.done 22 BB.out.below (by omega) hs (RatAt.zero _))
  clear hs
  go_wp2
  exact bodyPost_ret (v := .tuple #[.agg #[.slice none 0 0, .bool false, .slice none 0 0], .int .i64 22]) (by simp [results, Tryz.results154, go_sem, HS]) rfl HE.out
 | true =>
  rw [ha, Bool.true_and] at hn
  rw [ha] at CA
  rw [hn] at CB
  clear hQ hQ' hn ha
  have BB := Lib.hid ((((((Bag.start w).rat h).rat g).box3 (.slice a n c) (.bool m) (.slice a2 n2 c2) 53).box3 (.slice b k l) (.bool v) (.slice b2 k2 l2) 53).box3 (.slice none 0 0) (.bool false) (.slice none 0 0) 53)
  simp only [World.size_alloc] at BB
  have q00 := BB.out.now.2.2.1.cell
  have q01 := BB.out.now.2.2.1.cell1
  have q02 := BB.out.now.2.2.1.cell2
  have q10 := BB.out.now.2.1.cell
  have q11 := BB.out.now.2.1.cell1
  have q12 := BB.out.now.2.1.cell2
  go_enter Tryz.func154, Tryz.ntmps154
  go_wp2_with fail
  go_at_call 191
  (with_reducible refine (CA.out _ BB.out.now.2.2.2.2.1).mono ?_)
  rintro e w1 ⟨rfl, hb1⟩
  have BB := Lib.hid (BB.out.go hb1)
  clear hb1
  clear q00 q01 q02 q10 q11 q12
  have q00 := BB.out.now.2.2.1.cell
  have q01 := BB.out.now.2.2.1.cell1
  have q02 := BB.out.now.2.2.1.cell2
  have q10 := BB.out.now.2.1.cell
  have q11 := BB.out.now.2.1.cell1
  have q12 := BB.out.now.2.1.cell2
  go_wp2_with fail
  go_at_call 191
  (with_reducible refine (CB.out _ BB.out.now.2.2.2.1).mono ?_)
  rintro e w2 ⟨rfl, hb2⟩
  have BB := Lib.hid (BB.out.go hb2)
  clear hb2
  clear q00 q01 q02 q10 q11 q12
  have q00 := BB.out.now.2.2.1.cell
  have q01 := BB.out.now.2.2.1.cell1
  have q02 := BB.out.now.2.2.1.cell2
  have q10 := BB.out.now.2.1.cell
  have q11 := BB.out.now.2.1.cell1
  have q12 := BB.out.now.2.1.cell2
  have hs := BB.out.now.1
  have u0 := hs.cell
  have u1 := hs.cell1
  have u2 := hs.cell2
  have g0 := hs.free
  have g1 := hs.free1
  have g2 := hs.free2
  have HS := hs.set (.slice none 0 0) (.bool false) (.slice none 0 0)
  have HE := Lib.hid (RatTold4.done 22 BB.out.below (by omega) hs (RatAt.zero _))
  clear hs
  go_wp2
  exact bodyPost_ret (v := .tuple #[.agg #[.slice none 0 0, .bool false, .slice none 0 0], .int .i64 22]) (by simp [results, Tryz.results154, go_sem, HS]) rfl HE.out
theorem loop1 {w y : World} {W8 W9 W12 : Nat} {E0 wa x : Option Addr} {E1 E2 wn wc n c : Nat} {E3 wm m : Bool} {Y V I : Int} {t : TypeId} (h : Bag w (fun y => Slot2 y W12 (.slice wa wn wc) (.bool wm) /\ IntAt y wa wn wc wm V /\ IntAt y E0 E1 E2 E3 Y /\ Slot2 y W9 (.slice E0 E1 E2) (.bool E3) /\ Slot3 y W8 (.slice none 0 0) (.bool false) (.slice none 0 0) /\ True) y) (hi : IntAt y x n c m I) :
    Bag w (WYP W8 W9 W12 y.heap.size E0 E1 E2 E3 Y wa wn wc wm V x n c m I (fun _ => false)) (y.alloc (.cells #[.slice x n c, .bool m] t)) := by
 obtain ⟨h1, h2, h3, h4, h5, _⟩ := h.now
 have hb : Below y.heap.size y (y.alloc (.cells #[.slice x n c, .bool m] t)) := (Below.refl _ _).alloc (Nat.le_refl _) _
 exact ⟨h.below.trans (hb.mono h.below.size), fun _ _ hb q => WYP.below _ _ hb q, fun _ => h1.below hb, ⟨_, _, _, _, h1.below hb⟩, Slot2.new y _ _ _, hi.below hb, h2.below hb, h3.below hb, h4.below hb, h5.below hb⟩
theorem loop2 {w y : World} {W8 W9 W12 W14 : Nat} {E0 wa x v : Option Addr} {E1 E2 wn wc n c vn vc : Nat} {E3 wm m vm : Bool} {Y V I V' : Int} {f : Nat -> Bool} (h : Bag w (WYP W8 W9 W12 W14 E0 E1 E2 E3 Y wa wn wc wm V x n c m I f) y) (s : Slot2 y W12 (.slice v vn vc) (.bool vm)) (hi : IntAt y v vn vc vm V') :
    Bag w (fun y => Slot2 y W12 (.slice v vn vc) (.bool vm) /\ IntAt y v vn vc vm V' /\ IntAt y E0 E1 E2 E3 Y /\ Slot2 y W9 (.slice E0 E1 E2) (.bool E3) /\ Slot3 y W8 (.slice none 0 0) (.bool false) (.slice none 0 0) /\ True) y := by
 obtain ⟨_, _, _, _, _, h6, h7, h8⟩ := h.now
 exact ⟨h.below, fun x y hb q => ⟨q.1.below hb, q.2.1.below hb, q.2.2.1.below hb, q.2.2.2.1.below hb, q.2.2.2.2.1.below hb, trivial⟩, s, hi, h6, h7, h8, trivial⟩
theorem keep2 {w y : World} {k8 k9 k10 : Nat} {F0 E0 : Option Addr} {F1 F2 E1 E2 : Nat} {F3 E3 : Bool} {Z Y : Int} {U : World -> Prop} (h : Bag w (fun y => IntAt y E0 E1 E2 E3 Y /\ IntAt y F0 F1 F2 F3 Z /\ Slot2 y k10 (.slice E0 E1 E2) (.bool E3) /\ Slot2 y k9 (.slice F0 F1 F2) (.bool F3) /\ Slot3 y k8 (.slice none 0 0) (.bool false) (.slice none 0 0) /\ U y) y) :
    Bag w (fun y => Slot2 y k9 (.slice F0 F1 F2) (.bool F3) /\ IntAt y F0 F1 F2 F3 Z /\ Slot2 y k10 (.slice E0 E1 E2) (.bool E3) /\ IntAt y E0 E1 E2 E3 Y /\ Slot3 y k8 (.slice none 0 0) (.bool false) (.slice none 0 0) /\ True) y := by
 obtain ⟨h1, h2, h3, h4, h5, _⟩ := h.now
 exact ⟨h.below, fun x y hb q => ⟨q.1.below hb, q.2.1.below hb, q.2.2.1.below hb, q.2.2.2.1.below hb, q.2.2.2.2.1.below hb, trivial⟩, h4, h2, h3, h1, h5, trivial⟩
theorem swap2 {w y : World} {k8 k9 k10 : Nat} {F0 E0 : Option Addr} {F1 F2 E1 E2 : Nat} {F3 E3 : Bool} {Z Y : Int} {U : World -> Prop} (h : Bag w (fun y => IntAt y E0 E1 E2 E3 Y /\ IntAt y F0 F1 F2 F3 Z /\ Slot2 y k10 (.slice E0 E1 E2) (.bool E3) /\ Slot2 y k9 (.slice F0 F1 F2) (.bool F3) /\ Slot3 y k8 (.slice none 0 0) (.bool false) (.slice none 0 0) /\ U y) y)
    (h9 : w.heap.size <= k9) (h10 : w.heap.size <= k10) (hne : k9 ≠ k10) (h89 : k8 ≠ k9) (h810 : k8 ≠ k10) :
    Bag w (fun y => Slot2 y k9 (.slice E0 E1 E2) (.bool E3) /\ IntAt y E0 E1 E2 E3 Y /\ Slot2 y k10 (.slice F0 F1 F2) (.bool F3) /\ IntAt y F0 F1 F2 F3 Z /\ Slot3 y k8 (.slice none 0 0) (.bool false) (.slice none 0 0) /\ True) ((((y.setCell ⟨k9, 0, none⟩ (.slice E0 E1 E2)).setCell ⟨k9, 1, none⟩ (.bool E3)).setCell ⟨k10, 0, none⟩ (.slice F0 F1 F2)).setCell ⟨k10, 1, none⟩ (.bool F3)) := by
 obtain ⟨h1, h2, h3, h4, h5, _⟩ := h.now
 have s10 := h3.set2o (fun e => hne e.symm) (k := k9) (.slice E0 E1 E2) (.bool E3)
 exact ⟨(((h.below.setCell (p := ⟨k9, 0, none⟩) h9 _).setCell (p := ⟨k9, 1, none⟩) h9 _).setCell (p := ⟨k10, 0, none⟩) h10 _).setCell (p := ⟨k10, 1, none⟩) h10 _, fun x y hb q => ⟨q.1.below hb, q.2.1.below hb, q.2.2.1.below hb, q.2.2.2.1.below hb, q.2.2.2.2.1.below hb, trivial⟩,
  (h4.set2 _ _).set2o hne _ _, (h1.set2b h4 _ _).set2b s10 _ _, s10.set2 _ _, (h2.set2b h4 _ _).set2b s10 _ _, (h5.set2o h89 _ _).set2o h810 _ _, trivial⟩
theorem loop0 {w y : World} {k8 k9 k10 : Nat} {F0 E0 x : Option Addr} {F1 F2 E1 E2 n c : Nat} {F3 E3 m : Bool} {Z Y V : Int} {t : TypeId} (h : Bag w (fun y => Slot2 y k9 (.slice F0 F1 F2) (.bool F3) /\ IntAt y F0 F1 F2 F3 Z /\ Slot2 y k10 (.slice E0 E1 E2) (.bool E3) /\ IntAt y E0 E1 E2 E3 Y /\ Slot3 y k8 (.slice none 0 0) (.bool false) (.slice none 0 0) /\ True) y) (hi : IntAt y x n c m V) :
    Bag w (fun y' => Slot2 y' y.heap.size (.slice x n c) (.bool m) /\ IntAt y' x n c m V /\ IntAt y' E0 E1 E2 E3 Y /\ Slot2 y' k10 (.slice E0 E1 E2) (.bool E3) /\ Slot3 y' k8 (.slice none 0 0) (.bool false) (.slice none 0 0) /\ True) (y.alloc (.cells #[.slice x n c, .bool m] t)) := by
 obtain ⟨h1, h2, h3, h4, h5, _⟩ := h.now
 have hb : Below y.heap.size y (y.alloc (.cells #[.slice x n c, .bool m] t)) := (Below.refl _ _).alloc (Nat.le_refl _) _
 exact ⟨h.below.trans (hb.mono h.below.size), fun x y hb q => ⟨q.1.below hb, q.2.1.below hb, q.2.2.1.below hb, q.2.2.2.1.below hb, q.2.2.2.2.1.below hb, trivial⟩, Slot2.new y _ _ _, hi.below hb, h4.below hb, h3.below hb, h5.below hb, trivial⟩
theorem dchoices_yes (a : Option Addr) (n c : Nat) (m : Bool) (a2 : Option Addr) (n2 c2 : Nat) (P : Int) (b : Option Addr) (k l : Nat) (v : Bool) (b2 : Option Addr) (k2 l2 : Nat) (P' : Int) (lm : Int) (w : World) (h : RatAt w a n c m a2 n2 c2 P 1) (g : RatAt w b k l v b2 k2 l2 P' 1) (K : Nat) (hK : K <= 20000) (h1 : P.natAbs < 4294967296 ^ K) (h3 : P'.natAbs < 4294967296 ^ K) (hp : 0 <= P) (hp' : 0 <= P') (hm : 1 <= lm /\ lm <= 64) :
    Calls Tryz.prog 154 #[.agg #[.slice a n c, .bool m, .slice a2 n2 c2], .agg #[.slice b k l, .bool v, .slice b2 k2 l2], .int .i64 lm] w fun e w' => ∃ t : Ans, RatTold4 w w' e t.1 t.2.1 t.2.2 /\ Good3 lm t (waysT P 1 P' 1 lm) := by
 have CA := Lib.hid (fun wz h => disCount_any a n c m a2 n2 c2 P 1 wz h (by decide))
 have CB := Lib.hid (fun wz h => disCount_any b k l v b2 k2 l2 P' 1 wz h (by decide))
 rw [show cntB P 1 = true by unfold cntB; rw [decide_eq_true hp]; rfl] at CA
 rw [show cntB P' 1 = true by unfold cntB; rw [decide_eq_true hp']; rfl] at CB
 have TA := Lib.hid (fun wz h => top_any a n c m a2 n2 c2 P 1 wz h)
 have TB := Lib.hid (fun wz h => top_any b k l v b2 k2 l2 P' 1 wz h)
 unfold IntTold2 at TA TB
 have MN := Lib.hid (fun wz h => minus_any a n c m P wz h)
 have PL := Lib.hid (fun sa wz (h : IntAt wz b k l v P') (g : IntsAt wz sa 1 1 (fun _ => -P)) => plus1_any b k l v P' sa (-P) wz h g (K + 1) (by omega) (by rw [Int.natAbs_neg, Nat.pow_succ]; omega))
 unfold IntTold at MN PL
 have HPK := Lib.hid (And.intro h1 h3)
 have HPP := Lib.hid (And.intro hp hp')
 obtain ⟨D, hD⟩ : ∃ z, P' + -P = z := ⟨_, rfl⟩
 rw [hD] at PL
 have HDD := Lib.hid hD
 obtain ⟨NP, hNP⟩ : ∃ z, -P = z := ⟨_, rfl⟩
 rw [hNP] at MN PL
 have GD := Lib.hid (fun t (h : lim3 lm t = lim3 lm (waysT P 1 P' 1 lm)) (h0 : 0 < t.2.1) => (show Good3 lm t (waysT P 1 P' 1 lm) from ⟨h0, h⟩))
 have BB := Lib.hid ((((((Bag.start w).rat h).rat g).box3 (.slice a n c) (.bool m) (.slice a2 n2 c2) 53).box3 (.slice b k l) (.bool v) (.slice b2 k2 l2) 53).box3 (.slice none 0 0) (.bool false) (.slice none 0 0) 53)
 simp only [World.size_alloc] at BB
 have q00 := BB.out.now.2.2.1.cell
 have q01 := BB.out.now.2.2.1.cell1
 have q02 := BB.out.now.2.2.1.cell2
 have q10 := BB.out.now.2.1.cell
 have q11 := BB.out.now.2.1.cell1
 have q12 := BB.out.now.2.1.cell2
 clear h1 h3 hp hp' hD hNP
 go_enter Tryz.func154, Tryz.ntmps154
 go_wp2_with fail
 go_at_call 191
 (with_reducible refine (CA.out _ BB.out.now.2.2.2.2.1).mono ?_)
 rintro e w1 ⟨rfl, hb1⟩
 have BB := Lib.hid (BB.out.go hb1)
 clear hb1
 clear q00 q01 q02 q10 q11 q12
 have q00 := BB.out.now.2.2.1.cell
 have q01 := BB.out.now.2.2.1.cell1
 have q02 := BB.out.now.2.2.1.cell2
 have q10 := BB.out.now.2.1.cell
 have q11 := BB.out.now.2.1.cell1
 have q12 := BB.out.now.2.1.cell2
 go_wp2_with fail
 go_at_call 191
 (with_reducible refine (CB.out _ BB.out.now.2.2.2.1).mono ?_)
 rintro e w2 ⟨rfl, hb2⟩
 have BB := Lib.hid (BB.out.go hb2)
 clear hb2
 clear q00 q01 q02 q10 q11 q12
 have q00 := BB.out.now.2.2.1.cell
 have q01 := BB.out.now.2.2.1.cell1
 have q02 := BB.out.now.2.2.1.cell2
 have q10 := BB.out.now.2.1.cell
 have q11 := BB.out.now.2.1.cell1
 have q12 := BB.out.now.2.1.cell2
 have HP : Hid (∀ (y : World) (k9 : Nat) {x0 : Option Addr} {y0 z0 : Nat} {b0 : Bool}, Slot2 y k9 (.slice x0 y0 z0) (.bool b0) -> w.heap.size + 1 + 1 < k9 -> Bag w (fun y => Slot3 y (w.heap.size + 1 + 1) (.slice none 0 0) (.bool false) (.slice none 0 0) /\ Slot3 y (w.heap.size + 1) (.slice b k l) (.bool v) (.slice b2 k2 l2) /\ Slot3 y w.heap.size (.slice a n c) (.bool m) (.slice a2 n2 c2) /\ RatAt y b k l v b2 k2 l2 P' 1 /\ RatAt y a n c m a2 n2 c2 P 1 /\ True) y -> ∀ (a9 : Option Addr) (n9 c9 : Nat) (m9 : Bool), Bag w (fun y => Slot3 y (w.heap.size + 1 + 1) (.slice none 0 0) (.bool false) (.slice none 0 0) /\ Slot3 y (w.heap.size + 1) (.slice b k l) (.bool v) (.slice b2 k2 l2) /\ Slot3 y w.heap.size (.slice a n c) (.bool m) (.slice a2 n2 c2) /\ RatAt y b k l v b2 k2 l2 P' 1 /\ RatAt y a n c m a2 n2 c2 P 1 /\ True) ((y.setCell ⟨k9, 0, none⟩ (.slice a9 n9 c9)).setCell ⟨k9, 1, none⟩ (.bool m9))) := by
  intro y k9 x0 y0 z0 b0 s hk B a9 n9 c9 m9
  have q := B.now
  exact ⟨(B.below.setCell (p := ⟨k9, 0, none⟩) (show w.heap.size <= k9 by omega) _).setCell (p := ⟨k9, 1, none⟩) (show w.heap.size <= k9 by omega) _, B.stay, q.1.set2o (by omega) _ _, q.2.1.set2o (by omega) _ _, q.2.2.1.set2o (by omega) _ _, q.2.2.2.1.set2 s _ _, q.2.2.2.2.1.set2 s _ _, trivial⟩
 go_wp2_with fail
 refine wp_region_inv5 ⟨(fun j => ([[24], [25], [26], [27], [28], [29], [30], [31], [32], [8], [9], [8], [9]] : List (List Nat)).getD j []), (fun j => ([[], [0], [], [0, 1, 2], [], [0, 1, 2, 3, 4], [0, 1, 2, 3, 4, 5], [0, 1, 2, 3, 4, 5, 6], [0, 1, 2, 3, 4, 5, 6, 7], [], [], [0, 1, 2, 3, 4, 5, 6, 7, 8, 9, 10], [0, 1, 2, 3, 4, 5, 6, 7, 8, 9, 10, 11]] : List (List Nat)).getD j []), [7, 9, 10]⟩ (fun jj vv yy => match jj with | 0 => vv = [some (.agg #[.slice a n c, .bool m, .slice a2 n2 c2])] | 1 => vv = [some (.agg #[.slice a n c, .bool m])] /\ IntAt yy a n c m P | 2 => vv = [some (.agg #[.slice b k l, .bool v, .slice b2 k2 l2])] | 3 => vv = [some (.agg #[.slice b k l, .bool v])] /\ IntAt yy b k l v P' | 4 => vv = [some (.agg #[.slice a n c, .bool m, .slice a2 n2 c2])] | 5 => vv = [some (.agg #[.slice a n c, .bool m])] /\ IntAt yy a n c m P | 6 => ∃ (x6 : Option Addr), ∃ (n6 : Nat), ∃ (c6 : Nat), ∃ (m6 : Bool), vv = [some (.agg #[.slice x6 n6 c6, .bool m6])] /\ IntAt yy x6 n6 c6 m6 NP | 7 => ∃ (k7 : Nat), vv = [some (.slice (some ⟨k7, 0, none⟩) 1 1)] /\ IntsAt yy (some ⟨k7, 0, none⟩) 1 1 (fun _ => NP) | 8 => ∃ (x8 : Option Addr), ∃ (n8 : Nat), ∃ (c8 : Nat), ∃ (m8 : Bool), vv = [some (.agg #[.slice x8 n8 c8, .bool m8])] /\ IntAt yy x8 n8 c8 m8 D | 9 => ∃ (k9 : Nat), ∃ (x0 : Option Addr), ∃ (y0 : Nat), ∃ (z0 : Nat), ∃ (b0 : Bool), vv = [some (.pointer (some ⟨k9, 0, none⟩))] /\ Slot2 yy k9 (.slice x0 y0 z0) (.bool b0) /\ w.heap.size + 1 + 1 < k9 | 10 => ∃ (k10 : Nat), ∃ (x0 : Option Addr), ∃ (y0 : Nat), ∃ (z0 : Nat), ∃ (b0 : Bool), vv = [some (.pointer (some ⟨k10, 0, none⟩))] /\ Slot2 yy k10 (.slice x0 y0 z0) (.bool b0) /\ w.heap.size + 1 + 1 < k10 | 11 => ∃ (k9 : Nat), vv = [some (.pointer (some ⟨k9, 0, none⟩))] /\ Slot2 yy k9 (.slice a n c) (.bool m) | 12 => ∃ (k10 : Nat), ∃ (x8 : Option Addr), ∃ (n8 : Nat), ∃ (c8 : Nat), ∃ (m8 : Bool), vv = [some (.pointer (some ⟨k10, 0, none⟩))] /\ Slot2 yy k10 (.slice x8 n8 c8) (.bool m8) /\ IntAt yy x8 n8 c8 m8 D | _ => True) (Bag w (fun y => Slot3 y (w.heap.size + 1 + 1) (.slice none 0 0) (.bool false) (.slice none 0 0) /\ Slot3 y (w.heap.size + 1) (.slice b k l) (.bool v) (.slice b2 k2 l2) /\ Slot3 y w.heap.size (.slice a n c) (.bool m) (.slice a2 n2 c2) /\ RatAt y b k l v b2 k2 l2 P' 1 /\ RatAt y a n c m a2 n2 c2 P 1 /\ True)) (by kernel_rfl) (by kernel_rfl) (by kernel_rfl) BB.out.drew ?_ ?_ ?_
 · intro jj vv yw yw2 hb h
   match jj, h with
   | 0, h => exact h
   | 1, ⟨e1, g1_0⟩ => exact And.intro e1 (g1_0.below hb)
   | 2, h => exact h
   | 3, ⟨e3, g3_0⟩ => exact And.intro e3 (g3_0.below hb)
   | 4, h => exact h
   | 5, ⟨e5, g5_0⟩ => exact And.intro e5 (g5_0.below hb)
   | 6, ⟨x6, n6, c6, m6, e6, g6_0⟩ => exact Exists.intro x6 (Exists.intro n6 (Exists.intro c6 (Exists.intro m6 (And.intro e6 (g6_0.below hb)))))
   | 7, ⟨k7, e7, g7_0⟩ => exact Exists.intro k7 (And.intro e7 (g7_0.below hb))
   | 8, ⟨x8, n8, c8, m8, e8, g8_0⟩ => exact Exists.intro x8 (Exists.intro n8 (Exists.intro c8 (Exists.intro m8 (And.intro e8 (g8_0.below hb)))))
   | 9, ⟨k9, x0, y0, z0, b0, e9, g9_0, g9_1⟩ => exact Exists.intro k9 (Exists.intro x0 (Exists.intro y0 (Exists.intro z0 (Exists.intro b0 (And.intro e9 (And.intro (g9_0.below hb) g9_1))))))
   | 10, ⟨k10, x0, y0, z0, b0, e10, g10_0, g10_1⟩ => exact Exists.intro k10 (Exists.intro x0 (Exists.intro y0 (Exists.intro z0 (Exists.intro b0 (And.intro e10 (And.intro (g10_0.below hb) g10_1))))))
   | 11, ⟨k9, e11, g11_0⟩ => exact Exists.intro k9 (And.intro e11 (g11_0.below hb))
   | 12, ⟨k10, x8, n8, c8, m8, e12, g12_0, g12_1⟩ => exact Exists.intro k10 (Exists.intro x8 (Exists.intro n8 (Exists.intro c8 (Exists.intro m8 (And.intro e12 (And.intro (g12_0.below hb) (g12_1.below hb)))))))
   | _ + 13, h => exact h
 · intro ac yw hsz hdf hold hB hp hap
   obtain ⟨k9, e11, sF⟩ := hp 11 (by decide)
   have iF := (hp 1 (by decide)).2
   obtain ⟨k10, x8, n8, c8, m8, e12, sR, iR⟩ := hp 12 (by decide)
   have t8 : ac.tmps[8]? = some (.pointer (some ⟨k9, 0, none⟩)) := (List.cons.inj e11).1
   have t9 : ac.tmps[9]? = some (.pointer (some ⟨k10, 0, none⟩)) := (List.cons.inj e12).1
   have hk9 : w.heap.size + 1 + 1 < k9 := by
    obtain ⟨k9', _, _, _, _, e9, _, h9⟩ := hp 9 (by decide)
    have := (List.cons.inj e9).1.symm.trans t8
    cases this
    exact h9
   have hk10 : w.heap.size + 1 + 1 < k10 := by
    obtain ⟨k9', _, _, _, _, e9, _, h9⟩ := hp 10 (by decide)
    have := (List.cons.inj e9).1.symm.trans t9
    cases this
    exact h9
   have hne : k9 ≠ k10 := fun e => hap 9 (by decide) 10 (by decide) (by decide) (by decide) (by decide) k9 ⟨8, _, by kernel_rfl, t8, rfl⟩ ⟨9, _, by kernel_rfl, t9, by rw [e]; rfl⟩
   have t2 : ac.tmps[2]? = some (.int .i64 lm) := hold 2 (by kernel_rfl)
   have t6 : ac.tmps[6]? = some (.pointer (some ⟨w.heap.size + 1 + 1, 0, none⟩)) := hold 6 (by kernel_rfl)
   clear hold hp hap e11 e12 HP
   obtain ⟨TV, hTV⟩ : ∃ TV : Nat -> Value, ∀ i, (ac.tmps[i]?).getD undef = TV i := ⟨_, fun _ => rfl⟩
   have f2 := (hTV 2).symm.trans (congrArg (fun x => Option.getD x undef) t2)
   have f6 := (hTV 6).symm.trans (congrArg (fun x => Option.getD x undef) t6)
   have f8 := (hTV 8).symm.trans (congrArg (fun x => Option.getD x undef) t8)
   have f9 := (hTV 9).symm.trans (congrArg (fun x => Option.getD x undef) t9)
   have hac := act_eq (n := 80) hsz TV hTV
   rw [show ((List.range 80).map TV).toArray = #[TV 0, TV 1, TV 2, TV 3, TV 4, TV 5, TV 6, TV 7, TV 8, TV 9, TV 10, TV 11, TV 12, TV 13, TV 14, TV 15, TV 16, TV 17, TV 18, TV 19, TV 20, TV 21, TV 22, TV 23, TV 24, TV 25, TV 26, TV 27, TV 28, TV 29, TV 30, TV 31, TV 32, TV 33, TV 34, TV 35, TV 36, TV 37, TV 38, TV 39, TV 40, TV 41, TV 42, TV 43, TV 44, TV 45, TV 46, TV 47, TV 48, TV 49, TV 50, TV 51, TV 52, TV 53, TV 54, TV 55, TV 56, TV 57, TV 58, TV 59, TV 60, TV 61, TV 62, TV 63, TV 64, TV 65, TV 66, TV 67, TV 68, TV 69, TV 70, TV 71, TV 72, TV 73, TV 74, TV 75, TV 76, TV 77, TV 78, TV 79] from rfl, f2, f6, f8, f9, hdf] at hac
   simp only [Option.getD_some] at hac
   subst hac
   clear hTV f2 f6 f8 f9
   clear t2 t6 t8 t9 hsz
   have BB := Lib.hid ((((hB.slot2 sF).slot2 sR).int iF).int iR)
   have hD := HDD.out
   obtain ⟨hp, hp'⟩ := HPP.out
   clear sF sR hB TA TB MN PL CA CB
   have e8 : m8 = decide (D < 0) := iR.1
   clear iF iR
   by_cases hlt : P' < P
   · rw [decide_eq_true (show D < 0 by omega)] at e8
     subst e8
     have NG := Lib.hid (fun wz h => neg_any x8 n8 c8 true D wz h)
     have FR := Lib.hid (fun wz => ratFrom_any 0 wz (by omega))
     have HGD := Lib.hid (GD.out (0, 1, 0) (by rw [ways_less hp hp' (by omega)]) (by decide))
     clear hp hp' hD hlt GD HPK HPP HDD
     have p0 := BB.out.now.2.2.1.cell
     have p1 := BB.out.now.2.2.1.cell1
     go_wp2_with fail
     go_at_call 127
     (with_reducible refine (NG.out _ BB.out.now.1).mono ?_)
     rintro e w3 ⟨rfl, hb3⟩
     have BB := Lib.hid (BB.out.go hb3)
     clear hb3
     clear p0 p1
     go_wp2_with fail
     go_at_call 26
     (with_reducible refine (FR.out _).mono ?_)
     rintro e w4 ⟨x4, xn4, xc4, xm4, y4, yn4, yc4, rfl, hr4, hb4⟩
     have BB := Lib.hid (BB.out.go hb4)
     clear hb4
     have hs := BB.out.now.2.2.2.2.1
     have u0 := hs.cell
     have u1 := hs.cell1
     have u2 := hs.cell2
     have g0 := hs.free
     have g1 := hs.free1
     have g2 := hs.free2
     have HS := hs.set (.slice x4 xn4 xc4) (.bool xm4) (.slice y4 yn4 yc4)
     have HE := Lib.hid (RatTold4.done 0 BB.out.below (by omega) hs hr4)
     clear hs
     go_wp2
     exact bodyPost_ret (v := .tuple #[.agg #[.slice x4 xn4 xc4, .bool xm4, .slice y4 yn4 yc4], .int .i64 0]) (by simp [results, Tryz.results154, go_sem, HS]) rfl ⟨(0, 1, 0), HE.out, HGD.out⟩
   · rw [decide_eq_false (show ¬ D < 0 by omega)] at e8
     subst e8
     by_cases hsw : D < P
     · have hcz : decide (cmpZ D P < 0) = true := by unfold cmpZ; rw [if_pos hsw]; rfl
       have CM := Lib.hid (fun wz h g => icmp_any x8 n8 c8 false D a n c m P wz h g)
       have NG := Lib.hid (fun wz h => neg_any x8 n8 c8 false D wz h)
       generalize cmpZ D P = cz at *
       obtain ⟨kk, hkk⟩ : ∃ z, fewK P P' = z := ⟨_, rfl⟩
       obtain ⟨rr, hrr⟩ : ∃ z, P'.toNat - fewK P P' = z := ⟨_, rfl⟩
       have ekk : (kk : Int) = D := by rw [← hkk]; unfold fewK; omega
       have err : (rr : Int) = P := by rw [← hrr]; unfold fewK; omega
       have hkr : kk <= rr := by omega
       have HL3 := Lib.hid (fun j (hj : j <= kk) (hb : ∀ i, i < j -> (lbs (wy rr i) : Int) <= lm) (h : j = kk ∨ lm < lbs (wy rr j)) => GD.out (((wy rr j : Nat) : Int), 1, 0) (by have := lim3_ways (l := lm) hp (show P <= P' by omega) (j := j) (by rw [hkk]; exact hj) (by rw [hrr]; exact hb) (by rw [hrr, hkk]; exact h); rw [hrr] at this; exact this) (Nat.one_pos))
       have HFAR : Hid (fitB (kk : Int) = false -> Good3 lm (0, 1, 26) (waysT P 1 P' 1 lm)) := Lib.hid (fun hf => GD.out (0, 1, 26) (by rw [ways_far hp (by omega) (by rw [hkk]; unfold fitB at hf; rw [decide_eq_false_iff_not] at hf; omega) hm.2]) Nat.one_pos)
       have HKB : Hid (kk < 4294967296 ^ K /\ rr < 4294967296 ^ (K + 1)) := by
        have h1 := HPK.out.1
        have h3 := HPK.out.2
        have h5 : (4294967296 : Nat) ^ (K + 1) = 4294967296 ^ K * 4294967296 := Nat.pow_succ _ _
        constructor <;> omega
       have p0 := BB.out.now.2.2.1.cell
       have p1 := BB.out.now.2.2.1.cell1
       have q0 := BB.out.now.2.2.2.1.cell
       have q1 := BB.out.now.2.2.2.1.cell1
       have HKR := Lib.hid hkr
       clear hp hp' hD hlt GD HPK HPP HDD hsw hkk hrr hkr
       go_wp2_with fail
       go_at_call 127
       (with_reducible refine (NG.out _ BB.out.now.1).mono ?_)
       rintro e w3 ⟨rfl, hb3⟩
       have BB := Lib.hid (BB.out.go hb3)
       clear hb3
       clear p0 p1 q0 q1
       have p0 := BB.out.now.2.2.1.cell
       have p1 := BB.out.now.2.2.1.cell1
       have q0 := BB.out.now.2.2.2.1.cell
       have q1 := BB.out.now.2.2.2.1.cell1
       go_wp2_with fail
       go_at_call 69
       (with_reducible refine (CM.out _ BB.out.now.1 BB.out.now.2.1).mono ?_)
       rintro e w4 ⟨rfl, hb4⟩
       have BB := Lib.hid (BB.out.go hb4)
       clear hb4
       clear p0 p1 q0 q1
       have p0 := BB.out.now.2.2.1.cell
       have p1 := BB.out.now.2.2.1.cell1
       have q0 := BB.out.now.2.2.2.1.cell
       have q1 := BB.out.now.2.2.2.1.cell1
       have hsF := BB.out.now.2.2.2.1
       have hsR := BB.out.now.2.2.1
       have gF0 := hsF.free
       have gF1 := hsF.free1
       have gR0 := hsR.free
       have gR1 := hsR.free1
       have BB3 := Lib.hid (swap2 BB.out (show w.heap.size <= k9 by omega) (show w.heap.size <= k10 by omega) hne (show w.heap.size + 1 + 1 ≠ k9 by omega) (show w.heap.size + 1 + 1 ≠ k10 by omega))
       have TL : True := trivial
       clear hsF hsR BB
       rw [← ekk, ← err] at BB3
       clear ekk err CM NG
       have IN := Lib.hid (fun wz h => int_any x8 n8 c8 false (kk : Int) wz h)
       have BB := BB3
       clear BB3
       cases hf : fitB (kk : Int) with
       | false =>
        have HGD := Lib.hid (HFAR.out hf)
        rw [hf] at IN
        generalize fitI (kk : Int) = fi at *
        have q0 := BB.out.now.1.cell
        have q1 := BB.out.now.1.cell1
        go_wp2_with fail
        go_at_call 192
        (with_reducible refine (IN.out _ BB.out.now.2.1).mono ?_)
        rintro e w5 ⟨rfl, hb5⟩
        have BB := Lib.hid (BB.out.go hb5)
        clear hb5
        clear q0 q1 hf HFAR HL3
        have hs := BB.out.now.2.2.2.2.1
        have u0 := hs.cell
        have u1 := hs.cell1
        have u2 := hs.cell2
        have g0 := hs.free
        have g1 := hs.free1
        have g2 := hs.free2
        have HS := hs.set (.slice none 0 0) (.bool false) (.slice none 0 0)
        have HE := Lib.hid (RatTold4.done 26 BB.out.below (by omega) hs (RatAt.zero _))
        clear hs
        go_wp2
        exact bodyPost_ret (v := .tuple #[.agg #[.slice none 0 0, .bool false, .slice none 0 0], .int .i64 26]) (by simp [results, Tryz.results154, go_sem, HS]) rfl ⟨(0, 1, 26), HE.out, HGD.out⟩
       | true =>
        have hfi := fit_in hf
        rw [hf, hfi.1] at IN
        have FW := Lib.hid (fun j (hj : j <= 3000) wz => from_any ((j : Nat) : Int) wz (by omega))
        have F1 : Hid (∀ wz, Calls Tryz.prog 74 #[.int .i64 1] wz fun e w' => IntTold wz w' e ((wy rr 0 : Nat) : Int)) := Lib.hid (fun wz => from_any 1 wz (by omega))
        unfold IntTold at F1
        have q0 := BB.out.now.1.cell
        have q1 := BB.out.now.1.cell1
        go_wp2_with fail
        go_at_call 192
        (with_reducible refine (IN.out _ BB.out.now.2.1).mono ?_)
        rintro e w5 ⟨rfl, hb5⟩
        have BB := Lib.hid (BB.out.go hb5)
        clear hb5
        clear q0 q1 hf HFAR IN
        go_wp2_with fail
        go_at_call 74
        (with_reducible refine (F1.out _).mono ?_)
        rintro e w9 ⟨x9, n9, c9, m9, rfl, hi9, hb9⟩
        have hbs9 : w.heap.size + 1 + 1 < w9.heap.size /\ k10 < w9.heap.size := by
         have h1 := (BB.out.go hb9).now.2.2.1.lt
         omega
        have BL := Lib.hid (loop0 (t := 51) (BB.out.go hb9) hi9)
        clear hb9 hi9 BB F1
        go_wp2_with fail
        go_loopw [13] (fun i wr => ∃ (j : Nat) (aw : Option Addr) (nw cw : Nat) (mw : Bool), j <= kk /\ j <= 2050 /\ (∀ i, i < j -> (lbs (wy rr i) : Int) <= lm) /\ i = .int .i64 ((j + 1 : Nat) : Int) /\ Hid (Bag w (fun y => Slot2 y w9.heap.size (.slice aw nw cw) (.bool mw) /\ IntAt y aw nw cw mw ((wy rr j : Nat) : Int) /\ IntAt y a n c m (rr : Int) /\ Slot2 y k10 (.slice a n c) (.bool m) /\ Slot3 y (w.heap.size + 1 + 1) (.slice none 0 0) (.bool false) (.slice none 0 0) /\ True) wr)) (fun i _ => 2200 - (intOf i).toNat)
        case atStart => exact ⟨0, x9, n9, c9, m9, by omega, by omega, fun i hi => absurd hi (Nat.not_lt_zero _), rfl, BL.out⟩
        case round =>
         obtain ⟨j, aw, nw, cw, mw, hjk, hj2, hjl, rfl, hB⟩ := hrel
         have BB := Lib.hid hB.out
         have HJL := Lib.hid hjl
         clear hB hjl
         by_cases h1 : j + 1 <= kk
         · have h1' : (j : Int) + 1 <= (kk : Int) := by omega
           obtain ⟨lk, hlk⟩ : ∃ z, lbs (wy rr j) = z := ⟨_, rfl⟩
           have LK : Hid (∀ wz, IntAt wz aw nw cw mw ((wy rr j : Nat) : Int) -> Calls Tryz.prog 155 #[.agg #[.slice aw nw cw]] wz fun e w' => e = .returned (.int .i64 (lk : Nat)) /\ Below wz.heap.size wz w') := Lib.hid (fun wz h => by
            have := limbs_bits (.agg #[.slice aw nw cw]) (wy rr j) wz (by have q := h.nt; rw [Int.natAbs_natCast] at q; exact q)
            unfold LimbsOut at this
            rw [show (nbits (wy rr j) + 31) / 32 = lk from hlk] at this
            exact this)
           by_cases h2 : (lk : Int) <= lm
           · have hjr : j <= rr := by have := HKR.out; omega
             have hj9 := wy_few (m := 64) hjr (by omega)
             have hVK : wy rr j < 4294967296 ^ 64 := lbs_le32.1 (by omega)
             have HJN : Hid (∀ i, i < j + 1 -> (lbs (wy rr i) : Int) <= lm) := Lib.hid (fun i hi => by
              by_cases e : i < j
              · exact HJL.out i e
              · obtain rfl : i = j := by omega
                omega)
             have FJ : Hid (∀ wz, Calls Tryz.prog 74 #[.int .i64 ((j : Int) + 1)] wz fun e w' => IntTold wz w' e ((j + 1 : Nat) : Int)) := Lib.hid (fun wz => FW.out (j + 1) (by omega) wz)
             have hSK : rr + (j + 1) < 4294967296 ^ (K + 66) := by
              have h5 := HKB.out.2
              have h6 : (4294967296 : Nat) ^ (K + 1) * 4294967296 <= 4294967296 ^ (K + 66) := by
               rw [← Nat.pow_succ]
               exact Nat.pow_le_pow_right (by omega) (by omega)
              have h7 : 0 < (4294967296 : Nat) ^ (K + 1) := Nat.pow_pos (by omega)
              omega
             have PL : Hid (∀ sa wz, IntAt wz a n c m (rr : Int) -> IntsAt wz sa 1 1 (fun _ => ((j + 1 : Nat) : Int)) -> Calls Tryz.prog 129 #[.agg #[.slice a n c, .bool m], .slice sa 1 1] wz fun e w' => IntTold wz w' e ((rr + (j + 1) : Nat) : Int)) := Lib.hid (fun sa wz h g => by
              have := plus1_any a n c m (rr : Int) sa ((j + 1 : Nat) : Int) wz h g (K + 66) (by omega) (by rw [Int.natAbs_natCast, Int.natAbs_natCast]; exact hSK)
              rw [show (rr : Int) + ((j + 1 : Nat) : Int) = ((rr + (j + 1) : Nat) : Int) by omega] at this
              exact this)
             have TM : Hid (∀ sa wz, IntAt wz aw nw cw mw ((wy rr j : Nat) : Int) -> IntsAt wz sa 1 1 (fun _ => ((rr + (j + 1) : Nat) : Int)) -> Calls Tryz.prog 70 #[.agg #[.slice aw nw cw, .bool mw], .slice sa 1 1] wz fun e w' => IntTold wz w' e ((wy rr j * (rr + (j + 1)) : Nat) : Int)) := Lib.hid (fun sa wz h g => by
              have := times1_any aw nw cw mw ((wy rr j : Nat) : Int) sa ((rr + (j + 1) : Nat) : Int) wz h g (K + 66) (by omega) (by rw [Int.natAbs_natCast]; exact lt32_up hVK (by omega)) (by rw [Int.natAbs_natCast]; exact hSK)
              rw [show ((wy rr j : Nat) : Int) * ((rr + (j + 1) : Nat) : Int) = ((wy rr j * (rr + (j + 1)) : Nat) : Int) from (Int.natCast_mul _ _).symm] at this
              exact this)
             have FL : Hid (∀ a n c m x y z u wz, IntAt wz a n c m ((wy rr j * (rr + (j + 1)) : Nat) : Int) -> IntAt wz x y z u ((j + 1 : Nat) : Int) -> Calls Tryz.prog 193 #[.agg #[.slice a n c, .bool m], .agg #[.slice x y z, .bool u]] wz fun e w' => FloorTold wz w' e ((wy rr (j + 1) : Nat) : Int) (flR ((wy rr j * (rr + (j + 1)) : Nat) : Int) ((j + 1 : Nat) : Int))) := Lib.hid (fun a n c m x y z u wz h g => by
              have := floor_any a n c m ((wy rr j * (rr + (j + 1)) : Nat) : Int) x y z u ((j + 1 : Nat) : Int) wz h g (K + 66 + (K + 66)) (by omega) (by rw [Int.natAbs_natCast]; exact mul_lt32 (lt32_up hVK (by omega)) hSK) (by omega)
              rw [flQ_nat] at this
              exact this)
             unfold IntTold at FJ PL TM
             unfold FloorTold at FL
             have q0 := BB.out.now.1.cell
             have q1 := BB.out.now.1.cell1
             clear hlk hVK hSK
             go_wp2_with fail
             go_at_call 155
             (with_reducible refine (LK.out _ BB.out.now.2.1).mono ?_)
             rintro e w20 ⟨rfl, hb20⟩
             have BB := Lib.hid (BB.out.go hb20)
             clear hb20
             clear q0 q1
             go_wp2_with fail
             go_at_call 74
             (with_reducible refine (FJ.out _).mono ?_)
             rintro e w10 ⟨x10, n10, c10, m10, rfl, hi10, hb10⟩
             have hbs10 : w9.heap.size < w10.heap.size := (BB.out.go hb10).now.1.lt
             have BY := Lib.hid (loop1 (t := 51) (W8 := w.heap.size + 1 + 1) (W9 := k10) (BB.out.go hb10) hi10)
             clear hb10 hi10 BB FJ LK
             obtain ⟨W12, hW12⟩ : ∃ z, w9.heap.size = z := ⟨_, rfl⟩
             obtain ⟨W14, hW14⟩ : ∃ z, w10.heap.size = z := ⟨_, rfl⟩
             have HP13 := Lib.hid (fun f y (h : Bag w (WYP (w.heap.size + 1 + 1) k10 w9.heap.size w10.heap.size a n c m (rr : Int) aw nw cw mw ((wy rr j : Nat) : Int) x10 n10 c10 m10 ((j + 1 : Nat) : Int) f) y) x0 y0 z0 b0 (s : Slot2 y w9.heap.size (.slice x0 y0 z0) (.bool b0)) a n c m => WYP.put h s (by omega) (by omega) (by omega) (by omega) a n c m)
             have HVV : Hid (True) := Lib.hid trivial
             obtain ⟨V0, hV0⟩ : ∃ z, ((wy rr j : Nat) : Int) = z := ⟨_, rfl⟩
             obtain ⟨V1, hV1⟩ : ∃ z, ((wy rr (j + 1) : Nat) : Int) = z := ⟨_, rfl⟩
             obtain ⟨I1, hI1⟩ : ∃ z, ((j + 1 : Nat) : Int) = z := ⟨_, rfl⟩
             obtain ⟨SM, hSM⟩ : ∃ z, ((rr + (j + 1) : Nat) : Int) = z := ⟨_, rfl⟩
             obtain ⟨PR, hPR⟩ : ∃ z, ((wy rr j * (rr + (j + 1)) : Nat) : Int) = z := ⟨_, rfl⟩
             rw [hI1, hSM] at PL
             rw [hV0, hSM, hPR] at TM
             rw [hPR, hI1, hV1] at FL
             rw [hV0, hI1] at BY HP13
             have HV1 := Lib.hid hV1
             generalize flR PR I1 = FR1 at *
             clear hV0 hV1 hI1 hSM hPR hW12 hW14
             go_wp2_with fail
             refine wp_region_inv4 ⟨(fun j => ([[66], [67], [68], [69], [70], [71], [72], [73], [74], [65], [75], [76], [77], []] : List (List Nat)).getD j []), (fun j => ([[], [], [], [2], [1, 2, 3], [1, 2, 3, 4], [0, 1, 2, 3, 4, 5], [], [0, 1, 2, 3, 4, 5, 6, 7], [0, 1, 2, 3, 4, 5, 6, 7, 8], [0, 1, 2, 3, 4, 5, 6, 7, 8, 9], [0, 1, 2, 3, 4, 5, 6, 7, 8, 9], [0, 1, 2, 3, 4, 5, 6, 7, 8, 9], [0, 1, 2, 3, 4, 5, 6, 7, 8, 9, 10]] : List (List Nat)).getD j []), [3, 5]⟩ (fun jj vv yy => match jj with | 0 => vv = [some (.agg #[.slice aw nw cw, .bool mw])] | 1 => vv = [some (.agg #[.slice a n c, .bool m])] | 2 => vv = [some (.agg #[.slice x10 n10 c10, .bool m10])] | 3 => ∃ (k3 : Nat), vv = [some (.slice (some ⟨k3, 0, none⟩) 1 1)] /\ IntsAt yy (some ⟨k3, 0, none⟩) 1 1 (fun _ => I1) /\ w9.heap.size < k3 | 4 => ∃ (x104 : Option Addr), ∃ (n104 : Nat), ∃ (c104 : Nat), ∃ (m104 : Bool), vv = [some (.agg #[.slice x104 n104 c104, .bool m104])] /\ IntAt yy x104 n104 c104 m104 SM | 5 => ∃ (k5 : Nat), vv = [some (.slice (some ⟨k5, 0, none⟩) 1 1)] /\ IntsAt yy (some ⟨k5, 0, none⟩) 1 1 (fun _ => SM) /\ w9.heap.size < k5 | 6 => ∃ (x106 : Option Addr), ∃ (n106 : Nat), ∃ (c106 : Nat), ∃ (m106 : Bool), vv = [some (.agg #[.slice x106 n106 c106, .bool m106])] /\ IntAt yy x106 n106 c106 m106 PR | 7 => vv = [some (.agg #[.slice x10 n10 c10, .bool m10])] | 8 => ∃ (x108 : Option Addr), ∃ (n108 : Nat), ∃ (c108 : Nat), ∃ (m108 : Bool), ∃ (x109 : Option Addr), ∃ (n109 : Nat), ∃ (c109 : Nat), ∃ (m109 : Bool), vv = [some (.tuple #[.agg #[.slice x108 n108 c108, .bool m108], .agg #[.slice x109 n109 c109, .bool m109], .bool true])] /\ IntAt yy x108 n108 c108 m108 V1 /\ IntAt yy x109 n109 c109 m109 FR1 | 9 => ∃ (x108 : Option Addr), ∃ (n108 : Nat), ∃ (c108 : Nat), ∃ (m108 : Bool), ∃ (x109 : Option Addr), ∃ (n109 : Nat), ∃ (c109 : Nat), ∃ (m109 : Bool), vv = [some (.tuple #[.agg #[.slice x108 n108 c108, .bool m108], .agg #[.slice x109 n109 c109, .bool m109], .bool true])] /\ IntAt yy x108 n108 c108 m108 V1 /\ IntAt yy x109 n109 c109 m109 FR1 | 10 => ∃ (x108 : Option Addr), ∃ (n108 : Nat), ∃ (c108 : Nat), ∃ (m108 : Bool), vv = [some (.agg #[.slice x108 n108 c108, .bool m108])] /\ IntAt yy x108 n108 c108 m108 V1 | 11 => ∃ (x109 : Option Addr), ∃ (n109 : Nat), ∃ (c109 : Nat), ∃ (m109 : Bool), vv = [some (.agg #[.slice x109 n109 c109, .bool m109])] /\ IntAt yy x109 n109 c109 m109 FR1 | 12 => vv = [some (.bool true)] | 13 => ∃ (x108 : Option Addr), ∃ (n108 : Nat), ∃ (c108 : Nat), ∃ (m108 : Bool), Slot2 yy (w9.heap.size) (.slice x108 n108 c108) (.bool m108) /\ IntAt yy x108 n108 c108 m108 V1 | _ => True) (fun f => Bag w (WYP (w.heap.size + 1 + 1) k10 w9.heap.size w10.heap.size a n c m (rr : Int) aw nw cw mw V0 x10 n10 c10 m10 I1 f)) (by kernel_rfl) (by kernel_rfl) (by kernel_rfl) BY.out.drew ?_ ?_ ?_
             · intro jj vv yw yw2 hb h
               match jj, h with
               | 0, h => exact h
               | 1, h => exact h
               | 2, h => exact h
               | 3, ⟨k3, e3, g3_0, g3_1⟩ => exact Exists.intro k3 (And.intro e3 (And.intro (g3_0.below hb) g3_1))
               | 4, ⟨x104, n104, c104, m104, e4, g4_0⟩ => exact Exists.intro x104 (Exists.intro n104 (Exists.intro c104 (Exists.intro m104 (And.intro e4 (g4_0.below hb)))))
               | 5, ⟨k5, e5, g5_0, g5_1⟩ => exact Exists.intro k5 (And.intro e5 (And.intro (g5_0.below hb) g5_1))
               | 6, ⟨x106, n106, c106, m106, e6, g6_0⟩ => exact Exists.intro x106 (Exists.intro n106 (Exists.intro c106 (Exists.intro m106 (And.intro e6 (g6_0.below hb)))))
               | 7, h => exact h
               | 8, ⟨x108, n108, c108, m108, x109, n109, c109, m109, e8, g8_0, g8_1⟩ => exact Exists.intro x108 (Exists.intro n108 (Exists.intro c108 (Exists.intro m108 (Exists.intro x109 (Exists.intro n109 (Exists.intro c109 (Exists.intro m109 (And.intro e8 (And.intro (g8_0.below hb) (g8_1.below hb))))))))))
               | 9, ⟨x108, n108, c108, m108, x109, n109, c109, m109, e9, g9_0, g9_1⟩ => exact Exists.intro x108 (Exists.intro n108 (Exists.intro c108 (Exists.intro m108 (Exists.intro x109 (Exists.intro n109 (Exists.intro c109 (Exists.intro m109 (And.intro e9 (And.intro (g9_0.below hb) (g9_1.below hb))))))))))
               | 10, ⟨x108, n108, c108, m108, e10, g10_0⟩ => exact Exists.intro x108 (Exists.intro n108 (Exists.intro c108 (Exists.intro m108 (And.intro e10 (g10_0.below hb)))))
               | 11, ⟨x109, n109, c109, m109, e11, g11_0⟩ => exact Exists.intro x109 (Exists.intro n109 (Exists.intro c109 (Exists.intro m109 (And.intro e11 (g11_0.below hb)))))
               | 12, h => exact h
               | 13, ⟨x108, n108, c108, m108, g13_0, g13_1⟩ => exact Exists.intro x108 (Exists.intro n108 (Exists.intro c108 (Exists.intro m108 (And.intro (g13_0.below hb) (g13_1.below hb)))))
               | _ + 14, h => exact h
             · intro ac yw hsz hdf hold hB hp
               obtain ⟨x108, n108, c108, m108, s12, hiV⟩ := hp 13 (by decide)
               have t0 : ac.tmps[0]? = some (TV 0) := hold 0 (by kernel_rfl)
               have t1 : ac.tmps[1]? = some (TV 1) := hold 1 (by kernel_rfl)
               have t2 : ac.tmps[2]? = some (.int .i64 lm) := hold 2 (by kernel_rfl)
               have t3 : ac.tmps[3]? = some (TV 3) := hold 3 (by kernel_rfl)
               have t4 : ac.tmps[4]? = some (TV 4) := hold 4 (by kernel_rfl)
               have t5 : ac.tmps[5]? = some (TV 5) := hold 5 (by kernel_rfl)
               have t6 : ac.tmps[6]? = some (.pointer (some ⟨w.heap.size + 1 + 1, 0, none⟩)) := hold 6 (by kernel_rfl)
               have t7 : ac.tmps[7]? = some (TV 7) := hold 7 (by kernel_rfl)
               have t8 : ac.tmps[8]? = some (.pointer (some ⟨k9, 0, none⟩)) := hold 8 (by kernel_rfl)
               have t9 : ac.tmps[9]? = some (.pointer (some ⟨k10, 0, none⟩)) := hold 9 (by kernel_rfl)
               have t10 : ac.tmps[10]? = some (.int .i64 (kk : Int)) := hold 10 (by kernel_rfl)
               have t11 : ac.tmps[11]? = some (.bool true) := hold 11 (by kernel_rfl)
               have t12 : ac.tmps[12]? = some (.pointer (some ⟨w9.heap.size, 0, none⟩)) := hold 12 (by kernel_rfl)
               have t13 : ac.tmps[13]? = some (.int .i64 ((j : Int) + 1)) := hold 13 (by kernel_rfl)
               have t15 : ac.tmps[15]? = some (TV 15) := hold 15 (by kernel_rfl)
               have t16 : ac.tmps[16]? = some (TV 16) := hold 16 (by kernel_rfl)
               have t17 : ac.tmps[17]? = some (TV 17) := hold 17 (by kernel_rfl)
               have t18 : ac.tmps[18]? = some (TV 18) := hold 18 (by kernel_rfl)
               have t19 : ac.tmps[19]? = some (TV 19) := hold 19 (by kernel_rfl)
               have t20 : ac.tmps[20]? = some (TV 20) := hold 20 (by kernel_rfl)
               have t21 : ac.tmps[21]? = some (TV 21) := hold 21 (by kernel_rfl)
               have t22 : ac.tmps[22]? = some (TV 22) := hold 22 (by kernel_rfl)
               have t23 : ac.tmps[23]? = some (TV 23) := hold 23 (by kernel_rfl)
               have t24 : ac.tmps[24]? = some (TV 24) := hold 24 (by kernel_rfl)
               have t25 : ac.tmps[25]? = some (TV 25) := hold 25 (by kernel_rfl)
               have t26 : ac.tmps[26]? = some (TV 26) := hold 26 (by kernel_rfl)
               have t27 : ac.tmps[27]? = some (TV 27) := hold 27 (by kernel_rfl)
               have t28 : ac.tmps[28]? = some (TV 28) := hold 28 (by kernel_rfl)
               have t29 : ac.tmps[29]? = some (TV 29) := hold 29 (by kernel_rfl)
               have t30 : ac.tmps[30]? = some (TV 30) := hold 30 (by kernel_rfl)
               have t31 : ac.tmps[31]? = some (TV 31) := hold 31 (by kernel_rfl)
               have t32 : ac.tmps[32]? = some (TV 32) := hold 32 (by kernel_rfl)
               have t33 : ac.tmps[33]? = some (.agg #[.slice x8 n8 c8, .bool false]) := hold 33 (by kernel_rfl)
               have t34 : ac.tmps[34]? = some (.bool false) := hold 34 (by kernel_rfl)
               have t35 : ac.tmps[35]? = some (TV 35) := hold 35 (by kernel_rfl)
               have t36 : ac.tmps[36]? = some (.agg #[.slice x8 n8 c8, .bool false]) := hold 36 (by kernel_rfl)
               have t37 : ac.tmps[37]? = some (.agg #[.slice a n c, .bool m]) := hold 37 (by kernel_rfl)
               have t38 : ac.tmps[38]? = some (.int .i64 cz) := hold 38 (by kernel_rfl)
               have t39 : ac.tmps[39]? = some (.bool true) := hold 39 (by kernel_rfl)
               have t40 : ac.tmps[40]? = some (.agg #[.slice x8 n8 c8, .bool false]) := hold 40 (by kernel_rfl)
               have t41 : ac.tmps[41]? = some (.agg #[.slice a n c, .bool m]) := hold 41 (by kernel_rfl)
               have t42 : ac.tmps[42]? = some (.tuple #[.int .i64 (kk : Int), .bool true]) := hold 42 (by kernel_rfl)
               have t43 : ac.tmps[43]? = some (.agg #[.slice x8 n8 c8, .bool false]) := hold 43 (by kernel_rfl)
               have t44 : ac.tmps[44]? = some (.tuple #[.int .i64 (kk : Int), .bool true]) := hold 44 (by kernel_rfl)
               have t45 : ac.tmps[45]? = some (.int .i64 (kk : Int)) := hold 45 (by kernel_rfl)
               have t46 : ac.tmps[46]? = some (.bool true) := hold 46 (by kernel_rfl)
               have t47 : ac.tmps[47]? = some (.bool true) := hold 47 (by kernel_rfl)
               have t48 : ac.tmps[48]? = some (.bool false) := hold 48 (by kernel_rfl)
               have t49 : ac.tmps[49]? = some (TV 49) := hold 49 (by kernel_rfl)
               have t50 : ac.tmps[50]? = some (.agg #[.slice x9 n9 c9, .bool m9]) := hold 50 (by kernel_rfl)
               have t78 : ac.tmps[78]? = some (TV 78) := hold 78 (by kernel_rfl)
               have t79 : ac.tmps[79]? = some (TV 79) := hold 79 (by kernel_rfl)
               clear hold hp
               obtain ⟨TW, hTW⟩ : ∃ TW : Nat -> Value, ∀ i, (ac.tmps[i]?).getD undef = TW i := ⟨_, fun _ => rfl⟩
               have f0 := (hTW 0).symm.trans (congrArg (fun x => Option.getD x undef) t0)
               have f1 := (hTW 1).symm.trans (congrArg (fun x => Option.getD x undef) t1)
               have f2 := (hTW 2).symm.trans (congrArg (fun x => Option.getD x undef) t2)
               have f3 := (hTW 3).symm.trans (congrArg (fun x => Option.getD x undef) t3)
               have f4 := (hTW 4).symm.trans (congrArg (fun x => Option.getD x undef) t4)
               have f5 := (hTW 5).symm.trans (congrArg (fun x => Option.getD x undef) t5)
               have f6 := (hTW 6).symm.trans (congrArg (fun x => Option.getD x undef) t6)
               have f7 := (hTW 7).symm.trans (congrArg (fun x => Option.getD x undef) t7)
               have f8 := (hTW 8).symm.trans (congrArg (fun x => Option.getD x undef) t8)
               have f9 := (hTW 9).symm.trans (congrArg (fun x => Option.getD x undef) t9)
               have f10 := (hTW 10).symm.trans (congrArg (fun x => Option.getD x undef) t10)
               have f11 := (hTW 11).symm.trans (congrArg (fun x => Option.getD x undef) t11)
               have f12 := (hTW 12).symm.trans (congrArg (fun x => Option.getD x undef) t12)
               have f13 := (hTW 13).symm.trans (congrArg (fun x => Option.getD x undef) t13)
               have f15 := (hTW 15).symm.trans (congrArg (fun x => Option.getD x undef) t15)
               have f16 := (hTW 16).symm.trans (congrArg (fun x => Option.getD x undef) t16)
               have f17 := (hTW 17).symm.trans (congrArg (fun x => Option.getD x undef) t17)
               have f18 := (hTW 18).symm.trans (congrArg (fun x => Option.getD x undef) t18)
               have f19 := (hTW 19).symm.trans (congrArg (fun x => Option.getD x undef) t19)
               have f20 := (hTW 20).symm.trans (congrArg (fun x => Option.getD x undef) t20)
               have f21 := (hTW 21).symm.trans (congrArg (fun x => Option.getD x undef) t21)
               have f22 := (hTW 22).symm.trans (congrArg (fun x => Option.getD x undef) t22)
               have f23 := (hTW 23).symm.trans (congrArg (fun x => Option.getD x undef) t23)
               have f24 := (hTW 24).symm.trans (congrArg (fun x => Option.getD x undef) t24)
               have f25 := (hTW 25).symm.trans (congrArg (fun x => Option.getD x undef) t25)
               have f26 := (hTW 26).symm.trans (congrArg (fun x => Option.getD x undef) t26)
               have f27 := (hTW 27).symm.trans (congrArg (fun x => Option.getD x undef) t27)
               have f28 := (hTW 28).symm.trans (congrArg (fun x => Option.getD x undef) t28)
               have f29 := (hTW 29).symm.trans (congrArg (fun x => Option.getD x undef) t29)
               have f30 := (hTW 30).symm.trans (congrArg (fun x => Option.getD x undef) t30)
               have f31 := (hTW 31).symm.trans (congrArg (fun x => Option.getD x undef) t31)
               have f32 := (hTW 32).symm.trans (congrArg (fun x => Option.getD x undef) t32)
               have f33 := (hTW 33).symm.trans (congrArg (fun x => Option.getD x undef) t33)
               have f34 := (hTW 34).symm.trans (congrArg (fun x => Option.getD x undef) t34)
               have f35 := (hTW 35).symm.trans (congrArg (fun x => Option.getD x undef) t35)
               have f36 := (hTW 36).symm.trans (congrArg (fun x => Option.getD x undef) t36)
               have f37 := (hTW 37).symm.trans (congrArg (fun x => Option.getD x undef) t37)
               have f38 := (hTW 38).symm.trans (congrArg (fun x => Option.getD x undef) t38)
               have f39 := (hTW 39).symm.trans (congrArg (fun x => Option.getD x undef) t39)
               have f40 := (hTW 40).symm.trans (congrArg (fun x => Option.getD x undef) t40)
               have f41 := (hTW 41).symm.trans (congrArg (fun x => Option.getD x undef) t41)
               have f42 := (hTW 42).symm.trans (congrArg (fun x => Option.getD x undef) t42)
               have f43 := (hTW 43).symm.trans (congrArg (fun x => Option.getD x undef) t43)
               have f44 := (hTW 44).symm.trans (congrArg (fun x => Option.getD x undef) t44)
               have f45 := (hTW 45).symm.trans (congrArg (fun x => Option.getD x undef) t45)
               have f46 := (hTW 46).symm.trans (congrArg (fun x => Option.getD x undef) t46)
               have f47 := (hTW 47).symm.trans (congrArg (fun x => Option.getD x undef) t47)
               have f48 := (hTW 48).symm.trans (congrArg (fun x => Option.getD x undef) t48)
               have f49 := (hTW 49).symm.trans (congrArg (fun x => Option.getD x undef) t49)
               have f50 := (hTW 50).symm.trans (congrArg (fun x => Option.getD x undef) t50)
               have f78 := (hTW 78).symm.trans (congrArg (fun x => Option.getD x undef) t78)
               have f79 := (hTW 79).symm.trans (congrArg (fun x => Option.getD x undef) t79)
               have hac := act_eq (n := 80) hsz TW hTW
               rw [show ((List.range 80).map TW).toArray = #[TW 0, TW 1, TW 2, TW 3, TW 4, TW 5, TW 6, TW 7, TW 8, TW 9, TW 10, TW 11, TW 12, TW 13, TW 14, TW 15, TW 16, TW 17, TW 18, TW 19, TW 20, TW 21, TW 22, TW 23, TW 24, TW 25, TW 26, TW 27, TW 28, TW 29, TW 30, TW 31, TW 32, TW 33, TW 34, TW 35, TW 36, TW 37, TW 38, TW 39, TW 40, TW 41, TW 42, TW 43, TW 44, TW 45, TW 46, TW 47, TW 48, TW 49, TW 50, TW 51, TW 52, TW 53, TW 54, TW 55, TW 56, TW 57, TW 58, TW 59, TW 60, TW 61, TW 62, TW 63, TW 64, TW 65, TW 66, TW 67, TW 68, TW 69, TW 70, TW 71, TW 72, TW 73, TW 74, TW 75, TW 76, TW 77, TW 78, TW 79] from rfl, f0, f1, f2, f3, f4, f5, f6, f7, f8, f9, f10, f11, f12, f13, f15, f16, f17, f18, f19, f20, f21, f22, f23, f24, f25, f26, f27, f28, f29, f30, f31, f32, f33, f34, f35, f36, f37, f38, f39, f40, f41, f42, f43, f44, f45, f46, f47, f48, f49, f50, f78, f79, hdf] at hac
               simp only [Option.getD_some] at hac
               subst hac
               clear hTW f0 f1 f2 f3 f4 f5 f6 f7 f8 f9 f10 f11 f12 f13 f15 f16 f17 f18 f19 f20 f21 f22 f23 f24 f25 f26 f27 f28 f29 f30 f31 f32 f33 f34 f35 f36 f37 f38 f39 f40 f41 f42 f43 f44 f45 f46 f47 f48 f49 f50 f78 f79
               rw [← HV1.out] at hiV
               have BB := Lib.hid (loop2 hB s12 hiV)
               clear hB s12 hiV HP13 PL TM FL t0 t1 t2 t3 t4 t5 t6 t7 t8 t9 t10 t11 t12 t13 t15 t16 t17 t18 t19 t20 t21 t22 t23 t24 t25 t26 t27 t28 t29 t30 t31 t32 t33 t34 t35 t36 t37 t38 t39 t40 t41 t42 t43 t44 t45 t46 t47 t48 t49 t50 t78 t79
               go_wp2_with fail
               go_roundw
               case rel => exact ⟨j + 1, x108, n108, c108, m108, h1, by omega, HJN.out, by go_num, BB.out⟩
               case measure => simp [intOf]; omega
             refine Stps4.cons (o := _) ?_ ?_
             · intro f ac yw hsz hold hB hp hf K hK
               have t12 : ac.tmps[12]? = some (.pointer (some ⟨w9.heap.size, 0, none⟩)) := hold 12 (by kernel_rfl)
               have v0 := (hB.now.1 (hf 13 (by decide))).cell
               have v1 := (hB.now.1 (hf 13 (by decide))).cell1
               have v2 := hB.now.2.2.1.cell
               have v3 := hB.now.2.2.1.cell1
               have v4 := hB.now.2.2.2.2.2.2.1.cell
               have v5 := hB.now.2.2.2.2.2.2.1.cell1
               clear hold hp hsz hf
               go_simp
               exact hK.out _ _ ⟨hB, rfl, Nat.le_refl _, .inl (Below.refl _ _), fun h => absurd h (by decide)⟩
             refine Stps4.cons (o := _) ?_ ?_
             · intro f ac yw hsz hold hB hp hf K hK
               have t9 : ac.tmps[9]? = some (.pointer (some ⟨k10, 0, none⟩)) := hold 9 (by kernel_rfl)
               have v0 := (hB.now.1 (hf 13 (by decide))).cell
               have v1 := (hB.now.1 (hf 13 (by decide))).cell1
               have v2 := hB.now.2.2.1.cell
               have v3 := hB.now.2.2.1.cell1
               have v4 := hB.now.2.2.2.2.2.2.1.cell
               have v5 := hB.now.2.2.2.2.2.2.1.cell1
               clear hold hp hsz hf
               go_simp
               exact hK.out _ _ ⟨hB, rfl, Nat.le_refl _, .inl (Below.refl _ _), fun h => absurd h (by decide)⟩
             refine Stps4.cons (o := _) ?_ ?_
             · intro f ac yw hsz hold hB hp hf K hK
               have t14 : ac.tmps[14]? = some (.pointer (some ⟨w10.heap.size, 0, none⟩)) := hold 14 (by kernel_rfl)
               have v0 := (hB.now.1 (hf 13 (by decide))).cell
               have v1 := (hB.now.1 (hf 13 (by decide))).cell1
               have v2 := hB.now.2.2.1.cell
               have v3 := hB.now.2.2.1.cell1
               have v4 := hB.now.2.2.2.2.2.2.1.cell
               have v5 := hB.now.2.2.2.2.2.2.1.cell1
               clear hold hp hsz hf
               go_simp
               exact hK.out _ _ ⟨hB, rfl, Nat.le_refl _, .inl (Below.refl _ _), fun h => absurd h (by decide)⟩
             refine Stps4.cons (o := _) ?_ ?_
             · intro f ac yw hsz hold hB hp hf K hK
               have e2 := hp 2 (by decide)
               have t68 : ac.tmps[68]? = some (.agg #[.slice x10 n10 c10, .bool m10]) := (List.cons.inj e2).1
               clear hold hp hsz hf e2
               have hk0 : w9.heap.size < yw.heap.size := hB.now.2.1.choose_spec.choose_spec.choose_spec.choose_spec.lt
               have hbz : Below yw.heap.size yw (yw.alloc (.cells #[.slice x10 n10 c10, .bool m10] 51)) /\ yw.heap.size < (yw.alloc (.cells #[.slice x10 n10 c10, .bool m10] 51)).heap.size := ⟨(Below.refl _ _).alloc (Nat.le_refl _) _, by simp⟩
               have hra := IntsAt.old1 (wk := yw) (t := 51) (Below.refl _ _) rfl (hB.now.2.2.2.1.below hbz.1)
               go_simp
               exact hK.out _ _ ⟨hB.alloc _, Exists.intro yw.heap.size (And.intro rfl (And.intro hra hk0)), Nat.le_of_lt hbz.2, .inl hbz.1, fun _ => ⟨_, rfl, Nat.le_refl _, hbz.2⟩⟩
             refine Stps4.cons (o := _) ?_ ?_
             · intro f ac yw hsz hold hB hp hf K hK
               have e1 := hp 1 (by decide)
               have t67 : ac.tmps[67]? = some (.agg #[.slice a n c, .bool m]) := (List.cons.inj e1).1
               obtain ⟨k3_3, e3, g3_0, g3_1⟩ := hp 3 (by decide)
               have t69 : ac.tmps[69]? = some (.slice (some ⟨k3_3, 0, none⟩) 1 1) := (List.cons.inj e3).1
               clear hold hp hsz hf e1 e3
               go_simp
               (go_at_call 129; (with_reducible refine (PL.out _ _ hB.now.2.2.2.2.2.1 g3_0).mono ?_); rintro e wz ⟨x104, n104, c104, m104, rfl, h4_0, hbz⟩)
               exact hK.out _ _ ⟨hB.go hbz, Exists.intro x104 (Exists.intro n104 (Exists.intro c104 (Exists.intro m104 (And.intro rfl h4_0)))), hbz.size, .inl hbz, fun h => absurd h (by decide)⟩
             refine Stps4.cons (o := _) ?_ ?_
             · intro f ac yw hsz hold hB hp hf K hK
               obtain ⟨x104_4, n104_4, c104_4, m104_4, e4, g4_0⟩ := hp 4 (by decide)
               have t70 : ac.tmps[70]? = some (.agg #[.slice x104_4 n104_4 c104_4, .bool m104_4]) := (List.cons.inj e4).1
               clear hold hp hsz hf e4
               have hk0 : w9.heap.size < yw.heap.size := hB.now.2.1.choose_spec.choose_spec.choose_spec.choose_spec.lt
               have hbz : Below yw.heap.size yw (yw.alloc (.cells #[.slice x104_4 n104_4 c104_4, .bool m104_4] 51)) /\ yw.heap.size < (yw.alloc (.cells #[.slice x104_4 n104_4 c104_4, .bool m104_4] 51)).heap.size := ⟨(Below.refl _ _).alloc (Nat.le_refl _) _, by simp⟩
               have hra := IntsAt.old1 (wk := yw) (t := 51) (Below.refl _ _) rfl (g4_0.below hbz.1)
               go_simp
               exact hK.out _ _ ⟨hB.alloc _, Exists.intro yw.heap.size (And.intro rfl (And.intro hra hk0)), Nat.le_of_lt hbz.2, .inl hbz.1, fun _ => ⟨_, rfl, Nat.le_refl _, hbz.2⟩⟩
             refine Stps4.cons (o := _) ?_ ?_
             · intro f ac yw hsz hold hB hp hf K hK
               have e0 := hp 0 (by decide)
               have t66 : ac.tmps[66]? = some (.agg #[.slice aw nw cw, .bool mw]) := (List.cons.inj e0).1
               obtain ⟨k5_5, e5, g5_0, g5_1⟩ := hp 5 (by decide)
               have t71 : ac.tmps[71]? = some (.slice (some ⟨k5_5, 0, none⟩) 1 1) := (List.cons.inj e5).1
               clear hold hp hsz hf e0 e5
               go_simp
               (go_at_call 70; (with_reducible refine (TM.out _ _ hB.now.2.2.2.2.1 g5_0).mono ?_); rintro e wz ⟨x106, n106, c106, m106, rfl, h6_0, hbz⟩)
               exact hK.out _ _ ⟨hB.go hbz, Exists.intro x106 (Exists.intro n106 (Exists.intro c106 (Exists.intro m106 (And.intro rfl h6_0)))), hbz.size, .inl hbz, fun h => absurd h (by decide)⟩
             refine Stps4.cons (o := _) ?_ ?_
             · intro f ac yw hsz hold hB hp hf K hK
               have t14 : ac.tmps[14]? = some (.pointer (some ⟨w10.heap.size, 0, none⟩)) := hold 14 (by kernel_rfl)
               have v0 := (hB.now.1 (hf 13 (by decide))).cell
               have v1 := (hB.now.1 (hf 13 (by decide))).cell1
               have v2 := hB.now.2.2.1.cell
               have v3 := hB.now.2.2.1.cell1
               have v4 := hB.now.2.2.2.2.2.2.1.cell
               have v5 := hB.now.2.2.2.2.2.2.1.cell1
               clear hold hp hsz hf
               go_simp
               exact hK.out _ _ ⟨hB, rfl, Nat.le_refl _, .inl (Below.refl _ _), fun h => absurd h (by decide)⟩
             refine Stps4.cons (o := _) ?_ ?_
             · intro f ac yw hsz hold hB hp hf K hK
               obtain ⟨x106_6, n106_6, c106_6, m106_6, e6, g6_0⟩ := hp 6 (by decide)
               have t72 : ac.tmps[72]? = some (.agg #[.slice x106_6 n106_6 c106_6, .bool m106_6]) := (List.cons.inj e6).1
               have e7 := hp 7 (by decide)
               have t73 : ac.tmps[73]? = some (.agg #[.slice x10 n10 c10, .bool m10]) := (List.cons.inj e7).1
               clear hold hp hsz hf e6 e7
               go_simp
               (go_at_call 193; (with_reducible refine (FL.out _ _ _ _ _ _ _ _ _ g6_0 hB.now.2.2.2.1).mono ?_); rintro e wz ⟨x108, n108, c108, m108, x109, n109, c109, m109, rfl, h8_0, h8_1, hbz⟩)
               exact hK.out _ _ ⟨hB.go hbz, Exists.intro x108 (Exists.intro n108 (Exists.intro c108 (Exists.intro m108 (Exists.intro x109 (Exists.intro n109 (Exists.intro c109 (Exists.intro m109 (And.intro rfl (And.intro h8_0 h8_1))))))))), hbz.size, .inl hbz, fun h => absurd h (by decide)⟩
             refine Stps4.cons (o := _) ?_ ?_
             · intro f ac yw hsz hold hB hp hf K hK
               obtain ⟨x108_8, n108_8, c108_8, m108_8, x109_8, n109_8, c109_8, m109_8, e8, g8_0, g8_1⟩ := hp 8 (by decide)
               have t74 : ac.tmps[74]? = some (.tuple #[.agg #[.slice x108_8 n108_8 c108_8, .bool m108_8], .agg #[.slice x109_8 n109_8 c109_8, .bool m109_8], .bool true]) := (List.cons.inj e8).1
               clear hold hp hsz hf e8
               go_simp
               exact hK.out _ _ ⟨hB, Exists.intro x108_8 (Exists.intro n108_8 (Exists.intro c108_8 (Exists.intro m108_8 (Exists.intro x109_8 (Exists.intro n109_8 (Exists.intro c109_8 (Exists.intro m109_8 (And.intro rfl (And.intro g8_0 g8_1))))))))), Nat.le_refl _, .inl (Below.refl _ _), fun h => absurd h (by decide)⟩
             refine Stps4.cons (o := _) ?_ ?_
             · intro f ac yw hsz hold hB hp hf K hK
               obtain ⟨x108_9, n108_9, c108_9, m108_9, x109_9, n109_9, c109_9, m109_9, e9, g9_0, g9_1⟩ := hp 9 (by decide)
               have t65 : ac.tmps[65]? = some (.tuple #[.agg #[.slice x108_9 n108_9 c108_9, .bool m108_9], .agg #[.slice x109_9 n109_9 c109_9, .bool m109_9], .bool true]) := (List.cons.inj e9).1
               clear hold hp hsz hf e9
               go_simp
               exact hK.out _ _ ⟨hB, Exists.intro x108_9 (Exists.intro n108_9 (Exists.intro c108_9 (Exists.intro m108_9 (And.intro rfl g9_0)))), Nat.le_refl _, .inl (Below.refl _ _), fun h => absurd h (by decide)⟩
             refine Stps4.cons (o := _) ?_ ?_
             · intro f ac yw hsz hold hB hp hf K hK
               obtain ⟨x108_9, n108_9, c108_9, m108_9, x109_9, n109_9, c109_9, m109_9, e9, g9_0, g9_1⟩ := hp 9 (by decide)
               have t65 : ac.tmps[65]? = some (.tuple #[.agg #[.slice x108_9 n108_9 c108_9, .bool m108_9], .agg #[.slice x109_9 n109_9 c109_9, .bool m109_9], .bool true]) := (List.cons.inj e9).1
               clear hold hp hsz hf e9
               go_simp
               exact hK.out _ _ ⟨hB, Exists.intro x109_9 (Exists.intro n109_9 (Exists.intro c109_9 (Exists.intro m109_9 (And.intro rfl g9_1)))), Nat.le_refl _, .inl (Below.refl _ _), fun h => absurd h (by decide)⟩
             refine Stps4.cons (o := _) ?_ ?_
             · intro f ac yw hsz hold hB hp hf K hK
               obtain ⟨x108_9, n108_9, c108_9, m108_9, x109_9, n109_9, c109_9, m109_9, e9, g9_0, g9_1⟩ := hp 9 (by decide)
               have t65 : ac.tmps[65]? = some (.tuple #[.agg #[.slice x108_9 n108_9 c108_9, .bool m108_9], .agg #[.slice x109_9 n109_9 c109_9, .bool m109_9], .bool true]) := (List.cons.inj e9).1
               clear hold hp hsz hf e9
               go_simp
               exact hK.out _ _ ⟨hB, rfl, Nat.le_refl _, .inl (Below.refl _ _), fun h => absurd h (by decide)⟩
             refine Stps4.cons (o := _) ?_ ?_
             · intro f ac yw hsz hold hB hp hf K hK
               obtain ⟨x108_10, n108_10, c108_10, m108_10, e10, g10_0⟩ := hp 10 (by decide)
               have t75 : ac.tmps[75]? = some (.agg #[.slice x108_10 n108_10 c108_10, .bool m108_10]) := (List.cons.inj e10).1
               have t12 : ac.tmps[12]? = some (.pointer (some ⟨w9.heap.size, 0, none⟩)) := hold 12 (by kernel_rfl)
               clear hold hp hsz hf e10
               obtain ⟨x9, y9, z9, b9, hs⟩ := hB.now.2.1
               have l0 := hs.cell
               have l1 := hs.cell1
               have f0 := hs.free
               have f1 := hs.free1
               have HB := HP13.out _ _ hB _ _ _ _ hs x108_10 n108_10 c108_10 m108_10
               go_simp
               refine hK.out undef _ ⟨HB, Exists.intro x108_10 (Exists.intro n108_10 (Exists.intro c108_10 (Exists.intro m108_10 (And.intro (hs.set2 (.slice x108_10 n108_10 c108_10) (.bool m108_10)) (IntAt.set2b g10_0 hs _ _))))), by simp, .inr ?_, fun h => absurd h (by decide)⟩
               intro jj hj hap h
               match jj, h with
               | 0, h => exact h
               | 1, h => exact h
               | 2, h => exact h
               | 3, ⟨k3, e3, g3_0, g3_1⟩ => exact Exists.intro k3 (And.intro e3 (And.intro (IntsAt.set2o g3_0 (by omega) hs _ _) g3_1))
               | 4, ⟨x104, n104, c104, m104, e4, g4_0⟩ => exact Exists.intro x104 (Exists.intro n104 (Exists.intro c104 (Exists.intro m104 (And.intro e4 (IntAt.set2b g4_0 hs _ _)))))
               | 5, ⟨k5, e5, g5_0, g5_1⟩ => exact Exists.intro k5 (And.intro e5 (And.intro (IntsAt.set2o g5_0 (by omega) hs _ _) g5_1))
               | 6, ⟨x106, n106, c106, m106, e6, g6_0⟩ => exact Exists.intro x106 (Exists.intro n106 (Exists.intro c106 (Exists.intro m106 (And.intro e6 (IntAt.set2b g6_0 hs _ _)))))
               | 7, h => exact h
               | 8, ⟨x108, n108, c108, m108, x109, n109, c109, m109, e8, g8_0, g8_1⟩ => exact Exists.intro x108 (Exists.intro n108 (Exists.intro c108 (Exists.intro m108 (Exists.intro x109 (Exists.intro n109 (Exists.intro c109 (Exists.intro m109 (And.intro e8 (And.intro (IntAt.set2b g8_0 hs _ _) (IntAt.set2b g8_1 hs _ _))))))))))
               | 9, ⟨x108, n108, c108, m108, x109, n109, c109, m109, e9, g9_0, g9_1⟩ => exact Exists.intro x108 (Exists.intro n108 (Exists.intro c108 (Exists.intro m108 (Exists.intro x109 (Exists.intro n109 (Exists.intro c109 (Exists.intro m109 (And.intro e9 (And.intro (IntAt.set2b g9_0 hs _ _) (IntAt.set2b g9_1 hs _ _))))))))))
               | 10, ⟨x108, n108, c108, m108, e10, g10_0⟩ => exact Exists.intro x108 (Exists.intro n108 (Exists.intro c108 (Exists.intro m108 (And.intro e10 (IntAt.set2b g10_0 hs _ _)))))
               | 11, ⟨x109, n109, c109, m109, e11, g11_0⟩ => exact Exists.intro x109 (Exists.intro n109 (Exists.intro c109 (Exists.intro m109 (And.intro e11 (IntAt.set2b g11_0 hs _ _)))))
               | 12, h => exact h
               | 13, _ => exact absurd rfl hj
               | _ + 14, h => exact h
             exact Stps4.nil _
           · have q0 := BB.out.now.1.cell
             have q1 := BB.out.now.1.cell1
             go_wp2_with fail
             go_at_call 155
             (with_reducible refine (LK.out _ BB.out.now.2.1).mono ?_)
             rintro e w20 ⟨rfl, hb20⟩
             have BB := Lib.hid (BB.out.go hb20)
             clear hb20
             clear q0 q1
             have WH := Lib.hid (fun wz h => whole_any aw nw cw mw ((wy rr j : Nat) : Int) wz h)
             have HGD := Lib.hid (HL3.out j hjk HJL.out (.inr (by rw [hlk]; omega)))
             clear hlk
             have q0 := BB.out.now.1.cell
             have q1 := BB.out.now.1.cell1
             go_wp2_with fail
             go_at_call 73
             (with_reducible refine (WH.out _ BB.out.now.2.1).mono ?_)
             rintro e w21 ⟨x21, xn21, xc21, xm21, y21, yn21, yc21, rfl, hr21, hb21⟩
             have BB := Lib.hid (BB.out.go hb21)
             clear hb21
             clear q0 q1
             have hs := BB.out.now.2.2.2.2.1
             have u0 := hs.cell
             have u1 := hs.cell1
             have u2 := hs.cell2
             have g0 := hs.free
             have g1 := hs.free1
             have g2 := hs.free2
             have HS := hs.set (.slice x21 xn21 xc21) (.bool xm21) (.slice y21 yn21 yc21)
             have HE := Lib.hid (RatTold4.done 0 BB.out.below (by omega) hs hr21)
             clear hs
             go_wp2
             exact bodyPost_ret (v := .tuple #[.agg #[.slice x21 xn21 xc21, .bool xm21, .slice y21 yn21 yc21], .int .i64 0]) (by simp [results, Tryz.results154, go_sem, HS]) rfl ⟨(((wy rr j : Nat) : Int), 1, 0), HE.out, HGD.out⟩
         · have h1' : ¬ (j : Int) + 1 <= (kk : Int) := by omega
           have WH := Lib.hid (fun wz h => whole_any aw nw cw mw ((wy rr j : Nat) : Int) wz h)
           have HGD := Lib.hid (HL3.out j hjk HJL.out (.inl (by omega)))
           have q0 := BB.out.now.1.cell
           have q1 := BB.out.now.1.cell1
           go_wp2_with fail
           go_at_call 73
           (with_reducible refine (WH.out _ BB.out.now.2.1).mono ?_)
           rintro e w20 ⟨x20, xn20, xc20, xm20, y20, yn20, yc20, rfl, hr20, hb20⟩
           have BB := Lib.hid (BB.out.go hb20)
           clear hb20
           clear q0 q1
           have hs := BB.out.now.2.2.2.2.1
           have u0 := hs.cell
           have u1 := hs.cell1
           have u2 := hs.cell2
           have g0 := hs.free
           have g1 := hs.free1
           have g2 := hs.free2
           have HS := hs.set (.slice x20 xn20 xc20) (.bool xm20) (.slice y20 yn20 yc20)
           have HE := Lib.hid (RatTold4.done 0 BB.out.below (by omega) hs hr20)
           clear hs
           go_wp2
           exact bodyPost_ret (v := .tuple #[.agg #[.slice x20 xn20 xc20, .bool xm20, .slice y20 yn20 yc20], .int .i64 0]) (by simp [results, Tryz.results154, go_sem, HS]) rfl ⟨(((wy rr j : Nat) : Int), 1, 0), HE.out, HGD.out⟩
     · have hcz : decide (cmpZ D P < 0) = false := by
         unfold cmpZ
         rw [if_neg hsw]
         split <;> rfl
       have CM := Lib.hid (fun wz h g => icmp_any x8 n8 c8 false D a n c m P wz h g)
       have NG := Lib.hid (fun wz h => neg_any x8 n8 c8 false D wz h)
       generalize cmpZ D P = cz at *
       obtain ⟨kk, hkk⟩ : ∃ z, fewK P P' = z := ⟨_, rfl⟩
       obtain ⟨rr, hrr⟩ : ∃ z, P'.toNat - fewK P P' = z := ⟨_, rfl⟩
       have ekk : (kk : Int) = P := by rw [← hkk]; unfold fewK; omega
       have err : (rr : Int) = D := by rw [← hrr]; unfold fewK; omega
       have hkr : kk <= rr := by omega
       have HL3 := Lib.hid (fun j (hj : j <= kk) (hb : ∀ i, i < j -> (lbs (wy rr i) : Int) <= lm) (h : j = kk ∨ lm < lbs (wy rr j)) => GD.out (((wy rr j : Nat) : Int), 1, 0) (by have := lim3_ways (l := lm) hp (show P <= P' by omega) (j := j) (by rw [hkk]; exact hj) (by rw [hrr]; exact hb) (by rw [hrr, hkk]; exact h); rw [hrr] at this; exact this) (Nat.one_pos))
       have HFAR : Hid (fitB (kk : Int) = false -> Good3 lm (0, 1, 26) (waysT P 1 P' 1 lm)) := Lib.hid (fun hf => GD.out (0, 1, 26) (by rw [ways_far hp (by omega) (by rw [hkk]; unfold fitB at hf; rw [decide_eq_false_iff_not] at hf; omega) hm.2]) Nat.one_pos)
       have HKB : Hid (kk < 4294967296 ^ K /\ rr < 4294967296 ^ (K + 1)) := by
        have h1 := HPK.out.1
        have h3 := HPK.out.2
        have h5 : (4294967296 : Nat) ^ (K + 1) = 4294967296 ^ K * 4294967296 := Nat.pow_succ _ _
        constructor <;> omega
       have p0 := BB.out.now.2.2.1.cell
       have p1 := BB.out.now.2.2.1.cell1
       have q0 := BB.out.now.2.2.2.1.cell
       have q1 := BB.out.now.2.2.2.1.cell1
       have HKR := Lib.hid hkr
       clear hp hp' hD hlt GD HPK HPP HDD hsw hkk hrr hkr
       go_wp2_with fail
       go_at_call 127
       (with_reducible refine (NG.out _ BB.out.now.1).mono ?_)
       rintro e w3 ⟨rfl, hb3⟩
       have BB := Lib.hid (BB.out.go hb3)
       clear hb3
       clear p0 p1 q0 q1
       have p0 := BB.out.now.2.2.1.cell
       have p1 := BB.out.now.2.2.1.cell1
       have q0 := BB.out.now.2.2.2.1.cell
       have q1 := BB.out.now.2.2.2.1.cell1
       go_wp2_with fail
       go_at_call 69
       (with_reducible refine (CM.out _ BB.out.now.1 BB.out.now.2.1).mono ?_)
       rintro e w4 ⟨rfl, hb4⟩
       have BB := Lib.hid (BB.out.go hb4)
       clear hb4
       clear p0 p1 q0 q1
       have BB3 := Lib.hid (keep2 BB.out)
       clear BB
       rw [← ekk, ← err] at BB3
       clear ekk err CM NG
       have IN := Lib.hid (fun wz h => int_any a n c m (kk : Int) wz h)
       have BB := BB3
       clear BB3
       cases hf : fitB (kk : Int) with
       | false =>
        have HGD := Lib.hid (HFAR.out hf)
        rw [hf] at IN
        generalize fitI (kk : Int) = fi at *
        have q0 := BB.out.now.1.cell
        have q1 := BB.out.now.1.cell1
        go_wp2_with fail
        go_at_call 192
        (with_reducible refine (IN.out _ BB.out.now.2.1).mono ?_)
        rintro e w5 ⟨rfl, hb5⟩
        have BB := Lib.hid (BB.out.go hb5)
        clear hb5
        clear q0 q1 hf HFAR HL3
        have hs := BB.out.now.2.2.2.2.1
        have u0 := hs.cell
        have u1 := hs.cell1
        have u2 := hs.cell2
        have g0 := hs.free
        have g1 := hs.free1
        have g2 := hs.free2
        have HS := hs.set (.slice none 0 0) (.bool false) (.slice none 0 0)
        have HE := Lib.hid (RatTold4.done 26 BB.out.below (by omega) hs (RatAt.zero _))
        clear hs
        go_wp2
        exact bodyPost_ret (v := .tuple #[.agg #[.slice none 0 0, .bool false, .slice none 0 0], .int .i64 26]) (by simp [results, Tryz.results154, go_sem, HS]) rfl ⟨(0, 1, 26), HE.out, HGD.out⟩
       | true =>
        have hfi := fit_in hf
        rw [hf, hfi.1] at IN
        have FW := Lib.hid (fun j (hj : j <= 3000) wz => from_any ((j : Nat) : Int) wz (by omega))
        have F1 : Hid (∀ wz, Calls Tryz.prog 74 #[.int .i64 1] wz fun e w' => IntTold wz w' e ((wy rr 0 : Nat) : Int)) := Lib.hid (fun wz => from_any 1 wz (by omega))
        unfold IntTold at F1
        have q0 := BB.out.now.1.cell
        have q1 := BB.out.now.1.cell1
        go_wp2_with fail
        go_at_call 192
        (with_reducible refine (IN.out _ BB.out.now.2.1).mono ?_)
        rintro e w5 ⟨rfl, hb5⟩
        have BB := Lib.hid (BB.out.go hb5)
        clear hb5
        clear q0 q1 hf HFAR IN
        go_wp2_with fail
        go_at_call 74
        (with_reducible refine (F1.out _).mono ?_)
        rintro e w9 ⟨x9, n9, c9, m9, rfl, hi9, hb9⟩
        have hbs9 : w.heap.size + 1 + 1 < w9.heap.size /\ k10 < w9.heap.size := by
         have h1 := (BB.out.go hb9).now.2.2.1.lt
         omega
        have BL := Lib.hid (loop0 (t := 51) (BB.out.go hb9) hi9)
        clear hb9 hi9 BB F1
        go_wp2_with fail
        go_loopw [13] (fun i wr => ∃ (j : Nat) (aw : Option Addr) (nw cw : Nat) (mw : Bool), j <= kk /\ j <= 2050 /\ (∀ i, i < j -> (lbs (wy rr i) : Int) <= lm) /\ i = .int .i64 ((j + 1 : Nat) : Int) /\ Hid (Bag w (fun y => Slot2 y w9.heap.size (.slice aw nw cw) (.bool mw) /\ IntAt y aw nw cw mw ((wy rr j : Nat) : Int) /\ IntAt y x8 n8 c8 false (rr : Int) /\ Slot2 y k10 (.slice x8 n8 c8) (.bool false) /\ Slot3 y (w.heap.size + 1 + 1) (.slice none 0 0) (.bool false) (.slice none 0 0) /\ True) wr)) (fun i _ => 2200 - (intOf i).toNat)
        case atStart => exact ⟨0, x9, n9, c9, m9, by omega, by omega, fun i hi => absurd hi (Nat.not_lt_zero _), rfl, BL.out⟩
        case round =>
         obtain ⟨j, aw, nw, cw, mw, hjk, hj2, hjl, rfl, hB⟩ := hrel
         have BB := Lib.hid hB.out
         have HJL := Lib.hid hjl
         clear hB hjl
         by_cases h1 : j + 1 <= kk
         · have h1' : (j : Int) + 1 <= (kk : Int) := by omega
           obtain ⟨lk, hlk⟩ : ∃ z, lbs (wy rr j) = z := ⟨_, rfl⟩
           have LK : Hid (∀ wz, IntAt wz aw nw cw mw ((wy rr j : Nat) : Int) -> Calls Tryz.prog 155 #[.agg #[.slice aw nw cw]] wz fun e w' => e = .returned (.int .i64 (lk : Nat)) /\ Below wz.heap.size wz w') := Lib.hid (fun wz h => by
            have := limbs_bits (.agg #[.slice aw nw cw]) (wy rr j) wz (by have q := h.nt; rw [Int.natAbs_natCast] at q; exact q)
            unfold LimbsOut at this
            rw [show (nbits (wy rr j) + 31) / 32 = lk from hlk] at this
            exact this)
           by_cases h2 : (lk : Int) <= lm
           · have hjr : j <= rr := by have := HKR.out; omega
             have hj9 := wy_few (m := 64) hjr (by omega)
             have hVK : wy rr j < 4294967296 ^ 64 := lbs_le32.1 (by omega)
             have HJN : Hid (∀ i, i < j + 1 -> (lbs (wy rr i) : Int) <= lm) := Lib.hid (fun i hi => by
              by_cases e : i < j
              · exact HJL.out i e
              · obtain rfl : i = j := by omega
                omega)
             have FJ : Hid (∀ wz, Calls Tryz.prog 74 #[.int .i64 ((j : Int) + 1)] wz fun e w' => IntTold wz w' e ((j + 1 : Nat) : Int)) := Lib.hid (fun wz => FW.out (j + 1) (by omega) wz)
             have hSK : rr + (j + 1) < 4294967296 ^ (K + 66) := by
              have h5 := HKB.out.2
              have h6 : (4294967296 : Nat) ^ (K + 1) * 4294967296 <= 4294967296 ^ (K + 66) := by
               rw [← Nat.pow_succ]
               exact Nat.pow_le_pow_right (by omega) (by omega)
              have h7 : 0 < (4294967296 : Nat) ^ (K + 1) := Nat.pow_pos (by omega)
              omega
             have PL : Hid (∀ sa wz, IntAt wz x8 n8 c8 false (rr : Int) -> IntsAt wz sa 1 1 (fun _ => ((j + 1 : Nat) : Int)) -> Calls Tryz.prog 129 #[.agg #[.slice x8 n8 c8, .bool false], .slice sa 1 1] wz fun e w' => IntTold wz w' e ((rr + (j + 1) : Nat) : Int)) := Lib.hid (fun sa wz h g => by
              have := plus1_any x8 n8 c8 false (rr : Int) sa ((j + 1 : Nat) : Int) wz h g (K + 66) (by omega) (by rw [Int.natAbs_natCast, Int.natAbs_natCast]; exact hSK)
              rw [show (rr : Int) + ((j + 1 : Nat) : Int) = ((rr + (j + 1) : Nat) : Int) by omega] at this
              exact this)
             have TM : Hid (∀ sa wz, IntAt wz aw nw cw mw ((wy rr j : Nat) : Int) -> IntsAt wz sa 1 1 (fun _ => ((rr + (j + 1) : Nat) : Int)) -> Calls Tryz.prog 70 #[.agg #[.slice aw nw cw, .bool mw], .slice sa 1 1] wz fun e w' => IntTold wz w' e ((wy rr j * (rr + (j + 1)) : Nat) : Int)) := Lib.hid (fun sa wz h g => by
              have := times1_any aw nw cw mw ((wy rr j : Nat) : Int) sa ((rr + (j + 1) : Nat) : Int) wz h g (K + 66) (by omega) (by rw [Int.natAbs_natCast]; exact lt32_up hVK (by omega)) (by rw [Int.natAbs_natCast]; exact hSK)
              rw [show ((wy rr j : Nat) : Int) * ((rr + (j + 1) : Nat) : Int) = ((wy rr j * (rr + (j + 1)) : Nat) : Int) from (Int.natCast_mul _ _).symm] at this
              exact this)
             have FL : Hid (∀ a n c m x y z u wz, IntAt wz a n c m ((wy rr j * (rr + (j + 1)) : Nat) : Int) -> IntAt wz x y z u ((j + 1 : Nat) : Int) -> Calls Tryz.prog 193 #[.agg #[.slice a n c, .bool m], .agg #[.slice x y z, .bool u]] wz fun e w' => FloorTold wz w' e ((wy rr (j + 1) : Nat) : Int) (flR ((wy rr j * (rr + (j + 1)) : Nat) : Int) ((j + 1 : Nat) : Int))) := Lib.hid (fun a n c m x y z u wz h g => by
              have := floor_any a n c m ((wy rr j * (rr + (j + 1)) : Nat) : Int) x y z u ((j + 1 : Nat) : Int) wz h g (K + 66 + (K + 66)) (by omega) (by rw [Int.natAbs_natCast]; exact mul_lt32 (lt32_up hVK (by omega)) hSK) (by omega)
              rw [flQ_nat] at this
              exact this)
             unfold IntTold at FJ PL TM
             unfold FloorTold at FL
             have q0 := BB.out.now.1.cell
             have q1 := BB.out.now.1.cell1
             clear hlk hVK hSK
             go_wp2_with fail
             go_at_call 155
             (with_reducible refine (LK.out _ BB.out.now.2.1).mono ?_)
             rintro e w20 ⟨rfl, hb20⟩
             have BB := Lib.hid (BB.out.go hb20)
             clear hb20
             clear q0 q1
             go_wp2_with fail
             go_at_call 74
             (with_reducible refine (FJ.out _).mono ?_)
             rintro e w10 ⟨x10, n10, c10, m10, rfl, hi10, hb10⟩
             have hbs10 : w9.heap.size < w10.heap.size := (BB.out.go hb10).now.1.lt
             have BY := Lib.hid (loop1 (t := 51) (W8 := w.heap.size + 1 + 1) (W9 := k10) (BB.out.go hb10) hi10)
             clear hb10 hi10 BB FJ LK
             obtain ⟨W12, hW12⟩ : ∃ z, w9.heap.size = z := ⟨_, rfl⟩
             obtain ⟨W14, hW14⟩ : ∃ z, w10.heap.size = z := ⟨_, rfl⟩
             have HP13 := Lib.hid (fun f y (h : Bag w (WYP (w.heap.size + 1 + 1) k10 w9.heap.size w10.heap.size x8 n8 c8 false (rr : Int) aw nw cw mw ((wy rr j : Nat) : Int) x10 n10 c10 m10 ((j + 1 : Nat) : Int) f) y) x0 y0 z0 b0 (s : Slot2 y w9.heap.size (.slice x0 y0 z0) (.bool b0)) a n c m => WYP.put h s (by omega) (by omega) (by omega) (by omega) a n c m)
             have HVV : Hid (True) := Lib.hid trivial
             obtain ⟨V0, hV0⟩ : ∃ z, ((wy rr j : Nat) : Int) = z := ⟨_, rfl⟩
             obtain ⟨V1, hV1⟩ : ∃ z, ((wy rr (j + 1) : Nat) : Int) = z := ⟨_, rfl⟩
             obtain ⟨I1, hI1⟩ : ∃ z, ((j + 1 : Nat) : Int) = z := ⟨_, rfl⟩
             obtain ⟨SM, hSM⟩ : ∃ z, ((rr + (j + 1) : Nat) : Int) = z := ⟨_, rfl⟩
             obtain ⟨PR, hPR⟩ : ∃ z, ((wy rr j * (rr + (j + 1)) : Nat) : Int) = z := ⟨_, rfl⟩
             rw [hI1, hSM] at PL
             rw [hV0, hSM, hPR] at TM
             rw [hPR, hI1, hV1] at FL
             rw [hV0, hI1] at BY HP13
             have HV1 := Lib.hid hV1
             generalize flR PR I1 = FR1 at *
             clear hV0 hV1 hI1 hSM hPR hW12 hW14
             go_wp2_with fail
             refine wp_region_inv4 ⟨(fun j => ([[66], [67], [68], [69], [70], [71], [72], [73], [74], [65], [75], [76], [77], []] : List (List Nat)).getD j []), (fun j => ([[], [], [], [2], [1, 2, 3], [1, 2, 3, 4], [0, 1, 2, 3, 4, 5], [], [0, 1, 2, 3, 4, 5, 6, 7], [0, 1, 2, 3, 4, 5, 6, 7, 8], [0, 1, 2, 3, 4, 5, 6, 7, 8, 9], [0, 1, 2, 3, 4, 5, 6, 7, 8, 9], [0, 1, 2, 3, 4, 5, 6, 7, 8, 9], [0, 1, 2, 3, 4, 5, 6, 7, 8, 9, 10]] : List (List Nat)).getD j []), [3, 5]⟩ (fun jj vv yy => match jj with | 0 => vv = [some (.agg #[.slice aw nw cw, .bool mw])] | 1 => vv = [some (.agg #[.slice x8 n8 c8, .bool false])] | 2 => vv = [some (.agg #[.slice x10 n10 c10, .bool m10])] | 3 => ∃ (k3 : Nat), vv = [some (.slice (some ⟨k3, 0, none⟩) 1 1)] /\ IntsAt yy (some ⟨k3, 0, none⟩) 1 1 (fun _ => I1) /\ w9.heap.size < k3 | 4 => ∃ (x104 : Option Addr), ∃ (n104 : Nat), ∃ (c104 : Nat), ∃ (m104 : Bool), vv = [some (.agg #[.slice x104 n104 c104, .bool m104])] /\ IntAt yy x104 n104 c104 m104 SM | 5 => ∃ (k5 : Nat), vv = [some (.slice (some ⟨k5, 0, none⟩) 1 1)] /\ IntsAt yy (some ⟨k5, 0, none⟩) 1 1 (fun _ => SM) /\ w9.heap.size < k5 | 6 => ∃ (x106 : Option Addr), ∃ (n106 : Nat), ∃ (c106 : Nat), ∃ (m106 : Bool), vv = [some (.agg #[.slice x106 n106 c106, .bool m106])] /\ IntAt yy x106 n106 c106 m106 PR | 7 => vv = [some (.agg #[.slice x10 n10 c10, .bool m10])] | 8 => ∃ (x108 : Option Addr), ∃ (n108 : Nat), ∃ (c108 : Nat), ∃ (m108 : Bool), ∃ (x109 : Option Addr), ∃ (n109 : Nat), ∃ (c109 : Nat), ∃ (m109 : Bool), vv = [some (.tuple #[.agg #[.slice x108 n108 c108, .bool m108], .agg #[.slice x109 n109 c109, .bool m109], .bool true])] /\ IntAt yy x108 n108 c108 m108 V1 /\ IntAt yy x109 n109 c109 m109 FR1 | 9 => ∃ (x108 : Option Addr), ∃ (n108 : Nat), ∃ (c108 : Nat), ∃ (m108 : Bool), ∃ (x109 : Option Addr), ∃ (n109 : Nat), ∃ (c109 : Nat), ∃ (m109 : Bool), vv = [some (.tuple #[.agg #[.slice x108 n108 c108, .bool m108], .agg #[.slice x109 n109 c109, .bool m109], .bool true])] /\ IntAt yy x108 n108 c108 m108 V1 /\ IntAt yy x109 n109 c109 m109 FR1 | 10 => ∃ (x108 : Option Addr), ∃ (n108 : Nat), ∃ (c108 : Nat), ∃ (m108 : Bool), vv = [some (.agg #[.slice x108 n108 c108, .bool m108])] /\ IntAt yy x108 n108 c108 m108 V1 | 11 => ∃ (x109 : Option Addr), ∃ (n109 : Nat), ∃ (c109 : Nat), ∃ (m109 : Bool), vv = [some (.agg #[.slice x109 n109 c109, .bool m109])] /\ IntAt yy x109 n109 c109 m109 FR1 | 12 => vv = [some (.bool true)] | 13 => ∃ (x108 : Option Addr), ∃ (n108 : Nat), ∃ (c108 : Nat), ∃ (m108 : Bool), Slot2 yy (w9.heap.size) (.slice x108 n108 c108) (.bool m108) /\ IntAt yy x108 n108 c108 m108 V1 | _ => True) (fun f => Bag w (WYP (w.heap.size + 1 + 1) k10 w9.heap.size w10.heap.size x8 n8 c8 false (rr : Int) aw nw cw mw V0 x10 n10 c10 m10 I1 f)) (by kernel_rfl) (by kernel_rfl) (by kernel_rfl) BY.out.drew ?_ ?_ ?_
             · intro jj vv yw yw2 hb h
               match jj, h with
               | 0, h => exact h
               | 1, h => exact h
               | 2, h => exact h
               | 3, ⟨k3, e3, g3_0, g3_1⟩ => exact Exists.intro k3 (And.intro e3 (And.intro (g3_0.below hb) g3_1))
               | 4, ⟨x104, n104, c104, m104, e4, g4_0⟩ => exact Exists.intro x104 (Exists.intro n104 (Exists.intro c104 (Exists.intro m104 (And.intro e4 (g4_0.below hb)))))
               | 5, ⟨k5, e5, g5_0, g5_1⟩ => exact Exists.intro k5 (And.intro e5 (And.intro (g5_0.below hb) g5_1))
               | 6, ⟨x106, n106, c106, m106, e6, g6_0⟩ => exact Exists.intro x106 (Exists.intro n106 (Exists.intro c106 (Exists.intro m106 (And.intro e6 (g6_0.below hb)))))
               | 7, h => exact h
               | 8, ⟨x108, n108, c108, m108, x109, n109, c109, m109, e8, g8_0, g8_1⟩ => exact Exists.intro x108 (Exists.intro n108 (Exists.intro c108 (Exists.intro m108 (Exists.intro x109 (Exists.intro n109 (Exists.intro c109 (Exists.intro m109 (And.intro e8 (And.intro (g8_0.below hb) (g8_1.below hb))))))))))
               | 9, ⟨x108, n108, c108, m108, x109, n109, c109, m109, e9, g9_0, g9_1⟩ => exact Exists.intro x108 (Exists.intro n108 (Exists.intro c108 (Exists.intro m108 (Exists.intro x109 (Exists.intro n109 (Exists.intro c109 (Exists.intro m109 (And.intro e9 (And.intro (g9_0.below hb) (g9_1.below hb))))))))))
               | 10, ⟨x108, n108, c108, m108, e10, g10_0⟩ => exact Exists.intro x108 (Exists.intro n108 (Exists.intro c108 (Exists.intro m108 (And.intro e10 (g10_0.below hb)))))
               | 11, ⟨x109, n109, c109, m109, e11, g11_0⟩ => exact Exists.intro x109 (Exists.intro n109 (Exists.intro c109 (Exists.intro m109 (And.intro e11 (g11_0.below hb)))))
               | 12, h => exact h
               | 13, ⟨x108, n108, c108, m108, g13_0, g13_1⟩ => exact Exists.intro x108 (Exists.intro n108 (Exists.intro c108 (Exists.intro m108 (And.intro (g13_0.below hb) (g13_1.below hb)))))
               | _ + 14, h => exact h
             · intro ac yw hsz hdf hold hB hp
               obtain ⟨x108, n108, c108, m108, s12, hiV⟩ := hp 13 (by decide)
               have t0 : ac.tmps[0]? = some (TV 0) := hold 0 (by kernel_rfl)
               have t1 : ac.tmps[1]? = some (TV 1) := hold 1 (by kernel_rfl)
               have t2 : ac.tmps[2]? = some (.int .i64 lm) := hold 2 (by kernel_rfl)
               have t3 : ac.tmps[3]? = some (TV 3) := hold 3 (by kernel_rfl)
               have t4 : ac.tmps[4]? = some (TV 4) := hold 4 (by kernel_rfl)
               have t5 : ac.tmps[5]? = some (TV 5) := hold 5 (by kernel_rfl)
               have t6 : ac.tmps[6]? = some (.pointer (some ⟨w.heap.size + 1 + 1, 0, none⟩)) := hold 6 (by kernel_rfl)
               have t7 : ac.tmps[7]? = some (TV 7) := hold 7 (by kernel_rfl)
               have t8 : ac.tmps[8]? = some (.pointer (some ⟨k9, 0, none⟩)) := hold 8 (by kernel_rfl)
               have t9 : ac.tmps[9]? = some (.pointer (some ⟨k10, 0, none⟩)) := hold 9 (by kernel_rfl)
               have t10 : ac.tmps[10]? = some (.int .i64 (kk : Int)) := hold 10 (by kernel_rfl)
               have t11 : ac.tmps[11]? = some (.bool true) := hold 11 (by kernel_rfl)
               have t12 : ac.tmps[12]? = some (.pointer (some ⟨w9.heap.size, 0, none⟩)) := hold 12 (by kernel_rfl)
               have t13 : ac.tmps[13]? = some (.int .i64 ((j : Int) + 1)) := hold 13 (by kernel_rfl)
               have t15 : ac.tmps[15]? = some (TV 15) := hold 15 (by kernel_rfl)
               have t16 : ac.tmps[16]? = some (TV 16) := hold 16 (by kernel_rfl)
               have t17 : ac.tmps[17]? = some (TV 17) := hold 17 (by kernel_rfl)
               have t18 : ac.tmps[18]? = some (TV 18) := hold 18 (by kernel_rfl)
               have t19 : ac.tmps[19]? = some (TV 19) := hold 19 (by kernel_rfl)
               have t20 : ac.tmps[20]? = some (TV 20) := hold 20 (by kernel_rfl)
               have t21 : ac.tmps[21]? = some (TV 21) := hold 21 (by kernel_rfl)
               have t22 : ac.tmps[22]? = some (TV 22) := hold 22 (by kernel_rfl)
               have t23 : ac.tmps[23]? = some (TV 23) := hold 23 (by kernel_rfl)
               have t24 : ac.tmps[24]? = some (TV 24) := hold 24 (by kernel_rfl)
               have t25 : ac.tmps[25]? = some (TV 25) := hold 25 (by kernel_rfl)
               have t26 : ac.tmps[26]? = some (TV 26) := hold 26 (by kernel_rfl)
               have t27 : ac.tmps[27]? = some (TV 27) := hold 27 (by kernel_rfl)
               have t28 : ac.tmps[28]? = some (TV 28) := hold 28 (by kernel_rfl)
               have t29 : ac.tmps[29]? = some (TV 29) := hold 29 (by kernel_rfl)
               have t30 : ac.tmps[30]? = some (TV 30) := hold 30 (by kernel_rfl)
               have t31 : ac.tmps[31]? = some (TV 31) := hold 31 (by kernel_rfl)
               have t32 : ac.tmps[32]? = some (TV 32) := hold 32 (by kernel_rfl)
               have t33 : ac.tmps[33]? = some (.agg #[.slice x8 n8 c8, .bool false]) := hold 33 (by kernel_rfl)
               have t34 : ac.tmps[34]? = some (.bool false) := hold 34 (by kernel_rfl)
               have t35 : ac.tmps[35]? = some (TV 35) := hold 35 (by kernel_rfl)
               have t36 : ac.tmps[36]? = some (.agg #[.slice x8 n8 c8, .bool false]) := hold 36 (by kernel_rfl)
               have t37 : ac.tmps[37]? = some (.agg #[.slice a n c, .bool m]) := hold 37 (by kernel_rfl)
               have t38 : ac.tmps[38]? = some (.int .i64 cz) := hold 38 (by kernel_rfl)
               have t39 : ac.tmps[39]? = some (.bool false) := hold 39 (by kernel_rfl)
               have t40 : ac.tmps[40]? = some (TV 40) := hold 40 (by kernel_rfl)
               have t41 : ac.tmps[41]? = some (TV 41) := hold 41 (by kernel_rfl)
               have t42 : ac.tmps[42]? = some (.tuple #[.int .i64 (kk : Int), .bool true]) := hold 42 (by kernel_rfl)
               have t43 : ac.tmps[43]? = some (.agg #[.slice a n c, .bool m]) := hold 43 (by kernel_rfl)
               have t44 : ac.tmps[44]? = some (.tuple #[.int .i64 (kk : Int), .bool true]) := hold 44 (by kernel_rfl)
               have t45 : ac.tmps[45]? = some (.int .i64 (kk : Int)) := hold 45 (by kernel_rfl)
               have t46 : ac.tmps[46]? = some (.bool true) := hold 46 (by kernel_rfl)
               have t47 : ac.tmps[47]? = some (.bool true) := hold 47 (by kernel_rfl)
               have t48 : ac.tmps[48]? = some (.bool false) := hold 48 (by kernel_rfl)
               have t49 : ac.tmps[49]? = some (TV 49) := hold 49 (by kernel_rfl)
               have t50 : ac.tmps[50]? = some (.agg #[.slice x9 n9 c9, .bool m9]) := hold 50 (by kernel_rfl)
               have t78 : ac.tmps[78]? = some (TV 78) := hold 78 (by kernel_rfl)
               have t79 : ac.tmps[79]? = some (TV 79) := hold 79 (by kernel_rfl)
               clear hold hp
               obtain ⟨TW, hTW⟩ : ∃ TW : Nat -> Value, ∀ i, (ac.tmps[i]?).getD undef = TW i := ⟨_, fun _ => rfl⟩
               have f0 := (hTW 0).symm.trans (congrArg (fun x => Option.getD x undef) t0)
               have f1 := (hTW 1).symm.trans (congrArg (fun x => Option.getD x undef) t1)
               have f2 := (hTW 2).symm.trans (congrArg (fun x => Option.getD x undef) t2)
               have f3 := (hTW 3).symm.trans (congrArg (fun x => Option.getD x undef) t3)
               have f4 := (hTW 4).symm.trans (congrArg (fun x => Option.getD x undef) t4)
               have f5 := (hTW 5).symm.trans (congrArg (fun x => Option.getD x undef) t5)
               have f6 := (hTW 6).symm.trans (congrArg (fun x => Option.getD x undef) t6)
               have f7 := (hTW 7).symm.trans (congrArg (fun x => Option.getD x undef) t7)
               have f8 := (hTW 8).symm.trans (congrArg (fun x => Option.getD x undef) t8)
               have f9 := (hTW 9).symm.trans (congrArg (fun x => Option.getD x undef) t9)
               have f10 := (hTW 10).symm.trans (congrArg (fun x => Option.getD x undef) t10)
               have f11 := (hTW 11).symm.trans (congrArg (fun x => Option.getD x undef) t11)
               have f12 := (hTW 12).symm.trans (congrArg (fun x => Option.getD x undef) t12)
               have f13 := (hTW 13).symm.trans (congrArg (fun x => Option.getD x undef) t13)
               have f15 := (hTW 15).symm.trans (congrArg (fun x => Option.getD x undef) t15)
               have f16 := (hTW 16).symm.trans (congrArg (fun x => Option.getD x undef) t16)
               have f17 := (hTW 17).symm.trans (congrArg (fun x => Option.getD x undef) t17)
               have f18 := (hTW 18).symm.trans (congrArg (fun x => Option.getD x undef) t18)
               have f19 := (hTW 19).symm.trans (congrArg (fun x => Option.getD x undef) t19)
               have f20 := (hTW 20).symm.trans (congrArg (fun x => Option.getD x undef) t20)
               have f21 := (hTW 21).symm.trans (congrArg (fun x => Option.getD x undef) t21)
               have f22 := (hTW 22).symm.trans (congrArg (fun x => Option.getD x undef) t22)
               have f23 := (hTW 23).symm.trans (congrArg (fun x => Option.getD x undef) t23)
               have f24 := (hTW 24).symm.trans (congrArg (fun x => Option.getD x undef) t24)
               have f25 := (hTW 25).symm.trans (congrArg (fun x => Option.getD x undef) t25)
               have f26 := (hTW 26).symm.trans (congrArg (fun x => Option.getD x undef) t26)
               have f27 := (hTW 27).symm.trans (congrArg (fun x => Option.getD x undef) t27)
               have f28 := (hTW 28).symm.trans (congrArg (fun x => Option.getD x undef) t28)
               have f29 := (hTW 29).symm.trans (congrArg (fun x => Option.getD x undef) t29)
               have f30 := (hTW 30).symm.trans (congrArg (fun x => Option.getD x undef) t30)
               have f31 := (hTW 31).symm.trans (congrArg (fun x => Option.getD x undef) t31)
               have f32 := (hTW 32).symm.trans (congrArg (fun x => Option.getD x undef) t32)
               have f33 := (hTW 33).symm.trans (congrArg (fun x => Option.getD x undef) t33)
               have f34 := (hTW 34).symm.trans (congrArg (fun x => Option.getD x undef) t34)
               have f35 := (hTW 35).symm.trans (congrArg (fun x => Option.getD x undef) t35)
               have f36 := (hTW 36).symm.trans (congrArg (fun x => Option.getD x undef) t36)
               have f37 := (hTW 37).symm.trans (congrArg (fun x => Option.getD x undef) t37)
               have f38 := (hTW 38).symm.trans (congrArg (fun x => Option.getD x undef) t38)
               have f39 := (hTW 39).symm.trans (congrArg (fun x => Option.getD x undef) t39)
               have f40 := (hTW 40).symm.trans (congrArg (fun x => Option.getD x undef) t40)
               have f41 := (hTW 41).symm.trans (congrArg (fun x => Option.getD x undef) t41)
               have f42 := (hTW 42).symm.trans (congrArg (fun x => Option.getD x undef) t42)
               have f43 := (hTW 43).symm.trans (congrArg (fun x => Option.getD x undef) t43)
               have f44 := (hTW 44).symm.trans (congrArg (fun x => Option.getD x undef) t44)
               have f45 := (hTW 45).symm.trans (congrArg (fun x => Option.getD x undef) t45)
               have f46 := (hTW 46).symm.trans (congrArg (fun x => Option.getD x undef) t46)
               have f47 := (hTW 47).symm.trans (congrArg (fun x => Option.getD x undef) t47)
               have f48 := (hTW 48).symm.trans (congrArg (fun x => Option.getD x undef) t48)
               have f49 := (hTW 49).symm.trans (congrArg (fun x => Option.getD x undef) t49)
               have f50 := (hTW 50).symm.trans (congrArg (fun x => Option.getD x undef) t50)
               have f78 := (hTW 78).symm.trans (congrArg (fun x => Option.getD x undef) t78)
               have f79 := (hTW 79).symm.trans (congrArg (fun x => Option.getD x undef) t79)
               have hac := act_eq (n := 80) hsz TW hTW
               rw [show ((List.range 80).map TW).toArray = #[TW 0, TW 1, TW 2, TW 3, TW 4, TW 5, TW 6, TW 7, TW 8, TW 9, TW 10, TW 11, TW 12, TW 13, TW 14, TW 15, TW 16, TW 17, TW 18, TW 19, TW 20, TW 21, TW 22, TW 23, TW 24, TW 25, TW 26, TW 27, TW 28, TW 29, TW 30, TW 31, TW 32, TW 33, TW 34, TW 35, TW 36, TW 37, TW 38, TW 39, TW 40, TW 41, TW 42, TW 43, TW 44, TW 45, TW 46, TW 47, TW 48, TW 49, TW 50, TW 51, TW 52, TW 53, TW 54, TW 55, TW 56, TW 57, TW 58, TW 59, TW 60, TW 61, TW 62, TW 63, TW 64, TW 65, TW 66, TW 67, TW 68, TW 69, TW 70, TW 71, TW 72, TW 73, TW 74, TW 75, TW 76, TW 77, TW 78, TW 79] from rfl, f0, f1, f2, f3, f4, f5, f6, f7, f8, f9, f10, f11, f12, f13, f15, f16, f17, f18, f19, f20, f21, f22, f23, f24, f25, f26, f27, f28, f29, f30, f31, f32, f33, f34, f35, f36, f37, f38, f39, f40, f41, f42, f43, f44, f45, f46, f47, f48, f49, f50, f78, f79, hdf] at hac
               simp only [Option.getD_some] at hac
               subst hac
               clear hTW f0 f1 f2 f3 f4 f5 f6 f7 f8 f9 f10 f11 f12 f13 f15 f16 f17 f18 f19 f20 f21 f22 f23 f24 f25 f26 f27 f28 f29 f30 f31 f32 f33 f34 f35 f36 f37 f38 f39 f40 f41 f42 f43 f44 f45 f46 f47 f48 f49 f50 f78 f79
               rw [← HV1.out] at hiV
               have BB := Lib.hid (loop2 hB s12 hiV)
               clear hB s12 hiV HP13 PL TM FL t0 t1 t2 t3 t4 t5 t6 t7 t8 t9 t10 t11 t12 t13 t15 t16 t17 t18 t19 t20 t21 t22 t23 t24 t25 t26 t27 t28 t29 t30 t31 t32 t33 t34 t35 t36 t37 t38 t39 t40 t41 t42 t43 t44 t45 t46 t47 t48 t49 t50 t78 t79
               go_wp2_with fail
               go_roundw
               case rel => exact ⟨j + 1, x108, n108, c108, m108, h1, by omega, HJN.out, by go_num, BB.out⟩
               case measure => simp [intOf]; omega
             refine Stps4.cons (o := _) ?_ ?_
             · intro f ac yw hsz hold hB hp hf K hK
               have t12 : ac.tmps[12]? = some (.pointer (some ⟨w9.heap.size, 0, none⟩)) := hold 12 (by kernel_rfl)
               have v0 := (hB.now.1 (hf 13 (by decide))).cell
               have v1 := (hB.now.1 (hf 13 (by decide))).cell1
               have v2 := hB.now.2.2.1.cell
               have v3 := hB.now.2.2.1.cell1
               have v4 := hB.now.2.2.2.2.2.2.1.cell
               have v5 := hB.now.2.2.2.2.2.2.1.cell1
               clear hold hp hsz hf
               go_simp
               exact hK.out _ _ ⟨hB, rfl, Nat.le_refl _, .inl (Below.refl _ _), fun h => absurd h (by decide)⟩
             refine Stps4.cons (o := _) ?_ ?_
             · intro f ac yw hsz hold hB hp hf K hK
               have t9 : ac.tmps[9]? = some (.pointer (some ⟨k10, 0, none⟩)) := hold 9 (by kernel_rfl)
               have v0 := (hB.now.1 (hf 13 (by decide))).cell
               have v1 := (hB.now.1 (hf 13 (by decide))).cell1
               have v2 := hB.now.2.2.1.cell
               have v3 := hB.now.2.2.1.cell1
               have v4 := hB.now.2.2.2.2.2.2.1.cell
               have v5 := hB.now.2.2.2.2.2.2.1.cell1
               clear hold hp hsz hf
               go_simp
               exact hK.out _ _ ⟨hB, rfl, Nat.le_refl _, .inl (Below.refl _ _), fun h => absurd h (by decide)⟩
             refine Stps4.cons (o := _) ?_ ?_
             · intro f ac yw hsz hold hB hp hf K hK
               have t14 : ac.tmps[14]? = some (.pointer (some ⟨w10.heap.size, 0, none⟩)) := hold 14 (by kernel_rfl)
               have v0 := (hB.now.1 (hf 13 (by decide))).cell
               have v1 := (hB.now.1 (hf 13 (by decide))).cell1
               have v2 := hB.now.2.2.1.cell
               have v3 := hB.now.2.2.1.cell1
               have v4 := hB.now.2.2.2.2.2.2.1.cell
               have v5 := hB.now.2.2.2.2.2.2.1.cell1
               clear hold hp hsz hf
               go_simp
               exact hK.out _ _ ⟨hB, rfl, Nat.le_refl _, .inl (Below.refl _ _), fun h => absurd h (by decide)⟩
             refine Stps4.cons (o := _) ?_ ?_
             · intro f ac yw hsz hold hB hp hf K hK
               have e2 := hp 2 (by decide)
               have t68 : ac.tmps[68]? = some (.agg #[.slice x10 n10 c10, .bool m10]) := (List.cons.inj e2).1
               clear hold hp hsz hf e2
               have hk0 : w9.heap.size < yw.heap.size := hB.now.2.1.choose_spec.choose_spec.choose_spec.choose_spec.lt
               have hbz : Below yw.heap.size yw (yw.alloc (.cells #[.slice x10 n10 c10, .bool m10] 51)) /\ yw.heap.size < (yw.alloc (.cells #[.slice x10 n10 c10, .bool m10] 51)).heap.size := ⟨(Below.refl _ _).alloc (Nat.le_refl _) _, by simp⟩
               have hra := IntsAt.old1 (wk := yw) (t := 51) (Below.refl _ _) rfl (hB.now.2.2.2.1.below hbz.1)
               go_simp
               exact hK.out _ _ ⟨hB.alloc _, Exists.intro yw.heap.size (And.intro rfl (And.intro hra hk0)), Nat.le_of_lt hbz.2, .inl hbz.1, fun _ => ⟨_, rfl, Nat.le_refl _, hbz.2⟩⟩
             refine Stps4.cons (o := _) ?_ ?_
             · intro f ac yw hsz hold hB hp hf K hK
               have e1 := hp 1 (by decide)
               have t67 : ac.tmps[67]? = some (.agg #[.slice x8 n8 c8, .bool false]) := (List.cons.inj e1).1
               obtain ⟨k3_3, e3, g3_0, g3_1⟩ := hp 3 (by decide)
               have t69 : ac.tmps[69]? = some (.slice (some ⟨k3_3, 0, none⟩) 1 1) := (List.cons.inj e3).1
               clear hold hp hsz hf e1 e3
               go_simp
               (go_at_call 129; (with_reducible refine (PL.out _ _ hB.now.2.2.2.2.2.1 g3_0).mono ?_); rintro e wz ⟨x104, n104, c104, m104, rfl, h4_0, hbz⟩)
               exact hK.out _ _ ⟨hB.go hbz, Exists.intro x104 (Exists.intro n104 (Exists.intro c104 (Exists.intro m104 (And.intro rfl h4_0)))), hbz.size, .inl hbz, fun h => absurd h (by decide)⟩
             refine Stps4.cons (o := _) ?_ ?_
             · intro f ac yw hsz hold hB hp hf K hK
               obtain ⟨x104_4, n104_4, c104_4, m104_4, e4, g4_0⟩ := hp 4 (by decide)
               have t70 : ac.tmps[70]? = some (.agg #[.slice x104_4 n104_4 c104_4, .bool m104_4]) := (List.cons.inj e4).1
               clear hold hp hsz hf e4
               have hk0 : w9.heap.size < yw.heap.size := hB.now.2.1.choose_spec.choose_spec.choose_spec.choose_spec.lt
               have hbz : Below yw.heap.size yw (yw.alloc (.cells #[.slice x104_4 n104_4 c104_4, .bool m104_4] 51)) /\ yw.heap.size < (yw.alloc (.cells #[.slice x104_4 n104_4 c104_4, .bool m104_4] 51)).heap.size := ⟨(Below.refl _ _).alloc (Nat.le_refl _) _, by simp⟩
               have hra := IntsAt.old1 (wk := yw) (t := 51) (Below.refl _ _) rfl (g4_0.below hbz.1)
               go_simp
               exact hK.out _ _ ⟨hB.alloc _, Exists.intro yw.heap.size (And.intro rfl (And.intro hra hk0)), Nat.le_of_lt hbz.2, .inl hbz.1, fun _ => ⟨_, rfl, Nat.le_refl _, hbz.2⟩⟩
             refine Stps4.cons (o := _) ?_ ?_
             · intro f ac yw hsz hold hB hp hf K hK
               have e0 := hp 0 (by decide)
               have t66 : ac.tmps[66]? = some (.agg #[.slice aw nw cw, .bool mw]) := (List.cons.inj e0).1
               obtain ⟨k5_5, e5, g5_0, g5_1⟩ := hp 5 (by decide)
               have t71 : ac.tmps[71]? = some (.slice (some ⟨k5_5, 0, none⟩) 1 1) := (List.cons.inj e5).1
               clear hold hp hsz hf e0 e5
               go_simp
               (go_at_call 70; (with_reducible refine (TM.out _ _ hB.now.2.2.2.2.1 g5_0).mono ?_); rintro e wz ⟨x106, n106, c106, m106, rfl, h6_0, hbz⟩)
               exact hK.out _ _ ⟨hB.go hbz, Exists.intro x106 (Exists.intro n106 (Exists.intro c106 (Exists.intro m106 (And.intro rfl h6_0)))), hbz.size, .inl hbz, fun h => absurd h (by decide)⟩
             refine Stps4.cons (o := _) ?_ ?_
             · intro f ac yw hsz hold hB hp hf K hK
               have t14 : ac.tmps[14]? = some (.pointer (some ⟨w10.heap.size, 0, none⟩)) := hold 14 (by kernel_rfl)
               have v0 := (hB.now.1 (hf 13 (by decide))).cell
               have v1 := (hB.now.1 (hf 13 (by decide))).cell1
               have v2 := hB.now.2.2.1.cell
               have v3 := hB.now.2.2.1.cell1
               have v4 := hB.now.2.2.2.2.2.2.1.cell
               have v5 := hB.now.2.2.2.2.2.2.1.cell1
               clear hold hp hsz hf
               go_simp
               exact hK.out _ _ ⟨hB, rfl, Nat.le_refl _, .inl (Below.refl _ _), fun h => absurd h (by decide)⟩
             refine Stps4.cons (o := _) ?_ ?_
             · intro f ac yw hsz hold hB hp hf K hK
               obtain ⟨x106_6, n106_6, c106_6, m106_6, e6, g6_0⟩ := hp 6 (by decide)
               have t72 : ac.tmps[72]? = some (.agg #[.slice x106_6 n106_6 c106_6, .bool m106_6]) := (List.cons.inj e6).1
               have e7 := hp 7 (by decide)
               have t73 : ac.tmps[73]? = some (.agg #[.slice x10 n10 c10, .bool m10]) := (List.cons.inj e7).1
               clear hold hp hsz hf e6 e7
               go_simp
               (go_at_call 193; (with_reducible refine (FL.out _ _ _ _ _ _ _ _ _ g6_0 hB.now.2.2.2.1).mono ?_); rintro e wz ⟨x108, n108, c108, m108, x109, n109, c109, m109, rfl, h8_0, h8_1, hbz⟩)
               exact hK.out _ _ ⟨hB.go hbz, Exists.intro x108 (Exists.intro n108 (Exists.intro c108 (Exists.intro m108 (Exists.intro x109 (Exists.intro n109 (Exists.intro c109 (Exists.intro m109 (And.intro rfl (And.intro h8_0 h8_1))))))))), hbz.size, .inl hbz, fun h => absurd h (by decide)⟩
             refine Stps4.cons (o := _) ?_ ?_
             · intro f ac yw hsz hold hB hp hf K hK
               obtain ⟨x108_8, n108_8, c108_8, m108_8, x109_8, n109_8, c109_8, m109_8, e8, g8_0, g8_1⟩ := hp 8 (by decide)
               have t74 : ac.tmps[74]? = some (.tuple #[.agg #[.slice x108_8 n108_8 c108_8, .bool m108_8], .agg #[.slice x109_8 n109_8 c109_8, .bool m109_8], .bool true]) := (List.cons.inj e8).1
               clear hold hp hsz hf e8
               go_simp
               exact hK.out _ _ ⟨hB, Exists.intro x108_8 (Exists.intro n108_8 (Exists.intro c108_8 (Exists.intro m108_8 (Exists.intro x109_8 (Exists.intro n109_8 (Exists.intro c109_8 (Exists.intro m109_8 (And.intro rfl (And.intro g8_0 g8_1))))))))), Nat.le_refl _, .inl (Below.refl _ _), fun h => absurd h (by decide)⟩
             refine Stps4.cons (o := _) ?_ ?_
             · intro f ac yw hsz hold hB hp hf K hK
               obtain ⟨x108_9, n108_9, c108_9, m108_9, x109_9, n109_9, c109_9, m109_9, e9, g9_0, g9_1⟩ := hp 9 (by decide)
               have t65 : ac.tmps[65]? = some (.tuple #[.agg #[.slice x108_9 n108_9 c108_9, .bool m108_9], .agg #[.slice x109_9 n109_9 c109_9, .bool m109_9], .bool true]) := (List.cons.inj e9).1
               clear hold hp hsz hf e9
               go_simp
               exact hK.out _ _ ⟨hB, Exists.intro x108_9 (Exists.intro n108_9 (Exists.intro c108_9 (Exists.intro m108_9 (And.intro rfl g9_0)))), Nat.le_refl _, .inl (Below.refl _ _), fun h => absurd h (by decide)⟩
             refine Stps4.cons (o := _) ?_ ?_
             · intro f ac yw hsz hold hB hp hf K hK
               obtain ⟨x108_9, n108_9, c108_9, m108_9, x109_9, n109_9, c109_9, m109_9, e9, g9_0, g9_1⟩ := hp 9 (by decide)
               have t65 : ac.tmps[65]? = some (.tuple #[.agg #[.slice x108_9 n108_9 c108_9, .bool m108_9], .agg #[.slice x109_9 n109_9 c109_9, .bool m109_9], .bool true]) := (List.cons.inj e9).1
               clear hold hp hsz hf e9
               go_simp
               exact hK.out _ _ ⟨hB, Exists.intro x109_9 (Exists.intro n109_9 (Exists.intro c109_9 (Exists.intro m109_9 (And.intro rfl g9_1)))), Nat.le_refl _, .inl (Below.refl _ _), fun h => absurd h (by decide)⟩
             refine Stps4.cons (o := _) ?_ ?_
             · intro f ac yw hsz hold hB hp hf K hK
               obtain ⟨x108_9, n108_9, c108_9, m108_9, x109_9, n109_9, c109_9, m109_9, e9, g9_0, g9_1⟩ := hp 9 (by decide)
               have t65 : ac.tmps[65]? = some (.tuple #[.agg #[.slice x108_9 n108_9 c108_9, .bool m108_9], .agg #[.slice x109_9 n109_9 c109_9, .bool m109_9], .bool true]) := (List.cons.inj e9).1
               clear hold hp hsz hf e9
               go_simp
               exact hK.out _ _ ⟨hB, rfl, Nat.le_refl _, .inl (Below.refl _ _), fun h => absurd h (by decide)⟩
             refine Stps4.cons (o := _) ?_ ?_
             · intro f ac yw hsz hold hB hp hf K hK
               obtain ⟨x108_10, n108_10, c108_10, m108_10, e10, g10_0⟩ := hp 10 (by decide)
               have t75 : ac.tmps[75]? = some (.agg #[.slice x108_10 n108_10 c108_10, .bool m108_10]) := (List.cons.inj e10).1
               have t12 : ac.tmps[12]? = some (.pointer (some ⟨w9.heap.size, 0, none⟩)) := hold 12 (by kernel_rfl)
               clear hold hp hsz hf e10
               obtain ⟨x9, y9, z9, b9, hs⟩ := hB.now.2.1
               have l0 := hs.cell
               have l1 := hs.cell1
               have f0 := hs.free
               have f1 := hs.free1
               have HB := HP13.out _ _ hB _ _ _ _ hs x108_10 n108_10 c108_10 m108_10
               go_simp
               refine hK.out undef _ ⟨HB, Exists.intro x108_10 (Exists.intro n108_10 (Exists.intro c108_10 (Exists.intro m108_10 (And.intro (hs.set2 (.slice x108_10 n108_10 c108_10) (.bool m108_10)) (IntAt.set2b g10_0 hs _ _))))), by simp, .inr ?_, fun h => absurd h (by decide)⟩
               intro jj hj hap h
               match jj, h with
               | 0, h => exact h
               | 1, h => exact h
               | 2, h => exact h
               | 3, ⟨k3, e3, g3_0, g3_1⟩ => exact Exists.intro k3 (And.intro e3 (And.intro (IntsAt.set2o g3_0 (by omega) hs _ _) g3_1))
               | 4, ⟨x104, n104, c104, m104, e4, g4_0⟩ => exact Exists.intro x104 (Exists.intro n104 (Exists.intro c104 (Exists.intro m104 (And.intro e4 (IntAt.set2b g4_0 hs _ _)))))
               | 5, ⟨k5, e5, g5_0, g5_1⟩ => exact Exists.intro k5 (And.intro e5 (And.intro (IntsAt.set2o g5_0 (by omega) hs _ _) g5_1))
               | 6, ⟨x106, n106, c106, m106, e6, g6_0⟩ => exact Exists.intro x106 (Exists.intro n106 (Exists.intro c106 (Exists.intro m106 (And.intro e6 (IntAt.set2b g6_0 hs _ _)))))
               | 7, h => exact h
               | 8, ⟨x108, n108, c108, m108, x109, n109, c109, m109, e8, g8_0, g8_1⟩ => exact Exists.intro x108 (Exists.intro n108 (Exists.intro c108 (Exists.intro m108 (Exists.intro x109 (Exists.intro n109 (Exists.intro c109 (Exists.intro m109 (And.intro e8 (And.intro (IntAt.set2b g8_0 hs _ _) (IntAt.set2b g8_1 hs _ _))))))))))
               | 9, ⟨x108, n108, c108, m108, x109, n109, c109, m109, e9, g9_0, g9_1⟩ => exact Exists.intro x108 (Exists.intro n108 (Exists.intro c108 (Exists.intro m108 (Exists.intro x109 (Exists.intro n109 (Exists.intro c109 (Exists.intro m109 (And.intro e9 (And.intro (IntAt.set2b g9_0 hs _ _) (IntAt.set2b g9_1 hs _ _))))))))))
               | 10, ⟨x108, n108, c108, m108, e10, g10_0⟩ => exact Exists.intro x108 (Exists.intro n108 (Exists.intro c108 (Exists.intro m108 (And.intro e10 (IntAt.set2b g10_0 hs _ _)))))
               | 11, ⟨x109, n109, c109, m109, e11, g11_0⟩ => exact Exists.intro x109 (Exists.intro n109 (Exists.intro c109 (Exists.intro m109 (And.intro e11 (IntAt.set2b g11_0 hs _ _)))))
               | 12, h => exact h
               | 13, _ => exact absurd rfl hj
               | _ + 14, h => exact h
             exact Stps4.nil _
           · have q0 := BB.out.now.1.cell
             have q1 := BB.out.now.1.cell1
             go_wp2_with fail
             go_at_call 155
             (with_reducible refine (LK.out _ BB.out.now.2.1).mono ?_)
             rintro e w20 ⟨rfl, hb20⟩
             have BB := Lib.hid (BB.out.go hb20)
             clear hb20
             clear q0 q1
             have WH := Lib.hid (fun wz h => whole_any aw nw cw mw ((wy rr j : Nat) : Int) wz h)
             have HGD := Lib.hid (HL3.out j hjk HJL.out (.inr (by rw [hlk]; omega)))
             clear hlk
             have q0 := BB.out.now.1.cell
             have q1 := BB.out.now.1.cell1
             go_wp2_with fail
             go_at_call 73
             (with_reducible refine (WH.out _ BB.out.now.2.1).mono ?_)
             rintro e w21 ⟨x21, xn21, xc21, xm21, y21, yn21, yc21, rfl, hr21, hb21⟩
             have BB := Lib.hid (BB.out.go hb21)
             clear hb21
             clear q0 q1
             have hs := BB.out.now.2.2.2.2.1
             have u0 := hs.cell
             have u1 := hs.cell1
             have u2 := hs.cell2
             have g0 := hs.free
             have g1 := hs.free1
             have g2 := hs.free2
             have HS := hs.set (.slice x21 xn21 xc21) (.bool xm21) (.slice y21 yn21 yc21)
             have HE := Lib.hid (RatTold4.done 0 BB.out.below (by omega) hs hr21)
             clear hs
             go_wp2
             exact bodyPost_ret (v := .tuple #[.agg #[.slice x21 xn21 xc21, .bool xm21, .slice y21 yn21 yc21], .int .i64 0]) (by simp [results, Tryz.results154, go_sem, HS]) rfl ⟨(((wy rr j : Nat) : Int), 1, 0), HE.out, HGD.out⟩
         · have h1' : ¬ (j : Int) + 1 <= (kk : Int) := by omega
           have WH := Lib.hid (fun wz h => whole_any aw nw cw mw ((wy rr j : Nat) : Int) wz h)
           have HGD := Lib.hid (HL3.out j hjk HJL.out (.inl (by omega)))
           have q0 := BB.out.now.1.cell
           have q1 := BB.out.now.1.cell1
           go_wp2_with fail
           go_at_call 73
           (with_reducible refine (WH.out _ BB.out.now.2.1).mono ?_)
           rintro e w20 ⟨x20, xn20, xc20, xm20, y20, yn20, yc20, rfl, hr20, hb20⟩
           have BB := Lib.hid (BB.out.go hb20)
           clear hb20
           clear q0 q1
           have hs := BB.out.now.2.2.2.2.1
           have u0 := hs.cell
           have u1 := hs.cell1
           have u2 := hs.cell2
           have g0 := hs.free
           have g1 := hs.free1
           have g2 := hs.free2
           have HS := hs.set (.slice x20 xn20 xc20) (.bool xm20) (.slice y20 yn20 yc20)
           have HE := Lib.hid (RatTold4.done 0 BB.out.below (by omega) hs hr20)
           clear hs
           go_wp2
           exact bodyPost_ret (v := .tuple #[.agg #[.slice x20 xn20 xc20, .bool xm20, .slice y20 yn20 yc20], .int .i64 0]) (by simp [results, Tryz.results154, go_sem, HS]) rfl ⟨(((wy rr j : Nat) : Int), 1, 0), HE.out, HGD.out⟩
 refine Stps2.cons (o := _) ?_ ?_
 · intro ac yw hsz hold hB hp K hK
   have t3 : ac.tmps[3]? = some (.pointer (some ⟨w.heap.size, 0, none⟩)) := hold 3 (by kernel_rfl)
   clear hold hp hsz
   have v0 := hB.now.2.1.cell
   have v1 := hB.now.2.1.cell1
   have v2 := hB.now.2.1.cell2
   have v3 := hB.now.2.2.1.cell
   have v4 := hB.now.2.2.1.cell1
   have v5 := hB.now.2.2.1.cell2
   go_simp
   exact hK.out _ _ ⟨hB, rfl, Nat.le_refl _, .inl (Below.refl _ _), fun h => absurd h (by decide)⟩
 refine Stps2.cons (o := _) ?_ ?_
 · intro ac yw hsz hold hB hp K hK
   have e0 := hp 0 (by decide)
   have t24 : ac.tmps[24]? = some (.agg #[.slice a n c, .bool m, .slice a2 n2 c2]) := (List.cons.inj e0).1
   clear hold hp hsz e0
   go_simp
   (go_at_call 188; (with_reducible refine (TA.out _ hB.now.2.2.2.2.1).mono ?_); rintro e wz ⟨rfl, h1_0, hbz⟩)
   exact hK.out _ _ ⟨hB.go hbz, And.intro rfl h1_0, hbz.size, .inl hbz, fun h => absurd h (by decide)⟩
 refine Stps2.cons (o := _) ?_ ?_
 · intro ac yw hsz hold hB hp K hK
   have t4 : ac.tmps[4]? = some (.pointer (some ⟨w.heap.size + 1, 0, none⟩)) := hold 4 (by kernel_rfl)
   clear hold hp hsz
   have v0 := hB.now.2.1.cell
   have v1 := hB.now.2.1.cell1
   have v2 := hB.now.2.1.cell2
   have v3 := hB.now.2.2.1.cell
   have v4 := hB.now.2.2.1.cell1
   have v5 := hB.now.2.2.1.cell2
   go_simp
   exact hK.out _ _ ⟨hB, rfl, Nat.le_refl _, .inl (Below.refl _ _), fun h => absurd h (by decide)⟩
 refine Stps2.cons (o := _) ?_ ?_
 · intro ac yw hsz hold hB hp K hK
   have e2 := hp 2 (by decide)
   have t26 : ac.tmps[26]? = some (.agg #[.slice b k l, .bool v, .slice b2 k2 l2]) := (List.cons.inj e2).1
   clear hold hp hsz e2
   go_simp
   (go_at_call 188; (with_reducible refine (TB.out _ hB.now.2.2.2.1).mono ?_); rintro e wz ⟨rfl, h3_0, hbz⟩)
   exact hK.out _ _ ⟨hB.go hbz, And.intro rfl h3_0, hbz.size, .inl hbz, fun h => absurd h (by decide)⟩
 refine Stps2.cons (o := _) ?_ ?_
 · intro ac yw hsz hold hB hp K hK
   have t3 : ac.tmps[3]? = some (.pointer (some ⟨w.heap.size, 0, none⟩)) := hold 3 (by kernel_rfl)
   clear hold hp hsz
   have v0 := hB.now.2.1.cell
   have v1 := hB.now.2.1.cell1
   have v2 := hB.now.2.1.cell2
   have v3 := hB.now.2.2.1.cell
   have v4 := hB.now.2.2.1.cell1
   have v5 := hB.now.2.2.1.cell2
   go_simp
   exact hK.out _ _ ⟨hB, rfl, Nat.le_refl _, .inl (Below.refl _ _), fun h => absurd h (by decide)⟩
 refine Stps2.cons (o := _) ?_ ?_
 · intro ac yw hsz hold hB hp K hK
   have e4 := hp 4 (by decide)
   have t28 : ac.tmps[28]? = some (.agg #[.slice a n c, .bool m, .slice a2 n2 c2]) := (List.cons.inj e4).1
   clear hold hp hsz e4
   go_simp
   (go_at_call 188; (with_reducible refine (TA.out _ hB.now.2.2.2.2.1).mono ?_); rintro e wz ⟨rfl, h5_0, hbz⟩)
   exact hK.out _ _ ⟨hB.go hbz, And.intro rfl h5_0, hbz.size, .inl hbz, fun h => absurd h (by decide)⟩
 refine Stps2.cons (o := _) ?_ ?_
 · intro ac yw hsz hold hB hp K hK
   obtain ⟨e5, g5_0⟩ := hp 5 (by decide)
   have t29 : ac.tmps[29]? = some (.agg #[.slice a n c, .bool m]) := (List.cons.inj e5).1
   clear hold hp hsz e5
   go_simp
   (go_at_call 185; (with_reducible refine (MN.out _ g5_0).mono ?_); rintro e wz ⟨x6, n6, c6, m6, rfl, h6_0, hbz⟩)
   exact hK.out _ _ ⟨hB.go hbz, Exists.intro x6 (Exists.intro n6 (Exists.intro c6 (Exists.intro m6 (And.intro rfl h6_0)))), hbz.size, .inl hbz, fun h => absurd h (by decide)⟩
 refine Stps2.cons (o := _) ?_ ?_
 · intro ac yw hsz hold hB hp K hK
   obtain ⟨x6_6, n6_6, c6_6, m6_6, e6, g6_0⟩ := hp 6 (by decide)
   have t30 : ac.tmps[30]? = some (.agg #[.slice x6_6 n6_6 c6_6, .bool m6_6]) := (List.cons.inj e6).1
   clear hold hp hsz e6
   have hbz : Below yw.heap.size yw (yw.alloc (.cells #[.slice x6_6 n6_6 c6_6, .bool m6_6] 51)) /\ yw.heap.size < (yw.alloc (.cells #[.slice x6_6 n6_6 c6_6, .bool m6_6] 51)).heap.size := ⟨(Below.refl _ _).alloc (Nat.le_refl _) _, by simp⟩
   have hra := IntsAt.old1 (wk := yw) (t := 51) (Below.refl _ _) rfl (g6_0.below hbz.1)
   go_simp
   exact hK.out _ _ ⟨hB.alloc _, Exists.intro yw.heap.size (And.intro rfl hra), Nat.le_of_lt hbz.2, .inl hbz.1, fun _ => ⟨_, rfl, Nat.le_refl _, hbz.2⟩⟩
 refine Stps2.cons (o := _) ?_ ?_
 · intro ac yw hsz hold hB hp K hK
   obtain ⟨e3, g3_0⟩ := hp 3 (by decide)
   have t27 : ac.tmps[27]? = some (.agg #[.slice b k l, .bool v]) := (List.cons.inj e3).1
   obtain ⟨k7_7, e7, g7_0⟩ := hp 7 (by decide)
   have t31 : ac.tmps[31]? = some (.slice (some ⟨k7_7, 0, none⟩) 1 1) := (List.cons.inj e7).1
   clear hold hp hsz e3 e7
   go_simp
   (go_at_call 129; (with_reducible refine (PL.out _ _ g3_0 g7_0).mono ?_); rintro e wz ⟨x8, n8, c8, m8, rfl, h8_0, hbz⟩)
   exact hK.out _ _ ⟨hB.go hbz, Exists.intro x8 (Exists.intro n8 (Exists.intro c8 (Exists.intro m8 (And.intro rfl h8_0)))), hbz.size, .inl hbz, fun h => absurd h (by decide)⟩
 refine Stps2.cons (o := _) ?_ ?_
 · intro ac yw hsz hold hB hp K hK
   clear hold hp hsz
   have hk0 := hB.now.1.lt
   have hsl := Slot2.new yw (.slice none 0 0) (.bool false) 51
   have hbz : Below yw.heap.size yw (yw.alloc (.cells #[.slice none 0 0, .bool false] 51)) /\ yw.heap.size < (yw.alloc (.cells #[.slice none 0 0, .bool false] 51)).heap.size := ⟨(Below.refl _ _).alloc (Nat.le_refl _) _, by simp⟩
   go_simp
   exact hK.out _ _ ⟨hB.alloc _, Exists.intro yw.heap.size (Exists.intro none (Exists.intro 0 (Exists.intro 0 (Exists.intro false (And.intro rfl (And.intro hsl hk0)))))), Nat.le_of_lt hbz.2, .inl hbz.1, fun _ => ⟨_, rfl, Nat.le_refl _, hbz.2⟩⟩
 refine Stps2.cons (o := _) ?_ ?_
 · intro ac yw hsz hold hB hp K hK
   clear hold hp hsz
   have hk0 := hB.now.1.lt
   have hsl := Slot2.new yw (.slice none 0 0) (.bool false) 51
   have hbz : Below yw.heap.size yw (yw.alloc (.cells #[.slice none 0 0, .bool false] 51)) /\ yw.heap.size < (yw.alloc (.cells #[.slice none 0 0, .bool false] 51)).heap.size := ⟨(Below.refl _ _).alloc (Nat.le_refl _) _, by simp⟩
   go_simp
   exact hK.out _ _ ⟨hB.alloc _, Exists.intro yw.heap.size (Exists.intro none (Exists.intro 0 (Exists.intro 0 (Exists.intro false (And.intro rfl (And.intro hsl hk0)))))), Nat.le_of_lt hbz.2, .inl hbz.1, fun _ => ⟨_, rfl, Nat.le_refl _, hbz.2⟩⟩
 refine Stps2.cons (o := _) ?_ ?_
 · intro ac yw hsz hold hB hp K hK
   obtain ⟨k9_9, x0_9, y0_9, z0_9, b0_9, e9, g9_0, g9_1⟩ := hp 9 (by decide)
   have t8 : ac.tmps[8]? = some (.pointer (some ⟨k9_9, 0, none⟩)) := (List.cons.inj e9).1
   obtain ⟨e1, g1_0⟩ := hp 1 (by decide)
   have t25 : ac.tmps[25]? = some (.agg #[.slice a n c, .bool m]) := (List.cons.inj e1).1
   clear hold hp hsz e9 e1
   have hs := g9_0
   have l0 := hs.cell
   have l1 := hs.cell1
   have f0 := hs.free
   have f1 := hs.free1
   have HB := HP.out _ _ hs g9_1 hB a n c m
   go_simp
   refine hK.out undef _ ⟨HB, Exists.intro k9_9 (And.intro (congrArg (fun x => [x]) t8) (hs.set2 (.slice a n c) (.bool m))), by simp, .inr ?_, fun h => absurd h (by decide)⟩
   intro jj hj hap h
   match jj, h with
   | 0, h => exact h
   | 1, ⟨e1, g1_0⟩ =>
    exact And.intro e1 (IntAt.set2b g1_0 hs _ _)
   | 2, h => exact h
   | 3, ⟨e3, g3_0⟩ =>
    exact And.intro e3 (IntAt.set2b g3_0 hs _ _)
   | 4, h => exact h
   | 5, ⟨e5, g5_0⟩ =>
    exact And.intro e5 (IntAt.set2b g5_0 hs _ _)
   | 6, ⟨x6, n6, c6, m6, e6, g6_0⟩ =>
    exact Exists.intro x6 (Exists.intro n6 (Exists.intro c6 (Exists.intro m6 (And.intro e6 (IntAt.set2b g6_0 hs _ _)))))
   | 7, ⟨k7, e7, g7_0⟩ =>
    have hne : k7 ≠ k9_9 := fun e => hap 9 (by decide) 7 (by decide) (by decide) (by decide) (by decide) k9_9 ⟨8, _, rfl, t8, rfl⟩ ⟨31, _, rfl, (List.cons.inj e7).1, congrArg some e⟩
    exact Exists.intro k7 (And.intro e7 (IntsAt.set2o g7_0 hne hs _ _))
   | 8, ⟨x8, n8, c8, m8, e8, g8_0⟩ =>
    exact Exists.intro x8 (Exists.intro n8 (Exists.intro c8 (Exists.intro m8 (And.intro e8 (IntAt.set2b g8_0 hs _ _)))))
   | 9, ⟨k9, x0, y0, z0, b0, e9, g9_0, g9_1⟩ =>
    have e9 : k9 = k9_9 := by have := (List.cons.inj e9).1.symm.trans t8; cases this; rfl
    subst e9
    exact Exists.intro _ (Exists.intro _ (Exists.intro _ (Exists.intro _ (Exists.intro _ (And.intro e9 (And.intro (g9_0.set2 _ _) g9_1))))))
   | 10, ⟨k10, x0, y0, z0, b0, e10, g10_0, g10_1⟩ =>
    have hne : k10 ≠ k9_9 := fun e => hap 9 (by decide) 10 (by decide) (by decide) (by decide) (by decide) k9_9 ⟨8, _, rfl, t8, rfl⟩ ⟨9, _, rfl, (List.cons.inj e10).1, congrArg some e⟩
    exact Exists.intro k10 (Exists.intro x0 (Exists.intro y0 (Exists.intro z0 (Exists.intro b0 (And.intro e10 (And.intro (Slot2.set2o g10_0 hne _ _) g10_1))))))
   | 11, _ => exact absurd rfl hj
   | 12, ⟨k10, x8, n8, c8, m8, e12, g12_0, g12_1⟩ =>
    have hne : k10 ≠ k9_9 := fun e => hap 9 (by decide) 10 (by decide) (by decide) (by decide) (by decide) k9_9 ⟨8, _, rfl, t8, rfl⟩ ⟨9, _, rfl, (List.cons.inj e12).1, congrArg some e⟩
    exact Exists.intro k10 (Exists.intro x8 (Exists.intro n8 (Exists.intro c8 (Exists.intro m8 (And.intro e12 (And.intro (Slot2.set2o g12_0 hne _ _) (IntAt.set2b g12_1 hs _ _)))))))
   | _ + 13, h => exact h
 refine Stps2.cons (o := _) ?_ ?_
 · intro ac yw hsz hold hB hp K hK
   obtain ⟨k10_10, x0_10, y0_10, z0_10, b0_10, e10, g10_0, g10_1⟩ := hp 10 (by decide)
   have t9 : ac.tmps[9]? = some (.pointer (some ⟨k10_10, 0, none⟩)) := (List.cons.inj e10).1
   obtain ⟨x8_8, n8_8, c8_8, m8_8, e8, g8_0⟩ := hp 8 (by decide)
   have t32 : ac.tmps[32]? = some (.agg #[.slice x8_8 n8_8 c8_8, .bool m8_8]) := (List.cons.inj e8).1
   clear hold hp hsz e10 e8
   have hs := g10_0
   have l0 := hs.cell
   have l1 := hs.cell1
   have f0 := hs.free
   have f1 := hs.free1
   have HB := HP.out _ _ hs g10_1 hB x8_8 n8_8 c8_8 m8_8
   go_simp
   refine hK.out undef _ ⟨HB, Exists.intro k10_10 (Exists.intro x8_8 (Exists.intro n8_8 (Exists.intro c8_8 (Exists.intro m8_8 (And.intro (congrArg (fun x => [x]) t9) (And.intro (hs.set2 (.slice x8_8 n8_8 c8_8) (.bool m8_8)) (IntAt.set2b g8_0 hs _ _))))))), by simp, .inr ?_, fun h => absurd h (by decide)⟩
   intro jj hj hap h
   match jj, h with
   | 0, h => exact h
   | 1, ⟨e1, g1_0⟩ =>
    exact And.intro e1 (IntAt.set2b g1_0 hs _ _)
   | 2, h => exact h
   | 3, ⟨e3, g3_0⟩ =>
    exact And.intro e3 (IntAt.set2b g3_0 hs _ _)
   | 4, h => exact h
   | 5, ⟨e5, g5_0⟩ =>
    exact And.intro e5 (IntAt.set2b g5_0 hs _ _)
   | 6, ⟨x6, n6, c6, m6, e6, g6_0⟩ =>
    exact Exists.intro x6 (Exists.intro n6 (Exists.intro c6 (Exists.intro m6 (And.intro e6 (IntAt.set2b g6_0 hs _ _)))))
   | 7, ⟨k7, e7, g7_0⟩ =>
    have hne : k7 ≠ k10_10 := fun e => hap 10 (by decide) 7 (by decide) (by decide) (by decide) (by decide) k10_10 ⟨9, _, rfl, t9, rfl⟩ ⟨31, _, rfl, (List.cons.inj e7).1, congrArg some e⟩
    exact Exists.intro k7 (And.intro e7 (IntsAt.set2o g7_0 hne hs _ _))
   | 8, ⟨x8, n8, c8, m8, e8, g8_0⟩ =>
    exact Exists.intro x8 (Exists.intro n8 (Exists.intro c8 (Exists.intro m8 (And.intro e8 (IntAt.set2b g8_0 hs _ _)))))
   | 9, ⟨k9, x0, y0, z0, b0, e9, g9_0, g9_1⟩ =>
    have hne : k9 ≠ k10_10 := fun e => hap 10 (by decide) 9 (by decide) (by decide) (by decide) (by decide) k10_10 ⟨9, _, rfl, t9, rfl⟩ ⟨8, _, rfl, (List.cons.inj e9).1, congrArg some e⟩
    exact Exists.intro k9 (Exists.intro x0 (Exists.intro y0 (Exists.intro z0 (Exists.intro b0 (And.intro e9 (And.intro (Slot2.set2o g9_0 hne _ _) g9_1))))))
   | 10, ⟨k10, x0, y0, z0, b0, e10, g10_0, g10_1⟩ =>
    have e9 : k10 = k10_10 := by have := (List.cons.inj e10).1.symm.trans t9; cases this; rfl
    subst e9
    exact Exists.intro _ (Exists.intro _ (Exists.intro _ (Exists.intro _ (Exists.intro _ (And.intro e10 (And.intro (g10_0.set2 _ _) g10_1))))))
   | 11, ⟨k9, e11, g11_0⟩ =>
    have hne : k9 ≠ k10_10 := fun e => hap 10 (by decide) 9 (by decide) (by decide) (by decide) (by decide) k10_10 ⟨9, _, rfl, t9, rfl⟩ ⟨8, _, rfl, (List.cons.inj e11).1, congrArg some e⟩
    exact Exists.intro k9 (And.intro e11 (Slot2.set2o g11_0 hne _ _))
   | 12, _ => exact absurd rfl hj
   | _ + 13, h => exact h
 exact Stps2.nil _
theorem dchoices_any (a : Option Addr) (n c : Nat) (m : Bool) (a2 : Option Addr) (n2 c2 : Nat) (P : Int) (Q : Nat) (b : Option Addr) (k l : Nat) (v : Bool) (b2 : Option Addr) (k2 l2 : Nat) (P' : Int) (Q' : Nat) (lm : Int) (w : World) (h : RatAt w a n c m a2 n2 c2 P Q) (g : RatAt w b k l v b2 k2 l2 P' Q') (hQ : 0 < Q) (hQ' : 0 < Q') (K : Nat) (hK : K <= 20000) (h1 : P.natAbs < 4294967296 ^ K) (h2 : Q < 4294967296 ^ K) (h3 : P'.natAbs < 4294967296 ^ K) (h4 : Q' < 4294967296 ^ K) (hm : 1 <= lm /\ lm <= 64) :
    Calls Tryz.prog 154 #[.agg #[.slice a n c, .bool m, .slice a2 n2 c2], .agg #[.slice b k l, .bool v, .slice b2 k2 l2], .int .i64 lm] w fun e w' => ∃ t : Ans, RatTold4 w w' e t.1 t.2.1 t.2.2 /\ Good3 lm t (waysT P Q P' Q' lm) := by
 cases hc : (cntB P Q && cntB P' Q') with
 | false =>
  rw [ways_none hc]
  exact (dchoices_no a n c m a2 n2 c2 P Q b k l v b2 k2 l2 P' Q' lm w h g hQ hQ' hc).mono (fun _ _ q => ⟨_, q, Nat.one_pos, rfl⟩)
 | true =>
  rw [Bool.and_eq_true] at hc
  obtain ⟨rfl, hp⟩ := cntB_iff hc.1
  obtain ⟨rfl, hp'⟩ := cntB_iff hc.2
  exact dchoices_yes a n c m a2 n2 c2 P b k l v b2 k2 l2 P' lm w h g K hK h1 h3 hp hp' hm
end Go.Proofs.YtpdcdebnkbnogaaGreatDoor
