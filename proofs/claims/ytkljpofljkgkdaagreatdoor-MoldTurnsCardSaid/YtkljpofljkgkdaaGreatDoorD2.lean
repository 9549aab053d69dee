/-
  Texts of this seat, laid together.
-/
import Derived.WalkKit
import Derived.WalkSpells
import Derived.Deep.Draws
import Derived.Lib.Hide
import Derived.Lib.TrimByte
import Derived.WalkLawsBesides
import Derived.Laws.CopyOwn
import Derived.Deep.QuietTactic
import Derived.BigQuiet
import Derived.BigRegion
import Derived.RegionTactic
import Derived.Deep.RegionWith
import Derived.StillTailTactics
import Derived.IntWalk
import Derived.Test.YtkljpofljkgkdaaGreatDoorRows
import Derived.Deep.RegionHeld3
import Derived.Deep.DrawnRows
import Derived.Laws.BitsLemmas
import Derived.Laws.StructEq
import Derived.ChangeKeysEq
import Derived.Laws.BytesArg
import Derived.Deep.MidRow
import Derived.Below
import Derived.Lib.ItoaNum
import Derived.Test.YtkljpofljkgkdaaGreatDoorShelf
import Derived.Lib.SliceRun
import Derived.Lib.Walk
import Derived.Deep.AppendLies
import Derived.Deep.RegionLaw
import Derived.Laws.EntriesVeiled
import Derived.Shelf.Abstract
import Derived.Test.YtkljpofljkgkdaaGreatDoorQ1
import Derived.Test.YtkljpofljkgkdaaGreatDoorQ2
import Derived.Test.YtkljpofljkgkdaaGreatDoorQ3
import Derived.Test.YtkljpofljkgkdaaGreatDoorQ4
import Derived.Test.YtkljpofljkgkdaaGreatDoorQ5
import Derived.Test.YtkljpofljkgkdaaGreatDoorQ6
import Derived.Test.YtkljpofljkgkdaaGreatDoorQ7
import Derived.Test.YtkljpofljkgkdaaGreatDoorQ8
import Derived.Test.YtkljpofljkgkdaaGreatDoorQ9
import Derived.Test.YtkljpofljkgkdaaGreatDoorD1

namespace Go.Proofs.YtkljpofljkgkdaaGreatDoor
open Go.RowKit
theorem ax_congr {f f' : Nat → Int} : ∀ {n : Nat}, (∀ j, j < n → f j = f' j) → axB f n = axB f' n ∧ rm f n = rm f' n
  | 0, _ => ⟨rfl, rfl⟩
  | n + 1, h => by
    obtain ⟨h1, h2⟩ := ax_congr (n := n) (fun j hj => h j (by omega))
    have e : rm f (n + 1) = rm f' (n + 1) := by
      show rm f n * max (f n) 1 = rm f' n * max (f' n) 1
      rw [h2, h n (by omega)]
    refine ⟨?_, e⟩
    show (axB f n && (decide (0 ≤ f n) && decide (rm f (n + 1) ≤ 4096))) = (axB f' n && (decide (0 ≤ f' n) && decide (rm f' (n + 1) ≤ 4096)))
    rw [h1, e, h n (by omega)]
set_option maxHeartbeats 6400000 in
set_option maxRecDepth 100000 in
theorem rRotate_any (cs0 : Array Value) (S0 : Nat → Int) (r0 : Nat) (ch0 : Bool) (L0 : Nat) (g0 : Nat → Int) (fB0 : Nat → Bool) (fS0 fT0 : Nat → ByteArray) (P0 : Nat → Int) (Q0 : Nat → Nat) (cs : Array Value) (S : Nat → Int) (r : Nat) (ch : Bool) (L : Nat) (g : Nat → Int) (fB : Nat → Bool) (fS fT : Nat → ByteArray) (i : Int) (w : World)
    (h0 : Pln w cs0 S0 r0 ch0 L0 g0 fB0 fS0 fT0) (h : Pln w cs S r ch L g fB fS fT) (hN0 : NumOk fB0 fS0 fT0 P0 Q0 (nnO ch0 L0)) (hsh0 : shB S0 r0 = true) (hcnt0 : itm S0 r0 = (L0 : Nat)) (hL0 : L0 ≤ 1000000) (hsh : shB S r = true) (hcnt : itm S r = (L : Nat)) (hL : L ≤ 1000000) :
    Calls Tryz.prog 23 #[.agg cs0, .agg cs, .int .i64 i] w fun e w' => PoTold (rtE S0 r0 ch0 L0 P0 Q0 S r i) S r ch L (fun j => elC L g 32 (rtG S r i r0 L0 P0 j)) (fun j => elB L fB (rtG S r i r0 L0 P0 j)) (fun j => elS L fS (rS 0) (rtG S r i r0 L0 P0 j)) (fun j => elS L fT (str (dec 1)) (rtG S r i r0 L0 P0 j)) w w' e := by
  obtain ⟨sb, scb, tb, tcb, nb, ncb, hcs0, hks0⟩ := h0.form
  subst hcs0
  obtain ⟨sa, sc, ta, tc, na, nc, hcs, hks⟩ := h.form
  subst hcs
  have h8 := (sh_ax hsh).1
  have h80 := (sh_ax hsh0).1
  have H0 := Lib.hid h0
  have H := Lib.hid h
  have hwn : whC ch0 L0 P0 Q0 = true → nnO ch0 L0 = L0 := wh_nn
  have WH : ∀ wz, Pln wz (plC sb r0 scb ch0 tb (tnO ch0 L0) tcb nb (nnO ch0 L0) ncb) S0 r0 ch0 L0 g0 fB0 fS0 fT0 → Calls Tryz.prog 65 #[.agg (plC sb r0 scb ch0 tb (tnO ch0 L0) tcb nb (nnO ch0 L0) ncb)] wz fun e w' => WhTold (whC ch0 L0 P0 Q0) (nnO ch0 L0) P0 wz w' e := fun wz h => by
    have := r6Whole_any (plC sb r0 scb ch0 tb (tnO ch0 L0) tcb nb (nnO ch0 L0) ncb) S0 r0 ch0 g0 (tnO ch0 L0) fB0 fS0 fT0 (nnO ch0 L0) P0 Q0 wz h hN0 (by have := nnO_le ch0 L0; omega)
    rw [wh_eq] at this
    exact this
  have LN := Lib.hid (fun wz (q : Pln wz (plC sb r0 scb ch0 tb (tnO ch0 L0) tcb nb (nnO ch0 L0) ncb) S0 r0 ch0 L0 g0 fB0 fS0 fT0) => q.len wz hL0)
  have AX := Lib.hid (fun wz (q : Pln wz (plC sa r sc ch ta (tnO ch L) tc na (nnO ch L) nc) S r ch L g fB fS fT) => rAxis_any (plC sa r sc ch ta (tnO ch L) tc na (nnO ch L) nc) S r ch L g fB fS fT i wz q (by omega))
  obtain ⟨EE, hEE⟩ : ∃ EE, rtE S0 r0 ch0 L0 P0 Q0 S r i = EE := ⟨_, rfl⟩
  rw [hEE]
  unfold rtE at hEE
  have HNO : Hid (∀ (E : Int) wz, EE = E → E ≠ 0 → Below w.heap.size w wz → PoTold EE S r ch L (fun j => elC L g 32 (rtG S r i r0 L0 P0 j)) (fun j => elB L fB (rtG S r i r0 L0 P0 j)) (fun j => elS L fS (rS 0) (rtG S r i r0 L0 P0 j)) (fun j => elS L fT (str (dec 1)) (rtG S r i r0 L0 P0 j)) w (wz.setRow (w.heap.size + 1 + 1) plZer) (.returned (.tuple #[.agg plZer, .int .i64 E]))) := Lib.hid (fun E wz e hE hb => by
    subst e
    exact PoTold.no hE (below_put hb (show w.heap.size ≤ w.heap.size + 1 + 1 by omega) plZer))
  cases hwh : whC ch0 L0 P0 Q0 with
  | false =>
    have HQ : Hid (EE = 22) := Lib.hid (by rw [← hEE, hwh, if_neg (by decide)])
    have WH := Lib.hid (fun wz h => (WH wz h).mono (fun _ _ hw => (show _ from by
      rw [hwh] at hw
      obtain ⟨a, m, c, he, h2, hb⟩ := hw
      rw [if_neg (by decide)] at h2
      exact (⟨a, m, c, he, hb⟩ : ∃ a m c, _ = Ending.returned (.tuple #[.slice a m c, .bool false]) ∧ _))))
    clear h0 h hN0 hsh0 hcnt0 hsh hcnt hEE hwh hwn hks0 hks h8 h80
    have BB := Lib.hid ((((Bag.start w).newRow (plC sb r0 scb ch0 tb (tnO ch0 L0) tcb nb (nnO ch0 L0) ncb) 26).newRow (plC sa r sc ch ta (tnO ch L) tc na (nnO ch L) nc) 26).newRow plZer 26)
    simp only [World.size_alloc] at BB
    have HR1 := Lib.hid BB.out.now.2.2.1
    unfold plC
    go_enter Tryz.func23, Tryz.ntmps23
    go_wp2_with (refine ld_pln rfl (.tmp 3) rfl w.heap.size rfl HR1.out ?_)
    go_at_call 65
    (with_reducible refine (WH.out _ ?_).mono ?_)
    · exact H0.out.below BB.out.below
    rintro e w2 ⟨al, ml, cl, rfl, hb2⟩
    have BB := Lib.hid (BB.out.go hb2)
    clear hb2
    have HZ := Lib.hid BB.out.now.1
    have HE := Lib.hid (HNO.out 22 _ HQ.out (by decide) BB.out.below)
    go_wp2_with (refine st_pln rfl (.tmp 6) (.tmp 26) rfl (w.heap.size + 1 + 1) rfl none 0 0 false none 0 0 none 0 0 rfl HZ.out rfl ?_)
    exact bodyPost_ret (res_pln2 Tryz.results23 rfl rfl (HZ.out.put _) rfl) rfl HE.out
  | true =>
    have WH : Hid (∀ wz, Pln wz (plC sb r0 scb ch0 tb (tnO ch0 L0) tcb nb (nnO ch0 L0) ncb) S0 r0 ch0 L0 g0 fB0 fS0 fT0 → Calls Tryz.prog 65 #[.agg (plC sb r0 scb ch0 tb (tnO ch0 L0) tcb nb (nnO ch0 L0) ncb)] wz fun e w' => ∃ a c, e = .returned (.tuple #[.slice a L0 c, .bool true]) ∧ KRow w' .i64 a L0 c P0 ∧ Below wz.heap.size wz w') := Lib.hid (fun wz h => (WH wz h).mono (by
      rintro e w' hw
      rw [hwh, hwn hwh] at hw
      exact hw.yes))
    have hEE2 : (if stB r i then (if L0 = 1 then 0 else 23) else if axQ r i then (if sgB r0 L0 then 0 else ftE S0 r0 (r - 1) (outF S (axI r i).toNat)) else 23) = EE := by rw [← hEE, hwh, if_pos rfl]
    clear hEE hwh hwn hN0
    cases hst : stB r i with
    | true =>
      have hs2 := hst
      unfold stB at hs2
      rw [Bool.and_eq_true, decide_eq_true_eq, decide_eq_true_eq] at hs2
      obtain ⟨hr0, hi0⟩ := hs2
      have e0 : ((r : Nat) : Int) = 0 := by omega
      rw [hst, if_pos rfl] at hEE2
      by_cases h1 : L0 = 1
      · have HQ : EE = 0 := by rw [← hEE2, if_pos h1]
        have HSELF : Hid (∀ wz, Below w.heap.size w wz → Row wz (w.heap.size + 1 + 1) 26 plZer → PoTold EE S r ch L (fun j => elC L g 32 (rtG S r i r0 L0 P0 j)) (fun j => elB L fB (rtG S r i r0 L0 P0 j)) (fun j => elS L fS (rS 0) (rtG S r i r0 L0 P0 j)) (fun j => elS L fT (str (dec 1)) (rtG S r i r0 L0 P0 j)) w (wz.setRow (w.heap.size + 1 + 1) (plC sa r sc ch ta (tnO ch L) tc na (nnO ch L) nc)) (.returned (.tuple #[.agg (plC sa r sc ch ta (tnO ch L) tc na (nnO ch L) nc), .int .i64 0]))) := Lib.hid (fun wz hb hz => by
          subst HQ
          exact PoTold.yes (((H.out.below hb).self (fun j _ => by unfold rtG rvG; rw [hst, if_pos rfl])).put hz (plC sa r sc ch ta (tnO ch L) tc na (nnO ch L) nc)) (below_put hb (show w.heap.size ≤ w.heap.size + 1 + 1 by omega) (plC sa r sc ch ta (tnO ch L) tc na (nnO ch L) nc)))
        have e1 : ((L0 : Nat) : Int) = 1 := by omega
        clear h0 h hsh0 hcnt0 hsh hcnt hks0 hks h8 h80 hr0 h1 HQ hst hEE2 hL0
        have BB := Lib.hid ((((Bag.start w).newRow (plC sb r0 scb ch0 tb (tnO ch0 L0) tcb nb (nnO ch0 L0) ncb) 26).newRow (plC sa r sc ch ta (tnO ch L) tc na (nnO ch L) nc) 26).newRow plZer 26)
        simp only [World.size_alloc] at BB
        have HR1 := Lib.hid BB.out.now.2.2.1
        unfold plC
        go_enter Tryz.func23, Tryz.ntmps23
        go_wp2_with (refine ld_pln rfl (.tmp 3) rfl w.heap.size rfl HR1.out ?_)
        go_at_call 65
        (with_reducible refine (WH.out _ ?_).mono ?_)
        · exact H0.out.below BB.out.below
        rintro e w2 ⟨al, cl, rfl, hkl, hb2⟩
        have BB := Lib.hid ((BB.out.go hb2).krow hkl)
        clear hb2 hkl
        have x1 : w2.cell? ⟨w.heap.size + 1, 0, none⟩ = some (.slice sa r sc) := BB.out.now.2.2.1.cell 0
        have HR2 := Lib.hid BB.out.now.2.2.2.1
        have LC := Lib.hid (LN.out _ (H0.out.below BB.out.below))
        go_wp2_with (refine ld_pln rfl (.tmp 3) rfl w.heap.size rfl HR2.out ?_)
        go_at_call 50
        (with_reducible refine (LC.out).mono ?_)
        rintro e w3 ⟨rfl, hb3⟩
        have BB := Lib.hid (BB.out.go hb3)
        clear hb3 x1
        have HR3 := Lib.hid BB.out.now.2.2.1
        have HZ := Lib.hid BB.out.now.2.1
        have HE := Lib.hid (HSELF.out _ BB.out.below HZ.out)
        go_wp2_with (first
          | (refine ld_pln rfl (.tmp 4) rfl (w.heap.size + 1) rfl HR3.out ?_)
          | (refine st_pln rfl (.tmp 6) (.tmp 39) rfl (w.heap.size + 1 + 1) rfl _ _ _ _ _ _ _ _ _ _ rfl HZ.out rfl ?_))
        exact bodyPost_ret (res_pln2 Tryz.results23 rfl rfl (HZ.out.put _) rfl) rfl HE.out
      · have HQ : Hid (EE = 23) := Lib.hid (by rw [← hEE2, if_neg h1])
        have e1 : ((L0 : Nat) : Int) ≠ 1 := by omega
        have e2 : (((L0 : Nat) : Int) != 1) = true := bne_iff_ne.2 e1
        clear h0 h hsh0 hcnt0 hsh hcnt hks0 hks h8 h80 hr0 h1 hst hEE2 e1
        have BB := Lib.hid ((((Bag.start w).newRow (plC sb r0 scb ch0 tb (tnO ch0 L0) tcb nb (nnO ch0 L0) ncb) 26).newRow (plC sa r sc ch ta (tnO ch L) tc na (nnO ch L) nc) 26).newRow plZer 26)
        simp only [World.size_alloc] at BB
        have HR1 := Lib.hid BB.out.now.2.2.1
        unfold plC
        go_enter Tryz.func23, Tryz.ntmps23
        go_wp2_with (refine ld_pln rfl (.tmp 3) rfl w.heap.size rfl HR1.out ?_)
        go_at_call 65
        (with_reducible refine (WH.out _ ?_).mono ?_)
        · exact H0.out.below BB.out.below
        rintro e w2 ⟨al, cl, rfl, hkl, hb2⟩
        have BB := Lib.hid ((BB.out.go hb2).krow hkl)
        clear hb2 hkl
        have x1 : w2.cell? ⟨w.heap.size + 1, 0, none⟩ = some (.slice sa r sc) := BB.out.now.2.2.1.cell 0
        have HR2 := Lib.hid BB.out.now.2.2.2.1
        have LC := Lib.hid (LN.out _ (H0.out.below BB.out.below))
        go_wp2_with (refine ld_pln rfl (.tmp 3) rfl w.heap.size rfl HR2.out ?_)
        go_at_call 50
        (with_reducible refine (LC.out).mono ?_)
        rintro e w3 ⟨rfl, hb3⟩
        have BB := Lib.hid (BB.out.go hb3)
        clear hb3 x1
        have HZ := Lib.hid BB.out.now.2.1
        have HE := Lib.hid (HNO.out 23 _ HQ.out (by decide) BB.out.below)
        go_wp2_with (refine st_pln rfl (.tmp 6) (.tmp 38) rfl (w.heap.size + 1 + 1) rfl none 0 0 false none 0 0 none 0 0 rfl HZ.out rfl ?_)
        exact bodyPost_ret (res_pln2 Tryz.results23 rfl rfl (HZ.out.put _) rfl) rfl HE.out
    | false =>
      rw [hst, if_neg (by decide)] at hEE2
      cases hq : axQ r i with
      | false =>
        rw [hq, if_neg (by decide)] at hEE2
        have HQ : Hid (EE = 23) := Lib.hid hEE2.symm
        rw [hq] at AX
        have dst : r = 0 → ¬ i < 0 := fun e h => by
          unfold stB at hst
          rw [decide_eq_true e, decide_eq_true h] at hst
          cases hst
        generalize axI r i = x at AX
        clear h0 h hsh0 hcnt0 hsh hcnt hks0 hks h8 h80 hst hEE2 hq
        by_cases hr0 : r = 0
        · have d1 := dst hr0
          have e0 : ((r : Nat) : Int) = 0 := by omega
          clear dst hr0
          have BB := Lib.hid ((((Bag.start w).newRow (plC sb r0 scb ch0 tb (tnO ch0 L0) tcb nb (nnO ch0 L0) ncb) 26).newRow (plC sa r sc ch ta (tnO ch L) tc na (nnO ch L) nc) 26).newRow plZer 26)
          simp only [World.size_alloc] at BB
          have HR1 := Lib.hid BB.out.now.2.2.1
          unfold plC
          go_enter Tryz.func23, Tryz.ntmps23
          go_wp2_with (refine ld_pln rfl (.tmp 3) rfl w.heap.size rfl HR1.out ?_)
          go_at_call 65
          (with_reducible refine (WH.out _ ?_).mono ?_)
          · exact H0.out.below BB.out.below
          rintro e w2 ⟨al, cl, rfl, hkl, hb2⟩
          have BB := Lib.hid ((BB.out.go hb2).krow hkl)
          clear hb2 hkl
          have x1 : w2.cell? ⟨w.heap.size + 1, 0, none⟩ = some (.slice sa r sc) := BB.out.now.2.2.1.cell 0
          have HR4 := Lib.hid BB.out.now.2.2.1
          go_wp2_with (refine ld_pln rfl (.tmp 4) rfl (w.heap.size + 1) rfl HR4.out ?_)
          go_at_call 12
          (with_reducible refine (AX.out _ ?_).mono ?_)
          · exact H.out.below BB.out.below
          rintro e w3 ⟨rfl, hb3⟩
          have BB := Lib.hid (BB.out.go hb3)
          clear hb3 x1
          have HZ := Lib.hid BB.out.now.2.1
          have HE := Lib.hid (HNO.out 23 _ HQ.out (by decide) BB.out.below)
          go_wp2_with (refine st_pln rfl (.tmp 6) (.tmp 48) rfl (w.heap.size + 1 + 1) rfl none 0 0 false none 0 0 none 0 0 rfl HZ.out rfl ?_)
          exact bodyPost_ret (res_pln2 Tryz.results23 rfl rfl (HZ.out.put _) rfl) rfl HE.out
        · have e0 : (((r : Nat) : Int) == 0) = false := beq_eq_false_iff_ne.2 (by omega)
          clear dst hr0
          have BB := Lib.hid ((((Bag.start w).newRow (plC sb r0 scb ch0 tb (tnO ch0 L0) tcb nb (nnO ch0 L0) ncb) 26).newRow (plC sa r sc ch ta (tnO ch L) tc na (nnO ch L) nc) 26).newRow plZer 26)
          simp only [World.size_alloc] at BB
          have HR1 := Lib.hid BB.out.now.2.2.1
          unfold plC
          go_enter Tryz.func23, Tryz.ntmps23
          go_wp2_with (refine ld_pln rfl (.tmp 3) rfl w.heap.size rfl HR1.out ?_)
          go_at_call 65
          (with_reducible refine (WH.out _ ?_).mono ?_)
          · exact H0.out.below BB.out.below
          rintro e w2 ⟨al, cl, rfl, hkl, hb2⟩
          have BB := Lib.hid ((BB.out.go hb2).krow hkl)
          clear hb2 hkl
          have x1 : w2.cell? ⟨w.heap.size + 1, 0, none⟩ = some (.slice sa r sc) := BB.out.now.2.2.1.cell 0
          have HR4 := Lib.hid BB.out.now.2.2.1
          go_wp2_with (refine ld_pln rfl (.tmp 4) rfl (w.heap.size + 1) rfl HR4.out ?_)
          go_at_call 12
          (with_reducible refine (AX.out _ ?_).mono ?_)
          · exact H.out.below BB.out.below
          rintro e w3 ⟨rfl, hb3⟩
          have BB := Lib.hid (BB.out.go hb3)
          clear hb3 x1
          have HZ := Lib.hid BB.out.now.2.1
          have HE := Lib.hid (HNO.out 23 _ HQ.out (by decide) BB.out.below)
          go_wp2_with (refine st_pln rfl (.tmp 6) (.tmp 48) rfl (w.heap.size + 1 + 1) rfl none 0 0 false none 0 0 none 0 0 rfl HZ.out rfl ?_)
          exact bodyPost_ret (res_pln2 Tryz.results23 rfl rfl (HZ.out.put _) rfl) rfl HE.out
      | true =>
        rw [hq, if_pos rfl] at hEE2
        rw [hq] at AX
        obtain ⟨k, hk1, hk2⟩ := axQ_yes hq
        rw [hk1] at AX hEE2
        rw [Int.toNat_natCast] at hEE2
        have hax := (sh_ax hsh).2
        have hax0 := (sh_ax hsh0).2
        obtain ⟨G, hGG⟩ : ∃ G, rtG S r i r0 L0 P0 = G := ⟨_, rfl⟩
        have HGA : ∀ j, G j = alG S r k (rotF (rtT r0 L0 P0) (S k).toNat) j := fun j => by
          rw [← hGG]
          unfold rtG rvG
          rw [hst, if_neg (by decide), hk1]
          rfl
        have HD : ∀ j, j < L → (∀ a, a < r → 0 ≤ dgs S r (j : Nat) a ∧ dgs S r (j : Nat) a < S a) := fun j hj => (dgs_bd (itm_pos hax (show (0 : Int) ≤ 0 by omega) (by omega)) (show (j : Int) < itm S r by omega)).1
        have HX : ∀ j, j < L → ∀ t : Int, inB S (wiF (dgs S r (j : Nat)) (k : Nat) ((dgs S r (j : Nat) k + t % S k) % S k)) r = true := fun j hj t => inB_of (fun a ha => by
          have hd := HD j hj
          have hdk := hd k hk2
          unfold wiF
          split
          · rename_i e
            have e2 : a = k := by omega
            subst e2
            exact ⟨Int.emod_nonneg _ (by omega), Int.emod_lt_of_pos _ (by omega)⟩
          · exact hd a ha)
        have h4 := ax_le4 hsh hk2
        obtain ⟨bs, os, hsa, hbs, hcs⟩ := hks.get hk2
        subst hsa
        have HK := Lib.hid hks
        have HCS := Lib.hid hcs
        have e0 : (((r : Nat) : Int) == 0) = false := beq_eq_false_iff_ne.2 (by omega)
        have ALL := Lib.hid (fun wz (q : KRow wz .i64 (some ⟨bs, os, none⟩) r sc S) => r6All_any _ r sc S L wz q hsh hcnt)
        have RP := Lib.hid (fun a2 c2 wz (q : Pln wz (plC (some ⟨bs, os, none⟩) r sc ch ta (tnO ch L) tc na (nnO ch L) nc) S r ch L g fB fS fT) (k1 : KRow wz .i64 (some ⟨bs, os, none⟩) r sc S) (k2 : KRow wz .i64 a2 L c2 G) => rpick8_any (plC (some ⟨bs, os, none⟩) r sc ch ta (tnO ch L) tc na (nnO ch L) nc) S r ch L g fB fS fT _ r sc S a2 L c2 G wz q k1 k2 hL hL)
        have PLC := Lib.hid (fun a2 c2 f wz (k1 : KRow wz .i64 (some ⟨bs, os, none⟩) r sc S) (k2 : KRow wz .i64 a2 r c2 f) (hin : inB S f r = true) => rplc_any _ r sc S a2 c2 f wz k1 k2 hax hin)
        obtain ⟨R1, hR1⟩ : ∃ n, r - 1 = n := ⟨_, rfl⟩
        have WOJ : Hid (∀ a c f wz, KRow wz .i64 a r c f → Calls Tryz.prog 66 #[.slice a r c, .int .i64 (k : Nat)] wz fun e w' => ∃ a' c', e = .returned (.slice a' R1 c') ∧ KRow w' .i64 a' R1 c' (outF f k) ∧ Below wz.heap.size wz w') := Lib.hid (fun a c f wz q => (r7Without_any a r c f (k : Nat) wz q (by omega)).mono (by
          have c1 : (0 : Int) ≤ (k : Nat) ∧ ((k : Nat) : Int) < (r : Nat) := by omega
          have e1 : woN r (k : Nat) = R1 := by unfold woN; rw [if_pos c1, hR1]
          have e2 : woF f r (k : Nat) = outF f k := by unfold woF; rw [if_pos c1, Int.toNat_natCast]
          rw [e1, e2]
          intro e w' hq
          exact hq))
        have WO := Lib.hid (fun wz (q : KRow wz .i64 (some ⟨bs, os, none⟩) r sc S) => WOJ.out _ _ _ wz q)
        have hk0 : (0 : Int) ≤ (k : Nat) := by omega
        have hkr : ((k : Nat) : Int) < (r : Nat) := by omega
        have hl := hks.len
        have hl0 := hks0.len
        have hr8 : r ≤ 1000000 := by omega
        have hrp : 0 < r := by omega
        have HFIN : EE = 0 → ∀ y v, PoTold 0 S r ch L (fun j => elC L g 32 (G j)) (fun j => elB L fB (G j)) (fun j => elS L fS (rS 0) (G j)) (fun j => elS L fT (str (dec 1)) (G j)) w y v → PoTold EE S r ch L (fun j => elC L g 32 (rtG S r i r0 L0 P0 j)) (fun j => elB L fB (rtG S r i r0 L0 P0 j)) (fun j => elS L fS (rS 0) (rtG S r i r0 L0 P0 j)) (fun j => elS L fT (str (dec 1)) (rtG S r i r0 L0 P0 j)) w y v := by
          rintro e y v q
          rw [e, hGG]
          exact q
        have HONE : sgB r0 L0 = true → Hid (∀ j, j < L → ∃ (rw : Nat) (X : Int), rw < L0 ∧ rw = 0 ∧ 0 ≤ dgs S r (j : Nat) k ∧ dgs S r (j : Nat) k < S k ∧ (dgs S r (j : Nat) k + P0 0 % S k) % S k = X ∧ plc S (wiF (dgs S r (j : Nat)) (k : Nat) X) r = G j ∧ inB S (wiF (dgs S r (j : Nat)) (k : Nat) X) r = true) := fun hone => Lib.hid (fun j hj => by
          have hdk := HD j hj k hk2
          have hl1 : L0 = 1 := by
            unfold sgB at hone
            rw [Bool.and_eq_true, decide_eq_true_eq, decide_eq_true_eq] at hone
            exact hone.2
          refine ⟨0, _, by omega, rfl, hdk.1, hdk.2, rfl, ?_, HX j hj (P0 0)⟩
          rw [HGA j]
          unfold alG rotF rtT
          rw [hone, if_pos rfl, show (((S k).toNat : Nat) : Int) = S k by omega, show ((dgs S r (j : Nat) k).toNat : Int) = dgs S r (j : Nat) k by omega])
        have HMANY : sgB r0 L0 = false → r0 = R1 → sameB S0 (outF S k) r0 = true → Hid (∀ j, j < L → ∃ (rw : Nat) (X : Int), rw < L0 ∧ (inB (outF S k) (outF (dgs S r (j : Nat)) k) R1 = true ∧ plc (outF S k) (outF (dgs S r (j : Nat)) k) R1 = (rw : Nat)) ∧ 0 ≤ dgs S r (j : Nat) k ∧ dgs S r (j : Nat) k < S k ∧ (dgs S r (j : Nat) k + P0 rw % S k) % S k = X ∧ plc S (wiF (dgs S r (j : Nat)) (k : Nat) X) r = G j ∧ inB S (wiF (dgs S r (j : Nat)) (k : Nat) X) r = true) := fun hone e1 e2 => Lib.hid (fun j hj => by
          have hd := HD j hj
          have hdk := hd k hk2
          have ho := outF_in hk2 hd
          have hp := plc_lt ho
          have hi := itm_congr (sameB_iff.1 e2)
          rw [hR1] at ho hp
          rw [e1] at hi hcnt0
          refine ⟨(plc (outF S k) (outF (dgs S r (j : Nat)) k) R1).toNat, _, by omega, ⟨inB_of ho, by omega⟩, hdk.1, hdk.2, rfl, ?_, HX j hj _⟩
          rw [HGA j]
          unfold alG rotF rtT
          rw [hone, if_neg (by decide), hR1, show (((S k).toNat : Nat) : Int) = S k by omega, show ((dgs S r (j : Nat) k).toNat : Int) = dgs S r (j : Nat) k by omega])
        have PLR0 : r0 = R1 → sameB S0 (outF S k) r0 = true → Hid (∀ a c a2 c2 f wz, KRow wz .i64 a R1 c (outF S k) → KRow wz .i64 a2 R1 c2 f → inB (outF S k) f R1 = true → Calls Tryz.prog 56 #[.slice a R1 c, .slice a2 R1 c2] wz fun e w' => e = .returned (.int .i64 (plc (outF S k) f R1)) ∧ Below wz.heap.size wz w') := fun e1 e2 => Lib.hid (fun a c a2 c2 f wz q1 q2 hin => rplc_any a R1 c (outF S k) a2 c2 f wz q1 q2 (by rw [← e1, ← (ax_congr (sameB_iff.1 e2)).1]; exact hax0) hin)
        have HSG : sgB r0 L0 = (decide (r0 ≤ 1) && decide (L0 = 1)) := rfl
        have hi1 : r0 = 0 → L0 = 1 := fun e => by rw [e] at hcnt0; have : itm S0 0 = 1 := rfl; omega
        have hi2 : r0 = 1 → S0 0 = (L0 : Nat) := fun e => by rw [e] at hcnt0; have : itm S0 1 = 1 * S0 0 := rfl; omega
        have SM := Lib.hid (fun a c wz (q1 : KRow wz .i64 sb r0 scb S0) (q2 : KRow wz .i64 a R1 c (outF S k)) => r6Same_any sb r0 scb S0 a R1 c (outF S k) wz q1 q2)
        have HK0 := Lib.hid hks0
        clear hsh hcnt hst hq hax hGG hcs hk1 HGA HD HX hsh0 hax0 hcnt0 h8 h80 hks h0 h
        by_cases hr0 : r0 = 0
        · have hone : sgB r0 L0 = true := by rw [HSG, decide_eq_true (by omega), decide_eq_true (hi1 hr0)]; rfl
          have HM := HONE hone
          rw [hone, if_pos rfl] at hEE2
          have HFIN := Lib.hid (HFIN hEE2.symm)
          have f0 : ((r0 : Nat) : Int) = 0 := by omega
          clear hone HONE HMANY PLR0 HSG hi1 hi2 hEE2 hr0 hks0 SM WOJ
          have BB := Lib.hid ((((Bag.start w).newRow (plC sb r0 scb ch0 tb (tnO ch0 L0) tcb nb (nnO ch0 L0) ncb) 26).newRow (plC (some ⟨bs, os, none⟩) r sc ch ta (tnO ch L) tc na (nnO ch L) nc) 26).newRow plZer 26)
          simp only [World.size_alloc] at BB
          have HR1 := Lib.hid BB.out.now.2.2.1
          unfold plC
          go_enter Tryz.func23, Tryz.ntmps23
          go_wp2_with (refine ld_pln rfl (.tmp 3) rfl w.heap.size rfl HR1.out ?_)
          go_at_call 65
          (with_reducible refine (WH.out _ ?_).mono ?_)
          · exact H0.out.below BB.out.below
          rintro e w2 ⟨al, cl, rfl, hkl, hb2⟩
          have BB := Lib.hid ((BB.out.go hb2).krow hkl)
          clear hb2 hkl
          have x1 : w2.cell? ⟨w.heap.size + 1, 0, none⟩ = some (.slice (some ⟨bs, os, none⟩) r sc) := BB.out.now.2.2.1.cell 0
          have HR4 := Lib.hid BB.out.now.2.2.1
          go_wp2_with (refine ld_pln rfl (.tmp 4) rfl (w.heap.size + 1) rfl HR4.out ?_)
          go_at_call 12
          (with_reducible refine (AX.out _ ?_).mono ?_)
          · exact H.out.below BB.out.below
          rintro e w3 ⟨rfl, hb3⟩
          have BB := Lib.hid (BB.out.go hb3)
          clear hb3 x1
          have x1 : w3.cell? ⟨w.heap.size + 1, 0, none⟩ = some (.slice (some ⟨bs, os, none⟩) r sc) := BB.out.now.2.2.1.cell 0
          go_wp2_with fail
          go_at_call 66
          (with_reducible refine (WO.out _ ?_).mono ?_)
          · exact HK.out.below BB.out.below
          rintro e w4 ⟨ar, cr, rfl, hkr2, hb4⟩
          have BB := Lib.hid ((BB.out.go hb4).krow hkr2)
          have hlr2 := hkr2.len
          clear hkr2 hb4 x1
          have z0 : w4.cell? ⟨w.heap.size, 0, none⟩ = some (.slice sb r0 scb) := BB.out.now.2.2.2.2.1.cell 0
          have x1 : w4.cell? ⟨w.heap.size + 1, 0, none⟩ = some (.slice (some ⟨bs, os, none⟩) r sc) := BB.out.now.2.2.2.1.cell 0
          go_wp2_with fail
          go_at_call 55
          (with_reducible refine (ALL.out _ ?_).mono ?_)
          · exact HK.out.below BB.out.below
          rintro e y5 ⟨a8, c8, A, C, rfl, hlr, hb5⟩
          have BB := Lib.hid (BB.out.go hb5)
          have HLR := Lib.hid hlr
          have hl8 := hlr.1
          have hl9 := hlr.2.1
          unfold maxLen at hl9
          clear hb5 x1 hlr
          go_wp2_with fail
          go_loopw [15, 16, 17, 18] (fun s i v u wr => ∃ (j : Nat) (a : Option Addr) (c : Nat), j ≤ L ∧ s = .slice a j c ∧ i = .int .i64 j ∧ (∃ v6, v6 = v) ∧ (∃ v7, v7 = u) ∧ Hid (OwnI y5 wr a j c G)) (fun _ i _ _ _ => L - (intOf i).toNat)
          case atStart => exact ⟨0, none, 0, by omega, rfl, rfl, ⟨_, rfl⟩, ⟨_, rfl⟩, OwnI.nil _ _⟩
          case round =>
            obtain ⟨j, a, c, hj, rfl, rfl, ⟨v6, rfl⟩, ⟨v7, rfl⟩, ho⟩ := hrel
            have BW := Lib.hid (BB.out.go ho.out.1)
            by_cases hlt : j < L
            · obtain ⟨b, off, rfl, hb, hc, hrow, hnone⟩ := (HLR.out.below ho.out.1).get hlt
              have hj0 : (0 : Int) ≤ j := by omega
              have hj1 : (j : Int) < L := by omega
              obtain ⟨rw, X, hrw, hROW, hd0, hd1, hX, hG, hin⟩ := HM.out j hlt
              have HO5 := Lib.hid ho.out
              obtain rfl : rw = 0 := hROW
              obtain ⟨g2, c2, y1, hr, hg2, hbox, hm1, hm2, hbw⟩ := idx_new hrow hnone hrp hr8
              have BY := Lib.hid (BW.out.go hbw)
              have x0 : y1.cell? ⟨w.heap.size + 1, 0, none⟩ = some (.slice (some ⟨bs, os, none⟩) r sc) := BY.out.now.2.2.2.1.cell 0
              have xs : y1.cell? ⟨bs, os + k, none⟩ = some (.int .i64 (S k)) := (BY.out.below.cell (p := ⟨bs, os + k, none⟩) hbs).trans HCS.out
              have xi := hbox.2.2 k hk2
              have xf := hbox.2.1 k
              obtain ⟨bl, ol, rfl, hbl, xl⟩ := BY.out.now.2.1.get hrw
              rw [Nat.add_zero] at xl
              have hq1 := Int.tmod_lt_of_pos (P0 0) (show 0 < S k by omega)
              have hq2 : -(S k) < Int.tmod (P0 0) (S k) := by
                have := Int.lt_tmod_of_pos (P0 0) (show 0 < S k by omega)
                omega
              obtain ⟨q, hq⟩ : ∃ q, Int.tmod (P0 0) (S k) = q := ⟨_, rfl⟩
              rw [hq] at hq1 hq2
              have MC : Hid (∀ wz, Calls Tryz.prog 67 #[.int .i64 (dgs S r (j : Nat) k + q), .int .i64 (S k)] wz fun e w' => e = .returned (.int .i64 X) ∧ w' = wz) := Lib.hid (fun wz => (rmod_any (dgs S r (j : Nat) k + q) (S k) wz (by omega) (by omega)).mono (by
                rintro e w' ⟨rfl, hw⟩
                have := mod_told (i := dgs S r (j : Nat) k) (t := P0 0) (n := S k) hd0 hd1
                rw [hq] at this
                exact ⟨by rw [this, hX], hw.symm⟩))
              have hw0 := IntWalk.i64_in q (by omega)
              have hw2 := IntWalk.i64_in (dgs S r (j : Nat) k + q) (by omega)
              have hne0 : S k ≠ 0 := by omega
              have yi : y1.drew.cell? ⟨g2, k, none⟩ = some (.int .i64 (dgs S r (j : Nat) k)) := xi
              have yf : y1.drew.frozen? ⟨g2, k, none⟩ = false := xf
              have BX := ((show IBox y1.drew g2 r (dgs S r (j : Nat)) from hbox).set hk2 X).congr (h' := wiF (dgs S r (j : Nat)) (k : Nat) X) (fun a _ => by
                unfold wiF
                by_cases e : a = k
                · rw [if_pos e, if_pos (by omega)]
                · rw [if_neg e, if_neg (by omega)])
              have hbx : Below wr.heap.size wr (y1.drew.setCell ⟨g2, k, none⟩ (.int .i64 X)) := hbw.drew.setCell (p := ⟨g2, k, none⟩) hg2 _
              have KIX := Lib.hid (BX.krow2 hm1 hm2)
              have HIN := Lib.hid hin
              have HGJ := Lib.hid hG
              have HBX := Lib.hid hbx
              have BZ := Lib.hid (BW.out.go hbx)
              have z1 : (y1.drew.setCell ⟨g2, k, none⟩ (.int .i64 X)).cell? ⟨w.heap.size + 1, 0, none⟩ = some (.slice (some ⟨bs, os, none⟩) r sc) := BZ.out.now.2.2.2.1.cell 0
              clear BX hbx hin hG hbox hrow hnone BY hq1 hq2 hX
              generalize wiF (dgs S r (j : Nat)) (k : Nat) X = WF at *
              generalize dgs S r (j : Nat) k = d at *
              generalize S k = sk at *
              generalize A j = aj at *
              generalize C j = cj at *
              go_wp2_with (at_builtin; refine Lib.wpList_append_run _ rfl _ _ _ _ rfl _ _ rfl rfl _ _ hr ?_)
              go_still_tail 24, (by kernel_rfl)
              still_call ((MC.out _))
              repeat still_step
              try refine wpStill_nil ?_
              change wpList _ _ _ _ _ y1.drew
              clear x0 xs xi xf xl hw0 hw2 hbw hq
              generalize y1.drew = Y2 at *
              go_wp2_with fail
              go_at_call 56
              (refine (PLC.out _ _ _ _ (HK.out.below BZ.out.below) KIX.out HIN.out).mono ?_)
              rintro e w9 ⟨rfl, hb9⟩
              obtain ⟨a', c', y3, hr3, ho'⟩ := app1_step (HO5.out.go (HBX.out.trans (hb9.mono HBX.out.size))) HGJ.out (by omega)
              have HO' := Lib.hid ho'
              clear ho' hb9 z1 yi yf
              go_wp2_with (at_builtin; refine Lib.wpList_append_run _ rfl _ _ _ _ rfl _ _ rfl rfl _ _ hr3 ?_)
              go_roundw
              case rel => exact ⟨j + 1, a', c', by omega, rfl, by go_num, ⟨_, rfl⟩, ⟨_, rfl⟩, HO'⟩
              case measure => simp [intOf]; omega
            · have hjL : j = L := by omega
              subst j
              have HKK := Lib.hid ho.out.krow
              have HR3 := Lib.hid BW.out.now.2.2.2.1
              have x0 : wr.cell? ⟨w.heap.size + 1, 0, none⟩ = some (.slice (some ⟨bs, os, none⟩) r sc) := BW.out.now.2.2.2.1.cell 0
              clear hj hlt ho
              go_wp2_with (refine ld_pln rfl (.tmp 4) rfl (w.heap.size + 1) rfl HR3.out ?_)
              go_at_call 51
              (with_reducible refine (RP.out _ _ _ ?_ ?_ ?_).mono ?_)
              · exact H.out.below BW.out.below
              · exact HK.out.below BW.out.below
              · exact HKK.out
              rintro e w9 ⟨cs', rfl, hq, hb9⟩
              have BW := Lib.hid (BW.out.go hb9)
              obtain ⟨sq, scq, tq, tcq, nq, ncq, rfl, _⟩ := hq.form
              have HZ := Lib.hid BW.out.now.2.2.1
              have HE := Lib.hid (HFIN.out _ _ (PoTold.yes (hq.put HZ.out _) (below_put BW.out.below (show w.heap.size ≤ w.heap.size + 1 + 1 by omega) (plC sq r scq ch tq (tnO ch L) tcq nq (nnO ch L) ncq))))
              clear hq hb9 x0
              go_wp2_with (refine st_pln rfl (.tmp 6) (.tmp 151) rfl (w.heap.size + 1 + 1) rfl _ _ _ _ _ _ _ _ _ _ rfl HZ.out rfl ?_)
              exact bodyPost_ret (res_pln2 Tryz.results23 rfl rfl (HZ.out.put _) rfl) rfl HE.out
        · by_cases hr1 : r0 = 1
          · obtain ⟨bb, ob, hsb, hbb, hcb⟩ := hks0.get (show 0 < r0 by omega)
            subst hsb
            have hs0 := hi2 hr1
            have f0 : (((r0 : Nat) : Int) == 0) = false := beq_eq_false_iff_ne.2 (by omega)
            have f1 : ((r0 : Nat) : Int) = 1 := by omega
            have HCB : Hid (∀ wz, Below w.heap.size w wz → wz.cell? ⟨bb, ob, none⟩ = some (.int .i64 (S0 0))) := Lib.hid (fun wz hb => (hb.cell (p := ⟨bb, ob, none⟩) hbb).trans hcb)
            by_cases hs1 : S0 0 = 1
            · have hone : sgB r0 L0 = true := by rw [HSG, decide_eq_true (by omega), decide_eq_true (by omega)]; rfl
              have HM := HONE hone
              rw [hone, if_pos rfl] at hEE2
              have HFIN := Lib.hid (HFIN hEE2.symm)
              have f2 : S0 0 = 1 := hs1
              clear hone HONE HMANY PLR0 HSG hi1 hi2 hEE2 hr0 hr1 hs0 hs1 hks0 SM WOJ hcb
              have BB := Lib.hid ((((Bag.start w).newRow (plC (some ⟨bb, ob, none⟩) r0 scb ch0 tb (tnO ch0 L0) tcb nb (nnO ch0 L0) ncb) 26).newRow (plC (some ⟨bs, os, none⟩) r sc ch ta (tnO ch L) tc na (nnO ch L) nc) 26).newRow plZer 26)
              simp only [World.size_alloc] at BB
              have HR1 := Lib.hid BB.out.now.2.2.1
              unfold plC
              go_enter Tryz.func23, Tryz.ntmps23
              go_wp2_with (refine ld_pln rfl (.tmp 3) rfl w.heap.size rfl HR1.out ?_)
              go_at_call 65
              (with_reducible refine (WH.out _ ?_).mono ?_)
              · exact H0.out.below BB.out.below
              rintro e w2 ⟨al, cl, rfl, hkl, hb2⟩
              have BB := Lib.hid ((BB.out.go hb2).krow hkl)
              clear hb2 hkl
              have x1 : w2.cell? ⟨w.heap.size + 1, 0, none⟩ = some (.slice (some ⟨bs, os, none⟩) r sc) := BB.out.now.2.2.1.cell 0
              have HR4 := Lib.hid BB.out.now.2.2.1
              go_wp2_with (refine ld_pln rfl (.tmp 4) rfl (w.heap.size + 1) rfl HR4.out ?_)
              go_at_call 12
              (with_reducible refine (AX.out _ ?_).mono ?_)
              · exact H.out.below BB.out.below
              rintro e w3 ⟨rfl, hb3⟩
              have BB := Lib.hid (BB.out.go hb3)
              clear hb3 x1
              have x1 : w3.cell? ⟨w.heap.size + 1, 0, none⟩ = some (.slice (some ⟨bs, os, none⟩) r sc) := BB.out.now.2.2.1.cell 0
              go_wp2_with fail
              go_at_call 66
              (with_reducible refine (WO.out _ ?_).mono ?_)
              · exact HK.out.below BB.out.below
              rintro e w4 ⟨ar, cr, rfl, hkr2, hb4⟩
              have BB := Lib.hid ((BB.out.go hb4).krow hkr2)
              have hlr2 := hkr2.len
              clear hkr2 hb4 x1
              have z0 : w4.cell? ⟨w.heap.size, 0, none⟩ = some (.slice (some ⟨bb, ob, none⟩) r0 scb) := BB.out.now.2.2.2.2.1.cell 0
              have z1 := HCB.out _ BB.out.below
              have x1 : w4.cell? ⟨w.heap.size + 1, 0, none⟩ = some (.slice (some ⟨bs, os, none⟩) r sc) := BB.out.now.2.2.2.1.cell 0
              go_wp2_with fail
              go_at_call 55
              (with_reducible refine (ALL.out _ ?_).mono ?_)
              · exact HK.out.below BB.out.below
              rintro e y5 ⟨a8, c8, A, C, rfl, hlr, hb5⟩
              have BB := Lib.hid (BB.out.go hb5)
              have HLR := Lib.hid hlr
              have hl8 := hlr.1
              have hl9 := hlr.2.1
              unfold maxLen at hl9
              clear hb5 x1 hlr
              go_wp2_with fail
              go_loopw [15, 16, 17, 18] (fun s i v u wr => ∃ (j : Nat) (a : Option Addr) (c : Nat), j ≤ L ∧ s = .slice a j c ∧ i = .int .i64 j ∧ (∃ v6, v6 = v) ∧ (∃ v7, v7 = u) ∧ Hid (OwnI y5 wr a j c G)) (fun _ i _ _ _ => L - (intOf i).toNat)
              case atStart => exact ⟨0, none, 0, by omega, rfl, rfl, ⟨_, rfl⟩, ⟨_, rfl⟩, OwnI.nil _ _⟩
              case round =>
                obtain ⟨j, a, c, hj, rfl, rfl, ⟨v6, rfl⟩, ⟨v7, rfl⟩, ho⟩ := hrel
                have BW := Lib.hid (BB.out.go ho.out.1)
                by_cases hlt : j < L
                · obtain ⟨b, off, rfl, hb, hc, hrow, hnone⟩ := (HLR.out.below ho.out.1).get hlt
                  have hj0 : (0 : Int) ≤ j := by omega
                  have hj1 : (j : Int) < L := by omega
                  obtain ⟨rw, X, hrw, hROW, hd0, hd1, hX, hG, hin⟩ := HM.out j hlt
                  have HO5 := Lib.hid ho.out
                  obtain rfl : rw = 0 := hROW
                  obtain ⟨g2, c2, y1, hr, hg2, hbox, hm1, hm2, hbw⟩ := idx_new hrow hnone hrp hr8
                  have BY := Lib.hid (BW.out.go hbw)
                  have x0 : y1.cell? ⟨w.heap.size + 1, 0, none⟩ = some (.slice (some ⟨bs, os, none⟩) r sc) := BY.out.now.2.2.2.1.cell 0
                  have xs : y1.cell? ⟨bs, os + k, none⟩ = some (.int .i64 (S k)) := (BY.out.below.cell (p := ⟨bs, os + k, none⟩) hbs).trans HCS.out
                  have xi := hbox.2.2 k hk2
                  have xf := hbox.2.1 k
                  obtain ⟨bl, ol, rfl, hbl, xl⟩ := BY.out.now.2.1.get hrw
                  rw [Nat.add_zero] at xl
                  have hq1 := Int.tmod_lt_of_pos (P0 0) (show 0 < S k by omega)
                  have hq2 : -(S k) < Int.tmod (P0 0) (S k) := by
                    have := Int.lt_tmod_of_pos (P0 0) (show 0 < S k by omega)
                    omega
                  obtain ⟨q, hq⟩ : ∃ q, Int.tmod (P0 0) (S k) = q := ⟨_, rfl⟩
                  rw [hq] at hq1 hq2
                  have MC : Hid (∀ wz, Calls Tryz.prog 67 #[.int .i64 (dgs S r (j : Nat) k + q), .int .i64 (S k)] wz fun e w' => e = .returned (.int .i64 X) ∧ w' = wz) := Lib.hid (fun wz => (rmod_any (dgs S r (j : Nat) k + q) (S k) wz (by omega) (by omega)).mono (by
                    rintro e w' ⟨rfl, hw⟩
                    have := mod_told (i := dgs S r (j : Nat) k) (t := P0 0) (n := S k) hd0 hd1
                    rw [hq] at this
                    exact ⟨by rw [this, hX], hw.symm⟩))
                  have hw0 := IntWalk.i64_in q (by omega)
                  have hw2 := IntWalk.i64_in (dgs S r (j : Nat) k + q) (by omega)
                  have hne0 : S k ≠ 0 := by omega
                  have yi : y1.drew.cell? ⟨g2, k, none⟩ = some (.int .i64 (dgs S r (j : Nat) k)) := xi
                  have yf : y1.drew.frozen? ⟨g2, k, none⟩ = false := xf
                  have BX := ((show IBox y1.drew g2 r (dgs S r (j : Nat)) from hbox).set hk2 X).congr (h' := wiF (dgs S r (j : Nat)) (k : Nat) X) (fun a _ => by
                    unfold wiF
                    by_cases e : a = k
                    · rw [if_pos e, if_pos (by omega)]
                    · rw [if_neg e, if_neg (by omega)])
                  have hbx : Below wr.heap.size wr (y1.drew.setCell ⟨g2, k, none⟩ (.int .i64 X)) := hbw.drew.setCell (p := ⟨g2, k, none⟩) hg2 _
                  have KIX := Lib.hid (BX.krow2 hm1 hm2)
                  have HIN := Lib.hid hin
                  have HGJ := Lib.hid hG
                  have HBX := Lib.hid hbx
                  have BZ := Lib.hid (BW.out.go hbx)
                  have z1 : (y1.drew.setCell ⟨g2, k, none⟩ (.int .i64 X)).cell? ⟨w.heap.size + 1, 0, none⟩ = some (.slice (some ⟨bs, os, none⟩) r sc) := BZ.out.now.2.2.2.1.cell 0
                  clear BX hbx hin hG hbox hrow hnone BY hq1 hq2 hX
                  generalize wiF (dgs S r (j : Nat)) (k : Nat) X = WF at *
                  generalize dgs S r (j : Nat) k = d at *
                  generalize S k = sk at *
                  generalize A j = aj at *
                  generalize C j = cj at *
                  go_wp2_with (at_builtin; refine Lib.wpList_append_run _ rfl _ _ _ _ rfl _ _ rfl rfl _ _ hr ?_)
                  go_still_tail 24, (by kernel_rfl)
                  still_call ((MC.out _))
                  repeat still_step
                  try refine wpStill_nil ?_
                  change wpList _ _ _ _ _ y1.drew
                  clear x0 xs xi xf xl hw0 hw2 hbw hq
                  generalize y1.drew = Y2 at *
                  go_wp2_with fail
                  go_at_call 56
                  (refine (PLC.out _ _ _ _ (HK.out.below BZ.out.below) KIX.out HIN.out).mono ?_)
                  rintro e w9 ⟨rfl, hb9⟩
                  obtain ⟨a', c', y3, hr3, ho'⟩ := app1_step (HO5.out.go (HBX.out.trans (hb9.mono HBX.out.size))) HGJ.out (by omega)
                  have HO' := Lib.hid ho'
                  clear ho' hb9 z1 yi yf
                  go_wp2_with (at_builtin; refine Lib.wpList_append_run _ rfl _ _ _ _ rfl _ _ rfl rfl _ _ hr3 ?_)
                  go_roundw
                  case rel => exact ⟨j + 1, a', c', by omega, rfl, by go_num, ⟨_, rfl⟩, ⟨_, rfl⟩, HO'⟩
                  case measure => simp [intOf]; omega
                · have hjL : j = L := by omega
                  subst j
                  have HKK := Lib.hid ho.out.krow
                  have HR3 := Lib.hid BW.out.now.2.2.2.1
                  have x0 : wr.cell? ⟨w.heap.size + 1, 0, none⟩ = some (.slice (some ⟨bs, os, none⟩) r sc) := BW.out.now.2.2.2.1.cell 0
                  clear hj hlt ho
                  go_wp2_with (refine ld_pln rfl (.tmp 4) rfl (w.heap.size + 1) rfl HR3.out ?_)
                  go_at_call 51
                  (with_reducible refine (RP.out _ _ _ ?_ ?_ ?_).mono ?_)
                  · exact H.out.below BW.out.below
                  · exact HK.out.below BW.out.below
                  · exact HKK.out
                  rintro e w9 ⟨cs', rfl, hq, hb9⟩
                  have BW := Lib.hid (BW.out.go hb9)
                  obtain ⟨sq, scq, tq, tcq, nq, ncq, rfl, _⟩ := hq.form
                  have HZ := Lib.hid BW.out.now.2.2.1
                  have HE := Lib.hid (HFIN.out _ _ (PoTold.yes (hq.put HZ.out _) (below_put BW.out.below (show w.heap.size ≤ w.heap.size + 1 + 1 by omega) (plC sq r scq ch tq (tnO ch L) tcq nq (nnO ch L) ncq))))
                  clear hq hb9 x0
                  go_wp2_with (refine st_pln rfl (.tmp 6) (.tmp 151) rfl (w.heap.size + 1 + 1) rfl _ _ _ _ _ _ _ _ _ _ rfl HZ.out rfl ?_)
                  exact bodyPost_ret (res_pln2 Tryz.results23 rfl rfl (HZ.out.put _) rfl) rfl HE.out
            · have hone : sgB r0 L0 = false := by rw [HSG, decide_eq_false (show ¬ L0 = 1 by omega)]; simp
              rw [hone, if_neg (by decide)] at hEE2
              have f2 : (S0 0 == 1) = false := beq_eq_false_iff_ne.2 hs1
              clear HONE HSG hi1 hi2 hr0 hr1 hs0 hs1 hcb
              unfold ftE at hEE2
              rw [hR1] at hEE2
              by_cases hf : r0 = R1
              · have HRR := HMANY hone hf
                have PLR := PLR0 hf
                rw [if_pos hf] at hEE2
                have f3 : (((r0 : Nat) : Int) != ((R1 : Nat) : Int)) = false := by rw [hf]; exact bne_self_eq_false _
                rw [show (decide (r0 = R1) && sameB S0 (outF S k) r0) = sameB S0 (outF S k) r0 by rw [decide_eq_true hf]; rfl] at SM
                cases hsm : sameB S0 (outF S k) r0 with
                | true =>
                  rw [hsm, if_pos rfl] at hEE2
                  rw [hsm] at SM
                  have HM := HRR hsm
                  have PLR := PLR hsm
                  have HFIN := Lib.hid (HFIN hEE2.symm)
                  have HH0 := HK0
                  clear hEE2 HMANY PLR0 HRR hf hsm hone hR1 hks0
                  have BB := Lib.hid ((((Bag.start w).newRow (plC (some ⟨bb, ob, none⟩) r0 scb ch0 tb (tnO ch0 L0) tcb nb (nnO ch0 L0) ncb) 26).newRow (plC (some ⟨bs, os, none⟩) r sc ch ta (tnO ch L) tc na (nnO ch L) nc) 26).newRow plZer 26)
                  simp only [World.size_alloc] at BB
                  have HR1 := Lib.hid BB.out.now.2.2.1
                  unfold plC
                  go_enter Tryz.func23, Tryz.ntmps23
                  go_wp2_with (refine ld_pln rfl (.tmp 3) rfl w.heap.size rfl HR1.out ?_)
                  go_at_call 65
                  (with_reducible refine (WH.out _ ?_).mono ?_)
                  · exact H0.out.below BB.out.below
                  rintro e w2 ⟨al, cl, rfl, hkl, hb2⟩
                  have BB := Lib.hid ((BB.out.go hb2).krow hkl)
                  clear hb2 hkl
                  have x1 : w2.cell? ⟨w.heap.size + 1, 0, none⟩ = some (.slice (some ⟨bs, os, none⟩) r sc) := BB.out.now.2.2.1.cell 0
                  have HR4 := Lib.hid BB.out.now.2.2.1
                  go_wp2_with (refine ld_pln rfl (.tmp 4) rfl (w.heap.size + 1) rfl HR4.out ?_)
                  go_at_call 12
                  (with_reducible refine (AX.out _ ?_).mono ?_)
                  · exact H.out.below BB.out.below
                  rintro e w3 ⟨rfl, hb3⟩
                  have BB := Lib.hid (BB.out.go hb3)
                  clear hb3 x1
                  have x1 : w3.cell? ⟨w.heap.size + 1, 0, none⟩ = some (.slice (some ⟨bs, os, none⟩) r sc) := BB.out.now.2.2.1.cell 0
                  go_wp2_with fail
                  go_at_call 66
                  (with_reducible refine (WO.out _ ?_).mono ?_)
                  · exact HK.out.below BB.out.below
                  rintro e w4 ⟨ar, cr, rfl, hkr2, hb4⟩
                  have BB := Lib.hid ((BB.out.go hb4).krow hkr2)
                  have hlr2 := hkr2.len
                  clear hkr2 hb4 x1
                  have z0 : w4.cell? ⟨w.heap.size, 0, none⟩ = some (.slice (some ⟨bb, ob, none⟩) r0 scb) := BB.out.now.2.2.2.2.1.cell 0
                  have z1 := HCB.out _ BB.out.below
                  go_wp2_with fail
                  go_at_call 35
                  (with_reducible refine (SM.out _ _ _ ?_ BB.out.now.1).mono ?_)
                  · exact HK0.out.below BB.out.below
                  rintro e y4 ⟨rfl, hb4⟩
                  have BB := Lib.hid (BB.out.go hb4)
                  clear hb4 z0
                  have x1 : y4.cell? ⟨w.heap.size + 1, 0, none⟩ = some (.slice (some ⟨bs, os, none⟩) r sc) := BB.out.now.2.2.2.1.cell 0
                  go_wp2_with fail
                  go_at_call 55
                  (with_reducible refine (ALL.out _ ?_).mono ?_)
                  · exact HK.out.below BB.out.below
                  rintro e y5 ⟨a8, c8, A, C, rfl, hlr, hb5⟩
                  have BB := Lib.hid (BB.out.go hb5)
                  have HLR := Lib.hid hlr
                  have hl8 := hlr.1
                  have hl9 := hlr.2.1
                  unfold maxLen at hl9
                  clear hb5 x1 hlr
                  go_wp2_with fail
                  go_loopw [15, 16, 17, 18] (fun s i v u wr => ∃ (j : Nat) (a : Option Addr) (c : Nat), j ≤ L ∧ s = .slice a j c ∧ i = .int .i64 j ∧ (∃ v6, v6 = v) ∧ (∃ v7, v7 = u) ∧ Hid (OwnI y5 wr a j c G)) (fun _ i _ _ _ => L - (intOf i).toNat)
                  case atStart => exact ⟨0, none, 0, by omega, rfl, rfl, ⟨_, rfl⟩, ⟨_, rfl⟩, OwnI.nil _ _⟩
                  case round =>
                    obtain ⟨j, a, c, hj, rfl, rfl, ⟨v6, rfl⟩, ⟨v7, rfl⟩, ho⟩ := hrel
                    have BW := Lib.hid (BB.out.go ho.out.1)
                    by_cases hlt : j < L
                    · obtain ⟨b, off, rfl, hb, hc, hrow, hnone⟩ := (HLR.out.below ho.out.1).get hlt
                      have hj0 : (0 : Int) ≤ j := by omega
                      have hj1 : (j : Int) < L := by omega
                      obtain ⟨rw, X, hrw, hROW, hd0, hd1, hX, hG, hin⟩ := HM.out j hlt
                      go_wp2_with fail
                      go_at_call 66
                      (refine (WOJ.out _ _ _ _ hrow).mono ?_)
                      rintro e w5 ⟨a5, c5, rfl, hk5, hb5⟩
                      have BW := Lib.hid (BW.out.go hb5)
                      have HO5 := Lib.hid (ho.out.go hb5)
                      go_wp2_with fail
                      go_at_call 56
                      (refine (PLR.out _ _ _ _ _ _ BW.out.now.1 hk5 hROW.1).mono ?_)
                      rintro e w6 ⟨rfl, hb6⟩
                      have HO5 := Lib.hid (HO5.out.go hb6)
                      have BW := Lib.hid (BW.out.go hb6)
                      have hb56 := hb5.trans (hb6.mono hb5.size)
                      have hrow := hrow.below hb56
                      have hc := (hb56.cell (p := ⟨b, off + j, none⟩) hb).trans hc
                      have hb := Nat.lt_of_lt_of_le hb hb56.size
                      rw [hROW.2]
                      clear hb5 hb6 hk5 hb56
                      obtain ⟨g2, c2, y1, hr, hg2, hbox, hm1, hm2, hbw⟩ := idx_new hrow hnone hrp hr8
                      have BY := Lib.hid (BW.out.go hbw)
                      have x0 : y1.cell? ⟨w.heap.size + 1, 0, none⟩ = some (.slice (some ⟨bs, os, none⟩) r sc) := BY.out.now.2.2.2.1.cell 0
                      have xs : y1.cell? ⟨bs, os + k, none⟩ = some (.int .i64 (S k)) := (BY.out.below.cell (p := ⟨bs, os + k, none⟩) hbs).trans HCS.out
                      have xi := hbox.2.2 k hk2
                      have xf := hbox.2.1 k
                      obtain ⟨bl, ol, rfl, hbl, xl⟩ := BY.out.now.2.1.get hrw
                      skip
                      have hq1 := Int.tmod_lt_of_pos (P0 rw) (show 0 < S k by omega)
                      have hq2 : -(S k) < Int.tmod (P0 rw) (S k) := by
                        have := Int.lt_tmod_of_pos (P0 rw) (show 0 < S k by omega)
                        omega
                      obtain ⟨q, hq⟩ : ∃ q, Int.tmod (P0 rw) (S k) = q := ⟨_, rfl⟩
                      rw [hq] at hq1 hq2
                      have MC : Hid (∀ wz, Calls Tryz.prog 67 #[.int .i64 (dgs S r (j : Nat) k + q), .int .i64 (S k)] wz fun e w' => e = .returned (.int .i64 X) ∧ w' = wz) := Lib.hid (fun wz => (rmod_any (dgs S r (j : Nat) k + q) (S k) wz (by omega) (by omega)).mono (by
                        rintro e w' ⟨rfl, hw⟩
                        have := mod_told (i := dgs S r (j : Nat) k) (t := P0 rw) (n := S k) hd0 hd1
                        rw [hq] at this
                        exact ⟨by rw [this, hX], hw.symm⟩))
                      have hw0 := IntWalk.i64_in q (by omega)
                      have hw2 := IntWalk.i64_in (dgs S r (j : Nat) k + q) (by omega)
                      have hne0 : S k ≠ 0 := by omega
                      have yi : y1.drew.cell? ⟨g2, k, none⟩ = some (.int .i64 (dgs S r (j : Nat) k)) := xi
                      have yf : y1.drew.frozen? ⟨g2, k, none⟩ = false := xf
                      have BX := ((show IBox y1.drew g2 r (dgs S r (j : Nat)) from hbox).set hk2 X).congr (h' := wiF (dgs S r (j : Nat)) (k : Nat) X) (fun a _ => by
                        unfold wiF
                        by_cases e : a = k
                        · rw [if_pos e, if_pos (by omega)]
                        · rw [if_neg e, if_neg (by omega)])
                      have hbx : Below w6.heap.size w6 (y1.drew.setCell ⟨g2, k, none⟩ (.int .i64 X)) := hbw.drew.setCell (p := ⟨g2, k, none⟩) hg2 _
                      have KIX := Lib.hid (BX.krow2 hm1 hm2)
                      have HIN := Lib.hid hin
                      have HGJ := Lib.hid hG
                      have HBX := Lib.hid hbx
                      have BZ := Lib.hid (BW.out.go hbx)
                      have z1 : (y1.drew.setCell ⟨g2, k, none⟩ (.int .i64 X)).cell? ⟨w.heap.size + 1, 0, none⟩ = some (.slice (some ⟨bs, os, none⟩) r sc) := BZ.out.now.2.2.2.1.cell 0
                      clear BX hbx hin hG hbox hrow hnone BY hq1 hq2 hX hROW
                      generalize wiF (dgs S r (j : Nat)) (k : Nat) X = WF at *
                      generalize dgs S r (j : Nat) k = d at *
                      generalize S k = sk at *
                      generalize A j = aj at *
                      generalize C j = cj at *
                      go_wp2_with (at_builtin; refine Lib.wpList_append_run _ rfl _ _ _ _ rfl _ _ rfl rfl _ _ hr ?_)
                      go_still_tail 24, (by kernel_rfl)
                      still_call ((MC.out _))
                      repeat still_step
                      try refine wpStill_nil ?_
                      change wpList _ _ _ _ _ y1.drew
                      clear x0 xs xi xf xl hw0 hw2 hbw hq
                      generalize y1.drew = Y2 at *
                      go_wp2_with fail
                      go_at_call 56
                      (refine (PLC.out _ _ _ _ (HK.out.below BZ.out.below) KIX.out HIN.out).mono ?_)
                      rintro e w9 ⟨rfl, hb9⟩
                      obtain ⟨a', c', y3, hr3, ho'⟩ := app1_step (HO5.out.go (HBX.out.trans (hb9.mono HBX.out.size))) HGJ.out (by omega)
                      have HO' := Lib.hid ho'
                      clear ho' hb9 z1 yi yf
                      go_wp2_with (at_builtin; refine Lib.wpList_append_run _ rfl _ _ _ _ rfl _ _ rfl rfl _ _ hr3 ?_)
                      go_roundw
                      case rel => exact ⟨j + 1, a', c', by omega, rfl, by go_num, ⟨_, rfl⟩, ⟨_, rfl⟩, HO'⟩
                      case measure => simp [intOf]; omega
                    · have hjL : j = L := by omega
                      subst j
                      have HKK := Lib.hid ho.out.krow
                      have HR3 := Lib.hid BW.out.now.2.2.2.1
                      have x0 : wr.cell? ⟨w.heap.size + 1, 0, none⟩ = some (.slice (some ⟨bs, os, none⟩) r sc) := BW.out.now.2.2.2.1.cell 0
                      clear hj hlt ho
                      go_wp2_with (refine ld_pln rfl (.tmp 4) rfl (w.heap.size + 1) rfl HR3.out ?_)
                      go_at_call 51
                      (with_reducible refine (RP.out _ _ _ ?_ ?_ ?_).mono ?_)
                      · exact H.out.below BW.out.below
                      · exact HK.out.below BW.out.below
                      · exact HKK.out
                      rintro e w9 ⟨cs', rfl, hq, hb9⟩
                      have BW := Lib.hid (BW.out.go hb9)
                      obtain ⟨sq, scq, tq, tcq, nq, ncq, rfl, _⟩ := hq.form
                      have HZ := Lib.hid BW.out.now.2.2.1
                      have HE := Lib.hid (HFIN.out _ _ (PoTold.yes (hq.put HZ.out _) (below_put BW.out.below (show w.heap.size ≤ w.heap.size + 1 + 1 by omega) (plC sq r scq ch tq (tnO ch L) tcq nq (nnO ch L) ncq))))
                      clear hq hb9 x0
                      go_wp2_with (refine st_pln rfl (.tmp 6) (.tmp 151) rfl (w.heap.size + 1 + 1) rfl _ _ _ _ _ _ _ _ _ _ rfl HZ.out rfl ?_)
                      exact bodyPost_ret (res_pln2 Tryz.results23 rfl rfl (HZ.out.put _) rfl) rfl HE.out
                | false =>
                  rw [hsm, if_neg (by decide)] at hEE2
                  rw [hsm] at SM
                  have HQ : Hid (EE = 24) := Lib.hid hEE2.symm
                  clear hEE2 HMANY PLR0 HRR hf hsm hone hR1 PLR HFIN hks0
                  have BB := Lib.hid ((((Bag.start w).newRow (plC (some ⟨bb, ob, none⟩) r0 scb ch0 tb (tnO ch0 L0) tcb nb (nnO ch0 L0) ncb) 26).newRow (plC (some ⟨bs, os, none⟩) r sc ch ta (tnO ch L) tc na (nnO ch L) nc) 26).newRow plZer 26)
                  simp only [World.size_alloc] at BB
                  have HR1 := Lib.hid BB.out.now.2.2.1
                  unfold plC
                  go_enter Tryz.func23, Tryz.ntmps23
                  go_wp2_with (refine ld_pln rfl (.tmp 3) rfl w.heap.size rfl HR1.out ?_)
                  go_at_call 65
                  (with_reducible refine (WH.out _ ?_).mono ?_)
                  · exact H0.out.below BB.out.below
                  rintro e w2 ⟨al, cl, rfl, hkl, hb2⟩
                  have BB := Lib.hid ((BB.out.go hb2).krow hkl)
                  clear hb2 hkl
                  have x1 : w2.cell? ⟨w.heap.size + 1, 0, none⟩ = some (.slice (some ⟨bs, os, none⟩) r sc) := BB.out.now.2.2.1.cell 0
                  have HR4 := Lib.hid BB.out.now.2.2.1
                  go_wp2_with (refine ld_pln rfl (.tmp 4) rfl (w.heap.size + 1) rfl HR4.out ?_)
                  go_at_call 12
                  (with_reducible refine (AX.out _ ?_).mono ?_)
                  · exact H.out.below BB.out.below
                  rintro e w3 ⟨rfl, hb3⟩
                  have BB := Lib.hid (BB.out.go hb3)
                  clear hb3 x1
                  have x1 : w3.cell? ⟨w.heap.size + 1, 0, none⟩ = some (.slice (some ⟨bs, os, none⟩) r sc) := BB.out.now.2.2.1.cell 0
                  go_wp2_with fail
                  go_at_call 66
                  (with_reducible refine (WO.out _ ?_).mono ?_)
                  · exact HK.out.below BB.out.below
                  rintro e w4 ⟨ar, cr, rfl, hkr2, hb4⟩
                  have BB := Lib.hid ((BB.out.go hb4).krow hkr2)
                  have hlr2 := hkr2.len
                  clear hkr2 hb4 x1
                  have z0 : w4.cell? ⟨w.heap.size, 0, none⟩ = some (.slice (some ⟨bb, ob, none⟩) r0 scb) := BB.out.now.2.2.2.2.1.cell 0
                  have z1 := HCB.out _ BB.out.below
                  go_wp2_with fail
                  go_at_call 35
                  (with_reducible refine (SM.out _ _ _ ?_ BB.out.now.1).mono ?_)
                  · exact HK0.out.below BB.out.below
                  rintro e y4 ⟨rfl, hb4⟩
                  have BB := Lib.hid (BB.out.go hb4)
                  clear hb4 z0
                  have HZ := Lib.hid BB.out.now.2.2.1
                  have HE := Lib.hid (HNO.out 24 _ HQ.out (by decide) BB.out.below)
                  go_wp2_with (refine st_pln rfl (.tmp 6) (.tmp 90) rfl (w.heap.size + 1 + 1) rfl none 0 0 false none 0 0 none 0 0 rfl HZ.out rfl ?_)
                  exact bodyPost_ret (res_pln2 Tryz.results23 rfl rfl (HZ.out.put _) rfl) rfl HE.out
              · rw [if_neg hf] at hEE2
                have HQ : Hid (EE = 23) := Lib.hid hEE2.symm
                have f3 : (((r0 : Nat) : Int) != ((R1 : Nat) : Int)) = true := bne_iff_ne.2 (by omega)
                clear hEE2 HMANY PLR0 hf hone hR1 HFIN hks0
                have BB := Lib.hid ((((Bag.start w).newRow (plC (some ⟨bb, ob, none⟩) r0 scb ch0 tb (tnO ch0 L0) tcb nb (nnO ch0 L0) ncb) 26).newRow (plC (some ⟨bs, os, none⟩) r sc ch ta (tnO ch L) tc na (nnO ch L) nc) 26).newRow plZer 26)
                simp only [World.size_alloc] at BB
                have HR1 := Lib.hid BB.out.now.2.2.1
                unfold plC
                go_enter Tryz.func23, Tryz.ntmps23
                go_wp2_with (refine ld_pln rfl (.tmp 3) rfl w.heap.size rfl HR1.out ?_)
                go_at_call 65
                (with_reducible refine (WH.out _ ?_).mono ?_)
                · exact H0.out.below BB.out.below
                rintro e w2 ⟨al, cl, rfl, hkl, hb2⟩
                have BB := Lib.hid ((BB.out.go hb2).krow hkl)
                clear hb2 hkl
                have x1 : w2.cell? ⟨w.heap.size + 1, 0, none⟩ = some (.slice (some ⟨bs, os, none⟩) r sc) := BB.out.now.2.2.1.cell 0
                have HR4 := Lib.hid BB.out.now.2.2.1
                go_wp2_with (refine ld_pln rfl (.tmp 4) rfl (w.heap.size + 1) rfl HR4.out ?_)
                go_at_call 12
                (with_reducible refine (AX.out _ ?_).mono ?_)
                · exact H.out.below BB.out.below
                rintro e w3 ⟨rfl, hb3⟩
                have BB := Lib.hid (BB.out.go hb3)
                clear hb3 x1
                have x1 : w3.cell? ⟨w.heap.size + 1, 0, none⟩ = some (.slice (some ⟨bs, os, none⟩) r sc) := BB.out.now.2.2.1.cell 0
                go_wp2_with fail
                go_at_call 66
                (with_reducible refine (WO.out _ ?_).mono ?_)
                · exact HK.out.below BB.out.below
                rintro e w4 ⟨ar, cr, rfl, hkr2, hb4⟩
                have BB := Lib.hid ((BB.out.go hb4).krow hkr2)
                have hlr2 := hkr2.len
                clear hkr2 hb4 x1
                have z0 : w4.cell? ⟨w.heap.size, 0, none⟩ = some (.slice (some ⟨bb, ob, none⟩) r0 scb) := BB.out.now.2.2.2.2.1.cell 0
                have z1 := HCB.out _ BB.out.below
                have HZ := Lib.hid BB.out.now.2.2.1
                have HE := Lib.hid (HNO.out 23 _ HQ.out (by decide) BB.out.below)
                go_wp2_with (refine st_pln rfl (.tmp 6) (.tmp 80) rfl (w.heap.size + 1 + 1) rfl none 0 0 false none 0 0 none 0 0 rfl HZ.out rfl ?_)
                exact bodyPost_ret (res_pln2 Tryz.results23 rfl rfl (HZ.out.put _) rfl) rfl HE.out
          · have hone : sgB r0 L0 = false := by rw [HSG, decide_eq_false (show ¬ r0 ≤ 1 by omega)]; rfl
            rw [hone, if_neg (by decide)] at hEE2
            have f0 : (((r0 : Nat) : Int) == 0) = false := beq_eq_false_iff_ne.2 (by omega)
            have f1 : (((r0 : Nat) : Int) == 1) = false := beq_eq_false_iff_ne.2 (by omega)
            clear HONE HSG hi1 hi2 hr0 hr1
            unfold ftE at hEE2
            rw [hR1] at hEE2
            by_cases hf : r0 = R1
            · have HRR := HMANY hone hf
              have PLR := PLR0 hf
              rw [if_pos hf] at hEE2
              have f3 : (((r0 : Nat) : Int) != ((R1 : Nat) : Int)) = false := by rw [hf]; exact bne_self_eq_false _
              rw [show (decide (r0 = R1) && sameB S0 (outF S k) r0) = sameB S0 (outF S k) r0 by rw [decide_eq_true hf]; rfl] at SM
              cases hsm : sameB S0 (outF S k) r0 with
              | true =>
                rw [hsm, if_pos rfl] at hEE2
                rw [hsm] at SM
                have HM := HRR hsm
                have PLR := PLR hsm
                have HFIN := Lib.hid (HFIN hEE2.symm)
                have HH0 := HK0
                clear hEE2 HMANY PLR0 HRR hf hsm hone hR1 hks0
                have BB := Lib.hid ((((Bag.start w).newRow (plC sb r0 scb ch0 tb (tnO ch0 L0) tcb nb (nnO ch0 L0) ncb) 26).newRow (plC (some ⟨bs, os, none⟩) r sc ch ta (tnO ch L) tc na (nnO ch L) nc) 26).newRow plZer 26)
                simp only [World.size_alloc] at BB
                have HR1 := Lib.hid BB.out.now.2.2.1
                unfold plC
                go_enter Tryz.func23, Tryz.ntmps23
                go_wp2_with (refine ld_pln rfl (.tmp 3) rfl w.heap.size rfl HR1.out ?_)
                go_at_call 65
                (with_reducible refine (WH.out _ ?_).mono ?_)
                · exact H0.out.below BB.out.below
                rintro e w2 ⟨al, cl, rfl, hkl, hb2⟩
                have BB := Lib.hid ((BB.out.go hb2).krow hkl)
                clear hb2 hkl
                have x1 : w2.cell? ⟨w.heap.size + 1, 0, none⟩ = some (.slice (some ⟨bs, os, none⟩) r sc) := BB.out.now.2.2.1.cell 0
                have HR4 := Lib.hid BB.out.now.2.2.1
                go_wp2_with (refine ld_pln rfl (.tmp 4) rfl (w.heap.size + 1) rfl HR4.out ?_)
                go_at_call 12
                (with_reducible refine (AX.out _ ?_).mono ?_)
                · exact H.out.below BB.out.below
                rintro e w3 ⟨rfl, hb3⟩
                have BB := Lib.hid (BB.out.go hb3)
                clear hb3 x1
                have x1 : w3.cell? ⟨w.heap.size + 1, 0, none⟩ = some (.slice (some ⟨bs, os, none⟩) r sc) := BB.out.now.2.2.1.cell 0
                go_wp2_with fail
                go_at_call 66
                (with_reducible refine (WO.out _ ?_).mono ?_)
                · exact HK.out.below BB.out.below
                rintro e w4 ⟨ar, cr, rfl, hkr2, hb4⟩
                have BB := Lib.hid ((BB.out.go hb4).krow hkr2)
                have hlr2 := hkr2.len
                clear hkr2 hb4 x1
                have z0 : w4.cell? ⟨w.heap.size, 0, none⟩ = some (.slice sb r0 scb) := BB.out.now.2.2.2.2.1.cell 0
                go_wp2_with fail
                go_at_call 35
                (with_reducible refine (SM.out _ _ _ ?_ BB.out.now.1).mono ?_)
                · exact HK0.out.below BB.out.below
                rintro e y4 ⟨rfl, hb4⟩
                have BB := Lib.hid (BB.out.go hb4)
                clear hb4 z0
                have x1 : y4.cell? ⟨w.heap.size + 1, 0, none⟩ = some (.slice (some ⟨bs, os, none⟩) r sc) := BB.out.now.2.2.2.1.cell 0
                go_wp2_with fail
                go_at_call 55
                (with_reducible refine (ALL.out _ ?_).mono ?_)
                · exact HK.out.below BB.out.below
                rintro e y5 ⟨a8, c8, A, C, rfl, hlr, hb5⟩
                have BB := Lib.hid (BB.out.go hb5)
                have HLR := Lib.hid hlr
                have hl8 := hlr.1
                have hl9 := hlr.2.1
                unfold maxLen at hl9
                clear hb5 x1 hlr
                go_wp2_with fail
                go_loopw [15, 16, 17, 18] (fun s i v u wr => ∃ (j : Nat) (a : Option Addr) (c : Nat), j ≤ L ∧ s = .slice a j c ∧ i = .int .i64 j ∧ (∃ v6, v6 = v) ∧ (∃ v7, v7 = u) ∧ Hid (OwnI y5 wr a j c G)) (fun _ i _ _ _ => L - (intOf i).toNat)
                case atStart => exact ⟨0, none, 0, by omega, rfl, rfl, ⟨_, rfl⟩, ⟨_, rfl⟩, OwnI.nil _ _⟩
                case round =>
                  obtain ⟨j, a, c, hj, rfl, rfl, ⟨v6, rfl⟩, ⟨v7, rfl⟩, ho⟩ := hrel
                  have BW := Lib.hid (BB.out.go ho.out.1)
                  by_cases hlt : j < L
                  · obtain ⟨b, off, rfl, hb, hc, hrow, hnone⟩ := (HLR.out.below ho.out.1).get hlt
                    have hj0 : (0 : Int) ≤ j := by omega
                    have hj1 : (j : Int) < L := by omega
                    obtain ⟨rw, X, hrw, hROW, hd0, hd1, hX, hG, hin⟩ := HM.out j hlt
                    go_wp2_with fail
                    go_at_call 66
                    (refine (WOJ.out _ _ _ _ hrow).mono ?_)
                    rintro e w5 ⟨a5, c5, rfl, hk5, hb5⟩
                    have BW := Lib.hid (BW.out.go hb5)
                    have HO5 := Lib.hid (ho.out.go hb5)
                    go_wp2_with fail
                    go_at_call 56
                    (refine (PLR.out _ _ _ _ _ _ BW.out.now.1 hk5 hROW.1).mono ?_)
                    rintro e w6 ⟨rfl, hb6⟩
                    have HO5 := Lib.hid (HO5.out.go hb6)
                    have BW := Lib.hid (BW.out.go hb6)
                    have hb56 := hb5.trans (hb6.mono hb5.size)
                    have hrow := hrow.below hb56
                    have hc := (hb56.cell (p := ⟨b, off + j, none⟩) hb).trans hc
                    have hb := Nat.lt_of_lt_of_le hb hb56.size
                    rw [hROW.2]
                    clear hb5 hb6 hk5 hb56
                    obtain ⟨g2, c2, y1, hr, hg2, hbox, hm1, hm2, hbw⟩ := idx_new hrow hnone hrp hr8
                    have BY := Lib.hid (BW.out.go hbw)
                    have x0 : y1.cell? ⟨w.heap.size + 1, 0, none⟩ = some (.slice (some ⟨bs, os, none⟩) r sc) := BY.out.now.2.2.2.1.cell 0
                    have xs : y1.cell? ⟨bs, os + k, none⟩ = some (.int .i64 (S k)) := (BY.out.below.cell (p := ⟨bs, os + k, none⟩) hbs).trans HCS.out
                    have xi := hbox.2.2 k hk2
                    have xf := hbox.2.1 k
                    obtain ⟨bl, ol, rfl, hbl, xl⟩ := BY.out.now.2.1.get hrw
                    skip
                    have hq1 := Int.tmod_lt_of_pos (P0 rw) (show 0 < S k by omega)
                    have hq2 : -(S k) < Int.tmod (P0 rw) (S k) := by
                      have := Int.lt_tmod_of_pos (P0 rw) (show 0 < S k by omega)
                      omega
                    obtain ⟨q, hq⟩ : ∃ q, Int.tmod (P0 rw) (S k) = q := ⟨_, rfl⟩
                    rw [hq] at hq1 hq2
                    have MC : Hid (∀ wz, Calls Tryz.prog 67 #[.int .i64 (dgs S r (j : Nat) k + q), .int .i64 (S k)] wz fun e w' => e = .returned (.int .i64 X) ∧ w' = wz) := Lib.hid (fun wz => (rmod_any (dgs S r (j : Nat) k + q) (S k) wz (by omega) (by omega)).mono (by
                      rintro e w' ⟨rfl, hw⟩
                      have := mod_told (i := dgs S r (j : Nat) k) (t := P0 rw) (n := S k) hd0 hd1
                      rw [hq] at this
                      exact ⟨by rw [this, hX], hw.symm⟩))
                    have hw0 := IntWalk.i64_in q (by omega)
                    have hw2 := IntWalk.i64_in (dgs S r (j : Nat) k + q) (by omega)
                    have hne0 : S k ≠ 0 := by omega
                    have yi : y1.drew.cell? ⟨g2, k, none⟩ = some (.int .i64 (dgs S r (j : Nat) k)) := xi
                    have yf : y1.drew.frozen? ⟨g2, k, none⟩ = false := xf
                    have BX := ((show IBox y1.drew g2 r (dgs S r (j : Nat)) from hbox).set hk2 X).congr (h' := wiF (dgs S r (j : Nat)) (k : Nat) X) (fun a _ => by
                      unfold wiF
                      by_cases e : a = k
                      · rw [if_pos e, if_pos (by omega)]
                      · rw [if_neg e, if_neg (by omega)])
                    have hbx : Below w6.heap.size w6 (y1.drew.setCell ⟨g2, k, none⟩ (.int .i64 X)) := hbw.drew.setCell (p := ⟨g2, k, none⟩) hg2 _
                    have KIX := Lib.hid (BX.krow2 hm1 hm2)
                    have HIN := Lib.hid hin
                    have HGJ := Lib.hid hG
                    have HBX := Lib.hid hbx
                    have BZ := Lib.hid (BW.out.go hbx)
                    have z1 : (y1.drew.setCell ⟨g2, k, none⟩ (.int .i64 X)).cell? ⟨w.heap.size + 1, 0, none⟩ = some (.slice (some ⟨bs, os, none⟩) r sc) := BZ.out.now.2.2.2.1.cell 0
                    clear BX hbx hin hG hbox hrow hnone BY hq1 hq2 hX hROW
                    generalize wiF (dgs S r (j : Nat)) (k : Nat) X = WF at *
                    generalize dgs S r (j : Nat) k = d at *
                    generalize S k = sk at *
                    generalize A j = aj at *
                    generalize C j = cj at *
                    go_wp2_with (at_builtin; refine Lib.wpList_append_run _ rfl _ _ _ _ rfl _ _ rfl rfl _ _ hr ?_)
                    go_still_tail 24, (by kernel_rfl)
                    still_call ((MC.out _))
                    repeat still_step
                    try refine wpStill_nil ?_
                    change wpList _ _ _ _ _ y1.drew
                    clear x0 xs xi xf xl hw0 hw2 hbw hq
                    generalize y1.drew = Y2 at *
                    go_wp2_with fail
                    go_at_call 56
                    (refine (PLC.out _ _ _ _ (HK.out.below BZ.out.below) KIX.out HIN.out).mono ?_)
                    rintro e w9 ⟨rfl, hb9⟩
                    obtain ⟨a', c', y3, hr3, ho'⟩ := app1_step (HO5.out.go (HBX.out.trans (hb9.mono HBX.out.size))) HGJ.out (by omega)
                    have HO' := Lib.hid ho'
                    clear ho' hb9 z1 yi yf
                    go_wp2_with (at_builtin; refine Lib.wpList_append_run _ rfl _ _ _ _ rfl _ _ rfl rfl _ _ hr3 ?_)
                    go_roundw
                    case rel => exact ⟨j + 1, a', c', by omega, rfl, by go_num, ⟨_, rfl⟩, ⟨_, rfl⟩, HO'⟩
                    case measure => simp [intOf]; omega
                  · have hjL : j = L := by omega
                    subst j
                    have HKK := Lib.hid ho.out.krow
                    have HR3 := Lib.hid BW.out.now.2.2.2.1
                    have x0 : wr.cell? ⟨w.heap.size + 1, 0, none⟩ = some (.slice (some ⟨bs, os, none⟩) r sc) := BW.out.now.2.2.2.1.cell 0
                    clear hj hlt ho
                    go_wp2_with (refine ld_pln rfl (.tmp 4) rfl (w.heap.size + 1) rfl HR3.out ?_)
                    go_at_call 51
                    (with_reducible refine (RP.out _ _ _ ?_ ?_ ?_).mono ?_)
                    · exact H.out.below BW.out.below
                    · exact HK.out.below BW.out.below
                    · exact HKK.out
                    rintro e w9 ⟨cs', rfl, hq, hb9⟩
                    have BW := Lib.hid (BW.out.go hb9)
                    obtain ⟨sq, scq, tq, tcq, nq, ncq, rfl, _⟩ := hq.form
                    have HZ := Lib.hid BW.out.now.2.2.1
                    have HE := Lib.hid (HFIN.out _ _ (PoTold.yes (hq.put HZ.out _) (below_put BW.out.below (show w.heap.size ≤ w.heap.size + 1 + 1 by omega) (plC sq r scq ch tq (tnO ch L) tcq nq (nnO ch L) ncq))))
                    clear hq hb9 x0
                    go_wp2_with (refine st_pln rfl (.tmp 6) (.tmp 151) rfl (w.heap.size + 1 + 1) rfl _ _ _ _ _ _ _ _ _ _ rfl HZ.out rfl ?_)
                    exact bodyPost_ret (res_pln2 Tryz.results23 rfl rfl (HZ.out.put _) rfl) rfl HE.out
              | false =>
                rw [hsm, if_neg (by decide)] at hEE2
                rw [hsm] at SM
                have HQ : Hid (EE = 24) := Lib.hid hEE2.symm
                clear hEE2 HMANY PLR0 HRR hf hsm hone hR1 PLR HFIN hks0
                have BB := Lib.hid ((((Bag.start w).newRow (plC sb r0 scb ch0 tb (tnO ch0 L0) tcb nb (nnO ch0 L0) ncb) 26).newRow (plC (some ⟨bs, os, none⟩) r sc ch ta (tnO ch L) tc na (nnO ch L) nc) 26).newRow plZer 26)
                simp only [World.size_alloc] at BB
                have HR1 := Lib.hid BB.out.now.2.2.1
                unfold plC
                go_enter Tryz.func23, Tryz.ntmps23
                go_wp2_with (refine ld_pln rfl (.tmp 3) rfl w.heap.size rfl HR1.out ?_)
                go_at_call 65
                (with_reducible refine (WH.out _ ?_).mono ?_)
                · exact H0.out.below BB.out.below
                rintro e w2 ⟨al, cl, rfl, hkl, hb2⟩
                have BB := Lib.hid ((BB.out.go hb2).krow hkl)
                clear hb2 hkl
                have x1 : w2.cell? ⟨w.heap.size + 1, 0, none⟩ = some (.slice (some ⟨bs, os, none⟩) r sc) := BB.out.now.2.2.1.cell 0
                have HR4 := Lib.hid BB.out.now.2.2.1
                go_wp2_with (refine ld_pln rfl (.tmp 4) rfl (w.heap.size + 1) rfl HR4.out ?_)
                go_at_call 12
                (with_reducible refine (AX.out _ ?_).mono ?_)
                · exact H.out.below BB.out.below
                rintro e w3 ⟨rfl, hb3⟩
                have BB := Lib.hid (BB.out.go hb3)
                clear hb3 x1
                have x1 : w3.cell? ⟨w.heap.size + 1, 0, none⟩ = some (.slice (some ⟨bs, os, none⟩) r sc) := BB.out.now.2.2.1.cell 0
                go_wp2_with fail
                go_at_call 66
                (with_reducible refine (WO.out _ ?_).mono ?_)
                · exact HK.out.below BB.out.below
                rintro e w4 ⟨ar, cr, rfl, hkr2, hb4⟩
                have BB := Lib.hid ((BB.out.go hb4).krow hkr2)
                have hlr2 := hkr2.len
                clear hkr2 hb4 x1
                have z0 : w4.cell? ⟨w.heap.size, 0, none⟩ = some (.slice sb r0 scb) := BB.out.now.2.2.2.2.1.cell 0
                go_wp2_with fail
                go_at_call 35
                (with_reducible refine (SM.out _ _ _ ?_ BB.out.now.1).mono ?_)
                · exact HK0.out.below BB.out.below
                rintro e y4 ⟨rfl, hb4⟩
                have BB := Lib.hid (BB.out.go hb4)
                clear hb4 z0
                have HZ := Lib.hid BB.out.now.2.2.1
                have HE := Lib.hid (HNO.out 24 _ HQ.out (by decide) BB.out.below)
                go_wp2_with (refine st_pln rfl (.tmp 6) (.tmp 90) rfl (w.heap.size + 1 + 1) rfl none 0 0 false none 0 0 none 0 0 rfl HZ.out rfl ?_)
                exact bodyPost_ret (res_pln2 Tryz.results23 rfl rfl (HZ.out.put _) rfl) rfl HE.out
            · rw [if_neg hf] at hEE2
              have HQ : Hid (EE = 23) := Lib.hid hEE2.symm
              have f3 : (((r0 : Nat) : Int) != ((R1 : Nat) : Int)) = true := bne_iff_ne.2 (by omega)
              clear hEE2 HMANY PLR0 hf hone hR1 HFIN hks0
              have BB := Lib.hid ((((Bag.start w).newRow (plC sb r0 scb ch0 tb (tnO ch0 L0) tcb nb (nnO ch0 L0) ncb) 26).newRow (plC (some ⟨bs, os, none⟩) r sc ch ta (tnO ch L) tc na (nnO ch L) nc) 26).newRow plZer 26)
              simp only [World.size_alloc] at BB
              have HR1 := Lib.hid BB.out.now.2.2.1
              unfold plC
              go_enter Tryz.func23, Tryz.ntmps23
              go_wp2_with (refine ld_pln rfl (.tmp 3) rfl w.heap.size rfl HR1.out ?_)
              go_at_call 65
              (with_reducible refine (WH.out _ ?_).mono ?_)
              · exact H0.out.below BB.out.below
              rintro e w2 ⟨al, cl, rfl, hkl, hb2⟩
              have BB := Lib.hid ((BB.out.go hb2).krow hkl)
              clear hb2 hkl
              have x1 : w2.cell? ⟨w.heap.size + 1, 0, none⟩ = some (.slice (some ⟨bs, os, none⟩) r sc) := BB.out.now.2.2.1.cell 0
              have HR4 := Lib.hid BB.out.now.2.2.1
              go_wp2_with (refine ld_pln rfl (.tmp 4) rfl (w.heap.size + 1) rfl HR4.out ?_)
              go_at_call 12
              (with_reducible refine (AX.out _ ?_).mono ?_)
              · exact H.out.below BB.out.below
              rintro e w3 ⟨rfl, hb3⟩
              have BB := Lib.hid (BB.out.go hb3)
              clear hb3 x1
              have x1 : w3.cell? ⟨w.heap.size + 1, 0, none⟩ = some (.slice (some ⟨bs, os, none⟩) r sc) := BB.out.now.2.2.1.cell 0
              go_wp2_with fail
              go_at_call 66
              (with_reducible refine (WO.out _ ?_).mono ?_)
              · exact HK.out.below BB.out.below
              rintro e w4 ⟨ar, cr, rfl, hkr2, hb4⟩
              have BB := Lib.hid ((BB.out.go hb4).krow hkr2)
              have hlr2 := hkr2.len
              clear hkr2 hb4 x1
              have z0 : w4.cell? ⟨w.heap.size, 0, none⟩ = some (.slice sb r0 scb) := BB.out.now.2.2.2.2.1.cell 0
              have HZ := Lib.hid BB.out.now.2.2.1
              have HE := Lib.hid (HNO.out 23 _ HQ.out (by decide) BB.out.below)
              go_wp2_with (refine st_pln rfl (.tmp 6) (.tmp 80) rfl (w.heap.size + 1 + 1) rfl none 0 0 false none 0 0 none 0 0 rfl HZ.out rfl ?_)
              exact bodyPost_ret (res_pln2 Tryz.results23 rfl rfl (HZ.out.put _) rfl) rfl HE.out
end Go.Proofs.YtkljpofljkgkdaaGreatDoor

namespace Go.Proofs.YtkljpofljkgkdaaGreatDoor
open Go.RowKit
/-- An array and an error, as the program answers them. -/
def MoR (w : World) (x : Array Value) (E : Int) (S : Nat → Int) (r : Nat) (ch : Bool) (L : Nat) (g fP : Nat → Int) (fQ : Nat → Nat) : Prop := IsA x ∧ (E = 0 → Arr w x S r ch L g fP fQ) ∧ (E ≠ 0 → x = zerC)
theorem MoR.below {w w' : World} {x : Array Value} {E : Int} {S : Nat → Int} {r : Nat} {ch : Bool} {L : Nat} {g fP : Nat → Int} {fQ : Nat → Nat} (h : MoR w x E S r ch L g fP fQ) (hb : Below w.heap.size w w') : MoR w' x E S r ch L g fP fQ := ⟨h.1, fun e => (h.2.1 e).below hb, h.2.2⟩
theorem MoR.store {w : World} {x : Array Value} {E : Int} {S : Nat → Int} {r : Nat} {ch : Bool} {L : Nat} {g fP : Nat → Int} {fQ : Nat → Nat} (h : MoR w x E S r ch L g fP fQ) {k : Nat} {t : TypeId} {z : Array Value} (hr : Row w k t z) (hz : IsA z) (cs' : Array Value) : MoR (w.setRow k cs') x E S r ch L g fP fQ := ⟨h.1, fun e => (h.2.1 e).store hr hz cs', h.2.2⟩
theorem MoTold.res {E : Int} {S : Nat → Int} {r : Nat} {ch : Bool} {L : Nat} {g fP : Nat → Int} {fQ : Nat → Nat} {w w' : World} {e : Ending} (h : MoTold E S r ch L g fP fQ w w' e) :
    ∃ x, e = .returned (.tuple #[.agg x, .int .i64 E]) ∧ MoR w' x E S r ch L g fP fQ ∧ Below w.heap.size w w' := by
  obtain ⟨x, he, h1, h2, hb⟩ := h
  refine ⟨x, he, ⟨?_, h1, h2⟩, hb⟩
  by_cases hE : E = 0
  · exact (h1 hE).isA
  · rw [h2 hE]
    exact IsA.zer
/-- A plain array and an error, as the document answers them. -/
def IsP (p : Array Value) : Prop := ∃ sa sn sc ch ta tn tc na nn nc, p = plC sa sn sc ch ta tn tc na nn nc
theorem IsP.size {p : Array Value} (h : IsP p) : p.size = 4 := by
  obtain ⟨_, _, _, _, _, _, _, _, _, _, rfl⟩ := h
  rfl
def PoR (w : World) (p : Array Value) (E : Int) (S : Nat → Int) (r : Nat) (ch : Bool) (L : Nat) (g : Nat → Int) (fB : Nat → Bool) (fS fT : Nat → ByteArray) : Prop := IsP p ∧ (E = 0 → Pln w p S r ch L g fB fS fT)
theorem PoR.below {w w' : World} {p : Array Value} {E : Int} {S : Nat → Int} {r : Nat} {ch : Bool} {L : Nat} {g : Nat → Int} {fB : Nat → Bool} {fS fT : Nat → ByteArray} (h : PoR w p E S r ch L g fB fS fT) (hb : Below w.heap.size w w') : PoR w' p E S r ch L g fB fS fT := ⟨h.1, fun e => (h.2 e).below hb⟩
theorem PoR.put {w : World} {p : Array Value} {E : Int} {S : Nat → Int} {r : Nat} {ch : Bool} {L : Nat} {g : Nat → Int} {fB : Nat → Bool} {fS fT : Nat → ByteArray} (h : PoR w p E S r ch L g fB fS fT) {k : Nat} {t : TypeId} (hr : Row w k t plZer) (cs' : Array Value) : PoR (w.setRow k cs') p E S r ch L g fB fS fT := ⟨h.1, fun e => (h.2 e).put hr cs'⟩
theorem PoTold.res {E : Int} {S : Nat → Int} {r : Nat} {ch : Bool} {L : Nat} {g : Nat → Int} {fB : Nat → Bool} {fS fT : Nat → ByteArray} {w w' : World} {e : Ending} (h : PoTold E S r ch L g fB fS fT w w' e) :
    ∃ x, e = .returned (.tuple #[.agg x, .int .i64 E]) ∧ PoR w' x E S r ch L g fB fS fT ∧ Below w.heap.size w w' := by
  obtain ⟨x, he, h1, h2, hb⟩ := h
  refine ⟨x, he, ⟨?_, h1⟩, hb⟩
  by_cases hE : E = 0
  · obtain ⟨_, _, _, _, _, _, e, _⟩ := (h1 hE).form
    exact ⟨_, _, _, _, _, _, _, _, _, _, e⟩
  · rw [h2 hE]
    exact ⟨_, _, _, _, _, _, _, _, _, _, rfl⟩
/-- What the elements say, on both sides. -/
def ElSame (ch : Bool) (L : Nat) (fP : Nat → Int) (fQ : Nat → Nat) (fB : Nat → Bool) (fS fT : Nat → ByteArray) : Prop := Small ch L fP fQ ∧ ∀ j, j < nnO ch L → rB (fP j) = fB j ∧ rS (fP j) = fS j ∧ str (dec (fQ j)) = fT j
theorem Good.els {S : Nat → Int} {r : Nat} {ch : Bool} {L : Nat} {fB : Nat → Bool} {fS fT : Nat → ByteArray} (h : Good S r ch L fB fS fT) (G : Nat → Int) (M : Nat) : ElSame ch M (fun j => elP L (gP fB fS fT) (G j)) (fun j => elQ L (gQ fB fS fT) (G j)) (fun j => elB L fB (G j)) (fun j => elS L fS (rS 0) (G j)) (fun j => elS L fT (str (dec 1)) (G j)) := by
  have h1 := h.num
  have h2 := h.small
  cases ch with
  | true => exact ⟨fun e => (by cases e), fun j hj => absurd hj (Nat.not_lt_zero _)⟩
  | false => exact ⟨fun _ => el_cmp (h2 rfl) G M, fun j _ => ⟨(el_same h1 (G j)).1.symm, (el_same h1 (G j)).2.1.symm, (el_same h1 (G j)).2.2.symm⟩⟩
theorem shows8_any (x p : Array Value) (E : Int) (S : Nat → Int) (r : Nat) (ch : Bool) (L : Nat) (g fP : Nat → Int) (fQ : Nat → Nat) (fB : Nat → Bool) (fS fT : Nat → ByteArray) (w : World) (h : MoR w x E S r ch L g fP fQ) (hp : PoR w p E S r ch L g fB fS fT) (hr : E = 0 → r ≤ 8 ∧ L ≤ 1000000) (he : ElSame ch L fP fQ fB fS fT) :
    Calls Tryz.prog 19 #[.agg x, .int .i64 E, .agg p, .int .i64 E] w fun e w' => e = .returned (.bool true) ∧ Below w.heap.size w w' := by
  by_cases hE : E = 0
  · subst hE
    exact showsOk_any x p w ⟨S, r, ch, L, g, fP, fQ, S, g, fB, fS, fT, h.2.1 rfl, hp.2 rfl, (hr rfl).1, (hr rfl).2, he.1, fun _ _ => rfl, fun _ _ => rfl, he.2⟩
  · rw [h.2.2 hE]
    obtain ⟨⟨sa, sn, sc, ch, ta, tn, tc, na, nn, nc, rfl⟩, _⟩ := hp
    exact showsNo_any E hE _ _ _ _ _ _ _ _ _ _ w
end Go.Proofs.YtkljpofljkgkdaaGreatDoor
