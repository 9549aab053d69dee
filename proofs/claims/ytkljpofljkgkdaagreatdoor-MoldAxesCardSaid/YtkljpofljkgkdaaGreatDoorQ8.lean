/-
  Texts of this seat, laid together.
-/
import Derived.Laws.EntriesVeiled
import Derived.Test.YtkljpofljkgkdaaGreatDoorQ1
import Derived.Test.YtkljpofljkgkdaaGreatDoorQ2
import Derived.Test.YtkljpofljkgkdaaGreatDoorQ3
import Derived.Test.YtkljpofljkgkdaaGreatDoorQ4
import Derived.Test.YtkljpofljkgkdaaGreatDoorQ5
import Derived.Test.YtkljpofljkgkdaaGreatDoorQ6
import Derived.Test.YtkljpofljkgkdaaGreatDoorQ7

namespace Go.Proofs.YtkljpofljkgkdaaGreatDoor
open Go.RowKit
attribute [local go_sem ↓] Go.wp_at_zero Go.wp_at_succ
/-- The error of Rotate. -/
def rtE (S0 : Nat → Int) (r0 : Nat) (ch0 : Bool) (L0 : Nat) (P0 : Nat → Int) (Q0 : Nat → Nat) (S : Nat → Int) (r : Nat) (i : Int) : Int :=
  if whC ch0 L0 P0 Q0 then (if stB r i then (if L0 = 1 then 0 else 23) else if axQ r i then (if sgB r0 L0 then 0 else ftE S0 r0 (r - 1) (outF S (axI r i).toNat)) else 23) else 22
theorem WhTold.yes {n : Nat} {f : Nat → Int} {w w' : World} {e : Ending} (h : WhTold true n f w w' e) : ∃ a c, e = .returned (.tuple #[.slice a n c, .bool true]) ∧ KRow w' .i64 a n c f ∧ Below w.heap.size w w' := by
  obtain ⟨a, m, c, he, h2, hb⟩ := h
  rw [if_pos rfl] at h2
  obtain ⟨rfl, hk⟩ := h2
  exact ⟨a, c, he, hk, hb⟩
theorem WhTold.no {n : Nat} {f : Nat → Int} {w w' : World} {e : Ending} (h : WhTold false n f w w' e) : e = .returned (.tuple #[.slice none 0 0, .bool false]) ∧ Below w.heap.size w w' := by
  obtain ⟨a, m, c, he, h2, hb⟩ := h
  rw [if_neg (by decide)] at h2
  obtain ⟨rfl, rfl, rfl⟩ := h2
  exact ⟨he, hb⟩
/-- By how much each row is turned. -/
def rtT (r0 L0 : Nat) (P0 : Nat → Int) : Nat → Int := if sgB r0 L0 then fun _ => P0 0 else P0
/-- Where the elements come from. -/
def rtG (S : Nat → Int) (r : Nat) (i : Int) (r0 L0 : Nat) (P0 : Nat → Int) : Nat → Int := rvG S r i (rotF (rtT r0 L0 P0) (S (axI r i).toNat).toNat)
theorem ftE_ok {S f : Nat → Int} {r n : Nat} (h : ftE S r n f = 0) : r = n ∧ ∀ j, j < r → S j = f j := by
  unfold ftE at h
  split at h
  · rename_i e
    split at h
    · rename_i e2
      exact ⟨e, sameB_iff.1 e2⟩
    · cases h
  · cases h
theorem rotF_in (G : Nat → Int) {N : Nat} (h : 0 < N) (row i : Nat) : 0 ≤ rotF G N row i ∧ rotF G N row i < N := by
  unfold rotF
  have h0 : (0 : Int) < N := by omega
  exact ⟨Int.emod_nonneg _ (by omega), Int.emod_lt_of_pos _ h0⟩
set_option linter.unusedSimpArgs false in
set_option maxHeartbeats 6400000 in
set_option maxRecDepth 100000 in
theorem rotate_any (cs0 : Array Value) (S0 : Nat → Int) (r0 : Nat) (ch0 : Bool) (L0 : Nat) (g0 P0 : Nat → Int) (Q0 : Nat → Nat) (cs : Array Value) (S : Nat → Int) (r : Nat) (ch : Bool) (L : Nat) (g fP : Nat → Int) (fQ : Nat → Nat) (i : Int) (w : World) (h0 : Arr w cs0 S0 r0 ch0 L0 g0 P0 Q0) (h : Arr w cs S r ch L g fP fQ)
    (hr0 : r0 ≤ 8) (hQ0 : ch0 = false → ∀ j, j < L0 → 0 < Q0 j) (hL0 : L0 ≤ 1000000) (hLi : itm S0 r0 = (L0 : Nat)) (hS : In64 S r) (hsh : shB S r = true) (hL : itm S r = (L : Nat)) :
    Calls Tryz.prog 22 #[.agg cs0, .agg cs, .int .i64 i] w fun e w' => MoTold (rtE S0 r0 ch0 L0 P0 Q0 S r i) S r ch L (fun j => elC L g 32 (rtG S r i r0 L0 P0 j)) (fun j => elP L fP (rtG S r i r0 L0 P0 j)) (fun j => elQ L fQ (rtG S r i r0 L0 P0 j)) w w' e := by
  obtain ⟨nb, nnb, ncb, tb, tnb, tcb, hcs0, _⟩ := h0.form
  subst hcs0
  obtain ⟨na, nn, nc, ta, tn, tc, hcs, _⟩ := h.form
  subst hcs
  obtain ⟨h8, hax⟩ := sh_ax hsh
  have H0 := Lib.hid h0
  have H := Lib.hid h
  have WH := fun wz h => whole8_any (arrC ch0 ((r0 : Int) - 1) (dm S0 r0) nb nnb ncb tb tnb tcb) S0 r0 ch0 L0 g0 P0 Q0 wz h hQ0 hL0
  have ST := Lib.hid (fun wz h => still_any (arrC ch ((r : Int) - 1) (dm S r) na nn nc ta tn tc) S r ch L g fP fQ i wz h h8)
  have AX := Lib.hid (fun wz h => moAxis_any (arrC ch ((r : Int) - 1) (dm S r) na nn nc ta tn tc) S r ch L g fP fQ i wz h h8)
  have BB := Lib.hid ((((Bag.start w).newRow (arrC ch0 ((r0 : Int) - 1) (dm S0 r0) nb nnb ncb tb tnb tcb) 34).newRow (arrC ch ((r : Int) - 1) (dm S r) na nn nc ta tn tc) 34).newRow zerC 34)
  simp only [World.size_alloc] at BB
  have HR1 := Lib.hid BB.out.now.2.2.1
  have HNO : Hid (∀ E S r ch L g fP fQ wz, E ≠ 0 → Below w.heap.size w wz → MoTold E S r ch L g fP fQ w (wz.setRow (w.heap.size + 1 + 1) zerC) (.returned (.tuple #[.agg zerC, .int .i64 E]))) := Lib.hid (fun E S r ch L g fP fQ wz hE hb => MoTold.no hE (below_put hb (show w.heap.size ≤ w.heap.size + 1 + 1 by omega) zerC))
  unfold rtE
  have HDST : Hid (stB r i = true → ∀ wz, Below w.heap.size w wz → Arr wz (arrC ch ((r : Int) - 1) (dm S r) na nn nc ta tn tc) S r ch L (fun j => elC L g 32 (rtG S r i r0 L0 P0 j)) (fun j => elP L fP (rtG S r i r0 L0 P0 j)) (fun j => elQ L fQ (rtG S r i r0 L0 P0 j))) := Lib.hid (fun e wz hb => (H.out.below hb).self (fun j _ => by unfold rtG rvG; rw [e, if_pos rfl]))
  cases hwh : whC ch0 L0 P0 Q0 with
  | false =>
    rw [if_neg (by decide)]
    rw [hwh] at WH
    have WH := Lib.hid (fun wz h => (WH wz h).mono (fun _ _ hw => WhTold.no hw))
    generalize (fun j => elC L g 32 (rtG S r i r0 L0 P0 j)) = eC at *
    generalize (fun j => elP L fP (rtG S r i r0 L0 P0 j)) = eP at *
    generalize (fun j => elQ L fQ (rtG S r i r0 L0 P0 j)) = eQ at *
    clear h0 h hr0 hQ0 hS hsh hL hLi hax hwh HDST
    unfold arrC
    go_enter Tryz.func22, Tryz.ntmps22
    go_wp2_with (refine ld_arr rfl (.tmp 3) rfl w.heap.size rfl HR1.out ?_)
    go_at_call 57
    (with_reducible refine (WH.out _ ?_).mono ?_)
    · exact H0.out.below BB.out.below
    rintro e w2 ⟨rfl, hb2⟩
    have BB := Lib.hid ((BB.out.go hb2).newRow #[.slice none 0 0] 22)
    clear hb2
    have HZ := Lib.hid (BB.out.now.2.1)
    have HE := Lib.hid (HNO.out 22 S r ch L eC eP eQ _ (by decide) BB.out.below)
    go_wp2_with (refine st_arr rfl (.tmp 6) (.tmp 20) rfl (w.heap.size + 1 + 1) rfl false 0 (fun _ => 0) none 0 0 none 0 0 rfl HZ.out rfl ?_)
    exact bodyPost_ret (res_arr2 Tryz.results22 rfl rfl (HZ.out.put _) rfl) rfl HE.out
  | true =>
    rw [if_pos rfl]
    rw [hwh] at WH
    have WH := Lib.hid (fun wz h => (WH wz h).mono (fun _ _ hw => WhTold.yes hw))
    cases hst : stB r i with
    | true =>
      rw [if_pos rfl]
      rw [hst] at ST
      have HSELF := Lib.hid (HDST.out hst)
      generalize (fun j => elC L g 32 (rtG S r i r0 L0 P0 j)) = eC at *
      generalize (fun j => elP L fP (rtG S r i r0 L0 P0 j)) = eP at *
      generalize (fun j => elQ L fQ (rtG S r i r0 L0 P0 j)) = eQ at *
      clear h0 h hr0 hQ0 hS hsh hL hLi hax hwh HDST hst
      by_cases h1 : L0 = 1
      · rw [if_pos h1]
        have d1 : ((L0 : Int) != 1) = false := by rw [h1]; rfl
        clear h1
        unfold arrC
        go_enter Tryz.func22, Tryz.ntmps22
        go_wp2_with (refine ld_arr rfl (.tmp 3) rfl w.heap.size rfl HR1.out ?_)
        go_at_call 57
        (with_reducible refine (WH.out _ ?_).mono ?_)
        · exact H0.out.below BB.out.below
        rintro e w2 ⟨a8, c8, rfl, hk9, hb2⟩
        have BB := Lib.hid (((BB.out.go hb2).krow hk9).newRow #[.slice a8 L0 c8] 22)
        have HR2 := Lib.hid BB.out.now.2.2.2.1
        clear hk9 hb2
        go_wp2_with (refine ld_arr rfl (.tmp 4) rfl (w.heap.size + 1) rfl HR2.out ?_)
        go_at_call 52
        (with_reducible refine (ST.out _ ?_).mono ?_)
        · exact H.out.below BB.out.below
        rintro e w3 ⟨rfl, hb3⟩
        have BB := Lib.hid (BB.out.go hb3)
        clear hb3
        have HR3 := Lib.hid BB.out.now.2.2.2.1
        have HZ := Lib.hid BB.out.now.2.2.1
        have HE := Lib.hid (MoTold.yes ((HSELF.out _ BB.out.below).put HZ.out (arrC ch ((r : Int) - 1) (dm S r) na nn nc ta tn tc)) (below_put BB.out.below (show w.heap.size ≤ w.heap.size + 1 + 1 by omega) (arrC ch ((r : Int) - 1) (dm S r) na nn nc ta tn tc)))
        have hc8 := BB.out.now.1.cell 0
        go_wp2_with (first
          | (refine ld_arr rfl (.tmp 4) rfl (w.heap.size + 1) rfl HR3.out ?_)
          | (refine st_arr rfl (.tmp 6) (.tmp 28) rfl (w.heap.size + 1 + 1) rfl _ _ _ _ _ _ _ _ _ rfl HZ.out rfl ?_))
        exact bodyPost_ret (res_arr2 Tryz.results22 rfl rfl (HZ.out.put _) rfl) rfl HE.out
      · rw [if_neg h1]
        have d1 : ((L0 : Int) != 1) = true := bne_iff_ne.2 (by omega)
        clear h1
        unfold arrC
        go_enter Tryz.func22, Tryz.ntmps22
        go_wp2_with (refine ld_arr rfl (.tmp 3) rfl w.heap.size rfl HR1.out ?_)
        go_at_call 57
        (with_reducible refine (WH.out _ ?_).mono ?_)
        · exact H0.out.below BB.out.below
        rintro e w2 ⟨a8, c8, rfl, hk9, hb2⟩
        have BB := Lib.hid (((BB.out.go hb2).krow hk9).newRow #[.slice a8 L0 c8] 22)
        have HR2 := Lib.hid BB.out.now.2.2.2.1
        clear hk9 hb2
        go_wp2_with (refine ld_arr rfl (.tmp 4) rfl (w.heap.size + 1) rfl HR2.out ?_)
        go_at_call 52
        (with_reducible refine (ST.out _ ?_).mono ?_)
        · exact H.out.below BB.out.below
        rintro e w3 ⟨rfl, hb3⟩
        have BB := Lib.hid (BB.out.go hb3)
        clear hb3
        have hc8 := BB.out.now.1.cell 0
        have HZ := Lib.hid (BB.out.now.2.2.1)
        have HE := Lib.hid (HNO.out 23 S r ch L eC eP eQ _ (by decide) BB.out.below)
        go_wp2_with (refine st_arr rfl (.tmp 6) (.tmp 27) rfl (w.heap.size + 1 + 1) rfl false 0 (fun _ => 0) none 0 0 none 0 0 rfl HZ.out rfl ?_)
        exact bodyPost_ret (res_arr2 Tryz.results22 rfl rfl (HZ.out.put _) rfl) rfl HE.out
    | false =>
      rw [if_neg (by decide)]
      rw [hst] at ST
      cases hq : axQ r i with
      | false =>
        rw [if_neg (by decide)]
        rw [hq] at AX
        generalize (fun j => elC L g 32 (rtG S r i r0 L0 P0 j)) = eC at *
        generalize (fun j => elP L fP (rtG S r i r0 L0 P0 j)) = eP at *
        generalize (fun j => elQ L fQ (rtG S r i r0 L0 P0 j)) = eQ at *
        generalize axI r i = x at *
        clear h0 h hr0 hQ0 hS hsh hL hLi hax hwh HDST hst hq
        unfold arrC
        go_enter Tryz.func22, Tryz.ntmps22
        go_wp2_with (refine ld_arr rfl (.tmp 3) rfl w.heap.size rfl HR1.out ?_)
        go_at_call 57
        (with_reducible refine (WH.out _ ?_).mono ?_)
        · exact H0.out.below BB.out.below
        rintro e w2 ⟨a8, c8, rfl, hk9, hb2⟩
        have BB := Lib.hid (((BB.out.go hb2).krow hk9).newRow #[.slice a8 L0 c8] 22)
        have HR2 := Lib.hid BB.out.now.2.2.2.1
        clear hk9 hb2
        go_wp2_with (refine ld_arr rfl (.tmp 4) rfl (w.heap.size + 1) rfl HR2.out ?_)
        go_at_call 52
        (with_reducible refine (ST.out _ ?_).mono ?_)
        · exact H.out.below BB.out.below
        rintro e w3 ⟨rfl, hb3⟩
        have BB := Lib.hid (BB.out.go hb3)
        clear hb3
        have HR3 := Lib.hid BB.out.now.2.2.2.1
        go_wp2_with (refine ld_arr rfl (.tmp 4) rfl (w.heap.size + 1) rfl HR3.out ?_)
        go_at_call 10
        (with_reducible refine (AX.out _ ?_).mono ?_)
        · exact H.out.below BB.out.below
        rintro e w4 ⟨rfl, hb4⟩
        have BB := Lib.hid (BB.out.go hb4)
        clear hb4
        have HZ := Lib.hid (BB.out.now.2.2.1)
        have HE := Lib.hid (HNO.out 23 S r ch L eC eP eQ _ (by decide) BB.out.below)
        go_wp2_with (refine st_arr rfl (.tmp 6) (.tmp 37) rfl (w.heap.size + 1 + 1) rfl false 0 (fun _ => 0) none 0 0 none 0 0 rfl HZ.out rfl ?_)
        exact bodyPost_ret (res_arr2 Tryz.results22 rfl rfl (HZ.out.put _) rfl) rfl HE.out
      | true =>
        rw [if_pos rfl]
        rw [hq] at AX
        obtain ⟨k, hk, hkr⟩ := axQ_yes hq
        have hin : In64 P0 L0 := whC_in hwh
        have hsk0 := ax_nn hax hkr
        have hsk : S k ≤ 4096 := by
          have h1 := ax_bd (ax_le (show k + 1 ≤ r by omega) hax)
          have h2 := rm_pos S k
          have h3 : 1 * max (S k) 1 ≤ rm S k * max (S k) 1 := Int.mul_le_mul h2 (Int.le_refl _) (by omega) (by omega)
          have h4 : rm S (k + 1) = rm S k * max (S k) 1 := rfl
          omega
        obtain ⟨N, hN⟩ : ∃ N : Nat, S k = N := ⟨(S k).toNat, by omega⟩
        have hrt : rtG S r i r0 L0 P0 = alG S r k (rotF (rtT r0 L0 P0) N) := by
          funext j
          unfold rtG rvG
          rw [hst, if_neg (by decide), hk, show ((k : Nat) : Int).toNat = k from rfl, show (S k).toNat = N by omega]
        rw [hrt, hk, show ((k : Nat) : Int).toNat = k from rfl]
        rw [hk] at AX
        have SG := Lib.hid (fun wz h => single_any (arrC ch0 ((r0 : Int) - 1) (dm S0 r0) nb nnb ncb tb tnb tcb) S0 r0 ch0 L0 g0 P0 Q0 wz h hr0)
        have SH := Lib.hid (fun wz h => shape8_any (arrC ch ((r : Int) - 1) (dm S r) na nn nc ta tn tc) S r ch L g fP fQ wz h h8)
        have ENR := Lib.hid ent_rot3
        have AL := Lib.hid (fun cp wz (q : Arr wz (arrC ch ((r : Int) - 1) (dm S r) na nn nc ta tn tc) S r ch L g fP fQ) z => along_any 63 cp ENR.out (arrC ch ((r : Int) - 1) (dm S r) na nn nc ta tn tc) S r ch L g fP fQ k L (rotF (rtT r0 L0 P0) N) wz q hS hsh hL hkr (fun row i _ hi => by have := rotF_in (rtT r0 L0 P0) (N := N) (by omega) row i; omega) z)
        have HSK : Hid (S k = (N : Int)) := hN
        have d0 : (0 : Int) ≤ k := by omega
        have d2 : (k : Int) < r := by omega
        cases hsg : sgB r0 L0 with
        | true =>
          rw [if_pos rfl]
          rw [hsg] at SG
          have hl1 : L0 = 1 := by
            unfold sgB at hsg
            rw [Bool.and_eq_true, decide_eq_true_eq, decide_eq_true_eq] at hsg
            exact hsg.2
          have HG3 : Hid (∀ wz g1 g2 g8 a8 c8, wz.cell? ⟨g8, 0, none⟩ = some (.slice a8 L0 c8) → g8 < wz.heap.size → KRow wz .i64 a8 L0 c8 P0 → wz.cell? ⟨g1, 0, none⟩ = some (.func (.func 60) #[] #[.pointer (some ⟨g8, 0, none⟩)]) → g1 < wz.heap.size → wz.cell? ⟨g2, 0, none⟩ = some (.int .i64 (N : Nat)) → g2 < wz.heap.size →
              Gives2 63 #[.pointer (some ⟨g1, 0, none⟩), .pointer (some ⟨g2, 0, none⟩)] (rotF (rtT r0 L0 P0) N) (itm (outF S k) (r - 1)).toNat (S k).toNat wz) := Lib.hid (fun wz g1 g2 g8 a8 c8 q1 q2 q3 q4 q5 q6 q7 => by
            have e1 : rtT r0 L0 P0 = fun _ => P0 0 := by unfold rtT; rw [hsg, if_pos rfl]
            rw [e1, show (S k).toNat = N by omega]
            exact rot3_any 60 _ ent_rot2 (fun _ => P0 0) _ N g1 g2 wz (by omega) q4 q5 q6 q7 (rot2_any _ g8 a8 L0 c8 P0 wz q1 q2 q3 (by omega)))
          generalize (fun j => elC L g 32 (alG S r k (rotF (rtT r0 L0 P0) N) j)) = eC at *
          generalize (fun j => elP L fP (alG S r k (rotF (rtT r0 L0 P0) N) j)) = eP at *
          generalize (fun j => elQ L fQ (alG S r k (rotF (rtT r0 L0 P0) N) j)) = eQ at *
          clear h0 h hr0 hQ0 hS hsh hL hLi hax hwh HDST hst hq hin hsk0 hsk hN hrt hk ENR hsg hl1
          unfold arrC
          go_enter Tryz.func22, Tryz.ntmps22
          go_wp2_with (refine ld_arr rfl (.tmp 3) rfl w.heap.size rfl HR1.out ?_)
          go_at_call 57
          (with_reducible refine (WH.out _ ?_).mono ?_)
          · exact H0.out.below BB.out.below
          rintro e w2 ⟨a8, c8, rfl, hk9, hb2⟩
          have BB := Lib.hid (((BB.out.go hb2).krow hk9).newRow #[.slice a8 L0 c8] 22)
          have HR2 := Lib.hid BB.out.now.2.2.2.1
          clear hk9 hb2
          go_wp2_with (refine ld_arr rfl (.tmp 4) rfl (w.heap.size + 1) rfl HR2.out ?_)
          go_at_call 52
          (with_reducible refine (ST.out _ ?_).mono ?_)
          · exact H.out.below BB.out.below
          rintro e w3 ⟨rfl, hb3⟩
          have BB := Lib.hid (BB.out.go hb3)
          clear hb3
          have HR3 := Lib.hid BB.out.now.2.2.2.1
          go_wp2_with (refine ld_arr rfl (.tmp 4) rfl (w.heap.size + 1) rfl HR3.out ?_)
          go_at_call 10
          (with_reducible refine (AX.out _ ?_).mono ?_)
          · exact H.out.below BB.out.below
          rintro e w4 ⟨rfl, hb4⟩
          have BB := Lib.hid (BB.out.go hb4)
          clear hb4
          have hs4 := BB.out.below.size
          have BB := Lib.hid (BB.out.newRow #[.func (.func 58) #[] #[.pointer (some ⟨w2.heap.size, 0, none⟩)]] 83)
          have HR4 := Lib.hid BB.out.now.2.2.2.2.2.1
          go_wp2_with (refine ld_arr rfl (.tmp 3) rfl w.heap.size rfl HR4.out ?_)
          go_at_call 59
          (with_reducible refine (SG.out _ ?_).mono ?_)
          · exact H0.out.below BB.out.below
          rintro e w5 ⟨rfl, hb5⟩
          have BB := Lib.hid (BB.out.go hb5)
          clear hb5
          have r10 := BB.out.now.1
          have l10 := r10.lt
          have c10 := r10.cell 0
          have f10 := r10.free 0
          have BD : Bag w (fun _ => True) (w5.setCell ⟨w4.heap.size, 0, none⟩ (.func (.func 60) #[] #[.pointer (some ⟨w2.heap.size, 0, none⟩)])) := ⟨BB.out.below.setCell (p := ⟨w4.heap.size, 0, none⟩) hs4 _, fun _ _ _ _ => trivial, trivial⟩
          have n1 := BB.out.now.2.2.2.2.2.1.ne r10 (by decide)
          have n2 := BB.out.now.2.2.2.2.1.ne r10 (by decide)
          have n3 := BB.out.now.2.2.2.1.ne r10 (by decide)
          have n4 := BB.out.now.2.1.ne r10 (by decide)
          have BB := Lib.hid ((((((BD.row (BB.out.now.2.2.2.2.2.1.far (a := ⟨w4.heap.size, 0, none⟩) n1 _)).row (BB.out.now.2.2.2.2.1.far (a := ⟨w4.heap.size, 0, none⟩) n2 _)).row (BB.out.now.2.2.2.1.far (a := ⟨w4.heap.size, 0, none⟩) n3 _)).krow (BB.out.now.2.2.1.setAt c10 (fun _ h => by cases h) _)).row (BB.out.now.2.1.far (a := ⟨w4.heap.size, 0, none⟩) n4 _)).row (r10.set 0 (.func (.func 60) #[] #[.pointer (some ⟨w2.heap.size, 0, none⟩)])))
          clear BD n1 n2 n3 n4 r10
          have HR6 := Lib.hid BB.out.now.2.2.2.2.1
          go_wp2_with (refine ld_arr rfl (.tmp 4) rfl (w.heap.size + 1) rfl HR6.out ?_)
          go_at_call 38
          (with_reducible refine (SH.out _ ?_).mono ?_)
          · exact H.out.below BB.out.below
          rintro e w7 ⟨a7, c7, rfl, hk7, hb7⟩
          obtain ⟨b, off, rfl, hlt, hcl⟩ := hk7.get hkr
          rw [HSK.out] at hcl
          have BB := Lib.hid ((BB.out.go hb7).newRow #[.int .i64 (N : Nat)] 3)
          have HR7 := Lib.hid BB.out.now.2.2.2.2.2.1
          clear hb7 hk7
          go_wp2_with (refine ld_arr rfl (.tmp 4) rfl (w.heap.size + 1) rfl HR7.out ?_)
          go_at_call 53
          (refine (AL.out _ _ (H.out.below BB.out.below) (HG3.out _ _ _ _ _ _ (BB.out.now.2.2.1.cell 0) BB.out.now.2.2.1.lt BB.out.now.2.2.2.1 (BB.out.now.2.1.cell 0) BB.out.now.2.1.lt (BB.out.now.1.cell 0) BB.out.now.1.lt)).mono ?_)
          rintro e w8 ⟨cs8, rfl, hcs8, hb8⟩
          have B8 := BB.out.go hb8
          have HZ := Lib.hid B8.now.2.2.2.2.1
          have HE := Lib.hid (MoTold.yes (hcs8.put HZ.out cs8) (below_put B8.below (show w.heap.size ≤ w.heap.size + 1 + 1 by omega) cs8))
          obtain ⟨na3, nn3, nc3, ta3, tn3, tc3, hcs3, _⟩ := hcs8.form
          subst hcs3
          clear hcs8 hb8 B8
          unfold arrC
          go_wp2_with (refine st_arr rfl (.tmp 6) (.tmp 60) rfl (w.heap.size + 1 + 1) rfl _ _ _ _ _ _ _ _ _ rfl HZ.out rfl ?_)
          exact bodyPost_ret (res_arr2 Tryz.results22 rfl rfl (HZ.out.put _) rfl) rfl HE.out
        | false =>
          rw [if_neg (by decide)]
          rw [hsg] at SG
          have WO : Hid (∀ a c wz, KRow wz .i64 a r c S → Calls Tryz.prog 62 #[.slice a r c, .int .i64 (k : Nat)] wz fun e w' => ∃ a' c', e = .returned (.slice a' (r - 1) c') ∧ KRow w' .i64 a' (r - 1) c' (outF S k) ∧ Below wz.heap.size wz w') := Lib.hid (fun a c wz hq => (without_any a r c S (k : Nat) wz hq (by omega)).mono (by
            rintro e w' ⟨a', c', he, hk', hb⟩
            have hc : 0 ≤ ((k : Nat) : Int) ∧ ((k : Nat) : Int) < (r : Nat) := by omega
            have e1 : woN r (k : Nat) = r - 1 := by unfold woN; rw [if_pos hc]
            have e2 : woF S r (k : Nat) = outF S k := by unfold woF; rw [if_pos hc]; rfl
            rw [e1] at he hk'
            rw [e2] at hk'
            exact ⟨a', c', he, hk', hb⟩))
          have FT := Lib.hid (fun a c wz h hk => fits_any (arrC ch0 ((r0 : Int) - 1) (dm S0 r0) nb nnb ncb tb tnb tcb) S0 r0 ch0 L0 g0 P0 Q0 a (r - 1) c (outF S k) wz h hr0 hk)
          have HG3 : Hid (ftE S0 r0 (r - 1) (outF S k) = 0 → ∀ wz g1 g2 g8 a8 c8, wz.cell? ⟨g8, 0, none⟩ = some (.slice a8 L0 c8) → g8 < wz.heap.size → KRow wz .i64 a8 L0 c8 P0 → wz.cell? ⟨g1, 0, none⟩ = some (.func (.func 58) #[] #[.pointer (some ⟨g8, 0, none⟩)]) → g1 < wz.heap.size → wz.cell? ⟨g2, 0, none⟩ = some (.int .i64 (N : Nat)) → g2 < wz.heap.size →
              Gives2 63 #[.pointer (some ⟨g1, 0, none⟩), .pointer (some ⟨g2, 0, none⟩)] (rotF (rtT r0 L0 P0) N) (itm (outF S k) (r - 1)).toNat (S k).toNat wz) := Lib.hid (fun hE wz g1 g2 g8 a8 c8 q1 q2 q3 q4 q5 q6 q7 => by
            obtain ⟨e3, e4⟩ := ftE_ok hE
            have e5 : (itm (outF S k) (r - 1)).toNat = L0 := by rw [← e3, ← itm_congr e4, hLi]; rfl
            have e1 : rtT r0 L0 P0 = P0 := by unfold rtT; rw [hsg, if_neg (by decide)]
            rw [e1, e5, show (S k).toNat = N by omega]
            exact rot3_any 58 _ ent_rot1 P0 _ N g1 g2 wz (by omega) q4 q5 q6 q7 (rot1_any g8 a8 L0 c8 P0 wz q1 q2 q3))
          generalize (fun j => elC L g 32 (alG S r k (rotF (rtT r0 L0 P0) N) j)) = eC at *
          generalize (fun j => elP L fP (alG S r k (rotF (rtT r0 L0 P0) N) j)) = eP at *
          generalize (fun j => elQ L fQ (alG S r k (rotF (rtT r0 L0 P0) N) j)) = eQ at *
          generalize ftE S0 r0 (r - 1) (outF S k) = E0 at *
          clear h0 h hr0 hQ0 hS hsh hL hLi hax hwh HDST hst hq hin hsk0 hsk hN hrt hk ENR hsg
          unfold arrC
          go_enter Tryz.func22, Tryz.ntmps22
          go_wp2_with (refine ld_arr rfl (.tmp 3) rfl w.heap.size rfl HR1.out ?_)
          go_at_call 57
          (with_reducible refine (WH.out _ ?_).mono ?_)
          · exact H0.out.below BB.out.below
          rintro e w2 ⟨a8, c8, rfl, hk9, hb2⟩
          have BB := Lib.hid (((BB.out.go hb2).krow hk9).newRow #[.slice a8 L0 c8] 22)
          have HR2 := Lib.hid BB.out.now.2.2.2.1
          clear hk9 hb2
          go_wp2_with (refine ld_arr rfl (.tmp 4) rfl (w.heap.size + 1) rfl HR2.out ?_)
          go_at_call 52
          (with_reducible refine (ST.out _ ?_).mono ?_)
          · exact H.out.below BB.out.below
          rintro e w3 ⟨rfl, hb3⟩
          have BB := Lib.hid (BB.out.go hb3)
          clear hb3
          have HR3 := Lib.hid BB.out.now.2.2.2.1
          go_wp2_with (refine ld_arr rfl (.tmp 4) rfl (w.heap.size + 1) rfl HR3.out ?_)
          go_at_call 10
          (with_reducible refine (AX.out _ ?_).mono ?_)
          · exact H.out.below BB.out.below
          rintro e w4 ⟨rfl, hb4⟩
          have BB := Lib.hid (BB.out.go hb4)
          clear hb4
          have hs4 := BB.out.below.size
          have BB := Lib.hid (BB.out.newRow #[.func (.func 58) #[] #[.pointer (some ⟨w2.heap.size, 0, none⟩)]] 83)
          have HR4 := Lib.hid BB.out.now.2.2.2.2.2.1
          go_wp2_with (refine ld_arr rfl (.tmp 3) rfl w.heap.size rfl HR4.out ?_)
          go_at_call 59
          (with_reducible refine (SG.out _ ?_).mono ?_)
          · exact H0.out.below BB.out.below
          rintro e w5 ⟨rfl, hb5⟩
          have BB := Lib.hid (BB.out.go hb5)
          clear hb5
          go_wp2_with fail
          refine wp_region_inv2 ⟨(fun j => ([[42], [43], [44], [45], [46], [47], [11]] : List (List Nat)).getD j []), (fun j => ([[], [], [1], [], [1, 2, 3], [0, 1, 2, 3, 4], [0, 1, 2, 3, 4, 5]] : List (List Nat)).getD j []), []⟩ (fun jj vv yy => match jj with | 0 => vv = [some (.agg (arrC ch0 ((r0 : Int) - 1) (dm S0 r0) nb nnb ncb tb tnb tcb))] | 1 => vv = [some (.agg (arrC ch ((r : Int) - 1) (dm S r) na nn nc ta tn tc))] | 2 => ∃ (a2 : Option Addr), ∃ (c2 : Nat), vv = [some (.slice a2 r c2)] ∧ KRow yy .i64 a2 r c2 S | 3 => vv = [some (.int .i64 k)] | 4 => ∃ (a4 : Option Addr), ∃ (c4 : Nat), vv = [some (.slice a4 (r - 1) c4)] ∧ KRow yy .i64 a4 (r - 1) c4 (outF S k) | 5 => vv = [some (.int .i64 E0)] | 6 => vv = [some (.int .i64 E0)] | _ => True) (Bag w5 (fun _ => True)) (by kernel_rfl) (by kernel_rfl) (by kernel_rfl) (Bag.start w5).drew ?_ ?_ ?_
          · intro jj vv yw yw2 hb h
            match jj, h with
            | 0, h => exact h
            | 1, h => exact h
            | 2, ⟨a2, c2, e2, g2_0⟩ => exact Exists.intro a2 (Exists.intro c2 (And.intro e2 (g2_0.below hb)))
            | 3, h => exact h
            | 4, ⟨a4, c4, e4, g4_0⟩ => exact Exists.intro a4 (Exists.intro c4 (And.intro e4 (g4_0.below hb)))
            | 5, h => exact h
            | 6, h => exact h
            | _ + 7, h => exact h
          · intro ac yw hsz hdf hold hB hp
            have t11 : ac.tmps[11]? = some (.int .i64 E0) := (List.cons.inj (hp 6 (by decide))).1
            have BB := Lib.hid (BB.out.go hB.below)
            have t2 : ac.tmps[2]? = some (.int .i64 k) := hold 2 (by kernel_rfl)
            have t3 : ac.tmps[3]? = some (.pointer (some ⟨w.heap.size, 0, none⟩)) := hold 3 (by kernel_rfl)
            have t4 : ac.tmps[4]? = some (.pointer (some ⟨w.heap.size + 1, 0, none⟩)) := hold 4 (by kernel_rfl)
            have t6 : ac.tmps[6]? = some (.pointer (some ⟨w.heap.size + 1 + 1, 0, none⟩)) := hold 6 (by kernel_rfl)
            have t10 : ac.tmps[10]? = some (.pointer (some ⟨w4.heap.size, 0, none⟩)) := hold 10 (by kernel_rfl)
            clear hold hp
            obtain ⟨TW, hTW⟩ : ∃ TW : Nat → Value, ∀ i, (ac.tmps[i]?).getD undef = TW i := ⟨_, fun _ => rfl⟩
            have f2 := (hTW 2).symm.trans (congrArg (fun x => Option.getD x undef) t2)
            have f3 := (hTW 3).symm.trans (congrArg (fun x => Option.getD x undef) t3)
            have f4 := (hTW 4).symm.trans (congrArg (fun x => Option.getD x undef) t4)
            have f6 := (hTW 6).symm.trans (congrArg (fun x => Option.getD x undef) t6)
            have f10 := (hTW 10).symm.trans (congrArg (fun x => Option.getD x undef) t10)
            have f11 := (hTW 11).symm.trans (congrArg (fun x => Option.getD x undef) t11)
            have hac := act_eq (n := 61) hsz TW hTW
            rw [show ((List.range 61).map TW).toArray = #[TW 0, TW 1, TW 2, TW 3, TW 4, TW 5, TW 6, TW 7, TW 8, TW 9, TW 10, TW 11, TW 12, TW 13, TW 14, TW 15, TW 16, TW 17, TW 18, TW 19, TW 20, TW 21, TW 22, TW 23, TW 24, TW 25, TW 26, TW 27, TW 28, TW 29, TW 30, TW 31, TW 32, TW 33, TW 34, TW 35, TW 36, TW 37, TW 38, TW 39, TW 40, TW 41, TW 42, TW 43, TW 44, TW 45, TW 46, TW 47, TW 48, TW 49, TW 50, TW 51, TW 52, TW 53, TW 54, TW 55, TW 56, TW 57, TW 58, TW 59, TW 60] from rfl, f2, f3, f4, f6, f10, f11, hdf] at hac
            simp only [Option.getD_some] at hac
            subst hac
            clear hTW f2 f3 f4 f6 f10 f11
            by_cases hE : E0 = 0
            · subst hE
              have HG4 := Lib.hid (HG3.out rfl)
              have HR6 := Lib.hid BB.out.now.2.2.2.2.1
              go_wp2_with (refine ld_arr rfl (.tmp 4) rfl (w.heap.size + 1) rfl HR6.out ?_)
              go_at_call 38
              (with_reducible refine (SH.out _ ?_).mono ?_)
              · exact H.out.below BB.out.below
              rintro e w7 ⟨a7, c7, rfl, hk7, hb7⟩
              obtain ⟨b, off, rfl, hlt, hcl⟩ := hk7.get hkr
              rw [HSK.out] at hcl
              have BB := Lib.hid ((BB.out.go hb7).newRow #[.int .i64 (N : Nat)] 3)
              have HR7 := Lib.hid BB.out.now.2.2.2.2.2.1
              clear hb7 hk7
              go_wp2_with (refine ld_arr rfl (.tmp 4) rfl (w.heap.size + 1) rfl HR7.out ?_)
              go_at_call 53
              (refine (AL.out _ _ (H.out.below BB.out.below) (HG4.out _ _ _ _ _ _ (BB.out.now.2.2.1.cell 0) BB.out.now.2.2.1.lt BB.out.now.2.2.2.1 (BB.out.now.2.1.cell 0) BB.out.now.2.1.lt (BB.out.now.1.cell 0) BB.out.now.1.lt)).mono ?_)
              rintro e w8 ⟨cs8, rfl, hcs8, hb8⟩
              have B8 := BB.out.go hb8
              have HZ := Lib.hid B8.now.2.2.2.2.1
              have HE := Lib.hid (MoTold.yes (hcs8.put HZ.out cs8) (below_put B8.below (show w.heap.size ≤ w.heap.size + 1 + 1 by omega) cs8))
              obtain ⟨na3, nn3, nc3, ta3, tn3, tc3, hcs3, _⟩ := hcs8.form
              subst hcs3
              clear hcs8 hb8 B8
              unfold arrC
              go_wp2_with (refine st_arr rfl (.tmp 6) (.tmp 60) rfl (w.heap.size + 1 + 1) rfl _ _ _ _ _ _ _ _ _ rfl HZ.out rfl ?_)
              exact bodyPost_ret (res_arr2 Tryz.results22 rfl rfl (HZ.out.put _) rfl) rfl HE.out
            · have dE : (E0 != 0) = true := bne_iff_ne.2 hE
              have HEE := Lib.hid hE
              clear hE
              have HZ := Lib.hid (BB.out.now.2.2.2.1)
              have HE := Lib.hid (HNO.out E0 S r ch L eC eP eQ _ HEE.out BB.out.below)
              go_wp2_with (refine st_arr rfl (.tmp 6) (.tmp 50) rfl (w.heap.size + 1 + 1) rfl false 0 (fun _ => 0) none 0 0 none 0 0 rfl HZ.out rfl ?_)
              exact bodyPost_ret (res_arr2 Tryz.results22 rfl rfl (HZ.out.put _) rfl) rfl HE.out
          refine Stps2.cons (o := _) ?_ ?_
          · intro ac yw hsz hold hB hp K hK
            have t3 : ac.tmps[3]? = some (.pointer (some ⟨w.heap.size, 0, none⟩)) := hold 3 (by kernel_rfl)
            clear hold hp hsz
            rw [if_pos (by rfl)]
            refine ld8 3 rfl (w.heap.size) ((arrC ch0 ((r0 : Int) - 1) (dm S0 r0) nb nnb ncb tb tnb tcb)) t3 ((BB.out.go hB.below).now.2.2.2.2.2.1) (rfl) ?_
            exact hK.out _ _ ⟨hB, rfl, Nat.le_refl _, .inl (Below.refl _ _), fun h => absurd h (by decide)⟩
          refine Stps2.cons (o := _) ?_ ?_
          · intro ac yw hsz hold hB hp K hK
            have t4 : ac.tmps[4]? = some (.pointer (some ⟨w.heap.size + 1, 0, none⟩)) := hold 4 (by kernel_rfl)
            clear hold hp hsz
            rw [if_pos (by rfl)]
            refine ld8 4 rfl (w.heap.size + 1) ((arrC ch ((r : Int) - 1) (dm S r) na nn nc ta tn tc)) t4 ((BB.out.go hB.below).now.2.2.2.2.1) (rfl) ?_
            exact hK.out _ _ ⟨hB, rfl, Nat.le_refl _, .inl (Below.refl _ _), fun h => absurd h (by decide)⟩
          refine Stps2.cons (o := _) ?_ ?_
          · intro ac yw hsz hold hB hp K hK
            have e1 := hp 1 (by decide)
            have t43 : ac.tmps[43]? = some (.agg (arrC ch ((r : Int) - 1) (dm S r) na nn nc ta tn tc)) := (List.cons.inj e1).1
            clear hold hp hsz e1
            go_simp
            (go_at_call 38; (with_reducible refine (SH.out _ (H.out.below (BB.out.go hB.below).below)).mono ?_); rintro e wz ⟨a2, c2, rfl, h2_0, hbz⟩)
            exact hK.out _ _ ⟨hB.go hbz, Exists.intro a2 (Exists.intro c2 (And.intro rfl h2_0)), hbz.size, .inl hbz, fun h => absurd h (by decide)⟩
          refine Stps2.cons (o := _) ?_ ?_
          · intro ac yw hsz hold hB hp K hK
            have t2 : ac.tmps[2]? = some (.int .i64 k) := hold 2 (by kernel_rfl)
            clear hold hp hsz
            go_simp
            exact hK.out _ _ ⟨hB, rfl, Nat.le_refl _, .inl (Below.refl _ _), fun h => absurd h (by decide)⟩
          refine Stps2.cons (o := _) ?_ ?_
          · intro ac yw hsz hold hB hp K hK
            obtain ⟨a2_2, c2_2, e2, g2_0⟩ := hp 2 (by decide)
            have t44 : ac.tmps[44]? = some (.slice a2_2 r c2_2) := (List.cons.inj e2).1
            have e3 := hp 3 (by decide)
            have t45 : ac.tmps[45]? = some (.int .i64 k) := (List.cons.inj e3).1
            clear hold hp hsz e2 e3
            go_simp
            (go_at_call 62; (with_reducible refine (WO.out _ _ _ g2_0).mono ?_); rintro e wz ⟨a4, c4, rfl, h4_0, hbz⟩)
            exact hK.out _ _ ⟨hB.go hbz, Exists.intro a4 (Exists.intro c4 (And.intro rfl h4_0)), hbz.size, .inl hbz, fun h => absurd h (by decide)⟩
          refine Stps2.cons (o := _) ?_ ?_
          · intro ac yw hsz hold hB hp K hK
            have e0 := hp 0 (by decide)
            have t42 : ac.tmps[42]? = some (.agg (arrC ch0 ((r0 : Int) - 1) (dm S0 r0) nb nnb ncb tb tnb tcb)) := (List.cons.inj e0).1
            obtain ⟨a4_4, c4_4, e4, g4_0⟩ := hp 4 (by decide)
            have t46 : ac.tmps[46]? = some (.slice a4_4 (r - 1) c4_4) := (List.cons.inj e4).1
            clear hold hp hsz e0 e4
            go_simp
            (go_at_call 61; (with_reducible refine (FT.out _ _ _ (H0.out.below (BB.out.go hB.below).below) g4_0).mono ?_); rintro e wz ⟨rfl, hbz⟩)
            exact hK.out _ _ ⟨hB.go hbz, rfl, hbz.size, .inl hbz, fun h => absurd h (by decide)⟩
          refine Stps2.cons (o := _) ?_ ?_
          · intro ac yw hsz hold hB hp K hK
            have e5 := hp 5 (by decide)
            have t47 : ac.tmps[47]? = some (.int .i64 E0) := (List.cons.inj e5).1
            clear hold hp hsz e5
            go_simp
            exact hK.out _ _ ⟨hB, rfl, Nat.le_refl _, .inl (Below.refl _ _), fun h => absurd h (by decide)⟩
          exact Stps2.nil _
end Go.Proofs.YtkljpofljkgkdaaGreatDoor

namespace Go.Proofs.YtkljpofljkgkdaaGreatDoor
open Go.RowKit
/-- How many axes there are up to the greatest one. -/
def cnN (f : Nat → Int) : Nat → Int
  | 0 => 0
  | k + 1 => max (cnN f k) (f k + 1)
theorem cnN_bd {f : Nat → Int} {B : Int} (hB : 0 ≤ B) : ∀ {n : Nat}, (∀ j, j < n → f j + 1 ≤ B) → 0 ≤ cnN f n ∧ cnN f n ≤ B
  | 0, _ => ⟨Int.le_refl _, hB⟩
  | n + 1, h => by
    obtain ⟨h1, h2⟩ := cnN_bd (f := f) hB (n := n) (fun j hj => h j (by omega))
    have h3 := h n (by omega)
    show 0 ≤ max (cnN f n) (f n + 1) ∧ max (cnN f n) (f n + 1) ≤ B
    omega
theorem cnN_gt {f : Nat → Int} : ∀ {n j : Nat}, j < n → f j < cnN f n
  | n + 1, j, hj => by
    show f j < max (cnN f n) (f n + 1)
    rcases Nat.lt_or_ge j n with h | h
    · have := cnN_gt (f := f) h
      omega
    · obtain rfl : j = n := by omega
      omega
set_option maxHeartbeats 1600000 in
set_option maxRecDepth 100000 in
theorem mcount_any (a : Option Addr) (n c : Nat) (f : Nat → Int) (w : World) (h : KRow w .i64 a n c f) (hf : ∀ j, j < n → 0 ≤ f j ∧ f j ≤ 4096) :
    Calls Tryz.prog 97 #[.slice a n c] w fun e w' => e = .returned (.int .i64 (cnN f n)) ∧ w = w' := by
  have hl := h.len
  have H1 := Lib.hid h
  have HF := Lib.hid hf
  have HC := Lib.hid (fun k (hk : k ≤ n) => cnN_bd (f := f) (B := 4097) (by omega) (n := k) (fun j hj => by have := hf j (by omega); omega))
  clear h hf
  go_enter Tryz.func97, Tryz.ntmps97
  go_wp2_with fail
  go_loopw [3, 8] (fun s i wr => ∃ k : Nat, k ≤ n ∧ i = .int .i64 k ∧ s = .int .i64 (cnN f k) ∧ wr = w) (fun _ i _ => n - (intOf i).toNat)
  case atStart => exact ⟨0, by omega, rfl, rfl, rfl⟩
  case round =>
    obtain ⟨k, hk, rfl, rfl, rfl⟩ := hrel
    by_cases hlt : k < n
    · obtain ⟨b, off, rfl, hb, hc⟩ := H1.out.get hlt
      have b1 := HC.out k hk
      have b2 := HF.out k hlt
      have w1 := IntWalk.i64_in (f k + 1) (by omega)
      have hm : cnN f (k + 1) = max (cnN f k) (f k + 1) := rfl
      have HM := Lib.hid hm
      clear hm
      have hk0 : (0 : Int) ≤ k := by omega
      have hk1 : (k : Int) < n := by omega
      generalize cnN f k = s at *
      generalize f k = x at *
      clear b1 b2
      go_wp2
      go_roundw
      case rel => exact ⟨k + 1, by omega, by go_num, by rw [HM.out], trivial⟩
      case measure => simp [intOf]; omega
    · obtain rfl : k = n := by omega
      go_wp2
      go_ret
      exact ⟨rfl, rfl⟩
/-- Is a number among the first? -/
def hasB (f : Nat → Int) (x : Int) : Nat → Bool
  | 0 => false
  | k + 1 => hasB f x k || decide (f k = x)
theorem hasB_no {f : Nat → Int} {x : Int} : ∀ {n : Nat}, hasB f x n = false ↔ ∀ j, j < n → f j ≠ x
  | 0 => ⟨fun _ j h => absurd h (Nat.not_lt_zero _), fun _ => rfl⟩
  | n + 1 => by
    show (hasB f x n || decide (f n = x)) = false ↔ _
    rw [Bool.or_eq_false_iff, hasB_no (n := n), decide_eq_false_iff_not]
    constructor
    · rintro ⟨h1, h2⟩ j hj
      rcases Nat.lt_or_ge j n with h | h
      · exact h1 j h
      · obtain rfl : j = n := by omega
        exact h2
    · intro h
      exact ⟨fun j hj => h j (by omega), h n (by omega)⟩
theorem hasB_yes {f : Nat → Int} {x : Int} {n : Nat} : hasB f x n = true ↔ ∃ j, j < n ∧ f j = x := by
  constructor
  · intro h
    by_cases h2 : ∃ j, j < n ∧ f j = x
    · exact h2
    · have : hasB f x n = false := hasB_no.2 (fun j hj e => h2 ⟨j, hj, e⟩)
      rw [this] at h
      cases h
  · rintro ⟨j, hj, e⟩
    cases hx : hasB f x n with
    | true => rfl
    | false => exact absurd e (hasB_no.1 hx j hj)
set_option maxHeartbeats 1600000 in
set_option maxRecDepth 100000 in
theorem indexI_any (a : Option Addr) (n c : Nat) (f : Nat → Int) (x : Int) (w : World) (h : KRow w .i64 a n c f) :
    Calls Tryz.prog 127 #[.slice a n c, .int .i64 x] w fun e w' => ∃ z, e = .returned (.int .i64 z) ∧ decide (0 ≤ z) = hasB f x n ∧ w = w' := by
  have hl := h.len
  have H1 := Lib.hid h
  clear h
  go_enter Tryz.func127, Tryz.ntmps127
  go_wp2_with fail
  go_loopw [8] (fun i wr => ∃ k : Nat, k ≤ n ∧ i = .int .i64 k ∧ Hid (wr = w ∧ hasB f x k = false)) (fun i _ => n - (intOf i).toNat)
  case atStart => exact ⟨0, by omega, rfl, rfl, rfl⟩
  case round =>
    obtain ⟨k, hk, rfl, hrel⟩ := hrel
    obtain ⟨rfl, hsm⟩ := hrel.out
    by_cases hlt : k < n
    · obtain ⟨b, off, rfl, hb, hc⟩ := H1.out.get hlt
      have hk0 : (0 : Int) ≤ k := by omega
      have hk1 : (k : Int) < n := by omega
      by_cases hq : f k = x
      · have HN := Lib.hid (hasB_yes.2 ⟨k, hlt, hq⟩)
        rw [hq] at hc
        have dq : (x == x) = true := beq_self_eq_true x
        clear hsm hrel hq
        go_wp2
        go_ret
        exact ⟨_, rfl, by rw [HN.out, decide_eq_true hk0], rfl⟩
      · have HN : Hid (hasB f x (k + 1) = false) := by show (hasB f x k || _) = false; rw [hsm, decide_eq_false hq]; rfl
        have dq : (x == f k) = false := beq_eq_false_iff_ne.2 (fun e => hq e.symm)
        clear hsm hrel hq
        generalize f k = y at *
        go_wp2
        go_roundw
        case rel => exact ⟨k + 1, by omega, by go_num, trivial, HN.out⟩
        case measure => simp [intOf]; omega
    · obtain rfl : k = n := by omega
      have HE : Hid (decide (0 ≤ (-1 : Int)) = hasB f x k) := by rw [hsm]; rfl
      clear hsm hrel
      go_wp2
      go_ret
      exact ⟨_, rfl, HE.out, rfl⟩
set_option maxHeartbeats 400000 in
set_option maxRecDepth 100000 in
theorem containsI_any (a : Option Addr) (n c : Nat) (f : Nat → Int) (x : Int) (w : World) (h : KRow w .i64 a n c f) :
    Calls Tryz.prog 98 #[.slice a n c, .int .i64 x] w fun e w' => e = .returned (.bool (hasB f x n)) ∧ w = w' := by
  have IX := Lib.hid (indexI_any a n c f x w h)
  clear h
  generalize hasB f x n = b at *
  go_enter Tryz.func98, Tryz.ntmps98
  go_wp2_with fail
  go_at_call 127
  (with_reducible refine (IX.out).mono ?_)
  rintro e w2 ⟨z, rfl, hz, rfl⟩
  by_cases h0 : 0 ≤ z
  · obtain rfl : b = true := by rw [← hz, decide_eq_true h0]
    clear hz
    go_wp2
    go_ret
    exact ⟨rfl, rfl⟩
  · obtain rfl : b = false := by rw [← hz, decide_eq_false h0]
    have dz : decide (0 ≤ z) = false := decide_eq_false h0
    clear hz h0
    go_wp2
    go_ret
    exact ⟨rfl, rfl⟩
end Go.Proofs.YtkljpofljkgkdaaGreatDoor

namespace Go.Proofs.YtkljpofljkgkdaaGreatDoor
open Go.RowKit
theorem dgs_zero {f : Nat → Int} : ∀ (n j : Nat), dgs f n 0 j = 0
  | 0, _ => rfl
  | n + 1, j => by
    show (if j = n then 0 % f n else dgs f n (0 / f n) j) = 0
    rw [Int.zero_emod, Int.zero_ediv, dgs_zero n j]
    split <;> rfl
theorem dgs_top {f : Nat → Int} (n : Nat) (r : Int) : dgs f (n + 1) r n = r % f n := by
  show (if n = n then _ else _) = _
  rw [if_pos rfl]
theorem dgs_low {f : Nat → Int} {n j : Nat} (r : Int) (h : j < n) : dgs f (n + 1) r j = dgs f n (r / f n) j := by
  show (if j = n then _ else _) = _
  rw [if_neg (by omega)]
/-- One more: the last number goes up, or comes to 0 and the others go up. -/
theorem next_up {d q : Int} (hd : 1 ≤ d) (h : q % d + 1 < d) : (q + 1) % d = q % d + 1 ∧ (q + 1) / d = q / d := by
  have h1 := Int.mul_ediv_add_emod q d
  have h2 := Int.emod_nonneg q (show d ≠ 0 by omega)
  have e : q + 1 = (q % d + 1) + d * (q / d) := by omega
  constructor
  · rw [e, Int.add_mul_emod_self_left]
    exact Int.emod_eq_of_lt (by omega) h
  · rw [e, Int.add_mul_ediv_left _ _ (by omega), Int.ediv_eq_zero_of_lt (by omega) h, Int.zero_add]
theorem next_over {d q : Int} (hd : 1 ≤ d) (h : q % d + 1 = d) : (q + 1) % d = 0 ∧ (q + 1) / d = q / d + 1 := by
  have h1 := Int.mul_ediv_add_emod q d
  have e : q + 1 = d * (q / d + 1) := by rw [Int.mul_add]; omega
  constructor
  · rw [e, Int.mul_emod_right]
  · rw [e, Int.mul_ediv_cancel_left _ (by omega)]
theorem IBox.wrote {w w' : World} {g n k lo hi : Nat} {h : Nat → Int} (q : IBox w g n h) (hw : Wrote k lo hi w w') (hk : g ≠ k) : IBox w' g n h :=
  ⟨Nat.lt_of_lt_of_le q.1 hw.size, q.2.1.wrote hw q.1, fun j hj => (World.cell?_of_block (w := w) (w' := w') (a := ⟨g, j, none⟩) (hw.block g q.1 hk)).trans (q.2.2 j hj)⟩
theorem IBox.drewN {w : World} {g n : Nat} {h : Nat → Int} (q : IBox w g n h) (m : Nat) : IBox (w.drewN m) g n h := q
set_option maxHeartbeats 1600000 in
set_option maxRecDepth 100000 in
theorem advance_any (a : Option Addr) (n c : Nat) (f : Nat → Int) (g c2 : Nat) (r : Int) (w0 w : World) (h : KRow w0 .i64 a n c f) (hb : Below w0.heap.size w0 w) (hg : w0.heap.size ≤ g) (hn : n ≤ 8) (hp : ∀ j, j < n → 1 ≤ f j) (hf : ∀ j, j < n → f j ≤ 4096) (hr : 0 ≤ r ∧ r < itm f n) (hx : IBox w g n (dgs f n r)) (hc : n ≤ c2 ∧ c2 ≤ maxLen) :
    Calls Tryz.prog 128 #[.slice a n c, .slice (some ⟨g, 0, none⟩) n c2] w fun e w' => e = .returned (.tuple #[]) ∧ Wrote g 0 n w w' ∧ IBox w' g n (dgs f n (r + 1)) := by
  have hl := h.len
  have H := Lib.hid h
  have HB := Lib.hid hb
  have HP := Lib.hid hp
  have HF := Lib.hid hf
  have H0 : Hid (0 ≤ r ∧ r < itm f n ∧ Wrote g 0 n w w ∧ IBox w g n (fun j => if j < n then dgs f n r j else dgs f n (r + 1) j)) :=
    Lib.hid ⟨hr.1, hr.2, Wrote.refl _ _ _ _, hx.congr (fun j hj => by rw [if_pos hj])⟩
  have hw1 := IntWalk.i64_in ((n : Int) - 1) (by omega)
  have hnn : (0 : Int) ≤ n := by omega
  obtain ⟨hc1, hc2⟩ := hc
  unfold maxLen at hc2
  clear h hb hp hf hr hx
  go_enter Tryz.func128, Tryz.ntmps128
  go_wp2_with fail
  go_loopw [4] (fun ax wr => ∃ (k : Nat) (q z : Int), k ≤ n ∧ z = (k : Int) - 1 ∧ ax = .int .i64 z ∧ Hid (0 ≤ q ∧ q < itm f k ∧ (∀ j, j < k → dgs f n r j = dgs f k q j ∧ dgs f n (r + 1) j = dgs f k (q + 1) j) ∧ Wrote g 0 n w wr ∧ IBox wr g n (fun j => if j < k then dgs f n r j else dgs f n (r + 1) j))) (fun ax _ => (intOf ax + 1).toNat)
  case atStart => exact ⟨n, r, (n : Int) - 1, Nat.le_refl _, rfl, rfl, H0.out.1, H0.out.2.1, fun _ _ => ⟨rfl, rfl⟩, H0.out.2.2⟩
  case round =>
    obtain ⟨k, q, z, hk, hz, rfl, hrel⟩ := hrel
    obtain ⟨q0, q1, hd, hwr, hbox⟩ := hrel.out
    by_cases hk0 : 0 < k
    · obtain ⟨k, rfl⟩ : ∃ k', k = k' + 1 := ⟨k - 1, by omega⟩
      obtain rfl : z = (k : Int) := by omega
      have hlt : k < n := by omega
      have hfk := HP.out k hlt
      have hfm := HF.out k hlt
      obtain ⟨u1, u2, u3, u4⟩ := quo_lt hfk q0 q1
      obtain ⟨b, off, rfl, hbl, hc0⟩ := H.out.get hlt
      have hne : b ≠ g := by omega
      have hcb := (HB.out.cell (p := ⟨b, off + k, none⟩) hbl).trans hc0
      have hlt0 : b < w.heap.size := Nat.lt_of_lt_of_le hbl HB.out.size
      have hcw := (World.cell?_of_block (w := w) (w' := wr) (a := ⟨b, off + k, none⟩) (hwr.block b hlt0 hne)).trans hcb
      have hcs : ∀ v, (wr.setCell ⟨g, k, none⟩ v).cell? ⟨b, off + k, none⟩ = some (.int .i64 (f k)) := fun v => by rw [World.cell?_setCell_other _ _ _ _ (fun e => by injection e with e; omega)]; exact hcw
      have x1 := hbox.2.2 k hlt
      simp only [show k < k + 1 by omega, if_true] at x1
      rw [(hd k (by omega)).1, dgs_top] at x1
      have x2 := hbox.2.1 k
      have hkn : (0 : Int) ≤ k := by omega
      have hkl : (k : Int) < n := by omega
      have w4 := IntWalk.i64_in ((k : Int) - 1) (by omega)
      have w5 := IntWalk.i64_in (q % f k + 1) (by omega)
      have BX := hbox.set hlt (q % f k + 1)
      have y1 := BX.2.2 k hlt
      simp only [if_true] at y1
      have y2 := BX.2.1 k
      by_cases hov : q % f k + 1 < f k
      · obtain ⟨e1, e2⟩ := next_up hfk hov
        have HE : Hid (∀ m, Wrote g 0 n w ((wr.setCell ⟨g, k, none⟩ (.int .i64 (q % f k + 1))).drewN m) ∧ IBox ((wr.setCell ⟨g, k, none⟩ (.int .i64 (q % f k + 1))).drewN m) g n (dgs f n (r + 1))) := Lib.hid (fun m =>
          ⟨(hwr.setCell (Nat.zero_le k) hlt _).drewN m, (BX.congr (fun j hj => by
            by_cases e : j = k
            · subst e
              rw [if_pos rfl, (hd j (by omega)).2, dgs_top, e1]
            · rw [if_neg e]
              by_cases e3 : j < k
              · rw [if_pos (by omega), (hd j (by omega)).1, (hd j (by omega)).2, dgs_low _ e3, dgs_low _ e3, e2]
              · rw [if_neg (by omega)])).drewN m⟩)
        clear hrel q0 q1 hd hwr hbox u1 u2 u3 u4 e1 e2 BX hcb hc0 hz
        generalize q % f k = v0 at *
        generalize f k = x at *
        go_wp2_with fail
        go_quiet (fail)
        have HEE := Lib.hid (HE.out nq)
        go_wp2
        exact bodyPost_ret (v := .tuple #[]) (by simp [results, Tryz.results128, go_sem]) rfl ⟨rfl, HEE.out⟩
      · obtain ⟨e1, e2⟩ := next_over hfk (show q % f k + 1 = f k by omega)
        have HN : Hid (∀ m, 0 ≤ q / f k ∧ q / f k < itm f k ∧ (∀ j, j < k → dgs f n r j = dgs f k (q / f k) j ∧ dgs f n (r + 1) j = dgs f k (q / f k + 1) j) ∧ Wrote g 0 n w (((wr.setCell ⟨g, k, none⟩ (.int .i64 (q % f k + 1))).drewN m).setCell ⟨g, k, none⟩ (.int .i64 0)) ∧ IBox (((wr.setCell ⟨g, k, none⟩ (.int .i64 (q % f k + 1))).drewN m).setCell ⟨g, k, none⟩ (.int .i64 0)) g n (fun j => if j < k then dgs f n r j else dgs f n (r + 1) j)) := Lib.hid (fun m =>
          ⟨u1, u2, fun j hj => ⟨by rw [(hd j (by omega)).1, dgs_low _ hj], by rw [(hd j (by omega)).2, dgs_low _ hj, e2]⟩, ((hwr.setCell (Nat.zero_le k) hlt _).drewN m).setCell (Nat.zero_le k) hlt _, ((BX.drewN m).set hlt 0).congr (fun j hj => by
            by_cases e : j = k
            · subst e
              rw [if_pos rfl, if_neg (by omega), (hd j (by omega)).2, dgs_top, e1]
            · rw [if_neg e, if_neg e]
              by_cases e3 : j < k
              · rw [if_pos (by omega), if_pos e3]
              · rw [if_neg (by omega), if_neg e3])⟩)
        clear hrel q0 q1 hd hwr hbox u1 u2 u3 u4 e1 e2 BX hcb hc0 hz
        generalize q / f k = q' at *
        generalize q % f k = v0 at *
        generalize f k = x at *
        go_wp2_with fail
        go_quiet (fail)
        have HNN := Lib.hid (HN.out nq)
        go_wp2
        go_roundw
        case rel => exact ⟨k, q', (k : Int) - 1, by omega, rfl, by go_num, HNN.out⟩
        case measure => simp [intOf]
    · obtain rfl : k = 0 := by omega
      obtain rfl : z = -1 := by omega
      have HE : Hid (Wrote g 0 n w wr ∧ IBox wr g n (dgs f n (r + 1))) := Lib.hid ⟨hwr, hbox.congr (fun j _ => by rw [if_neg (by omega)])⟩
      clear hrel q0 q1 hd hwr hbox hz
      go_wp2
      go_end0
      exact ⟨rfl, HE.out⟩
/-- A row of integers copied whole over a block of its own. -/
theorem wpList_copy_full {w : World} {ops : Array Oper} {rest : List Oper} {o : Oper} {a : Act} {Q : Exit → Act → World → Prop} (hgd : o.guard = none) (d s : Operand) (dT sT : TypeId)
    (ho : o.op = .call { callee := .builtin .copy, args := #[d, s], argTypes := #[dT, sT] }) (elem : TypeId) (hu : Tryz.prog.underlying dT = some (.slice elem)) (hsz : (Tryz.prog.info? elem).map (·.size) = some 1)
    (g n c1 gi c2 : Nat) (hd : a.eval d = .slice (some ⟨g, 0, none⟩) n c1) (hs : a.eval s = .slice (some ⟨gi, 0, none⟩) n c2)
    (cur : Array Value) (t : TypeId) (hg : Row w g t cur) (hcur : cur.size = n) (h : Nat → Int) (hsrc : IBox w gi n h)
    (k : ∀ w', Row w' g t (kcs .i64 h n).toArray → Wrote g 0 n w w' → wpList Tryz.prog ops Q rest (a.put o.dst (goInt n)) w') : wpList Tryz.prog ops Q (o :: rest) a w := by
  by_cases h0 : n = 0
  · subst h0
    refine wpList_copy_nothing hgd d s dT sT ho elem hu hsz _ _ 0 c1 0 c2 hd hs rfl (k w ?_ (Wrote.refl _ _ _ _))
    have : cur = #[] := Array.eq_empty_of_size_eq_zero hcur
    rw [this] at hg
    exact hg
  · have hl := kcs_length .i64 h n
    refine wpList_copy_own hgd d s dT sT ho elem hu hsz g 0 n c1 ⟨gi, 0, none⟩ n c2 hd hs cur t hg (kcs .i64 h n) (by rw [hl]; exact (Nat.min_self n).symm) (fun j v hj => ?_) (by rw [hl]; omega) (kcs_one .i64 h n) ?_
    · have hj2 : j < n := by
        have := (List.getElem?_eq_some_iff.1 hj).1
        rwa [hl] at this
      rw [kcs_get .i64 h n j hj2] at hj
      obtain rfl := Option.some.inj hj
      rw [show (⟨gi, 0, none⟩ : Addr).add j = ⟨gi, j, none⟩ by unfold Addr.add; split <;> simp_all]
      exact hsrc.2.2 j hj2
    · rw [hl]
      have hrow : Row (w.setRow g (cur.toList.take 0 ++ (kcs .i64 h n ++ cur.toList.drop (0 + n))).toArray) g t (kcs .i64 h n).toArray := by
        have := hg.put (cur.toList.take 0 ++ (kcs .i64 h n ++ cur.toList.drop (0 + n))).toArray
        rw [show (cur.toList.take 0 ++ (kcs .i64 h n ++ cur.toList.drop (0 + n))).toArray = (kcs .i64 h n).toArray by
          rw [List.take_zero, List.nil_append, Nat.zero_add, List.drop_of_length_le (by rw [Array.length_toList]; omega), List.append_nil]] at this ⊢
        exact this
      refine k _ hrow ⟨rfl, rfl, rfl, by simp [World.setRow], fun j hj hne => setRow_other w g j _ hne, fun o ho => ?_, fun o => ?_⟩
      · have ho' : n ≤ o := by omega
        rw [hrow.cell, hg.cell, Array.getElem?_eq_none (by rw [List.size_toArray, hl]; omega), Array.getElem?_eq_none (by omega)]
      · rw [hrow.free, hg.free]
theorem IBox.of_row {w : World} {g n : Nat} {t : TypeId} {h : Nat → Int} (q : Row w g t (kcs .i64 h n).toArray) : IBox w g n h :=
  ⟨q.lt, fun o => q.free o, fun j hj => by rw [q.cell, List.getElem?_toArray]; exact kcs_get .i64 h n j hj⟩
end Go.Proofs.YtkljpofljkgkdaaGreatDoor

namespace Go.Proofs.YtkljpofljkgkdaaGreatDoor
open Go.RowKit
attribute [local go_sem ↓] Go.wp_at_zero Go.wp_at_succ
/-- The least of the numbers that come to a place. -/
def mnF (f g : Nat → Int) : Nat → Nat → Int
  | 0, _ => 4096
  | k + 1, j => if g k = (j : Int) then min (mnF f g k j) (f k) else mnF f g k j
theorem mnF_le (f g : Nat → Int) : ∀ {n i j : Nat}, i < n → g i = (j : Int) → mnF f g n j ≤ f i
  | n + 1, i, j, hi, e => by
    rcases Nat.lt_or_ge i n with h | h
    · have := mnF_le f g h e
      unfold mnF
      split <;> omega
    · obtain rfl : i = n := by omega
      unfold mnF
      rw [if_pos e]
      omega
theorem mnF_bd {f : Nat → Int} (g : Nat → Int) : ∀ {n j : Nat}, (∀ i, i < n → 0 ≤ f i) → 0 ≤ mnF f g n j ∧ mnF f g n j ≤ 4096
  | 0, _, _ => by unfold mnF; omega
  | n + 1, j, h => by
    have h1 := mnF_bd (f := f) g (n := n) (j := j) (fun i hi => h i (by omega))
    have h2 := h n (by omega)
    unfold mnF
    split <;> omega
set_option linter.unusedSimpArgs false in
set_option maxHeartbeats 3200000 in
set_option maxRecDepth 100000 in
theorem common_any (a : Option Addr) (n c : Nat) (f : Nat → Int) (a2 : Option Addr) (c2 : Nat) (g : Nat → Int) (C : Nat) (w : World) (h : KRow w .i64 a n c f) (h2 : KRow w .i64 a2 n c2 g) (hg : ∀ j, j < n → 0 ≤ g j ∧ g j ≤ 4096) (hC : cnN g n = (C : Nat)) (hC8 : C ≤ 4097) :
    Calls Tryz.prog 99 #[.slice a n c, .slice a2 n c2] w fun e w' => ∃ a' c', e = .returned (.slice a' C c') ∧ KRow w' .i64 a' C c' (mnF f g n) ∧ Below w.heap.size w w' := by
  have hl := h.len
  have CT := Lib.hid (mcount_any a2 n c2 g w h2 hg)
  rw [hC] at CT
  obtain ⟨i0, hi, hz0, hz1, hz2⟩ := info_parts infoI
  have hmk := fun wz => run_make (P := Tryz.prog) wz 22 3 i0 _ Tryz.underlying22 hi hz0 .i64 .i64 C C (by omega) (by omega) (by rw [hz2]; omega) (by omega)
  simp only [Int.toNat_natCast, hz1, Nat.mul_one] at hmk
  have H := Lib.hid h
  have H2 := Lib.hid h2
  have HG := Lib.hid hg
  have HLT : Hid (∀ k, k < n → g k < C) := Lib.hid (fun k hk => by rw [← hC]; exact cnN_gt hk)
  have H0 : Hid (Below w.heap.size w (w.alloc (.cells (madeCells (Value.cells (.int .i64 0)) C) 3)) ∧ IBox (w.alloc (.cells (madeCells (Value.cells (.int .i64 0)) C) 3)) w.heap.size C (fun j => if j < 0 then 4096 else 0)) :=
    Lib.hid ⟨(Below.refl _ _).alloc (Nat.le_refl _) _, (IBox.made w C 3 rfl).congr (fun j _ => by rw [if_neg (by omega)])⟩
  have hCn : (0 : Int) ≤ C := by omega
  clear h h2 hg hC hi hz0 hz1 hz2
  go_enter Tryz.func99, Tryz.ntmps99
  go_wp2_with fail
  go_at_call 97
  (with_reducible refine (CT.out).mono ?_)
  rintro e w1 ⟨rfl, rfl⟩
  go_wp2_with fail
  go_loopw [14] (fun i wr => ∃ k : Nat, k ≤ C ∧ i = .int .i64 k ∧ Hid (Below w.heap.size w wr ∧ IBox wr w.heap.size C (fun j => if j < k then 4096 else 0))) (fun i _ => C - (intOf i).toNat)
  case atStart => exact ⟨0, by omega, rfl, H0.out⟩
  case round =>
    obtain ⟨k, hk, rfl, hrel⟩ := hrel
    obtain ⟨hbl, hbx⟩ := hrel.out
    by_cases hlt : k < C
    · have x1 := hbx.2.2 k hlt
      have x2 := hbx.2.1 k
      have hk0 : (0 : Int) ≤ k := by omega
      have hk1 : (k : Int) < C := by omega
      have HN : Hid (Below w.heap.size w (wr.setCell ⟨w.heap.size, k, none⟩ (.int .i64 4096)) ∧ IBox (wr.setCell ⟨w.heap.size, k, none⟩ (.int .i64 4096)) w.heap.size C (fun j => if j < k + 1 then 4096 else 0)) := Lib.hid ⟨hbl.setCell (p := ⟨w.heap.size, k, none⟩) (Nat.le_refl _) _, (hbx.set hlt 4096).congr (fun j hj => by
        show (if j = k then (4096 : Int) else if j < k then 4096 else 0) = if j < k + 1 then 4096 else 0
        split
        · rw [if_pos (by omega)]
        · split
          · rw [if_pos (by omega)]
          · rw [if_neg (by omega)])⟩
      clear hrel hbl hbx
      go_wp2
      go_roundw
      case rel => exact ⟨k + 1, by omega, by go_num, HN.out⟩
      case measure => simp [intOf]; omega
    · obtain rfl : k = C := by omega
      have H1 : Hid (Below w.heap.size w wr ∧ IBox wr w.heap.size k (mnF f g 0)) := Lib.hid ⟨hbl, hbx.congr (fun j hj => by rw [if_pos hj]; rfl)⟩
      have HBY := Lib.hid hbl
      clear hrel hbl hbx H0 CT
      obtain ⟨y0, hy0⟩ : ∃ y0, y0 = wr := ⟨_, rfl⟩
      subst hy0
      go_wp2_with fail
      go_loopw [23] (fun i wr => ∃ q : Nat, q ≤ n ∧ i = .int .i64 q ∧ Hid (Below w.heap.size w wr ∧ IBox wr w.heap.size k (mnF f g q))) (fun i _ => n - (intOf i).toNat)
      case atStart => exact ⟨0, by omega, rfl, H1.out⟩
      case round =>
        obtain ⟨m, hm, rfl, hrel⟩ := hrel
        obtain ⟨hbl, hbx⟩ := hrel.out
        have hwr := hbl.size
        by_cases hlt : m < n
        · obtain ⟨b2, off2, hab, hb2, hc2⟩ := (H.out.below hbl).get hlt
          subst hab
          obtain ⟨b, off, hab, hb, hc⟩ := (H2.out.below hbl).get hlt
          subst hab
          have hq0 := (HG.out m hlt).1
          have hq1 := HLT.out m hlt
          obtain ⟨q, hq⟩ : ∃ q : Nat, g m = q := ⟨(g m).toNat, by omega⟩
          have hqk : q < k := by omega
          rw [hq] at hc
          have x1 := hbx.2.2 q hqk
          have x2 := hbx.2.1 q
          have HNEW : Hid (∀ yz, Below wr.heap.size wr yz → Below w.heap.size w (yz.setCell ⟨w.heap.size, q, none⟩ (.int .i64 (min (mnF f g m q) (f m)))) ∧ IBox (yz.setCell ⟨w.heap.size, q, none⟩ (.int .i64 (min (mnF f g m q) (f m)))) w.heap.size k (mnF f g (m + 1))) := Lib.hid (fun yz hyz => ⟨(hbl.trans (hyz.mono hwr)).setCell (p := ⟨w.heap.size, q, none⟩) (Nat.le_refl _) _, ((hbx.below hyz).set hqk _).congr (fun j hj => by
            show (if j = q then _ else _) = if g m = (j : Int) then _ else _
            by_cases e : j = q
            · subst e
              rw [if_pos rfl, if_pos hq]
            · rw [if_neg e, if_neg (by omega)])⟩)
          have HCELL : Hid (∀ yz, Below wr.heap.size wr yz → yz.cell? ⟨w.heap.size, q, none⟩ = some (.int .i64 (mnF f g m q)) ∧ yz.cell? ⟨b2, off2 + m, none⟩ = some (.int .i64 (f m))) := Lib.hid (fun yz hyz => ⟨(hyz.cell (p := ⟨w.heap.size, q, none⟩) hbx.1).trans x1, (hyz.cell (p := ⟨b2, off2 + m, none⟩) hb2).trans hc2⟩)
          have HFREE : Hid (∀ yz, Below wr.heap.size wr yz → yz.frozen? ⟨w.heap.size, q, none⟩ = false) := Lib.hid (fun yz hyz => (hbx.below hyz).2.1 q)
          have hm0 : (0 : Int) ≤ m := by omega
          have hm1 : (m : Int) < n := by omega
          have hq2 : (0 : Int) ≤ q := by omega
          have hq3 : (q : Int) < k := by omega
          clear hrel hbl hbx hb2 hc2 x1 x2 hq hq0 hq1 HLT HG
          generalize mnF f g m q = x at *
          generalize f m = y at *
          go_wp2_with fail
          refine wp_region_inv3 ⟨(fun j => ([[28], [29], [30], [31], [32], [33], [34], [35], [36], [37], [38], [39], []] : List (List Nat)).getD j []), (fun j => ([[], [], [], [], [2, 3], [2, 3, 4], [], [], [6, 7], [6, 7, 8], [2, 3, 4, 5, 6, 7, 8, 9], [0, 1, 2, 3, 4, 5, 6, 7, 8, 9, 10], [0, 1, 2, 3, 4, 5, 6, 7, 8, 9, 10, 11]] : List (List Nat)).getD j []), []⟩ 12 (fun jj vv yy => match jj with | 0 => vv = [some (.slice (some ⟨w.heap.size, 0, none⟩) k k)] | 1 => vv = [some (.int .i64 q)] | 2 => vv = [some (.slice (some ⟨w.heap.size, 0, none⟩) k k)] | 3 => vv = [some (.int .i64 q)] | 4 => vv = [some (.pointer (some ⟨w.heap.size, q, none⟩))] | 5 => vv = [some (.int .i64 x)] | 6 => vv = [some (.slice (some ⟨b2, off2, none⟩) n c)] | 7 => vv = [some (.int .i64 m)] | 8 => vv = [some (.pointer (some ⟨b2, (off2 + m), none⟩))] | 9 => vv = [some (.int .i64 y)] | 10 => vv = [some (.int .i64 (min x y))] | 11 => vv = [some (.pointer (some ⟨w.heap.size, q, none⟩))] | _ => True) (Bag wr (fun _ => True)) (by kernel_rfl) (by kernel_rfl) (by kernel_rfl) (by kernel_rfl) (Bag.start wr).drew ?_ ?_ ?_
          · intro jj vv yw yw2 hb h
            match jj, h with
            | 0, h => exact h
            | 1, h => exact h
            | 2, h => exact h
            | 3, h => exact h
            | 4, h => exact h
            | 5, h => exact h
            | 6, h => exact h
            | 7, h => exact h
            | 8, h => exact h
            | 9, h => exact h
            | 10, h => exact h
            | 11, h => exact h
            | _ + 12, h => exact h
          · intro ac yw hsz hdf hold hB hp
            have t39 : ac.tmps[39]? = some (.pointer (some ⟨w.heap.size, q, none⟩)) := (List.cons.inj (hp 11 (by decide))).1
            have t38 : ac.tmps[38]? = some (.int .i64 (min x y)) := (List.cons.inj (hp 10 (by decide))).1
            have HN := HNEW.out _ hB.below
            have v0 := (HCELL.out _ hB.below).1
            have v2 := HFREE.out _ hB.below
            have T0 : ac.tmps[0]? = some (.slice (some ⟨b2, off2, none⟩) n c) := hold 0 (by kernel_rfl)
            have T1 : ac.tmps[1]? = some (.slice (some ⟨b, off, none⟩) n c2) := hold 1 (by kernel_rfl)
            have T2 : ac.tmps[2]? = some (undef) := hold 2 (by kernel_rfl)
            have T3 : ac.tmps[3]? = some (undef) := hold 3 (by kernel_rfl)
            have T4 : ac.tmps[4]? = some (.slice none 0 0) := hold 4 (by kernel_rfl)
            have T5 : ac.tmps[5]? = some (.slice (some ⟨w.heap.size, 0, none⟩) k k) := hold 5 (by kernel_rfl)
            have T6 : ac.tmps[6]? = some (u6) := hold 6 (by kernel_rfl)
            have T9 : ac.tmps[9]? = some (.slice (some ⟨b, off, none⟩) n c2) := hold 9 (by kernel_rfl)
            have T10 : ac.tmps[10]? = some (.int .i64 k) := hold 10 (by kernel_rfl)
            have T11 : ac.tmps[11]? = some (.slice (some ⟨w.heap.size, 0, none⟩) k k) := hold 11 (by kernel_rfl)
            have T12 : ac.tmps[12]? = some (.slice (some ⟨w.heap.size, 0, none⟩) k k) := hold 12 (by kernel_rfl)
            have T13 : ac.tmps[13]? = some (.int .i64 k) := hold 13 (by kernel_rfl)
            have T14 : ac.tmps[14]? = some (.int .i64 k) := hold 14 (by kernel_rfl)
            have T15 : ac.tmps[15]? = some (.bool false) := hold 15 (by kernel_rfl)
            have T16 : ac.tmps[16]? = some (u16) := hold 16 (by kernel_rfl)
            have T17 : ac.tmps[17]? = some (u17) := hold 17 (by kernel_rfl)
            have T18 : ac.tmps[18]? = some (u18) := hold 18 (by kernel_rfl)
            have T19 : ac.tmps[19]? = some (u19) := hold 19 (by kernel_rfl)
            have T20 : ac.tmps[20]? = some (u20) := hold 20 (by kernel_rfl)
            have T21 : ac.tmps[21]? = some (.slice (some ⟨b, off, none⟩) n c2) := hold 21 (by kernel_rfl)
            have T22 : ac.tmps[22]? = some (.int .i64 n) := hold 22 (by kernel_rfl)
            have T23 : ac.tmps[23]? = some (.int .i64 m) := hold 23 (by kernel_rfl)
            have T41 : ac.tmps[41]? = some (undef) := hold 41 (by kernel_rfl)
            have HSZ := Lib.hid hsz
            clear hsz hold hp
            refine TailWp.step rfl ?_
            intro K hK
            go_simp
            refine hK.out _ _ ?_
            refine TailWp.end rfl ?_
            have hsz := HSZ.out
            clear v0 v2
            obtain ⟨TW, hTW⟩ : ∃ TW : Nat → Value, ∀ i, (ac.tmps[i]?).getD undef = TW i := ⟨_, fun _ => rfl⟩
            have f0 := (hTW 0).symm.trans (congrArg (fun x => Option.getD x undef) T0)
            have f1 := (hTW 1).symm.trans (congrArg (fun x => Option.getD x undef) T1)
            have f2 := (hTW 2).symm.trans (congrArg (fun x => Option.getD x undef) T2)
            have f3 := (hTW 3).symm.trans (congrArg (fun x => Option.getD x undef) T3)
            have f4 := (hTW 4).symm.trans (congrArg (fun x => Option.getD x undef) T4)
            have f5 := (hTW 5).symm.trans (congrArg (fun x => Option.getD x undef) T5)
            have f6 := (hTW 6).symm.trans (congrArg (fun x => Option.getD x undef) T6)
            have f9 := (hTW 9).symm.trans (congrArg (fun x => Option.getD x undef) T9)
            have f10 := (hTW 10).symm.trans (congrArg (fun x => Option.getD x undef) T10)
            have f11 := (hTW 11).symm.trans (congrArg (fun x => Option.getD x undef) T11)
            have f12 := (hTW 12).symm.trans (congrArg (fun x => Option.getD x undef) T12)
            have f13 := (hTW 13).symm.trans (congrArg (fun x => Option.getD x undef) T13)
            have f14 := (hTW 14).symm.trans (congrArg (fun x => Option.getD x undef) T14)
            have f15 := (hTW 15).symm.trans (congrArg (fun x => Option.getD x undef) T15)
            have f16 := (hTW 16).symm.trans (congrArg (fun x => Option.getD x undef) T16)
            have f17 := (hTW 17).symm.trans (congrArg (fun x => Option.getD x undef) T17)
            have f18 := (hTW 18).symm.trans (congrArg (fun x => Option.getD x undef) T18)
            have f19 := (hTW 19).symm.trans (congrArg (fun x => Option.getD x undef) T19)
            have f20 := (hTW 20).symm.trans (congrArg (fun x => Option.getD x undef) T20)
            have f21 := (hTW 21).symm.trans (congrArg (fun x => Option.getD x undef) T21)
            have f22 := (hTW 22).symm.trans (congrArg (fun x => Option.getD x undef) T22)
            have f23 := (hTW 23).symm.trans (congrArg (fun x => Option.getD x undef) T23)
            have f41 := (hTW 41).symm.trans (congrArg (fun x => Option.getD x undef) T41)
            have hac := act_eq (n := 42) hsz TW hTW
            rw [show ((List.range 42).map TW).toArray = #[TW 0, TW 1, TW 2, TW 3, TW 4, TW 5, TW 6, TW 7, TW 8, TW 9, TW 10, TW 11, TW 12, TW 13, TW 14, TW 15, TW 16, TW 17, TW 18, TW 19, TW 20, TW 21, TW 22, TW 23, TW 24, TW 25, TW 26, TW 27, TW 28, TW 29, TW 30, TW 31, TW 32, TW 33, TW 34, TW 35, TW 36, TW 37, TW 38, TW 39, TW 40, TW 41] from rfl, f0, f1, f2, f3, f4, f5, f6, f9, f10, f11, f12, f13, f14, f15, f16, f17, f18, f19, f20, f21, f22, f23, f41, hdf] at hac
            simp only [Option.getD_some] at hac
            subst hac
            clear hTW f0 f1 f2 f3 f4 f5 f6 f9 f10 f11 f12 f13 f14 f15 f16 f17 f18 f19 f20 f21 f22 f23 f41
            go_wp2
            go_roundw
            case rel => exact ⟨m + 1, by omega, by go_num, HN⟩
            case measure => simp [intOf]; omega
          refine Stps2.cons (o := _) ?_ ?_
          · intro ac yw hsz hold hB hp K hK
            have t5 : ac.tmps[5]? = some (.slice (some ⟨w.heap.size, 0, none⟩) k k) := hold 5 (by kernel_rfl)
            clear hold hp hsz
            go_simp
            exact hK.out _ _ ⟨hB, rfl, Nat.le_refl _, .inl (Below.refl _ _), fun h => absurd h (by decide)⟩
          refine Stps2.cons (o := _) ?_ ?_
          · intro ac yw hsz hold hB hp K hK
            have t8 : ac.tmps[8]? = some (.int .i64 q) := hold 8 (by kernel_rfl)
            clear hold hp hsz
            go_simp
            exact hK.out _ _ ⟨hB, rfl, Nat.le_refl _, .inl (Below.refl _ _), fun h => absurd h (by decide)⟩
          refine Stps2.cons (o := _) ?_ ?_
          · intro ac yw hsz hold hB hp K hK
            have t5 : ac.tmps[5]? = some (.slice (some ⟨w.heap.size, 0, none⟩) k k) := hold 5 (by kernel_rfl)
            clear hold hp hsz
            go_simp
            exact hK.out _ _ ⟨hB, rfl, Nat.le_refl _, .inl (Below.refl _ _), fun h => absurd h (by decide)⟩
          refine Stps2.cons (o := _) ?_ ?_
          · intro ac yw hsz hold hB hp K hK
            have t8 : ac.tmps[8]? = some (.int .i64 q) := hold 8 (by kernel_rfl)
            clear hold hp hsz
            go_simp
            exact hK.out _ _ ⟨hB, rfl, Nat.le_refl _, .inl (Below.refl _ _), fun h => absurd h (by decide)⟩
          refine Stps2.cons (o := _) ?_ ?_
          · intro ac yw hsz hold hB hp K hK
            have e2 := hp 2 (by decide)
            have t30 : ac.tmps[30]? = some (.slice (some ⟨w.heap.size, 0, none⟩) k k) := (List.cons.inj e2).1
            have e3 := hp 3 (by decide)
            have t31 : ac.tmps[31]? = some (.int .i64 q) := (List.cons.inj e3).1
            clear hold hp hsz e2 e3
            go_simp
            exact hK.out _ _ ⟨hB, rfl, Nat.le_refl _, .inl (Below.refl _ _), fun h => absurd h (by decide)⟩
          refine Stps2.cons (o := _) ?_ ?_
          · intro ac yw hsz hold hB hp K hK
            have e4 := hp 4 (by decide)
            have t32 : ac.tmps[32]? = some (.pointer (some ⟨w.heap.size, q, none⟩)) := (List.cons.inj e4).1
            clear hold hp hsz e4
            have v0 := (HCELL.out _ hB.below).1
            have v1 := (HCELL.out _ hB.below).2
            go_simp
            exact hK.out _ _ ⟨hB, rfl, Nat.le_refl _, .inl (Below.refl _ _), fun h => absurd h (by decide)⟩
          refine Stps2.cons (o := _) ?_ ?_
          · intro ac yw hsz hold hB hp K hK
            have t0 : ac.tmps[0]? = some (.slice (some ⟨b2, off2, none⟩) n c) := hold 0 (by kernel_rfl)
            clear hold hp hsz
            go_simp
            exact hK.out _ _ ⟨hB, rfl, Nat.le_refl _, .inl (Below.refl _ _), fun h => absurd h (by decide)⟩
          refine Stps2.cons (o := _) ?_ ?_
          · intro ac yw hsz hold hB hp K hK
            have t7 : ac.tmps[7]? = some (.int .i64 m) := hold 7 (by kernel_rfl)
            clear hold hp hsz
            go_simp
            exact hK.out _ _ ⟨hB, rfl, Nat.le_refl _, .inl (Below.refl _ _), fun h => absurd h (by decide)⟩
          refine Stps2.cons (o := _) ?_ ?_
          · intro ac yw hsz hold hB hp K hK
            have e6 := hp 6 (by decide)
            have t34 : ac.tmps[34]? = some (.slice (some ⟨b2, off2, none⟩) n c) := (List.cons.inj e6).1
            have e7 := hp 7 (by decide)
            have t35 : ac.tmps[35]? = some (.int .i64 m) := (List.cons.inj e7).1
            clear hold hp hsz e6 e7
            go_simp
            exact hK.out _ _ ⟨hB, rfl, Nat.le_refl _, .inl (Below.refl _ _), fun h => absurd h (by decide)⟩
          refine Stps2.cons (o := _) ?_ ?_
          · intro ac yw hsz hold hB hp K hK
            have e8 := hp 8 (by decide)
            have t36 : ac.tmps[36]? = some (.pointer (some ⟨b2, (off2 + m), none⟩)) := (List.cons.inj e8).1
            clear hold hp hsz e8
            have v0 := (HCELL.out _ hB.below).1
            have v1 := (HCELL.out _ hB.below).2
            go_simp
            exact hK.out _ _ ⟨hB, rfl, Nat.le_refl _, .inl (Below.refl _ _), fun h => absurd h (by decide)⟩
          refine Stps2.cons (o := _) ?_ ?_
          · intro ac yw hsz hold hB hp K hK
            have e5 := hp 5 (by decide)
            have t33 : ac.tmps[33]? = some (.int .i64 x) := (List.cons.inj e5).1
            have e9 := hp 9 (by decide)
            have t37 : ac.tmps[37]? = some (.int .i64 y) := (List.cons.inj e9).1
            clear hold hp hsz e5 e9
            go_simp
            exact hK.out _ _ ⟨hB, rfl, Nat.le_refl _, .inl (Below.refl _ _), fun h => absurd h (by decide)⟩
          refine Stps2.cons (o := _) ?_ ?_
          · intro ac yw hsz hold hB hp K hK
            have e0 := hp 0 (by decide)
            have t28 : ac.tmps[28]? = some (.slice (some ⟨w.heap.size, 0, none⟩) k k) := (List.cons.inj e0).1
            have e1 := hp 1 (by decide)
            have t29 : ac.tmps[29]? = some (.int .i64 q) := (List.cons.inj e1).1
            clear hold hp hsz e0 e1
            go_simp
            exact hK.out _ _ ⟨hB, rfl, Nat.le_refl _, .inl (Below.refl _ _), fun h => absurd h (by decide)⟩
          exact Stps2.nil _
        · obtain rfl : m = n := by omega
          have HE : Hid (KRow wr .i64 (some ⟨w.heap.size, 0, none⟩) k k (mnF f g m) ∧ Below w.heap.size w wr) := Lib.hid ⟨hbx.krow (by unfold maxLen; omega), hbl⟩
          clear hrel hbl hbx
          go_wp2
          go_ret
          exact ⟨_, _, rfl, HE.out⟩
end Go.Proofs.YtkljpofljkgkdaaGreatDoor

namespace Go.Proofs.YtkljpofljkgkdaaGreatDoor
open Go.RowKit
/-- A function value that answers a number for the index of every place. -/
def GivesI (fv : FuncId) (cap : Array Value) (G : Nat → Int) (f : Nat → Int) (n M : Nat) (w : World) : Prop :=
  ∀ wz, Below w.heap.size w wz → ∀ k : Nat, k < M → ∀ a2 c2, KRow wz .i64 a2 n c2 (dgs f n (k : Nat)) → Calls Tryz.prog fv (#[.slice a2 n c2] ++ cap) wz fun e w' => e = .returned (.int .i64 (G k)) ∧ Below wz.heap.size wz w'
/-- The blocks of Places, apart from one another. -/
def PlSg (G : Nat → Int) (w0 w : World) (f : Nat → Int) (n M gp gi gh : Nat) (k : Nat) : Prop :=
  Below w0.heap.size w0 w ∧ IBox w gp M (fun j => if j < k then G j else 0) ∧ IBox w gi n (dgs f n k) ∧ ∃ cur, Row w gh 3 cur ∧ cur.size = n
set_option maxHeartbeats 3200000 in
set_option maxRecDepth 100000 in
theorem placesG_any (fv : FuncId) (cap : Array Value) (he : Enters Tryz.prog fv) (a : Option Addr) (n c : Nat) (f : Nat → Int) (M : Nat) (G : Nat → Int) (w : World) (h : KRow w .i64 a n c f) (hf : In64 f n) (hs : shB f n = true) (hM : itm f n = (M : Nat)) (CL : GivesI fv cap G f n M w) :
    Calls Tryz.prog 101 #[.slice a n c, .func (.func fv) #[] cap] w fun e w' => ∃ c', e = .returned (.slice (some ⟨w.heap.size, 0, none⟩) M c') ∧ KRow w' .i64 (some ⟨w.heap.size, 0, none⟩) M c' G ∧ Below w.heap.size w w' := by
  have he' := he
  unfold Enters at he'
  have HCL := Lib.hid CL
  have hl := h.len
  have CN := Lib.hid (count_any a n c f w h hf)
  unfold CntTold at CN
  have hx : cntI f n = (M : Nat) := by unfold cntI; rw [hs, if_pos rfl, hM]
  rw [hs, hx] at CN
  obtain ⟨h8, hax⟩ := sh_ax hs
  have hbd := ax_bd hax
  have hM4 : M ≤ 4096 := by omega
  have HP := Lib.hid (fun (k : Nat) (hk : k < M) => itm_pos hax (show (0 : Int) ≤ k by omega) (show (k : Int) < itm f n by omega))
  have HF : Hid (∀ j, j < n → f j ≤ 4096) := Lib.hid (fun j hj => by
    have h1 := ax_bd (ax_le (show j + 1 ≤ n by omega) hax)
    have h2 := rm_pos f j
    have h3 : 1 * max (f j) 1 ≤ rm f j * max (f j) 1 := Int.mul_le_mul h2 (Int.le_refl _) (by omega) (by omega)
    have h4 : rm f (j + 1) = rm f j * max (f j) 1 := rfl
    omega)
  have HD := Lib.hid (fun (k : Nat) (hk : k < M) => dgs_in (HP.out k hk) (show (0 : Int) ≤ k by omega) (show (k : Int) < itm f n by omega))
  have H := Lib.hid h
  have HAX := Lib.hid hax
  have HMM := Lib.hid hM
  obtain ⟨i0, hi, hz0, hz1, hz2⟩ := info_parts infoI
  have hmk := fun wz => run_make (P := Tryz.prog) wz 22 3 i0 _ Tryz.underlying22 hi hz0 .i64 .i64 M M (by omega) (by omega) (by rw [hz2]; omega) (by omega)
  have hmk2 := fun wz => run_make (P := Tryz.prog) wz 22 3 i0 _ Tryz.underlying22 hi hz0 .i64 .i64 n n (by omega) (by omega) (by rw [hz2]; omega) (by omega)
  simp only [Int.toNat_natCast, hz1, Nat.mul_one] at hmk hmk2
  have hsz : (Tryz.prog.info? 3).map (·.size) = some 1 := by rw [hi, Option.map_some, hz1]
  have qf : ∀ (w : World) (fn : Fn) (x y : Array Value), (binOp .eql 127 (.func fn x y) .nilFunc).run Tryz.prog w = .ok (.bool false) w := fun _ _ _ _ => rfl
  have W3 : Hid (∀ wz, wz = ((w.alloc (.cells (madeCells (Value.cells (.int .i64 0)) M) 3)).alloc (.cells (madeCells (Value.cells (.int .i64 0)) n) 3)).alloc (.cells (madeCells (Value.cells (.int .i64 0)) n) 3) → PlSg G w wz f n M w.heap.size (w.heap.size + 1) (w.heap.size + 1 + 1) 0 ∧ PlSg G w wz f n M w.heap.size (w.heap.size + 1 + 1) (w.heap.size + 1) 0) := Lib.hid (by
    rintro wz rfl
    have b1 : Below w.heap.size w (w.alloc (.cells (madeCells (Value.cells (.int .i64 0)) M) 3)) := (Below.refl _ _).alloc (Nat.le_refl _) _
    have i1 := IBox.made w M 3 rfl
    have i2 := IBox.made (w.alloc (.cells (madeCells (Value.cells (.int .i64 0)) M) 3)) n 3 rfl
    have r2 := Row.new (w.alloc (.cells (madeCells (Value.cells (.int .i64 0)) M) 3)) 3 (madeCells (Value.cells (.int .i64 0)) n)
    have i3 := IBox.made ((w.alloc (.cells (madeCells (Value.cells (.int .i64 0)) M) 3)).alloc (.cells (madeCells (Value.cells (.int .i64 0)) n) 3)) n 3 rfl
    have r3 := Row.new ((w.alloc (.cells (madeCells (Value.cells (.int .i64 0)) M) 3)).alloc (.cells (madeCells (Value.cells (.int .i64 0)) n) 3)) 3 (madeCells (Value.cells (.int .i64 0)) n)
    have hms : (madeCells (Value.cells (.int .i64 0)) n).size = n := by simp [madeCells]
    have g2 : ∀ (y : World) (o : Obj), Below y.heap.size y (y.alloc o) := fun y o => (Below.refl _ _).alloc (Nat.le_refl _) o
    rw [World.size_alloc] at i2 r2
    rw [World.size_alloc, World.size_alloc] at i3 r3
    have bb := (b1.trans ((g2 (w.alloc (.cells (madeCells (Value.cells (.int .i64 0)) M) 3)) (.cells (madeCells (Value.cells (.int .i64 0)) n) 3)).mono b1.size)).trans ((g2 ((w.alloc (.cells (madeCells (Value.cells (.int .i64 0)) M) 3)).alloc (.cells (madeCells (Value.cells (.int .i64 0)) n) 3)) (.cells (madeCells (Value.cells (.int .i64 0)) n) 3)).mono (Nat.le_trans b1.size (g2 _ _).size))
    have z0 : ∀ j, j < M → (fun _ => (0 : Int)) j = (fun j : Nat => if j < 0 then G j else 0) j := fun j _ => rfl
    have z1 : ∀ j, j < n → (fun _ => (0 : Int)) j = dgs f n (0 : Nat) j := fun j _ => (dgs_zero n j).symm
    refine ⟨⟨bb, ((i1.below (g2 _ _)).below (g2 _ _)).congr z0, (i2.below (g2 _ _)).congr z1, _, r3, hms⟩, ⟨bb, ((i1.below (g2 _ _)).below (g2 _ _)).congr z0, i3.congr z1, _, r2.below (g2 _ _), hms⟩⟩)
  have hnn : (0 : Int) ≤ n := by omega
  have hMn : (0 : Int) ≤ M := by omega
  clear h hf hs hM hx hax hbd hi hz0 hz1 hz2 he CL
  go_enter Tryz.func101, Tryz.ntmps101
  go_wp2_with fail
  go_at_call 45
  (with_reducible refine (CN.out).mono ?_)
  rintro e w1 ⟨rfl, rfl⟩
  go_wp2_with fail
  go_region
  · go_wp2_with fail
    have H0 : Hid (PlSg G w (((w.alloc (.cells (madeCells (Value.cells (.int .i64 0)) M) 3)).alloc (.cells (madeCells (Value.cells (.int .i64 0)) n) 3)).alloc (.cells (madeCells (Value.cells (.int .i64 0)) n) 3)).drew f n M w.heap.size (w.heap.size + 1) (w.heap.size + 1 + 1) 0) := Lib.hid (by
      have h := (W3.out _ rfl).1
      exact ⟨h.1.drew, h.2⟩)
    go_loopw [32] (fun i wr => ∃ k : Nat, k ≤ M ∧ i = .int .i64 k ∧ Hid (PlSg G w wr f n M w.heap.size (w.heap.size + 1) (w.heap.size + 1 + 1) k)) (fun i _ => M - (intOf i).toNat)
    case atStart => exact ⟨0, by omega, rfl, H0.out⟩
    case round =>
      obtain ⟨k, hk, rfl, hrel⟩ := hrel
      obtain ⟨hbl, hbp, hbi, cur, hrow, hcur⟩ := hrel.out
      have hwr := hbl.size
      by_cases hlt : k < M
      · obtain ⟨hin, hpl⟩ := HD.out k hlt
        have HIN := Lib.hid (And.intro hin hpl)
        have hp1 := HP.out k hlt
        have HP1 := Lib.hid hp1
        have HBL := Lib.hid hbl
        have HBP := Lib.hid hbp
        have HBI := Lib.hid hbi
        have HROW := Lib.hid hrow
        have HCUR := Lib.hid hcur
        clear hrel hin hpl hbl hbp hbi hrow hcur hp1
        go_wp2_with (refine wpList_copy_full rfl (.tmp 35) (.tmp 36) 22 22 rfl 3 Tryz.underlying22 hsz (w.heap.size + 1 + 1) n n (w.heap.size + 1) n rfl rfl cur 3 HROW.out HCUR.out (dgs f n k) HBI.out ?_)
        intro w2 hrow2 hwr2
        have b2 := hwr2.below HBL.out (show w.heap.size ≤ w.heap.size + 1 + 1 by omega) hwr
        have CLS : Hid (Calls Tryz.prog fv (#[.slice (some ⟨w.heap.size + 1 + 1, 0, none⟩) n n] ++ cap) w2 fun e w' => e = .returned (.int .i64 (G k)) ∧ Below w2.heap.size w2 w') := Lib.hid (HCL.out w2 b2 k hlt _ _ ((IBox.of_row hrow2).krow (by unfold maxLen; omega)))
        have HR2 := Lib.hid hrow2
        have HW2 := Lib.hid hwr2
        have HB2 := Lib.hid b2
        clear hrow2 hwr2 b2
        go_wp2_with fail
        go_at_fn fv
        (refine (CLS.out).mono ?_)
        rintro e w3 ⟨rfl, hb3⟩
        have hs2 := HB2.out.size
        have b3 := HB2.out.trans (hb3.mono hs2)
        have p3 := (HBP.out.wrote HW2.out (show w.heap.size ≠ w.heap.size + 1 + 1 by omega)).below hb3
        have i3 := (HBI.out.wrote HW2.out (show w.heap.size + 1 ≠ w.heap.size + 1 + 1 by omega)).below hb3
        have r3 := HR2.out.below hb3
        have p4 := p3.set hlt (G k)
        have q4 : Wrote w.heap.size 0 M w3 (w3.setCell ⟨w.heap.size, k, none⟩ (.int .i64 (G k))) := (Wrote.refl _ _ _ _).setCell (Nat.zero_le k) hlt _
        have i4 := i3.wrote q4 (show w.heap.size + 1 ≠ w.heap.size by omega)
        have r4 := r3.far (a := ⟨w.heap.size, k, none⟩) (show w.heap.size + 1 + 1 ≠ w.heap.size by omega) (.int .i64 (G k))
        have b4 : Below w.heap.size w (w3.setCell ⟨w.heap.size, k, none⟩ (.int .i64 (G k))) := b3.setCell (p := ⟨w.heap.size, k, none⟩) (Nat.le_refl _) _
        have AD := Lib.hid (advance_any a n c f (w.heap.size + 1) n k w _ H.out b4 (show w.heap.size ≤ w.heap.size + 1 by omega) h8 HP1.out HF.out ⟨by omega, by have := HMM.out; omega⟩ i4 ⟨Nat.le_refl _, by unfold maxLen; omega⟩)
        have x1 := p3.2.2 k hlt
        have x2 := p3.2.1 k
        have hk0 : (0 : Int) ≤ k := by omega
        have hk1 : (k : Int) < M := by omega
        have HEND : Hid (∀ w5, Wrote (w.heap.size + 1) 0 n (w3.setCell ⟨w.heap.size, k, none⟩ (.int .i64 (G k))) w5 → IBox w5 (w.heap.size + 1) n (dgs f n ((k : Int) + 1)) → PlSg G w w5 f n M w.heap.size (w.heap.size + 1) (w.heap.size + 1 + 1) (k + 1)) := Lib.hid (fun w5 q5 i5 => ⟨q5.below b4 (by omega) b4.size, (p4.wrote q5 (by omega)).congr (fun j hj => by
          show (if j = k then G k else if j < k then G j else 0) = if j < k + 1 then G j else 0
          by_cases e : j = k
          · subst e; rw [if_pos rfl, if_pos (by omega)]
          · rw [if_neg e]
            by_cases e2 : j < k
            · rw [if_pos e2, if_pos (by omega)]
            · rw [if_neg e2, if_neg (by omega)]), i5, _, (q5.block (w.heap.size + 1 + 1) r4.lt (by omega)).trans r4, by rw [List.size_toArray, kcs_length]⟩)
        clear b3 p3 i3 r3 p4 q4 i4 r4 b4 hb3 hs2
        go_wp2_with fail
        go_at_call 128
        (refine (AD.out).mono ?_)
        rintro e w5 ⟨rfl, q5, i5⟩
        have HN := Lib.hid (HEND.out w5 q5 i5)
        clear q5 i5
        go_wp2
        go_roundw
        case rel => exact ⟨k + 1, by omega, by go_num, HN.out⟩
        case measure => simp [intOf]; omega
      · obtain rfl : k = M := by omega
        have HE : Hid (KRow wr .i64 (some ⟨w.heap.size, 0, none⟩) k k G ∧ Below w.heap.size w wr) := Lib.hid ⟨(hbp.congr (h' := G) (fun j hj => by rw [if_pos hj])).krow (by unfold maxLen; omega), hbl⟩
        clear hrel hbl hbp hbi hrow hcur
        go_wp2
        go_ret
        exact ⟨_, rfl, HE.out⟩
  · go_wp2_with fail
    have H0 : Hid (PlSg G w (((w.alloc (.cells (madeCells (Value.cells (.int .i64 0)) M) 3)).alloc (.cells (madeCells (Value.cells (.int .i64 0)) n) 3)).alloc (.cells (madeCells (Value.cells (.int .i64 0)) n) 3)).drew f n M w.heap.size (w.heap.size + 1 + 1) (w.heap.size + 1) 0) := Lib.hid (by
      have h := (W3.out _ rfl).2
      exact ⟨h.1.drew, h.2⟩)
    go_loopw [32] (fun i wr => ∃ k : Nat, k ≤ M ∧ i = .int .i64 k ∧ Hid (PlSg G w wr f n M w.heap.size (w.heap.size + 1 + 1) (w.heap.size + 1) k)) (fun i _ => M - (intOf i).toNat)
    case atStart => exact ⟨0, by omega, rfl, H0.out⟩
    case round =>
      obtain ⟨k, hk, rfl, hrel⟩ := hrel
      obtain ⟨hbl, hbp, hbi, cur, hrow, hcur⟩ := hrel.out
      have hwr := hbl.size
      by_cases hlt : k < M
      · obtain ⟨hin, hpl⟩ := HD.out k hlt
        have HIN := Lib.hid (And.intro hin hpl)
        have hp1 := HP.out k hlt
        have HP1 := Lib.hid hp1
        have HBL := Lib.hid hbl
        have HBP := Lib.hid hbp
        have HBI := Lib.hid hbi
        have HROW := Lib.hid hrow
        have HCUR := Lib.hid hcur
        clear hrel hin hpl hbl hbp hbi hrow hcur hp1
        go_wp2_with (refine wpList_copy_full rfl (.tmp 35) (.tmp 36) 22 22 rfl 3 Tryz.underlying22 hsz (w.heap.size + 1) n n (w.heap.size + 1 + 1) n rfl rfl cur 3 HROW.out HCUR.out (dgs f n k) HBI.out ?_)
        intro w2 hrow2 hwr2
        have b2 := hwr2.below HBL.out (show w.heap.size ≤ w.heap.size + 1 by omega) hwr
        have CLS : Hid (Calls Tryz.prog fv (#[.slice (some ⟨w.heap.size + 1, 0, none⟩) n n] ++ cap) w2 fun e w' => e = .returned (.int .i64 (G k)) ∧ Below w2.heap.size w2 w') := Lib.hid (HCL.out w2 b2 k hlt _ _ ((IBox.of_row hrow2).krow (by unfold maxLen; omega)))
        have HR2 := Lib.hid hrow2
        have HW2 := Lib.hid hwr2
        have HB2 := Lib.hid b2
        clear hrow2 hwr2 b2
        go_wp2_with fail
        go_at_fn fv
        (refine (CLS.out).mono ?_)
        rintro e w3 ⟨rfl, hb3⟩
        have hs2 := HB2.out.size
        have b3 := HB2.out.trans (hb3.mono hs2)
        have p3 := (HBP.out.wrote HW2.out (show w.heap.size ≠ w.heap.size + 1 by omega)).below hb3
        have i3 := (HBI.out.wrote HW2.out (show w.heap.size + 1 + 1 ≠ w.heap.size + 1 by omega)).below hb3
        have r3 := HR2.out.below hb3
        have p4 := p3.set hlt (G k)
        have q4 : Wrote w.heap.size 0 M w3 (w3.setCell ⟨w.heap.size, k, none⟩ (.int .i64 (G k))) := (Wrote.refl _ _ _ _).setCell (Nat.zero_le k) hlt _
        have i4 := i3.wrote q4 (show w.heap.size + 1 + 1 ≠ w.heap.size by omega)
        have r4 := r3.far (a := ⟨w.heap.size, k, none⟩) (show w.heap.size + 1 ≠ w.heap.size by omega) (.int .i64 (G k))
        have b4 : Below w.heap.size w (w3.setCell ⟨w.heap.size, k, none⟩ (.int .i64 (G k))) := b3.setCell (p := ⟨w.heap.size, k, none⟩) (Nat.le_refl _) _
        have AD := Lib.hid (advance_any a n c f (w.heap.size + 1 + 1) n k w _ H.out b4 (show w.heap.size ≤ w.heap.size + 1 + 1 by omega) h8 HP1.out HF.out ⟨by omega, by have := HMM.out; omega⟩ i4 ⟨Nat.le_refl _, by unfold maxLen; omega⟩)
        have x1 := p3.2.2 k hlt
        have x2 := p3.2.1 k
        have hk0 : (0 : Int) ≤ k := by omega
        have hk1 : (k : Int) < M := by omega
        have HEND : Hid (∀ w5, Wrote (w.heap.size + 1 + 1) 0 n (w3.setCell ⟨w.heap.size, k, none⟩ (.int .i64 (G k))) w5 → IBox w5 (w.heap.size + 1 + 1) n (dgs f n ((k : Int) + 1)) → PlSg G w w5 f n M w.heap.size (w.heap.size + 1 + 1) (w.heap.size + 1) (k + 1)) := Lib.hid (fun w5 q5 i5 => ⟨q5.below b4 (by omega) b4.size, (p4.wrote q5 (by omega)).congr (fun j hj => by
          show (if j = k then G k else if j < k then G j else 0) = if j < k + 1 then G j else 0
          by_cases e : j = k
          · subst e; rw [if_pos rfl, if_pos (by omega)]
          · rw [if_neg e]
            by_cases e2 : j < k
            · rw [if_pos e2, if_pos (by omega)]
            · rw [if_neg e2, if_neg (by omega)]), i5, _, (q5.block (w.heap.size + 1) r4.lt (by omega)).trans r4, by rw [List.size_toArray, kcs_length]⟩)
        clear b3 p3 i3 r3 p4 q4 i4 r4 b4 hb3 hs2
        go_wp2_with fail
        go_at_call 128
        (refine (AD.out).mono ?_)
        rintro e w5 ⟨rfl, q5, i5⟩
        have HN := Lib.hid (HEND.out w5 q5 i5)
        clear q5 i5
        go_wp2
        go_roundw
        case rel => exact ⟨k + 1, by omega, by go_num, HN.out⟩
        case measure => simp [intOf]; omega
      · obtain rfl : k = M := by omega
        have HE : Hid (KRow wr .i64 (some ⟨w.heap.size, 0, none⟩) k k G ∧ Below w.heap.size w wr) := Lib.hid ⟨(hbp.congr (h' := G) (fun j hj => by rw [if_pos hj])).krow (by unfold maxLen; omega), hbl⟩
        clear hrel hbl hbp hbi hrow hcur
        go_wp2
        go_ret
        exact ⟨_, rfl, HE.out⟩
end Go.Proofs.YtkljpofljkgkdaaGreatDoor

namespace Go.Proofs.YtkljpofljkgkdaaGreatDoor
open Go.RowKit
theorem itm_out {h : Nat → Int} {n k : Nat} (hk : k < n) : itm h n = h k * itm (outF h k) (n - 1) := by
  have e1 := itm_add h (k + 1) (n - (k + 1))
  rw [show k + 1 + (n - (k + 1)) = n by omega] at e1
  have e2 := itm_add (outF h k) k (n - (k + 1))
  rw [show k + (n - (k + 1)) = n - 1 by omega] at e2
  have q : shf (outF h k) k = shf h (k + 1) := by
    funext j
    show (if k + j < k then h (k + j) else h (k + j + 1)) = h (k + 1 + j)
    rw [if_neg (by omega), show k + j + 1 = k + 1 + j by omega]
  rw [e1, e2, q, itm_congr (f := outF h k) (f' := h) (n := k) (fun j hj => by unfold outF; rw [if_pos hj])]
  show itm h k * h k * _ = _
  grind
/-- Numbers from 1 on, some of them picked, no one twice: their product is not greater. -/
theorem pick_le {u : Nat → Int} (hu : ∀ a, 1 ≤ u a) : ∀ (r C : Nat) (φ : Nat → Nat), (∀ x, x < C → φ x < r) → (∀ x y, x < C → y < C → φ x = φ y → x = y) → C ≤ r ∧ itm (fun x => u (φ x)) C ≤ itm u r
  | 0, C, φ, h1, _ => by
    rcases Nat.eq_zero_or_pos C with h | h
    · subst h; exact ⟨Nat.le_refl _, Int.le_refl _⟩
    · exact absurd (h1 0 h) (Nat.not_lt_zero _)
  | r + 1, C, φ, h1, h2 => by
    have hpos : 1 ≤ itm u r := itm_ge (fun j _ => hu j)
    have hur := hu r
    by_cases hx : ∃ x, x < C ∧ φ x = r
    · obtain ⟨x0, hx0, he⟩ := hx
      have ih := pick_le hu r (C - 1) (fun x => if x < x0 then φ x else φ (x + 1)) (fun x hx => by
        show (if x < x0 then φ x else φ (x + 1)) < r
        split
        · have := h1 x (by omega)
          have hne : φ x ≠ r := fun e => by have := h2 x x0 (by omega) hx0 (e.trans he.symm); omega
          omega
        · have := h1 (x + 1) (by omega)
          have hne : φ (x + 1) ≠ r := fun e => by have := h2 (x + 1) x0 (by omega) hx0 (e.trans he.symm); omega
          omega) (fun x y hx hy e => by
        have e : (if x < x0 then φ x else φ (x + 1)) = (if y < x0 then φ y else φ (y + 1)) := e
        split at e <;> split at e
        · exact h2 x y (by omega) (by omega) e
        · have := h2 x (y + 1) (by omega) (by omega) e; omega
        · have := h2 (x + 1) y (by omega) (by omega) e; omega
        · have := h2 (x + 1) (y + 1) (by omega) (by omega) e; omega)
      refine ⟨by omega, ?_⟩
      have e1 := itm_out (h := fun x => u (φ x)) hx0
      have e2 : outF (fun x => u (φ x)) x0 = fun x => u (if x < x0 then φ x else φ (x + 1)) := by
        funext x
        unfold outF
        show (if x < x0 then u (φ x) else u (φ (x + 1))) = u (if x < x0 then φ x else φ (x + 1))
        split <;> rfl
      rw [e1, e2, he]
      show u r * _ ≤ itm u r * u r
      rw [Int.mul_comm (itm u r)]
      exact Int.mul_le_mul_of_nonneg_left ih.2 (by omega)
    · have ih := pick_le hu r C φ (fun x hx2 => by
        have := h1 x hx2
        have hne : φ x ≠ r := fun e => hx ⟨x, hx2, e⟩
        omega) h2
      refine ⟨by omega, Int.le_trans ih.2 ?_⟩
      show itm u r ≤ itm u r * u r
      have : itm u r * 1 ≤ itm u r * u r := Int.mul_le_mul_of_nonneg_left hur (by omega)
      omega
theorem rm_itm (f : Nat → Int) : ∀ n, rm f n = itm (fun j => max (f j) 1) n
  | 0 => rfl
  | n + 1 => by show rm f n * max (f n) 1 = itm _ n * max (f n) 1; rw [rm_itm f n]
theorem rm_mono (f : Nat → Int) {k n : Nat} (h : k ≤ n) : rm f k ≤ rm f n := by
  have e := rm_add f k (n - k)
  rw [show k + (n - k) = n by omega] at e
  have h1 := rm_pos f k
  have h2 := rm_pos (shf f k) (n - k)
  rw [e]
  have : rm f k * 1 ≤ rm f k * rm (shf f k) (n - k) := Int.mul_le_mul_of_nonneg_left h2 (by omega)
  omega
theorem ax_of {f : Nat → Int} : ∀ {n : Nat}, (∀ j, j < n → 0 ≤ f j) → rm f n ≤ 4096 → axB f n = true
  | 0, _, _ => rfl
  | n + 1, h, hr => by
    have h1 := rm_mono f (show n ≤ n + 1 by omega)
    show (axB f n && (decide (0 ≤ f n) && decide (rm f (n + 1) ≤ 4096))) = true
    rw [ax_of (fun j hj => h j (by omega)) (by omega), decide_eq_true (h n (by omega)), decide_eq_true hr]
    rfl
/-- Every axis comes: what is brought together is a shape. -/
theorem moved_shape {S tf : Nat → Int} {r C : Nat} (hsh : shB S r = true) (hC : ∀ x : Nat, x < C → ∃ i, i < r ∧ tf i = (x : Int)) : shB (mnF S tf r) C = true := by
  obtain ⟨h8, hax⟩ := sh_ax hsh
  have hbd := ax_bd hax
  let φ : Nat → Nat := fun x => if h : x < C then (hC x h).choose else 0
  have hφ : ∀ x, x < C → φ x < r ∧ tf (φ x) = (x : Int) := fun x hx => by
    show (if h : x < C then (hC x h).choose else 0) < r ∧ tf (if h : x < C then (hC x h).choose else 0) = _
    rw [dif_pos hx]
    exact (hC x hx).choose_spec
  have hp := pick_le (u := fun a => max (S a) 1) (fun a => by omega) r C φ (fun x hx => (hφ x hx).1) (fun x y hx hy e => by
    have h1 := (hφ x hx).2
    have h2 := (hφ y hy).2
    rw [e, h2] at h1
    omega)
  have hnn : ∀ j, j < r → 0 ≤ S j := fun j hj => ax_nn hax hj
  have hle : ∀ n, n ≤ C → rm (mnF S tf r) n ≤ itm (fun x => max (S (φ x)) 1) n := by
    intro n
    induction n with
    | zero => intro _; exact Int.le_refl _
    | succ n ih =>
      intro hn
      have h1 := ih (by omega)
      have h2 := mnF_le S tf (hφ n (by omega)).1 (hφ n (by omega)).2
      have h3 := rm_pos (mnF S tf r) n
      show rm (mnF S tf r) n * max (mnF S tf r n) 1 ≤ itm (fun x => max (S (φ x)) 1) n * max (S (φ n)) 1
      exact Int.mul_le_mul h1 (by omega) (by omega) (by omega)
  unfold shB
  have h4 := hle C (Nat.le_refl _)
  have h5 := rm_itm S r
  have h6 := hp.2
  rw [← h5] at h6
  have h7 : itm (fun x => max (S (φ x)) 1) C ≤ rm S r := h6
  rw [decide_eq_true (show C ≤ 8 by have := hp.1; omega), ax_of (fun j _ => (mnF_bd tf hnn).1) (Int.le_trans h4 (Int.le_trans h7 hbd.2.1))]
  rfl
/-- Where the elements come from when axes are brought to others. -/
def mvG (S tf : Nat → Int) (r C : Nat) (k : Nat) : Int := plc S (fun ax => dgs (mnF S tf r) C (k : Nat) (tf ax).toNat) r
theorem ent_moved1 : Enters Tryz.prog 102 := enters_of Tryz.func102 (by kernel_rfl) rfl
/-- An index of the result, told of each old axis, is an index. -/
theorem mv_in {S tf : Nat → Int} {r C k : Nat} (hs2 : shB (mnF S tf r) C = true) (ht : ∀ j, j < r → 0 ≤ tf j ∧ tf j < (C : Int)) (hk : (k : Int) < itm (mnF S tf r) C) :
    ∀ ax, ax < r → 0 ≤ dgs (mnF S tf r) C (k : Nat) (tf ax).toNat ∧ dgs (mnF S tf r) C (k : Nat) (tf ax).toNat < S ax := fun ax hax => by
  obtain ⟨_, hx⟩ := sh_ax hs2
  have h1 := itm_pos hx (show (0 : Int) ≤ (k : Nat) by omega) hk
  obtain ⟨h2, _⟩ := dgs_in h1 (show (0 : Int) ≤ (k : Nat) by omega) hk
  have h3 := ht ax hax
  have h4 := inB_at h2 (show (tf ax).toNat < C by omega)
  have h5 := mnF_le S tf hax (show tf ax = (((tf ax).toNat : Nat) : Int) by omega)
  omega
set_option maxHeartbeats 3200000 in
set_option maxRecDepth 100000 in
theorem moved1_any (gS gT : Nat) (S tf : Nat → Int) (r C M : Nat) (aS : Option Addr) (cS : Nat) (aT : Option Addr) (cT : Nat) (w : World) (hsh : shB S r = true) (hs2 : shB (mnF S tf r) C = true) (ht : ∀ j, j < r → 0 ≤ tf j ∧ tf j < (C : Int)) (hM : itm (mnF S tf r) C = (M : Nat))
    (hS : w.cell? ⟨gS, 0, none⟩ = some (.slice aS r cS)) (hS1 : gS < w.heap.size) (hT : w.cell? ⟨gT, 0, none⟩ = some (.slice aT r cT)) (hT1 : gT < w.heap.size) (kS : KRow w .i64 aS r cS (stF S r)) (kT : KRow w .i64 aT r cT tf) :
    GivesI 102 #[.pointer (some ⟨gS, 0, none⟩), .pointer (some ⟨gT, 0, none⟩)] (mvG S tf r C) (mnF S tf r) C M w := by
  intro wz hz k hk a2 c2 hx
  show Calls Tryz.prog 102 #[.slice a2 C c2, .pointer (some ⟨gS, 0, none⟩), .pointer (some ⟨gT, 0, none⟩)] wz _
  have hl := hx.len
  have hlS := kS.len
  have hcS := (hz.cell (p := ⟨gS, 0, none⟩) hS1).trans hS
  have hcT := (hz.cell (p := ⟨gT, 0, none⟩) hT1).trans hT
  have HX := Lib.hid hx
  have HKS := Lib.hid (kS.below hz)
  have HKT := Lib.hid (kT.below hz)
  have HT := Lib.hid ht
  have hmv := mv_in hs2 ht (show (k : Int) < itm (mnF S tf r) C by omega)
  have hax := (sh_ax hsh).2
  have hbd := ax_bd hax
  have HSP : Hid (∀ j, j ≤ r → 0 ≤ smP (fun ax => dgs (mnF S tf r) C (k : Nat) (tf ax).toNat) (stF S r) j ∧ smP (fun ax => dgs (mnF S tf r) C (k : Nat) (tf ax).toNat) (stF S r) j ≤ 4096) := Lib.hid (fun j hj => by
    rw [smP_plc S _ r j hj]
    have h1 := plc_lt (f := S) (g := fun ax => dgs (mnF S tf r) C (k : Nat) (tf ax).toNat) (n := j) (fun a ha => hmv a (by omega))
    have h2 := itm_add S j (r - j)
    rw [show j + (r - j) = r by omega] at h2
    have h3 : 0 ≤ itm (shf S j) (r - j) := (ax_bd (ax_shf j hax (r - j) (by omega))).2.2.1
    constructor
    · exact Int.mul_nonneg h1.1 h3
    · have := Int.mul_le_mul_of_nonneg_right (Int.le_of_lt h1.2) h3
      omega)
  have HEND : Hid (smP (fun ax => dgs (mnF S tf r) C (k : Nat) (tf ax).toNat) (stF S r) r = mvG S tf r C k) := Lib.hid (smP_all S _ r)
  have HMV : Hid (∀ ax, ax < r → 0 ≤ dgs (mnF S tf r) C (k : Nat) (tf ax).toNat * stF S r ax ∧ dgs (mnF S tf r) C (k : Nat) (tf ax).toNat * stF S r ax ≤ 4096) := Lib.hid (fun ax hlt => by
    have h1 := HSP.out ax (by omega)
    have h2 := HSP.out (ax + 1) (by omega)
    have h3 : smP (fun ax => dgs (mnF S tf r) C (k : Nat) (tf ax).toNat) (stF S r) (ax + 1) = smP (fun ax => dgs (mnF S tf r) C (k : Nat) (tf ax).toNat) (stF S r) ax + dgs (mnF S tf r) C (k : Nat) (tf ax).toNat * stF S r ax := rfl
    have h4 := (hmv ax hlt).1
    have h5 : 0 ≤ stF S r ax := (ax_bd (ax_shf (ax + 1) hax (r - (ax + 1)) (by omega))).2.2.1
    have h6 := Int.mul_nonneg h4 h5
    omega)
  have HE0 : Hid (Below wz.heap.size wz wz) := Below.refl _ _
  clear hS hT kS kT hx ht hmv hax hbd hsh hs2 hM hz
  generalize dgs (mnF S tf r) C (k : Nat) = d at *
  generalize mvG S tf r C k = z at *
  generalize stF S r = st at *
  go_enter Tryz.func102, Tryz.ntmps102
  go_wp2_with fail
  go_loopw [5, 10] (fun s i wr => ∃ j : Nat, j ≤ r ∧ i = .int .i64 j ∧ s = .int .i64 (smP (fun ax => d (tf ax).toNat) st j) ∧ wr = wz) (fun _ i _ => r - (intOf i).toNat)
  case atStart => exact ⟨0, by omega, rfl, rfl, rfl⟩
  case round =>
    obtain ⟨j, hj, rfl, rfl, rfl⟩ := hrel
    by_cases hlt : j < r
    · obtain ⟨b1, o1, e1, hb1, hc1⟩ := HKS.out.get hlt
      subst e1
      obtain ⟨b2, o2, e2, hb2, hc2⟩ := HKT.out.get hlt
      subst e2
      have hq := HT.out j hlt
      obtain ⟨q, hq2⟩ : ∃ q : Nat, tf j = q := ⟨(tf j).toNat, by omega⟩
      have hqC : q < C := by omega
      obtain ⟨b3, o3, e3, hb3, hc3⟩ := HX.out.get hqC
      subst e3
      rw [hq2] at hc2
      have hp := HMV.out j hlt
      have hs1 := (HSP.out (j + 1) (by omega))
      have hst : smP (fun ax => d (tf ax).toNat) st (j + 1) = smP (fun ax => d (tf ax).toNat) st j + d (tf j).toNat * st j := rfl
      rw [hq2, show ((q : Nat) : Int).toNat = q from rfl] at hst hp
      have w1 := IntWalk.i64_in (d q * st j) (by omega)
      have w2 := IntWalk.i64_in (smP (fun ax => d (tf ax).toNat) st j + d q * st j) (by omega)
      have HST := Lib.hid hst
      have hj0 : (0 : Int) ≤ j := by omega
      have hj1 : (j : Int) < r := by omega
      have hq3 : (0 : Int) ≤ q := by omega
      have hq4 : (q : Int) < C := by omega
      clear hq hq2 hp hs1 hst
      generalize smP (fun ax => d (tf ax).toNat) st j = s at *
      generalize d q = x at *
      generalize st j = y at *
      go_wp2
      go_roundw
      case rel => exact ⟨j + 1, by omega, by go_num, by rw [HST.out], trivial⟩
      case measure => simp [intOf]; omega
    · obtain rfl : j = r := by omega
      have hz2 := HEND.out
      rw [hz2]
      go_wp2
      go_ret
      exact ⟨rfl, HE0.out⟩
end Go.Proofs.YtkljpofljkgkdaaGreatDoor

namespace Go.Proofs.YtkljpofljkgkdaaGreatDoor
open Go.RowKit
attribute [local go_sem ↓] Go.wp_at_zero Go.wp_at_succ
set_option linter.unusedSimpArgs false in
set_option maxHeartbeats 3200000 in
set_option maxRecDepth 100000 in
theorem moved_any (cs : Array Value) (S : Nat → Int) (r : Nat) (ch : Bool) (L : Nat) (g fP : Nat → Int) (fQ : Nat → Nat) (aT : Option Addr) (cT : Nat) (tf : Nat → Int) (C M : Nat) (w : World) (h : Arr w cs S r ch L g fP fQ) (hS : In64 S r) (hsh : shB S r = true) (kT : KRow w .i64 aT r cT tf)
    (ht : ∀ j, j < r → 0 ≤ tf j ∧ tf j < (C : Int)) (hC : cnN tf r = (C : Nat)) (hs2 : shB (mnF S tf r) C = true) (hM : itm (mnF S tf r) C = (M : Nat)) :
    Calls Tryz.prog 69 #[.agg cs, .slice aT r cT] w fun e w' => ∃ cs', e = .returned (.agg cs') ∧ Arr w' cs' (mnF S tf r) C ch M (fun j => elC L g 32 (mvG S tf r C j)) (fun j => elP L fP (mvG S tf r C j)) (fun j => elQ L fQ (mvG S tf r C j)) ∧ Below w.heap.size w w' := by
  obtain ⟨na, nn, nc, ta, tn, tc, hcs, _⟩ := h.form
  subst hcs
  obtain ⟨h8, hax⟩ := sh_ax hsh
  obtain ⟨hC8, hax2⟩ := sh_ax hs2
  have hbd := ax_bd hax
  have hbd2 := ax_bd hax2
  have hnn : ∀ i, i < r → 0 ≤ S i := fun i hi => ax_nn hax hi
  have h64 : In64 (mnF S tf r) C := fun j _ => by have := mnF_bd tf hnn (j := j); omega
  have hGB : ∀ k, k < M → 0 ≤ mvG S tf r C k ∧ mvG S tf r C k < itm S r := fun k hk => plc_lt (mv_in hs2 ht (show (k : Int) < itm (mnF S tf r) C by omega))
  have hG : In64 (mvG S tf r C) M := fun k hk => by have := hGB k hk; omega
  have H := Lib.hid h
  have HT := Lib.hid kT
  have SH := Lib.hid (fun wz h => shape8_any (arrC ch ((r : Int) - 1) (dm S r) na nn nc ta tn tc) S r ch L g fP fQ wz h h8)
  have CM := Lib.hid (fun a c wz (q : KRow wz .i64 a r c S) (z : KRow wz .i64 aT r cT tf) => common_any a r c S aT cT tf C wz q z (fun j hj => by have := ht j hj; omega) hC (by omega))
  have SD : Hid (∀ a c wz, KRow wz .i64 a r c S → Calls Tryz.prog 100 #[.slice a r c] wz fun e w' => ∃ a' c', e = .returned (.slice a' r c') ∧ KRow w' .i64 a' r c' (stF S r) ∧ Below wz.heap.size wz w') := Lib.hid (fun a c wz hq => (strides_any a r c S wz hq hS).mono (by
    rintro e w' ⟨a5, m5, c5, rfl, hk, hb⟩
    rw [hsh, if_pos rfl] at hk
    obtain ⟨rfl, hk⟩ := hk
    exact ⟨_, _, rfl, hk, hb⟩))
  have PC : Hid (∀ wz a c gS gT a4 c4, KRow wz .i64 a C c (mnF S tf r) → wz.cell? ⟨gS, 0, none⟩ = some (.slice a4 r c4) → gS < wz.heap.size → KRow wz .i64 a4 r c4 (stF S r) → wz.cell? ⟨gT, 0, none⟩ = some (.slice aT r cT) → gT < wz.heap.size → KRow wz .i64 aT r cT tf →
      Calls Tryz.prog 101 #[.slice a C c, .func (.func 102) #[] #[.pointer (some ⟨gS, 0, none⟩), .pointer (some ⟨gT, 0, none⟩)]] wz fun e w' => ∃ c', e = .returned (.slice (some ⟨wz.heap.size, 0, none⟩) M c') ∧ KRow w' .i64 (some ⟨wz.heap.size, 0, none⟩) M c' (mvG S tf r C) ∧ Below wz.heap.size wz w') := Lib.hid (fun wz a c gS gT a4 c4 q1 q2 q3 q4 q5 q6 q7 =>
    placesG_any 102 _ ent_moved1 a C c (mnF S tf r) M (mvG S tf r C) wz q1 h64 hs2 hM (moved1_any gS gT S tf r C M a4 c4 aT cT wz hsh hs2 ht hM q2 q3 q5 q6 q4 q7))
  have PK : Hid (∀ a c pa pc wz, Arr wz (arrC ch ((r : Int) - 1) (dm S r) na nn nc ta tn tc) S r ch L g fP fQ → KRow wz .i64 a C c (mnF S tf r) → KRow wz .i64 pa M pc (mvG S tf r C) → Calls Tryz.prog 86 #[.agg (arrC ch ((r : Int) - 1) (dm S r) na nn nc ta tn tc), .slice a C c, .slice pa M pc] wz fun e w' => ∃ cs', e = .returned (.tuple #[.agg cs', .bool true]) ∧ Arr w' cs' (mnF S tf r) C ch M (fun j => elC L g 32 (mvG S tf r C j)) (fun j => elP L fP (mvG S tf r C j)) (fun j => elQ L fQ (mvG S tf r C j)) ∧ Below wz.heap.size wz w') := Lib.hid (fun a c pa pc wz q1 q2 q3 => (pick8_any (arrC ch ((r : Int) - 1) (dm S r) na nn nc ta tn tc) S r ch L g fP fQ a C c (mnF S tf r) pa M pc (mvG S tf r C) wz q1 q2 h64 q3 hG (by omega)).mono (by
    rintro e w' ⟨cs', he, hcs, hb⟩
    rw [hs2, hM, decide_eq_true rfl, Bool.true_and] at he hcs
    rw [if_pos rfl] at hcs
    exact ⟨cs', he, hcs, hb⟩))
  have BB := Lib.hid ((((Bag.start w).newRow (arrC ch ((r : Int) - 1) (dm S r) na nn nc ta tn tc) 34).newRow #[.slice aT r cT] 22).newRow zerC 34)
  simp only [World.size_alloc] at BB
  generalize (fun j => elC L g 32 (mvG S tf r C j)) = eC at *
  generalize (fun j => elP L fP (mvG S tf r C j)) = eP at *
  generalize (fun j => elQ L fQ (mvG S tf r C j)) = eQ at *
  clear h hS hsh kT ht hC hs2 hM hax hax2 hbd hbd2 hnn h64 hGB hG
  unfold arrC
  go_enter Tryz.func69, Tryz.ntmps69
  go_wp2_with fail
  have hWW := BB.out.below
  unfold arrC zerC at hWW
  unfold zerC at BB
  unfold arrC at BB
  generalize hW : (((w.alloc (.cells _ 34)).alloc (.cells #[.slice aT r cT] 22)).alloc (.cells _ 34)) = WW at *
  clear hW hWW
  refine wp_region_inv2 ⟨(fun j => ([[10], [11], [12], [13], [5]] : List (List Nat)).getD j []), (fun j => ([[], [0], [], [0, 1, 2], [0, 1, 2, 3]] : List (List Nat)).getD j []), []⟩ (fun jj vv yy => match jj with | 0 => vv = [some (.agg (arrC ch ((r : Int) - 1) (dm S r) na nn nc ta tn tc))] | 1 => ∃ (a1 : Option Addr), ∃ (c1 : Nat), vv = [some (.slice a1 r c1)] ∧ KRow yy .i64 a1 r c1 S | 2 => vv = [some (.slice aT r cT)] | 3 => ∃ (a3 : Option Addr), ∃ (c3 : Nat), vv = [some (.slice a3 C c3)] ∧ KRow yy .i64 a3 C c3 (mnF S tf r) | 4 => ∃ (a3 : Option Addr), ∃ (c3 : Nat), vv = [some (.slice a3 C c3)] ∧ KRow yy .i64 a3 C c3 (mnF S tf r) | _ => True) (Bag WW (fun _ => True)) (by kernel_rfl) (by kernel_rfl) (by kernel_rfl) (Bag.start WW).drew ?_ ?_ ?_
  · intro jj vv yw yw2 hb h
    match jj, h with
    | 0, h => exact h
    | 1, ⟨a1, c1, e1, g1_0⟩ => exact Exists.intro a1 (Exists.intro c1 (And.intro e1 (g1_0.below hb)))
    | 2, h => exact h
    | 3, ⟨a3, c3, e3, g3_0⟩ => exact Exists.intro a3 (Exists.intro c3 (And.intro e3 (g3_0.below hb)))
    | 4, ⟨a3, c3, e4, g4_0⟩ => exact Exists.intro a3 (Exists.intro c3 (And.intro e4 (g4_0.below hb)))
    | _ + 5, h => exact h
  · intro ac yw hsz hdf hold hB hp
    obtain ⟨a3, c3, e3, g3_0⟩ := hp 4 (by decide)
    have t5 : ac.tmps[5]? = some (.slice a3 C c3) := (List.cons.inj e3).1
    have BB := Lib.hid ((BB.out.go hB.below).krow g3_0)
    have t2 : ac.tmps[2]? = some (.pointer (some ⟨w.heap.size, 0, none⟩)) := hold 2 (by kernel_rfl)
    have t3 : ac.tmps[3]? = some (.pointer (some ⟨w.heap.size + 1, 0, none⟩)) := hold 3 (by kernel_rfl)
    have t4 : ac.tmps[4]? = some (.pointer (some ⟨w.heap.size + 1 + 1, 0, none⟩)) := hold 4 (by kernel_rfl)
    have HR2 := Lib.hid BB.out.now.2.2.2.1
    clear hold hp g3_0
    obtain ⟨TW, hTW⟩ : ∃ TW : Nat → Value, ∀ i, (ac.tmps[i]?).getD undef = TW i := ⟨_, fun _ => rfl⟩
    have f2 := (hTW 2).symm.trans (congrArg (fun x => Option.getD x undef) t2)
    have f3 := (hTW 3).symm.trans (congrArg (fun x => Option.getD x undef) t3)
    have f4 := (hTW 4).symm.trans (congrArg (fun x => Option.getD x undef) t4)
    have f5 := (hTW 5).symm.trans (congrArg (fun x => Option.getD x undef) t5)
    have hac := act_eq (n := 28) hsz TW hTW
    rw [show ((List.range 28).map TW).toArray = #[TW 0, TW 1, TW 2, TW 3, TW 4, TW 5, TW 6, TW 7, TW 8, TW 9, TW 10, TW 11, TW 12, TW 13, TW 14, TW 15, TW 16, TW 17, TW 18, TW 19, TW 20, TW 21, TW 22, TW 23, TW 24, TW 25, TW 26, TW 27] from rfl, f2, f3, f4, f5, hdf] at hac
    simp only [Option.getD_some] at hac
    subst hac
    clear hTW f2 f3 f4 f5
    go_wp2_with (refine ld_arr rfl (.tmp 2) rfl w.heap.size rfl HR2.out ?_)
    go_at_call 38
    (with_reducible refine (SH.out _ ?_).mono ?_)
    · exact H.out.below BB.out.below
    rintro e w2 ⟨a2, c2, rfl, hk2, hb2⟩
    have BB := Lib.hid ((BB.out.go hb2).krow hk2)
    clear hk2 hb2
    go_wp2_with fail
    go_at_call 100
    (with_reducible refine (SD.out _ _ _ ?_).mono ?_)
    · exact BB.out.now.1
    rintro e w4 ⟨a4, c4, rfl, hk4, hb4⟩
    have BB := Lib.hid (((BB.out.go hb4).krow hk4).newRow #[.slice a4 r c4] 22)
    clear hk4 hb4
    go_wp2_with fail
    go_at_call 101
    (refine (PC.out _ _ _ _ _ _ _ ?_ (BB.out.now.1.cell 0) BB.out.now.1.lt BB.out.now.2.1 (BB.out.now.2.2.2.2.2.1.cell 0) BB.out.now.2.2.2.2.2.1.lt (HT.out.below BB.out.below)).mono ?_)
    · exact BB.out.now.2.2.2.1
    rintro e w5 ⟨c5, rfl, hk5, hb5⟩
    rw [World.size_alloc] at hk5
    have BB := Lib.hid ((BB.out.go hb5).krow hk5)
    have HR3 := Lib.hid BB.out.now.2.2.2.2.2.2.2.1
    clear hk5 hb5
    go_wp2_with (refine ld_arr rfl (.tmp 2) rfl w.heap.size rfl HR3.out ?_)
    go_at_call 86
    (with_reducible refine (PK.out _ _ _ _ _ (H.out.below BB.out.below) BB.out.now.2.2.2.2.1 BB.out.now.1).mono ?_)
    rintro e w6 ⟨cs6, rfl, hcs, hb6⟩
    have B6 := BB.out.go hb6
    have HZ := Lib.hid B6.now.2.2.2.2.2.1
    have HBB := Lib.hid B6.below
    have HCS := Lib.hid hcs
    obtain ⟨na3, nn3, nc3, ta3, tn3, tc3, hcs3, _⟩ := hcs.form
    subst hcs3
    have hb7 : Below w6.heap.size w6 (w6.alloc (.cells (arrC ch ((C : Int) - 1) (dm (mnF S tf r) C) na3 nn3 nc3 ta3 tn3 tc3) 34)) := (Below.refl _ _).alloc (Nat.le_refl _) _
    have HR6 := Lib.hid (Row.new w6 34 (arrC ch ((C : Int) - 1) (dm (mnF S tf r) C) na3 nn3 nc3 ta3 tn3 tc3))
    have HZ7 := Lib.hid (HZ.out.below hb7)
    have HE : Hid (Arr ((w6.alloc (.cells (arrC ch ((C : Int) - 1) (dm (mnF S tf r) C) na3 nn3 nc3 ta3 tn3 tc3) 34)).setRow (w.heap.size + 1 + 1) (arrC ch ((C : Int) - 1) (dm (mnF S tf r) C) na3 nn3 nc3 ta3 tn3 tc3)) (arrC ch ((C : Int) - 1) (dm (mnF S tf r) C) na3 nn3 nc3 ta3 tn3 tc3) (mnF S tf r) C ch M eC eP eQ ∧ Below w.heap.size w ((w6.alloc (.cells (arrC ch ((C : Int) - 1) (dm (mnF S tf r) C) na3 nn3 nc3 ta3 tn3 tc3) 34)).setRow (w.heap.size + 1 + 1) (arrC ch ((C : Int) - 1) (dm (mnF S tf r) C) na3 nn3 nc3 ta3 tn3 tc3))) :=
      Lib.hid ⟨(HCS.out.below hb7).put HZ7.out _, below_put (HBB.out.trans (hb7.mono HBB.out.size)) (by omega) _⟩
    clear hcs hb6 B6 hb7
    unfold arrC
    unfold arrC at HZ7
    go_wp2_with (first
      | (refine ld_arr rfl (.tmp 8) rfl w6.heap.size rfl HR6.out ?_)
      | (refine st_arr rfl (.tmp 4) (.tmp 27) rfl (w.heap.size + 1 + 1) rfl _ _ _ _ _ _ _ _ _ rfl HZ7.out rfl ?_))
    exact bodyPost_ret (res_arr Tryz.results69 rfl (HZ7.out.put _) rfl) rfl ⟨_, rfl, HE.out⟩
  refine Stps2.cons (o := _) ?_ ?_
  · intro ac yw hsz hold hB hp K hK
    have t2 : ac.tmps[2]? = some (.pointer (some ⟨w.heap.size, 0, none⟩)) := hold 2 (by kernel_rfl)
    clear hold hp hsz
    rw [if_pos (by rfl)]
    refine ld8 2 rfl (w.heap.size) ((arrC ch ((r : Int) - 1) (dm S r) na nn nc ta tn tc)) t2 ((BB.out.go hB.below).now.2.2.1) (rfl) ?_
    exact hK.out _ _ ⟨hB, rfl, Nat.le_refl _, .inl (Below.refl _ _), fun h => absurd h (by decide)⟩
  refine Stps2.cons (o := _) ?_ ?_
  · intro ac yw hsz hold hB hp K hK
    have e0 := hp 0 (by decide)
    have t10 : ac.tmps[10]? = some (.agg (arrC ch ((r : Int) - 1) (dm S r) na nn nc ta tn tc)) := (List.cons.inj e0).1
    clear hold hp hsz e0
    go_simp
    (go_at_call 38; (with_reducible refine (SH.out _ (H.out.below (BB.out.go hB.below).below)).mono ?_); rintro e wz ⟨a1, c1, rfl, h1_0, hbz⟩)
    exact hK.out _ _ ⟨hB.go hbz, Exists.intro a1 (Exists.intro c1 (And.intro rfl h1_0)), hbz.size, .inl hbz, fun h => absurd h (by decide)⟩
  refine Stps2.cons (o := _) ?_ ?_
  · intro ac yw hsz hold hB hp K hK
    have t3 : ac.tmps[3]? = some (.pointer (some ⟨w.heap.size + 1, 0, none⟩)) := hold 3 (by kernel_rfl)
    clear hold hp hsz
    have v0 : yw.cell? ⟨w.heap.size + 1, 0, none⟩ = some (.slice aT r cT) := (BB.out.go hB.below).now.2.1.cell 0
    go_simp
    exact hK.out _ _ ⟨hB, rfl, Nat.le_refl _, .inl (Below.refl _ _), fun h => absurd h (by decide)⟩
  refine Stps2.cons (o := _) ?_ ?_
  · intro ac yw hsz hold hB hp K hK
    obtain ⟨a1_1, c1_1, e1, g1_0⟩ := hp 1 (by decide)
    have t11 : ac.tmps[11]? = some (.slice a1_1 r c1_1) := (List.cons.inj e1).1
    have e2 := hp 2 (by decide)
    have t12 : ac.tmps[12]? = some (.slice aT r cT) := (List.cons.inj e2).1
    clear hold hp hsz e1 e2
    go_simp
    (go_at_call 99; (with_reducible refine (CM.out _ _ _ g1_0 (HT.out.below (BB.out.go hB.below).below)).mono ?_); rintro e wz ⟨a3, c3, rfl, h3_0, hbz⟩)
    exact hK.out _ _ ⟨hB.go hbz, Exists.intro a3 (Exists.intro c3 (And.intro rfl h3_0)), hbz.size, .inl hbz, fun h => absurd h (by decide)⟩
  refine Stps2.cons (o := _) ?_ ?_
  · intro ac yw hsz hold hB hp K hK
    obtain ⟨a3_3, c3_3, e3, g3_0⟩ := hp 3 (by decide)
    have t13 : ac.tmps[13]? = some (.slice a3_3 C c3_3) := (List.cons.inj e3).1
    clear hold hp hsz e3
    go_simp
    exact hK.out _ _ ⟨hB, Exists.intro a3_3 (Exists.intro c3_3 (And.intro rfl g3_0)), Nat.le_refl _, .inl (Below.refl _ _), fun h => absurd h (by decide)⟩
  exact Stps2.nil _
end Go.Proofs.YtkljpofljkgkdaaGreatDoor

namespace Go.Proofs.YtkljpofljkgkdaaGreatDoor
open Go.RowKit
/-- Do the first numbers lie from the origin on, and below it and how many there are? -/
def rgB (f : Nat → Int) (o : Int) (m : Nat) : Nat → Bool
  | 0 => true
  | k + 1 => rgB f o m k && (decide (o ≤ f k) && decide (f k - o < (m : Int)))
theorem rgB_at {f : Nat → Int} {o : Int} {m : Nat} : ∀ {n j : Nat}, rgB f o m n = true → j < n → o ≤ f j ∧ f j - o < (m : Int)
  | n + 1, j, h, hj => by
    unfold rgB at h
    rw [Bool.and_eq_true, Bool.and_eq_true, decide_eq_true_eq, decide_eq_true_eq] at h
    rcases Nat.lt_or_ge j n with h1 | h1
    · exact rgB_at h.1 h1
    · obtain rfl : j = n := by omega
      exact h.2
theorem rgB_no {f : Nat → Int} {o : Int} {m n j : Nat} (hj : j < n) (h : ¬ (o ≤ f j ∧ f j - o < (m : Int))) : rgB f o m n = false := by
  cases hx : rgB f o m n with
  | false => rfl
  | true => exact absurd (rgB_at hx hj) h
/-- Do the first places all come among the numbers? -/
def alB (t : Nat → Int) (n : Nat) : Nat → Bool
  | 0 => true
  | k + 1 => alB t n k && hasB t (k : Nat) n
theorem alB_at {t : Nat → Int} {n : Nat} : ∀ {m j : Nat}, alB t n m = true → j < m → hasB t (j : Nat) n = true
  | m + 1, j, h, hj => by
    unfold alB at h
    rw [Bool.and_eq_true] at h
    rcases Nat.lt_or_ge j m with h1 | h1
    · exact alB_at h.1 h1
    · obtain rfl : j = m := by omega
      exact h.2
theorem alB_no {t : Nat → Int} {n m j : Nat} (hj : j < m) (h : hasB t (j : Nat) n = false) : alB t n m = false := by
  cases hx : alB t n m with
  | false => rfl
  | true => rw [alB_at hx hj] at h; cases h
/-- The axes, counted from 0. -/
def toF (f : Nat → Int) (o : Int) : Nat → Int := fun j => f j - o
/-- Are they axes? -/
def mvB (f : Nat → Int) (o : Int) (n : Nat) : Bool := rgB f o n n && alB (toF f o) n (cnN (toF f o) n).toNat
def AxTold (f : Nat → Int) (o : Int) (n : Nat) (w w' : World) (e : Ending) : Prop := ∃ a m c, e = .returned (.tuple #[.slice a m c, .bool (mvB f o n)]) ∧ (mvB f o n = true → m = n ∧ KRow w' .i64 a n c (toF f o)) ∧ Below w.heap.size w w'
set_option linter.unusedSimpArgs false in
set_option maxHeartbeats 3200000 in
set_option maxRecDepth 100000 in
theorem axes_any (a : Option Addr) (n c : Nat) (f : Nat → Int) (o : Int) (w : World) (h : KRow w .i64 a n c f) (hf : In64 f n) (ho : 0 ≤ o ∧ o ≤ 1) (hn : n ≤ 4096) :
    Calls Tryz.prog 68 #[.slice a n c, .int .i64 o] w fun e w' => AxTold f o n w w' e := by
  have hl := h.len
  obtain ⟨i0, hi, hz0, hz1, hz2⟩ := info_parts infoI
  have hmk := fun wz => run_make (P := Tryz.prog) wz 22 3 i0 _ Tryz.underlying22 hi hz0 .i64 .i64 n n (by omega) (by omega) (by rw [hz2]; omega) (by omega)
  simp only [Int.toNat_natCast, hz1, Nat.mul_one] at hmk
  have H := Lib.hid h
  have HF := Lib.hid hf
  have H0 : Hid (Below w.heap.size w (w.alloc (.cells (madeCells (Value.cells (.int .i64 0)) n) 3)) ∧ KTo (w.alloc (.cells (madeCells (Value.cells (.int .i64 0)) n) 3)) w.heap.size n 0 (toF f o) ∧ rgB f o n 0 = true) :=
    Lib.hid ⟨(Below.refl _ _).alloc (Nat.le_refl _) _, KTo.made w n 3 _ rfl, rfl⟩
  obtain ⟨ho0, ho1⟩ := ho
  have hnn : (0 : Int) ≤ n := by omega
  clear h hf hi hz0 hz1 hz2
  go_enter Tryz.func68, Tryz.ntmps68
  go_wp2_with fail
  go_loopw [15] (fun i wr => ∃ k : Nat, k ≤ n ∧ i = .int .i64 k ∧ Hid (Below w.heap.size w wr ∧ KTo wr w.heap.size n k (toF f o) ∧ rgB f o n k = true)) (fun i _ => n - (intOf i).toNat)
  case atStart => exact ⟨0, by omega, rfl, H0.out⟩
  case round =>
    obtain ⟨k, hk, rfl, hrel⟩ := hrel
    obtain ⟨hbl, hto, hrg⟩ := hrel.out
    by_cases hlt : k < n
    · obtain ⟨b, off, hab, hb, hc⟩ := (H.out.below hbl).get hlt
      subst hab
      have hfk := HF.out k hlt
      have hk0 : (0 : Int) ≤ k := by omega
      have hk1 : (k : Int) < n := by omega
      by_cases h1 : f k < o
      · have hno : mvB f o n = false := by unfold mvB; rw [rgB_no hlt (by omega)]; rfl
        have HE : Hid (AxTold f o n w wr (.returned (.tuple #[.slice none 0 0, .bool false]))) := Lib.hid ⟨none, 0, 0, by rw [hno], fun e => (by rw [hno] at e; cases e), hbl⟩
        clear hrel hbl hto hrg hno
        generalize f k = x at *
        go_wp2
        exact bodyPost_ret (v := .tuple #[.slice none 0 0, .bool false]) (by simp [results, Tryz.results68, go_sem]) rfl HE.out
      · have hy0 : 0 ≤ f k := by omega
        have hyo : o ≤ f k := by omega
        have u1 := IntWalk.u64_in (f k) (by omega)
        have u2 := IntWalk.u64_in o (by omega)
        have u3 := IntWalk.u64_in (f k - o) (by omega)
        have u4 := IntWalk.u64_in (n : Int) (by omega)
        have w1 := IntWalk.i64_in (f k - o) (by omega)
        have d1 : decide (f k < o) = false := decide_eq_false h1
        obtain ⟨⟨z0, x1⟩, y1⟩ := hto.place hlt
        by_cases h2 : f k - o < (n : Int)
        · have d2 : decide ((n : Int) ≤ f k - o) = false := decide_eq_false (by omega)
          have HN : Hid (Below w.heap.size w (wr.setCell ⟨w.heap.size, k, none⟩ (.int .i64 (f k - o))) ∧ KTo (wr.setCell ⟨w.heap.size, k, none⟩ (.int .i64 (f k - o))) w.heap.size n (k + 1) (toF f o) ∧ rgB f o n (k + 1) = true) :=
            Lib.hid ⟨hbl.setCell (p := ⟨w.heap.size, k, none⟩) (Nat.le_refl _) _, hto.step hlt, by show (rgB f o n k && (decide (o ≤ f k) && decide (f k - o < (n : Int)))) = true; rw [hrg, decide_eq_true hyo, decide_eq_true h2]; rfl⟩
          clear hrel hbl hto hrg h1 h2 hyo hfk
          generalize f k = x at *
          go_wp2
          go_roundw
          case rel => exact ⟨k + 1, by omega, by go_num, HN.out⟩
          case measure => simp [intOf]; omega
        · have hno : mvB f o n = false := by unfold mvB; rw [rgB_no hlt (by omega)]; rfl
          have d2 : decide ((n : Int) ≤ f k - o) = true := decide_eq_true (by omega)
          have HE : Hid (AxTold f o n w wr (.returned (.tuple #[.slice none 0 0, .bool false]))) := Lib.hid ⟨none, 0, 0, by rw [hno], fun e => (by rw [hno] at e; cases e), hbl⟩
          clear hrel hbl hto hrg hno h1 h2 hyo hfk
          generalize f k = x at *
          go_wp2
          exact bodyPost_ret (v := .tuple #[.slice none 0 0, .bool false]) (by simp [results, Tryz.results68, go_sem]) rfl HE.out
    · obtain rfl : k = n := by omega
      have hk := hto.done (by unfold maxLen; omega)
      have hti : ∀ j, j < k → 0 ≤ toF f o j ∧ toF f o j ≤ 4096 := fun j hj => by
        have := rgB_at hrg hj
        show 0 ≤ f j - o ∧ f j - o ≤ 4096
        omega
      have hcb := cnN_bd (f := toF f o) (B := 4096) (by omega) (n := k) (fun j hj => by have := rgB_at hrg hj; show f j - o + 1 ≤ 4096; omega)
      obtain ⟨C, hC⟩ : ∃ C : Nat, cnN (toF f o) k = C := ⟨(cnN (toF f o) k).toNat, by omega⟩
      have CT := Lib.hid (fun wz (q : KRow wz .i64 (some ⟨w.heap.size, 0, none⟩) k k (toF f o)) => mcount_any _ k k (toF f o) wz q hti)
      have CN := Lib.hid (fun x wz (q : KRow wz .i64 (some ⟨w.heap.size, 0, none⟩) k k (toF f o)) => containsI_any _ k k (toF f o) x wz q)
      have hmv : mvB f o k = alB (toF f o) k C := by unfold mvB; rw [hrg, hC]; rfl
      rw [hC] at CT
      have HNO : Hid (∀ q, q < C → hasB (toF f o) (q : Nat) k = false → mvB f o k = false) := Lib.hid (fun q hq e => by rw [hmv]; exact alB_no hq e)
      have HMV := Lib.hid hmv
      have HK := Lib.hid hk
      have HBL := Lib.hid hbl
      have hC4 : C ≤ 4096 := by omega
      clear hrel hbl hto hrg hti hcb hC hmv hk H0
      obtain ⟨y0, hy0⟩ : ∃ y0, y0 = wr := ⟨_, rfl⟩
      subst hy0
      go_wp2_with fail
      go_at_call 97
      (with_reducible refine (CT.out _ HK.out).mono ?_)
      rintro e w2 ⟨rfl, rfl⟩
      go_wp2_with fail
      go_loopw [43] (fun i wr => ∃ q : Nat, q ≤ C ∧ i = .int .i64 q ∧ wr = y0 ∧ Hid (alB (toF f o) k q = true)) (fun i _ => C - (intOf i).toNat)
      case atStart => exact ⟨0, by omega, rfl, rfl, rfl⟩
      case round =>
        obtain ⟨q, hq, rfl, rfl, hrel⟩ := hrel
        by_cases hlt2 : q < C
        · have hq0 : (0 : Int) ≤ q := by omega
          have hq1 : (q : Int) < C := by omega
          cases hh : hasB (toF f o) (q : Nat) k with
          | true =>
            have CNq := Lib.hid (CN.out (q : Nat))
            rw [hh] at CNq
            have HN : Hid (alB (toF f o) k (q + 1) = true) := Lib.hid (by show (alB (toF f o) k q && hasB (toF f o) (q : Nat) k) = true; rw [hrel.out, hh]; rfl)
            clear hrel hh
            go_wp2_with fail
            go_at_call 98
            (with_reducible refine (CNq.out _ HK.out).mono ?_)
            rintro e w3 ⟨rfl, rfl⟩
            go_wp2
            go_roundw
            case rel => exact ⟨q + 1, by omega, by go_num, trivial, HN.out⟩
            case measure => simp [intOf]; omega
          | false =>
            have CNq := Lib.hid (CN.out (q : Nat))
            rw [hh] at CNq
            have hno := HNO.out q hlt2 hh
            have HE : Hid (∀ wz, wz = wr → AxTold f o k w wz (.returned (.tuple #[.slice none 0 0, .bool false]))) := Lib.hid (fun wz e => by subst e; exact ⟨none, 0, 0, by rw [hno], fun e => (by rw [hno] at e; cases e), HBL.out⟩)
            clear hrel hh hno
            go_wp2_with fail
            go_at_call 98
            (with_reducible refine (CNq.out _ HK.out).mono ?_)
            rintro e w3 ⟨rfl, rfl⟩
            go_wp2
            exact bodyPost_ret (v := .tuple #[.slice none 0 0, .bool false]) (by simp [results, Tryz.results68, go_sem]) rfl (HE.out _ rfl)
        · obtain rfl : q = C := by omega
          have hyes : mvB f o k = true := by rw [HMV.out, hrel.out]
          have HE : Hid (AxTold f o k w wr (.returned (.tuple #[.slice (some ⟨w.heap.size, 0, none⟩) k k, .bool true]))) := Lib.hid ⟨_, k, k, by rw [hyes], fun _ => ⟨rfl, HK.out⟩, HBL.out⟩
          clear hrel hyes
          go_wp2
          exact bodyPost_ret (v := .tuple #[.slice (some ⟨w.heap.size, 0, none⟩) k k, .bool true]) (by simp [results, Tryz.results68, go_sem]) rfl HE.out
end Go.Proofs.YtkljpofljkgkdaaGreatDoor

namespace Go.Proofs.YtkljpofljkgkdaaGreatDoor
open Go.RowKit
/-- The error of TransposeBy. -/
def tbE (r0 : Nat) (ch0 : Bool) (L0 : Nat) (P0 : Nat → Int) (Q0 : Nat → Nat) (r : Nat) (o : Int) : Int :=
  if liE r0 (whC ch0 L0 P0 Q0) = 0 then (if L0 = r then (if mvB P0 o L0 then 0 else 22) else 24) else liE r0 (whC ch0 L0 P0 Q0)
theorem liE_whole {r : Nat} {b : Bool} (h : liE r b = 0) : b = true := by
  unfold liE at h
  split at h
  · cases h
  · cases b
    · cases h
    · rfl
/-- What axes that are good bring. -/
theorem mv_good {f S : Nat → Int} {o : Int} {r : Nat} (hm : mvB f o r = true) (hr : r ≤ 8) (hsh : shB S r = true) : ∃ C M : Nat, cnN (toF f o) r = C ∧ itm (mnF S (toF f o) r) C = M ∧ (∀ j, j < r → 0 ≤ toF f o j ∧ toF f o j < (C : Int)) ∧ shB (mnF S (toF f o) r) C = true := by
  unfold mvB at hm
  rw [Bool.and_eq_true] at hm
  obtain ⟨h1, h2⟩ := hm
  have hb := cnN_bd (f := toF f o) (B := 8) (by omega) (n := r) (fun j hj => by have := rgB_at h1 hj; show f j - o + 1 ≤ 8; omega)
  obtain ⟨C, hC⟩ : ∃ C : Nat, cnN (toF f o) r = C := ⟨(cnN (toF f o) r).toNat, by omega⟩
  rw [hC, Int.toNat_natCast] at h2
  have hs := moved_shape (S := S) (tf := toF f o) (C := C) hsh (fun x hx => hasB_yes.1 (alB_at h2 hx))
  have h3 := ax_bd (sh_ax hs).2
  refine ⟨C, (itm (mnF S (toF f o) r) C).toNat, hC, by omega, fun j hj => ?_, hs⟩
  have h4 := rgB_at h1 hj
  have h5 := cnN_gt (f := toF f o) hj
  rw [hC] at h5
  exact ⟨by show 0 ≤ f j - o; omega, h5⟩
set_option linter.unusedSimpArgs false in
set_option maxHeartbeats 3200000 in
set_option maxRecDepth 100000 in
theorem transposeBy_any (cs0 : Array Value) (S0 : Nat → Int) (r0 : Nat) (ch0 : Bool) (L0 : Nat) (g0 P0 : Nat → Int) (Q0 : Nat → Nat) (cs : Array Value) (S : Nat → Int) (r : Nat) (ch : Bool) (L : Nat) (g fP : Nat → Int) (fQ : Nat → Nat) (o : Int) (w : World) (h0 : Arr w cs0 S0 r0 ch0 L0 g0 P0 Q0) (h : Arr w cs S r ch L g fP fQ)
    (hr0 : r0 ≤ 8) (hQ0 : ch0 = false → ∀ j, j < L0 → 0 < Q0 j) (hL0 : L0 ≤ 4096) (hS : In64 S r) (hsh : shB S r = true) (ho : 0 ≤ o ∧ o ≤ 1) :
    Calls Tryz.prog 24 #[.agg cs0, .agg cs, .int .i64 o] w fun e w' => MoTold (tbE r0 ch0 L0 P0 Q0 r o) (mnF S (toF P0 o) r) (cnN (toF P0 o) r).toNat ch (itm (mnF S (toF P0 o) r) (cnN (toF P0 o) r).toNat).toNat (fun j => elC L g 32 (mvG S (toF P0 o) r (cnN (toF P0 o) r).toNat j)) (fun j => elP L fP (mvG S (toF P0 o) r (cnN (toF P0 o) r).toNat j)) (fun j => elQ L fQ (mvG S (toF P0 o) r (cnN (toF P0 o) r).toNat j)) w w' e := by
  obtain ⟨nb, nnb, ncb, tb, tnb, tcb, hcs0, _⟩ := h0.form
  subst hcs0
  obtain ⟨na, nn, nc, ta, tn, tc, hcs, _⟩ := h.form
  subst hcs
  obtain ⟨h8, hax⟩ := sh_ax hsh
  have H0 := Lib.hid h0
  have H := Lib.hid h
  have LI := Lib.hid (fun wz h => list_any (arrC ch0 ((r0 : Int) - 1) (dm S0 r0) nb nnb ncb tb tnb tcb) S0 r0 ch0 L0 g0 P0 Q0 wz h hr0 hQ0 (by omega))
  have RK := Lib.hid (fun wz h => rank8_any (arrC ch ((r : Int) - 1) (dm S r) na nn nc ta tn tc) S r ch L g fP fQ wz h (by omega))
  have BB := Lib.hid ((((Bag.start w).newRow (arrC ch0 ((r0 : Int) - 1) (dm S0 r0) nb nnb ncb tb tnb tcb) 34).newRow (arrC ch ((r : Int) - 1) (dm S r) na nn nc ta tn tc) 34).newRow zerC 34)
  simp only [World.size_alloc] at BB
  have HR1 := Lib.hid BB.out.now.2.2.1
  have HNO : Hid (∀ E S r ch L g fP fQ wz, E ≠ 0 → Below w.heap.size w wz → MoTold E S r ch L g fP fQ w (wz.setRow (w.heap.size + 1 + 1) zerC) (.returned (.tuple #[.agg zerC, .int .i64 E]))) := Lib.hid (fun E S r ch L g fP fQ wz hE hb => MoTold.no hE (below_put hb (show w.heap.size ≤ w.heap.size + 1 + 1 by omega) zerC))
  unfold LiTold at LI
  unfold tbE
  have HI : Hid (liE r0 (whC ch0 L0 P0 Q0) = 0 → In64 P0 L0) := Lib.hid (fun e => whC_in (liE_whole e))
  generalize liE r0 (whC ch0 L0 P0 Q0) = E0 at *
  clear h0 h hQ0
  by_cases hE : E0 = 0
  · rw [if_pos hE]
    have hin := HI.out hE
    subst hE
    by_cases hlr : L0 = r
    · subst hlr
      rw [if_pos rfl]
      have d1 : ((L0 : Int) != L0) = false := bne_self_eq_false _
      have AX := Lib.hid (fun a c wz (q : KRow wz .i64 a L0 c P0) => axes_any a L0 c P0 o wz q hin ho (by omega))
      unfold AxTold at AX
      cases hmv : mvB P0 o L0 with
      | false =>
        rw [if_neg (by decide)]
        rw [hmv] at AX
        generalize (cnN (toF P0 o) L0).toNat = C at *
        generalize (fun j => elC L g 32 (mvG S (toF P0 o) L0 C j)) = eC at *
        generalize (fun j => elP L fP (mvG S (toF P0 o) L0 C j)) = eP at *
        generalize (fun j => elQ L fQ (mvG S (toF P0 o) L0 C j)) = eQ at *
        clear HI hin hS hsh hax hmv ho
        unfold arrC
        go_enter Tryz.func24, Tryz.ntmps24
        go_wp2_with (refine ld_arr rfl (.tmp 3) rfl w.heap.size rfl HR1.out ?_)
        go_at_call 42
        (with_reducible refine (LI.out _ ?_).mono ?_)
        · exact H0.out.below BB.out.below
        rintro e w2 ⟨a6, m6, c6, rfl, hk6, hb2⟩
        obtain ⟨hm6, hk7⟩ := hk6 trivial
        clear hk6
        subst m6
        have BB := Lib.hid ((BB.out.go hb2).krow hk7)
        have HR2 := Lib.hid BB.out.now.2.2.1
        clear hk7 hb2
        go_wp2_with (refine ld_arr rfl (.tmp 4) rfl (w.heap.size + 1) rfl HR2.out ?_)
        go_at_call 33
        (with_reducible refine (RK.out _ ?_).mono ?_)
        · exact H.out.below BB.out.below
        rintro e w3 ⟨rfl, hb3⟩
        have BB := Lib.hid (BB.out.go hb3)
        clear hb3
        go_wp2_with fail
        go_at_call 68
        (with_reducible refine (AX.out _ _ _ BB.out.now.1).mono ?_)
        rintro e w4 ⟨a7, m7, c7, rfl, hk7, hb4⟩
        have BB := Lib.hid (BB.out.go hb4)
        have HZ := Lib.hid BB.out.now.2.1
        have HE := Lib.hid (HNO.out 22 (mnF S (toF P0 o) L0) C ch (itm (mnF S (toF P0 o) L0) C).toNat eC eP eQ _ (by decide) BB.out.below)
        clear hb4 hk7
        go_wp2_with (refine st_arr rfl (.tmp 6) (.tmp 35) rfl (w.heap.size + 1 + 1) rfl false 0 (fun _ => 0) none 0 0 none 0 0 rfl HZ.out rfl ?_)
        exact bodyPost_ret (res_arr2 Tryz.results24 rfl rfl (HZ.out.put _) rfl) rfl HE.out
      | true =>
        rw [if_pos rfl]
        rw [hmv] at AX
        obtain ⟨C, M, hC, hM, ht, hs2⟩ := mv_good hmv h8 hsh
        rw [hC, Int.toNat_natCast, hM, Int.toNat_natCast]
        have MV := Lib.hid (fun aT cT wz (q : Arr wz (arrC ch ((L0 : Int) - 1) (dm S L0) na nn nc ta tn tc) S L0 ch L g fP fQ) z => moved_any (arrC ch ((L0 : Int) - 1) (dm S L0) na nn nc ta tn tc) S L0 ch L g fP fQ aT cT (toF P0 o) C M wz q hS hsh z ht hC hs2 hM)
        generalize (fun j => elC L g 32 (mvG S (toF P0 o) L0 C j)) = eC at *
        generalize (fun j => elP L fP (mvG S (toF P0 o) L0 C j)) = eP at *
        generalize (fun j => elQ L fQ (mvG S (toF P0 o) L0 C j)) = eQ at *
        clear HI hin hS hsh hax hmv ho hC hM ht hs2
        unfold arrC
        go_enter Tryz.func24, Tryz.ntmps24
        go_wp2_with (refine ld_arr rfl (.tmp 3) rfl w.heap.size rfl HR1.out ?_)
        go_at_call 42
        (with_reducible refine (LI.out _ ?_).mono ?_)
        · exact H0.out.below BB.out.below
        rintro e w2 ⟨a6, m6, c6, rfl, hk6, hb2⟩
        obtain ⟨hm6, hk7⟩ := hk6 trivial
        clear hk6
        subst m6
        have BB := Lib.hid ((BB.out.go hb2).krow hk7)
        have HR2 := Lib.hid BB.out.now.2.2.1
        clear hk7 hb2
        go_wp2_with (refine ld_arr rfl (.tmp 4) rfl (w.heap.size + 1) rfl HR2.out ?_)
        go_at_call 33
        (with_reducible refine (RK.out _ ?_).mono ?_)
        · exact H.out.below BB.out.below
        rintro e w3 ⟨rfl, hb3⟩
        have BB := Lib.hid (BB.out.go hb3)
        clear hb3
        go_wp2_with fail
        go_at_call 68
        (with_reducible refine (AX.out _ _ _ BB.out.now.1).mono ?_)
        rintro e w4 ⟨a7, m7, c7, rfl, hk7, hb4⟩
        obtain ⟨hm7, hk8⟩ := hk7 trivial
        clear hk7
        subst m7
        have BB := Lib.hid ((BB.out.go hb4).krow hk8)
        have HR4 := Lib.hid BB.out.now.2.2.2.1
        clear hb4 hk8
        go_wp2_with (refine ld_arr rfl (.tmp 4) rfl (w.heap.size + 1) rfl HR4.out ?_)
        go_at_call 69
        (refine (MV.out _ _ _ (H.out.below BB.out.below) BB.out.now.1).mono ?_)
        rintro e w5 ⟨cs5, rfl, hcs5, hb5⟩
        have B5 := BB.out.go hb5
        have HZ := Lib.hid B5.now.2.2.1
        have HE := Lib.hid (MoTold.yes (hcs5.put HZ.out cs5) (below_put B5.below (show w.heap.size ≤ w.heap.size + 1 + 1 by omega) cs5))
        obtain ⟨na3, nn3, nc3, ta3, tn3, tc3, hcs3, _⟩ := hcs5.form
        subst hcs3
        clear hcs5 hb5 B5
        unfold arrC
        go_wp2_with (refine st_arr rfl (.tmp 6) (.tmp 38) rfl (w.heap.size + 1 + 1) rfl _ _ _ _ _ _ _ _ _ rfl HZ.out rfl ?_)
        exact bodyPost_ret (res_arr2 Tryz.results24 rfl rfl (HZ.out.put _) rfl) rfl HE.out
    · rw [if_neg hlr]
      have d1 : ((L0 : Int) != r) = true := bne_iff_ne.2 (by omega)
      generalize (cnN (toF P0 o) r).toNat = C at *
      generalize (fun j => elC L g 32 (mvG S (toF P0 o) r C j)) = eC at *
      generalize (fun j => elP L fP (mvG S (toF P0 o) r C j)) = eP at *
      generalize (fun j => elQ L fQ (mvG S (toF P0 o) r C j)) = eQ at *
      clear HI hin hS hsh hax ho hlr
      unfold arrC
      go_enter Tryz.func24, Tryz.ntmps24
      go_wp2_with (refine ld_arr rfl (.tmp 3) rfl w.heap.size rfl HR1.out ?_)
      go_at_call 42
      (with_reducible refine (LI.out _ ?_).mono ?_)
      · exact H0.out.below BB.out.below
      rintro e w2 ⟨a6, m6, c6, rfl, hk6, hb2⟩
      obtain ⟨hm6, hk7⟩ := hk6 trivial
      clear hk6
      subst m6
      have BB := Lib.hid ((BB.out.go hb2).krow hk7)
      have HR2 := Lib.hid BB.out.now.2.2.1
      clear hk7 hb2
      go_wp2_with (refine ld_arr rfl (.tmp 4) rfl (w.heap.size + 1) rfl HR2.out ?_)
      go_at_call 33
      (with_reducible refine (RK.out _ ?_).mono ?_)
      · exact H.out.below BB.out.below
      rintro e w3 ⟨rfl, hb3⟩
      have BB := Lib.hid (BB.out.go hb3)
      have HZ := Lib.hid BB.out.now.2.1
      have HE := Lib.hid (HNO.out 24 (mnF S (toF P0 o) r) C ch (itm (mnF S (toF P0 o) r) C).toNat eC eP eQ _ (by decide) BB.out.below)
      clear hb3
      go_wp2_with (refine st_arr rfl (.tmp 6) (.tmp 26) rfl (w.heap.size + 1 + 1) rfl false 0 (fun _ => 0) none 0 0 none 0 0 rfl HZ.out rfl ?_)
      exact bodyPost_ret (res_arr2 Tryz.results24 rfl rfl (HZ.out.put _) rfl) rfl HE.out
  · rw [if_neg hE]
    have dE : (E0 != 0) = true := bne_iff_ne.2 hE
    have HE0 := Lib.hid hE
    generalize (cnN (toF P0 o) r).toNat = C at *
    generalize (fun j => elC L g 32 (mvG S (toF P0 o) r C j)) = eC at *
    generalize (fun j => elP L fP (mvG S (toF P0 o) r C j)) = eP at *
    generalize (fun j => elQ L fQ (mvG S (toF P0 o) r C j)) = eQ at *
    clear hE HI hS hsh hax ho
    unfold arrC
    go_enter Tryz.func24, Tryz.ntmps24
    go_wp2_with (refine ld_arr rfl (.tmp 3) rfl w.heap.size rfl HR1.out ?_)
    go_at_call 42
    (with_reducible refine (LI.out _ ?_).mono ?_)
    · exact H0.out.below BB.out.below
    rintro e w2 ⟨a6, m6, c6, rfl, hk6, hb2⟩
    have BB := Lib.hid (BB.out.go hb2)
    have HZ := Lib.hid BB.out.now.1
    have HE := Lib.hid (HNO.out E0 (mnF S (toF P0 o) r) C ch (itm (mnF S (toF P0 o) r) C).toNat eC eP eQ _ HE0.out BB.out.below)
    clear hb2 hk6
    go_wp2_with (refine st_arr rfl (.tmp 6) (.tmp 19) rfl (w.heap.size + 1 + 1) rfl false 0 (fun _ => 0) none 0 0 none 0 0 rfl HZ.out rfl ?_)
    exact bodyPost_ret (res_arr2 Tryz.results24 rfl rfl (HZ.out.put _) rfl) rfl HE.out
end Go.Proofs.YtkljpofljkgkdaaGreatDoor

namespace Go.Proofs.YtkljpofljkgkdaaGreatDoor
open Go.RowKit
attribute [local go_sem ↓] Go.wp_at_zero Go.wp_at_succ
set_option maxHeartbeats 800000 in
set_option maxRecDepth 100000 in
theorem light8_any (cs : Array Value) (S : Nat → Int) (r : Nat) (ch : Bool) (g : Nat → Int) (tn : Nat) (fB : Nat → Bool) (fS fT : Nat → ByteArray) (nn : Nat) (w : World) (h : PlnAt w cs S r ch g tn fB fS fT nn) (hS : In64 S r) (hz : ∀ j, j < nn → (fS j).size ≤ maxLen ∧ (fT j).size ≤ maxLen) :
    Calls Tryz.prog 8 #[.agg cs] w fun e w' => LightTold 250 S r ch tn fB fS fT nn w w' e := by
  have HP := Lib.hid h
  obtain ⟨sa, sc, ta, tc, na, nc, rfl, _⟩ := h
  have LP := Lib.hid (fun wz h => light_any 250 (plC sa r sc ch ta tn tc na nn nc) S r ch g tn fB fS fT nn wz h hS hz)
  unfold LightTold at LP
  have BB := Lib.hid ((Bag.start w).newRow (plC sa r sc ch ta tn tc na nn nc) 26)
  have HR := Lib.hid BB.out.now.1
  clear hS hz
  unfold plC
  go_enter Tryz.func8, Tryz.ntmps8
  go_wp2_with (refine ld_pln rfl (.tmp 1) rfl w.heap.size rfl HR.out ?_)
  go_at_call 30
  (with_reducible refine (LP.out _ ?_).mono ?_)
  · exact HP.out.below BB.out.below
  rintro e w2 ⟨b, rfl, hb, hb2⟩
  have HE := Lib.hid (BB.out.go hb2).below
  have HB := Lib.hid hb
  clear hb hb2
  go_wp2
  go_ret
  exact ⟨b, rfl, HB.out, HE.out⟩
set_option maxHeartbeats 800000 in
set_option maxRecDepth 100000 in
theorem intsL_any (sa : Option Addr) (sn sc : Nat) (f : Nat → Int) (w : World) (hs : KRow w .i64 sa sn sc f) (hg : In64 f sn) (hn : sn ≤ 4096) :
    Calls Tryz.prog 31 #[.slice sa sn sc] w fun e w' => ∃ cs', e = .returned (.agg cs') ∧ (∀ g, Arr w' cs' (fun _ => (sn : Int)) 1 false sn g f (fun _ => 1)) ∧ Below w.heap.size w w' := by
  have IN := Lib.hid (fun wz h => ints8_any sa sn sc f wz h hg hn)
  have BB := Lib.hid (((Bag.start w).krow hs).newRow zerC 34)
  clear hs hg
  go_enter Tryz.func31, Tryz.ntmps31
  go_wp2_with fail
  go_at_call 37
  (with_reducible refine (IN.out _ ?_).mono ?_)
  · exact BB.out.now.2.1
  rintro e w3 ⟨cs3, rfl, hcs, hb3⟩
  have B3 := BB.out.go hb3
  have HZ := Lib.hid B3.now.1
  have HE : Hid ((∀ g, Arr (w3.setRow w.heap.size cs3) cs3 (fun _ => (sn : Int)) 1 false sn g f (fun _ => 1)) ∧ Below w.heap.size w (w3.setRow w.heap.size cs3)) := Lib.hid ⟨fun g => (hcs g).put HZ.out _, below_put B3.below (Nat.le_refl _) _⟩
  obtain ⟨na3, nn3, nc3, ta3, tn3, tc3, hcs3, _⟩ := (hcs (fun _ => 0)).form
  subst hcs3
  clear hcs hb3 B3
  unfold arrC
  go_wp2_with (refine st_arr rfl (.tmp 2) (.tmp 4) rfl w.heap.size rfl _ _ _ _ _ _ _ _ _ rfl HZ.out rfl ?_)
  exact bodyPost_ret (res_arr Tryz.results31 rfl (HZ.out.put _) rfl) rfl ⟨_, rfl, HE.out⟩
/-- An array and a plain one that say the same. -/
structure Shown (w : World) (cs pcs : Array Value) : Prop where
  ex : ∃ S r ch L g fP fQ S' g' fB fS fT, Arr w cs S r ch L g fP fQ ∧ Pln w pcs S' r ch L g' fB fS fT ∧ r ≤ 8 ∧ L ≤ 1000000 ∧ Small ch L fP fQ ∧ (∀ j, j < r → S j = S' j) ∧ (∀ j, j < tnO ch L → g j = g' j) ∧ ∀ j, j < nnO ch L → rB (fP j) = fB j ∧ rS (fP j) = fS j ∧ str (dec (fQ j)) = fT j
theorem Shown.below {w w' : World} {cs pcs : Array Value} (h : Shown w cs pcs) (hb : Below w.heap.size w w') : Shown w' cs pcs := by
  obtain ⟨S, r, ch, L, g, fP, fQ, S', g', fB, fS, fT, h1, h2, h3⟩ := h.ex
  exact ⟨S, r, ch, L, g, fP, fQ, S', g', fB, fS, fT, h1.below hb, h2.below hb, h3⟩
set_option linter.unusedSimpArgs false in
set_option maxHeartbeats 3200000 in
set_option maxRecDepth 100000 in
theorem showsOk_any (cs pcs : Array Value) (w : World) (h : Shown w cs pcs) :
    Calls Tryz.prog 19 #[.agg cs, .int .i64 0, .agg pcs, .int .i64 0] w fun e w' => e = .returned (.bool true) ∧ Below w.heap.size w w' := by
  obtain ⟨S, r, ch, L, g, fP, fQ, S', g', fB, fS, fT, h1, h2, hr, hL, hs, e1, e2, e3⟩ := h.ex
  have HP := Lib.hid h2
  obtain ⟨na, nn, nc, ta, tn, tc, hcs, _⟩ := h1.form
  subst hcs
  obtain ⟨sa, sc, xa, xc, ya, yc, rfl, _⟩ := h2
  have H := Lib.hid h1
  have PL := Lib.hid (fun wz h => plain8_any (arrC ch ((r : Int) - 1) (dm S r) na nn nc ta tn tc) S r ch L g fP fQ wz hr h hL hs)
  have SM := Lib.hid (fun cs1 wz (q : Pln wz cs1 S r ch L g (fun j => rB (fP j)) (fun j => rS (fP j)) (fun j => str (dec (fQ j)))) (z : Pln wz (plC sa r sc ch xa (tnO ch L) xc ya (nnO ch L) yc) S' r ch L g' fB fS fT) => pl_same (plB_of2 e1 e2 e3) q z)
  have BB := Lib.hid (((Bag.start w).newRow (arrC ch ((r : Int) - 1) (dm S r) na nn nc ta tn tc) 34).newRow (plC sa r sc ch xa (tnO ch L) xc ya (nnO ch L) yc) 26)
  simp only [World.size_alloc] at BB
  clear h h1 hr hL hs e1 e2 e3
  unfold arrC plC
  go_enter Tryz.func19, Tryz.ntmps19
  go_wp2_with fail
  have hWW := BB.out.below
  unfold arrC plC at hWW
  unfold plC at BB
  unfold arrC at BB
  generalize hW : ((w.alloc (.cells _ 34)).alloc (.cells _ 26)) = WW at *
  clear hW hWW
  refine wp_region_inv2 ⟨(fun j => ([[17], [18], [19], [20], [8]] : List (List Nat)).getD j []), (fun j => ([[], [0], [], [0, 1, 2], [0, 1, 2, 3]] : List (List Nat)).getD j []), []⟩ (fun jj vv yy => match jj with | 0 => vv = [some (.agg (arrC ch ((r : Int) - 1) (dm S r) na nn nc ta tn tc))] | 1 => ∃ (x1 : Array Value), vv = [some (.agg x1)] ∧ Pln yy x1 S r ch L g (fun j => rB (fP j)) (fun j => rS (fP j)) (fun j => str (dec (fQ j))) | 2 => vv = [some (.agg (plC sa r sc ch xa (tnO ch L) xc ya (nnO ch L) yc))] | 3 => vv = [some (.bool true)] | 4 => vv = [some (.bool true)] | _ => True) (Bag WW (fun _ => True)) (by kernel_rfl) (by kernel_rfl) (by kernel_rfl) (Bag.start WW).drew ?_ ?_ ?_
  · intro jj vv yw yw2 hb h
    match jj, h with
    | 0, h => exact h
    | 1, ⟨x1, e1, g1_0⟩ => exact Exists.intro x1 (And.intro e1 (g1_0.below hb))
    | 2, h => exact h
    | 3, h => exact h
    | 4, h => exact h
    | _ + 5, h => exact h
  · intro ac yw hsz hdf hold hB hp
    have t8 : ac.tmps[8]? = some (.bool true) := (List.cons.inj (hp 4 (by decide))).1
    have HE := Lib.hid (BB.out.go hB.below).below
    clear hold hp
    obtain ⟨TW, hTW⟩ : ∃ TW : Nat → Value, ∀ i, (ac.tmps[i]?).getD undef = TW i := ⟨_, fun _ => rfl⟩
    have f8 := (hTW 8).symm.trans (congrArg (fun x => Option.getD x undef) t8)
    have hac := act_eq (n := 21) hsz TW hTW
    rw [show ((List.range 21).map TW).toArray = #[TW 0, TW 1, TW 2, TW 3, TW 4, TW 5, TW 6, TW 7, TW 8, TW 9, TW 10, TW 11, TW 12, TW 13, TW 14, TW 15, TW 16, TW 17, TW 18, TW 19, TW 20] from rfl, f8, hdf] at hac
    simp only [Option.getD_some] at hac
    subst hac
    clear hTW f8
    go_wp2
    go_ret
    exact ⟨rfl, HE.out⟩
  refine Stps2.cons (o := _) ?_ ?_
  · intro ac yw hsz hold hB hp K hK
    have t4 : ac.tmps[4]? = some (.pointer (some ⟨w.heap.size, 0, none⟩)) := hold 4 (by kernel_rfl)
    clear hold hp hsz
    rw [if_pos (by rfl)]
    refine ld8 4 rfl (w.heap.size) ((arrC ch ((r : Int) - 1) (dm S r) na nn nc ta tn tc)) t4 ((BB.out.go hB.below).now.2.1) (rfl) ?_
    exact hK.out _ _ ⟨hB, rfl, Nat.le_refl _, .inl (Below.refl _ _), fun h => absurd h (by decide)⟩
  refine Stps2.cons (o := _) ?_ ?_
  · intro ac yw hsz hold hB hp K hK
    have e0 := hp 0 (by decide)
    have t17 : ac.tmps[17]? = some (.agg (arrC ch ((r : Int) - 1) (dm S r) na nn nc ta tn tc)) := (List.cons.inj e0).1
    clear hold hp hsz e0
    go_simp
    (go_at_call 15; (with_reducible refine (PL.out _ (H.out.below (BB.out.go hB.below).below)).mono ?_); rintro e wz ⟨x1, rfl, h1_0, hbz⟩)
    exact hK.out _ _ ⟨hB.go hbz, Exists.intro x1 (And.intro rfl h1_0), hbz.size, .inl hbz, fun h => absurd h (by decide)⟩
  refine Stps2.cons (o := _) ?_ ?_
  · intro ac yw hsz hold hB hp K hK
    have t6 : ac.tmps[6]? = some (.pointer (some ⟨w.heap.size + 1, 0, none⟩)) := hold 6 (by kernel_rfl)
    clear hold hp hsz
    rw [if_pos (by rfl)]
    refine ldP 6 rfl (w.heap.size + 1) ((plC sa r sc ch xa (tnO ch L) xc ya (nnO ch L) yc)) t6 ((BB.out.go hB.below).now.1) (rfl) ?_
    exact hK.out _ _ ⟨hB, rfl, Nat.le_refl _, .inl (Below.refl _ _), fun h => absurd h (by decide)⟩
  refine Stps2.cons (o := _) ?_ ?_
  · intro ac yw hsz hold hB hp K hK
    obtain ⟨x1_1, e1, g1_0⟩ := hp 1 (by decide)
    have t18 : ac.tmps[18]? = some (.agg x1_1) := (List.cons.inj e1).1
    have e2 := hp 2 (by decide)
    have t19 : ac.tmps[19]? = some (.agg (plC sa r sc ch xa (tnO ch L) xc ya (nnO ch L) yc)) := (List.cons.inj e2).1
    clear hold hp hsz e1 e2
    go_simp
    (go_at_call 13; (with_reducible refine (SM.out _ _ g1_0 (HP.out.below (BB.out.go hB.below).below)).mono ?_); rintro e wz ⟨rfl, hbz⟩)
    exact hK.out _ _ ⟨hB.go hbz, rfl, hbz.size, .inl hbz, fun h => absurd h (by decide)⟩
  refine Stps2.cons (o := _) ?_ ?_
  · intro ac yw hsz hold hB hp K hK
    have e3 := hp 3 (by decide)
    have t20 : ac.tmps[20]? = some (.bool true) := (List.cons.inj e3).1
    clear hold hp hsz e3
    go_simp
    exact hK.out _ _ ⟨hB, rfl, Nat.le_refl _, .inl (Below.refl _ _), fun h => absurd h (by decide)⟩
  exact Stps2.nil _
end Go.Proofs.YtkljpofljkgkdaaGreatDoor
