/-
  Texts of this seat, laid together.
-/
import Derived.Test.YtpmcbnliogjknaaGreatDoorShelf
import Derived.WalkKit
import Derived.WalkSpells
import Derived.Deep.Draws
import Derived.Lib.Hide
import Derived.Lib.TrimByte
import Derived.WalkLawsBesides
import Derived.Laws.CopyOwn
import Derived.Deep.QuietTactic
import Derived.BigQuiet
import Derived.BigRegion
import Derived.RegionTactic
import Derived.Deep.RegionWith
import Derived.StillTailTactics
import Derived.IntWalk
import Derived.Test.YtpmcbnliogjknaaGreatDoorRows
import Derived.Lib.SliceRun
import Derived.Lib.Walk
import Derived.Deep.AppendLies
import Derived.Deep.RegionLaw
import Derived.Deep.RegionHeld3
import Derived.Below
import Derived.Deep.DrawnRows
import Derived.Laws.BitsLemmas
import Derived.Lib.ItoaNum
import Derived.Laws.StructEq
import Derived.ChangeKeysEq
import Derived.Lib.AppendZeros
import Derived.Laws.AppendOwnNone
import Derived.Deep.MidRow
import Derived.Laws.BytesArg
import Derived.Shelf.Abstract
import Derived.Laws.OwnMore
import Derived.Laws.EntriesVeiled
import Derived.Test.YtpmcbnliogjknaaGreatDoorQ1
import Derived.Test.YtpmcbnliogjknaaGreatDoorQ2
import Derived.Test.YtpmcbnliogjknaaGreatDoorQ3
import Derived.Test.YtpmcbnliogjknaaGreatDoorQ4
import Derived.Test.YtpmcbnliogjknaaGreatDoorQ5
import Derived.Test.YtpmcbnliogjknaaGreatDoorQ6
import Derived.Test.YtpmcbnliogjknaaGreatDoorQ7
import Derived.Test.YtpmcbnliogjknaaGreatDoorQ8
import Derived.Test.YtpmcbnliogjknaaGreatDoorQ9
import Derived.Test.YtpmcbnliogjknaaGreatDoorQ10

namespace Go.Proofs.YtpmcbnliogjknaaGreatDoor
open Go.RowKit
theorem ent_left : Enters Tryz.prog 27 := enters_of Tryz.func27 (by kernel_rfl) rfl
set_option maxHeartbeats 400000 in
set_option maxRecDepth 100000 in
theorem left_any : Tells 27 true := by
  intro w t n ht0 ht1 hn0 hn1
  by_cases h0 : t < 0
  · obtain ⟨m, hm⟩ : ∃ m : Nat, max (n + t) 0 = (m : Int) := ⟨(max (n + t) 0).toNat, by omega⟩
    have e1 : tkN true t n = (m : Int) := by unfold tkN; rw [if_pos rfl]; omega
    have e2 : tkF true t n = 0 := by unfold tkF; rw [if_pos rfl, if_neg (by omega)]
    rw [e1, e2]
    have w1 := IntWalk.i64_in (n + t) (by omega)
    have RN := Lib.hid (crun_any 0 m w (by omega) (by omega))
    clear e1 e2
    go_enter Tryz.func27, Tryz.ntmps27
    go_wp2_with fail
    go_at_call 50
    (with_reducible refine RN.out.mono ?_)
    rintro e w2 ⟨rfl, hk, hb⟩
    have HE := Lib.hid (And.intro hk hb)
    clear hk hb
    go_wp2
    go_ret
    exact ⟨_, _, _, rfl, rfl, HE.out⟩
  · obtain ⟨m, hm⟩ : ∃ m : Nat, max (n - t) 0 = (m : Int) := ⟨(max (n - t) 0).toNat, by omega⟩
    have e1 : tkN true t n = (m : Int) := by unfold tkN; rw [if_pos rfl]; omega
    have e2 : tkF true t n = t := by unfold tkF; rw [if_pos rfl]; split <;> omega
    rw [e1, e2]
    have w1 := IntWalk.i64_in (n - t) (by omega)
    have RN := Lib.hid (crun_any t m w (by omega) (by omega))
    clear e1 e2
    go_enter Tryz.func27, Tryz.ntmps27
    go_wp2_with fail
    go_at_call 50
    (with_reducible refine RN.out.mono ?_)
    rintro e w2 ⟨rfl, hk, hb⟩
    have HE := Lib.hid (And.intro hk hb)
    clear hk hb
    go_wp2
    go_ret
    exact ⟨_, _, _, rfl, rfl, HE.out⟩
end Go.Proofs.YtpmcbnliogjknaaGreatDoor

namespace Go.Proofs.YtpmcbnliogjknaaGreatDoor
open Go.RowKit
attribute [local go_sem ↓] Go.wp_at_zero Go.wp_at_succ
set_option linter.unusedSimpArgs false in
set_option maxHeartbeats 3200000 in
set_option maxRecDepth 100000 in
theorem drop_any (cs0 : Array Value) (S0 : Nat → Int) (r0 : Nat) (ch0 : Bool) (L0 : Nat) (g0 P0 : Nat → Int) (Q0 : Nat → Nat) (cs : Array Value) (S : Nat → Int) (r : Nat) (ch : Bool) (L : Nat) (g fP : Nat → Int) (fQ : Nat → Nat) (w : World)
    (h0 : Arr w cs0 S0 r0 ch0 L0 g0 P0 Q0) (h : Arr w cs S r ch L g fP fQ) (hr0 : r0 ≤ 8) (hQ0 : ch0 = false → ∀ j, j < L0 → 0 < Q0 j) (hL0 : L0 ≤ 4096) (hS : In64 S r) (hsh : shB S r = true) (hcnt : itm S r = (L : Nat)) :
    Calls Tryz.prog 11 #[.agg cs0, .agg cs] w fun e w' => MoTold (paE true 4097 r0 ch0 L0 P0 Q0 S r) (lnF (paN true 4097 P0 (paS r S))) L0 ch (itm (lnF (paN true 4097 P0 (paS r S))) L0).toNat (fun j => elC L g 32 (pkG (paS r S) (lnF (paN true 4097 P0 (paS r S))) L0 (paF true 4097 P0 (paS r S)) j)) (fun j => elP L fP (pkG (paS r S) (lnF (paN true 4097 P0 (paS r S))) L0 (paF true 4097 P0 (paS r S)) j)) (fun j => elQ L fQ (pkG (paS r S) (lnF (paN true 4097 P0 (paS r S))) L0 (paF true 4097 P0 (paS r S)) j)) w w' e := by
  obtain ⟨nb, nnb, ncb, tb, tnb, tcb, hcs0, _⟩ := h0.form
  subst hcs0
  obtain ⟨na, nn, nc, ta, tn, tc, hcs, _⟩ := h.form
  subst hcs
  have H0 := Lib.hid h0
  have H := Lib.hid h
  have PT := Lib.hid (fun wz (q0 : Arr wz (arrC ch0 ((r0 : Int) - 1) (dm S0 r0) nb nnb ncb tb tnb tcb) S0 r0 ch0 L0 g0 P0 Q0) (q : Arr wz (arrC ch ((r : Int) - 1) (dm S r) na nn nc ta tn tc) S r ch L g fP fQ) => part_any 27 true ent_left left_any (arrC ch0 ((r0 : Int) - 1) (dm S0 r0) nb nnb ncb tb tnb tcb) S0 r0 ch0 L0 g0 P0 Q0 (arrC ch ((r : Int) - 1) (dm S r) na nn nc ta tn tc) S r ch L g fP fQ wz q0 q hr0 hQ0 hL0 hS hsh hcnt)
  have B0 := Lib.hid ((((Bag.start w).newRow (arrC ch0 ((r0 : Int) - 1) (dm S0 r0) nb nnb ncb tb tnb tcb) 32).newRow (arrC ch ((r : Int) - 1) (dm S r) na nn nc ta tn tc) 32).newRow zerC 32)
  simp only [World.size_alloc] at B0
  have HR1 := Lib.hid B0.out.now.2.2.1
  have HR2 := Lib.hid B0.out.now.2.1
  generalize (paE true 4097 r0 ch0 L0 P0 Q0 S r) = EE at *
  generalize (fun j => elC L g 32 (pkG (paS r S) (lnF (paN true 4097 P0 (paS r S))) L0 (paF true 4097 P0 (paS r S)) j)) = eC at *
  generalize (fun j => elP L fP (pkG (paS r S) (lnF (paN true 4097 P0 (paS r S))) L0 (paF true 4097 P0 (paS r S)) j)) = eP at *
  generalize (fun j => elQ L fQ (pkG (paS r S) (lnF (paN true 4097 P0 (paS r S))) L0 (paF true 4097 P0 (paS r S)) j)) = eQ at *
  generalize (itm (lnF (paN true 4097 P0 (paS r S))) L0).toNat = MM at *
  generalize lnF (paN true 4097 P0 (paS r S)) = TT at *
  clear h0 h hQ0 hS hsh
  unfold arrC
  go_enter Tryz.func11, Tryz.ntmps11
  go_wp2_with (first
    | (refine ld_arr rfl (.tmp 2) rfl w.heap.size rfl HR1.out ?_)
    | (refine ld_arr rfl (.tmp 3) rfl (w.heap.size + 1) rfl HR2.out ?_))
  go_at_call 22
  (refine (PT.out _ (H0.out.below B0.out.below) (H.out.below B0.out.below)).mono ?_)
  rintro e w9 hmt
  obtain ⟨x9, rfl, hm9, hb9⟩ := hmt.res
  have B9 := B0.out.go hb9
  have HZ := Lib.hid B9.now.1
  have HE : Hid (MoTold EE TT L0 ch MM eC eP eQ w (w9.setRow (w.heap.size + 1 + 1) x9) (.returned (.tuple #[.agg x9, .int .i64 EE]))) := Lib.hid ⟨x9, rfl, fun e => (hm9.2.1 e).put HZ.out x9, hm9.2.2, below_put B9.below (show w.heap.size ≤ w.heap.size + 1 + 1 by omega) x9⟩
  obtain ⟨q1, q2, q3, q4, q5, q6, q7, q8, q9, hx9⟩ := hm9.1
  subst hx9
  clear hmt hm9 hb9 B9
  unfold arrC
  unfold arrC at HZ
  go_wp2_with (refine st_arr rfl (.tmp 4) (.tmp 9) rfl (w.heap.size + 1 + 1) rfl _ _ _ _ _ _ _ _ _ rfl HZ.out rfl ?_)
  exact bodyPost_ret (res_arr2 Tryz.results11 rfl rfl (HZ.out.put _) rfl) rfl HE.out
end Go.Proofs.YtpmcbnliogjknaaGreatDoor

namespace Go.Proofs.YtpmcbnliogjknaaGreatDoor
open Go.RowKit
theorem step_append_run9 {P : Program} (w : World) {ops : Array Oper} {o : Oper} {a : Act} {K : Act → World → Prop} {Q : Exit → Act → World → Prop} {E : Prop} (hgd : o.guard = none) (s x : Operand) (t tn : TypeId)
    (ho : o.op = .call { callee := .builtin .append, args := #[s, x], argTypes := #[t, tn] }) (vs vx : Value) (hs : a.eval s = vs) (hx : a.eval x = vx)
    (v' : Value) (w' : World) (hr : (Builtin.append_ #[t, tn] o.type #[vs, vx]).run P w = .ok v' w') (h : K (a.put o.dst v') w') : if Region.wanted o (yielded ops a.tmps) = true then Oper.wp P o a w K Q else E := by
  have hw : Region.wanted o (yielded ops a.tmps) = true := by simp [Region.wanted, hgd]
  rw [if_pos hw]
  exact Lib.wp_append_run w s x t tn ho vs vx hs hx v' w' hr h
/-- The places of an axis from one on. -/
def frF (fr : Nat → Int) : Nat → Nat → Int := fun j x => fr j + (x : Int)
def wnE (T : Nat → Int) (q : Nat) : Int := if 8 < q then 23 else pkE T q
set_option linter.unusedSimpArgs false in
set_option maxHeartbeats 6400000 in
set_option maxRecDepth 100000 in
theorem rwindow_any (cs : Array Value) (S : Nat → Int) (r : Nat) (ch : Bool) (L : Nat) (g : Nat → Int) (fB : Nat → Bool) (fS fT : Nat → ByteArray) (s1 : Option Addr) (d1 q : Nat) (S' : Nat → Int) (f1 : Option Addr) (c1 : Nat) (fr : Nat → Int) (m1 : Option Addr) (e1 : Nat) (T : Nat → Int) (w : World)
    (h : Pln w cs S r ch L g fB fS fT) (hs : KRow w .i64 s1 q d1 S') (hf : KRow w .i64 f1 q c1 fr) (hm : KRow w .i64 m1 q e1 T) (hsh : q ≤ 8 → shB S' q = true) (hT : ∀ j, j < q → 0 ≤ T j ∧ T j ≤ 5000) (hfr : ∀ j, j < q → -10000 ≤ fr j ∧ fr j ≤ 10000) (hL : L ≤ 1000000) :
    Calls Tryz.prog 26 #[.agg cs, .slice s1 q d1, .slice f1 q c1, .slice m1 q e1] w fun e w' => PoTold (wnE T q) T q ch (itm T q).toNat (fun j => elC L g 32 (pkG S' T q (frF fr) j)) (fun j => elB L fB (pkG S' T q (frF fr) j)) (fun j => elS L fS (rS 0) (pkG S' T q (frF fr) j)) (fun j => elS L fT (str (dec 1)) (pkG S' T q (frF fr) j)) w w' e := by
  obtain ⟨sa, sc, ta, tc, na, nc, hcs, _⟩ := h.form
  subst hcs
  have H := Lib.hid h
  have hl := hm.len
  have hl2 := hs.len
  have hl3 := hf.len
  have T64 : In64 T q := fun j hj => by have := hT j hj; omega
  have CN := Lib.hid (fun wz (k : KRow wz .i64 m1 q e1 T) => r6Count_any m1 q e1 T wz k T64)
  unfold CntTold at CN
  have BB := Lib.hid ((((((Bag.start w).krow hm).krow hf).krow hs).newRow (plC sa r sc ch ta (tnO ch L) tc na (nnO ch L) nc) 26).newRow plZer 26)
  simp only [World.size_alloc] at BB
  have HNO : Hid (∀ E wz, E ≠ 0 → wnE T q = E → Below w.heap.size w wz → PoTold (wnE T q) T q ch (itm T q).toNat (fun j => elC L g 32 (pkG S' T q (frF fr) j)) (fun j => elB L fB (pkG S' T q (frF fr) j)) (fun j => elS L fS (rS 0) (pkG S' T q (frF fr) j)) (fun j => elS L fT (str (dec 1)) (pkG S' T q (frF fr) j)) w (wz.setRow (w.heap.size + 1) plZer) (.returned (.tuple #[.agg plZer, .int .i64 E]))) := Lib.hid (fun E wz hE e hb => by
    subst e
    exact PoTold.no hE (below_put hb (show w.heap.size ≤ w.heap.size + 1 by omega) plZer))
  by_cases h8 : 8 < q
  · have hE : wnE T q = 23 := by unfold wnE; rw [if_pos h8]
    have d8 : (8 : Int) < q := by omega
    have HZ := Lib.hid BB.out.now.1
    have HE := Lib.hid (HNO.out 23 _ (by decide) hE BB.out.below)
    clear h hs hf hm hsh hT hfr h8 hE T64 HNO CN
    unfold plC
    go_enter Tryz.func26, Tryz.ntmps26
    go_wp2_with (refine st_pln rfl (.tmp 8) (.tmp 20) rfl (w.heap.size + 1) rfl none 0 0 false none 0 0 none 0 0 rfl HZ.out rfl ?_)
    exact bodyPost_ret (res_pln2 Tryz.results26 rfl rfl (HZ.out.put _) rfl) rfl HE.out
  · have d8 : ¬ ((8 : Int) < q) := by omega
    have hq8 : q ≤ 8 := by omega
    have hsh := hsh hq8
    have hE0 : wnE T q = pkE T q := by unfold wnE; rw [if_neg h8]
    cases hts : shB T q with
    | false =>
      have hE : wnE T q = 26 := by rw [hE0]; unfold pkE; rw [hts]; rfl
      rw [hts] at CN
      generalize cntI T q = ci at *
      have HZ := Lib.hid BB.out.now.1
      have HE := Lib.hid (HNO.out 26 _ (by decide) hE BB.out.below)
      clear h hs hf hm hsh hT hfr h8 hE hE0 T64 HNO hts
      unfold plC
      go_enter Tryz.func26, Tryz.ntmps26
      go_wp2_with fail
      go_at_call 54
      (with_reducible refine (CN.out _ ?_).mono ?_)
      · exact BB.out.now.2.2.2.2.1
      rintro e w2 ⟨rfl, rfl⟩
      go_wp2_with (refine st_pln rfl (.tmp 8) (.tmp 28) rfl (w.heap.size + 1) rfl none 0 0 false none 0 0 none 0 0 rfl HZ.out rfl ?_)
      exact bodyPost_ret (res_pln2 Tryz.results26 rfl rfl (HZ.out.put _) rfl) rfl HE.out
    | true =>
      have hE : wnE T q = 0 := by rw [hE0]; unfold pkE; rw [hts]; rfl
      obtain ⟨_, haxT⟩ := sh_ax hts
      have hbd := ax_bd haxT
      obtain ⟨M, hM⟩ : ∃ M : Nat, itm T q = (M : Nat) := ⟨(itm T q).toNat, by omega⟩
      rw [hE, hM, Int.toNat_natCast]
      rw [hts] at CN
      generalize cntI T q = ci at *
      have hM4 : M ≤ 4096 := by omega
      have ALL := Lib.hid (fun wz (k : KRow wz .i64 m1 q e1 T) => r6All_any m1 q e1 T M wz k hts hM)
      have PLC := Lib.hid (fun a2 c2 f wz (k1 : KRow wz .i64 s1 q d1 S') (k2 : KRow wz .i64 a2 q c2 f) => rplk_any s1 q d1 S' a2 c2 f wz k1 k2 (sh_ax hsh).2)
      have HFR := Lib.hid hfr
      have HDB : Hid (∀ j k, j < M → k < q → 0 ≤ dgs T q (j : Nat) k ∧ dgs T q (j : Nat) k ≤ 5000 ∧ dgs T q (j : Nat) k + fr k = pkI (frF fr) (dgs T q (j : Nat)) k) := Lib.hid (fun j k hj hk => by
        have h1 := itm_pos haxT (show (0 : Int) ≤ (j : Nat) by omega) (show ((j : Nat) : Int) < itm T q by omega)
        obtain ⟨h2, _⟩ := dgs_in h1 (show (0 : Int) ≤ (j : Nat) by omega) (show ((j : Nat) : Int) < itm T q by omega)
        have h3 := inB_at h2 hk
        have h4 := hT k hk
        refine ⟨h3.1, by omega, ?_⟩
        show _ = fr k + ((dgs T q (j : Nat) k).toNat : Int)
        omega)
      have HG : Hid (∀ j, pkG S' T q (frF fr) j = if inB S' (pkI (frF fr) (dgs T q (j : Nat))) q then plc S' (pkI (frF fr) (dgs T q (j : Nat))) q else -1) := Lib.hid (fun _ => rfl)
      have RP := Lib.hid (fun a2 c2 wz (p : Pln wz (plC sa r sc ch ta (tnO ch L) tc na (nnO ch L) nc) S r ch L g fB fS fT) (k1 : KRow wz .i64 m1 q e1 T) (k2 : KRow wz .i64 a2 M c2 (pkG S' T q (frF fr))) => rpick8_any (plC sa r sc ch ta (tnO ch L) tc na (nnO ch L) nc) S r ch L g fB fS fT m1 q e1 T a2 M c2 (pkG S' T q (frF fr)) wz p k1 k2 (by omega) hL)
      generalize (fun j => elC L g 32 (pkG S' T q (frF fr) j)) = eC at *
      generalize (fun j => elB L fB (pkG S' T q (frF fr) j)) = eB at *
      generalize (fun j => elS L fS (rS 0) (pkG S' T q (frF fr) j)) = eS at *
      generalize (fun j => elS L fT (str (dec 1)) (pkG S' T q (frF fr) j)) = eT at *
      generalize pkG S' T q (frF fr) = G at *
      clear h hs hf hm hsh hT hfr h8 hE hE0 T64 HNO hts haxT hbd hM
      unfold plC
      go_enter Tryz.func26, Tryz.ntmps26
      go_wp2_with fail
      go_at_call 54
      (with_reducible refine (CN.out _ ?_).mono ?_)
      · exact BB.out.now.2.2.2.2.1
      rintro e w2 ⟨rfl, rfl⟩
      go_wp2_with fail
      go_at_call 55
      (with_reducible refine (ALL.out _ ?_).mono ?_)
      · exact BB.out.now.2.2.2.2.1
      rintro e y4 ⟨a8, c8, A, CC, rfl, hlr, hb3⟩
      have BB := Lib.hid (BB.out.go hb3)
      have HLR := Lib.hid hlr
      have hl8 := hlr.1
      have hl9 := hlr.2.1
      unfold maxLen at hl9
      clear hb3 hlr
      go_wp2_with fail
      go_loopw [13, 14, 15, 16] (fun s ii ix kk wr => ∃ (j : Nat) (a : Option Addr) (c : Nat), j ≤ M ∧ s = .slice a j c ∧ ii = .int .i64 j ∧ (∃ v6, v6 = ix) ∧ (∃ v7, v7 = kk) ∧ Hid (OwnI y4 wr a j c G)) (fun _ ii _ _ _ => M - (intOf ii).toNat)
      case atStart => exact ⟨0, none, 0, by omega, rfl, rfl, ⟨_, rfl⟩, ⟨_, rfl⟩, OwnI.nil _ _⟩
      case round =>
        obtain ⟨j, a, c, hj, rfl, rfl, ⟨v6, rfl⟩, ⟨v7, rfl⟩, ho⟩ := hrel
        have BW := Lib.hid (BB.out.go ho.out.1)
        by_cases hlt : j < M
        · have hj0 : (0 : Int) ≤ j := by omega
          have hj1 : (j : Int) < M := by omega
          obtain ⟨y5, hy5⟩ : ∃ y5, y5 = wr := ⟨_, rfl⟩
          subst hy5
          have HL := Lib.hid (HLR.out.below ho.out.1)
          go_wp2_with fail
          go_loopw [15, 16] (fun s kk wr => ∃ (k : Nat) (a : Option Addr) (c : Nat), k ≤ q ∧ s = .slice a k c ∧ kk = .int .i64 k ∧ Hid (OwnI y5 wr a k c (pkI (frF fr) (dgs T q (j : Nat))))) (fun _ kk _ => q - (intOf kk).toNat)
          case atStart => exact ⟨0, none, 0, by omega, rfl, rfl, OwnI.nil _ _⟩
          case round =>
            obtain ⟨k, ai, ci2, hk, rfl, rfl, hoi⟩ := hrel
            have BV := Lib.hid (BW.out.go hoi.out.1)
            by_cases hlt2 : k < q
            · obtain ⟨b, off, rfl, hb, hc, hrow, _⟩ := HL.out.get hlt
              obtain ⟨bl, ol, rfl, hbl, hcl⟩ := BW.out.now.2.2.2.1.get hlt2
              obtain ⟨br, orr, haj, hbr, hcr⟩ := hrow.get (j := k) hlt2
              have hk0 : (0 : Int) ≤ k := by omega
              have hk1 : (k : Int) < q := by omega
              obtain ⟨hd0, hd1, hval⟩ := HDB.out j k hlt hlt2
              have hfk := HFR.out k hlt2
              rw [haj] at hc
              have w9 := IntWalk.i64_in (dgs T q (j : Nat) k + fr k) (by omega)
              have BD : Hid (Below y5.heap.size y5 wr.drew) := Lib.hid hoi.out.1.drew
              have HSZ : Hid (y5.heap.size ≤ wr.drew.heap.size) := Lib.hid hoi.out.1.drew.size
              obtain ⟨a', c', y6, hr6, ho6⟩ := app1_step (y0 := y5) (wr := wr.drew) (hoi.out.go (Below.refl _ wr).drew) hval (by omega)
              have HO6 := Lib.hid ho6
              clear ho6 hrow haj hval hd0 hd1 hfk
              generalize dgs T q (j : Nat) k = d at *
              generalize fr k = fk at *
              generalize CC j = cj at *
              have HSF : Hid (∀ y, Below y5.heap.size y5 y → y.cell? ⟨b, off + j, none⟩ = some (.slice (some ⟨br, orr, none⟩) q cj) ∧ y.cell? ⟨bl, ol + k, none⟩ = some (.int .i64 fk) ∧ y.cell? ⟨br, orr + k, none⟩ = some (.int .i64 d)) := Lib.hid (fun y hy => ⟨(hy.cell (p := ⟨b, off + j, none⟩) hb).trans hc, (hy.cell (p := ⟨bl, ol + k, none⟩) hbl).trans hcl, (hy.cell (p := ⟨br, orr + k, none⟩) hbr).trans hcr⟩)
              clear hc hcl hcr
              go_wp2_with fail
              go_region_held3 (fun y => y.cell? ⟨b, off + j, none⟩ = some (.slice (some ⟨br, orr, none⟩) q cj) ∧ y.cell? ⟨bl, ol + k, none⟩ = some (.int .i64 fk) ∧ y.cell? ⟨br, orr + k, none⟩ = some (.int .i64 d))
                (first
                  | exact HSF.out _ HO6.out.1
                  | exact HSF.out _ BD.out
                  | exact HSF.out _ (BD.out.alloc HSZ.out _))
                ((refine step_append_run9 _ rfl (.tmp 43) (.tmp 56) _ _ rfl _ _ rfl rfl _ _ hr6 ?_))
              go_wp2
              go_roundw
              case rel => exact ⟨k + 1, a', c', by omega, rfl, by go_num, HO6⟩
              case measure => simp [intOf]; omega
            · have hkr : k = q := by omega
              subst k
              have HKI := Lib.hid hoi.out.krow
              have hgj := HG.out j
              generalize pkI (frF fr) (dgs T q (j : Nat)) = F at *
              have PLC := Lib.hid (PLC.out _ _ F wr BV.out.now.2.2.1 HKI.out)
              rw [← hgj] at PLC
              obtain ⟨x, hx⟩ : ∃ x, G j = x := ⟨_, rfl⟩
              rw [hx] at PLC
              have hx2 : x = G j := hx.symm
              clear hk hlt2 hx hgj
              go_wp2_with fail
              go_at_call 56
              (refine (PLC.out).mono ?_)
              rintro e w9 ⟨rfl, hb9⟩
              obtain ⟨a', c', y7, hr7, ho7⟩ := app1_step (ho.out.go (hoi.out.1.trans (hb9.mono hoi.out.1.size))) hx2 (by omega)
              have HO7 := Lib.hid ho7
              clear ho7 hb9 hx2
              go_wp2_with (at_builtin; refine Lib.wpList_append_run _ rfl _ _ _ _ rfl _ _ rfl rfl _ _ hr7 ?_)
              go_roundw
              case rel => exact ⟨j + 1, a', c', by omega, rfl, by go_num, ⟨_, rfl⟩, ⟨_, rfl⟩, HO7⟩
              case measure => simp [intOf]; omega
        · have hjM : j = M := by omega
          subst j
          have HKK := Lib.hid ho.out.krow
          have HR3 := Lib.hid BW.out.now.2.1
          clear hj hlt ho
          go_wp2_with (refine ld_pln rfl (.tmp 4) rfl w.heap.size rfl HR3.out ?_)
          go_at_call 57
          (with_reducible refine (RP.out _ _ _ (H.out.below BW.out.below) BW.out.now.2.2.2.2.1 HKK.out).mono ?_)
          rintro e w9 ⟨cs', rfl, hq9, hb9⟩
          have BW := Lib.hid (BW.out.go hb9)
          obtain ⟨sq, scq, tq, tcq, nq, ncq, rfl, _⟩ := hq9.form
          have HZ := Lib.hid BW.out.now.1
          have HE := Lib.hid (PoTold.yes (hq9.put HZ.out (plC sq q scq ch tq (tnO ch M) tcq nq (nnO ch M) ncq)) (below_put BW.out.below (show w.heap.size ≤ w.heap.size + 1 by omega) (plC sq q scq ch tq (tnO ch M) tcq nq (nnO ch M) ncq)))
          clear hq9 hb9
          go_wp2_with (refine st_pln rfl (.tmp 8) (.tmp 67) rfl (w.heap.size + 1) rfl _ _ _ _ _ _ _ _ _ _ rfl HZ.out rfl ?_)
          exact bodyPost_ret (res_pln2 Tryz.results26 rfl rfl (HZ.out.put _) rfl) rfl HE.out
end Go.Proofs.YtpmcbnliogjknaaGreatDoor
