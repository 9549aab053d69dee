/-
  Texts of this seat, laid together.
-/
import Derived.BigRegion
import Derived.RegionTactic
import Derived.Deep.RegionWith
import Derived.Deep.RegionHeld3
import Derived.Deep.DrawnRows
import Derived.IntWalk
import Derived.Laws.BitsLemmas
import Derived.Deep.MidRow
import Derived.StillTailTactics
import Derived.Deep.QuietTactic
import Derived.BigQuiet
import Derived.Laws.StructEq
import Derived.Test.YtdlccnmhcggjiaaGreatDoorShelf
import Derived.Below
import Derived.ChangeKeysEq
import Derived.Deep.AppendLies
import Derived.Deep.RegionLaw
import Derived.Shelf.Abstract
import Derived.Laws.BytesArg
import Derived.Lib.SliceRun
import Derived.Lib.Walk
import Derived.Lib.AppendZeros
import Derived.Laws.AppendOwnNone
import Derived.Lib.ItoaNum
import Derived.WalkKit
import Derived.WalkSpells
import Derived.Deep.Draws
import Derived.Lib.Hide
import Derived.Lib.TrimByte
import Derived.WalkLawsBesides
import Derived.Laws.CopyOwn
import Derived.Test.YtdlccnmhcggjiaaGreatDoorRows
import Derived.Laws.EntriesVeiled
import Derived.Laws.OwnMore
import Derived.ProofKit
import Derived.Carry
import Derived.Deep.Strs
import Derived.OpenShut
import Derived.Deep.Slices
import Derived.Lib.SmallJoins
import Derived.Test.YtdlccnmhcggjiaaGreatDoorQ1
import Derived.Test.YtdlccnmhcggjiaaGreatDoorQ2
import Derived.Test.YtdlccnmhcggjiaaGreatDoorQ3
import Derived.Test.YtdlccnmhcggjiaaGreatDoorQ4
import Derived.Test.YtdlccnmhcggjiaaGreatDoorQ5
import Derived.Test.YtdlccnmhcggjiaaGreatDoorQ6
import Derived.Test.YtdlccnmhcggjiaaGreatDoorQ7
import Derived.Test.YtdlccnmhcggjiaaGreatDoorQ8
import Derived.Test.YtdlccnmhcggjiaaGreatDoorQ9
import Derived.Test.YtdlccnmhcggjiaaGreatDoorQ10
import Derived.Test.YtdlccnmhcggjiaaGreatDoorQ11
set_option maxHeartbeats 12800000
set_option maxRecDepth 100000
set_option linter.unusedSimpArgs false
set_option linter.unusedVariables false
namespace Go.Proofs.YtdlccnmhcggjiaaGreatDoor
open Go.RowKit
theorem lm_ok {kb : Bool} {q : Nat} {s : Nat -> Int} {r2 : Nat} {S2 : Nat -> Int} {i : Int} (h : lmE kb q s r2 S2 i = 0) : kb = true /\ shB (lmT s i.toNat) (q + 1) = true := by
 unfold lmE at h
 cases kb with
 | false => rw [if_pos rfl] at h; cases h
 | true =>
  rw [if_neg (by decide)] at h
  refine ⟨rfl, ?_⟩
  by_cases e1 : i < 0 ∨ (q : Int) < i ∨ q = 8
  · rw [if_pos e1] at h; cases h
  · rw [if_neg e1] at h
    by_cases e2 : cvE r2 S2 q s = 0
    · rw [if_pos e2] at h; exact pkE_zero h
    · rw [if_neg e2] at h; exact absurd h e2
end Go.Proofs.YtdlccnmhcggjiaaGreatDoor
namespace Go.Proofs.YtdlccnmhcggjiaaGreatDoor
open Go.RowKit
attribute [local go_sem ↓] Go.wp_at_zero Go.wp_at_succ
theorem stPw {ops : Array Oper} {rest : List Oper} {o : Oper} {a : Act} {w : World} {Q : Exit -> Act -> World -> Prop} (hgd : o.guard = none) (x y : Operand) (ho : o.op = .store 26 x y) (g : Nat) (hx : a.eval x = .pointer (some ⟨g, 0, none⟩))
    (cs : Array Value) (hy : a.eval y = .agg cs) (hc : IsP cs) {old : Array Value} (hg : Row w g 26 old) (hz : IsP old)
    (h : wpList Tryz.prog ops Q rest (a.put o.dst undef) (w.setRow g cs)) : wpList Tryz.prog ops Q (o :: rest) a w :=
 wpList_store_row hgd _ x y ho g _ hx hy _ old hg (by rw [pln4, hc.size]) (by rw [hz.size, hc.size]) hc.one h
theorem Pln.store {w : World} {cs : Array Value} {S : Nat -> Int} {r : Nat} {ch : Bool} {L : Nat} {g : Nat -> Int} {fB : Nat -> Bool} {fS fT : Nat -> ByteArray} (h : Pln w cs S r ch L g fB fS fT) {k : Nat} {t : TypeId} {z : Array Value} (hr : Row w k t z) (hz : IsP z) (cs' : Array Value) : Pln (w.setRow k cs') cs S r ch L g fB fS fT := by
 obtain ⟨_, _, _, _, _, _, _, _, _, _, rfl⟩ := hz
 exact PlnAt.away h hr (noInt_pl _ _ _ _ _ _ _ _ _ _) (noStr_pl _ _ _ _ _ _ _ _ _ _) (Far.setRow _ _ _)
end Go.Proofs.YtdlccnmhcggjiaaGreatDoor
namespace Go.Proofs.YtdlccnmhcggjiaaGreatDoor
open Go.RowKit
theorem cv_itm {r q : Nat} {S s : Nat -> Int} (h : cvE r S q s = 0) (hr : r ≠ 0) : r = q /\ itm s q = itm S r := by
 unfold cvE at h
 rw [if_neg hr] at h
 by_cases h1 : (decide (r = q) && sameB S s r) = true
 · rw [Bool.and_eq_true, decide_eq_true_eq] at h1
   obtain ⟨e, h2⟩ := h1
   subst e
   exact ⟨rfl, (itm_congr (sameB_iff.1 h2)).symm⟩
 · rw [if_neg h1] at h
   by_cases h2 : r = q
   · rw [if_pos h2] at h; cases h
   · rw [if_neg h2] at h; cases h
theorem lm_itm {r1 r2 : Nat} {S1 S2 : Nat -> Int} (h : r1 ≠ 0) : itm (lmS r1 S1 S2) (lmR r1 r2) = itm S1 r1 := by unfold lmS lmR; rw [if_neg h, if_neg h]
theorem lam_laid (y1 : Array Value) (S1 : Nat -> Int) (r1 : Nat) (CH : Bool) (L1 : Nat) (g1 : Nat -> Int) (B1 : Nat -> Bool) (s1 t1 : Nat -> ByteArray) (y2 : Array Value) (S2 : Nat -> Int) (r2 : Nat) (L2 : Nat) (g2 : Nat -> Int) (B2 : Nat -> Bool) (s2 t2 : Nat -> ByteArray) (aX : Option Addr) (cX : Nat) (aY : Option Addr) (cY : Nat) (k : Nat) (w : World)
    (p1 : Pln w y1 S1 r1 CH L1 g1 B1 s1 t1) (p2 : Pln w y2 S2 r2 CH L2 g2 B2 s2 t2) (kx : KRow w .i64 aX (lmR r1 r2 + 1) cX (insF (lmS r1 S1 S2) k 1)) (ky : KRow w .i64 aY (lmR r1 r2 + 1) cY (insF (lmS r1 S1 S2) k 1))
    (hsh1 : shB S1 r1 = true) (hc1 : itm S1 r1 = (L1 : Nat)) (hsh2 : shB S2 r2 = true) (hc2 : itm S2 r2 = (L2 : Nat)) (hkq : k <= lmR r1 r2) (h8 : lmR r1 r2 + 1 <= 8) (hcv : cvE r2 S2 (lmR r1 r2) (lmS r1 S1 S2) = 0) :
    Calls Tryz.prog 43 #[.agg y1, .agg y2, .slice aX (lmR r1 r2 + 1) cX, .slice aY (lmR r1 r2 + 1) cY, .int .i64 (k : Nat)] w fun e w' => PoTold (pkE (lmT (lmS r1 S1 S2) k) (lmR r1 r2 + 1)) (lmT (lmS r1 S1 S2) k) (lmR r1 r2 + 1) CH (itm (lmT (lmS r1 S1 S2) k) (lmR r1 r2 + 1)).toNat (wvF (lmN (lmS r1 S1 S2) (lmR r1 r2) k) (lmN (lmS r1 S1 S2) (lmR r1 r2) k) (fun j => elC L1 g1 32 (exG r1 j)) (fun j => elC L2 g2 32 (exG r2 j))) (wvF (lmN (lmS r1 S1 S2) (lmR r1 r2) k) (lmN (lmS r1 S1 S2) (lmR r1 r2) k) (fun j => elB L1 B1 (exG r1 j)) (fun j => elB L2 B2 (exG r2 j))) (wvF (lmN (lmS r1 S1 S2) (lmR r1 r2) k) (lmN (lmS r1 S1 S2) (lmR r1 r2) k) (fun j => elS L1 s1 (rS 0) (exG r1 j)) (fun j => elS L2 s2 (rS 0) (exG r2 j))) (wvF (lmN (lmS r1 S1 S2) (lmR r1 r2) k) (lmN (lmS r1 S1 S2) (lmR r1 r2) k) (fun j => elS L1 t1 (str (dec 1)) (exG r1 j)) (fun j => elS L2 t2 (str (dec 1)) (exG r2 j))) w w' e := by
 have hss : shB (lmS r1 S1 S2) (lmR r1 r2) = true := by unfold lmS lmR; split <;> assumption
 have hL1 : L1 <= 4096 := by have := ax_bd (sh_ax hsh1).2; omega
 have hL2 : L2 <= 4096 := by have := ax_bd (sh_ax hsh2).2; omega
 have e1 : r1 ≠ 0 -> itm (insF (lmS r1 S1 S2) k 1) (lmR r1 r2 + 1) = (L1 : Nat) := fun h => by rw [(ins_rm hkq).2, lm_itm h]; exact hc1
 have e2 : r2 ≠ 0 -> itm (insF (lmS r1 S1 S2) k 1) (lmR r1 r2 + 1) = (L2 : Nat) := fun h => by rw [(ins_rm hkq).2, (cv_itm hcv h).2]; exact hc2
 have h10 : r1 = 0 -> L1 = 1 := fun e => by subst e; have : itm S1 0 = 1 := rfl; omega
 have h20 : r2 = 0 -> L2 = 1 := fun e => by subst e; have : itm S2 0 = 1 := rfl; omega
 obtain ⟨q, hq⟩ : ∃ q, lmR r1 r2 = q := ⟨_, rfl⟩
 obtain ⟨s, hs⟩ : ∃ s, lmS r1 S1 S2 = s := ⟨_, rfl⟩
 rw [hq] at kx ky hkq h8 hcv hss e1 e2 ⊢
 rw [hs] at kx ky hcv hss e1 e2 ⊢
 obtain ⟨X, hX⟩ : ∃ f, insF s k 1 = f := ⟨_, rfl⟩
 have hXk : X k = 1 := by rw [← hX, ins_at]
 have hXs : shB X (q + 1) = true := by rw [← hX]; exact ins_sh hkq h8 hss
 have st : 0 <= stF X (q + 1) k := (ax_bd (ax_shf (k + 1) (sh_ax hXs).2 (q + 1 - (k + 1)) (by omega))).2.2.1
 have n1 : ((lmN s q k : Nat) : Int) = stF X (q + 1) k := by unfold lmN; rw [hX]; exact Int.toNat_of_nonneg st
 have eT : wiF X (k : Nat) (X k + X k) = lmT s k := by rw [hXk]; unfold lmT; rw [hX]; rfl
 rw [hX] at kx ky e1 e2
 have hb := rlaid_any y1 S1 r1 CH L1 g1 B1 s1 t1 y2 S2 r2 L2 g2 B2 s2 t2 aX (q + 1) cX X aY cY X k (lmN s q k) (lmN s q k) w p1 p2 kx ky hXs hXs (by omega) (fun _ _ _ => rfl) (by rw [hXk, Int.one_mul]; exact n1) (by rw [hXk, Int.one_mul]; exact n1) h10 e1 h20 e2 (by omega) (by omega)
 rw [eT] at hb
 exact hb
end Go.Proofs.YtdlccnmhcggjiaaGreatDoor
namespace Go.Proofs.YtdlccnmhcggjiaaGreatDoor
open Go.RowKit
attribute [local go_sem ↓] Go.wp_at_zero Go.wp_at_succ
theorem rlam_z (x1 : Array Value) (S1 : Nat -> Int) (r1 : Nat) (ch1 : Bool) (L1 : Nat) (g1 : Nat -> Int) (B1 : Nat -> Bool) (s1 t1 : Nat -> ByteArray) (x2 : Array Value) (S2 : Nat -> Int) (r2 : Nat) (ch2 : Bool) (L2 : Nat) (g2 : Nat -> Int) (B2 : Nat -> Bool) (s2 t2 : Nat -> ByteArray) (i : Int) (w : World) (h1 : Pln w x1 S1 r1 ch1 L1 g1 B1 s1 t1) (h2 : Pln w x2 S2 r2 ch2 L2 g2 B2 s2 t2)
    (hsh1 : shB S1 r1 = true) (hc1 : itm S1 r1 = (L1 : Nat)) (hsh2 : shB S2 r2 = true) (hc2 : itm S2 r2 = (L2 : Nat)) (hi : -9223372036854775808 <= i /\ i <= 9223372036854775807) (hz : Hid (r1 = 0)) :
    Calls Tryz.prog 15 #[.agg x1, .agg x2, .int .i64 i] w fun e w' => PoTold (lmE (kdB ch1 L1 ch2 L2) (lmR r1 r2) (lmS r1 S1 S2) r2 S2 i) (lmT (lmS r1 S1 S2) i.toNat) (lmR r1 r2 + 1) (kdC ch1 L1 ch2 L2) (itm (lmT (lmS r1 S1 S2) i.toNat) (lmR r1 r2 + 1)).toNat (wvF (lmN (lmS r1 S1 S2) (lmR r1 r2) i.toNat) (lmN (lmS r1 S1 S2) (lmR r1 r2) i.toNat) (fun j => elC L1 g1 32 (exG r1 j)) (fun j => elC L2 g2 32 (exG r2 j))) (wvF (lmN (lmS r1 S1 S2) (lmR r1 r2) i.toNat) (lmN (lmS r1 S1 S2) (lmR r1 r2) i.toNat) (fun j => elB L1 B1 (exG r1 j)) (fun j => elB L2 B2 (exG r2 j))) (wvF (lmN (lmS r1 S1 S2) (lmR r1 r2) i.toNat) (lmN (lmS r1 S1 S2) (lmR r1 r2) i.toNat) (fun j => elS L1 s1 (rS 0) (exG r1 j)) (fun j => elS L2 s2 (rS 0) (exG r2 j))) (wvF (lmN (lmS r1 S1 S2) (lmR r1 r2) i.toNat) (lmN (lmS r1 S1 S2) (lmR r1 r2) i.toNat) (fun j => elS L1 t1 (str (dec 1)) (exG r1 j)) (fun j => elS L2 t2 (str (dec 1)) (exG r2 j))) w w' e := by
 obtain ⟨sa1, sc1, ta1, tc1, na1, nc1, hx1, _⟩ := h1.form
 subst hx1
 obtain ⟨sa2, sc2, ta2, tc2, na2, nc2, hx2, _⟩ := h2.form
 subst hx2
 have hr1 := (sh_ax hsh1).1
 have hr2 := (sh_ax hsh2).1
 have hL1 : L1 <= 4096 := by have := ax_bd (sh_ax hsh1).2; omega
 have hL2 : L2 <= 4096 := by have := ax_bd (sh_ax hsh2).2; omega
 have H1 := Lib.hid h1
 have H2 := Lib.hid h2
 have KN := Lib.hid (fun wz h1 h2 => rkinds_any (plC sa1 r1 sc1 ch1 ta1 (tnO ch1 L1) tc1 na1 (nnO ch1 L1) nc1) S1 r1 ch1 L1 g1 B1 s1 t1 (plC sa2 r2 sc2 ch2 ta2 (tnO ch2 L2) tc2 na2 (nnO ch2 L2) nc2) S2 r2 ch2 L2 g2 B2 s2 t2 wz h1 h2 (by omega) (by omega))
 have BB0 := Lib.hid ((((Bag.start w).newRow (plC sa1 r1 sc1 ch1 ta1 (tnO ch1 L1) tc1 na1 (nnO ch1 L1) nc1) 26).newRow (plC sa2 r2 sc2 ch2 ta2 (tnO ch2 L2) tc2 na2 (nnO ch2 L2) nc2) 26).newRow plZer 26)
 simp only [World.size_alloc] at BB0
 have BB := Lib.hid (show Bag w (fun y => Row y w.heap.size 26 (plC sa1 r1 sc1 ch1 ta1 (tnO ch1 L1) tc1 na1 (nnO ch1 L1) nc1) /\ Row y (w.heap.size + 1) 26 (plC sa2 r2 sc2 ch2 ta2 (tnO ch2 L2) tc2 na2 (nnO ch2 L2) nc2) /\ Row y (w.heap.size + 1 + 1) 26 plZer /\ True) _ from ⟨BB0.out.below, fun a b hb ⟨q1, q2, q3, _⟩ => ⟨q1.below hb, q2.below hb, q3.below hb, trivial⟩, BB0.out.now.2.2.1, BB0.out.now.2.1, BB0.out.now.1, trivial⟩)
 have HR1 := Lib.hid BB.out.now.1
 have HR2 := Lib.hid BB.out.now.2.1
 clear h1 h2 BB0
 obtain ⟨KB, hKB⟩ : ∃ b, kdB ch1 L1 ch2 L2 = b := ⟨_, rfl⟩
 obtain ⟨CH, hCH⟩ : ∃ b, kdC ch1 L1 ch2 L2 = b := ⟨_, rfl⟩
 rw [hKB, hCH]
 rw [hKB, hCH] at KN
 clear hKB hCH
 have hss : shB (lmS r1 S1 S2) (lmR r1 r2) = true := by unfold lmS lmR; split <;> assumption
 have hqz : r1 = 0 -> lmR r1 r2 = r2 /\ lmS r1 S1 S2 = S2 := fun e => ⟨by unfold lmR; rw [if_pos e], by unfold lmS; rw [if_pos e]⟩
 have hqn : r1 ≠ 0 -> lmR r1 r2 = r1 /\ lmS r1 S1 S2 = S1 := fun e => ⟨by unfold lmR; rw [if_neg e], by unfold lmS; rw [if_neg e]⟩
 have LL := fun k y1 y2 aX cX aY cY wz p1 p2 kx ky h1 h2 h3 => lam_laid y1 S1 r1 CH L1 g1 B1 s1 t1 y2 S2 r2 L2 g2 B2 s2 t2 aX cX aY cY k wz p1 p2 kx ky hsh1 hc1 hsh2 hc2 h1 h2 h3
 obtain ⟨q, hq⟩ : ∃ q, lmR r1 r2 = q := ⟨_, rfl⟩
 obtain ⟨s, hs⟩ : ∃ s, lmS r1 S1 S2 = s := ⟨_, rfl⟩
 rw [hq, hs] at hss hqz hqn
 simp only [hq, hs] at LL
 rw [hq, hs]
 have hqq := (sh_ax hss).1
 clear hq hs
 unfold lmE
 obtain ⟨KK, hKK⟩ : ∃ k : Nat, i.toNat = k := ⟨_, rfl⟩
 rw [hKK]
 obtain ⟨T, hT⟩ : ∃ f, lmT s KK = f := ⟨_, rfl⟩
 rw [hT]
 obtain ⟨M, hM⟩ : ∃ n, (itm T (q + 1)).toNat = n := ⟨_, rfl⟩
 rw [hM]
 obtain ⟨N, hN⟩ : ∃ n, lmN s q KK = n := ⟨_, rfl⟩
 rw [hN]
 obtain ⟨E, hE⟩ : ∃ E, (if KB = false then 22 else if i < 0 ∨ (q : Int) < i ∨ q = 8 then 23 else if cvE r2 S2 q s = 0 then pkE T (q + 1) else cvE r2 S2 q s : Int) = E := ⟨_, rfl⟩
 rw [hE]
 obtain ⟨eC, heC⟩ : ∃ f, (wvF N N (fun j => elC L1 g1 32 (exG r1 j)) (fun j => elC L2 g2 32 (exG r2 j))) = f := ⟨_, rfl⟩
 obtain ⟨eB, heB⟩ : ∃ f, (wvF N N (fun j => elB L1 B1 (exG r1 j)) (fun j => elB L2 B2 (exG r2 j))) = f := ⟨_, rfl⟩
 obtain ⟨eS, heS⟩ : ∃ f, (wvF N N (fun j => elS L1 s1 (rS 0) (exG r1 j)) (fun j => elS L2 s2 (rS 0) (exG r2 j))) = f := ⟨_, rfl⟩
 obtain ⟨eT, heT⟩ : ∃ f, (wvF N N (fun j => elS L1 t1 (str (dec 1)) (exG r1 j)) (fun j => elS L2 t2 (str (dec 1)) (exG r2 j))) = f := ⟨_, rfl⟩
 rw [heC, heB, heS, heT]
 have LD : Hid (∀ k : Nat, i = (k : Nat) -> k <= q -> q + 1 <= 8 -> KB = true -> cvE r2 S2 q s = 0 -> ∀ y1 y2 aX cX aY cY wz, Pln wz y1 S1 r1 CH L1 g1 B1 s1 t1 -> Pln wz y2 S2 r2 CH L2 g2 B2 s2 t2 -> KRow wz .i64 aX (q + 1) cX (insF s k 1) -> KRow wz .i64 aY (q + 1) cY (insF s k 1) ->
     Calls Tryz.prog 43 #[.agg y1, .agg y2, .slice aX (q + 1) cX, .slice aY (q + 1) cY, .int .i64 (k : Nat)] wz fun e w' => PoTold E T (q + 1) CH M eC eB eS eT wz w' e) := Lib.hid (fun k hk hkq h8 hkb hcv y1 y2 aX cX aY cY wz p1 p2 kx ky => by
  have hkk : KK = k := by rw [← hKK, hk]; rfl
  subst hkk
  have hb := LL KK y1 y2 aX cX aY cY wz p1 p2 kx ky hkq h8 hcv
  have eE : pkE T (q + 1) = E := by
   rw [← hE, if_neg (by rw [hkb]; decide), if_neg (by omega), if_pos hcv]
  rw [hT, hN, heC, heB, heS, heT, eE, hM] at hb
  exact hb)
 have PT : Hid (∀ k : Nat, k <= q -> ∀ a c wz, KRow wz .i64 a q c s -> Calls Tryz.prog 49 #[.slice a q c, .int .i64 (k : Nat)] wz fun e w' => ∃ a' c', e = .returned (.slice a' (q + 1) c') /\ KRow w' .i64 a' (q + 1) c' (insF s k 1) /\ Below wz.heap.size wz w') := Lib.hid (fun k hk a c wz h => rpart_any a c s q k wz h hk (by omega))
 have HF22 : Hid (KB = false -> E = 22) := Lib.hid (fun e => by rw [← hE, if_pos e])
 have HF23 : Hid (KB = true -> (i < 0 ∨ (q : Int) < i ∨ q = 8) -> E = 23) := Lib.hid (fun e h1 => by rw [← hE, if_neg (by rw [e]; decide), if_pos h1])
 have HF2 : Hid (KB = true -> ∀ k : Nat, i = (k : Nat) -> k <= q -> q + 1 <= 8 -> cvE r2 S2 q s ≠ 0 -> E = cvE r2 S2 q s) := Lib.hid (fun hkb k hk h1 h2 e2 => by
  rw [← hE, if_neg (by rw [hkb]; decide), if_neg (by omega), if_neg e2])
 have HGR := Lib.hid (And.intro hqz hqn)
 clear hE hN hM hT hKK hss hsh1 hsh2 hc1 hc2 hqz hqn LL heC heB heS heT
 unfold plZer at BB
 unfold plC at BB HR1 HR2
 unfold plC at KN
 unfold plC
 go_enter Tryz.func15, Tryz.ntmps15
 go_wp2_with fail
 generalize hW : (((w.alloc (.cells _ 26)).alloc (.cells _ 26)).alloc (.cells _ 26)) = YY at *
 clear hW
 go_wp2_with (first
  | (refine ld_pln rfl (.tmp 3) rfl w.heap.size rfl HR1.out ?_)
  | (refine ld_pln rfl (.tmp 4) rfl (w.heap.size + 1) rfl HR2.out ?_))
 go_at_call 41
 (refine (KN.out _ (H1.out.below BB.out.below) (H2.out.below BB.out.below)).mono ?_)
 rintro e w2 ⟨y1, y2, rfl, i1, i2, hyy, hb2⟩
 have B2 := BB.out.go hb2
 have HZ1 := Lib.hid B2.now.1
 have HZ2 := Lib.hid (B2.now.2.1.puto (k := w.heap.size) (by omega) y1)
 have G1 := Lib.hid ((B2.now.1.put y1).puto (k := w.heap.size + 1) (by omega) y2)
 have G2 := Lib.hid ((B2.now.2.1.puto (k := w.heap.size) (by omega) y1).put y2)
 have G3 := Lib.hid ((B2.now.2.2.1.puto (k := w.heap.size) (by omega) y1).puto (k := w.heap.size + 1) (by omega) y2)
 have G4 := Lib.hid (below_put (below_put B2.below (Nat.le_refl _) y1) (show w.heap.size <= w.heap.size + 1 by omega) y2)
 have G5 := Lib.hid (fun e => ((hyy e).1.store B2.now.1 ⟨_, _, _, _, _, _, _, _, _, _, rfl⟩ y1).store (B2.now.2.1.puto (k := w.heap.size) (by omega) y1) ⟨_, _, _, _, _, _, _, _, _, _, rfl⟩ y2)
 have G6 := Lib.hid (fun e => ((hyy e).2.store B2.now.1 ⟨_, _, _, _, _, _, _, _, _, _, rfl⟩ y1).store (B2.now.2.1.puto (k := w.heap.size) (by omega) y1) ⟨_, _, _, _, _, _, _, _, _, _, rfl⟩ y2)
 have I1 := Lib.hid i1
 have I2 := Lib.hid i2
 have HC1 : Hid (IsP #[.slice sa1 r1 sc1, .bool ch1, .slice ta1 (tnO ch1 L1) tc1, .slice na1 (nnO ch1 L1) nc1]) := Lib.hid ⟨_, _, _, _, _, _, _, _, _, _, rfl⟩
 have HC2 : Hid (IsP #[.slice sa2 r2 sc2, .bool ch2, .slice ta2 (tnO ch2 L2) tc2, .slice na2 (nnO ch2 L2) nc2]) := Lib.hid ⟨_, _, _, _, _, _, _, _, _, _, rfl⟩
 clear hb2 B2 HR1 HR2 BB KN H1 H2
 cases KB with
 | false =>
  clear hyy i1 i2
  obtain rfl := HF22.out rfl
  have HE := Lib.hid (PoTold.no (S := T) (r := q + 1) (ch := CH) (L := M) (g := eC) (fB := eB) (fS := eS) (fT := eT) (E := 22) (by decide) (below_put G4.out (show w.heap.size <= w.heap.size + 1 + 1 by omega) plZer))
  go_wp2_with (first
   | (refine stPw rfl (.tmp 3) (.tmp 14) rfl (w.heap.size) rfl y1 rfl I1.out HZ1.out HC1.out ?_)
   | (refine stPw rfl (.tmp 4) (.tmp 15) rfl (w.heap.size + 1) rfl y2 rfl I2.out HZ2.out HC2.out ?_)
   | (refine st_pln rfl (.tmp 6) (.tmp 19) rfl (w.heap.size + 1 + 1) rfl none 0 0 false none 0 0 none 0 0 rfl G3.out rfl ?_))
  exact bodyPost_ret (res_pln2 Tryz.results15 rfl rfl (G3.out.put _) rfl) rfl HE.out
 | true =>
  obtain ⟨va1, vc1, vt1, vtc1, vn1, vnc1, hv1, hvk1⟩ := (hyy rfl).1.form
  subst hv1
  obtain ⟨va2, vc2, vt2, vtc2, vn2, vnc2, hv2, hvk2⟩ := (hyy rfl).2.form
  subst hv2
  have BC0 := Lib.hid (show Bag w (fun y => Row y w.heap.size 26 (plC va1 r1 vc1 CH vt1 (tnO CH L1) vtc1 vn1 (nnO CH L1) vnc1) /\ Row y (w.heap.size + 1) 26 (plC va2 r2 vc2 CH vt2 (tnO CH L2) vtc2 vn2 (nnO CH L2) vnc2) /\ Row y (w.heap.size + 1 + 1) 26 plZer /\ Pln y (plC va1 r1 vc1 CH vt1 (tnO CH L1) vtc1 vn1 (nnO CH L1) vnc1) S1 r1 CH L1 g1 B1 s1 t1 /\ Pln y (plC va2 r2 vc2 CH vt2 (tnO CH L2) vtc2 vn2 (nnO CH L2) vnc2) S2 r2 CH L2 g2 B2 s2 t2) ((w2.setRow w.heap.size (plC va1 r1 vc1 CH vt1 (tnO CH L1) vtc1 vn1 (nnO CH L1) vnc1)).setRow (w.heap.size + 1) (plC va2 r2 vc2 CH vt2 (tnO CH L2) vtc2 vn2 (nnO CH L2) vnc2)) from ⟨G4.out, (fun a b hb ⟨q1, q2, q3, q4, q5⟩ => ⟨q1.below hb, q2.below hb, q3.below hb, q4.below hb, q5.below hb⟩), G1.out, G2.out, G3.out, G5.out rfl, G6.out rfl⟩)
  obtain ⟨va1', vc1', vt1', vtc1', vn1', vnc1', hv1, hvk1⟩ := BC0.out.now.2.2.2.1.form
  unfold plC at hv1
  cases hv1
  obtain ⟨va2', vc2', vt2', vtc2', vn2', vnc2', hv2, hvk2⟩ := BC0.out.now.2.2.2.2.form
  unfold plC at hv2
  cases hv2
  clear G1 G2 G3 G4 G5 G6 hyy i1 i2
  have z1 : ((w2.setRow w.heap.size (plC va1 r1 vc1 CH vt1 (tnO CH L1) vtc1 vn1 (nnO CH L1) vnc1)).setRow (w.heap.size + 1) (plC va2 r2 vc2 CH vt2 (tnO CH L2) vtc2 vn2 (nnO CH L2) vnc2)).cell? ⟨w.heap.size, 0, none⟩ = some (.slice va1 r1 vc1) := BC0.out.now.1.cell 0
  have z2 : ((w2.setRow w.heap.size (plC va1 r1 vc1 CH vt1 (tnO CH L1) vtc1 vn1 (nnO CH L1) vnc1)).setRow (w.heap.size + 1) (plC va2 r2 vc2 CH vt2 (tnO CH L2) vtc2 vn2 (nnO CH L2) vnc2)).cell? ⟨w.heap.size + 1, 0, none⟩ = some (.slice va2 r2 vc2) := BC0.out.now.2.1.cell 0
  have HV1 := Lib.hid hvk1
  have HV2 := Lib.hid hvk2
  have hl1 := hvk1.len
  have hl2 := hvk2.len
  clear hvk1 hvk2
  by_cases h0 : r1 = 0
  · obtain ⟨HQQ, HSS⟩ := HGR.out.1 h0
    clear HGR
    have d5 : ((r1 : Int) == 0) = true := beq_iff_eq.2 (by omega)
    clear h0
    have BC := Lib.hid (BC0.out.krow HV2.out)
    have HQQ := HQQ.symm
    have HSS := HSS.symm
    subst HQQ
    subst HSS
    clear BC0 HV1 HV2
    by_cases hA : i < 0 ∨ ((r2 : Nat) : Int) < i ∨ r2 = 8
    · obtain rfl := HF23.out rfl hA
      rcases hA with hA | hA | hA
      · have HZ3 := Lib.hid BC.out.now.2.2.2.1
        have HE := Lib.hid (PoTold.no (S := T) (r := r2 + 1) (ch := CH) (L := M) (g := eC) (fB := eB) (fS := eS) (fT := eT) (E := 23) (by decide) (below_put BC.out.below (show w.heap.size <= w.heap.size + 1 + 1 by omega) plZer))
        clear PT LD HF2 HF22 HF23
        go_wp2_with (first
         | (refine stPw rfl (.tmp 3) (.tmp 14) rfl (w.heap.size) rfl _ rfl I1.out HZ1.out HC1.out ?_)
         | (refine stPw rfl (.tmp 4) (.tmp 15) rfl (w.heap.size + 1) rfl _ rfl I2.out HZ2.out HC2.out ?_)
         | (refine st_pln rfl (.tmp 6) (.tmp 40) rfl (w.heap.size + 1 + 1) rfl none 0 0 false none 0 0 none 0 0 rfl HZ3.out rfl ?_))
        exact bodyPost_ret (res_pln2 Tryz.results15 rfl rfl (HZ3.out.put _) rfl) rfl HE.out
      · have hn : ¬ i < 0 := by omega
        have HZ3 := Lib.hid BC.out.now.2.2.2.1
        have HE := Lib.hid (PoTold.no (S := T) (r := r2 + 1) (ch := CH) (L := M) (g := eC) (fB := eB) (fS := eS) (fT := eT) (E := 23) (by decide) (below_put BC.out.below (show w.heap.size <= w.heap.size + 1 + 1 by omega) plZer))
        clear PT LD HF2 HF22 HF23
        go_wp2_with (first
         | (refine stPw rfl (.tmp 3) (.tmp 14) rfl (w.heap.size) rfl _ rfl I1.out HZ1.out HC1.out ?_)
         | (refine stPw rfl (.tmp 4) (.tmp 15) rfl (w.heap.size + 1) rfl _ rfl I2.out HZ2.out HC2.out ?_)
         | (refine st_pln rfl (.tmp 6) (.tmp 40) rfl (w.heap.size + 1 + 1) rfl none 0 0 false none 0 0 none 0 0 rfl HZ3.out rfl ?_))
        exact bodyPost_ret (res_pln2 Tryz.results15 rfl rfl (HZ3.out.put _) rfl) rfl HE.out
      · have hq8 : (8 : Int) <= ((r2 : Nat) : Int) := by omega
        clear hA
        by_cases hn : i < 0
        · have HZ3 := Lib.hid BC.out.now.2.2.2.1
          have HE := Lib.hid (PoTold.no (S := T) (r := r2 + 1) (ch := CH) (L := M) (g := eC) (fB := eB) (fS := eS) (fT := eT) (E := 23) (by decide) (below_put BC.out.below (show w.heap.size <= w.heap.size + 1 + 1 by omega) plZer))
          clear PT LD HF2 HF22 HF23
          go_wp2_with (first
           | (refine stPw rfl (.tmp 3) (.tmp 14) rfl (w.heap.size) rfl _ rfl I1.out HZ1.out HC1.out ?_)
           | (refine stPw rfl (.tmp 4) (.tmp 15) rfl (w.heap.size + 1) rfl _ rfl I2.out HZ2.out HC2.out ?_)
           | (refine st_pln rfl (.tmp 6) (.tmp 40) rfl (w.heap.size + 1 + 1) rfl none 0 0 false none 0 0 none 0 0 rfl HZ3.out rfl ?_))
          exact bodyPost_ret (res_pln2 Tryz.results15 rfl rfl (HZ3.out.put _) rfl) rfl HE.out
        · by_cases hn2 : ((r2 : Nat) : Int) < i
          · have HZ3 := Lib.hid BC.out.now.2.2.2.1
            have HE := Lib.hid (PoTold.no (S := T) (r := r2 + 1) (ch := CH) (L := M) (g := eC) (fB := eB) (fS := eS) (fT := eT) (E := 23) (by decide) (below_put BC.out.below (show w.heap.size <= w.heap.size + 1 + 1 by omega) plZer))
            clear PT LD HF2 HF22 HF23
            go_wp2_with (first
             | (refine stPw rfl (.tmp 3) (.tmp 14) rfl (w.heap.size) rfl _ rfl I1.out HZ1.out HC1.out ?_)
             | (refine stPw rfl (.tmp 4) (.tmp 15) rfl (w.heap.size + 1) rfl _ rfl I2.out HZ2.out HC2.out ?_)
             | (refine st_pln rfl (.tmp 6) (.tmp 40) rfl (w.heap.size + 1 + 1) rfl none 0 0 false none 0 0 none 0 0 rfl HZ3.out rfl ?_))
            exact bodyPost_ret (res_pln2 Tryz.results15 rfl rfl (HZ3.out.put _) rfl) rfl HE.out
          · have HZ3 := Lib.hid BC.out.now.2.2.2.1
            have HE := Lib.hid (PoTold.no (S := T) (r := r2 + 1) (ch := CH) (L := M) (g := eC) (fB := eB) (fS := eS) (fT := eT) (E := 23) (by decide) (below_put BC.out.below (show w.heap.size <= w.heap.size + 1 + 1 by omega) plZer))
            clear PT LD HF2 HF22 HF23
            go_wp2_with (first
             | (refine stPw rfl (.tmp 3) (.tmp 14) rfl (w.heap.size) rfl _ rfl I1.out HZ1.out HC1.out ?_)
             | (refine stPw rfl (.tmp 4) (.tmp 15) rfl (w.heap.size + 1) rfl _ rfl I2.out HZ2.out HC2.out ?_)
             | (refine st_pln rfl (.tmp 6) (.tmp 40) rfl (w.heap.size + 1 + 1) rfl none 0 0 false none 0 0 none 0 0 rfl HZ3.out rfl ?_))
            exact bodyPost_ret (res_pln2 Tryz.results15 rfl rfl (HZ3.out.put _) rfl) rfl HE.out
    · obtain ⟨k, rfl⟩ : ∃ k : Nat, i = (k : Nat) := ⟨i.toNat, by omega⟩
      have hkq : k <= r2 := by omega
      have h8 : r2 + 1 <= 8 := by omega
      have dA : ¬ ((k : Int) < 0) := by omega
      have dB : (0 : Int) <= (k : Int) := by omega
      have d1 : ¬ ((r2 : Int) < (k : Int)) := by omega
      have d2 : (k : Int) <= (r2 : Int) := by omega
      have d3 : ¬ ((8 : Int) <= (r2 : Int)) := by omega
      have d4 : (r2 : Int) < 8 := by omega
      clear hA
      by_cases e0 : r2 = 0
      · have HCV : Hid (cvE r2 S2 r2 S2 = 0) := Lib.hid (by unfold cvE; rw [if_pos e0])
        have d9 : ((r2 : Int) != 0) = false := by rw [e0]; rfl
        clear e0
        go_wp2_with (first
         | (refine stPw rfl (.tmp 3) (.tmp 14) rfl (w.heap.size) rfl _ rfl I1.out HZ1.out HC1.out ?_)
         | (refine stPw rfl (.tmp 4) (.tmp 15) rfl (w.heap.size + 1) rfl _ rfl I2.out HZ2.out HC2.out ?_))
        generalize hWW : ((w2.setRow w.heap.size (plC va1 r1 vc1 CH vt1 (tnO CH L1) vtc1 vn1 (nnO CH L1) vnc1)).setRow (w.heap.size + 1) (plC va2 r2 vc2 CH vt2 (tnO CH L2) vtc2 vn2 (nnO CH L2) vnc2)) = WW at *
        clear hWW
        have HSF : Hid (∀ y, Below WW.heap.size WW y -> y.cell? ⟨w.heap.size, 0, none⟩ = some (.slice va1 r1 vc1) /\ y.cell? ⟨w.heap.size, 1, none⟩ = some (.bool CH) /\ y.cell? ⟨w.heap.size, 2, none⟩ = some (.slice vt1 (tnO CH L1) vtc1) /\ y.cell? ⟨w.heap.size, 3, none⟩ = some (.slice vn1 (nnO CH L1) vnc1) /\ y.cell? ⟨w.heap.size + 1, 0, none⟩ = some (.slice va2 r2 vc2) /\ y.cell? ⟨w.heap.size + 1, 1, none⟩ = some (.bool CH) /\ y.cell? ⟨w.heap.size + 1, 2, none⟩ = some (.slice vt2 (tnO CH L2) vtc2) /\ y.cell? ⟨w.heap.size + 1, 3, none⟩ = some (.slice vn2 (nnO CH L2) vnc2)) := Lib.hid (fun y hb => by
         have q1 := BC.out.now.2.1.below hb
         have q2 := BC.out.now.2.2.1.below hb
         unfold plC at q1 q2
         exact ⟨q1.cell 0, q1.cell 1, q1.cell 2, q1.cell 3, q2.cell 0, q2.cell 1, q2.cell 2, q2.cell 3⟩)
        have HSP : Hid (∀ y a b c d, Below WW.heap.size WW y -> ((((y.setCell ⟨w.heap.size + 1 + 1, 0, none⟩ a).setCell ⟨w.heap.size + 1 + 1, 1, none⟩ b).setCell ⟨w.heap.size + 1 + 1, 2, none⟩ c).setCell ⟨w.heap.size + 1 + 1, 3, none⟩ d).cell? ⟨w.heap.size, 0, none⟩ = some (.slice va1 r1 vc1) /\ ((((y.setCell ⟨w.heap.size + 1 + 1, 0, none⟩ a).setCell ⟨w.heap.size + 1 + 1, 1, none⟩ b).setCell ⟨w.heap.size + 1 + 1, 2, none⟩ c).setCell ⟨w.heap.size + 1 + 1, 3, none⟩ d).cell? ⟨w.heap.size, 1, none⟩ = some (.bool CH) /\ ((((y.setCell ⟨w.heap.size + 1 + 1, 0, none⟩ a).setCell ⟨w.heap.size + 1 + 1, 1, none⟩ b).setCell ⟨w.heap.size + 1 + 1, 2, none⟩ c).setCell ⟨w.heap.size + 1 + 1, 3, none⟩ d).cell? ⟨w.heap.size, 2, none⟩ = some (.slice vt1 (tnO CH L1) vtc1) /\ ((((y.setCell ⟨w.heap.size + 1 + 1, 0, none⟩ a).setCell ⟨w.heap.size + 1 + 1, 1, none⟩ b).setCell ⟨w.heap.size + 1 + 1, 2, none⟩ c).setCell ⟨w.heap.size + 1 + 1, 3, none⟩ d).cell? ⟨w.heap.size, 3, none⟩ = some (.slice vn1 (nnO CH L1) vnc1) /\ ((((y.setCell ⟨w.heap.size + 1 + 1, 0, none⟩ a).setCell ⟨w.heap.size + 1 + 1, 1, none⟩ b).setCell ⟨w.heap.size + 1 + 1, 2, none⟩ c).setCell ⟨w.heap.size + 1 + 1, 3, none⟩ d).cell? ⟨w.heap.size + 1, 0, none⟩ = some (.slice va2 r2 vc2) /\ ((((y.setCell ⟨w.heap.size + 1 + 1, 0, none⟩ a).setCell ⟨w.heap.size + 1 + 1, 1, none⟩ b).setCell ⟨w.heap.size + 1 + 1, 2, none⟩ c).setCell ⟨w.heap.size + 1 + 1, 3, none⟩ d).cell? ⟨w.heap.size + 1, 1, none⟩ = some (.bool CH) /\ ((((y.setCell ⟨w.heap.size + 1 + 1, 0, none⟩ a).setCell ⟨w.heap.size + 1 + 1, 1, none⟩ b).setCell ⟨w.heap.size + 1 + 1, 2, none⟩ c).setCell ⟨w.heap.size + 1 + 1, 3, none⟩ d).cell? ⟨w.heap.size + 1, 2, none⟩ = some (.slice vt2 (tnO CH L2) vtc2) /\ ((((y.setCell ⟨w.heap.size + 1 + 1, 0, none⟩ a).setCell ⟨w.heap.size + 1 + 1, 1, none⟩ b).setCell ⟨w.heap.size + 1 + 1, 2, none⟩ c).setCell ⟨w.heap.size + 1 + 1, 3, none⟩ d).cell? ⟨w.heap.size + 1, 3, none⟩ = some (.slice vn2 (nnO CH L2) vnc2)) := Lib.hid (fun y a b c d hb => by
         have hf := far_put4 y (w.heap.size + 1 + 1) a b c d
         have q1 : Row (put4 y (w.heap.size + 1 + 1) a b c d) w.heap.size 26 _ := (hf.block _ (by omega) (BC.out.now.2.1.below hb).lt).trans (BC.out.now.2.1.below hb)
         have q2 : Row (put4 y (w.heap.size + 1 + 1) a b c d) (w.heap.size + 1) 26 _ := (hf.block _ (by omega) (BC.out.now.2.2.1.below hb).lt).trans (BC.out.now.2.2.1.below hb)
         unfold plC at q1 q2
         exact ⟨q1.cell 0, q1.cell 1, q1.cell 2, q1.cell 3, q2.cell 0, q2.cell 1, q2.cell 2, q2.cell 3⟩)
        have BD := Lib.hid BC.out.drew
        have B0 : Hid (Below WW.heap.size WW WW.drew) := Lib.hid (Below.refl _ WW).drew
        go_region_held3 (fun y => y.cell? ⟨w.heap.size, 0, none⟩ = some (.slice va1 r1 vc1) /\ y.cell? ⟨w.heap.size, 1, none⟩ = some (.bool CH) /\ y.cell? ⟨w.heap.size, 2, none⟩ = some (.slice vt1 (tnO CH L1) vtc1) /\ y.cell? ⟨w.heap.size, 3, none⟩ = some (.slice vn1 (nnO CH L1) vnc1) /\ y.cell? ⟨w.heap.size + 1, 0, none⟩ = some (.slice va2 r2 vc2) /\ y.cell? ⟨w.heap.size + 1, 1, none⟩ = some (.bool CH) /\ y.cell? ⟨w.heap.size + 1, 2, none⟩ = some (.slice vt2 (tnO CH L2) vtc2) /\ y.cell? ⟨w.heap.size + 1, 3, none⟩ = some (.slice vn2 (nnO CH L2) vnc2))
         (first
           | with_reducible exact HSF.out _ B0.out
           | (have hq := HA.out; with_reducible exact HSF.out _ hq)
           | (have hq := HB.out; with_reducible exact HSF.out _ hq)
           | (have hq := HC.out; with_reducible exact HSF.out _ hq)
           | (have hq := HC.out; with_reducible exact HSP.out _ _ _ _ _ hq))
         (first
           | (go_at_call 49; (with_reducible refine (PT.out k hkq _ _ _ BD.out.now.1).mono ?_); rintro e wa ⟨a4, c4, rfl, hk4, hb4⟩; have HA : Hid (Below WW.heap.size WW wa) := Lib.hid (B0.out.trans hb4); have BA := Lib.hid ((BD.out.go hb4).krow hk4))
           | (go_at_call 49; (with_reducible refine (PT.out k hkq _ _ _ BA.out.now.2.1).mono ?_); rintro e wb ⟨a5, c5, rfl, hk5, hb5⟩; have HB : Hid (Below WW.heap.size WW wb) := Lib.hid (HA.out.trans (hb5.mono HA.out.size)); have B5 := Lib.hid ((BA.out.go hb5).krow hk5))
           | (go_at_call 43; (refine (LD.out k rfl hkq h8 trivial HCV.out _ _ _ _ _ _ _ B5.out.now.2.2.2.2.2.2.1 B5.out.now.2.2.2.2.2.2.2 B5.out.now.2.1 B5.out.now.1).mono ?_); rintro e wc hpo; obtain ⟨x6, rfl, hi6, hp6, hn6, hb6⟩ := hpo.res2; have HC : Hid (Below WW.heap.size WW wc) := Lib.hid (HB.out.trans (hb6.mono HB.out.size)); have B6 := Lib.hid (B5.out.go hb6); have HZ6 := Lib.hid B6.out.now.2.2.2.2.2.1; obtain ⟨ua, un, uc, uh, ut, utn, utc, um, umn, umc, hx6⟩ := hi6; unfold plC at hx6; subst hx6; have l0 : wc.cell? ⟨w.heap.size + 1 + 1, 0, none⟩ = some (.slice none 0 0) := HZ6.out.cell 0; have f0 : wc.frozen? ⟨w.heap.size + 1 + 1, 0, none⟩ = false := HZ6.out.free 0; have l1 : wc.cell? ⟨w.heap.size + 1 + 1, 1, none⟩ = some (.bool false) := HZ6.out.cell 1; have f1 : wc.frozen? ⟨w.heap.size + 1 + 1, 1, none⟩ = false := HZ6.out.free 1; have l2 : wc.cell? ⟨w.heap.size + 1 + 1, 2, none⟩ = some (.slice none 0 0) := HZ6.out.cell 2; have f2 : wc.frozen? ⟨w.heap.size + 1 + 1, 2, none⟩ = false := HZ6.out.free 2; have l3 : wc.cell? ⟨w.heap.size + 1 + 1, 3, none⟩ = some (.slice none 0 0) := HZ6.out.cell 3; have f3 : wc.frozen? ⟨w.heap.size + 1 + 1, 3, none⟩ = false := HZ6.out.free 3))
        have HE : Hid (PoTold E T (r2 + 1) CH M eC eB eS eT w (put4 wc (w.heap.size + 1 + 1) (.slice ua un uc) (.bool uh) (.slice ut utn utc) (.slice um umn umc)) (.returned (.tuple #[.agg #[.slice ua un uc, .bool uh, .slice ut utn utc, .slice um umn umc], .int .i64 E]))) := Lib.hid ⟨_, rfl, fun e => PlnAt.away (hp6 e) HZ6.out (noInt_pl none 0 0 false none 0 0 none 0 0) (noStr_pl none 0 0 false none 0 0 none 0 0) (far_put4 _ _ _ _ _ _), hn6, below_put4 B6.out.below (show w.heap.size <= w.heap.size + 1 + 1 by omega) _ _ _ _⟩
        have HR6 : Hid (Row (put4 wc (w.heap.size + 1 + 1) (.slice ua un uc) (.bool uh) (.slice ut utn utc) (.slice um umn umc)) (w.heap.size + 1 + 1) 26 #[.slice ua un uc, .bool uh, .slice ut utn utc, .slice um umn umc]) := Lib.hid (row_put4 HZ6.out _ _ _ _)
        clear l0 l1 l2 l3 f0 f1 f2 f3 hp6 hn6 hb6
        go_wp2_with fail
        exact bodyPost_ret (res_pln2 Tryz.results15 rfl rfl HR6.out rfl) rfl HE.out
      · have d9 : ((r2 : Int) != 0) = true := bne_iff_ne.2 (by omega)
        have d10 : ((r2 : Int) != (r2 : Int)) = false := bne_self_eq_false _
        have HSB : Hid ((decide (r2 = r2) && sameB S2 S2 r2) = true) := Lib.hid (by rw [decide_eq_true rfl, sameB_iff.2 (fun _ _ => rfl)]; rfl)
        have HCV : Hid (cvE r2 S2 r2 S2 = 0) := Lib.hid (by unfold cvE; rw [if_neg e0, if_pos HSB.out])
        clear e0
        go_wp2_with (first
         | (refine stPw rfl (.tmp 3) (.tmp 14) rfl (w.heap.size) rfl _ rfl I1.out HZ1.out HC1.out ?_)
         | (refine stPw rfl (.tmp 4) (.tmp 15) rfl (w.heap.size + 1) rfl _ rfl I2.out HZ2.out HC2.out ?_))
        go_at_call 35
        (with_reducible refine (r6Same_any _ _ _ _ _ _ _ _ _ BC.out.now.1 BC.out.now.1).mono ?_)
        unfold SameTold
        rintro e WW ⟨he, hb3⟩
        have he : e = Ending.returned (.bool true) := by
         rw [he]
         rw [sameB_iff.2 (fun _ _ => rfl)]; simp
        subst he
        have BC := Lib.hid (BC.out.go hb3)
        clear hb3
        go_wp2_with fail
        have HSF : Hid (∀ y, Below WW.heap.size WW y -> y.cell? ⟨w.heap.size, 0, none⟩ = some (.slice va1 r1 vc1) /\ y.cell? ⟨w.heap.size, 1, none⟩ = some (.bool CH) /\ y.cell? ⟨w.heap.size, 2, none⟩ = some (.slice vt1 (tnO CH L1) vtc1) /\ y.cell? ⟨w.heap.size, 3, none⟩ = some (.slice vn1 (nnO CH L1) vnc1) /\ y.cell? ⟨w.heap.size + 1, 0, none⟩ = some (.slice va2 r2 vc2) /\ y.cell? ⟨w.heap.size + 1, 1, none⟩ = some (.bool CH) /\ y.cell? ⟨w.heap.size + 1, 2, none⟩ = some (.slice vt2 (tnO CH L2) vtc2) /\ y.cell? ⟨w.heap.size + 1, 3, none⟩ = some (.slice vn2 (nnO CH L2) vnc2)) := Lib.hid (fun y hb => by
         have q1 := BC.out.now.2.1.below hb
         have q2 := BC.out.now.2.2.1.below hb
         unfold plC at q1 q2
         exact ⟨q1.cell 0, q1.cell 1, q1.cell 2, q1.cell 3, q2.cell 0, q2.cell 1, q2.cell 2, q2.cell 3⟩)
        have HSP : Hid (∀ y a b c d, Below WW.heap.size WW y -> ((((y.setCell ⟨w.heap.size + 1 + 1, 0, none⟩ a).setCell ⟨w.heap.size + 1 + 1, 1, none⟩ b).setCell ⟨w.heap.size + 1 + 1, 2, none⟩ c).setCell ⟨w.heap.size + 1 + 1, 3, none⟩ d).cell? ⟨w.heap.size, 0, none⟩ = some (.slice va1 r1 vc1) /\ ((((y.setCell ⟨w.heap.size + 1 + 1, 0, none⟩ a).setCell ⟨w.heap.size + 1 + 1, 1, none⟩ b).setCell ⟨w.heap.size + 1 + 1, 2, none⟩ c).setCell ⟨w.heap.size + 1 + 1, 3, none⟩ d).cell? ⟨w.heap.size, 1, none⟩ = some (.bool CH) /\ ((((y.setCell ⟨w.heap.size + 1 + 1, 0, none⟩ a).setCell ⟨w.heap.size + 1 + 1, 1, none⟩ b).setCell ⟨w.heap.size + 1 + 1, 2, none⟩ c).setCell ⟨w.heap.size + 1 + 1, 3, none⟩ d).cell? ⟨w.heap.size, 2, none⟩ = some (.slice vt1 (tnO CH L1) vtc1) /\ ((((y.setCell ⟨w.heap.size + 1 + 1, 0, none⟩ a).setCell ⟨w.heap.size + 1 + 1, 1, none⟩ b).setCell ⟨w.heap.size + 1 + 1, 2, none⟩ c).setCell ⟨w.heap.size + 1 + 1, 3, none⟩ d).cell? ⟨w.heap.size, 3, none⟩ = some (.slice vn1 (nnO CH L1) vnc1) /\ ((((y.setCell ⟨w.heap.size + 1 + 1, 0, none⟩ a).setCell ⟨w.heap.size + 1 + 1, 1, none⟩ b).setCell ⟨w.heap.size + 1 + 1, 2, none⟩ c).setCell ⟨w.heap.size + 1 + 1, 3, none⟩ d).cell? ⟨w.heap.size + 1, 0, none⟩ = some (.slice va2 r2 vc2) /\ ((((y.setCell ⟨w.heap.size + 1 + 1, 0, none⟩ a).setCell ⟨w.heap.size + 1 + 1, 1, none⟩ b).setCell ⟨w.heap.size + 1 + 1, 2, none⟩ c).setCell ⟨w.heap.size + 1 + 1, 3, none⟩ d).cell? ⟨w.heap.size + 1, 1, none⟩ = some (.bool CH) /\ ((((y.setCell ⟨w.heap.size + 1 + 1, 0, none⟩ a).setCell ⟨w.heap.size + 1 + 1, 1, none⟩ b).setCell ⟨w.heap.size + 1 + 1, 2, none⟩ c).setCell ⟨w.heap.size + 1 + 1, 3, none⟩ d).cell? ⟨w.heap.size + 1, 2, none⟩ = some (.slice vt2 (tnO CH L2) vtc2) /\ ((((y.setCell ⟨w.heap.size + 1 + 1, 0, none⟩ a).setCell ⟨w.heap.size + 1 + 1, 1, none⟩ b).setCell ⟨w.heap.size + 1 + 1, 2, none⟩ c).setCell ⟨w.heap.size + 1 + 1, 3, none⟩ d).cell? ⟨w.heap.size + 1, 3, none⟩ = some (.slice vn2 (nnO CH L2) vnc2)) := Lib.hid (fun y a b c d hb => by
         have hf := far_put4 y (w.heap.size + 1 + 1) a b c d
         have q1 : Row (put4 y (w.heap.size + 1 + 1) a b c d) w.heap.size 26 _ := (hf.block _ (by omega) (BC.out.now.2.1.below hb).lt).trans (BC.out.now.2.1.below hb)
         have q2 : Row (put4 y (w.heap.size + 1 + 1) a b c d) (w.heap.size + 1) 26 _ := (hf.block _ (by omega) (BC.out.now.2.2.1.below hb).lt).trans (BC.out.now.2.2.1.below hb)
         unfold plC at q1 q2
         exact ⟨q1.cell 0, q1.cell 1, q1.cell 2, q1.cell 3, q2.cell 0, q2.cell 1, q2.cell 2, q2.cell 3⟩)
        have BD := Lib.hid BC.out.drew
        have B0 : Hid (Below WW.heap.size WW WW.drew) := Lib.hid (Below.refl _ WW).drew
        go_region_held3 (fun y => y.cell? ⟨w.heap.size, 0, none⟩ = some (.slice va1 r1 vc1) /\ y.cell? ⟨w.heap.size, 1, none⟩ = some (.bool CH) /\ y.cell? ⟨w.heap.size, 2, none⟩ = some (.slice vt1 (tnO CH L1) vtc1) /\ y.cell? ⟨w.heap.size, 3, none⟩ = some (.slice vn1 (nnO CH L1) vnc1) /\ y.cell? ⟨w.heap.size + 1, 0, none⟩ = some (.slice va2 r2 vc2) /\ y.cell? ⟨w.heap.size + 1, 1, none⟩ = some (.bool CH) /\ y.cell? ⟨w.heap.size + 1, 2, none⟩ = some (.slice vt2 (tnO CH L2) vtc2) /\ y.cell? ⟨w.heap.size + 1, 3, none⟩ = some (.slice vn2 (nnO CH L2) vnc2))
         (first
           | with_reducible exact HSF.out _ B0.out
           | (have hq := HA.out; with_reducible exact HSF.out _ hq)
           | (have hq := HB.out; with_reducible exact HSF.out _ hq)
           | (have hq := HC.out; with_reducible exact HSF.out _ hq)
           | (have hq := HC.out; with_reducible exact HSP.out _ _ _ _ _ hq))
         (first
           | (go_at_call 49; (with_reducible refine (PT.out k hkq _ _ _ BD.out.now.1).mono ?_); rintro e wa ⟨a4, c4, rfl, hk4, hb4⟩; have HA : Hid (Below WW.heap.size WW wa) := Lib.hid (B0.out.trans hb4); have BA := Lib.hid ((BD.out.go hb4).krow hk4))
           | (go_at_call 49; (with_reducible refine (PT.out k hkq _ _ _ BA.out.now.2.1).mono ?_); rintro e wb ⟨a5, c5, rfl, hk5, hb5⟩; have HB : Hid (Below WW.heap.size WW wb) := Lib.hid (HA.out.trans (hb5.mono HA.out.size)); have B5 := Lib.hid ((BA.out.go hb5).krow hk5))
           | (go_at_call 43; (refine (LD.out k rfl hkq h8 trivial HCV.out _ _ _ _ _ _ _ B5.out.now.2.2.2.2.2.2.1 B5.out.now.2.2.2.2.2.2.2 B5.out.now.2.1 B5.out.now.1).mono ?_); rintro e wc hpo; obtain ⟨x6, rfl, hi6, hp6, hn6, hb6⟩ := hpo.res2; have HC : Hid (Below WW.heap.size WW wc) := Lib.hid (HB.out.trans (hb6.mono HB.out.size)); have B6 := Lib.hid (B5.out.go hb6); have HZ6 := Lib.hid B6.out.now.2.2.2.2.2.1; obtain ⟨ua, un, uc, uh, ut, utn, utc, um, umn, umc, hx6⟩ := hi6; unfold plC at hx6; subst hx6; have l0 : wc.cell? ⟨w.heap.size + 1 + 1, 0, none⟩ = some (.slice none 0 0) := HZ6.out.cell 0; have f0 : wc.frozen? ⟨w.heap.size + 1 + 1, 0, none⟩ = false := HZ6.out.free 0; have l1 : wc.cell? ⟨w.heap.size + 1 + 1, 1, none⟩ = some (.bool false) := HZ6.out.cell 1; have f1 : wc.frozen? ⟨w.heap.size + 1 + 1, 1, none⟩ = false := HZ6.out.free 1; have l2 : wc.cell? ⟨w.heap.size + 1 + 1, 2, none⟩ = some (.slice none 0 0) := HZ6.out.cell 2; have f2 : wc.frozen? ⟨w.heap.size + 1 + 1, 2, none⟩ = false := HZ6.out.free 2; have l3 : wc.cell? ⟨w.heap.size + 1 + 1, 3, none⟩ = some (.slice none 0 0) := HZ6.out.cell 3; have f3 : wc.frozen? ⟨w.heap.size + 1 + 1, 3, none⟩ = false := HZ6.out.free 3))
        have HE : Hid (PoTold E T (r2 + 1) CH M eC eB eS eT w (put4 wc (w.heap.size + 1 + 1) (.slice ua un uc) (.bool uh) (.slice ut utn utc) (.slice um umn umc)) (.returned (.tuple #[.agg #[.slice ua un uc, .bool uh, .slice ut utn utc, .slice um umn umc], .int .i64 E]))) := Lib.hid ⟨_, rfl, fun e => PlnAt.away (hp6 e) HZ6.out (noInt_pl none 0 0 false none 0 0 none 0 0) (noStr_pl none 0 0 false none 0 0 none 0 0) (far_put4 _ _ _ _ _ _), hn6, below_put4 B6.out.below (show w.heap.size <= w.heap.size + 1 + 1 by omega) _ _ _ _⟩
        have HR6 : Hid (Row (put4 wc (w.heap.size + 1 + 1) (.slice ua un uc) (.bool uh) (.slice ut utn utc) (.slice um umn umc)) (w.heap.size + 1 + 1) 26 #[.slice ua un uc, .bool uh, .slice ut utn utc, .slice um umn umc]) := Lib.hid (row_put4 HZ6.out _ _ _ _)
        clear l0 l1 l2 l3 f0 f1 f2 f3 hp6 hn6 hb6
        go_wp2_with fail
        exact bodyPost_ret (res_pln2 Tryz.results15 rfl rfl HR6.out rfl) rfl HE.out
  · exact absurd hz.out h0
theorem rlam_n (x1 : Array Value) (S1 : Nat -> Int) (r1 : Nat) (ch1 : Bool) (L1 : Nat) (g1 : Nat -> Int) (B1 : Nat -> Bool) (s1 t1 : Nat -> ByteArray) (x2 : Array Value) (S2 : Nat -> Int) (r2 : Nat) (ch2 : Bool) (L2 : Nat) (g2 : Nat -> Int) (B2 : Nat -> Bool) (s2 t2 : Nat -> ByteArray) (i : Int) (w : World) (h1 : Pln w x1 S1 r1 ch1 L1 g1 B1 s1 t1) (h2 : Pln w x2 S2 r2 ch2 L2 g2 B2 s2 t2)
    (hsh1 : shB S1 r1 = true) (hc1 : itm S1 r1 = (L1 : Nat)) (hsh2 : shB S2 r2 = true) (hc2 : itm S2 r2 = (L2 : Nat)) (hi : -9223372036854775808 <= i /\ i <= 9223372036854775807) (hz : Hid (r1 ≠ 0)) :
    Calls Tryz.prog 15 #[.agg x1, .agg x2, .int .i64 i] w fun e w' => PoTold (lmE (kdB ch1 L1 ch2 L2) (lmR r1 r2) (lmS r1 S1 S2) r2 S2 i) (lmT (lmS r1 S1 S2) i.toNat) (lmR r1 r2 + 1) (kdC ch1 L1 ch2 L2) (itm (lmT (lmS r1 S1 S2) i.toNat) (lmR r1 r2 + 1)).toNat (wvF (lmN (lmS r1 S1 S2) (lmR r1 r2) i.toNat) (lmN (lmS r1 S1 S2) (lmR r1 r2) i.toNat) (fun j => elC L1 g1 32 (exG r1 j)) (fun j => elC L2 g2 32 (exG r2 j))) (wvF (lmN (lmS r1 S1 S2) (lmR r1 r2) i.toNat) (lmN (lmS r1 S1 S2) (lmR r1 r2) i.toNat) (fun j => elB L1 B1 (exG r1 j)) (fun j => elB L2 B2 (exG r2 j))) (wvF (lmN (lmS r1 S1 S2) (lmR r1 r2) i.toNat) (lmN (lmS r1 S1 S2) (lmR r1 r2) i.toNat) (fun j => elS L1 s1 (rS 0) (exG r1 j)) (fun j => elS L2 s2 (rS 0) (exG r2 j))) (wvF (lmN (lmS r1 S1 S2) (lmR r1 r2) i.toNat) (lmN (lmS r1 S1 S2) (lmR r1 r2) i.toNat) (fun j => elS L1 t1 (str (dec 1)) (exG r1 j)) (fun j => elS L2 t2 (str (dec 1)) (exG r2 j))) w w' e := by
 obtain ⟨sa1, sc1, ta1, tc1, na1, nc1, hx1, _⟩ := h1.form
 subst hx1
 obtain ⟨sa2, sc2, ta2, tc2, na2, nc2, hx2, _⟩ := h2.form
 subst hx2
 have hr1 := (sh_ax hsh1).1
 have hr2 := (sh_ax hsh2).1
 have hL1 : L1 <= 4096 := by have := ax_bd (sh_ax hsh1).2; omega
 have hL2 : L2 <= 4096 := by have := ax_bd (sh_ax hsh2).2; omega
 have H1 := Lib.hid h1
 have H2 := Lib.hid h2
 have KN := Lib.hid (fun wz h1 h2 => rkinds_any (plC sa1 r1 sc1 ch1 ta1 (tnO ch1 L1) tc1 na1 (nnO ch1 L1) nc1) S1 r1 ch1 L1 g1 B1 s1 t1 (plC sa2 r2 sc2 ch2 ta2 (tnO ch2 L2) tc2 na2 (nnO ch2 L2) nc2) S2 r2 ch2 L2 g2 B2 s2 t2 wz h1 h2 (by omega) (by omega))
 have BB0 := Lib.hid ((((Bag.start w).newRow (plC sa1 r1 sc1 ch1 ta1 (tnO ch1 L1) tc1 na1 (nnO ch1 L1) nc1) 26).newRow (plC sa2 r2 sc2 ch2 ta2 (tnO ch2 L2) tc2 na2 (nnO ch2 L2) nc2) 26).newRow plZer 26)
 simp only [World.size_alloc] at BB0
 have BB := Lib.hid (show Bag w (fun y => Row y w.heap.size 26 (plC sa1 r1 sc1 ch1 ta1 (tnO ch1 L1) tc1 na1 (nnO ch1 L1) nc1) /\ Row y (w.heap.size + 1) 26 (plC sa2 r2 sc2 ch2 ta2 (tnO ch2 L2) tc2 na2 (nnO ch2 L2) nc2) /\ Row y (w.heap.size + 1 + 1) 26 plZer /\ True) _ from ⟨BB0.out.below, fun a b hb ⟨q1, q2, q3, _⟩ => ⟨q1.below hb, q2.below hb, q3.below hb, trivial⟩, BB0.out.now.2.2.1, BB0.out.now.2.1, BB0.out.now.1, trivial⟩)
 have HR1 := Lib.hid BB.out.now.1
 have HR2 := Lib.hid BB.out.now.2.1
 clear h1 h2 BB0
 obtain ⟨KB, hKB⟩ : ∃ b, kdB ch1 L1 ch2 L2 = b := ⟨_, rfl⟩
 obtain ⟨CH, hCH⟩ : ∃ b, kdC ch1 L1 ch2 L2 = b := ⟨_, rfl⟩
 rw [hKB, hCH]
 rw [hKB, hCH] at KN
 clear hKB hCH
 have hss : shB (lmS r1 S1 S2) (lmR r1 r2) = true := by unfold lmS lmR; split <;> assumption
 have hqz : r1 = 0 -> lmR r1 r2 = r2 /\ lmS r1 S1 S2 = S2 := fun e => ⟨by unfold lmR; rw [if_pos e], by unfold lmS; rw [if_pos e]⟩
 have hqn : r1 ≠ 0 -> lmR r1 r2 = r1 /\ lmS r1 S1 S2 = S1 := fun e => ⟨by unfold lmR; rw [if_neg e], by unfold lmS; rw [if_neg e]⟩
 have LL := fun k y1 y2 aX cX aY cY wz p1 p2 kx ky h1 h2 h3 => lam_laid y1 S1 r1 CH L1 g1 B1 s1 t1 y2 S2 r2 L2 g2 B2 s2 t2 aX cX aY cY k wz p1 p2 kx ky hsh1 hc1 hsh2 hc2 h1 h2 h3
 obtain ⟨q, hq⟩ : ∃ q, lmR r1 r2 = q := ⟨_, rfl⟩
 obtain ⟨s, hs⟩ : ∃ s, lmS r1 S1 S2 = s := ⟨_, rfl⟩
 rw [hq, hs] at hss hqz hqn
 simp only [hq, hs] at LL
 rw [hq, hs]
 have hqq := (sh_ax hss).1
 clear hq hs
 unfold lmE
 obtain ⟨KK, hKK⟩ : ∃ k : Nat, i.toNat = k := ⟨_, rfl⟩
 rw [hKK]
 obtain ⟨T, hT⟩ : ∃ f, lmT s KK = f := ⟨_, rfl⟩
 rw [hT]
 obtain ⟨M, hM⟩ : ∃ n, (itm T (q + 1)).toNat = n := ⟨_, rfl⟩
 rw [hM]
 obtain ⟨N, hN⟩ : ∃ n, lmN s q KK = n := ⟨_, rfl⟩
 rw [hN]
 obtain ⟨E, hE⟩ : ∃ E, (if KB = false then 22 else if i < 0 ∨ (q : Int) < i ∨ q = 8 then 23 else if cvE r2 S2 q s = 0 then pkE T (q + 1) else cvE r2 S2 q s : Int) = E := ⟨_, rfl⟩
 rw [hE]
 obtain ⟨eC, heC⟩ : ∃ f, (wvF N N (fun j => elC L1 g1 32 (exG r1 j)) (fun j => elC L2 g2 32 (exG r2 j))) = f := ⟨_, rfl⟩
 obtain ⟨eB, heB⟩ : ∃ f, (wvF N N (fun j => elB L1 B1 (exG r1 j)) (fun j => elB L2 B2 (exG r2 j))) = f := ⟨_, rfl⟩
 obtain ⟨eS, heS⟩ : ∃ f, (wvF N N (fun j => elS L1 s1 (rS 0) (exG r1 j)) (fun j => elS L2 s2 (rS 0) (exG r2 j))) = f := ⟨_, rfl⟩
 obtain ⟨eT, heT⟩ : ∃ f, (wvF N N (fun j => elS L1 t1 (str (dec 1)) (exG r1 j)) (fun j => elS L2 t2 (str (dec 1)) (exG r2 j))) = f := ⟨_, rfl⟩
 rw [heC, heB, heS, heT]
 have LD : Hid (∀ k : Nat, i = (k : Nat) -> k <= q -> q + 1 <= 8 -> KB = true -> cvE r2 S2 q s = 0 -> ∀ y1 y2 aX cX aY cY wz, Pln wz y1 S1 r1 CH L1 g1 B1 s1 t1 -> Pln wz y2 S2 r2 CH L2 g2 B2 s2 t2 -> KRow wz .i64 aX (q + 1) cX (insF s k 1) -> KRow wz .i64 aY (q + 1) cY (insF s k 1) ->
     Calls Tryz.prog 43 #[.agg y1, .agg y2, .slice aX (q + 1) cX, .slice aY (q + 1) cY, .int .i64 (k : Nat)] wz fun e w' => PoTold E T (q + 1) CH M eC eB eS eT wz w' e) := Lib.hid (fun k hk hkq h8 hkb hcv y1 y2 aX cX aY cY wz p1 p2 kx ky => by
  have hkk : KK = k := by rw [← hKK, hk]; rfl
  subst hkk
  have hb := LL KK y1 y2 aX cX aY cY wz p1 p2 kx ky hkq h8 hcv
  have eE : pkE T (q + 1) = E := by
   rw [← hE, if_neg (by rw [hkb]; decide), if_neg (by omega), if_pos hcv]
  rw [hT, hN, heC, heB, heS, heT, eE, hM] at hb
  exact hb)
 have PT : Hid (∀ k : Nat, k <= q -> ∀ a c wz, KRow wz .i64 a q c s -> Calls Tryz.prog 49 #[.slice a q c, .int .i64 (k : Nat)] wz fun e w' => ∃ a' c', e = .returned (.slice a' (q + 1) c') /\ KRow w' .i64 a' (q + 1) c' (insF s k 1) /\ Below wz.heap.size wz w') := Lib.hid (fun k hk a c wz h => rpart_any a c s q k wz h hk (by omega))
 have HF22 : Hid (KB = false -> E = 22) := Lib.hid (fun e => by rw [← hE, if_pos e])
 have HF23 : Hid (KB = true -> (i < 0 ∨ (q : Int) < i ∨ q = 8) -> E = 23) := Lib.hid (fun e h1 => by rw [← hE, if_neg (by rw [e]; decide), if_pos h1])
 have HF2 : Hid (KB = true -> ∀ k : Nat, i = (k : Nat) -> k <= q -> q + 1 <= 8 -> cvE r2 S2 q s ≠ 0 -> E = cvE r2 S2 q s) := Lib.hid (fun hkb k hk h1 h2 e2 => by
  rw [← hE, if_neg (by rw [hkb]; decide), if_neg (by omega), if_neg e2])
 have HGR := Lib.hid (And.intro hqz hqn)
 clear hE hN hM hT hKK hss hsh1 hsh2 hc1 hc2 hqz hqn LL heC heB heS heT
 unfold plZer at BB
 unfold plC at BB HR1 HR2
 unfold plC at KN
 unfold plC
 go_enter Tryz.func15, Tryz.ntmps15
 go_wp2_with fail
 generalize hW : (((w.alloc (.cells _ 26)).alloc (.cells _ 26)).alloc (.cells _ 26)) = YY at *
 clear hW
 go_wp2_with (first
  | (refine ld_pln rfl (.tmp 3) rfl w.heap.size rfl HR1.out ?_)
  | (refine ld_pln rfl (.tmp 4) rfl (w.heap.size + 1) rfl HR2.out ?_))
 go_at_call 41
 (refine (KN.out _ (H1.out.below BB.out.below) (H2.out.below BB.out.below)).mono ?_)
 rintro e w2 ⟨y1, y2, rfl, i1, i2, hyy, hb2⟩
 have B2 := BB.out.go hb2
 have HZ1 := Lib.hid B2.now.1
 have HZ2 := Lib.hid (B2.now.2.1.puto (k := w.heap.size) (by omega) y1)
 have G1 := Lib.hid ((B2.now.1.put y1).puto (k := w.heap.size + 1) (by omega) y2)
 have G2 := Lib.hid ((B2.now.2.1.puto (k := w.heap.size) (by omega) y1).put y2)
 have G3 := Lib.hid ((B2.now.2.2.1.puto (k := w.heap.size) (by omega) y1).puto (k := w.heap.size + 1) (by omega) y2)
 have G4 := Lib.hid (below_put (below_put B2.below (Nat.le_refl _) y1) (show w.heap.size <= w.heap.size + 1 by omega) y2)
 have G5 := Lib.hid (fun e => ((hyy e).1.store B2.now.1 ⟨_, _, _, _, _, _, _, _, _, _, rfl⟩ y1).store (B2.now.2.1.puto (k := w.heap.size) (by omega) y1) ⟨_, _, _, _, _, _, _, _, _, _, rfl⟩ y2)
 have G6 := Lib.hid (fun e => ((hyy e).2.store B2.now.1 ⟨_, _, _, _, _, _, _, _, _, _, rfl⟩ y1).store (B2.now.2.1.puto (k := w.heap.size) (by omega) y1) ⟨_, _, _, _, _, _, _, _, _, _, rfl⟩ y2)
 have I1 := Lib.hid i1
 have I2 := Lib.hid i2
 have HC1 : Hid (IsP #[.slice sa1 r1 sc1, .bool ch1, .slice ta1 (tnO ch1 L1) tc1, .slice na1 (nnO ch1 L1) nc1]) := Lib.hid ⟨_, _, _, _, _, _, _, _, _, _, rfl⟩
 have HC2 : Hid (IsP #[.slice sa2 r2 sc2, .bool ch2, .slice ta2 (tnO ch2 L2) tc2, .slice na2 (nnO ch2 L2) nc2]) := Lib.hid ⟨_, _, _, _, _, _, _, _, _, _, rfl⟩
 clear hb2 B2 HR1 HR2 BB KN H1 H2
 cases KB with
 | false =>
  clear hyy i1 i2
  obtain rfl := HF22.out rfl
  have HE := Lib.hid (PoTold.no (S := T) (r := q + 1) (ch := CH) (L := M) (g := eC) (fB := eB) (fS := eS) (fT := eT) (E := 22) (by decide) (below_put G4.out (show w.heap.size <= w.heap.size + 1 + 1 by omega) plZer))
  go_wp2_with (first
   | (refine stPw rfl (.tmp 3) (.tmp 14) rfl (w.heap.size) rfl y1 rfl I1.out HZ1.out HC1.out ?_)
   | (refine stPw rfl (.tmp 4) (.tmp 15) rfl (w.heap.size + 1) rfl y2 rfl I2.out HZ2.out HC2.out ?_)
   | (refine st_pln rfl (.tmp 6) (.tmp 19) rfl (w.heap.size + 1 + 1) rfl none 0 0 false none 0 0 none 0 0 rfl G3.out rfl ?_))
  exact bodyPost_ret (res_pln2 Tryz.results15 rfl rfl (G3.out.put _) rfl) rfl HE.out
 | true =>
  obtain ⟨va1, vc1, vt1, vtc1, vn1, vnc1, hv1, hvk1⟩ := (hyy rfl).1.form
  subst hv1
  obtain ⟨va2, vc2, vt2, vtc2, vn2, vnc2, hv2, hvk2⟩ := (hyy rfl).2.form
  subst hv2
  have BC0 := Lib.hid (show Bag w (fun y => Row y w.heap.size 26 (plC va1 r1 vc1 CH vt1 (tnO CH L1) vtc1 vn1 (nnO CH L1) vnc1) /\ Row y (w.heap.size + 1) 26 (plC va2 r2 vc2 CH vt2 (tnO CH L2) vtc2 vn2 (nnO CH L2) vnc2) /\ Row y (w.heap.size + 1 + 1) 26 plZer /\ Pln y (plC va1 r1 vc1 CH vt1 (tnO CH L1) vtc1 vn1 (nnO CH L1) vnc1) S1 r1 CH L1 g1 B1 s1 t1 /\ Pln y (plC va2 r2 vc2 CH vt2 (tnO CH L2) vtc2 vn2 (nnO CH L2) vnc2) S2 r2 CH L2 g2 B2 s2 t2) ((w2.setRow w.heap.size (plC va1 r1 vc1 CH vt1 (tnO CH L1) vtc1 vn1 (nnO CH L1) vnc1)).setRow (w.heap.size + 1) (plC va2 r2 vc2 CH vt2 (tnO CH L2) vtc2 vn2 (nnO CH L2) vnc2)) from ⟨G4.out, (fun a b hb ⟨q1, q2, q3, q4, q5⟩ => ⟨q1.below hb, q2.below hb, q3.below hb, q4.below hb, q5.below hb⟩), G1.out, G2.out, G3.out, G5.out rfl, G6.out rfl⟩)
  obtain ⟨va1', vc1', vt1', vtc1', vn1', vnc1', hv1, hvk1⟩ := BC0.out.now.2.2.2.1.form
  unfold plC at hv1
  cases hv1
  obtain ⟨va2', vc2', vt2', vtc2', vn2', vnc2', hv2, hvk2⟩ := BC0.out.now.2.2.2.2.form
  unfold plC at hv2
  cases hv2
  clear G1 G2 G3 G4 G5 G6 hyy i1 i2
  have z1 : ((w2.setRow w.heap.size (plC va1 r1 vc1 CH vt1 (tnO CH L1) vtc1 vn1 (nnO CH L1) vnc1)).setRow (w.heap.size + 1) (plC va2 r2 vc2 CH vt2 (tnO CH L2) vtc2 vn2 (nnO CH L2) vnc2)).cell? ⟨w.heap.size, 0, none⟩ = some (.slice va1 r1 vc1) := BC0.out.now.1.cell 0
  have z2 : ((w2.setRow w.heap.size (plC va1 r1 vc1 CH vt1 (tnO CH L1) vtc1 vn1 (nnO CH L1) vnc1)).setRow (w.heap.size + 1) (plC va2 r2 vc2 CH vt2 (tnO CH L2) vtc2 vn2 (nnO CH L2) vnc2)).cell? ⟨w.heap.size + 1, 0, none⟩ = some (.slice va2 r2 vc2) := BC0.out.now.2.1.cell 0
  have HV1 := Lib.hid hvk1
  have HV2 := Lib.hid hvk2
  have hl1 := hvk1.len
  have hl2 := hvk2.len
  clear hvk1 hvk2
  by_cases h0 : r1 = 0
  · exact absurd h0 hz.out
  · obtain ⟨HQQ, HSS⟩ := HGR.out.2 h0
    clear HGR
    have d5 : ((r1 : Int) == 0) = false := beq_eq_false_iff_ne.2 (by omega)
    have BC := Lib.hid (BC0.out.krow HV1.out)
    have HQQ := HQQ.symm
    have HSS := HSS.symm
    subst HQQ
    subst HSS
    have HK2 := Lib.hid HV2.out
    clear BC0 HV1 HV2
    by_cases hA : i < 0 ∨ ((r1 : Nat) : Int) < i ∨ r1 = 8
    · obtain rfl := HF23.out rfl hA
      rcases hA with hA | hA | hA
      · have HZ3 := Lib.hid BC.out.now.2.2.2.1
        have HE := Lib.hid (PoTold.no (S := T) (r := r1 + 1) (ch := CH) (L := M) (g := eC) (fB := eB) (fS := eS) (fT := eT) (E := 23) (by decide) (below_put BC.out.below (show w.heap.size <= w.heap.size + 1 + 1 by omega) plZer))
        clear PT LD HF2 HF22 HF23
        go_wp2_with (first
         | (refine stPw rfl (.tmp 3) (.tmp 14) rfl (w.heap.size) rfl _ rfl I1.out HZ1.out HC1.out ?_)
         | (refine stPw rfl (.tmp 4) (.tmp 15) rfl (w.heap.size + 1) rfl _ rfl I2.out HZ2.out HC2.out ?_)
         | (refine st_pln rfl (.tmp 6) (.tmp 40) rfl (w.heap.size + 1 + 1) rfl none 0 0 false none 0 0 none 0 0 rfl HZ3.out rfl ?_))
        exact bodyPost_ret (res_pln2 Tryz.results15 rfl rfl (HZ3.out.put _) rfl) rfl HE.out
      · have hn : ¬ i < 0 := by omega
        have HZ3 := Lib.hid BC.out.now.2.2.2.1
        have HE := Lib.hid (PoTold.no (S := T) (r := r1 + 1) (ch := CH) (L := M) (g := eC) (fB := eB) (fS := eS) (fT := eT) (E := 23) (by decide) (below_put BC.out.below (show w.heap.size <= w.heap.size + 1 + 1 by omega) plZer))
        clear PT LD HF2 HF22 HF23
        go_wp2_with (first
         | (refine stPw rfl (.tmp 3) (.tmp 14) rfl (w.heap.size) rfl _ rfl I1.out HZ1.out HC1.out ?_)
         | (refine stPw rfl (.tmp 4) (.tmp 15) rfl (w.heap.size + 1) rfl _ rfl I2.out HZ2.out HC2.out ?_)
         | (refine st_pln rfl (.tmp 6) (.tmp 40) rfl (w.heap.size + 1 + 1) rfl none 0 0 false none 0 0 none 0 0 rfl HZ3.out rfl ?_))
        exact bodyPost_ret (res_pln2 Tryz.results15 rfl rfl (HZ3.out.put _) rfl) rfl HE.out
      · have hq8 : (8 : Int) <= ((r1 : Nat) : Int) := by omega
        clear hA
        by_cases hn : i < 0
        · have HZ3 := Lib.hid BC.out.now.2.2.2.1
          have HE := Lib.hid (PoTold.no (S := T) (r := r1 + 1) (ch := CH) (L := M) (g := eC) (fB := eB) (fS := eS) (fT := eT) (E := 23) (by decide) (below_put BC.out.below (show w.heap.size <= w.heap.size + 1 + 1 by omega) plZer))
          clear PT LD HF2 HF22 HF23
          go_wp2_with (first
           | (refine stPw rfl (.tmp 3) (.tmp 14) rfl (w.heap.size) rfl _ rfl I1.out HZ1.out HC1.out ?_)
           | (refine stPw rfl (.tmp 4) (.tmp 15) rfl (w.heap.size + 1) rfl _ rfl I2.out HZ2.out HC2.out ?_)
           | (refine st_pln rfl (.tmp 6) (.tmp 40) rfl (w.heap.size + 1 + 1) rfl none 0 0 false none 0 0 none 0 0 rfl HZ3.out rfl ?_))
          exact bodyPost_ret (res_pln2 Tryz.results15 rfl rfl (HZ3.out.put _) rfl) rfl HE.out
        · by_cases hn2 : ((r1 : Nat) : Int) < i
          · have HZ3 := Lib.hid BC.out.now.2.2.2.1
            have HE := Lib.hid (PoTold.no (S := T) (r := r1 + 1) (ch := CH) (L := M) (g := eC) (fB := eB) (fS := eS) (fT := eT) (E := 23) (by decide) (below_put BC.out.below (show w.heap.size <= w.heap.size + 1 + 1 by omega) plZer))
            clear PT LD HF2 HF22 HF23
            go_wp2_with (first
             | (refine stPw rfl (.tmp 3) (.tmp 14) rfl (w.heap.size) rfl _ rfl I1.out HZ1.out HC1.out ?_)
             | (refine stPw rfl (.tmp 4) (.tmp 15) rfl (w.heap.size + 1) rfl _ rfl I2.out HZ2.out HC2.out ?_)
             | (refine st_pln rfl (.tmp 6) (.tmp 40) rfl (w.heap.size + 1 + 1) rfl none 0 0 false none 0 0 none 0 0 rfl HZ3.out rfl ?_))
            exact bodyPost_ret (res_pln2 Tryz.results15 rfl rfl (HZ3.out.put _) rfl) rfl HE.out
          · have HZ3 := Lib.hid BC.out.now.2.2.2.1
            have HE := Lib.hid (PoTold.no (S := T) (r := r1 + 1) (ch := CH) (L := M) (g := eC) (fB := eB) (fS := eS) (fT := eT) (E := 23) (by decide) (below_put BC.out.below (show w.heap.size <= w.heap.size + 1 + 1 by omega) plZer))
            clear PT LD HF2 HF22 HF23
            go_wp2_with (first
             | (refine stPw rfl (.tmp 3) (.tmp 14) rfl (w.heap.size) rfl _ rfl I1.out HZ1.out HC1.out ?_)
             | (refine stPw rfl (.tmp 4) (.tmp 15) rfl (w.heap.size + 1) rfl _ rfl I2.out HZ2.out HC2.out ?_)
             | (refine st_pln rfl (.tmp 6) (.tmp 40) rfl (w.heap.size + 1 + 1) rfl none 0 0 false none 0 0 none 0 0 rfl HZ3.out rfl ?_))
            exact bodyPost_ret (res_pln2 Tryz.results15 rfl rfl (HZ3.out.put _) rfl) rfl HE.out
    · obtain ⟨k, rfl⟩ : ∃ k : Nat, i = (k : Nat) := ⟨i.toNat, by omega⟩
      have hkq : k <= r1 := by omega
      have h8 : r1 + 1 <= 8 := by omega
      have dA : ¬ ((k : Int) < 0) := by omega
      have dB : (0 : Int) <= (k : Int) := by omega
      have d1 : ¬ ((r1 : Int) < (k : Int)) := by omega
      have d2 : (k : Int) <= (r1 : Int) := by omega
      have d3 : ¬ ((8 : Int) <= (r1 : Int)) := by omega
      have d4 : (r1 : Int) < 8 := by omega
      clear hA
      by_cases e0 : r2 = 0
      · have HCV : Hid (cvE r2 S2 r1 S1 = 0) := Lib.hid (by unfold cvE; rw [if_pos e0])
        have d9 : ((r2 : Int) != 0) = false := by rw [e0]; rfl
        clear e0
        go_wp2_with (first
         | (refine stPw rfl (.tmp 3) (.tmp 14) rfl (w.heap.size) rfl _ rfl I1.out HZ1.out HC1.out ?_)
         | (refine stPw rfl (.tmp 4) (.tmp 15) rfl (w.heap.size + 1) rfl _ rfl I2.out HZ2.out HC2.out ?_))
        generalize hWW : ((w2.setRow w.heap.size (plC va1 r1 vc1 CH vt1 (tnO CH L1) vtc1 vn1 (nnO CH L1) vnc1)).setRow (w.heap.size + 1) (plC va2 r2 vc2 CH vt2 (tnO CH L2) vtc2 vn2 (nnO CH L2) vnc2)) = WW at *
        clear hWW
        have HSF : Hid (∀ y, Below WW.heap.size WW y -> y.cell? ⟨w.heap.size, 0, none⟩ = some (.slice va1 r1 vc1) /\ y.cell? ⟨w.heap.size, 1, none⟩ = some (.bool CH) /\ y.cell? ⟨w.heap.size, 2, none⟩ = some (.slice vt1 (tnO CH L1) vtc1) /\ y.cell? ⟨w.heap.size, 3, none⟩ = some (.slice vn1 (nnO CH L1) vnc1) /\ y.cell? ⟨w.heap.size + 1, 0, none⟩ = some (.slice va2 r2 vc2) /\ y.cell? ⟨w.heap.size + 1, 1, none⟩ = some (.bool CH) /\ y.cell? ⟨w.heap.size + 1, 2, none⟩ = some (.slice vt2 (tnO CH L2) vtc2) /\ y.cell? ⟨w.heap.size + 1, 3, none⟩ = some (.slice vn2 (nnO CH L2) vnc2)) := Lib.hid (fun y hb => by
         have q1 := BC.out.now.2.1.below hb
         have q2 := BC.out.now.2.2.1.below hb
         unfold plC at q1 q2
         exact ⟨q1.cell 0, q1.cell 1, q1.cell 2, q1.cell 3, q2.cell 0, q2.cell 1, q2.cell 2, q2.cell 3⟩)
        have HSP : Hid (∀ y a b c d, Below WW.heap.size WW y -> ((((y.setCell ⟨w.heap.size + 1 + 1, 0, none⟩ a).setCell ⟨w.heap.size + 1 + 1, 1, none⟩ b).setCell ⟨w.heap.size + 1 + 1, 2, none⟩ c).setCell ⟨w.heap.size + 1 + 1, 3, none⟩ d).cell? ⟨w.heap.size, 0, none⟩ = some (.slice va1 r1 vc1) /\ ((((y.setCell ⟨w.heap.size + 1 + 1, 0, none⟩ a).setCell ⟨w.heap.size + 1 + 1, 1, none⟩ b).setCell ⟨w.heap.size + 1 + 1, 2, none⟩ c).setCell ⟨w.heap.size + 1 + 1, 3, none⟩ d).cell? ⟨w.heap.size, 1, none⟩ = some (.bool CH) /\ ((((y.setCell ⟨w.heap.size + 1 + 1, 0, none⟩ a).setCell ⟨w.heap.size + 1 + 1, 1, none⟩ b).setCell ⟨w.heap.size + 1 + 1, 2, none⟩ c).setCell ⟨w.heap.size + 1 + 1, 3, none⟩ d).cell? ⟨w.heap.size, 2, none⟩ = some (.slice vt1 (tnO CH L1) vtc1) /\ ((((y.setCell ⟨w.heap.size + 1 + 1, 0, none⟩ a).setCell ⟨w.heap.size + 1 + 1, 1, none⟩ b).setCell ⟨w.heap.size + 1 + 1, 2, none⟩ c).setCell ⟨w.heap.size + 1 + 1, 3, none⟩ d).cell? ⟨w.heap.size, 3, none⟩ = some (.slice vn1 (nnO CH L1) vnc1) /\ ((((y.setCell ⟨w.heap.size + 1 + 1, 0, none⟩ a).setCell ⟨w.heap.size + 1 + 1, 1, none⟩ b).setCell ⟨w.heap.size + 1 + 1, 2, none⟩ c).setCell ⟨w.heap.size + 1 + 1, 3, none⟩ d).cell? ⟨w.heap.size + 1, 0, none⟩ = some (.slice va2 r2 vc2) /\ ((((y.setCell ⟨w.heap.size + 1 + 1, 0, none⟩ a).setCell ⟨w.heap.size + 1 + 1, 1, none⟩ b).setCell ⟨w.heap.size + 1 + 1, 2, none⟩ c).setCell ⟨w.heap.size + 1 + 1, 3, none⟩ d).cell? ⟨w.heap.size + 1, 1, none⟩ = some (.bool CH) /\ ((((y.setCell ⟨w.heap.size + 1 + 1, 0, none⟩ a).setCell ⟨w.heap.size + 1 + 1, 1, none⟩ b).setCell ⟨w.heap.size + 1 + 1, 2, none⟩ c).setCell ⟨w.heap.size + 1 + 1, 3, none⟩ d).cell? ⟨w.heap.size + 1, 2, none⟩ = some (.slice vt2 (tnO CH L2) vtc2) /\ ((((y.setCell ⟨w.heap.size + 1 + 1, 0, none⟩ a).setCell ⟨w.heap.size + 1 + 1, 1, none⟩ b).setCell ⟨w.heap.size + 1 + 1, 2, none⟩ c).setCell ⟨w.heap.size + 1 + 1, 3, none⟩ d).cell? ⟨w.heap.size + 1, 3, none⟩ = some (.slice vn2 (nnO CH L2) vnc2)) := Lib.hid (fun y a b c d hb => by
         have hf := far_put4 y (w.heap.size + 1 + 1) a b c d
         have q1 : Row (put4 y (w.heap.size + 1 + 1) a b c d) w.heap.size 26 _ := (hf.block _ (by omega) (BC.out.now.2.1.below hb).lt).trans (BC.out.now.2.1.below hb)
         have q2 : Row (put4 y (w.heap.size + 1 + 1) a b c d) (w.heap.size + 1) 26 _ := (hf.block _ (by omega) (BC.out.now.2.2.1.below hb).lt).trans (BC.out.now.2.2.1.below hb)
         unfold plC at q1 q2
         exact ⟨q1.cell 0, q1.cell 1, q1.cell 2, q1.cell 3, q2.cell 0, q2.cell 1, q2.cell 2, q2.cell 3⟩)
        have BD := Lib.hid BC.out.drew
        have B0 : Hid (Below WW.heap.size WW WW.drew) := Lib.hid (Below.refl _ WW).drew
        go_region_held3 (fun y => y.cell? ⟨w.heap.size, 0, none⟩ = some (.slice va1 r1 vc1) /\ y.cell? ⟨w.heap.size, 1, none⟩ = some (.bool CH) /\ y.cell? ⟨w.heap.size, 2, none⟩ = some (.slice vt1 (tnO CH L1) vtc1) /\ y.cell? ⟨w.heap.size, 3, none⟩ = some (.slice vn1 (nnO CH L1) vnc1) /\ y.cell? ⟨w.heap.size + 1, 0, none⟩ = some (.slice va2 r2 vc2) /\ y.cell? ⟨w.heap.size + 1, 1, none⟩ = some (.bool CH) /\ y.cell? ⟨w.heap.size + 1, 2, none⟩ = some (.slice vt2 (tnO CH L2) vtc2) /\ y.cell? ⟨w.heap.size + 1, 3, none⟩ = some (.slice vn2 (nnO CH L2) vnc2))
         (first
           | with_reducible exact HSF.out _ B0.out
           | (have hq := HA.out; with_reducible exact HSF.out _ hq)
           | (have hq := HB.out; with_reducible exact HSF.out _ hq)
           | (have hq := HC.out; with_reducible exact HSF.out _ hq)
           | (have hq := HC.out; with_reducible exact HSP.out _ _ _ _ _ hq))
         (first
           | (go_at_call 49; (with_reducible refine (PT.out k hkq _ _ _ BD.out.now.1).mono ?_); rintro e wa ⟨a4, c4, rfl, hk4, hb4⟩; have HA : Hid (Below WW.heap.size WW wa) := Lib.hid (B0.out.trans hb4); have BA := Lib.hid ((BD.out.go hb4).krow hk4))
           | (go_at_call 49; (with_reducible refine (PT.out k hkq _ _ _ BA.out.now.2.1).mono ?_); rintro e wb ⟨a5, c5, rfl, hk5, hb5⟩; have HB : Hid (Below WW.heap.size WW wb) := Lib.hid (HA.out.trans (hb5.mono HA.out.size)); have B5 := Lib.hid ((BA.out.go hb5).krow hk5))
           | (go_at_call 43; (refine (LD.out k rfl hkq h8 trivial HCV.out _ _ _ _ _ _ _ B5.out.now.2.2.2.2.2.2.1 B5.out.now.2.2.2.2.2.2.2 B5.out.now.2.1 B5.out.now.1).mono ?_); rintro e wc hpo; obtain ⟨x6, rfl, hi6, hp6, hn6, hb6⟩ := hpo.res2; have HC : Hid (Below WW.heap.size WW wc) := Lib.hid (HB.out.trans (hb6.mono HB.out.size)); have B6 := Lib.hid (B5.out.go hb6); have HZ6 := Lib.hid B6.out.now.2.2.2.2.2.1; obtain ⟨ua, un, uc, uh, ut, utn, utc, um, umn, umc, hx6⟩ := hi6; unfold plC at hx6; subst hx6; have l0 : wc.cell? ⟨w.heap.size + 1 + 1, 0, none⟩ = some (.slice none 0 0) := HZ6.out.cell 0; have f0 : wc.frozen? ⟨w.heap.size + 1 + 1, 0, none⟩ = false := HZ6.out.free 0; have l1 : wc.cell? ⟨w.heap.size + 1 + 1, 1, none⟩ = some (.bool false) := HZ6.out.cell 1; have f1 : wc.frozen? ⟨w.heap.size + 1 + 1, 1, none⟩ = false := HZ6.out.free 1; have l2 : wc.cell? ⟨w.heap.size + 1 + 1, 2, none⟩ = some (.slice none 0 0) := HZ6.out.cell 2; have f2 : wc.frozen? ⟨w.heap.size + 1 + 1, 2, none⟩ = false := HZ6.out.free 2; have l3 : wc.cell? ⟨w.heap.size + 1 + 1, 3, none⟩ = some (.slice none 0 0) := HZ6.out.cell 3; have f3 : wc.frozen? ⟨w.heap.size + 1 + 1, 3, none⟩ = false := HZ6.out.free 3))
        have HE : Hid (PoTold E T (r1 + 1) CH M eC eB eS eT w (put4 wc (w.heap.size + 1 + 1) (.slice ua un uc) (.bool uh) (.slice ut utn utc) (.slice um umn umc)) (.returned (.tuple #[.agg #[.slice ua un uc, .bool uh, .slice ut utn utc, .slice um umn umc], .int .i64 E]))) := Lib.hid ⟨_, rfl, fun e => PlnAt.away (hp6 e) HZ6.out (noInt_pl none 0 0 false none 0 0 none 0 0) (noStr_pl none 0 0 false none 0 0 none 0 0) (far_put4 _ _ _ _ _ _), hn6, below_put4 B6.out.below (show w.heap.size <= w.heap.size + 1 + 1 by omega) _ _ _ _⟩
        have HR6 : Hid (Row (put4 wc (w.heap.size + 1 + 1) (.slice ua un uc) (.bool uh) (.slice ut utn utc) (.slice um umn umc)) (w.heap.size + 1 + 1) 26 #[.slice ua un uc, .bool uh, .slice ut utn utc, .slice um umn umc]) := Lib.hid (row_put4 HZ6.out _ _ _ _)
        clear l0 l1 l2 l3 f0 f1 f2 f3 hp6 hn6 hb6
        go_wp2_with fail
        exact bodyPost_ret (res_pln2 Tryz.results15 rfl rfl HR6.out rfl) rfl HE.out
      · have d9 : ((r2 : Int) != 0) = true := bne_iff_ne.2 (by omega)
        by_cases eq : r2 = r1
        · have d10 : ((r2 : Int) != (r1 : Int)) = false := by rw [eq]; exact bne_self_eq_false _
          cases hsb : (decide (r2 = r1) && sameB S2 S1 r2) with
          | true =>
           have HSB := Lib.hid hsb
           clear hsb eq
           have HCV : Hid (cvE r2 S2 r1 S1 = 0) := Lib.hid (by unfold cvE; rw [if_neg e0, if_pos HSB.out])
           clear e0
           go_wp2_with (first
            | (refine stPw rfl (.tmp 3) (.tmp 14) rfl (w.heap.size) rfl _ rfl I1.out HZ1.out HC1.out ?_)
            | (refine stPw rfl (.tmp 4) (.tmp 15) rfl (w.heap.size + 1) rfl _ rfl I2.out HZ2.out HC2.out ?_))
           go_at_call 35
           (with_reducible refine (r6Same_any _ _ _ _ _ _ _ _ _ (HK2.out) BC.out.now.1).mono ?_)
           unfold SameTold
           rintro e WW ⟨he, hb3⟩
           have he : e = Ending.returned (.bool true) := by
            rw [he]
            rw [HSB.out]
           subst he
           have BC := Lib.hid (BC.out.go hb3)
           clear hb3
           go_wp2_with fail
           have HSF : Hid (∀ y, Below WW.heap.size WW y -> y.cell? ⟨w.heap.size, 0, none⟩ = some (.slice va1 r1 vc1) /\ y.cell? ⟨w.heap.size, 1, none⟩ = some (.bool CH) /\ y.cell? ⟨w.heap.size, 2, none⟩ = some (.slice vt1 (tnO CH L1) vtc1) /\ y.cell? ⟨w.heap.size, 3, none⟩ = some (.slice vn1 (nnO CH L1) vnc1) /\ y.cell? ⟨w.heap.size + 1, 0, none⟩ = some (.slice va2 r2 vc2) /\ y.cell? ⟨w.heap.size + 1, 1, none⟩ = some (.bool CH) /\ y.cell? ⟨w.heap.size + 1, 2, none⟩ = some (.slice vt2 (tnO CH L2) vtc2) /\ y.cell? ⟨w.heap.size + 1, 3, none⟩ = some (.slice vn2 (nnO CH L2) vnc2)) := Lib.hid (fun y hb => by
            have q1 := BC.out.now.2.1.below hb
            have q2 := BC.out.now.2.2.1.below hb
            unfold plC at q1 q2
            exact ⟨q1.cell 0, q1.cell 1, q1.cell 2, q1.cell 3, q2.cell 0, q2.cell 1, q2.cell 2, q2.cell 3⟩)
           have HSP : Hid (∀ y a b c d, Below WW.heap.size WW y -> ((((y.setCell ⟨w.heap.size + 1 + 1, 0, none⟩ a).setCell ⟨w.heap.size + 1 + 1, 1, none⟩ b).setCell ⟨w.heap.size + 1 + 1, 2, none⟩ c).setCell ⟨w.heap.size + 1 + 1, 3, none⟩ d).cell? ⟨w.heap.size, 0, none⟩ = some (.slice va1 r1 vc1) /\ ((((y.setCell ⟨w.heap.size + 1 + 1, 0, none⟩ a).setCell ⟨w.heap.size + 1 + 1, 1, none⟩ b).setCell ⟨w.heap.size + 1 + 1, 2, none⟩ c).setCell ⟨w.heap.size + 1 + 1, 3, none⟩ d).cell? ⟨w.heap.size, 1, none⟩ = some (.bool CH) /\ ((((y.setCell ⟨w.heap.size + 1 + 1, 0, none⟩ a).setCell ⟨w.heap.size + 1 + 1, 1, none⟩ b).setCell ⟨w.heap.size + 1 + 1, 2, none⟩ c).setCell ⟨w.heap.size + 1 + 1, 3, none⟩ d).cell? ⟨w.heap.size, 2, none⟩ = some (.slice vt1 (tnO CH L1) vtc1) /\ ((((y.setCell ⟨w.heap.size + 1 + 1, 0, none⟩ a).setCell ⟨w.heap.size + 1 + 1, 1, none⟩ b).setCell ⟨w.heap.size + 1 + 1, 2, none⟩ c).setCell ⟨w.heap.size + 1 + 1, 3, none⟩ d).cell? ⟨w.heap.size, 3, none⟩ = some (.slice vn1 (nnO CH L1) vnc1) /\ ((((y.setCell ⟨w.heap.size + 1 + 1, 0, none⟩ a).setCell ⟨w.heap.size + 1 + 1, 1, none⟩ b).setCell ⟨w.heap.size + 1 + 1, 2, none⟩ c).setCell ⟨w.heap.size + 1 + 1, 3, none⟩ d).cell? ⟨w.heap.size + 1, 0, none⟩ = some (.slice va2 r2 vc2) /\ ((((y.setCell ⟨w.heap.size + 1 + 1, 0, none⟩ a).setCell ⟨w.heap.size + 1 + 1, 1, none⟩ b).setCell ⟨w.heap.size + 1 + 1, 2, none⟩ c).setCell ⟨w.heap.size + 1 + 1, 3, none⟩ d).cell? ⟨w.heap.size + 1, 1, none⟩ = some (.bool CH) /\ ((((y.setCell ⟨w.heap.size + 1 + 1, 0, none⟩ a).setCell ⟨w.heap.size + 1 + 1, 1, none⟩ b).setCell ⟨w.heap.size + 1 + 1, 2, none⟩ c).setCell ⟨w.heap.size + 1 + 1, 3, none⟩ d).cell? ⟨w.heap.size + 1, 2, none⟩ = some (.slice vt2 (tnO CH L2) vtc2) /\ ((((y.setCell ⟨w.heap.size + 1 + 1, 0, none⟩ a).setCell ⟨w.heap.size + 1 + 1, 1, none⟩ b).setCell ⟨w.heap.size + 1 + 1, 2, none⟩ c).setCell ⟨w.heap.size + 1 + 1, 3, none⟩ d).cell? ⟨w.heap.size + 1, 3, none⟩ = some (.slice vn2 (nnO CH L2) vnc2)) := Lib.hid (fun y a b c d hb => by
            have hf := far_put4 y (w.heap.size + 1 + 1) a b c d
            have q1 : Row (put4 y (w.heap.size + 1 + 1) a b c d) w.heap.size 26 _ := (hf.block _ (by omega) (BC.out.now.2.1.below hb).lt).trans (BC.out.now.2.1.below hb)
            have q2 : Row (put4 y (w.heap.size + 1 + 1) a b c d) (w.heap.size + 1) 26 _ := (hf.block _ (by omega) (BC.out.now.2.2.1.below hb).lt).trans (BC.out.now.2.2.1.below hb)
            unfold plC at q1 q2
            exact ⟨q1.cell 0, q1.cell 1, q1.cell 2, q1.cell 3, q2.cell 0, q2.cell 1, q2.cell 2, q2.cell 3⟩)
           have BD := Lib.hid BC.out.drew
           have B0 : Hid (Below WW.heap.size WW WW.drew) := Lib.hid (Below.refl _ WW).drew
           go_region_held3 (fun y => y.cell? ⟨w.heap.size, 0, none⟩ = some (.slice va1 r1 vc1) /\ y.cell? ⟨w.heap.size, 1, none⟩ = some (.bool CH) /\ y.cell? ⟨w.heap.size, 2, none⟩ = some (.slice vt1 (tnO CH L1) vtc1) /\ y.cell? ⟨w.heap.size, 3, none⟩ = some (.slice vn1 (nnO CH L1) vnc1) /\ y.cell? ⟨w.heap.size + 1, 0, none⟩ = some (.slice va2 r2 vc2) /\ y.cell? ⟨w.heap.size + 1, 1, none⟩ = some (.bool CH) /\ y.cell? ⟨w.heap.size + 1, 2, none⟩ = some (.slice vt2 (tnO CH L2) vtc2) /\ y.cell? ⟨w.heap.size + 1, 3, none⟩ = some (.slice vn2 (nnO CH L2) vnc2))
            (first
              | with_reducible exact HSF.out _ B0.out
              | (have hq := HA.out; with_reducible exact HSF.out _ hq)
              | (have hq := HB.out; with_reducible exact HSF.out _ hq)
              | (have hq := HC.out; with_reducible exact HSF.out _ hq)
              | (have hq := HC.out; with_reducible exact HSP.out _ _ _ _ _ hq))
            (first
              | (go_at_call 49; (with_reducible refine (PT.out k hkq _ _ _ BD.out.now.1).mono ?_); rintro e wa ⟨a4, c4, rfl, hk4, hb4⟩; have HA : Hid (Below WW.heap.size WW wa) := Lib.hid (B0.out.trans hb4); have BA := Lib.hid ((BD.out.go hb4).krow hk4))
              | (go_at_call 49; (with_reducible refine (PT.out k hkq _ _ _ BA.out.now.2.1).mono ?_); rintro e wb ⟨a5, c5, rfl, hk5, hb5⟩; have HB : Hid (Below WW.heap.size WW wb) := Lib.hid (HA.out.trans (hb5.mono HA.out.size)); have B5 := Lib.hid ((BA.out.go hb5).krow hk5))
              | (go_at_call 43; (refine (LD.out k rfl hkq h8 trivial HCV.out _ _ _ _ _ _ _ B5.out.now.2.2.2.2.2.2.1 B5.out.now.2.2.2.2.2.2.2 B5.out.now.2.1 B5.out.now.1).mono ?_); rintro e wc hpo; obtain ⟨x6, rfl, hi6, hp6, hn6, hb6⟩ := hpo.res2; have HC : Hid (Below WW.heap.size WW wc) := Lib.hid (HB.out.trans (hb6.mono HB.out.size)); have B6 := Lib.hid (B5.out.go hb6); have HZ6 := Lib.hid B6.out.now.2.2.2.2.2.1; obtain ⟨ua, un, uc, uh, ut, utn, utc, um, umn, umc, hx6⟩ := hi6; unfold plC at hx6; subst hx6; have l0 : wc.cell? ⟨w.heap.size + 1 + 1, 0, none⟩ = some (.slice none 0 0) := HZ6.out.cell 0; have f0 : wc.frozen? ⟨w.heap.size + 1 + 1, 0, none⟩ = false := HZ6.out.free 0; have l1 : wc.cell? ⟨w.heap.size + 1 + 1, 1, none⟩ = some (.bool false) := HZ6.out.cell 1; have f1 : wc.frozen? ⟨w.heap.size + 1 + 1, 1, none⟩ = false := HZ6.out.free 1; have l2 : wc.cell? ⟨w.heap.size + 1 + 1, 2, none⟩ = some (.slice none 0 0) := HZ6.out.cell 2; have f2 : wc.frozen? ⟨w.heap.size + 1 + 1, 2, none⟩ = false := HZ6.out.free 2; have l3 : wc.cell? ⟨w.heap.size + 1 + 1, 3, none⟩ = some (.slice none 0 0) := HZ6.out.cell 3; have f3 : wc.frozen? ⟨w.heap.size + 1 + 1, 3, none⟩ = false := HZ6.out.free 3))
           have HE : Hid (PoTold E T (r1 + 1) CH M eC eB eS eT w (put4 wc (w.heap.size + 1 + 1) (.slice ua un uc) (.bool uh) (.slice ut utn utc) (.slice um umn umc)) (.returned (.tuple #[.agg #[.slice ua un uc, .bool uh, .slice ut utn utc, .slice um umn umc], .int .i64 E]))) := Lib.hid ⟨_, rfl, fun e => PlnAt.away (hp6 e) HZ6.out (noInt_pl none 0 0 false none 0 0 none 0 0) (noStr_pl none 0 0 false none 0 0 none 0 0) (far_put4 _ _ _ _ _ _), hn6, below_put4 B6.out.below (show w.heap.size <= w.heap.size + 1 + 1 by omega) _ _ _ _⟩
           have HR6 : Hid (Row (put4 wc (w.heap.size + 1 + 1) (.slice ua un uc) (.bool uh) (.slice ut utn utc) (.slice um umn umc)) (w.heap.size + 1 + 1) 26 #[.slice ua un uc, .bool uh, .slice ut utn utc, .slice um umn umc]) := Lib.hid (row_put4 HZ6.out _ _ _ _)
           clear l0 l1 l2 l3 f0 f1 f2 f3 hp6 hn6 hb6
           go_wp2_with fail
           exact bodyPost_ret (res_pln2 Tryz.results15 rfl rfl HR6.out rfl) rfl HE.out
          | false =>
           have HSB := Lib.hid hsb
           clear hsb
           have HCV : Hid (cvE r2 S2 r1 S1 = 24) := Lib.hid (by unfold cvE; rw [if_neg e0, if_neg (by rw [HSB.out]; decide), if_pos eq])
           have HEE := HF2.out rfl k rfl hkq h8 (by rw [HCV.out]; decide)
           rw [HCV.out] at HEE
           subst HEE
           clear e0 eq PT LD HF2
           go_wp2_with (first
            | (refine stPw rfl (.tmp 3) (.tmp 14) rfl (w.heap.size) rfl _ rfl I1.out HZ1.out HC1.out ?_)
            | (refine stPw rfl (.tmp 4) (.tmp 15) rfl (w.heap.size + 1) rfl _ rfl I2.out HZ2.out HC2.out ?_))
           go_at_call 35
           (with_reducible refine (r6Same_any _ _ _ _ _ _ _ _ _ (HK2.out) BC.out.now.1).mono ?_)
           unfold SameTold
           rintro e WW ⟨he, hb3⟩
           have he : e = Ending.returned (.bool false) := by
            rw [he]
            rw [HSB.out]
           subst he
           have BC := Lib.hid (BC.out.go hb3)
           clear hb3
           have HZ3 := Lib.hid BC.out.now.2.2.2.1
           have HE := Lib.hid (PoTold.no (S := T) (r := r1 + 1) (ch := CH) (L := M) (g := eC) (fB := eB) (fS := eS) (fT := eT) (E := 24) (by decide) (below_put BC.out.below (show w.heap.size <= w.heap.size + 1 + 1 by omega) plZer))
           go_wp2_with (refine st_pln rfl (.tmp 6) (.tmp 65) rfl (w.heap.size + 1 + 1) rfl none 0 0 false none 0 0 none 0 0 rfl HZ3.out rfl ?_)
           exact bodyPost_ret (res_pln2 Tryz.results15 rfl rfl (HZ3.out.put _) rfl) rfl HE.out
        · have d10 : ((r2 : Int) != (r1 : Int)) = true := bne_iff_ne.2 (by omega)
          have HCV : Hid (cvE r2 S2 r1 S1 = 23) := Lib.hid (by unfold cvE; rw [if_neg e0, if_neg (by rw [decide_eq_false eq, Bool.false_and]; decide), if_neg eq])
          have HEE := HF2.out rfl k rfl hkq h8 (by rw [HCV.out]; decide)
          rw [HCV.out] at HEE
          subst HEE
          have HZ3 := Lib.hid BC.out.now.2.2.2.1
          have HE := Lib.hid (PoTold.no (S := T) (r := r1 + 1) (ch := CH) (L := M) (g := eC) (fB := eB) (fS := eS) (fT := eT) (E := 23) (by decide) (below_put BC.out.below (show w.heap.size <= w.heap.size + 1 + 1 by omega) plZer))
          clear e0 eq PT LD HF2
          go_wp2_with (first
           | (refine stPw rfl (.tmp 3) (.tmp 14) rfl (w.heap.size) rfl _ rfl I1.out HZ1.out HC1.out ?_)
           | (refine stPw rfl (.tmp 4) (.tmp 15) rfl (w.heap.size + 1) rfl _ rfl I2.out HZ2.out HC2.out ?_)
           | (refine st_pln rfl (.tmp 6) (.tmp 53) rfl (w.heap.size + 1 + 1) rfl none 0 0 false none 0 0 none 0 0 rfl HZ3.out rfl ?_))
          exact bodyPost_ret (res_pln2 Tryz.results15 rfl rfl (HZ3.out.put _) rfl) rfl HE.out
end Go.Proofs.YtdlccnmhcggjiaaGreatDoor
namespace Go.Proofs.YtdlccnmhcggjiaaGreatDoor
open Go.RowKit
theorem rlam_any (x1 : Array Value) (S1 : Nat -> Int) (r1 : Nat) (ch1 : Bool) (L1 : Nat) (g1 : Nat -> Int) (B1 : Nat -> Bool) (s1 t1 : Nat -> ByteArray) (x2 : Array Value) (S2 : Nat -> Int) (r2 : Nat) (ch2 : Bool) (L2 : Nat) (g2 : Nat -> Int) (B2 : Nat -> Bool) (s2 t2 : Nat -> ByteArray) (i : Int) (w : World) (h1 : Pln w x1 S1 r1 ch1 L1 g1 B1 s1 t1) (h2 : Pln w x2 S2 r2 ch2 L2 g2 B2 s2 t2)
    (hsh1 : shB S1 r1 = true) (hc1 : itm S1 r1 = (L1 : Nat)) (hsh2 : shB S2 r2 = true) (hc2 : itm S2 r2 = (L2 : Nat)) (hi : -9223372036854775808 <= i /\ i <= 9223372036854775807) :
    Calls Tryz.prog 15 #[.agg x1, .agg x2, .int .i64 i] w fun e w' => PoTold (lmE (kdB ch1 L1 ch2 L2) (lmR r1 r2) (lmS r1 S1 S2) r2 S2 i) (lmT (lmS r1 S1 S2) i.toNat) (lmR r1 r2 + 1) (kdC ch1 L1 ch2 L2) (itm (lmT (lmS r1 S1 S2) i.toNat) (lmR r1 r2 + 1)).toNat (wvF (lmN (lmS r1 S1 S2) (lmR r1 r2) i.toNat) (lmN (lmS r1 S1 S2) (lmR r1 r2) i.toNat) (fun j => elC L1 g1 32 (exG r1 j)) (fun j => elC L2 g2 32 (exG r2 j))) (wvF (lmN (lmS r1 S1 S2) (lmR r1 r2) i.toNat) (lmN (lmS r1 S1 S2) (lmR r1 r2) i.toNat) (fun j => elB L1 B1 (exG r1 j)) (fun j => elB L2 B2 (exG r2 j))) (wvF (lmN (lmS r1 S1 S2) (lmR r1 r2) i.toNat) (lmN (lmS r1 S1 S2) (lmR r1 r2) i.toNat) (fun j => elS L1 s1 (rS 0) (exG r1 j)) (fun j => elS L2 s2 (rS 0) (exG r2 j))) (wvF (lmN (lmS r1 S1 S2) (lmR r1 r2) i.toNat) (lmN (lmS r1 S1 S2) (lmR r1 r2) i.toNat) (fun j => elS L1 t1 (str (dec 1)) (exG r1 j)) (fun j => elS L2 t2 (str (dec 1)) (exG r2 j))) w w' e := by
 by_cases h : r1 = 0
 · exact rlam_z x1 S1 r1 ch1 L1 g1 B1 s1 t1 x2 S2 r2 ch2 L2 g2 B2 s2 t2 i w h1 h2 hsh1 hc1 hsh2 hc2 hi (Lib.hid h)
 · exact rlam_n x1 S1 r1 ch1 L1 g1 B1 s1 t1 x2 S2 r2 ch2 L2 g2 B2 s2 t2 i w h1 h2 hsh1 hc1 hsh2 hc2 hi (Lib.hid h)
end Go.Proofs.YtdlccnmhcggjiaaGreatDoor
namespace Go.Proofs.YtdlccnmhcggjiaaGreatDoor
open Go.ChangeShapes Go.WideShapes Go.ChangeAt Go.RowKit
theorem in64_of {f : Nat -> Int} {n : Nat} (h : ∀ j, j < n -> (Lit.int .i64 (f j)).wf = true) : In64 f n := fun j hj => by
 simpa [Lit.wf, IntKind.min, IntKind.max, IntKind.signed, IntKind.bits] using h j hj
section
variable {H : Type} {enc : TypeId × Value -> H} {P : Program} {w : World} {base : Nat} {spare : Nat -> Bool} {held : Bool}
end
end Go.Proofs.YtdlccnmhcggjiaaGreatDoor
namespace Go.Proofs.YtdlccnmhcggjiaaGreatDoor
open Go.ChangeShapes Go.WideShapes Go.ChangeAt Go.RowKit Go.WideMaps Go.WideElems Go.Deep
theorem cellsNum : Tryz.prog.cellsOf 57 = 3 := by kernel_rfl
theorem cellsBool : Tryz.prog.cellsOf 4 = 1 := by kernel_rfl
theorem cellsStr : Tryz.prog.cellsOf 9 = 1 := by kernel_rfl
end Go.Proofs.YtdlccnmhcggjiaaGreatDoor
namespace Go.Proofs.YtdlccnmhcggjiaaGreatDoor
open Go.ChangeShapes Go.WideShapes Go.ChangeAt Go.RowKit Go.WideMaps Go.WideElems Go.Deep Go.Joins
theorem krow_cells {H : Type} {enc : TypeId × Value -> H} {P : Program} {w : World} {base : Nat} {t e : TypeId} {ki : IntKind} {cs : List Value} {fuel : Nat} {x : DataW H × List MemPlace} (ht : P.underlying t = some (.slice e)) (he : P.underlying e = some (.int ki)) (hc : P.cellsOf e = 1)
    (h : DataW.trod enc P w base (fun _ => true) true fuel t cs = some x) :
    ∃ a n c f, cs = [.slice a n c] /\ KRow w ki a n c f /\ ∀ j, j < n -> (Lit.int ki (f j)).wf = true := by
 rcases open_ints ht he hc h with ⟨hcs, _⟩ | ⟨a, len, cap, zs, hcs, _, hl, hmx, hz, _, hcell, hwz⟩
 · exact ⟨none, 0, 0, fun _ => 0, hcs, ⟨Nat.le_refl _, Nat.zero_le _, .inl rfl⟩, fun j hj => absurd hj (Nat.not_lt_zero _)⟩
 · simp only [if_true] at hz
   refine ⟨some a, len, cap, fun j => zs.getD j 0, hcs, ⟨hl, hmx, ?_⟩, fun j hj => ?_⟩
   · rcases Nat.eq_zero_or_pos len with h0 | h0
     · exact .inl h0
     · obtain ⟨b, off, spot⟩ := a
       have hspot : spot = none := by simpa [Addr.add] using World.cell?_spot (hcell 0 (by omega))
       subst hspot
       have h1 : ∀ j, j < zs.length -> w.cell? ⟨b, off + j, none⟩ = some (.int ki (zs.getD j 0)) := fun j hj => by rw [← add_plain]; exact hcell j hj
       exact .inr ⟨b, off, rfl, World.block_lt_of_cell? w _ (h1 0 (by omega)), fun j hj => h1 j (by omega)⟩
   · refine hwz _ ?_
     have : zs.getD j 0 = zs[j]'(by omega) := by simp [List.getD, show j < zs.length by omega]
     show zs.getD j 0 ∈ zs
     rw [this]
     exact List.getElem_mem _
theorem qrow_cells {H : Type} {enc : TypeId × Value -> H} {w : World} {base : Nat} {cs : List Value} {fuel : Nat} {x : DataW H × List MemPlace}
    (h : DataW.trod enc Tryz.prog w base (fun _ => true) true fuel 24 cs = some x) :
    ∃ a n c fB fS fT, cs = [.slice a n c] /\ QRow w a n c fB fS fT /\ ∀ j, j < n -> (fS j).size <= maxLen /\ (fT j).size <= maxLen := by
 rcases open_slice Tryz.underlying24 h with ⟨hcs, _⟩ | ⟨a, len, cap, m, n, D, Pl, hcs, hb, hl, hm, hmm, rfl, hx⟩
 · exact ⟨none, 0, 0, fun _ => false, fun _ => ⟨#[]⟩, fun _ => ⟨#[]⟩, hcs, QRow.nought _ _ _ (Nat.zero_le _) _ _ _, fun j hj => absurd hj (Nat.not_lt_zero _)⟩
 · simp only [if_true] at hmm
   subst hmm
   obtain ⟨b, off, spot⟩ := a
   rcases Nat.eq_zero_or_pos len with h0 | h0
   · subst h0
     exact ⟨_, 0, _, fun _ => false, fun _ => ⟨#[]⟩, fun _ => ⟨#[]⟩, hcs, QRow.nought _ _ _ hm _ _ _, fun j hj => absurd hj (Nat.not_lt_zero _)⟩
   have each : ∀ i, i < m -> ∃ q : Bool × ByteArray × ByteArray, w.cell? ((⟨b, off, spot⟩ : Addr).add (i * 3)) = some (.bool q.1) /\ w.cell? ((⟨b, off, spot⟩ : Addr).add (i * 3 + 1)) = some (.string q.2.1) /\ w.cell? ((⟨b, off, spot⟩ : Addr).add (i * 3 + 2)) = some (.string q.2.2) /\ q.2.1.size <= maxLen /\ q.2.2.size <= maxLen := by
    intro i hi
    obtain ⟨cs', h1, h2⟩ := hx i hi
    rw [cellsNum] at h1
    obtain ⟨_, hlen, hcell⟩ := World.cells?_some h1
    obtain ⟨y0, y1, y2, k, hxx, _, hy0, hy1, hy2⟩ := trod_struct3 Tryz.underlying57 h2
    match cs', hlen with
    | [c0, c1, c2], _ =>
     obtain ⟨u, e0, rfl⟩ := DataW.trod_bool Tryz.underlying4 hy0
     obtain ⟨s, e1, rfl, hs⟩ := DataW.trod_string Tryz.underlying9 hy1
     obtain ⟨t, e2, rfl, ht⟩ := DataW.trod_string Tryz.underlying9 hy2
     simp [cellsBool] at e0
     simp [cellsStr] at e1 e2
     subst e0 e1 e2
     have g0 := hcell 0 (by omega)
     have g1 := hcell 1 (by omega)
     have g2 := hcell 2 (by omega)
     rw [add_add] at g0 g1 g2
     exact ⟨(u, s, t), by simpa using g0, by simpa using g1, by simpa using g2, hs, ht⟩
   obtain ⟨q, hq⟩ := choose_lt each
   have hspot : spot = none := by simpa [Addr.add] using World.cell?_spot (hq 0 (by omega)).1
   subst hspot
   refine ⟨_, _, _, fun j => (q j).1, fun j => (q j).2.1, fun j => (q j).2.2, hcs, ⟨hl, hm, .inr ⟨b, off, rfl, ?_, fun j hj => ?_⟩⟩, fun j hj => ⟨(hq j (by omega)).2.2.2.1, (hq j (by omega)).2.2.2.2⟩⟩
   · exact World.block_lt_of_cell? w ⟨b, off + 0 * 3, none⟩ (by rw [← add_plain]; exact (hq 0 (by omega)).1)
   · have := hq j (by omega)
     simp only [add_plain] at this
     exact ⟨this.1, this.2.1, this.2.2.1⟩
theorem cellsPln : Tryz.prog.cellsOf 26 = 4 := by kernel_rfl
theorem cellsSlI : Tryz.prog.cellsOf 22 = 1 := by kernel_rfl
theorem cellsSlR : Tryz.prog.cellsOf 23 = 1 := by kernel_rfl
theorem cellsSlN : Tryz.prog.cellsOf 24 = 1 := by kernel_rfl
theorem cellsI : Tryz.prog.cellsOf 3 = 1 := by kernel_rfl
theorem cellsC : Tryz.prog.cellsOf 21 = 1 := by kernel_rfl
theorem open_pln {H : Type} {enc : TypeId × Value -> H} {W : World} {r : Reach} {b0 : Nat} {v0 : Value} {d0 : DataW H} {p0 : List MemPlace}
    (hv : Value.okWide Tryz.prog W r b0 26 v0) (h0 : DataW.Trod enc Tryz.prog W 0 (fun _ => true) true 26 v0 d0 p0) :
    ∃ cs S q ch g tn fB fS fT nn, v0 = .agg cs /\ PlnAt W cs S q ch g tn fB fS fT nn /\ In64 S q /\ ∀ j, j < nn -> (fS j).size <= maxLen /\ (fT j).size <= maxLen := by
 obtain ⟨cs, rfl, hsz⟩ := okWide_struct Tryz.underlying26 hv
 rw [cellsPln] at hsz
 obtain ⟨l⟩ := cs
 match l, hsz with
 | [c0, c1, c2, c3], _ =>
 obtain ⟨fuel, hf⟩ := h0
 obtain ⟨y0, y1, y2, y3, m, hx, _, hy0, hy1, hy2, hy3⟩ := trod_struct4 Tryz.underlying26 hf
 obtain ⟨sa, r, sc, S, e0, k0, w0⟩ := krow_cells (ki := .i64) Tryz.underlying22 Tryz.underlying3 cellsI hy0
 obtain ⟨ch, e1, rfl⟩ := DataW.trod_bool Tryz.underlying4 hy1
 obtain ⟨ta, tn, tc, g, e2, k2, w2⟩ := krow_cells (ki := .i32) Tryz.underlying23 Tryz.underlying21 cellsC hy2
 obtain ⟨na, nn, nc, fB, fS, fT, e3, k3, w3⟩ := qrow_cells hy3
 simp [Value.cells, cellsSlI] at e0
 simp [Value.cells, cellsBool] at e1
 simp [Value.cells, cellsSlR] at e2
 simp [Value.cells, cellsSlN] at e3
 subst e0 e1 e2 e3
 exact ⟨_, S, r, ch, g, tn, fB, fS, fT, nn, rfl, ⟨sa, sc, ta, tc, na, nc, rfl, k0, k2, k3⟩, in64_of w0, w3⟩
end Go.Proofs.YtdlccnmhcggjiaaGreatDoor
