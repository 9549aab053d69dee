/-
  Texts of this seat, laid together.
-/
import Derived.Deep.QuietTactic
import Derived.BigQuiet
import Derived.Laws.EntriesVeiled
import Derived.Laws.OwnMore
import Derived.Deep.RegionHeld3
import Derived.StillTailTactics
import Derived.Shelf.Abstract
import Derived.Lib.AppendZeros
import Derived.ProofKit
import Derived.Carry
import Derived.Deep.Strs
import Derived.OpenShut
import Derived.Test.YtdlccnmhcggjiaaGreatDoorRows
import Derived.Deep.Slices
import Derived.Lib.SmallJoins
import Derived.Test.YtdlccnmhcggjiaaGreatDoorQ1
import Derived.Test.YtdlccnmhcggjiaaGreatDoorQ2
import Derived.Test.YtdlccnmhcggjiaaGreatDoorQ3
import Derived.Test.YtdlccnmhcggjiaaGreatDoorQ4
import Derived.Test.YtdlccnmhcggjiaaGreatDoorQ5
import Derived.Test.YtdlccnmhcggjiaaGreatDoorQ6
import Derived.Test.YtdlccnmhcggjiaaGreatDoorQ7
import Derived.Test.YtdlccnmhcggjiaaGreatDoorQ8
import Derived.Test.YtdlccnmhcggjiaaGreatDoorQ9
import Derived.Test.YtdlccnmhcggjiaaGreatDoorQ10
import Derived.Test.YtdlccnmhcggjiaaGreatDoorQ11
set_option maxHeartbeats 12800000
set_option maxRecDepth 100000
set_option linter.unusedSimpArgs false
set_option linter.unusedVariables false
namespace Go.Proofs.YtdlccnmhcggjiaaGreatDoor
open Go.RowKit
attribute [local go_sem ↓] Go.wp_at_zero Go.wp_at_succ
theorem stPw {ops : Array Oper} {rest : List Oper} {o : Oper} {a : Act} {w : World} {Q : Exit -> Act -> World -> Prop} (hgd : o.guard = none) (x y : Operand) (ho : o.op = .store 26 x y) (g : Nat) (hx : a.eval x = .pointer (some ⟨g, 0, none⟩))
    (cs : Array Value) (hy : a.eval y = .agg cs) (hc : IsP cs) {old : Array Value} (hg : Row w g 26 old) (hz : IsP old)
    (h : wpList Tryz.prog ops Q rest (a.put o.dst undef) (w.setRow g cs)) : wpList Tryz.prog ops Q (o :: rest) a w :=
 wpList_store_row hgd _ x y ho g _ hx hy _ old hg (by rw [pln4, hc.size]) (by rw [hz.size, hc.size]) hc.one h
theorem Pln.store {w : World} {cs : Array Value} {S : Nat -> Int} {r : Nat} {ch : Bool} {L : Nat} {g : Nat -> Int} {fB : Nat -> Bool} {fS fT : Nat -> ByteArray} (h : Pln w cs S r ch L g fB fS fT) {k : Nat} {t : TypeId} {z : Array Value} (hr : Row w k t z) (hz : IsP z) (cs' : Array Value) : Pln (w.setRow k cs') cs S r ch L g fB fS fT := by
 obtain ⟨_, _, _, _, _, _, _, _, _, _, rfl⟩ := hz
 exact PlnAt.away h hr (noInt_pl _ _ _ _ _ _ _ _ _ _) (noStr_pl _ _ _ _ _ _ _ _ _ _) (Far.setRow _ _ _)
theorem IsP.zer : IsP plZer := ⟨_, _, _, _, _, _, _, _, _, _, rfl⟩
theorem PoTold.put2 {w w6 : World} {E : Int} {S : Nat -> Int} {r : Nat} {ch : Bool} {L : Nat} {g : Nat -> Int} {fB : Nat -> Bool} {fS fT : Nat -> ByteArray} {x : Array Value} (h : E = 0 -> Pln w6 x S r ch L g fB fS fT) (h0 : E ≠ 0 -> x = plZer) {k : Nat} {z : Array Value} (hr : Row w6 k 26 z) (hz : IsP z) (hb : Below w.heap.size w w6) (hk : w.heap.size <= k) : PoTold E S r ch L g fB fS fT w (w6.setRow k x) (.returned (.tuple #[.agg x, .int .i64 E])) :=
 ⟨x, rfl, fun e => (h e).store hr hz x, h0, below_put hb hk x⟩
theorem rcat_any (x1 : Array Value) (S1 : Nat -> Int) (r1 : Nat) (ch1 : Bool) (L1 : Nat) (g1 : Nat -> Int) (B1 : Nat -> Bool) (s1 t1 : Nat -> ByteArray) (x2 : Array Value) (S2 : Nat -> Int) (r2 : Nat) (ch2 : Bool) (L2 : Nat) (g2 : Nat -> Int) (B2 : Nat -> Bool) (s2 t2 : Nat -> ByteArray) (i : Int) (w : World) (h1 : Pln w x1 S1 r1 ch1 L1 g1 B1 s1 t1) (h2 : Pln w x2 S2 r2 ch2 L2 g2 B2 s2 t2)
    (hsh1 : shB S1 r1 = true) (hc1 : itm S1 r1 = (L1 : Nat)) (hsh2 : shB S2 r2 = true) (hc2 : itm S2 r2 = (L2 : Nat)) (hi : -9223372036854775808 <= i /\ i <= 9223372036854775807) :
    Calls Tryz.prog 12 #[.agg x1, .agg x2, .int .i64 i] w fun e w' => PoTold (jnE (kdB ch1 L1 ch2 L2) r1 S1 r2 S2 i) (jnT r1 S1 r2 S2 (caK (grR r1 r2) i).toNat) (grR r1 r2) (kdC ch1 L1 ch2 L2) (itm (jnT r1 S1 r2 S2 (caK (grR r1 r2) i).toNat) (grR r1 r2)).toNat (wvF (jnN r1 S1 (grR r1 r2) (grS r1 S1 r2 S2) (caK (grR r1 r2) i).toNat) (jnN r2 S2 (grR r1 r2) (grS r1 S1 r2 S2) (caK (grR r1 r2) i).toNat) (fun j => elC L1 g1 32 (exG r1 j)) (fun j => elC L2 g2 32 (exG r2 j))) (wvF (jnN r1 S1 (grR r1 r2) (grS r1 S1 r2 S2) (caK (grR r1 r2) i).toNat) (jnN r2 S2 (grR r1 r2) (grS r1 S1 r2 S2) (caK (grR r1 r2) i).toNat) (fun j => elB L1 B1 (exG r1 j)) (fun j => elB L2 B2 (exG r2 j))) (wvF (jnN r1 S1 (grR r1 r2) (grS r1 S1 r2 S2) (caK (grR r1 r2) i).toNat) (jnN r2 S2 (grR r1 r2) (grS r1 S1 r2 S2) (caK (grR r1 r2) i).toNat) (fun j => elS L1 s1 (rS 0) (exG r1 j)) (fun j => elS L2 s2 (rS 0) (exG r2 j))) (wvF (jnN r1 S1 (grR r1 r2) (grS r1 S1 r2 S2) (caK (grR r1 r2) i).toNat) (jnN r2 S2 (grR r1 r2) (grS r1 S1 r2 S2) (caK (grR r1 r2) i).toNat) (fun j => elS L1 t1 (str (dec 1)) (exG r1 j)) (fun j => elS L2 t2 (str (dec 1)) (exG r2 j))) w w' e := by
 obtain ⟨sa1, sc1, ta1, tc1, na1, nc1, hx1, _⟩ := h1.form
 subst hx1
 obtain ⟨sa2, sc2, ta2, tc2, na2, nc2, hx2, _⟩ := h2.form
 subst hx2
 have hr1 := (sh_ax hsh1).1
 have hr2 := (sh_ax hsh2).1
 have hL1 : L1 <= 4096 := by have := ax_bd (sh_ax hsh1).2; omega
 have hL2 : L2 <= 4096 := by have := ax_bd (sh_ax hsh2).2; omega
 have H1 := Lib.hid h1
 have H2 := Lib.hid h2
 have KN := Lib.hid (fun wz h1 h2 => rkinds_any (plC sa1 r1 sc1 ch1 ta1 (tnO ch1 L1) tc1 na1 (nnO ch1 L1) nc1) S1 r1 ch1 L1 g1 B1 s1 t1 (plC sa2 r2 sc2 ch2 ta2 (tnO ch2 L2) tc2 na2 (nnO ch2 L2) nc2) S2 r2 ch2 L2 g2 B2 s2 t2 wz h1 h2 (by omega) (by omega))
 have BB0 := Lib.hid ((((Bag.start w).newRow (plC sa1 r1 sc1 ch1 ta1 (tnO ch1 L1) tc1 na1 (nnO ch1 L1) nc1) 26).newRow (plC sa2 r2 sc2 ch2 ta2 (tnO ch2 L2) tc2 na2 (nnO ch2 L2) nc2) 26).newRow plZer 26)
 simp only [World.size_alloc] at BB0
 have BB := Lib.hid (show Bag w (fun y => Row y w.heap.size 26 (plC sa1 r1 sc1 ch1 ta1 (tnO ch1 L1) tc1 na1 (nnO ch1 L1) nc1) /\ Row y (w.heap.size + 1) 26 (plC sa2 r2 sc2 ch2 ta2 (tnO ch2 L2) tc2 na2 (nnO ch2 L2) nc2) /\ Row y (w.heap.size + 1 + 1) 26 plZer /\ True) _ from ⟨BB0.out.below, fun a b hb ⟨q1, q2, q3, _⟩ => ⟨q1.below hb, q2.below hb, q3.below hb, trivial⟩, BB0.out.now.2.2.1, BB0.out.now.2.1, BB0.out.now.1, trivial⟩)
 have HR1 := Lib.hid BB.out.now.1
 have HR2 := Lib.hid BB.out.now.2.1
 clear h1 h2 BB0
 obtain ⟨KB, hKB⟩ : ∃ b, kdB ch1 L1 ch2 L2 = b := ⟨_, rfl⟩
 obtain ⟨CH, hCH⟩ : ∃ b, kdC ch1 L1 ch2 L2 = b := ⟨_, rfl⟩
 rw [hKB, hCH]
 rw [hKB, hCH] at KN
 clear hKB hCH
 obtain ⟨hss, hq1⟩ := gr_sh hsh1 hsh2
 have hdE : jnE KB r1 S1 r2 S2 i = jnE KB r1 S1 r2 S2 i := rfl
 unfold jnE at hdE ⊢
 unfold jnT at hdE ⊢
 obtain ⟨q, hq⟩ : ∃ q, grR r1 r2 = q := ⟨_, rfl⟩
 obtain ⟨s, hs⟩ : ∃ s, grS r1 S1 r2 S2 = s := ⟨_, rfl⟩
 rw [hq, hs] at hss ⊢
 rw [hq] at hq1
 have hq8 := (sh_ax hss).1
 have HQ1 := Lib.hid hq1
 clear hdE
 have RD1 : Hid (∀ k, k < q -> ∀ y a c wz, Pln wz y S1 r1 CH L1 g1 B1 s1 t1 -> KRow wz .i64 a q c s -> Calls Tryz.prog 42 #[.agg y, .slice a q c, .int .i64 (k : Nat)] wz fun e w' => ∃ a' n' c', e = .returned (.tuple #[.slice a' n' c', .int .i64 (exE r1 S1 q s k)]) /\ (exE r1 S1 q s k = 0 -> n' = q /\ KRow w' .i64 a' q c' (exS r1 S1 q s k)) /\ Below wz.heap.size wz w') := Lib.hid (fun k hk y a c wz h hs => rready_any y S1 r1 CH L1 g1 B1 s1 t1 a q c s k wz h hs hk hr1 hq8)
 have RD2 : Hid (∀ k, k < q -> ∀ y a c wz, Pln wz y S2 r2 CH L2 g2 B2 s2 t2 -> KRow wz .i64 a q c s -> Calls Tryz.prog 42 #[.agg y, .slice a q c, .int .i64 (k : Nat)] wz fun e w' => ∃ a' n' c', e = .returned (.tuple #[.slice a' n' c', .int .i64 (exE r2 S2 q s k)]) /\ (exE r2 S2 q s k = 0 -> n' = q /\ KRow w' .i64 a' q c' (exS r2 S2 q s k)) /\ Below wz.heap.size wz w') := Lib.hid (fun k hk y a c wz h hs => rready_any y S2 r2 CH L2 g2 B2 s2 t2 a q c s k wz h hs hk hr2 hq8)
 obtain ⟨KK, hKK⟩ : ∃ k : Nat, (caK q i).toNat = k := ⟨_, rfl⟩
 rw [hKK]
 obtain ⟨T, hT⟩ : ∃ f, wiF s (KK : Nat) (exN r1 S1 q KK + exN r2 S2 q KK) = f := ⟨_, rfl⟩
 rw [hT]
 obtain ⟨M, hM⟩ : ∃ n, (itm T q).toNat = n := ⟨_, rfl⟩
 rw [hM]
 obtain ⟨N1, hN1⟩ : ∃ n, jnN r1 S1 q s KK = n := ⟨_, rfl⟩
 obtain ⟨N2, hN2⟩ : ∃ n, jnN r2 S2 q s KK = n := ⟨_, rfl⟩
 rw [hN1, hN2]
 obtain ⟨E, hE⟩ : ∃ E, (if KB = false then 22 else if ((q : Nat) : Int) <= caK q i then 23 else if exE r1 S1 q s KK = 0 then (if exE r2 S2 q s KK = 0 then pkE T q else exE r2 S2 q s KK) else exE r1 S1 q s KK : Int) = E := ⟨_, rfl⟩
 rw [hE]
 have h10 : r1 = 0 -> L1 = 1 := fun e => by subst e; have : itm S1 0 = 1 := rfl; omega
 have h20 : r2 = 0 -> L2 = 1 := fun e => by subst e; have : itm S2 0 = 1 := rfl; omega
 have LD : Hid (∀ k : Nat, caK q i = (k : Nat) -> k < q -> KB = true -> exE r1 S1 q s k = 0 -> exE r2 S2 q s k = 0 -> ∀ y1 y2 aX cX aY cY wz, Pln wz y1 S1 r1 CH L1 g1 B1 s1 t1 -> Pln wz y2 S2 r2 CH L2 g2 B2 s2 t2 -> KRow wz .i64 aX q cX (exS r1 S1 q s k) -> KRow wz .i64 aY q cY (exS r2 S2 q s k) ->
     Calls Tryz.prog 43 #[.agg y1, .agg y2, .slice aX q cX, .slice aY q cY, .int .i64 (k : Nat)] wz fun e w' => PoTold E T q CH M (wvF N1 N2 (fun j => elC L1 g1 32 (exG r1 j)) (fun j => elC L2 g2 32 (exG r2 j))) (wvF N1 N2 (fun j => elB L1 B1 (exG r1 j)) (fun j => elB L2 B2 (exG r2 j))) (wvF N1 N2 (fun j => elS L1 s1 (rS 0) (exG r1 j)) (fun j => elS L2 s2 (rS 0) (exG r2 j))) (wvF N1 N2 (fun j => elS L1 t1 (str (dec 1)) (exG r1 j)) (fun j => elS L2 t2 (str (dec 1)) (exG r2 j))) wz w' e) := Lib.hid (fun k hk hkq hkb e1 e2 y1 y2 aX cX aY cY wz p1 p2 kx ky => by
  have hkk : KK = k := by rw [← hKK, hk]; rfl
  subst hkk
  obtain ⟨b1, b2, b3, b4⟩ := ex_sh hkq hss hsh1 e1
  obtain ⟨c1, c2, c3, c4⟩ := ex_sh hkq hss hsh2 e2
  have st : 0 <= stF s q KK := (ax_bd (ax_shf (KK + 1) (sh_ax hss).2 (q - (KK + 1)) (by omega))).2.2.1
  have est : ∀ v, stF (wiF s (KK : Nat) v) q KK = stF s q KK := fun v => itm_congr (fun j _ => wi_off (s := s) (j := KK + 1 + j) v (by omega))
  have n1 : (N1 : Int) = exN r1 S1 q KK * stF s q KK := by rw [← hN1]; unfold jnN; exact Int.toNat_of_nonneg (Int.mul_nonneg b2 st)
  have n2 : (N2 : Int) = exN r2 S2 q KK * stF s q KK := by rw [← hN2]; unfold jnN; exact Int.toNat_of_nonneg (Int.mul_nonneg c2 st)
  have hb := rlaid_any y1 S1 r1 CH L1 g1 B1 s1 t1 y2 S2 r2 L2 g2 B2 s2 t2 aX q cX (exS r1 S1 q s KK) aY cY (exS r2 S2 q s KK) KK N1 N2 wz p1 p2 kx ky b1 c1 hkq (fun a ha hak => by unfold exS; rw [wi_off _ hak, wi_off _ hak]) (by unfold exS; rw [wi_at, est]; exact n1) (by unfold exS; rw [wi_at, est]; exact n2) h10 (fun e => (b4 e).trans hc1) h20 (fun e => (c4 e).trans hc2) (by omega) (by omega)
  have eT : wiF (exS r1 S1 q s KK) (KK : Nat) (exS r1 S1 q s KK KK + exS r2 S2 q s KK KK) = T := by rw [← hT]; unfold exS; rw [wi_wi, wi_at, wi_at]
  have eE : pkE T q = E := by
   rw [← hE, if_neg (by rw [hkb]; decide), if_neg (by rw [hk]; omega), if_pos e1, if_pos e2]
  rw [eT, eE, hM] at hb
  exact hb)
 have HF1 : Hid (KB = true -> ∀ k : Nat, caK q i = (k : Nat) -> k < q -> exE r1 S1 q s k ≠ 0 -> E = exE r1 S1 q s k) := Lib.hid (fun hkb k hk hkq e1 => by
  have hkk : KK = k := by rw [← hKK, hk]; rfl
  subst hkk
  rw [← hE, if_neg (by rw [hkb]; decide), if_neg (by rw [hk]; omega), if_neg e1])
 have HF2 : Hid (KB = true -> ∀ k : Nat, caK q i = (k : Nat) -> k < q -> exE r1 S1 q s k = 0 -> exE r2 S2 q s k ≠ 0 -> E = exE r2 S2 q s k) := Lib.hid (fun hkb k hk hkq e1 e2 => by
  have hkk : KK = k := by rw [← hKK, hk]; rfl
  subst hkk
  rw [← hE, if_neg (by rw [hkb]; decide), if_neg (by rw [hk]; omega), if_pos e1, if_neg e2])
 have HF23 : Hid (KB = true -> 0 <= i -> (q : Int) <= i -> E = 23) := Lib.hid (fun hkb h0 h => by
  rw [← hE, if_neg (by rw [hkb]; decide), if_pos]
  unfold caK
  rw [if_neg (by omega)]
  exact h)
 have HF22 : Hid (KB = false -> E = 22) := Lib.hid (fun hkb => by rw [← hE, if_pos hkb])
 have HGR := Lib.hid (And.intro hq hs)
 clear hE hN1 hN2 hM hT hKK h10 h20 hss hsh1 hsh2 hc1 hc2 hq hs
 obtain ⟨eC, heC⟩ : ∃ f, (wvF N1 N2 (fun j => elC L1 g1 32 (exG r1 j)) (fun j => elC L2 g2 32 (exG r2 j))) = f := ⟨_, rfl⟩
 obtain ⟨eB, heB⟩ : ∃ f, (wvF N1 N2 (fun j => elB L1 B1 (exG r1 j)) (fun j => elB L2 B2 (exG r2 j))) = f := ⟨_, rfl⟩
 obtain ⟨eS, heS⟩ : ∃ f, (wvF N1 N2 (fun j => elS L1 s1 (rS 0) (exG r1 j)) (fun j => elS L2 s2 (rS 0) (exG r2 j))) = f := ⟨_, rfl⟩
 obtain ⟨eT, heT⟩ : ∃ f, (wvF N1 N2 (fun j => elS L1 t1 (str (dec 1)) (exG r1 j)) (fun j => elS L2 t2 (str (dec 1)) (exG r2 j))) = f := ⟨_, rfl⟩
 rw [heC, heB, heS, heT] at LD ⊢
 clear heC heB heS heT
 unfold plZer at BB
 unfold plC at BB HR1 HR2
 unfold plC at KN
 unfold plC
 go_enter Tryz.func12, Tryz.ntmps12
 go_wp2_with fail
 generalize hW : (((w.alloc (.cells _ 26)).alloc (.cells _ 26)).alloc (.cells _ 26)) = YY at *
 clear hW
 go_wp2_with (first
  | (refine ld_pln rfl (.tmp 3) rfl w.heap.size rfl HR1.out ?_)
  | (refine ld_pln rfl (.tmp 4) rfl (w.heap.size + 1) rfl HR2.out ?_))
 go_at_call 41
 (refine (KN.out _ (H1.out.below BB.out.below) (H2.out.below BB.out.below)).mono ?_)
 rintro e w2 ⟨y1, y2, rfl, i1, i2, hyy, hb2⟩
 have B2 := BB.out.go hb2
 have HZ1 := Lib.hid B2.now.1
 have HZ2 := Lib.hid (B2.now.2.1.puto (k := w.heap.size) (by omega) y1)
 have G1 := Lib.hid ((B2.now.1.put y1).puto (k := w.heap.size + 1) (by omega) y2)
 have G2 := Lib.hid ((B2.now.2.1.puto (k := w.heap.size) (by omega) y1).put y2)
 have G3 := Lib.hid ((B2.now.2.2.1.puto (k := w.heap.size) (by omega) y1).puto (k := w.heap.size + 1) (by omega) y2)
 have G4 := Lib.hid (below_put (below_put B2.below (Nat.le_refl _) y1) (show w.heap.size <= w.heap.size + 1 by omega) y2)
 have G5 := Lib.hid (fun e => ((hyy e).1.store B2.now.1 ⟨_, _, _, _, _, _, _, _, _, _, rfl⟩ y1).store (B2.now.2.1.puto (k := w.heap.size) (by omega) y1) ⟨_, _, _, _, _, _, _, _, _, _, rfl⟩ y2)
 have G6 := Lib.hid (fun e => ((hyy e).2.store B2.now.1 ⟨_, _, _, _, _, _, _, _, _, _, rfl⟩ y1).store (B2.now.2.1.puto (k := w.heap.size) (by omega) y1) ⟨_, _, _, _, _, _, _, _, _, _, rfl⟩ y2)
 have I1 := Lib.hid i1
 have I2 := Lib.hid i2
 have HC1 : Hid (IsP #[.slice sa1 r1 sc1, .bool ch1, .slice ta1 (tnO ch1 L1) tc1, .slice na1 (nnO ch1 L1) nc1]) := Lib.hid ⟨_, _, _, _, _, _, _, _, _, _, rfl⟩
 have HC2 : Hid (IsP #[.slice sa2 r2 sc2, .bool ch2, .slice ta2 (tnO ch2 L2) tc2, .slice na2 (nnO ch2 L2) nc2]) := Lib.hid ⟨_, _, _, _, _, _, _, _, _, _, rfl⟩
 clear hb2 B2 HR1 HR2 BB KN H1 H2
 cases KB with
 | false =>
  clear hyy i1 i2
  obtain rfl := HF22.out rfl
  have HE := Lib.hid (PoTold.no (S := T) (r := q) (ch := CH) (L := M) (g := eC) (fB := eB) (fS := eS) (fT := eT) (E := 22) (by decide) (below_put G4.out (show w.heap.size <= w.heap.size + 1 + 1 by omega) plZer))
  go_wp2_with (first
   | (refine stPw rfl (.tmp 3) (.tmp 18) rfl (w.heap.size) rfl y1 rfl I1.out HZ1.out HC1.out ?_)
   | (refine stPw rfl (.tmp 4) (.tmp 19) rfl (w.heap.size + 1) rfl y2 rfl I2.out HZ2.out HC2.out ?_)
   | (refine st_pln rfl (.tmp 6) (.tmp 23) rfl (w.heap.size + 1 + 1) rfl none 0 0 false none 0 0 none 0 0 rfl G3.out rfl ?_))
  exact bodyPost_ret (res_pln2 Tryz.results12 rfl rfl (G3.out.put _) rfl) rfl HE.out
 | true =>
  obtain ⟨va1, vc1, vt1, vtc1, vn1, vnc1, hv1, hvk1⟩ := (hyy rfl).1.form
  subst hv1
  obtain ⟨va2, vc2, vt2, vtc2, vn2, vnc2, hv2, hvk2⟩ := (hyy rfl).2.form
  subst hv2
  have BC0 := Lib.hid (show Bag w (fun y => Row y w.heap.size 26 (plC va1 r1 vc1 CH vt1 (tnO CH L1) vtc1 vn1 (nnO CH L1) vnc1) /\ Row y (w.heap.size + 1) 26 (plC va2 r2 vc2 CH vt2 (tnO CH L2) vtc2 vn2 (nnO CH L2) vnc2) /\ Row y (w.heap.size + 1 + 1) 26 plZer /\ Pln y (plC va1 r1 vc1 CH vt1 (tnO CH L1) vtc1 vn1 (nnO CH L1) vnc1) S1 r1 CH L1 g1 B1 s1 t1 /\ Pln y (plC va2 r2 vc2 CH vt2 (tnO CH L2) vtc2 vn2 (nnO CH L2) vnc2) S2 r2 CH L2 g2 B2 s2 t2) ((w2.setRow w.heap.size (plC va1 r1 vc1 CH vt1 (tnO CH L1) vtc1 vn1 (nnO CH L1) vnc1)).setRow (w.heap.size + 1) (plC va2 r2 vc2 CH vt2 (tnO CH L2) vtc2 vn2 (nnO CH L2) vnc2)) from ⟨G4.out, (fun a b hb ⟨q1, q2, q3, q4, q5⟩ => ⟨q1.below hb, q2.below hb, q3.below hb, q4.below hb, q5.below hb⟩), G1.out, G2.out, G3.out, G5.out rfl, G6.out rfl⟩)
  obtain ⟨va1', vc1', vt1', vtc1', vn1', vnc1', hv1, hvk1⟩ := BC0.out.now.2.2.2.1.form
  unfold plC at hv1
  cases hv1
  obtain ⟨va2', vc2', vt2', vtc2', vn2', vnc2', hv2, hvk2⟩ := BC0.out.now.2.2.2.2.form
  unfold plC at hv2
  cases hv2
  clear G1 G2 G3 G4 G5 G6 hyy i1 i2
  have z1 : ((w2.setRow w.heap.size (plC va1 r1 vc1 CH vt1 (tnO CH L1) vtc1 vn1 (nnO CH L1) vnc1)).setRow (w.heap.size + 1) (plC va2 r2 vc2 CH vt2 (tnO CH L2) vtc2 vn2 (nnO CH L2) vnc2)).cell? ⟨w.heap.size, 0, none⟩ = some (.slice va1 r1 vc1) := BC0.out.now.1.cell 0
  have z2 : ((w2.setRow w.heap.size (plC va1 r1 vc1 CH vt1 (tnO CH L1) vtc1 vn1 (nnO CH L1) vnc1)).setRow (w.heap.size + 1) (plC va2 r2 vc2 CH vt2 (tnO CH L2) vtc2 vn2 (nnO CH L2) vnc2)).cell? ⟨w.heap.size + 1, 0, none⟩ = some (.slice va2 r2 vc2) := BC0.out.now.2.1.cell 0
  have HV1 := Lib.hid hvk1
  have HV2 := Lib.hid hvk2
  have hl1 := hvk1.len
  have hl2 := hvk2.len
  have w1 := IntWalk.i64_in ((q : Int) - 1) (by omega)
  clear hvk1 hvk2
  have HQQ := HGR.out.1
  have HSS := HGR.out.2
  clear HGR
  unfold grR at HQQ
  unfold grS at HSS
  by_cases hlt : r1 < r2
  · rw [if_pos hlt] at HQQ HSS
    have d0 : (r1 : Int) < (r2 : Int) := by omega
    have d5 : ((r2 : Int) == 0) = false := beq_eq_false_iff_ne.2 (by omega)
    have BC := Lib.hid (BC0.out.krow HV2.out)
    subst HQQ
    subst HSS
    clear BC0 HV1 HV2 hlt
    by_cases hin : i < 0
    · obtain ⟨k, hk⟩ : ∃ k : Nat, k + 1 = r2 := ⟨r2 - 1, by have := HQ1.out; omega⟩
      have hkq : k < r2 := by omega
      have hck : caK r2 i = (k : Nat) := by unfold caK; rw [if_pos hin]; omega
      have ek : ((r2 : Nat) : Int) - 1 = ((k : Nat) : Int) := by omega
      have d1 : ¬ ((r2 : Nat) : Int) <= ((k : Nat) : Int) := by omega
      have d2 : ((k : Nat) : Int) < ((r2 : Nat) : Int) := by omega
      clear hk
      have EK1 := Lib.hid (RD1.out k hkq)
      have EK2 := Lib.hid (RD2.out k hkq)
      have LK := Lib.hid (LD.out k hck hkq rfl)
      have HA1 := Lib.hid (HF1.out rfl k hck hkq)
      have HA2 := Lib.hid (HF2.out rfl k hck hkq)
      obtain ⟨E1, hE1⟩ : ∃ E, exE r1 S1 r2 S2 k = E := ⟨_, rfl⟩
      obtain ⟨E2, hE2⟩ : ∃ E, exE r2 S2 r2 S2 k = E := ⟨_, rfl⟩
      obtain ⟨X1, hX1⟩ : ∃ f, exS r1 S1 r2 S2 k = f := ⟨_, rfl⟩
      obtain ⟨X2, hX2⟩ : ∃ f, exS r2 S2 r2 S2 k = f := ⟨_, rfl⟩
      rw [hE1, hX1] at EK1
      rw [hE2, hX2] at EK2
      rw [hE1, hE2, hX1, hX2] at LK
      rw [hE1] at HA1
      rw [hE1, hE2] at HA2
      clear RD1 RD2 LD HF1 HF2 HF23 HF22 hck hE1 hE2 hX1 hX2
      have HR1 := Lib.hid BC.out.now.2.1
      have HP1 := Lib.hid BC.out.now.2.2.2.2.1
      have HS := Lib.hid BC.out.now.1
      go_wp2_with (first
       | (refine stPw rfl (.tmp 3) (.tmp 18) rfl (w.heap.size) rfl _ rfl I1.out HZ1.out HC1.out ?_)
       | (refine stPw rfl (.tmp 4) (.tmp 19) rfl (w.heap.size + 1) rfl _ rfl I2.out HZ2.out HC2.out ?_)
       | (refine ld_pln rfl (.tmp 3) rfl (w.heap.size) rfl HR1.out ?_))
      go_at_call 42
      (refine (EK1.out _ _ _ _ HP1.out HS.out).mono ?_)
      rintro e w4 ⟨a4, n4, c4, rfl, hk4, hb4⟩
      have BC := Lib.hid (BC.out.go hb4)
      by_cases h0 : E1 = 0
      · obtain ⟨hn4, hk4b⟩ := hk4 h0
        have hn4 := hn4.symm
        subst hn4
        subst h0
        have BC := Lib.hid (BC.out.krow hk4b)
        clear hk4 hk4b hb4 HR1 HP1 HS HA1
        have HR2 := Lib.hid BC.out.now.2.2.2.1
        have HP2 := Lib.hid BC.out.now.2.2.2.2.2.2
        have HS := Lib.hid BC.out.now.2.1
        go_wp2_with (refine ld_pln rfl (.tmp 4) rfl (w.heap.size + 1) rfl HR2.out ?_)
        go_at_call 42
        (refine (EK2.out _ _ _ _ HP2.out HS.out).mono ?_)
        rintro e w5 ⟨a5, n5, c5, rfl, hk5, hb5⟩
        have BC := Lib.hid (BC.out.go hb5)
        by_cases h1 : E2 = 0
        · obtain ⟨hn5, hk5b⟩ := hk5 h1
          have hn5 := hn5.symm
          subst hn5
          subst h1
          have BC := Lib.hid (BC.out.krow hk5b)
          clear hk5 hk5b hb5 HR2 HP2 HS HA2
          have HR1 := Lib.hid BC.out.now.2.2.2.1
          have HR2 := Lib.hid BC.out.now.2.2.2.2.1
          have HP1 := Lib.hid BC.out.now.2.2.2.2.2.2.1
          have HP2 := Lib.hid BC.out.now.2.2.2.2.2.2.2
          have HX1 := Lib.hid BC.out.now.2.1
          have HX2 := Lib.hid BC.out.now.1
          go_wp2_with (first
           | (refine ld_pln rfl (.tmp 3) rfl (w.heap.size) rfl HR1.out ?_)
           | (refine ld_pln rfl (.tmp 4) rfl (w.heap.size + 1) rfl HR2.out ?_))
          go_at_call 43
          (refine (LK.out trivial trivial _ _ _ _ _ _ _ HP1.out HP2.out HX1.out HX2.out).mono ?_)
          rintro e w6 hpo
          obtain ⟨x6, rfl, hi6, hp6, hn6, hb6⟩ := hpo.res2
          have BC := Lib.hid (BC.out.go hb6)
          have HZ := Lib.hid BC.out.now.2.2.2.2.2.1
          have HE := Lib.hid (PoTold.put2 hp6 hn6 HZ.out IsP.zer BC.out.below (show w.heap.size <= w.heap.size + 1 + 1 by omega))
          have I6 := Lib.hid hi6
          clear hpo hi6 hp6 hn6 hb6
          go_wp2_with (refine stPw rfl (.tmp 6) (.tmp 76) rfl (w.heap.size + 1 + 1) rfl x6 rfl I6.out HZ.out IsP.zer ?_)
          exact bodyPost_ret (res_pln2 Tryz.results12 rfl rfl (HZ.out.put _) I6.out.size) rfl HE.out
        · have dE : (E2 != 0) = true := bne_iff_ne.2 h1
          have HZ := Lib.hid BC.out.now.2.2.2.2.1
          obtain rfl := HA2.out trivial h1
          have HE := Lib.hid (PoTold.no (S := T) (r := r2) (ch := CH) (L := M) (g := eC) (fB := eB) (fS := eS) (fT := eT) h1 (below_put BC.out.below (show w.heap.size <= w.heap.size + 1 + 1 by omega) plZer))
          clear hk5 hb5 h1 LK HA2
          go_wp2_with (refine st_pln rfl (.tmp 6) (.tmp 68) rfl (w.heap.size + 1 + 1) rfl none 0 0 false none 0 0 none 0 0 rfl HZ.out rfl ?_)
          exact bodyPost_ret (res_pln2 Tryz.results12 rfl rfl (HZ.out.put _) rfl) rfl HE.out
      · have dE : (E1 != 0) = true := bne_iff_ne.2 h0
        have HZ := Lib.hid BC.out.now.2.2.2.1
        obtain rfl := HA1.out h0
        have HE := Lib.hid (PoTold.no (S := T) (r := r2) (ch := CH) (L := M) (g := eC) (fB := eB) (fS := eS) (fT := eT) h0 (below_put BC.out.below (show w.heap.size <= w.heap.size + 1 + 1 by omega) plZer))
        clear hk4 hb4 h0 LK HA1 HA2 EK2
        go_wp2_with (refine st_pln rfl (.tmp 6) (.tmp 57) rfl (w.heap.size + 1 + 1) rfl none 0 0 false none 0 0 none 0 0 rfl HZ.out rfl ?_)
        exact bodyPost_ret (res_pln2 Tryz.results12 rfl rfl (HZ.out.put _) rfl) rfl HE.out
    · by_cases hiq : ((r2 : Nat) : Int) <= i
      · have HZ3 := Lib.hid BC.out.now.2.2.2.1
        obtain rfl := HF23.out rfl (by omega) hiq
        have HE := Lib.hid (PoTold.no (S := T) (r := r2) (ch := CH) (L := M) (g := eC) (fB := eB) (fS := eS) (fT := eT) (E := 23) (by decide) (below_put BC.out.below (show w.heap.size <= w.heap.size + 1 + 1 by omega) plZer))
        clear RD1 RD2 LD HF1 HF2 HF23
        go_wp2_with (first
         | (refine stPw rfl (.tmp 3) (.tmp 18) rfl (w.heap.size) rfl _ rfl I1.out HZ1.out HC1.out ?_)
         | (refine stPw rfl (.tmp 4) (.tmp 19) rfl (w.heap.size + 1) rfl _ rfl I2.out HZ2.out HC2.out ?_)
         | (refine st_pln rfl (.tmp 6) (.tmp 47) rfl (w.heap.size + 1 + 1) rfl none 0 0 false none 0 0 none 0 0 rfl HZ3.out rfl ?_))
        exact bodyPost_ret (res_pln2 Tryz.results12 rfl rfl (HZ3.out.put _) rfl) rfl HE.out
      · obtain ⟨k, rfl⟩ : ∃ k : Nat, i = (k : Nat) := ⟨i.toNat, by omega⟩
        have hkq : k < r2 := by omega
        have hck : caK r2 ((k : Nat) : Int) = (k : Nat) := by unfold caK; rw [if_neg hin]
        have d1 : ¬ ((r2 : Nat) : Int) <= ((k : Nat) : Int) := by omega
        have d2 : ((k : Nat) : Int) < ((r2 : Nat) : Int) := by omega
        have EK1 := Lib.hid (RD1.out k hkq)
        have EK2 := Lib.hid (RD2.out k hkq)
        have LK := Lib.hid (LD.out k hck hkq rfl)
        have HA1 := Lib.hid (HF1.out rfl k hck hkq)
        have HA2 := Lib.hid (HF2.out rfl k hck hkq)
        obtain ⟨E1, hE1⟩ : ∃ E, exE r1 S1 r2 S2 k = E := ⟨_, rfl⟩
        obtain ⟨E2, hE2⟩ : ∃ E, exE r2 S2 r2 S2 k = E := ⟨_, rfl⟩
        obtain ⟨X1, hX1⟩ : ∃ f, exS r1 S1 r2 S2 k = f := ⟨_, rfl⟩
        obtain ⟨X2, hX2⟩ : ∃ f, exS r2 S2 r2 S2 k = f := ⟨_, rfl⟩
        rw [hE1, hX1] at EK1
        rw [hE2, hX2] at EK2
        rw [hE1, hE2, hX1, hX2] at LK
        rw [hE1] at HA1
        rw [hE1, hE2] at HA2
        clear RD1 RD2 LD HF1 HF2 HF23 HF22 hck hE1 hE2 hX1 hX2
        have HR1 := Lib.hid BC.out.now.2.1
        have HP1 := Lib.hid BC.out.now.2.2.2.2.1
        have HS := Lib.hid BC.out.now.1
        go_wp2_with (first
         | (refine stPw rfl (.tmp 3) (.tmp 18) rfl (w.heap.size) rfl _ rfl I1.out HZ1.out HC1.out ?_)
         | (refine stPw rfl (.tmp 4) (.tmp 19) rfl (w.heap.size + 1) rfl _ rfl I2.out HZ2.out HC2.out ?_)
         | (refine ld_pln rfl (.tmp 3) rfl (w.heap.size) rfl HR1.out ?_))
        go_at_call 42
        (refine (EK1.out _ _ _ _ HP1.out HS.out).mono ?_)
        rintro e w4 ⟨a4, n4, c4, rfl, hk4, hb4⟩
        have BC := Lib.hid (BC.out.go hb4)
        by_cases h0 : E1 = 0
        · obtain ⟨hn4, hk4b⟩ := hk4 h0
          have hn4 := hn4.symm
          subst hn4
          subst h0
          have BC := Lib.hid (BC.out.krow hk4b)
          clear hk4 hk4b hb4 HR1 HP1 HS HA1
          have HR2 := Lib.hid BC.out.now.2.2.2.1
          have HP2 := Lib.hid BC.out.now.2.2.2.2.2.2
          have HS := Lib.hid BC.out.now.2.1
          go_wp2_with (refine ld_pln rfl (.tmp 4) rfl (w.heap.size + 1) rfl HR2.out ?_)
          go_at_call 42
          (refine (EK2.out _ _ _ _ HP2.out HS.out).mono ?_)
          rintro e w5 ⟨a5, n5, c5, rfl, hk5, hb5⟩
          have BC := Lib.hid (BC.out.go hb5)
          by_cases h1 : E2 = 0
          · obtain ⟨hn5, hk5b⟩ := hk5 h1
            have hn5 := hn5.symm
            subst hn5
            subst h1
            have BC := Lib.hid (BC.out.krow hk5b)
            clear hk5 hk5b hb5 HR2 HP2 HS HA2
            have HR1 := Lib.hid BC.out.now.2.2.2.1
            have HR2 := Lib.hid BC.out.now.2.2.2.2.1
            have HP1 := Lib.hid BC.out.now.2.2.2.2.2.2.1
            have HP2 := Lib.hid BC.out.now.2.2.2.2.2.2.2
            have HX1 := Lib.hid BC.out.now.2.1
            have HX2 := Lib.hid BC.out.now.1
            go_wp2_with (first
             | (refine ld_pln rfl (.tmp 3) rfl (w.heap.size) rfl HR1.out ?_)
             | (refine ld_pln rfl (.tmp 4) rfl (w.heap.size + 1) rfl HR2.out ?_))
            go_at_call 43
            (refine (LK.out trivial trivial _ _ _ _ _ _ _ HP1.out HP2.out HX1.out HX2.out).mono ?_)
            rintro e w6 hpo
            obtain ⟨x6, rfl, hi6, hp6, hn6, hb6⟩ := hpo.res2
            have BC := Lib.hid (BC.out.go hb6)
            have HZ := Lib.hid BC.out.now.2.2.2.2.2.1
            have HE := Lib.hid (PoTold.put2 hp6 hn6 HZ.out IsP.zer BC.out.below (show w.heap.size <= w.heap.size + 1 + 1 by omega))
            have I6 := Lib.hid hi6
            clear hpo hi6 hp6 hn6 hb6
            go_wp2_with (refine stPw rfl (.tmp 6) (.tmp 76) rfl (w.heap.size + 1 + 1) rfl x6 rfl I6.out HZ.out IsP.zer ?_)
            exact bodyPost_ret (res_pln2 Tryz.results12 rfl rfl (HZ.out.put _) I6.out.size) rfl HE.out
          · have dE : (E2 != 0) = true := bne_iff_ne.2 h1
            have HZ := Lib.hid BC.out.now.2.2.2.2.1
            obtain rfl := HA2.out trivial h1
            have HE := Lib.hid (PoTold.no (S := T) (r := r2) (ch := CH) (L := M) (g := eC) (fB := eB) (fS := eS) (fT := eT) h1 (below_put BC.out.below (show w.heap.size <= w.heap.size + 1 + 1 by omega) plZer))
            clear hk5 hb5 h1 LK HA2
            go_wp2_with (refine st_pln rfl (.tmp 6) (.tmp 68) rfl (w.heap.size + 1 + 1) rfl none 0 0 false none 0 0 none 0 0 rfl HZ.out rfl ?_)
            exact bodyPost_ret (res_pln2 Tryz.results12 rfl rfl (HZ.out.put _) rfl) rfl HE.out
        · have dE : (E1 != 0) = true := bne_iff_ne.2 h0
          have HZ := Lib.hid BC.out.now.2.2.2.1
          obtain rfl := HA1.out h0
          have HE := Lib.hid (PoTold.no (S := T) (r := r2) (ch := CH) (L := M) (g := eC) (fB := eB) (fS := eS) (fT := eT) h0 (below_put BC.out.below (show w.heap.size <= w.heap.size + 1 + 1 by omega) plZer))
          clear hk4 hb4 h0 LK HA1 HA2 EK2
          go_wp2_with (refine st_pln rfl (.tmp 6) (.tmp 57) rfl (w.heap.size + 1 + 1) rfl none 0 0 false none 0 0 none 0 0 rfl HZ.out rfl ?_)
          exact bodyPost_ret (res_pln2 Tryz.results12 rfl rfl (HZ.out.put _) rfl) rfl HE.out
  · rw [if_neg hlt] at HQQ HSS
    have d0 : ¬ (r1 : Int) < (r2 : Int) := by omega
    have d00 : (r2 : Int) <= (r1 : Int) := by omega
    by_cases h0 : 0 < r1
    · rw [if_pos h0] at HQQ HSS
      have d5 : ((r1 : Int) == 0) = false := beq_eq_false_iff_ne.2 (by omega)
      have BC := Lib.hid (BC0.out.krow HV1.out)
      subst HQQ
      subst HSS
      clear BC0 HV1 HV2 hlt h0
      by_cases hin : i < 0
      · obtain ⟨k, hk⟩ : ∃ k : Nat, k + 1 = r1 := ⟨r1 - 1, by have := HQ1.out; omega⟩
        have hkq : k < r1 := by omega
        have hck : caK r1 i = (k : Nat) := by unfold caK; rw [if_pos hin]; omega
        have ek : ((r1 : Nat) : Int) - 1 = ((k : Nat) : Int) := by omega
        have d1 : ¬ ((r1 : Nat) : Int) <= ((k : Nat) : Int) := by omega
        have d2 : ((k : Nat) : Int) < ((r1 : Nat) : Int) := by omega
        clear hk
        have EK1 := Lib.hid (RD1.out k hkq)
        have EK2 := Lib.hid (RD2.out k hkq)
        have LK := Lib.hid (LD.out k hck hkq rfl)
        have HA1 := Lib.hid (HF1.out rfl k hck hkq)
        have HA2 := Lib.hid (HF2.out rfl k hck hkq)
        obtain ⟨E1, hE1⟩ : ∃ E, exE r1 S1 r1 S1 k = E := ⟨_, rfl⟩
        obtain ⟨E2, hE2⟩ : ∃ E, exE r2 S2 r1 S1 k = E := ⟨_, rfl⟩
        obtain ⟨X1, hX1⟩ : ∃ f, exS r1 S1 r1 S1 k = f := ⟨_, rfl⟩
        obtain ⟨X2, hX2⟩ : ∃ f, exS r2 S2 r1 S1 k = f := ⟨_, rfl⟩
        rw [hE1, hX1] at EK1
        rw [hE2, hX2] at EK2
        rw [hE1, hE2, hX1, hX2] at LK
        rw [hE1] at HA1
        rw [hE1, hE2] at HA2
        clear RD1 RD2 LD HF1 HF2 HF23 HF22 hck hE1 hE2 hX1 hX2
        have HR1 := Lib.hid BC.out.now.2.1
        have HP1 := Lib.hid BC.out.now.2.2.2.2.1
        have HS := Lib.hid BC.out.now.1
        go_wp2_with (first
         | (refine stPw rfl (.tmp 3) (.tmp 18) rfl (w.heap.size) rfl _ rfl I1.out HZ1.out HC1.out ?_)
         | (refine stPw rfl (.tmp 4) (.tmp 19) rfl (w.heap.size + 1) rfl _ rfl I2.out HZ2.out HC2.out ?_)
         | (refine ld_pln rfl (.tmp 3) rfl (w.heap.size) rfl HR1.out ?_))
        go_at_call 42
        (refine (EK1.out _ _ _ _ HP1.out HS.out).mono ?_)
        rintro e w4 ⟨a4, n4, c4, rfl, hk4, hb4⟩
        have BC := Lib.hid (BC.out.go hb4)
        by_cases h0 : E1 = 0
        · obtain ⟨hn4, hk4b⟩ := hk4 h0
          have hn4 := hn4.symm
          subst hn4
          subst h0
          have BC := Lib.hid (BC.out.krow hk4b)
          clear hk4 hk4b hb4 HR1 HP1 HS HA1
          have HR2 := Lib.hid BC.out.now.2.2.2.1
          have HP2 := Lib.hid BC.out.now.2.2.2.2.2.2
          have HS := Lib.hid BC.out.now.2.1
          go_wp2_with (refine ld_pln rfl (.tmp 4) rfl (w.heap.size + 1) rfl HR2.out ?_)
          go_at_call 42
          (refine (EK2.out _ _ _ _ HP2.out HS.out).mono ?_)
          rintro e w5 ⟨a5, n5, c5, rfl, hk5, hb5⟩
          have BC := Lib.hid (BC.out.go hb5)
          by_cases h1 : E2 = 0
          · obtain ⟨hn5, hk5b⟩ := hk5 h1
            have hn5 := hn5.symm
            subst hn5
            subst h1
            have BC := Lib.hid (BC.out.krow hk5b)
            clear hk5 hk5b hb5 HR2 HP2 HS HA2
            have HR1 := Lib.hid BC.out.now.2.2.2.1
            have HR2 := Lib.hid BC.out.now.2.2.2.2.1
            have HP1 := Lib.hid BC.out.now.2.2.2.2.2.2.1
            have HP2 := Lib.hid BC.out.now.2.2.2.2.2.2.2
            have HX1 := Lib.hid BC.out.now.2.1
            have HX2 := Lib.hid BC.out.now.1
            go_wp2_with (first
             | (refine ld_pln rfl (.tmp 3) rfl (w.heap.size) rfl HR1.out ?_)
             | (refine ld_pln rfl (.tmp 4) rfl (w.heap.size + 1) rfl HR2.out ?_))
            go_at_call 43
            (refine (LK.out trivial trivial _ _ _ _ _ _ _ HP1.out HP2.out HX1.out HX2.out).mono ?_)
            rintro e w6 hpo
            obtain ⟨x6, rfl, hi6, hp6, hn6, hb6⟩ := hpo.res2
            have BC := Lib.hid (BC.out.go hb6)
            have HZ := Lib.hid BC.out.now.2.2.2.2.2.1
            have HE := Lib.hid (PoTold.put2 hp6 hn6 HZ.out IsP.zer BC.out.below (show w.heap.size <= w.heap.size + 1 + 1 by omega))
            have I6 := Lib.hid hi6
            clear hpo hi6 hp6 hn6 hb6
            go_wp2_with (refine stPw rfl (.tmp 6) (.tmp 76) rfl (w.heap.size + 1 + 1) rfl x6 rfl I6.out HZ.out IsP.zer ?_)
            exact bodyPost_ret (res_pln2 Tryz.results12 rfl rfl (HZ.out.put _) I6.out.size) rfl HE.out
          · have dE : (E2 != 0) = true := bne_iff_ne.2 h1
            have HZ := Lib.hid BC.out.now.2.2.2.2.1
            obtain rfl := HA2.out trivial h1
            have HE := Lib.hid (PoTold.no (S := T) (r := r1) (ch := CH) (L := M) (g := eC) (fB := eB) (fS := eS) (fT := eT) h1 (below_put BC.out.below (show w.heap.size <= w.heap.size + 1 + 1 by omega) plZer))
            clear hk5 hb5 h1 LK HA2
            go_wp2_with (refine st_pln rfl (.tmp 6) (.tmp 68) rfl (w.heap.size + 1 + 1) rfl none 0 0 false none 0 0 none 0 0 rfl HZ.out rfl ?_)
            exact bodyPost_ret (res_pln2 Tryz.results12 rfl rfl (HZ.out.put _) rfl) rfl HE.out
        · have dE : (E1 != 0) = true := bne_iff_ne.2 h0
          have HZ := Lib.hid BC.out.now.2.2.2.1
          obtain rfl := HA1.out h0
          have HE := Lib.hid (PoTold.no (S := T) (r := r1) (ch := CH) (L := M) (g := eC) (fB := eB) (fS := eS) (fT := eT) h0 (below_put BC.out.below (show w.heap.size <= w.heap.size + 1 + 1 by omega) plZer))
          clear hk4 hb4 h0 LK HA1 HA2 EK2
          go_wp2_with (refine st_pln rfl (.tmp 6) (.tmp 57) rfl (w.heap.size + 1 + 1) rfl none 0 0 false none 0 0 none 0 0 rfl HZ.out rfl ?_)
          exact bodyPost_ret (res_pln2 Tryz.results12 rfl rfl (HZ.out.put _) rfl) rfl HE.out
      · by_cases hiq : ((r1 : Nat) : Int) <= i
        · have HZ3 := Lib.hid BC.out.now.2.2.2.1
          obtain rfl := HF23.out rfl (by omega) hiq
          have HE := Lib.hid (PoTold.no (S := T) (r := r1) (ch := CH) (L := M) (g := eC) (fB := eB) (fS := eS) (fT := eT) (E := 23) (by decide) (below_put BC.out.below (show w.heap.size <= w.heap.size + 1 + 1 by omega) plZer))
          clear RD1 RD2 LD HF1 HF2 HF23
          go_wp2_with (first
           | (refine stPw rfl (.tmp 3) (.tmp 18) rfl (w.heap.size) rfl _ rfl I1.out HZ1.out HC1.out ?_)
           | (refine stPw rfl (.tmp 4) (.tmp 19) rfl (w.heap.size + 1) rfl _ rfl I2.out HZ2.out HC2.out ?_)
           | (refine st_pln rfl (.tmp 6) (.tmp 47) rfl (w.heap.size + 1 + 1) rfl none 0 0 false none 0 0 none 0 0 rfl HZ3.out rfl ?_))
          exact bodyPost_ret (res_pln2 Tryz.results12 rfl rfl (HZ3.out.put _) rfl) rfl HE.out
        · obtain ⟨k, rfl⟩ : ∃ k : Nat, i = (k : Nat) := ⟨i.toNat, by omega⟩
          have hkq : k < r1 := by omega
          have hck : caK r1 ((k : Nat) : Int) = (k : Nat) := by unfold caK; rw [if_neg hin]
          have d1 : ¬ ((r1 : Nat) : Int) <= ((k : Nat) : Int) := by omega
          have d2 : ((k : Nat) : Int) < ((r1 : Nat) : Int) := by omega
          have EK1 := Lib.hid (RD1.out k hkq)
          have EK2 := Lib.hid (RD2.out k hkq)
          have LK := Lib.hid (LD.out k hck hkq rfl)
          have HA1 := Lib.hid (HF1.out rfl k hck hkq)
          have HA2 := Lib.hid (HF2.out rfl k hck hkq)
          obtain ⟨E1, hE1⟩ : ∃ E, exE r1 S1 r1 S1 k = E := ⟨_, rfl⟩
          obtain ⟨E2, hE2⟩ : ∃ E, exE r2 S2 r1 S1 k = E := ⟨_, rfl⟩
          obtain ⟨X1, hX1⟩ : ∃ f, exS r1 S1 r1 S1 k = f := ⟨_, rfl⟩
          obtain ⟨X2, hX2⟩ : ∃ f, exS r2 S2 r1 S1 k = f := ⟨_, rfl⟩
          rw [hE1, hX1] at EK1
          rw [hE2, hX2] at EK2
          rw [hE1, hE2, hX1, hX2] at LK
          rw [hE1] at HA1
          rw [hE1, hE2] at HA2
          clear RD1 RD2 LD HF1 HF2 HF23 HF22 hck hE1 hE2 hX1 hX2
          have HR1 := Lib.hid BC.out.now.2.1
          have HP1 := Lib.hid BC.out.now.2.2.2.2.1
          have HS := Lib.hid BC.out.now.1
          go_wp2_with (first
           | (refine stPw rfl (.tmp 3) (.tmp 18) rfl (w.heap.size) rfl _ rfl I1.out HZ1.out HC1.out ?_)
           | (refine stPw rfl (.tmp 4) (.tmp 19) rfl (w.heap.size + 1) rfl _ rfl I2.out HZ2.out HC2.out ?_)
           | (refine ld_pln rfl (.tmp 3) rfl (w.heap.size) rfl HR1.out ?_))
          go_at_call 42
          (refine (EK1.out _ _ _ _ HP1.out HS.out).mono ?_)
          rintro e w4 ⟨a4, n4, c4, rfl, hk4, hb4⟩
          have BC := Lib.hid (BC.out.go hb4)
          by_cases h0 : E1 = 0
          · obtain ⟨hn4, hk4b⟩ := hk4 h0
            have hn4 := hn4.symm
            subst hn4
            subst h0
            have BC := Lib.hid (BC.out.krow hk4b)
            clear hk4 hk4b hb4 HR1 HP1 HS HA1
            have HR2 := Lib.hid BC.out.now.2.2.2.1
            have HP2 := Lib.hid BC.out.now.2.2.2.2.2.2
            have HS := Lib.hid BC.out.now.2.1
            go_wp2_with (refine ld_pln rfl (.tmp 4) rfl (w.heap.size + 1) rfl HR2.out ?_)
            go_at_call 42
            (refine (EK2.out _ _ _ _ HP2.out HS.out).mono ?_)
            rintro e w5 ⟨a5, n5, c5, rfl, hk5, hb5⟩
            have BC := Lib.hid (BC.out.go hb5)
            by_cases h1 : E2 = 0
            · obtain ⟨hn5, hk5b⟩ := hk5 h1
              have hn5 := hn5.symm
              subst hn5
              subst h1
              have BC := Lib.hid (BC.out.krow hk5b)
              clear hk5 hk5b hb5 HR2 HP2 HS HA2
              have HR1 := Lib.hid BC.out.now.2.2.2.1
              have HR2 := Lib.hid BC.out.now.2.2.2.2.1
              have HP1 := Lib.hid BC.out.now.2.2.2.2.2.2.1
              have HP2 := Lib.hid BC.out.now.2.2.2.2.2.2.2
              have HX1 := Lib.hid BC.out.now.2.1
              have HX2 := Lib.hid BC.out.now.1
              go_wp2_with (first
               | (refine ld_pln rfl (.tmp 3) rfl (w.heap.size) rfl HR1.out ?_)
               | (refine ld_pln rfl (.tmp 4) rfl (w.heap.size + 1) rfl HR2.out ?_))
              go_at_call 43
              (refine (LK.out trivial trivial _ _ _ _ _ _ _ HP1.out HP2.out HX1.out HX2.out).mono ?_)
              rintro e w6 hpo
              obtain ⟨x6, rfl, hi6, hp6, hn6, hb6⟩ := hpo.res2
              have BC := Lib.hid (BC.out.go hb6)
              have HZ := Lib.hid BC.out.now.2.2.2.2.2.1
              have HE := Lib.hid (PoTold.put2 hp6 hn6 HZ.out IsP.zer BC.out.below (show w.heap.size <= w.heap.size + 1 + 1 by omega))
              have I6 := Lib.hid hi6
              clear hpo hi6 hp6 hn6 hb6
              go_wp2_with (refine stPw rfl (.tmp 6) (.tmp 76) rfl (w.heap.size + 1 + 1) rfl x6 rfl I6.out HZ.out IsP.zer ?_)
              exact bodyPost_ret (res_pln2 Tryz.results12 rfl rfl (HZ.out.put _) I6.out.size) rfl HE.out
            · have dE : (E2 != 0) = true := bne_iff_ne.2 h1
              have HZ := Lib.hid BC.out.now.2.2.2.2.1
              obtain rfl := HA2.out trivial h1
              have HE := Lib.hid (PoTold.no (S := T) (r := r1) (ch := CH) (L := M) (g := eC) (fB := eB) (fS := eS) (fT := eT) h1 (below_put BC.out.below (show w.heap.size <= w.heap.size + 1 + 1 by omega) plZer))
              clear hk5 hb5 h1 LK HA2
              go_wp2_with (refine st_pln rfl (.tmp 6) (.tmp 68) rfl (w.heap.size + 1 + 1) rfl none 0 0 false none 0 0 none 0 0 rfl HZ.out rfl ?_)
              exact bodyPost_ret (res_pln2 Tryz.results12 rfl rfl (HZ.out.put _) rfl) rfl HE.out
          · have dE : (E1 != 0) = true := bne_iff_ne.2 h0
            have HZ := Lib.hid BC.out.now.2.2.2.1
            obtain rfl := HA1.out h0
            have HE := Lib.hid (PoTold.no (S := T) (r := r1) (ch := CH) (L := M) (g := eC) (fB := eB) (fS := eS) (fT := eT) h0 (below_put BC.out.below (show w.heap.size <= w.heap.size + 1 + 1 by omega) plZer))
            clear hk4 hb4 h0 LK HA1 HA2 EK2
            go_wp2_with (refine st_pln rfl (.tmp 6) (.tmp 57) rfl (w.heap.size + 1 + 1) rfl none 0 0 false none 0 0 none 0 0 rfl HZ.out rfl ?_)
            exact bodyPost_ret (res_pln2 Tryz.results12 rfl rfl (HZ.out.put _) rfl) rfl HE.out
    · rw [if_neg h0] at HQQ HSS
      have d5 : ((r1 : Int) == 0) = true := beq_iff_eq.2 (by omega)
      subst HQQ
      subst HSS
      have hbA : Below ((w2.setRow w.heap.size (plC va1 r1 vc1 CH vt1 (tnO CH L1) vtc1 vn1 (nnO CH L1) vnc1)).setRow (w.heap.size + 1) (plC va2 r2 vc2 CH vt2 (tnO CH L2) vtc2 vn2 (nnO CH L2) vnc2)).heap.size ((w2.setRow w.heap.size (plC va1 r1 vc1 CH vt1 (tnO CH L1) vtc1 vn1 (nnO CH L1) vnc1)).setRow (w.heap.size + 1) (plC va2 r2 vc2 CH vt2 (tnO CH L2) vtc2 vn2 (nnO CH L2) vnc2)) (((w2.setRow w.heap.size (plC va1 r1 vc1 CH vt1 (tnO CH L1) vtc1 vn1 (nnO CH L1) vnc1)).setRow (w.heap.size + 1) (plC va2 r2 vc2 CH vt2 (tnO CH L2) vtc2 vn2 (nnO CH L2) vnc2)).alloc (.cells #[.int .i64 1] 3)) := (Below.refl _ _).alloc (Nat.le_refl _) _
      have e9 : ((w2.setRow w.heap.size (plC va1 r1 vc1 CH vt1 (tnO CH L1) vtc1 vn1 (nnO CH L1) vnc1)).setRow (w.heap.size + 1) (plC va2 r2 vc2 CH vt2 (tnO CH L2) vtc2 vn2 (nnO CH L2) vnc2)).heap.size = w2.heap.size := by simp [World.setRow]
      have ho1 := KRow.one' ((w2.setRow w.heap.size (plC va1 r1 vc1 CH vt1 (tnO CH L1) vtc1 vn1 (nnO CH L1) vnc1)).setRow (w.heap.size + 1) (plC va2 r2 vc2 CH vt2 (tnO CH L2) vtc2 vn2 (nnO CH L2) vnc2)) .i64 1 3
      rw [e9] at ho1
      have BC := Lib.hid ((BC0.out.go hbA).krow ho1)
      clear ho1 e9
      clear BC0 HV1 HV2 hlt h0 hbA
      by_cases hin : i < 0
      · have hkq : 0 < 1 := by omega
        have hck : caK 1 i = ((0 : Nat) : Int) := by unfold caK; rw [if_pos hin]; rfl
        have EK1 := Lib.hid (RD1.out 0 hkq)
        have EK2 := Lib.hid (RD2.out 0 hkq)
        have LK := Lib.hid (LD.out 0 hck hkq rfl)
        have HA1 := Lib.hid (HF1.out rfl 0 hck hkq)
        have HA2 := Lib.hid (HF2.out rfl 0 hck hkq)
        obtain ⟨E1, hE1⟩ : ∃ E, exE r1 S1 1 (fun _ => 1) 0 = E := ⟨_, rfl⟩
        obtain ⟨E2, hE2⟩ : ∃ E, exE r2 S2 1 (fun _ => 1) 0 = E := ⟨_, rfl⟩
        obtain ⟨X1, hX1⟩ : ∃ f, exS r1 S1 1 (fun _ => 1) 0 = f := ⟨_, rfl⟩
        obtain ⟨X2, hX2⟩ : ∃ f, exS r2 S2 1 (fun _ => 1) 0 = f := ⟨_, rfl⟩
        rw [hE1, hX1] at EK1
        rw [hE2, hX2] at EK2
        rw [hE1, hE2, hX1, hX2] at LK
        rw [hE1] at HA1
        rw [hE1, hE2] at HA2
        clear RD1 RD2 LD HF1 HF2 HF23 HF22 hck hE1 hE2 hX1 hX2
        have HR1 := Lib.hid BC.out.now.2.1
        have HP1 := Lib.hid BC.out.now.2.2.2.2.1
        have HS := Lib.hid BC.out.now.1
        go_wp2_with (first
         | (refine stPw rfl (.tmp 3) (.tmp 18) rfl (w.heap.size) rfl _ rfl I1.out HZ1.out HC1.out ?_)
         | (refine stPw rfl (.tmp 4) (.tmp 19) rfl (w.heap.size + 1) rfl _ rfl I2.out HZ2.out HC2.out ?_)
         | (refine ld_pln rfl (.tmp 3) rfl (w.heap.size) rfl HR1.out ?_))
        go_at_call 42
        (refine (EK1.out _ _ _ _ HP1.out HS.out).mono ?_)
        rintro e w4 ⟨a4, n4, c4, rfl, hk4, hb4⟩
        have BC := Lib.hid (BC.out.go hb4)
        by_cases h0 : E1 = 0
        · obtain ⟨hn4, hk4b⟩ := hk4 h0
          have hn4 := hn4.symm
          subst hn4
          subst h0
          have BC := Lib.hid (BC.out.krow hk4b)
          clear hk4 hk4b hb4 HR1 HP1 HS HA1
          have HR2 := Lib.hid BC.out.now.2.2.2.1
          have HP2 := Lib.hid BC.out.now.2.2.2.2.2.2
          have HS := Lib.hid BC.out.now.2.1
          go_wp2_with (refine ld_pln rfl (.tmp 4) rfl (w.heap.size + 1) rfl HR2.out ?_)
          go_at_call 42
          (refine (EK2.out _ _ _ _ HP2.out HS.out).mono ?_)
          rintro e w5 ⟨a5, n5, c5, rfl, hk5, hb5⟩
          have BC := Lib.hid (BC.out.go hb5)
          by_cases h1 : E2 = 0
          · obtain ⟨hn5, hk5b⟩ := hk5 h1
            have hn5 := hn5.symm
            subst hn5
            subst h1
            have BC := Lib.hid (BC.out.krow hk5b)
            clear hk5 hk5b hb5 HR2 HP2 HS HA2
            have HR1 := Lib.hid BC.out.now.2.2.2.1
            have HR2 := Lib.hid BC.out.now.2.2.2.2.1
            have HP1 := Lib.hid BC.out.now.2.2.2.2.2.2.1
            have HP2 := Lib.hid BC.out.now.2.2.2.2.2.2.2
            have HX1 := Lib.hid BC.out.now.2.1
            have HX2 := Lib.hid BC.out.now.1
            go_wp2_with (first
             | (refine ld_pln rfl (.tmp 3) rfl (w.heap.size) rfl HR1.out ?_)
             | (refine ld_pln rfl (.tmp 4) rfl (w.heap.size + 1) rfl HR2.out ?_))
            go_at_call 43
            (refine (LK.out trivial trivial _ _ _ _ _ _ _ HP1.out HP2.out HX1.out HX2.out).mono ?_)
            rintro e w6 hpo
            obtain ⟨x6, rfl, hi6, hp6, hn6, hb6⟩ := hpo.res2
            have BC := Lib.hid (BC.out.go hb6)
            have HZ := Lib.hid BC.out.now.2.2.2.2.2.1
            have HE := Lib.hid (PoTold.put2 hp6 hn6 HZ.out IsP.zer BC.out.below (show w.heap.size <= w.heap.size + 1 + 1 by omega))
            have I6 := Lib.hid hi6
            clear hpo hi6 hp6 hn6 hb6
            go_wp2_with (refine stPw rfl (.tmp 6) (.tmp 76) rfl (w.heap.size + 1 + 1) rfl x6 rfl I6.out HZ.out IsP.zer ?_)
            exact bodyPost_ret (res_pln2 Tryz.results12 rfl rfl (HZ.out.put _) I6.out.size) rfl HE.out
          · have dE : (E2 != 0) = true := bne_iff_ne.2 h1
            have HZ := Lib.hid BC.out.now.2.2.2.2.1
            obtain rfl := HA2.out trivial h1
            have HE := Lib.hid (PoTold.no (S := T) (r := 1) (ch := CH) (L := M) (g := eC) (fB := eB) (fS := eS) (fT := eT) h1 (below_put BC.out.below (show w.heap.size <= w.heap.size + 1 + 1 by omega) plZer))
            clear hk5 hb5 h1 LK HA2
            go_wp2_with (refine st_pln rfl (.tmp 6) (.tmp 68) rfl (w.heap.size + 1 + 1) rfl none 0 0 false none 0 0 none 0 0 rfl HZ.out rfl ?_)
            exact bodyPost_ret (res_pln2 Tryz.results12 rfl rfl (HZ.out.put _) rfl) rfl HE.out
        · have dE : (E1 != 0) = true := bne_iff_ne.2 h0
          have HZ := Lib.hid BC.out.now.2.2.2.1
          obtain rfl := HA1.out h0
          have HE := Lib.hid (PoTold.no (S := T) (r := 1) (ch := CH) (L := M) (g := eC) (fB := eB) (fS := eS) (fT := eT) h0 (below_put BC.out.below (show w.heap.size <= w.heap.size + 1 + 1 by omega) plZer))
          clear hk4 hb4 h0 LK HA1 HA2 EK2
          go_wp2_with (refine st_pln rfl (.tmp 6) (.tmp 57) rfl (w.heap.size + 1 + 1) rfl none 0 0 false none 0 0 none 0 0 rfl HZ.out rfl ?_)
          exact bodyPost_ret (res_pln2 Tryz.results12 rfl rfl (HZ.out.put _) rfl) rfl HE.out
      · by_cases hiq : ((1 : Nat) : Int) <= i
        · have HZ3 := Lib.hid BC.out.now.2.2.2.1
          obtain rfl := HF23.out rfl (by omega) hiq
          have HE := Lib.hid (PoTold.no (S := T) (r := 1) (ch := CH) (L := M) (g := eC) (fB := eB) (fS := eS) (fT := eT) (E := 23) (by decide) (below_put BC.out.below (show w.heap.size <= w.heap.size + 1 + 1 by omega) plZer))
          clear RD1 RD2 LD HF1 HF2 HF23
          have hiq2 : (1 : Int) <= i := hiq
          go_wp2_with (first
           | (refine stPw rfl (.tmp 3) (.tmp 18) rfl (w.heap.size) rfl _ rfl I1.out HZ1.out HC1.out ?_)
           | (refine stPw rfl (.tmp 4) (.tmp 19) rfl (w.heap.size + 1) rfl _ rfl I2.out HZ2.out HC2.out ?_)
           | (refine st_pln rfl (.tmp 6) (.tmp 47) rfl (w.heap.size + 1 + 1) rfl none 0 0 false none 0 0 none 0 0 rfl HZ3.out rfl ?_))
          exact bodyPost_ret (res_pln2 Tryz.results12 rfl rfl (HZ3.out.put _) rfl) rfl HE.out
        · obtain rfl : i = 0 := by omega
          have hkq : 0 < 1 := by omega
          have hck : caK 1 0 = ((0 : Nat) : Int) := by unfold caK; rfl
          have EK1 := Lib.hid (RD1.out 0 hkq)
          have EK2 := Lib.hid (RD2.out 0 hkq)
          have LK := Lib.hid (LD.out 0 hck hkq rfl)
          have HA1 := Lib.hid (HF1.out rfl 0 hck hkq)
          have HA2 := Lib.hid (HF2.out rfl 0 hck hkq)
          obtain ⟨E1, hE1⟩ : ∃ E, exE r1 S1 1 (fun _ => 1) 0 = E := ⟨_, rfl⟩
          obtain ⟨E2, hE2⟩ : ∃ E, exE r2 S2 1 (fun _ => 1) 0 = E := ⟨_, rfl⟩
          obtain ⟨X1, hX1⟩ : ∃ f, exS r1 S1 1 (fun _ => 1) 0 = f := ⟨_, rfl⟩
          obtain ⟨X2, hX2⟩ : ∃ f, exS r2 S2 1 (fun _ => 1) 0 = f := ⟨_, rfl⟩
          rw [hE1, hX1] at EK1
          rw [hE2, hX2] at EK2
          rw [hE1, hE2, hX1, hX2] at LK
          rw [hE1] at HA1
          rw [hE1, hE2] at HA2
          clear RD1 RD2 LD HF1 HF2 HF23 HF22 hck hE1 hE2 hX1 hX2
          have HR1 := Lib.hid BC.out.now.2.1
          have HP1 := Lib.hid BC.out.now.2.2.2.2.1
          have HS := Lib.hid BC.out.now.1
          go_wp2_with (first
           | (refine stPw rfl (.tmp 3) (.tmp 18) rfl (w.heap.size) rfl _ rfl I1.out HZ1.out HC1.out ?_)
           | (refine stPw rfl (.tmp 4) (.tmp 19) rfl (w.heap.size + 1) rfl _ rfl I2.out HZ2.out HC2.out ?_)
           | (refine ld_pln rfl (.tmp 3) rfl (w.heap.size) rfl HR1.out ?_))
          go_at_call 42
          (refine (EK1.out _ _ _ _ HP1.out HS.out).mono ?_)
          rintro e w4 ⟨a4, n4, c4, rfl, hk4, hb4⟩
          have BC := Lib.hid (BC.out.go hb4)
          by_cases h0 : E1 = 0
          · obtain ⟨hn4, hk4b⟩ := hk4 h0
            have hn4 := hn4.symm
            subst hn4
            subst h0
            have BC := Lib.hid (BC.out.krow hk4b)
            clear hk4 hk4b hb4 HR1 HP1 HS HA1
            have HR2 := Lib.hid BC.out.now.2.2.2.1
            have HP2 := Lib.hid BC.out.now.2.2.2.2.2.2
            have HS := Lib.hid BC.out.now.2.1
            go_wp2_with (refine ld_pln rfl (.tmp 4) rfl (w.heap.size + 1) rfl HR2.out ?_)
            go_at_call 42
            (refine (EK2.out _ _ _ _ HP2.out HS.out).mono ?_)
            rintro e w5 ⟨a5, n5, c5, rfl, hk5, hb5⟩
            have BC := Lib.hid (BC.out.go hb5)
            by_cases h1 : E2 = 0
            · obtain ⟨hn5, hk5b⟩ := hk5 h1
              have hn5 := hn5.symm
              subst hn5
              subst h1
              have BC := Lib.hid (BC.out.krow hk5b)
              clear hk5 hk5b hb5 HR2 HP2 HS HA2
              have HR1 := Lib.hid BC.out.now.2.2.2.1
              have HR2 := Lib.hid BC.out.now.2.2.2.2.1
              have HP1 := Lib.hid BC.out.now.2.2.2.2.2.2.1
              have HP2 := Lib.hid BC.out.now.2.2.2.2.2.2.2
              have HX1 := Lib.hid BC.out.now.2.1
              have HX2 := Lib.hid BC.out.now.1
              go_wp2_with (first
               | (refine ld_pln rfl (.tmp 3) rfl (w.heap.size) rfl HR1.out ?_)
               | (refine ld_pln rfl (.tmp 4) rfl (w.heap.size + 1) rfl HR2.out ?_))
              go_at_call 43
              (refine (LK.out trivial trivial _ _ _ _ _ _ _ HP1.out HP2.out HX1.out HX2.out).mono ?_)
              rintro e w6 hpo
              obtain ⟨x6, rfl, hi6, hp6, hn6, hb6⟩ := hpo.res2
              have BC := Lib.hid (BC.out.go hb6)
              have HZ := Lib.hid BC.out.now.2.2.2.2.2.1
              have HE := Lib.hid (PoTold.put2 hp6 hn6 HZ.out IsP.zer BC.out.below (show w.heap.size <= w.heap.size + 1 + 1 by omega))
              have I6 := Lib.hid hi6
              clear hpo hi6 hp6 hn6 hb6
              go_wp2_with (refine stPw rfl (.tmp 6) (.tmp 76) rfl (w.heap.size + 1 + 1) rfl x6 rfl I6.out HZ.out IsP.zer ?_)
              exact bodyPost_ret (res_pln2 Tryz.results12 rfl rfl (HZ.out.put _) I6.out.size) rfl HE.out
            · have dE : (E2 != 0) = true := bne_iff_ne.2 h1
              have HZ := Lib.hid BC.out.now.2.2.2.2.1
              obtain rfl := HA2.out trivial h1
              have HE := Lib.hid (PoTold.no (S := T) (r := 1) (ch := CH) (L := M) (g := eC) (fB := eB) (fS := eS) (fT := eT) h1 (below_put BC.out.below (show w.heap.size <= w.heap.size + 1 + 1 by omega) plZer))
              clear hk5 hb5 h1 LK HA2
              go_wp2_with (refine st_pln rfl (.tmp 6) (.tmp 68) rfl (w.heap.size + 1 + 1) rfl none 0 0 false none 0 0 none 0 0 rfl HZ.out rfl ?_)
              exact bodyPost_ret (res_pln2 Tryz.results12 rfl rfl (HZ.out.put _) rfl) rfl HE.out
          · have dE : (E1 != 0) = true := bne_iff_ne.2 h0
            have HZ := Lib.hid BC.out.now.2.2.2.1
            obtain rfl := HA1.out h0
            have HE := Lib.hid (PoTold.no (S := T) (r := 1) (ch := CH) (L := M) (g := eC) (fB := eB) (fS := eS) (fT := eT) h0 (below_put BC.out.below (show w.heap.size <= w.heap.size + 1 + 1 by omega) plZer))
            clear hk4 hb4 h0 LK HA1 HA2 EK2
            go_wp2_with (refine st_pln rfl (.tmp 6) (.tmp 57) rfl (w.heap.size + 1 + 1) rfl none 0 0 false none 0 0 none 0 0 rfl HZ.out rfl ?_)
            exact bodyPost_ret (res_pln2 Tryz.results12 rfl rfl (HZ.out.put _) rfl) rfl HE.out
end Go.Proofs.YtdlccnmhcggjiaaGreatDoor
namespace Go.Proofs.YtdlccnmhcggjiaaGreatDoor
open Go.ChangeShapes Go.WideShapes Go.ChangeAt Go.RowKit
theorem in64_of {f : Nat -> Int} {n : Nat} (h : ∀ j, j < n -> (Lit.int .i64 (f j)).wf = true) : In64 f n := fun j hj => by
 simpa [Lit.wf, IntKind.min, IntKind.max, IntKind.signed, IntKind.bits] using h j hj
section
variable {H : Type} {enc : TypeId × Value -> H} {P : Program} {w : World} {base : Nat} {spare : Nat -> Bool} {held : Bool}
end
end Go.Proofs.YtdlccnmhcggjiaaGreatDoor
namespace Go.Proofs.YtdlccnmhcggjiaaGreatDoor
open Go.ChangeShapes Go.WideShapes Go.ChangeAt Go.RowKit Go.WideMaps Go.WideElems Go.Deep
theorem cellsNum : Tryz.prog.cellsOf 57 = 3 := by kernel_rfl
theorem cellsBool : Tryz.prog.cellsOf 4 = 1 := by kernel_rfl
theorem cellsStr : Tryz.prog.cellsOf 9 = 1 := by kernel_rfl
end Go.Proofs.YtdlccnmhcggjiaaGreatDoor
namespace Go.Proofs.YtdlccnmhcggjiaaGreatDoor
open Go.ChangeShapes Go.WideShapes Go.ChangeAt Go.RowKit Go.WideMaps Go.WideElems Go.Deep Go.Joins
theorem krow_cells {H : Type} {enc : TypeId × Value -> H} {P : Program} {w : World} {base : Nat} {t e : TypeId} {ki : IntKind} {cs : List Value} {fuel : Nat} {x : DataW H × List MemPlace} (ht : P.underlying t = some (.slice e)) (he : P.underlying e = some (.int ki)) (hc : P.cellsOf e = 1)
    (h : DataW.trod enc P w base (fun _ => true) true fuel t cs = some x) :
    ∃ a n c f, cs = [.slice a n c] /\ KRow w ki a n c f /\ ∀ j, j < n -> (Lit.int ki (f j)).wf = true := by
 rcases open_ints ht he hc h with ⟨hcs, _⟩ | ⟨a, len, cap, zs, hcs, _, hl, hmx, hz, _, hcell, hwz⟩
 · exact ⟨none, 0, 0, fun _ => 0, hcs, ⟨Nat.le_refl _, Nat.zero_le _, .inl rfl⟩, fun j hj => absurd hj (Nat.not_lt_zero _)⟩
 · simp only [if_true] at hz
   refine ⟨some a, len, cap, fun j => zs.getD j 0, hcs, ⟨hl, hmx, ?_⟩, fun j hj => ?_⟩
   · rcases Nat.eq_zero_or_pos len with h0 | h0
     · exact .inl h0
     · obtain ⟨b, off, spot⟩ := a
       have hspot : spot = none := by simpa [Addr.add] using World.cell?_spot (hcell 0 (by omega))
       subst hspot
       have h1 : ∀ j, j < zs.length -> w.cell? ⟨b, off + j, none⟩ = some (.int ki (zs.getD j 0)) := fun j hj => by rw [← add_plain]; exact hcell j hj
       exact .inr ⟨b, off, rfl, World.block_lt_of_cell? w _ (h1 0 (by omega)), fun j hj => h1 j (by omega)⟩
   · refine hwz _ ?_
     have : zs.getD j 0 = zs[j]'(by omega) := by simp [List.getD, show j < zs.length by omega]
     show zs.getD j 0 ∈ zs
     rw [this]
     exact List.getElem_mem _
theorem qrow_cells {H : Type} {enc : TypeId × Value -> H} {w : World} {base : Nat} {cs : List Value} {fuel : Nat} {x : DataW H × List MemPlace}
    (h : DataW.trod enc Tryz.prog w base (fun _ => true) true fuel 24 cs = some x) :
    ∃ a n c fB fS fT, cs = [.slice a n c] /\ QRow w a n c fB fS fT /\ ∀ j, j < n -> (fS j).size <= maxLen /\ (fT j).size <= maxLen := by
 rcases open_slice Tryz.underlying24 h with ⟨hcs, _⟩ | ⟨a, len, cap, m, n, D, Pl, hcs, hb, hl, hm, hmm, rfl, hx⟩
 · exact ⟨none, 0, 0, fun _ => false, fun _ => ⟨#[]⟩, fun _ => ⟨#[]⟩, hcs, QRow.nought _ _ _ (Nat.zero_le _) _ _ _, fun j hj => absurd hj (Nat.not_lt_zero _)⟩
 · simp only [if_true] at hmm
   subst hmm
   obtain ⟨b, off, spot⟩ := a
   rcases Nat.eq_zero_or_pos len with h0 | h0
   · subst h0
     exact ⟨_, 0, _, fun _ => false, fun _ => ⟨#[]⟩, fun _ => ⟨#[]⟩, hcs, QRow.nought _ _ _ hm _ _ _, fun j hj => absurd hj (Nat.not_lt_zero _)⟩
   have each : ∀ i, i < m -> ∃ q : Bool × ByteArray × ByteArray, w.cell? ((⟨b, off, spot⟩ : Addr).add (i * 3)) = some (.bool q.1) /\ w.cell? ((⟨b, off, spot⟩ : Addr).add (i * 3 + 1)) = some (.string q.2.1) /\ w.cell? ((⟨b, off, spot⟩ : Addr).add (i * 3 + 2)) = some (.string q.2.2) /\ q.2.1.size <= maxLen /\ q.2.2.size <= maxLen := by
    intro i hi
    obtain ⟨cs', h1, h2⟩ := hx i hi
    rw [cellsNum] at h1
    obtain ⟨_, hlen, hcell⟩ := World.cells?_some h1
    obtain ⟨y0, y1, y2, k, hxx, _, hy0, hy1, hy2⟩ := trod_struct3 Tryz.underlying57 h2
    match cs', hlen with
    | [c0, c1, c2], _ =>
     obtain ⟨u, e0, rfl⟩ := DataW.trod_bool Tryz.underlying4 hy0
     obtain ⟨s, e1, rfl, hs⟩ := DataW.trod_string Tryz.underlying9 hy1
     obtain ⟨t, e2, rfl, ht⟩ := DataW.trod_string Tryz.underlying9 hy2
     simp [cellsBool] at e0
     simp [cellsStr] at e1 e2
     subst e0 e1 e2
     have g0 := hcell 0 (by omega)
     have g1 := hcell 1 (by omega)
     have g2 := hcell 2 (by omega)
     rw [add_add] at g0 g1 g2
     exact ⟨(u, s, t), by simpa using g0, by simpa using g1, by simpa using g2, hs, ht⟩
   obtain ⟨q, hq⟩ := choose_lt each
   have hspot : spot = none := by simpa [Addr.add] using World.cell?_spot (hq 0 (by omega)).1
   subst hspot
   refine ⟨_, _, _, fun j => (q j).1, fun j => (q j).2.1, fun j => (q j).2.2, hcs, ⟨hl, hm, .inr ⟨b, off, rfl, ?_, fun j hj => ?_⟩⟩, fun j hj => ⟨(hq j (by omega)).2.2.2.1, (hq j (by omega)).2.2.2.2⟩⟩
   · exact World.block_lt_of_cell? w ⟨b, off + 0 * 3, none⟩ (by rw [← add_plain]; exact (hq 0 (by omega)).1)
   · have := hq j (by omega)
     simp only [add_plain] at this
     exact ⟨this.1, this.2.1, this.2.2.1⟩
theorem cellsPln : Tryz.prog.cellsOf 26 = 4 := by kernel_rfl
theorem cellsSlI : Tryz.prog.cellsOf 22 = 1 := by kernel_rfl
theorem cellsSlR : Tryz.prog.cellsOf 23 = 1 := by kernel_rfl
theorem cellsSlN : Tryz.prog.cellsOf 24 = 1 := by kernel_rfl
theorem cellsI : Tryz.prog.cellsOf 3 = 1 := by kernel_rfl
theorem cellsC : Tryz.prog.cellsOf 21 = 1 := by kernel_rfl
theorem open_pln {H : Type} {enc : TypeId × Value -> H} {W : World} {r : Reach} {b0 : Nat} {v0 : Value} {d0 : DataW H} {p0 : List MemPlace}
    (hv : Value.okWide Tryz.prog W r b0 26 v0) (h0 : DataW.Trod enc Tryz.prog W 0 (fun _ => true) true 26 v0 d0 p0) :
    ∃ cs S q ch g tn fB fS fT nn, v0 = .agg cs /\ PlnAt W cs S q ch g tn fB fS fT nn /\ In64 S q /\ ∀ j, j < nn -> (fS j).size <= maxLen /\ (fT j).size <= maxLen := by
 obtain ⟨cs, rfl, hsz⟩ := okWide_struct Tryz.underlying26 hv
 rw [cellsPln] at hsz
 obtain ⟨l⟩ := cs
 match l, hsz with
 | [c0, c1, c2, c3], _ =>
 obtain ⟨fuel, hf⟩ := h0
 obtain ⟨y0, y1, y2, y3, m, hx, _, hy0, hy1, hy2, hy3⟩ := trod_struct4 Tryz.underlying26 hf
 obtain ⟨sa, r, sc, S, e0, k0, w0⟩ := krow_cells (ki := .i64) Tryz.underlying22 Tryz.underlying3 cellsI hy0
 obtain ⟨ch, e1, rfl⟩ := DataW.trod_bool Tryz.underlying4 hy1
 obtain ⟨ta, tn, tc, g, e2, k2, w2⟩ := krow_cells (ki := .i32) Tryz.underlying23 Tryz.underlying21 cellsC hy2
 obtain ⟨na, nn, nc, fB, fS, fT, e3, k3, w3⟩ := qrow_cells hy3
 simp [Value.cells, cellsSlI] at e0
 simp [Value.cells, cellsBool] at e1
 simp [Value.cells, cellsSlR] at e2
 simp [Value.cells, cellsSlN] at e3
 subst e0 e1 e2 e3
 exact ⟨_, S, r, ch, g, tn, fB, fS, fT, nn, rfl, ⟨sa, sc, ta, tc, na, nc, rfl, k0, k2, k3⟩, in64_of w0, w3⟩
end Go.Proofs.YtdlccnmhcggjiaaGreatDoor
