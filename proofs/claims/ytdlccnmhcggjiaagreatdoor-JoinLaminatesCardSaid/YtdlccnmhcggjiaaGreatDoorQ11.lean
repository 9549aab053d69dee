/-
  Texts of this seat, laid together.
-/
import Derived.Laws.EntriesVeiled
import Derived.Shelf.Abstract
import Derived.Deep.QuietTactic
import Derived.BigQuiet
import Derived.Lib.AppendZeros
import Derived.Deep.RegionHeld3
import Derived.StillTailTactics
import Derived.Test.YtdlccnmhcggjiaaGreatDoorQ1
import Derived.Test.YtdlccnmhcggjiaaGreatDoorQ2
import Derived.Test.YtdlccnmhcggjiaaGreatDoorQ3
import Derived.Test.YtdlccnmhcggjiaaGreatDoorQ4
import Derived.Test.YtdlccnmhcggjiaaGreatDoorQ5
import Derived.Test.YtdlccnmhcggjiaaGreatDoorQ6
import Derived.Test.YtdlccnmhcggjiaaGreatDoorQ7
import Derived.Test.YtdlccnmhcggjiaaGreatDoorQ8
import Derived.Test.YtdlccnmhcggjiaaGreatDoorQ9
import Derived.Test.YtdlccnmhcggjiaaGreatDoorQ10
set_option maxHeartbeats 12800000
set_option maxRecDepth 100000
set_option linter.unusedSimpArgs false
set_option linter.unusedVariables false
namespace Go.Proofs.YtdlccnmhcggjiaaGreatDoor
open Go.RowKit
attribute [local go_sem ↓] Go.wp_at_zero Go.wp_at_succ
theorem IsP.one {cs : Array Value} (h : IsP cs) : cs.all (·.oneCell') = true := by
 obtain ⟨_, _, _, _, _, _, _, _, _, _, rfl⟩ := h
 exact plC_one _ _ _ _ _ _ _ _ _ _
theorem stP {o : Oper} {a : Act} {w : World} {K : Act -> World -> Prop} {Q : Exit -> Act -> World -> Prop} (d s : Nat) (ho : o.op = .store 26 (.tmp d) (.tmp s)) (g : Nat) (cs : Array Value) (hd : a.tmps[d]? = some (.pointer (some ⟨g, 0, none⟩))) (hs : a.tmps[s]? = some (.agg cs)) (t : TypeId) (z : Array Value) (hr : Row w g t z) (hz : IsP z) (hc : IsP cs)
    (hK : K (a.put o.dst undef) (w.setRow g cs)) : o.wp Tryz.prog a w K Q :=
 wp_store_row 26 (.tmp d) (.tmp s) ho g cs (ev_tmp hd) (ev_tmp hs) t z hr (by rw [pln4, hc.size]) (by rw [hz.size, hc.size]) hc.one hK
theorem res_pln3 {fn : Func} {p q s : Tmp} {tmps : Array Value} {w : World} {g g2 : Nat} {cs cs2 : Array Value} {v : Value} (h : fn.results = #[.cell p 26, .cell q 26, .tmp s]) (hp : tmps.getD p undef = .pointer (some ⟨g, 0, none⟩)) (hq : tmps.getD q undef = .pointer (some ⟨g2, 0, none⟩)) (hs : tmps.getD s undef = v) (hg : Row w g 26 cs) (hg2 : Row w g2 26 cs2) (h1 : cs.size = 4) (h2 : cs2.size = 4) :
    (results fn tmps).run Tryz.prog w = .ok (.tuple #[.agg cs, .agg cs2, v]) w := by
 have hp' : tmps[p]?.getD undef = .pointer (some ⟨g, 0, none⟩) := by simpa using hp
 have hq' : tmps[q]?.getD undef = .pointer (some ⟨g2, 0, none⟩) := by simpa using hq
 have hs' : tmps[s]?.getD undef = v := by simpa using hs
 simp [results, h, hp', hq', hs', asAddr, run_loadVar_row w g _ _ cs (0, 0) _ hg Tryz.underlying26 rfl (by rw [pln4, h1]), run_loadVar_row w g2 _ _ cs2 (0, 0) _ hg2 Tryz.underlying26 rfl (by rw [pln4, h2])]
theorem Pln.bare {w : World} {sa : Option Addr} {r sc : Nat} {ch : Bool} {ta : Option Addr} {tc : Nat} {na : Option Addr} {nc : Nat} {S : Nat -> Int} {g : Nat -> Int} {fB : Nat -> Bool} {fS fT : Nat -> ByteArray} {L : Nat} (h : Pln w (plC sa r sc ch ta (tnO ch L) tc na (nnO ch L) nc) S r ch L g fB fS fT) (ch' : Bool) : Pln w (plC sa r sc ch' none 0 0 none 0 0) S r ch' 0 g fB fS fT := by
 obtain ⟨sa', sc', ta', tc', na', nc', e, h1, _⟩ := h
 unfold plC at e
 cases e
 have e1 : tnO ch' 0 = 0 := by unfold tnO; cases ch' <;> rfl
 have e2 : nnO ch' 0 = 0 := by unfold nnO; cases ch' <;> rfl
 refine ⟨sa, sc, none, 0, none, 0, by rw [e1, e2], h1, ?_, ?_⟩
 · rw [e1]; exact KRow.nought _ _ _ _ (Nat.zero_le _) _
 · rw [e2]; exact QRow.nought _ _ _ (Nat.zero_le _) _ _ _
theorem tn_nnJ (ch : Bool) (L : Nat) : tnO ch L + nnO ch L = L := by unfold tnO nnO; cases ch <;> simp
theorem Pln.lenJ {cs : Array Value} {S : Nat -> Int} {r : Nat} {ch : Bool} {L : Nat} {g : Nat -> Int} {fB : Nat -> Bool} {fS fT : Nat -> ByteArray} (wz : World) (h : Pln wz cs S r ch L g fB fS fT) (hL : L <= 1000000) :
    Calls Tryz.prog 50 #[.agg cs] wz fun e w' => e = .returned (.int .i64 (L : Nat)) /\ Below wz.heap.size wz w' := by
 have := r6Len_any cs S r ch g (tnO ch L) fB fS fT (nnO ch L) wz h (by have := nnO_le ch L; omega) (by have := nnO_le ch L; omega)
 rw [tn_nnJ] at this
 exact this
def KdP (k1 k2 k3 k4 : Nat) (c1 c2 : Array Value) (y : World) : Prop := Row y k1 26 c1 /\ Row y k2 26 c2 /\ (∃ z, Row y k3 26 z /\ IsP z) /\ ∃ z, Row y k4 26 z /\ IsP z
theorem KdP.stay {k1 k2 k3 k4 : Nat} {c1 c2 : Array Value} : ∀ a b, Below a.heap.size a b -> KdP k1 k2 k3 k4 c1 c2 a -> KdP k1 k2 k3 k4 c1 c2 b := by
 rintro a b hb ⟨h1, h2, ⟨z3, h3, i3⟩, z4, h4, i4⟩
 exact ⟨h1.below hb, h2.below hb, ⟨z3, h3.below hb, i3⟩, z4, h4.below hb, i4⟩
theorem KdP.put3 {w y : World} {k1 k2 k3 k4 : Nat} {c1 c2 : Array Value} (h : Bag w (KdP k1 k2 k3 k4 c1 c2) y) (n1 : k1 ≠ k3) (n2 : k2 ≠ k3) (n4 : k4 ≠ k3) (hw : w.heap.size <= k3) (cs : Array Value) (hc : IsP cs) : Bag w (KdP k1 k2 k3 k4 c1 c2) (y.setRow k3 cs) := by
 obtain ⟨h1, h2, ⟨z3, h3, i3⟩, z4, h4, i4⟩ := h.now
 exact ⟨below_put h.below hw _, KdP.stay, h1.puto n1 _, h2.puto n2 _, ⟨_, h3.put _, hc⟩, z4, h4.puto n4 _, i4⟩
theorem KdP.put4 {w y : World} {k1 k2 k3 k4 : Nat} {c1 c2 : Array Value} (h : Bag w (KdP k1 k2 k3 k4 c1 c2) y) (n1 : k1 ≠ k4) (n2 : k2 ≠ k4) (n3 : k3 ≠ k4) (hw : w.heap.size <= k4) (cs : Array Value) (hc : IsP cs) : Bag w (KdP k1 k2 k3 k4 c1 c2) (y.setRow k4 cs) := by
 obtain ⟨h1, h2, ⟨z3, h3, i3⟩, z4, h4, i4⟩ := h.now
 exact ⟨below_put h.below hw _, KdP.stay, h1.puto n1 _, h2.puto n2 _, ⟨z3, h3.puto n3 _, i3⟩, _, h4.put _, hc⟩
theorem rkinds_any (x1 : Array Value) (S1 : Nat -> Int) (r1 : Nat) (ch1 : Bool) (L1 : Nat) (g1 : Nat -> Int) (B1 : Nat -> Bool) (s1 t1 : Nat -> ByteArray) (x2 : Array Value) (S2 : Nat -> Int) (r2 : Nat) (ch2 : Bool) (L2 : Nat) (g2 : Nat -> Int) (B2 : Nat -> Bool) (s2 t2 : Nat -> ByteArray) (w : World) (h1 : Pln w x1 S1 r1 ch1 L1 g1 B1 s1 t1) (h2 : Pln w x2 S2 r2 ch2 L2 g2 B2 s2 t2)
    (hL1 : L1 <= 1000000) (hL2 : L2 <= 1000000) :
    Calls Tryz.prog 41 #[.agg x1, .agg x2] w fun e w' => ∃ y1 y2, e = .returned (.tuple #[.agg y1, .agg y2, .bool (kdB ch1 L1 ch2 L2)]) /\ IsP y1 /\ IsP y2 /\ (kdB ch1 L1 ch2 L2 = true -> Pln w' y1 S1 r1 (kdC ch1 L1 ch2 L2) L1 g1 B1 s1 t1 /\ Pln w' y2 S2 r2 (kdC ch1 L1 ch2 L2) L2 g2 B2 s2 t2) /\ Below w.heap.size w w' := by
 obtain ⟨sa1, sc1, ta1, tc1, na1, nc1, hx1, _⟩ := h1.form
 subst hx1
 obtain ⟨sa2, sc2, ta2, tc2, na2, nc2, hx2, _⟩ := h2.form
 subst hx2
 have H1 := Lib.hid h1
 have H2 := Lib.hid h2
 have LN1 := Lib.hid (fun wz (h : Pln wz (plC sa1 r1 sc1 ch1 ta1 (tnO ch1 L1) tc1 na1 (nnO ch1 L1) nc1) S1 r1 ch1 L1 g1 B1 s1 t1) => Pln.lenJ wz h hL1)
 have LN2 := Lib.hid (fun wz (h : Pln wz (plC sa2 r2 sc2 ch2 ta2 (tnO ch2 L2) tc2 na2 (nnO ch2 L2) nc2) S2 r2 ch2 L2 g2 B2 s2 t2) => Pln.lenJ wz h hL2)
 have BB0 := Lib.hid (((((Bag.start w).newRow (plC sa1 r1 sc1 ch1 ta1 (tnO ch1 L1) tc1 na1 (nnO ch1 L1) nc1) 26).newRow (plC sa2 r2 sc2 ch2 ta2 (tnO ch2 L2) tc2 na2 (nnO ch2 L2) nc2) 26).newRow plZer 26).newRow plZer 26)
 simp only [World.size_alloc] at BB0
 have BB := Lib.hid (show Bag w (fun y => Row y w.heap.size 26 (plC sa1 r1 sc1 ch1 ta1 (tnO ch1 L1) tc1 na1 (nnO ch1 L1) nc1) /\ Row y (w.heap.size + 1) 26 (plC sa2 r2 sc2 ch2 ta2 (tnO ch2 L2) tc2 na2 (nnO ch2 L2) nc2) /\ Row y (w.heap.size + 1 + 1) 26 plZer /\ Row y (w.heap.size + 1 + 1 + 1) 26 plZer /\ True) _ from ⟨BB0.out.below, fun a b hb ⟨q1, q2, q3, q4, _⟩ => ⟨q1.below hb, q2.below hb, q3.below hb, q4.below hb, trivial⟩, BB0.out.now.2.2.2.1, BB0.out.now.2.2.1, BB0.out.now.2.1, BB0.out.now.1, trivial⟩)
 unfold plZer at BB
 unfold plC at BB
 clear h1 h2 BB0 hL1 hL2
 by_cases hch : ch1 = ch2
 · have e1 : kdB ch1 L1 ch2 L2 = true := by unfold kdB; rw [decide_eq_true hch]; rfl
   have e2 : kdC ch1 L1 ch2 L2 = ch1 := by unfold kdC; rw [if_pos hch]
   rw [e1, e2]
   clear e1 e2
   subst hch
   have db : (ch1 == ch1) = true := beq_self_eq_true ch1
   unfold plC
   go_enter Tryz.func41, Tryz.ntmps41
   go_wp2_with fail
   generalize hW : ((((w.alloc (.cells _ 26)).alloc (.cells _ 26)).alloc (.cells _ 26)).alloc (.cells _ 26)) = YY at *
   clear hW
   have x1 : YY.cell? ⟨w.heap.size, 1, none⟩ = some (.bool ch1) := BB.out.now.1.cell 1
   have x2 : YY.cell? ⟨w.heap.size + 1, 1, none⟩ = some (.bool ch1) := BB.out.now.2.1.cell 1
   go_wp2_with fail
   clear x1 x2
   have BP : Bag w (KdP (w.heap.size) (w.heap.size + 1) (w.heap.size + 1 + 1) (w.heap.size + 1 + 1 + 1) (plC sa1 r1 sc1 ch1 ta1 (tnO ch1 L1) tc1 na1 (nnO ch1 L1) nc1) (plC sa2 r2 sc2 ch1 ta2 (tnO ch1 L2) tc2 na2 (nnO ch1 L2) nc2)) YY := ⟨BB.out.below, KdP.stay, BB.out.now.1, BB.out.now.2.1, ⟨_, BB.out.now.2.2.1, ⟨_, _, _, _, _, _, _, _, _, _, rfl⟩⟩, ⟨_, BB.out.now.2.2.2.1, ⟨_, _, _, _, _, _, _, _, _, _, rfl⟩⟩⟩
   go_wp2_with fail
   refine wp_region_inv4 ⟨(fun j => ([[12], [13], [], [], [6]] : List (List Nat)).getD j []), (fun j => ([[], [], [0], [0, 1, 2], [0, 1, 2, 3]] : List (List Nat)).getD j []), []⟩ (fun jj vv yy => match jj with | 0 => vv = [some (.agg (plC sa1 r1 sc1 ch1 ta1 (tnO ch1 L1) tc1 na1 (nnO ch1 L1) nc1))] | 1 => vv = [some (.agg (plC sa2 r2 sc2 ch1 ta2 (tnO ch1 L2) tc2 na2 (nnO ch1 L2) nc2))] | 2 => Row yy (w.heap.size + 1 + 1) 26 (plC sa1 r1 sc1 ch1 ta1 (tnO ch1 L1) tc1 na1 (nnO ch1 L1) nc1) | 3 => Row yy (w.heap.size + 1 + 1 + 1) 26 (plC sa2 r2 sc2 ch1 ta2 (tnO ch1 L2) tc2 na2 (nnO ch1 L2) nc2) | 4 => vv = [some ((Value.bool true))] | _ => True) (fun _ => Bag w (KdP (w.heap.size) (w.heap.size + 1) (w.heap.size + 1 + 1) (w.heap.size + 1 + 1 + 1) (plC sa1 r1 sc1 ch1 ta1 (tnO ch1 L1) tc1 na1 (nnO ch1 L1) nc1) (plC sa2 r2 sc2 ch1 ta2 (tnO ch1 L2) tc2 na2 (nnO ch1 L2) nc2))) (by kernel_rfl) (by kernel_rfl) (by kernel_rfl) BP.drew ?_ ?_ ?_
   · intro jj vv yw yw2 hb h
     match jj, h with
     | 0, h => exact h
     | 1, h => exact h
     | 2, g2_0 => exact g2_0.below hb
     | 3, g3_0 => exact g3_0.below hb
     | 4, h => exact h
     | _ + 5, h => exact h
   · intro ac yw hsz hdf hold hB hp
     have r4 := hp 2 (by decide)
     have r5 := hp 3 (by decide)
     have t6 : ac.tmps[6]? = some (.bool true) := (List.cons.inj (hp 4 (by decide))).1
     have t2 : ac.tmps[2]? = some (.pointer (some ⟨w.heap.size, 0, none⟩)) := hold 2 (by kernel_rfl)
     have t3 : ac.tmps[3]? = some (.pointer (some ⟨w.heap.size + 1, 0, none⟩)) := hold 3 (by kernel_rfl)
     have t4 : ac.tmps[4]? = some (.pointer (some ⟨w.heap.size + 1 + 1, 0, none⟩)) := hold 4 (by kernel_rfl)
     have t5 : ac.tmps[5]? = some (.pointer (some ⟨w.heap.size + 1 + 1 + 1, 0, none⟩)) := hold 5 (by kernel_rfl)
     have HR4 := Lib.hid r4
     have HR5 := Lib.hid r5
     have HBW := Lib.hid hB.below
     clear hold hp r4 r5 hB
     obtain ⟨TZ, hTZ⟩ : ∃ TZ : Nat -> Value, ∀ i, (ac.tmps[i]?).getD undef = TZ i := ⟨_, fun _ => rfl⟩
     have f2 := (hTZ 2).symm.trans (congrArg (fun x => Option.getD x undef) t2)
     have f3 := (hTZ 3).symm.trans (congrArg (fun x => Option.getD x undef) t3)
     have f4 := (hTZ 4).symm.trans (congrArg (fun x => Option.getD x undef) t4)
     have f5 := (hTZ 5).symm.trans (congrArg (fun x => Option.getD x undef) t5)
     have f6 := (hTZ 6).symm.trans (congrArg (fun x => Option.getD x undef) t6)
     have hac := act_eq (n := 34) hsz TZ hTZ
     rw [show ((List.range 34).map TZ).toArray = #[TZ 0, TZ 1, TZ 2, TZ 3, TZ 4, TZ 5, TZ 6, TZ 7, TZ 8, TZ 9, TZ 10, TZ 11, TZ 12, TZ 13, TZ 14, TZ 15, TZ 16, TZ 17, TZ 18, TZ 19, TZ 20, TZ 21, TZ 22, TZ 23, TZ 24, TZ 25, TZ 26, TZ 27, TZ 28, TZ 29, TZ 30, TZ 31, TZ 32, TZ 33] from rfl, f2, f3, f4, f5, f6, hdf] at hac
     simp only [Option.getD_some] at hac
     subst hac
     clear hTZ f2 f3 f4 f5 f6
     go_wp2_with fail
     exact bodyPost_ret (res_pln3 Tryz.results41 rfl rfl rfl HR4.out HR5.out rfl rfl) rfl ⟨_, _, rfl, ⟨_, _, _, _, _, _, _, _, _, _, rfl⟩, ⟨_, _, _, _, _, _, _, _, _, _, rfl⟩, ⟨H1.out.below HBW.out, H2.out.below HBW.out⟩, HBW.out⟩
   refine Stps4.cons (o := _) ?_ ?_
   · intro f ac yw hsz hold hB hp hf K hK
     have t2 : ac.tmps[2]? = some (.pointer (some ⟨w.heap.size, 0, none⟩)) := hold 2 (by kernel_rfl)
     clear hold hp hsz
     rw [if_pos (by rfl)]
     refine ldP 2 rfl (w.heap.size) ((plC sa1 r1 sc1 ch1 ta1 (tnO ch1 L1) tc1 na1 (nnO ch1 L1) nc1)) t2 (hB.now.1) (rfl) ?_
     exact hK.out _ _ ⟨hB, rfl, Nat.le_refl _, .inl (Below.refl _ _), fun h => absurd h (by decide)⟩
   refine Stps4.cons (o := _) ?_ ?_
   · intro f ac yw hsz hold hB hp hf K hK
     have t3 : ac.tmps[3]? = some (.pointer (some ⟨w.heap.size + 1, 0, none⟩)) := hold 3 (by kernel_rfl)
     clear hold hp hsz
     rw [if_pos (by rfl)]
     refine ldP 3 rfl (w.heap.size + 1) ((plC sa2 r2 sc2 ch1 ta2 (tnO ch1 L2) tc2 na2 (nnO ch1 L2) nc2)) t3 (hB.now.2.1) (rfl) ?_
     exact hK.out _ _ ⟨hB, rfl, Nat.le_refl _, .inl (Below.refl _ _), fun h => absurd h (by decide)⟩
   refine Stps4.cons (o := _) ?_ ?_
   · intro f ac yw hsz hold hB hp hf K hK
     have e0 := hp 0 (by decide)
     have t12 : ac.tmps[12]? = some (.agg (plC sa1 r1 sc1 ch1 ta1 (tnO ch1 L1) tc1 na1 (nnO ch1 L1) nc1)) := (List.cons.inj e0).1
     have t4 : ac.tmps[4]? = some (.pointer (some ⟨w.heap.size + 1 + 1, 0, none⟩)) := hold 4 (by kernel_rfl)
     clear hold hp hsz hf e0
     rw [if_pos (by rfl)]
     obtain ⟨zz, hz, iz⟩ := hB.now.2.2.1
     have HB := KdP.put3 hB (by omega) (by omega) (by omega) (by omega) ((plC sa1 r1 sc1 ch1 ta1 (tnO ch1 L1) tc1 na1 (nnO ch1 L1) nc1)) ⟨_, _, _, _, _, _, _, _, _, _, rfl⟩
     refine stP 4 12 rfl (w.heap.size + 1 + 1) (plC sa1 r1 sc1 ch1 ta1 (tnO ch1 L1) tc1 na1 (nnO ch1 L1) nc1) t4 t12 _ zz hz iz ⟨_, _, _, _, _, _, _, _, _, _, rfl⟩ ?_
     refine hK.out undef _ ⟨HB, hz.put _, by simp [World.setRow], .inr ?_, fun h => absurd h (by decide)⟩
     intro jj hj hap h
     match jj, h with
     | 0, h => exact h
     | 1, h => exact h
     | 2, _ => exact absurd rfl hj
     | 3, g3_0 => exact g3_0.puto (by omega) _
     | 4, h => exact h
     | _ + 5, h => exact h
   refine Stps4.cons (o := _) ?_ ?_
   · intro f ac yw hsz hold hB hp hf K hK
     have e1 := hp 1 (by decide)
     have t13 : ac.tmps[13]? = some (.agg (plC sa2 r2 sc2 ch1 ta2 (tnO ch1 L2) tc2 na2 (nnO ch1 L2) nc2)) := (List.cons.inj e1).1
     have t5 : ac.tmps[5]? = some (.pointer (some ⟨w.heap.size + 1 + 1 + 1, 0, none⟩)) := hold 5 (by kernel_rfl)
     clear hold hp hsz hf e1
     rw [if_pos (by rfl)]
     obtain ⟨zz, hz, iz⟩ := hB.now.2.2.2
     have HB := KdP.put4 hB (by omega) (by omega) (by omega) (by omega) ((plC sa2 r2 sc2 ch1 ta2 (tnO ch1 L2) tc2 na2 (nnO ch1 L2) nc2)) ⟨_, _, _, _, _, _, _, _, _, _, rfl⟩
     refine stP 5 13 rfl (w.heap.size + 1 + 1 + 1) (plC sa2 r2 sc2 ch1 ta2 (tnO ch1 L2) tc2 na2 (nnO ch1 L2) nc2) t5 t13 _ zz hz iz ⟨_, _, _, _, _, _, _, _, _, _, rfl⟩ ?_
     refine hK.out undef _ ⟨HB, hz.put _, by simp [World.setRow], .inr ?_, fun h => absurd h (by decide)⟩
     intro jj hj hap h
     match jj, h with
     | 0, h => exact h
     | 1, h => exact h
     | 2, g2_0 => exact g2_0.puto (by omega) _
     | 3, _ => exact absurd rfl hj
     | 4, h => exact h
     | _ + 5, h => exact h
   refine Stps4.cons (o := _) ?_ ?_
   · intro f ac yw hsz hold hB hp hf K hK
     clear hold hp hsz hf
     go_simp
     exact hK.out _ _ ⟨hB, rfl, Nat.le_refl _, .inl (Below.refl _ _), fun h => absurd h (by decide)⟩
   exact Stps4.nil _
 · have db : (ch1 == ch2) = false := beq_eq_false_iff_ne.2 hch
   by_cases hz2 : L2 = 0
   · have d2 : ((L2 : Int) == 0) = true := beq_iff_eq.2 (by omega)
     have e1 : kdB ch1 L1 ch2 L2 = true := by unfold kdB; rw [decide_eq_true hz2, Bool.or_true, Bool.true_or]
     have e2 : kdC ch1 L1 ch2 L2 = ch1 := by unfold kdC; rw [if_neg hch, if_pos hz2]
     rw [e1, e2]
     clear e1 e2 hch
     subst hz2
     unfold plC
     go_enter Tryz.func41, Tryz.ntmps41
     go_wp2_with fail
     generalize hW : ((((w.alloc (.cells _ 26)).alloc (.cells _ 26)).alloc (.cells _ 26)).alloc (.cells _ 26)) = YY at *
     clear hW
     have x1 : YY.cell? ⟨w.heap.size, 1, none⟩ = some (.bool ch1) := BB.out.now.1.cell 1
     have x2 : YY.cell? ⟨w.heap.size + 1, 1, none⟩ = some (.bool ch2) := BB.out.now.2.1.cell 1
     go_wp2_with fail
     clear x1 x2
     have HR2 := Lib.hid BB.out.now.2.1
     go_wp2_with (refine ld_pln rfl (.tmp 3) rfl (w.heap.size + 1) rfl HR2.out ?_)
     go_at_call 50
     (refine (LN2.out _ ?_).mono ?_)
     · exact H2.out.below BB.out.below
     rintro e w52 ⟨rfl, hb5⟩
     have BB := Lib.hid (BB.out.go hb5)
     clear hb5 HR2
     obtain ⟨YY, hYY⟩ : ∃ y, y = w52 := ⟨_, rfl⟩
     subst hYY
     have BP : Bag w (KdP (w.heap.size) (w.heap.size + 1) (w.heap.size + 1 + 1) (w.heap.size + 1 + 1 + 1) (plC sa1 r1 sc1 ch1 ta1 (tnO ch1 L1) tc1 na1 (nnO ch1 L1) nc1) (plC sa2 r2 sc2 ch2 ta2 (tnO ch2 0) tc2 na2 (nnO ch2 0) nc2)) YY := ⟨BB.out.below, KdP.stay, BB.out.now.1, BB.out.now.2.1, ⟨_, BB.out.now.2.2.1, ⟨_, _, _, _, _, _, _, _, _, _, rfl⟩⟩, ⟨_, BB.out.now.2.2.2.1, ⟨_, _, _, _, _, _, _, _, _, _, rfl⟩⟩⟩
     go_wp2_with fail
     refine wp_region_inv4 ⟨(fun j => ([[17], [18], [19], [20], [21], [22], [], [], [6]] : List (List Nat)).getD j []), (fun j => ([[], [], [1], [], [3], [1, 2, 3, 4], [0], [0, 1, 2, 3, 4, 5, 6], [0, 1, 2, 3, 4, 5, 6, 7]] : List (List Nat)).getD j []), []⟩ (fun jj vv yy => match jj with | 0 => vv = [some (.agg (plC sa1 r1 sc1 ch1 ta1 (tnO ch1 L1) tc1 na1 (nnO ch1 L1) nc1))] | 1 => vv = [some (.pointer (some ⟨w.heap.size + 1, 0, none⟩))] | 2 => vv = [some (.slice sa2 r2 sc2)] | 3 => vv = [some (.pointer (some ⟨w.heap.size, 1, none⟩))] | 4 => vv = [some (.bool ch1)] | 5 => vv = [some (.agg (plC sa2 r2 sc2 ch1 none 0 0 none 0 0))] | 6 => Row yy (w.heap.size + 1 + 1) 26 (plC sa1 r1 sc1 ch1 ta1 (tnO ch1 L1) tc1 na1 (nnO ch1 L1) nc1) | 7 => Row yy (w.heap.size + 1 + 1 + 1) 26 (plC sa2 r2 sc2 ch1 none 0 0 none 0 0) | 8 => vv = [some ((Value.bool true))] | _ => True) (fun _ => Bag w (KdP (w.heap.size) (w.heap.size + 1) (w.heap.size + 1 + 1) (w.heap.size + 1 + 1 + 1) (plC sa1 r1 sc1 ch1 ta1 (tnO ch1 L1) tc1 na1 (nnO ch1 L1) nc1) (plC sa2 r2 sc2 ch2 ta2 (tnO ch2 0) tc2 na2 (nnO ch2 0) nc2))) (by kernel_rfl) (by kernel_rfl) (by kernel_rfl) BP.drew ?_ ?_ ?_
     · intro jj vv yw yw2 hb h
       match jj, h with
       | 0, h => exact h
       | 1, h => exact h
       | 2, h => exact h
       | 3, h => exact h
       | 4, h => exact h
       | 5, h => exact h
       | 6, g6_0 => exact g6_0.below hb
       | 7, g7_0 => exact g7_0.below hb
       | 8, h => exact h
       | _ + 9, h => exact h
     · intro ac yw hsz hdf hold hB hp
       have r4 := hp 6 (by decide)
       have r5 := hp 7 (by decide)
       have t6 : ac.tmps[6]? = some (.bool true) := (List.cons.inj (hp 8 (by decide))).1
       have t2 : ac.tmps[2]? = some (.pointer (some ⟨w.heap.size, 0, none⟩)) := hold 2 (by kernel_rfl)
       have t3 : ac.tmps[3]? = some (.pointer (some ⟨w.heap.size + 1, 0, none⟩)) := hold 3 (by kernel_rfl)
       have t4 : ac.tmps[4]? = some (.pointer (some ⟨w.heap.size + 1 + 1, 0, none⟩)) := hold 4 (by kernel_rfl)
       have t5 : ac.tmps[5]? = some (.pointer (some ⟨w.heap.size + 1 + 1 + 1, 0, none⟩)) := hold 5 (by kernel_rfl)
       have HR4 := Lib.hid r4
       have HR5 := Lib.hid r5
       have HBW := Lib.hid hB.below
       clear hold hp r4 r5 hB
       obtain ⟨TZ, hTZ⟩ : ∃ TZ : Nat -> Value, ∀ i, (ac.tmps[i]?).getD undef = TZ i := ⟨_, fun _ => rfl⟩
       have f2 := (hTZ 2).symm.trans (congrArg (fun x => Option.getD x undef) t2)
       have f3 := (hTZ 3).symm.trans (congrArg (fun x => Option.getD x undef) t3)
       have f4 := (hTZ 4).symm.trans (congrArg (fun x => Option.getD x undef) t4)
       have f5 := (hTZ 5).symm.trans (congrArg (fun x => Option.getD x undef) t5)
       have f6 := (hTZ 6).symm.trans (congrArg (fun x => Option.getD x undef) t6)
       have hac := act_eq (n := 34) hsz TZ hTZ
       rw [show ((List.range 34).map TZ).toArray = #[TZ 0, TZ 1, TZ 2, TZ 3, TZ 4, TZ 5, TZ 6, TZ 7, TZ 8, TZ 9, TZ 10, TZ 11, TZ 12, TZ 13, TZ 14, TZ 15, TZ 16, TZ 17, TZ 18, TZ 19, TZ 20, TZ 21, TZ 22, TZ 23, TZ 24, TZ 25, TZ 26, TZ 27, TZ 28, TZ 29, TZ 30, TZ 31, TZ 32, TZ 33] from rfl, f2, f3, f4, f5, f6, hdf] at hac
       simp only [Option.getD_some] at hac
       subst hac
       clear hTZ f2 f3 f4 f5 f6
       go_wp2_with fail
       exact bodyPost_ret (res_pln3 Tryz.results41 rfl rfl rfl HR4.out HR5.out rfl rfl) rfl ⟨_, _, rfl, ⟨_, _, _, _, _, _, _, _, _, _, rfl⟩, ⟨_, _, _, _, _, _, _, _, _, _, rfl⟩, ⟨H1.out.below HBW.out, (H2.out.below HBW.out).bare _⟩, HBW.out⟩
     refine Stps4.cons (o := _) ?_ ?_
     · intro f ac yw hsz hold hB hp hf K hK
       have t2 : ac.tmps[2]? = some (.pointer (some ⟨w.heap.size, 0, none⟩)) := hold 2 (by kernel_rfl)
       clear hold hp hsz
       rw [if_pos (by rfl)]
       refine ldP 2 rfl (w.heap.size) ((plC sa1 r1 sc1 ch1 ta1 (tnO ch1 L1) tc1 na1 (nnO ch1 L1) nc1)) t2 (hB.now.1) (rfl) ?_
       exact hK.out _ _ ⟨hB, rfl, Nat.le_refl _, .inl (Below.refl _ _), fun h => absurd h (by decide)⟩
     refine Stps4.cons (o := _) ?_ ?_
     · intro f ac yw hsz hold hB hp hf K hK
       have t3 : ac.tmps[3]? = some (.pointer (some ⟨w.heap.size + 1, 0, none⟩)) := hold 3 (by kernel_rfl)
       clear hold hp hsz hf
       go_simp
       exact hK.out _ _ ⟨hB, rfl, Nat.le_refl _, .inl (Below.refl _ _), fun h => absurd h (by decide)⟩
     refine Stps4.cons (o := _) ?_ ?_
     · intro f ac yw hsz hold hB hp hf K hK
       have e1 := hp 1 (by decide)
       have t18 : ac.tmps[18]? = some (.pointer (some ⟨w.heap.size + 1, 0, none⟩)) := (List.cons.inj e1).1
       have m0 : yw.cell? ⟨w.heap.size + 1, 0, none⟩ = some (.slice sa2 r2 sc2) := hB.now.2.1.cell 0
       have m1 : yw.cell? ⟨w.heap.size, 1, none⟩ = some (.bool ch1) := hB.now.1.cell 1
       clear hold hp hsz hf e1
       go_simp
       exact hK.out _ _ ⟨hB, rfl, Nat.le_refl _, .inl (Below.refl _ _), fun h => absurd h (by decide)⟩
     refine Stps4.cons (o := _) ?_ ?_
     · intro f ac yw hsz hold hB hp hf K hK
       have t2 : ac.tmps[2]? = some (.pointer (some ⟨w.heap.size, 0, none⟩)) := hold 2 (by kernel_rfl)
       clear hold hp hsz hf
       go_simp
       exact hK.out _ _ ⟨hB, rfl, Nat.le_refl _, .inl (Below.refl _ _), fun h => absurd h (by decide)⟩
     refine Stps4.cons (o := _) ?_ ?_
     · intro f ac yw hsz hold hB hp hf K hK
       have e3 := hp 3 (by decide)
       have t20 : ac.tmps[20]? = some (.pointer (some ⟨w.heap.size, 1, none⟩)) := (List.cons.inj e3).1
       have m0 : yw.cell? ⟨w.heap.size + 1, 0, none⟩ = some (.slice sa2 r2 sc2) := hB.now.2.1.cell 0
       have m1 : yw.cell? ⟨w.heap.size, 1, none⟩ = some (.bool ch1) := hB.now.1.cell 1
       clear hold hp hsz hf e3
       go_simp
       exact hK.out _ _ ⟨hB, rfl, Nat.le_refl _, .inl (Below.refl _ _), fun h => absurd h (by decide)⟩
     refine Stps4.cons (o := _) ?_ ?_
     · intro f ac yw hsz hold hB hp hf K hK
       have e2 := hp 2 (by decide)
       have t19 : ac.tmps[19]? = some (.slice sa2 r2 sc2) := (List.cons.inj e2).1
       have e4 := hp 4 (by decide)
       have t21 : ac.tmps[21]? = some (.bool ch1) := (List.cons.inj e4).1
       clear hold hp hsz hf e2 e4
       go_simp
       exact hK.out _ _ ⟨hB, rfl, Nat.le_refl _, .inl (Below.refl _ _), fun h => absurd h (by decide)⟩
     refine Stps4.cons (o := _) ?_ ?_
     · intro f ac yw hsz hold hB hp hf K hK
       have e0 := hp 0 (by decide)
       have t17 : ac.tmps[17]? = some (.agg (plC sa1 r1 sc1 ch1 ta1 (tnO ch1 L1) tc1 na1 (nnO ch1 L1) nc1)) := (List.cons.inj e0).1
       have t4 : ac.tmps[4]? = some (.pointer (some ⟨w.heap.size + 1 + 1, 0, none⟩)) := hold 4 (by kernel_rfl)
       clear hold hp hsz hf e0
       rw [if_pos (by rfl)]
       obtain ⟨zz, hz, iz⟩ := hB.now.2.2.1
       have HB := KdP.put3 hB (by omega) (by omega) (by omega) (by omega) ((plC sa1 r1 sc1 ch1 ta1 (tnO ch1 L1) tc1 na1 (nnO ch1 L1) nc1)) ⟨_, _, _, _, _, _, _, _, _, _, rfl⟩
       refine stP 4 17 rfl (w.heap.size + 1 + 1) (plC sa1 r1 sc1 ch1 ta1 (tnO ch1 L1) tc1 na1 (nnO ch1 L1) nc1) t4 t17 _ zz hz iz ⟨_, _, _, _, _, _, _, _, _, _, rfl⟩ ?_
       refine hK.out undef _ ⟨HB, hz.put _, by simp [World.setRow], .inr ?_, fun h => absurd h (by decide)⟩
       intro jj hj hap h
       match jj, h with
       | 0, h => exact h
       | 1, h => exact h
       | 2, h => exact h
       | 3, h => exact h
       | 4, h => exact h
       | 5, h => exact h
       | 6, _ => exact absurd rfl hj
       | 7, g7_0 => exact g7_0.puto (by omega) _
       | 8, h => exact h
       | _ + 9, h => exact h
     refine Stps4.cons (o := _) ?_ ?_
     · intro f ac yw hsz hold hB hp hf K hK
       have e5 := hp 5 (by decide)
       have t22 : ac.tmps[22]? = some (.agg (plC sa2 r2 sc2 ch1 none 0 0 none 0 0)) := (List.cons.inj e5).1
       have t5 : ac.tmps[5]? = some (.pointer (some ⟨w.heap.size + 1 + 1 + 1, 0, none⟩)) := hold 5 (by kernel_rfl)
       clear hold hp hsz hf e5
       rw [if_pos (by rfl)]
       obtain ⟨zz, hz, iz⟩ := hB.now.2.2.2
       have HB := KdP.put4 hB (by omega) (by omega) (by omega) (by omega) ((plC sa2 r2 sc2 ch1 none 0 0 none 0 0)) ⟨_, _, _, _, _, _, _, _, _, _, rfl⟩
       refine stP 5 22 rfl (w.heap.size + 1 + 1 + 1) (plC sa2 r2 sc2 ch1 none 0 0 none 0 0) t5 t22 _ zz hz iz ⟨_, _, _, _, _, _, _, _, _, _, rfl⟩ ?_
       refine hK.out undef _ ⟨HB, hz.put _, by simp [World.setRow], .inr ?_, fun h => absurd h (by decide)⟩
       intro jj hj hap h
       match jj, h with
       | 0, h => exact h
       | 1, h => exact h
       | 2, h => exact h
       | 3, h => exact h
       | 4, h => exact h
       | 5, h => exact h
       | 6, g6_0 => exact g6_0.puto (by omega) _
       | 7, _ => exact absurd rfl hj
       | 8, h => exact h
       | _ + 9, h => exact h
     refine Stps4.cons (o := _) ?_ ?_
     · intro f ac yw hsz hold hB hp hf K hK
       clear hold hp hsz hf
       go_simp
       exact hK.out _ _ ⟨hB, rfl, Nat.le_refl _, .inl (Below.refl _ _), fun h => absurd h (by decide)⟩
     exact Stps4.nil _
   · have d2 : ((L2 : Int) == 0) = false := beq_eq_false_iff_ne.2 (by omega)
     by_cases hz1 : L1 = 0
     · have d1 : ((L1 : Int) == 0) = true := beq_iff_eq.2 (by omega)
       have e1 : kdB ch1 L1 ch2 L2 = true := by unfold kdB; rw [decide_eq_true hz1, Bool.or_true]
       have e2 : kdC ch1 L1 ch2 L2 = ch2 := by unfold kdC; rw [if_neg hch, if_neg hz2]
       rw [e1, e2]
       clear e1 e2 hch hz2
       subst hz1
       unfold plC
       go_enter Tryz.func41, Tryz.ntmps41
       go_wp2_with fail
       generalize hW : ((((w.alloc (.cells _ 26)).alloc (.cells _ 26)).alloc (.cells _ 26)).alloc (.cells _ 26)) = YY at *
       clear hW
       have x1 : YY.cell? ⟨w.heap.size, 1, none⟩ = some (.bool ch1) := BB.out.now.1.cell 1
       have x2 : YY.cell? ⟨w.heap.size + 1, 1, none⟩ = some (.bool ch2) := BB.out.now.2.1.cell 1
       go_wp2_with fail
       clear x1 x2
       have HR2 := Lib.hid BB.out.now.2.1
       go_wp2_with (refine ld_pln rfl (.tmp 3) rfl (w.heap.size + 1) rfl HR2.out ?_)
       go_at_call 50
       (refine (LN2.out _ ?_).mono ?_)
       · exact H2.out.below BB.out.below
       rintro e w52 ⟨rfl, hb5⟩
       have BB := Lib.hid (BB.out.go hb5)
       clear hb5 HR2
       have HR1 := Lib.hid BB.out.now.1
       go_wp2_with (refine ld_pln rfl (.tmp 2) rfl (w.heap.size) rfl HR1.out ?_)
       go_at_call 50
       (refine (LN1.out _ ?_).mono ?_)
       · exact H1.out.below BB.out.below
       rintro e w51 ⟨rfl, hb5⟩
       have BB := Lib.hid (BB.out.go hb5)
       clear hb5 HR1
       obtain ⟨YY, hYY⟩ : ∃ y, y = w51 := ⟨_, rfl⟩
       subst hYY
       have BP : Bag w (KdP (w.heap.size) (w.heap.size + 1) (w.heap.size + 1 + 1) (w.heap.size + 1 + 1 + 1) (plC sa1 r1 sc1 ch1 ta1 (tnO ch1 0) tc1 na1 (nnO ch1 0) nc1) (plC sa2 r2 sc2 ch2 ta2 (tnO ch2 L2) tc2 na2 (nnO ch2 L2) nc2)) YY := ⟨BB.out.below, KdP.stay, BB.out.now.1, BB.out.now.2.1, ⟨_, BB.out.now.2.2.1, ⟨_, _, _, _, _, _, _, _, _, _, rfl⟩⟩, ⟨_, BB.out.now.2.2.2.1, ⟨_, _, _, _, _, _, _, _, _, _, rfl⟩⟩⟩
       go_wp2_with fail
       refine wp_region_inv4 ⟨(fun j => ([[26], [27], [28], [29], [30], [31], [], [], [6]] : List (List Nat)).getD j []), (fun j => ([[], [0], [], [2], [0, 1, 2, 3], [], [0, 1, 2, 3, 4], [0, 1, 2, 3, 4, 5, 6], [0, 1, 2, 3, 4, 5, 6, 7]] : List (List Nat)).getD j []), []⟩ (fun jj vv yy => match jj with | 0 => vv = [some (.pointer (some ⟨w.heap.size, 0, none⟩))] | 1 => vv = [some (.slice sa1 r1 sc1)] | 2 => vv = [some (.pointer (some ⟨w.heap.size + 1, 1, none⟩))] | 3 => vv = [some (.bool ch2)] | 4 => vv = [some (.agg (plC sa1 r1 sc1 ch2 none 0 0 none 0 0))] | 5 => vv = [some (.agg (plC sa2 r2 sc2 ch2 ta2 (tnO ch2 L2) tc2 na2 (nnO ch2 L2) nc2))] | 6 => Row yy (w.heap.size + 1 + 1) 26 (plC sa1 r1 sc1 ch2 none 0 0 none 0 0) | 7 => Row yy (w.heap.size + 1 + 1 + 1) 26 (plC sa2 r2 sc2 ch2 ta2 (tnO ch2 L2) tc2 na2 (nnO ch2 L2) nc2) | 8 => vv = [some ((Value.bool true))] | _ => True) (fun _ => Bag w (KdP (w.heap.size) (w.heap.size + 1) (w.heap.size + 1 + 1) (w.heap.size + 1 + 1 + 1) (plC sa1 r1 sc1 ch1 ta1 (tnO ch1 0) tc1 na1 (nnO ch1 0) nc1) (plC sa2 r2 sc2 ch2 ta2 (tnO ch2 L2) tc2 na2 (nnO ch2 L2) nc2))) (by kernel_rfl) (by kernel_rfl) (by kernel_rfl) BP.drew ?_ ?_ ?_
       · intro jj vv yw yw2 hb h
         match jj, h with
         | 0, h => exact h
         | 1, h => exact h
         | 2, h => exact h
         | 3, h => exact h
         | 4, h => exact h
         | 5, h => exact h
         | 6, g6_0 => exact g6_0.below hb
         | 7, g7_0 => exact g7_0.below hb
         | 8, h => exact h
         | _ + 9, h => exact h
       · intro ac yw hsz hdf hold hB hp
         have r4 := hp 6 (by decide)
         have r5 := hp 7 (by decide)
         have t6 : ac.tmps[6]? = some (.bool true) := (List.cons.inj (hp 8 (by decide))).1
         have t2 : ac.tmps[2]? = some (.pointer (some ⟨w.heap.size, 0, none⟩)) := hold 2 (by kernel_rfl)
         have t3 : ac.tmps[3]? = some (.pointer (some ⟨w.heap.size + 1, 0, none⟩)) := hold 3 (by kernel_rfl)
         have t4 : ac.tmps[4]? = some (.pointer (some ⟨w.heap.size + 1 + 1, 0, none⟩)) := hold 4 (by kernel_rfl)
         have t5 : ac.tmps[5]? = some (.pointer (some ⟨w.heap.size + 1 + 1 + 1, 0, none⟩)) := hold 5 (by kernel_rfl)
         have HR4 := Lib.hid r4
         have HR5 := Lib.hid r5
         have HBW := Lib.hid hB.below
         clear hold hp r4 r5 hB
         obtain ⟨TZ, hTZ⟩ : ∃ TZ : Nat -> Value, ∀ i, (ac.tmps[i]?).getD undef = TZ i := ⟨_, fun _ => rfl⟩
         have f2 := (hTZ 2).symm.trans (congrArg (fun x => Option.getD x undef) t2)
         have f3 := (hTZ 3).symm.trans (congrArg (fun x => Option.getD x undef) t3)
         have f4 := (hTZ 4).symm.trans (congrArg (fun x => Option.getD x undef) t4)
         have f5 := (hTZ 5).symm.trans (congrArg (fun x => Option.getD x undef) t5)
         have f6 := (hTZ 6).symm.trans (congrArg (fun x => Option.getD x undef) t6)
         have hac := act_eq (n := 34) hsz TZ hTZ
         rw [show ((List.range 34).map TZ).toArray = #[TZ 0, TZ 1, TZ 2, TZ 3, TZ 4, TZ 5, TZ 6, TZ 7, TZ 8, TZ 9, TZ 10, TZ 11, TZ 12, TZ 13, TZ 14, TZ 15, TZ 16, TZ 17, TZ 18, TZ 19, TZ 20, TZ 21, TZ 22, TZ 23, TZ 24, TZ 25, TZ 26, TZ 27, TZ 28, TZ 29, TZ 30, TZ 31, TZ 32, TZ 33] from rfl, f2, f3, f4, f5, f6, hdf] at hac
         simp only [Option.getD_some] at hac
         subst hac
         clear hTZ f2 f3 f4 f5 f6
         go_wp2_with fail
         exact bodyPost_ret (res_pln3 Tryz.results41 rfl rfl rfl HR4.out HR5.out rfl rfl) rfl ⟨_, _, rfl, ⟨_, _, _, _, _, _, _, _, _, _, rfl⟩, ⟨_, _, _, _, _, _, _, _, _, _, rfl⟩, ⟨(H1.out.below HBW.out).bare _, H2.out.below HBW.out⟩, HBW.out⟩
       refine Stps4.cons (o := _) ?_ ?_
       · intro f ac yw hsz hold hB hp hf K hK
         have t2 : ac.tmps[2]? = some (.pointer (some ⟨w.heap.size, 0, none⟩)) := hold 2 (by kernel_rfl)
         clear hold hp hsz hf
         go_simp
         exact hK.out _ _ ⟨hB, rfl, Nat.le_refl _, .inl (Below.refl _ _), fun h => absurd h (by decide)⟩
       refine Stps4.cons (o := _) ?_ ?_
       · intro f ac yw hsz hold hB hp hf K hK
         have e0 := hp 0 (by decide)
         have t26 : ac.tmps[26]? = some (.pointer (some ⟨w.heap.size, 0, none⟩)) := (List.cons.inj e0).1
         have m0 : yw.cell? ⟨w.heap.size, 0, none⟩ = some (.slice sa1 r1 sc1) := hB.now.1.cell 0
         have m1 : yw.cell? ⟨w.heap.size + 1, 1, none⟩ = some (.bool ch2) := hB.now.2.1.cell 1
         clear hold hp hsz hf e0
         go_simp
         exact hK.out _ _ ⟨hB, rfl, Nat.le_refl _, .inl (Below.refl _ _), fun h => absurd h (by decide)⟩
       refine Stps4.cons (o := _) ?_ ?_
       · intro f ac yw hsz hold hB hp hf K hK
         have t3 : ac.tmps[3]? = some (.pointer (some ⟨w.heap.size + 1, 0, none⟩)) := hold 3 (by kernel_rfl)
         clear hold hp hsz hf
         go_simp
         exact hK.out _ _ ⟨hB, rfl, Nat.le_refl _, .inl (Below.refl _ _), fun h => absurd h (by decide)⟩
       refine Stps4.cons (o := _) ?_ ?_
       · intro f ac yw hsz hold hB hp hf K hK
         have e2 := hp 2 (by decide)
         have t28 : ac.tmps[28]? = some (.pointer (some ⟨w.heap.size + 1, 1, none⟩)) := (List.cons.inj e2).1
         have m0 : yw.cell? ⟨w.heap.size, 0, none⟩ = some (.slice sa1 r1 sc1) := hB.now.1.cell 0
         have m1 : yw.cell? ⟨w.heap.size + 1, 1, none⟩ = some (.bool ch2) := hB.now.2.1.cell 1
         clear hold hp hsz hf e2
         go_simp
         exact hK.out _ _ ⟨hB, rfl, Nat.le_refl _, .inl (Below.refl _ _), fun h => absurd h (by decide)⟩
       refine Stps4.cons (o := _) ?_ ?_
       · intro f ac yw hsz hold hB hp hf K hK
         have e1 := hp 1 (by decide)
         have t27 : ac.tmps[27]? = some (.slice sa1 r1 sc1) := (List.cons.inj e1).1
         have e3 := hp 3 (by decide)
         have t29 : ac.tmps[29]? = some (.bool ch2) := (List.cons.inj e3).1
         clear hold hp hsz hf e1 e3
         go_simp
         exact hK.out _ _ ⟨hB, rfl, Nat.le_refl _, .inl (Below.refl _ _), fun h => absurd h (by decide)⟩
       refine Stps4.cons (o := _) ?_ ?_
       · intro f ac yw hsz hold hB hp hf K hK
         have t3 : ac.tmps[3]? = some (.pointer (some ⟨w.heap.size + 1, 0, none⟩)) := hold 3 (by kernel_rfl)
         clear hold hp hsz
         rw [if_pos (by rfl)]
         refine ldP 3 rfl (w.heap.size + 1) ((plC sa2 r2 sc2 ch2 ta2 (tnO ch2 L2) tc2 na2 (nnO ch2 L2) nc2)) t3 (hB.now.2.1) (rfl) ?_
         exact hK.out _ _ ⟨hB, rfl, Nat.le_refl _, .inl (Below.refl _ _), fun h => absurd h (by decide)⟩
       refine Stps4.cons (o := _) ?_ ?_
       · intro f ac yw hsz hold hB hp hf K hK
         have e4 := hp 4 (by decide)
         have t30 : ac.tmps[30]? = some (.agg (plC sa1 r1 sc1 ch2 none 0 0 none 0 0)) := (List.cons.inj e4).1
         have t4 : ac.tmps[4]? = some (.pointer (some ⟨w.heap.size + 1 + 1, 0, none⟩)) := hold 4 (by kernel_rfl)
         clear hold hp hsz hf e4
         rw [if_pos (by rfl)]
         obtain ⟨zz, hz, iz⟩ := hB.now.2.2.1
         have HB := KdP.put3 hB (by omega) (by omega) (by omega) (by omega) ((plC sa1 r1 sc1 ch2 none 0 0 none 0 0)) ⟨_, _, _, _, _, _, _, _, _, _, rfl⟩
         refine stP 4 30 rfl (w.heap.size + 1 + 1) (plC sa1 r1 sc1 ch2 none 0 0 none 0 0) t4 t30 _ zz hz iz ⟨_, _, _, _, _, _, _, _, _, _, rfl⟩ ?_
         refine hK.out undef _ ⟨HB, hz.put _, by simp [World.setRow], .inr ?_, fun h => absurd h (by decide)⟩
         intro jj hj hap h
         match jj, h with
         | 0, h => exact h
         | 1, h => exact h
         | 2, h => exact h
         | 3, h => exact h
         | 4, h => exact h
         | 5, h => exact h
         | 6, _ => exact absurd rfl hj
         | 7, g7_0 => exact g7_0.puto (by omega) _
         | 8, h => exact h
         | _ + 9, h => exact h
       refine Stps4.cons (o := _) ?_ ?_
       · intro f ac yw hsz hold hB hp hf K hK
         have e5 := hp 5 (by decide)
         have t31 : ac.tmps[31]? = some (.agg (plC sa2 r2 sc2 ch2 ta2 (tnO ch2 L2) tc2 na2 (nnO ch2 L2) nc2)) := (List.cons.inj e5).1
         have t5 : ac.tmps[5]? = some (.pointer (some ⟨w.heap.size + 1 + 1 + 1, 0, none⟩)) := hold 5 (by kernel_rfl)
         clear hold hp hsz hf e5
         rw [if_pos (by rfl)]
         obtain ⟨zz, hz, iz⟩ := hB.now.2.2.2
         have HB := KdP.put4 hB (by omega) (by omega) (by omega) (by omega) ((plC sa2 r2 sc2 ch2 ta2 (tnO ch2 L2) tc2 na2 (nnO ch2 L2) nc2)) ⟨_, _, _, _, _, _, _, _, _, _, rfl⟩
         refine stP 5 31 rfl (w.heap.size + 1 + 1 + 1) (plC sa2 r2 sc2 ch2 ta2 (tnO ch2 L2) tc2 na2 (nnO ch2 L2) nc2) t5 t31 _ zz hz iz ⟨_, _, _, _, _, _, _, _, _, _, rfl⟩ ?_
         refine hK.out undef _ ⟨HB, hz.put _, by simp [World.setRow], .inr ?_, fun h => absurd h (by decide)⟩
         intro jj hj hap h
         match jj, h with
         | 0, h => exact h
         | 1, h => exact h
         | 2, h => exact h
         | 3, h => exact h
         | 4, h => exact h
         | 5, h => exact h
         | 6, g6_0 => exact g6_0.puto (by omega) _
         | 7, _ => exact absurd rfl hj
         | 8, h => exact h
         | _ + 9, h => exact h
       refine Stps4.cons (o := _) ?_ ?_
       · intro f ac yw hsz hold hB hp hf K hK
         clear hold hp hsz hf
         go_simp
         exact hK.out _ _ ⟨hB, rfl, Nat.le_refl _, .inl (Below.refl _ _), fun h => absurd h (by decide)⟩
       exact Stps4.nil _
     · have d1 : ((L1 : Int) == 0) = false := beq_eq_false_iff_ne.2 (by omega)
       have e1 : kdB ch1 L1 ch2 L2 = false := by unfold kdB; rw [decide_eq_false hch, decide_eq_false hz1, decide_eq_false hz2]; rfl
       rw [e1]
       clear e1 hch hz1 hz2
       unfold plC
       go_enter Tryz.func41, Tryz.ntmps41
       go_wp2_with fail
       generalize hW : ((((w.alloc (.cells _ 26)).alloc (.cells _ 26)).alloc (.cells _ 26)).alloc (.cells _ 26)) = YY at *
       clear hW
       have x1 : YY.cell? ⟨w.heap.size, 1, none⟩ = some (.bool ch1) := BB.out.now.1.cell 1
       have x2 : YY.cell? ⟨w.heap.size + 1, 1, none⟩ = some (.bool ch2) := BB.out.now.2.1.cell 1
       go_wp2_with fail
       clear x1 x2
       have HR2 := Lib.hid BB.out.now.2.1
       go_wp2_with (refine ld_pln rfl (.tmp 3) rfl (w.heap.size + 1) rfl HR2.out ?_)
       go_at_call 50
       (refine (LN2.out _ ?_).mono ?_)
       · exact H2.out.below BB.out.below
       rintro e w52 ⟨rfl, hb5⟩
       have BB := Lib.hid (BB.out.go hb5)
       clear hb5 HR2
       have HR1 := Lib.hid BB.out.now.1
       go_wp2_with (refine ld_pln rfl (.tmp 2) rfl (w.heap.size) rfl HR1.out ?_)
       go_at_call 50
       (refine (LN1.out _ ?_).mono ?_)
       · exact H1.out.below BB.out.below
       rintro e w51 ⟨rfl, hb5⟩
       have BB := Lib.hid (BB.out.go hb5)
       clear hb5 HR1
       obtain ⟨YY, hYY⟩ : ∃ y, y = w51 := ⟨_, rfl⟩
       subst hYY
       have BP : Bag w (KdP (w.heap.size) (w.heap.size + 1) (w.heap.size + 1 + 1) (w.heap.size + 1 + 1 + 1) (plC sa1 r1 sc1 ch1 ta1 (tnO ch1 L1) tc1 na1 (nnO ch1 L1) nc1) (plC sa2 r2 sc2 ch2 ta2 (tnO ch2 L2) tc2 na2 (nnO ch2 L2) nc2)) YY := ⟨BB.out.below, KdP.stay, BB.out.now.1, BB.out.now.2.1, ⟨_, BB.out.now.2.2.1, ⟨_, _, _, _, _, _, _, _, _, _, rfl⟩⟩, ⟨_, BB.out.now.2.2.2.1, ⟨_, _, _, _, _, _, _, _, _, _, rfl⟩⟩⟩
       go_wp2_with fail
       refine wp_region_inv4 ⟨(fun j => ([[32], [33], [], [], [6]] : List (List Nat)).getD j []), (fun j => ([[], [], [0], [0, 1, 2], [0, 1, 2, 3]] : List (List Nat)).getD j []), []⟩ (fun jj vv yy => match jj with | 0 => vv = [some (.agg (plC sa1 r1 sc1 ch1 ta1 (tnO ch1 L1) tc1 na1 (nnO ch1 L1) nc1))] | 1 => vv = [some (.agg (plC sa2 r2 sc2 ch2 ta2 (tnO ch2 L2) tc2 na2 (nnO ch2 L2) nc2))] | 2 => Row yy (w.heap.size + 1 + 1) 26 (plC sa1 r1 sc1 ch1 ta1 (tnO ch1 L1) tc1 na1 (nnO ch1 L1) nc1) | 3 => Row yy (w.heap.size + 1 + 1 + 1) 26 (plC sa2 r2 sc2 ch2 ta2 (tnO ch2 L2) tc2 na2 (nnO ch2 L2) nc2) | 4 => vv = [some ((Value.bool false))] | _ => True) (fun _ => Bag w (KdP (w.heap.size) (w.heap.size + 1) (w.heap.size + 1 + 1) (w.heap.size + 1 + 1 + 1) (plC sa1 r1 sc1 ch1 ta1 (tnO ch1 L1) tc1 na1 (nnO ch1 L1) nc1) (plC sa2 r2 sc2 ch2 ta2 (tnO ch2 L2) tc2 na2 (nnO ch2 L2) nc2))) (by kernel_rfl) (by kernel_rfl) (by kernel_rfl) BP.drew ?_ ?_ ?_
       · intro jj vv yw yw2 hb h
         match jj, h with
         | 0, h => exact h
         | 1, h => exact h
         | 2, g2_0 => exact g2_0.below hb
         | 3, g3_0 => exact g3_0.below hb
         | 4, h => exact h
         | _ + 5, h => exact h
       · intro ac yw hsz hdf hold hB hp
         have r4 := hp 2 (by decide)
         have r5 := hp 3 (by decide)
         have t6 : ac.tmps[6]? = some (.bool false) := (List.cons.inj (hp 4 (by decide))).1
         have t2 : ac.tmps[2]? = some (.pointer (some ⟨w.heap.size, 0, none⟩)) := hold 2 (by kernel_rfl)
         have t3 : ac.tmps[3]? = some (.pointer (some ⟨w.heap.size + 1, 0, none⟩)) := hold 3 (by kernel_rfl)
         have t4 : ac.tmps[4]? = some (.pointer (some ⟨w.heap.size + 1 + 1, 0, none⟩)) := hold 4 (by kernel_rfl)
         have t5 : ac.tmps[5]? = some (.pointer (some ⟨w.heap.size + 1 + 1 + 1, 0, none⟩)) := hold 5 (by kernel_rfl)
         have HR4 := Lib.hid r4
         have HR5 := Lib.hid r5
         have HBW := Lib.hid hB.below
         clear hold hp r4 r5 hB
         obtain ⟨TZ, hTZ⟩ : ∃ TZ : Nat -> Value, ∀ i, (ac.tmps[i]?).getD undef = TZ i := ⟨_, fun _ => rfl⟩
         have f2 := (hTZ 2).symm.trans (congrArg (fun x => Option.getD x undef) t2)
         have f3 := (hTZ 3).symm.trans (congrArg (fun x => Option.getD x undef) t3)
         have f4 := (hTZ 4).symm.trans (congrArg (fun x => Option.getD x undef) t4)
         have f5 := (hTZ 5).symm.trans (congrArg (fun x => Option.getD x undef) t5)
         have f6 := (hTZ 6).symm.trans (congrArg (fun x => Option.getD x undef) t6)
         have hac := act_eq (n := 34) hsz TZ hTZ
         rw [show ((List.range 34).map TZ).toArray = #[TZ 0, TZ 1, TZ 2, TZ 3, TZ 4, TZ 5, TZ 6, TZ 7, TZ 8, TZ 9, TZ 10, TZ 11, TZ 12, TZ 13, TZ 14, TZ 15, TZ 16, TZ 17, TZ 18, TZ 19, TZ 20, TZ 21, TZ 22, TZ 23, TZ 24, TZ 25, TZ 26, TZ 27, TZ 28, TZ 29, TZ 30, TZ 31, TZ 32, TZ 33] from rfl, f2, f3, f4, f5, f6, hdf] at hac
         simp only [Option.getD_some] at hac
         subst hac
         clear hTZ f2 f3 f4 f5 f6
         go_wp2_with fail
         exact bodyPost_ret (res_pln3 Tryz.results41 rfl rfl rfl HR4.out HR5.out rfl rfl) rfl ⟨_, _, rfl, ⟨_, _, _, _, _, _, _, _, _, _, rfl⟩, ⟨_, _, _, _, _, _, _, _, _, _, rfl⟩, HBW.out⟩
       refine Stps4.cons (o := _) ?_ ?_
       · intro f ac yw hsz hold hB hp hf K hK
         have t2 : ac.tmps[2]? = some (.pointer (some ⟨w.heap.size, 0, none⟩)) := hold 2 (by kernel_rfl)
         clear hold hp hsz
         rw [if_pos (by rfl)]
         refine ldP 2 rfl (w.heap.size) ((plC sa1 r1 sc1 ch1 ta1 (tnO ch1 L1) tc1 na1 (nnO ch1 L1) nc1)) t2 (hB.now.1) (rfl) ?_
         exact hK.out _ _ ⟨hB, rfl, Nat.le_refl _, .inl (Below.refl _ _), fun h => absurd h (by decide)⟩
       refine Stps4.cons (o := _) ?_ ?_
       · intro f ac yw hsz hold hB hp hf K hK
         have t3 : ac.tmps[3]? = some (.pointer (some ⟨w.heap.size + 1, 0, none⟩)) := hold 3 (by kernel_rfl)
         clear hold hp hsz
         rw [if_pos (by rfl)]
         refine ldP 3 rfl (w.heap.size + 1) ((plC sa2 r2 sc2 ch2 ta2 (tnO ch2 L2) tc2 na2 (nnO ch2 L2) nc2)) t3 (hB.now.2.1) (rfl) ?_
         exact hK.out _ _ ⟨hB, rfl, Nat.le_refl _, .inl (Below.refl _ _), fun h => absurd h (by decide)⟩
       refine Stps4.cons (o := _) ?_ ?_
       · intro f ac yw hsz hold hB hp hf K hK
         have e0 := hp 0 (by decide)
         have t32 : ac.tmps[32]? = some (.agg (plC sa1 r1 sc1 ch1 ta1 (tnO ch1 L1) tc1 na1 (nnO ch1 L1) nc1)) := (List.cons.inj e0).1
         have t4 : ac.tmps[4]? = some (.pointer (some ⟨w.heap.size + 1 + 1, 0, none⟩)) := hold 4 (by kernel_rfl)
         clear hold hp hsz hf e0
         rw [if_pos (by rfl)]
         obtain ⟨zz, hz, iz⟩ := hB.now.2.2.1
         have HB := KdP.put3 hB (by omega) (by omega) (by omega) (by omega) ((plC sa1 r1 sc1 ch1 ta1 (tnO ch1 L1) tc1 na1 (nnO ch1 L1) nc1)) ⟨_, _, _, _, _, _, _, _, _, _, rfl⟩
         refine stP 4 32 rfl (w.heap.size + 1 + 1) (plC sa1 r1 sc1 ch1 ta1 (tnO ch1 L1) tc1 na1 (nnO ch1 L1) nc1) t4 t32 _ zz hz iz ⟨_, _, _, _, _, _, _, _, _, _, rfl⟩ ?_
         refine hK.out undef _ ⟨HB, hz.put _, by simp [World.setRow], .inr ?_, fun h => absurd h (by decide)⟩
         intro jj hj hap h
         match jj, h with
         | 0, h => exact h
         | 1, h => exact h
         | 2, _ => exact absurd rfl hj
         | 3, g3_0 => exact g3_0.puto (by omega) _
         | 4, h => exact h
         | _ + 5, h => exact h
       refine Stps4.cons (o := _) ?_ ?_
       · intro f ac yw hsz hold hB hp hf K hK
         have e1 := hp 1 (by decide)
         have t33 : ac.tmps[33]? = some (.agg (plC sa2 r2 sc2 ch2 ta2 (tnO ch2 L2) tc2 na2 (nnO ch2 L2) nc2)) := (List.cons.inj e1).1
         have t5 : ac.tmps[5]? = some (.pointer (some ⟨w.heap.size + 1 + 1 + 1, 0, none⟩)) := hold 5 (by kernel_rfl)
         clear hold hp hsz hf e1
         rw [if_pos (by rfl)]
         obtain ⟨zz, hz, iz⟩ := hB.now.2.2.2
         have HB := KdP.put4 hB (by omega) (by omega) (by omega) (by omega) ((plC sa2 r2 sc2 ch2 ta2 (tnO ch2 L2) tc2 na2 (nnO ch2 L2) nc2)) ⟨_, _, _, _, _, _, _, _, _, _, rfl⟩
         refine stP 5 33 rfl (w.heap.size + 1 + 1 + 1) (plC sa2 r2 sc2 ch2 ta2 (tnO ch2 L2) tc2 na2 (nnO ch2 L2) nc2) t5 t33 _ zz hz iz ⟨_, _, _, _, _, _, _, _, _, _, rfl⟩ ?_
         refine hK.out undef _ ⟨HB, hz.put _, by simp [World.setRow], .inr ?_, fun h => absurd h (by decide)⟩
         intro jj hj hap h
         match jj, h with
         | 0, h => exact h
         | 1, h => exact h
         | 2, g2_0 => exact g2_0.puto (by omega) _
         | 3, _ => exact absurd rfl hj
         | 4, h => exact h
         | _ + 5, h => exact h
       refine Stps4.cons (o := _) ?_ ?_
       · intro f ac yw hsz hold hB hp hf K hK
         clear hold hp hsz hf
         go_simp
         exact hK.out _ _ ⟨hB, rfl, Nat.le_refl _, .inl (Below.refl _ _), fun h => absurd h (by decide)⟩
       exact Stps4.nil _
theorem exS_ins {q r k : Nat} {S s : Nat -> Int} (hq : q + 1 = r) (h : ∀ j, j < r -> j ≠ k -> insF S k 1 j = s j) : ∀ j, j < r -> insF S k 1 j = exS q S r s k j := fun j hj => by
 unfold exS exN
 rw [if_neg (by omega)]
 by_cases e : j = k
 · subst e; rw [ins_at, wi_at]
 · rw [wi_off _ e]; exact h j hj e
theorem exS_own {r k : Nat} {S s : Nat -> Int} (h : ∀ j, j < r -> j ≠ k -> S j = s j) : ∀ j, j < r -> S j = exS r S r s k j := fun j hj => by
 unfold exS exN
 rw [if_pos rfl]
 by_cases e : j = k
 · subst e; rw [wi_at]
 · rw [wi_off _ e]; exact h j hj e
theorem rready_any (cs : Array Value) (S : Nat -> Int) (q : Nat) (ch : Bool) (L : Nat) (g : Nat -> Int) (fB : Nat -> Bool) (fS fT : Nat -> ByteArray) (a : Option Addr) (r c : Nat) (s : Nat -> Int) (k : Nat) (w : World) (h : Pln w cs S q ch L g fB fS fT) (hs : KRow w .i64 a r c s) (hk : k < r) (hq8 : q <= 8) (hr8 : r <= 8) :
    Calls Tryz.prog 42 #[.agg cs, .slice a r c, .int .i64 (k : Nat)] w fun e w' => ∃ a' n' c', e = .returned (.tuple #[.slice a' n' c', .int .i64 (exE q S r s k)]) /\ (exE q S r s k = 0 -> n' = r /\ KRow w' .i64 a' r c' (exS q S r s k)) /\ Below w.heap.size w w' := by
 obtain ⟨sa, sc, ta, tc, na, nc, hcs, hks⟩ := h.form
 subst hcs
 have hl := hks.len
 have hl2 := hs.len
 have BB := Lib.hid ((((Bag.start w).krow hs).krow hks).newRow (plC sa q sc ch ta (tnO ch L) tc na (nnO ch L) nc) 26)
 have WT := Lib.hid (fun wz (h1 : KRow wz .i64 a r c s) => r7With_any a r c s (k : Nat) 1 wz h1 (by omega))
 have PT := Lib.hid (fun wz (h1 : KRow wz .i64 sa q sc S) (hk : k <= q) => rpart_any sa sc S q k wz h1 hk (by omega))
 have x0 : (w.alloc (.cells (plC sa q sc ch ta (tnO ch L) tc na (nnO ch L) nc) 26)).cell? ⟨w.heap.size, 0, none⟩ = some (.slice sa q sc) := BB.out.now.1.cell 0
 have w1 := IntWalk.i64_in ((r : Int) - 1) (by omega)
 clear h hs hks
 unfold plC at x0 BB
 unfold plC exE
 by_cases h0 : q = 0
 · rw [if_pos h0]
   have d0 : ((q : Int) == 0) = true := beq_iff_eq.2 (by omega)
   have HX : Hid (wiF s (k : Nat) 1 = exS q S r s k) := Lib.hid (by unfold exS exN; rw [if_neg (by omega)])
   clear h0 PT
   go_enter Tryz.func42, Tryz.ntmps42
   go_wp2_with fail
   go_at_call 82
   (refine (WT.out _ ?_).mono ?_)
   · exact BB.out.now.2.2.1
   rintro e w5 ⟨a5, c5, rfl, hk5, hb5⟩
   rw [HX.out] at hk5
   have HE := Lib.hid (And.intro hk5 (BB.out.go hb5).below)
   clear hb5 hk5
   go_wp2
   go_ret2
   exact ⟨_, _, _, rfl, fun _ => ⟨rfl, HE.out.1⟩, HE.out.2⟩
 · rw [if_neg h0]
   have d0 : ((q : Int) == 0) = false := beq_eq_false_iff_ne.2 (by omega)
   by_cases h1 : q + 1 = r
   · rw [if_pos h1]
     obtain ⟨E, hE⟩ : ∃ E : Int, (if neB (insF S k 1) s k r = true then (0 : Int) else 24) = E := ⟨_, rfl⟩
     have HE0 : Hid (neB (insF S k 1) s k r = true -> E = 0) := Lib.hid (fun h => by rw [← hE, if_pos h])
     have HE1 : Hid (neB (insF S k 1) s k r = false -> E = 24) := Lib.hid (fun h => by rw [← hE, h]; rfl)
     rw [hE]
     clear hE
     have d1 : ((q : Int) == (r : Int) - 1) = true := beq_iff_eq.2 (by omega)
     have e1 : ((q + 1 : Nat) : Int) = (r : Int) := by omega
     have d2 : ((r : Int) != (r : Int)) = false := bne_self_eq_false _
     have OW := Lib.hid (fun hn => exS_ins (k := k) (S := S) (s := s) h1 hn)
     have HR := Lib.hid h1
     have hkq : k <= q := by omega
     clear WT
     go_enter Tryz.func42, Tryz.ntmps42
     go_wp2_with fail
     go_at_call 49
     (refine (PT.out _ ?_ hkq).mono ?_)
     · exact BB.out.now.2.1
     rintro e w5 ⟨a5, c5, rfl, hk5, hb5⟩
     rw [HR.out] at hk5
     have BB := Lib.hid (BB.out.go hb5)
     have BB := Lib.hid ((BB.out.krow BB.out.now.2.2.1).krow hk5)
     clear hb5 hk5 x0
     simp only [HR.out]
     clear h1
     go_wp2_with fail
     obtain ⟨Y0, hY0⟩ : ∃ y, y = w5 := ⟨_, rfl⟩
     subst hY0
     go_loopw [9] (fun ii wr => ∃ j : Nat, j <= r /\ ii = .int .i64 j /\ Hid (Below Y0.heap.size Y0 wr /\ neB (insF S k 1) s k j = true)) (fun ii _ => r - (intOf ii).toNat)
     case atStart => exact ⟨0, by omega, rfl, Below.refl _ _, rfl⟩
     case round =>
      obtain ⟨j, hj, rfl, hrel⟩ := hrel
      obtain ⟨hbl, hne⟩ := hrel.out
      have BW := Lib.hid (BB.out.go hbl)
      by_cases hlt : j < r
      · obtain ⟨b, off, hao, hb, hc⟩ := BW.out.now.1.get hlt
        obtain ⟨b2, off2, has, hb2, hc2⟩ := BW.out.now.2.1.get hlt
        subst hao; subst has
        have hk0 : (0 : Int) <= j := by omega
        have hk1 : (j : Int) < r := by omega
        have HBL := Lib.hid hbl
        by_cases hjk : j = k
        · have dk : ((j : Int) != (k : Int)) = false := by rw [hjk]; exact bne_self_eq_false _
          have HN : Hid (neB (insF S k 1) s k (j + 1) = true) := Lib.hid (by show (neB (insF S k 1) s k j && _) = true; rw [hne, decide_eq_true hjk]; rfl)
          clear hbl hne hrel hjk
          generalize (insF S k 1) j = x at *
          generalize s j = y at *
          go_wp2_with fail
          go_quiet (fail)
          have HBE := Lib.hid (And.intro (below_drewN HBL.out nq) HN.out)
          go_wp2
          go_roundw
          case rel => exact ⟨j + 1, by omega, by go_num, HBE.out⟩
          case measure => simp [intOf]; omega
        · have dk : ((j : Int) != (k : Int)) = true := bne_iff_ne.2 (by omega)
          by_cases hq : (insF S k 1) j = s j
          · have HN : Hid (neB (insF S k 1) s k (j + 1) = true) := Lib.hid (by show (neB (insF S k 1) s k j && (_ || _)) = true; rw [hne, decide_eq_true hq, Bool.or_true]; rfl)
            clear hbl hne hrel hjk
            rw [← hq] at hc2
            have hnq : ((insF S k 1) j != (insF S k 1) j) = false := bne_self_eq_false _
            generalize (insF S k 1) j = x at *
            clear hq
            go_wp2_with fail
            go_quiet (fail)
            have HBE := Lib.hid (And.intro (below_drewN HBL.out nq) HN.out)
            go_wp2
            go_roundw
            case rel => exact ⟨j + 1, by omega, by go_num, HBE.out⟩
            case measure => simp [intOf]; omega
          · have hno : neB (insF S k 1) s k r = false := by
              cases hx : neB (insF S k 1) s k r with
              | false => rfl
              | true => exact absurd ((neB_iff.1 hx) j hlt hjk) hq
            have hE9 : E = 24 := HE1.out hno
            subst hE9
            have hnq : ((insF S k 1) j != s j) = true := bne_iff_ne.2 hq
            have HBE := Lib.hid BW.out.below
            clear hbl hne hrel hjk hno
            generalize (insF S k 1) j = x at *
            generalize s j = y at *
            clear hq
            go_wp2_with fail
            go_quiet (fail)
            have HBF := Lib.hid (below_drewN HBE.out nq)
            go_wp2
            go_ret2
            exact ⟨_, _, _, rfl, (fun e => by cases e), HBF.out⟩
      · have hjr : j = r := by omega
        subst j
        have hE9 : E = 0 := HE0.out hne
        subst hE9
        have HE : Hid (KRow wr .i64 a5 r c5 (exS q S r s k) /\ Below w.heap.size w wr) := Lib.hid ⟨BW.out.now.1.congr (OW.out (neB_iff.1 hne)), BW.out.below⟩
        clear hne hrel hbl
        go_wp2
        go_ret2
        exact ⟨_, _, _, rfl, ⟨rfl, HE.out.1⟩, HE.out.2⟩
   · rw [if_neg h1]
     have d1 : ((q : Int) == (r : Int) - 1) = false := beq_eq_false_iff_ne.2 (by omega)
     by_cases h2 : q = r
     · rw [if_pos h2]
       subst h2
       obtain ⟨E, hE⟩ : ∃ E : Int, (if neB S s k q = true then (0 : Int) else 24) = E := ⟨_, rfl⟩
       have HE0 : Hid (neB S s k q = true -> E = 0) := Lib.hid (fun h => by rw [← hE, if_pos h])
       have HE1 : Hid (neB S s k q = false -> E = 24) := Lib.hid (fun h => by rw [← hE, h]; rfl)
       rw [hE]
       clear hE
       have d2 : ((q : Int) != (q : Int)) = false := bne_self_eq_false _
       have OW := Lib.hid (fun hn => exS_own (r := q) (k := k) (S := S) (s := s) hn)
       clear WT PT
       go_enter Tryz.func42, Tryz.ntmps42
       go_wp2_with fail
       have BB := Lib.hid ((BB.out.krow BB.out.now.2.2.1).krow BB.out.now.2.1)
       clear x0
       generalize hW : w.alloc (.cells _ 26) = Y0 at *
       clear hW
       go_loopw [9] (fun ii wr => ∃ j : Nat, j <= q /\ ii = .int .i64 j /\ Hid (Below Y0.heap.size Y0 wr /\ neB S s k j = true)) (fun ii _ => q - (intOf ii).toNat)
       case atStart => exact ⟨0, by omega, rfl, Below.refl _ _, rfl⟩
       case round =>
        obtain ⟨j, hj, rfl, hrel⟩ := hrel
        obtain ⟨hbl, hne⟩ := hrel.out
        have BW := Lib.hid (BB.out.go hbl)
        by_cases hlt : j < q
        · obtain ⟨b, off, hao, hb, hc⟩ := BW.out.now.1.get hlt
          obtain ⟨b2, off2, has, hb2, hc2⟩ := BW.out.now.2.1.get hlt
          subst hao; subst has
          have hk0 : (0 : Int) <= j := by omega
          have hk1 : (j : Int) < q := by omega
          have HBL := Lib.hid hbl
          by_cases hjk : j = k
          · have dk : ((j : Int) != (k : Int)) = false := by rw [hjk]; exact bne_self_eq_false _
            have HN : Hid (neB S s k (j + 1) = true) := Lib.hid (by show (neB S s k j && _) = true; rw [hne, decide_eq_true hjk]; rfl)
            clear hbl hne hrel hjk
            generalize S j = x at *
            generalize s j = y at *
            go_wp2_with fail
            go_quiet (fail)
            have HBE := Lib.hid (And.intro (below_drewN HBL.out nq) HN.out)
            go_wp2
            go_roundw
            case rel => exact ⟨j + 1, by omega, by go_num, HBE.out⟩
            case measure => simp [intOf]; omega
          · have dk : ((j : Int) != (k : Int)) = true := bne_iff_ne.2 (by omega)
            by_cases hq : S j = s j
            · have HN : Hid (neB S s k (j + 1) = true) := Lib.hid (by show (neB S s k j && (_ || _)) = true; rw [hne, decide_eq_true hq, Bool.or_true]; rfl)
              clear hbl hne hrel hjk
              rw [← hq] at hc2
              have hnq : (S j != S j) = false := bne_self_eq_false _
              generalize S j = x at *
              clear hq
              go_wp2_with fail
              go_quiet (fail)
              have HBE := Lib.hid (And.intro (below_drewN HBL.out nq) HN.out)
              go_wp2
              go_roundw
              case rel => exact ⟨j + 1, by omega, by go_num, HBE.out⟩
              case measure => simp [intOf]; omega
            · have hno : neB S s k q = false := by
                cases hx : neB S s k q with
                | false => rfl
                | true => exact absurd ((neB_iff.1 hx) j hlt hjk) hq
              have hE9 : E = 24 := HE1.out hno
              subst hE9
              have hnq : (S j != s j) = true := bne_iff_ne.2 hq
              have HBE := Lib.hid BW.out.below
              clear hbl hne hrel hjk hno
              generalize S j = x at *
              generalize s j = y at *
              clear hq
              go_wp2_with fail
              go_quiet (fail)
              have HBF := Lib.hid (below_drewN HBE.out nq)
              go_wp2
              go_ret2
              exact ⟨_, _, _, rfl, (fun e => by cases e), HBF.out⟩
        · have hjq : j = q := by omega
          subst j
          have hE9 : E = 0 := HE0.out hne
          subst hE9
          have HE : Hid (KRow wr .i64 sa q sc (exS q S q s k) /\ Below w.heap.size w wr) := Lib.hid ⟨BW.out.now.1.congr (OW.out (neB_iff.1 hne)), BW.out.below⟩
          clear hne hrel hbl
          go_wp2
          go_ret2
          exact ⟨_, _, _, rfl, ⟨rfl, HE.out.1⟩, HE.out.2⟩
     · rw [if_neg h2]
       have d2 : ((q : Int) != (r : Int)) = true := bne_iff_ne.2 (by omega)
       have HE := Lib.hid BB.out.below
       clear WT PT h2
       go_enter Tryz.func42, Tryz.ntmps42
       go_wp2
       go_ret2
       exact ⟨_, _, _, rfl, (fun e => by cases e), HE.out⟩
def apF {α : Type} (n : Nat) (f g : Nat -> α) : Nat -> α := fun j => if j < n then f j else g (j - n)
theorem apF_fst {α : Type} {n j : Nat} {f g : Nat -> α} (h : j < n) : apF n f g j = f j := by unfold apF; rw [if_pos h]
theorem apF_snd {α : Type} (n j : Nat) (f g : Nat -> α) : apF n f g (n + j) = g j := by unfold apF; rw [if_neg (by omega), Nat.add_sub_cancel_left]
theorem own_keep {y y' : World} {base e size n e2 size2 n2 : Nat} {v v2 : Value} {xs xs2 : List Value} (h : y.ownsRow base e size v n xs) (h2 : y.ownsRow base e2 size2 v2 n2 xs2) (hne : e2 ≠ e) (hg : y.grownBy y' v2.ownBlock) : y'.ownsRow base e size v n xs := by
 refine ⟨h.1, h.2.imp id ?_⟩
 rintro ⟨g, cap, cur, rfl, hge, hh, h3⟩
 have hr : Row y g e cur := hh
 exact ⟨g, cap, cur, rfl, hge, hr.grown hg (hr.apart h2 hne), h3⟩
theorem OwnC.keep {y0 y y' : World} {a : Option Addr} {k c : Nat} {f : Nat -> Int} (h : OwnC y0 y a k c f) {e2 size2 n2 : Nat} {v2 : Value} {xs2 : List Value} (h2 : y.ownsRow y0.heap.size e2 size2 v2 n2 xs2) (hne : e2 ≠ 21) (hg : y.grownBy y' v2.ownBlock) (hb : Below y0.heap.size y0 y') : OwnC y0 y' a k c f := ⟨hb, own_keep h.2 h2 hne hg⟩
theorem ownC_new (y0 w : World) (f : Nat -> Int) (hb : Below y0.heap.size y0 w) : OwnC y0 (w.alloc (.cells #[] 21)) (some ⟨w.heap.size, 0, none⟩) 0 0 f :=
 ⟨hb.alloc hb.size _, ⟨rfl, .inr ⟨w.heap.size, 0, #[], rfl, hb.size, heap_alloc_new w _, Nat.le_refl _, Nat.zero_le _, rfl, rfl⟩⟩⟩
theorem ownC_more2 {y0 wr : World} {a a2 : Option Addr} {k c m c2 N : Nat} {f g F : Nat -> Int} (h : OwnC y0 wr a k c f) (h2 : KRow y0 .i32 a2 m c2 g) (hN : k + m = N) (hm : N <= 1000000) (e1 : ∀ j, j < k -> F j = f j) (e2 : ∀ j, j < m -> F (k + j) = g j) :
    ∃ a' c' y1, (Builtin.append_ #[23, 23] 23 #[.slice a k c, .slice a2 m c2]).run Tryz.prog wr = .ok (.slice a' N c') y1 /\ OwnC y0 y1 a' N c' F /\ wr.grownBy y1 (Value.slice a k c).ownBlock := by
 obtain ⟨i0, hi, hz0, hz1, hz2⟩ := info_parts infoC
 have hs0 := h.1.size
 have ek := kcs_app1 .i32 e1 e2
 subst hN
 cases a2 with
 | none =>
  have hm : m = 0 := by
   rcases h2.2.2 with h | ⟨_, _, h, _⟩
   · exact h
   · cases h
  subst hm
  have ho := h.2
  rw [show kcs .i32 g 0 = [] from rfl, List.append_nil] at ek
  rw [ek] at ho
  exact ⟨_, _, _, append_none1 y0.heap.size _ 21 i0 1 Tryz.underlying23 hi _ _ _ c2 ho, ⟨h.1, ho⟩, rfl, rfl, rfl, Nat.le_refl _, fun _ _ _ => rfl⟩
 | some ad =>
  obtain ⟨b9, off9, sp⟩ := ad
  have h3 := h2.below h.1
  have hnews : ∀ i u, (kcs .i32 g m)[i]? = some u -> wr.cell? ((⟨b9, off9, sp⟩ : Addr).add i) = some u := by
   rcases h3.2.2 with h0 | ⟨_, _, e, _⟩
   · rw [h0]; intro i u hu; simp [kcs] at hu
   · cases e; exact krow_news h3
  obtain ⟨v', w', r1, r2, r3, _⟩ := run_append_own (P := Tryz.prog) wr y0.heap.size 23 23 21 i0 _ 1 4 Tryz.underlying23 hi hz0 hz1 hz2 rfl (by omega) _ k _ h.2 ⟨b9, off9, sp⟩ m c2 (kcs .i32 g m) (by rw [kcs_length, Nat.mul_one]) hnews (kcs_one .i32 g m) (by unfold maxLen; omega) (by omega) hs0
  rw [ek] at r2
  obtain ⟨a', c', rfl, _⟩ := KRow.of_own r2
  exact ⟨a', c', w', r1, ⟨h.1.grown r3 (by omega) (fun q hq => (h.2.lt q hq).1), r2⟩, r3⟩
theorem step_ownC {ops : Array Oper} {o : Oper} {a : Act} {K : Act -> World -> Prop} {Q : Exit -> Act -> World -> Prop} {E : Prop} {y0 wr : World} (hgd : o.guard = none) (s x : Operand)
    (ho : o.op = .call { callee := .builtin .append, args := #[s, x], argTypes := #[23, 23] }) (hot : o.type = 23) {a0 a2 : Option Addr} {k c m c2 N : Nat} {f g F : Nat -> Int} (hs : a.eval s = .slice a0 k c) (hx : a.eval x = .slice a2 m c2)
    (h : OwnC y0 wr a0 k c f) (h2 : KRow y0 .i32 a2 m c2 g) (hN : k + m = N) (hm : N <= 1000000) (e1 : ∀ j, j < k -> F j = f j) (e2 : ∀ j, j < m -> F (k + j) = g j)
    (hK : ∀ a' c' y1, OwnC y0 y1 a' N c' F -> wr.grownBy y1 (Value.slice a0 k c).ownBlock -> K (a.put o.dst (.slice a' N c')) y1) : if Region.wanted o (yielded ops a.tmps) = true then Oper.wp Tryz.prog o a wr K Q else E := by
 obtain ⟨a', c', y1, r1, r2, r3⟩ := ownC_more2 h h2 hN hm e1 e2
 exact step_append_run9 wr hgd s x _ _ ho _ _ hs hx _ _ (by rw [hot]; exact r1) (hK a' c' y1 r2 r3)
def OwnQ (y0 w : World) (a : Option Addr) (k c : Nat) (fB : Nat -> Bool) (fS fT : Nat -> ByteArray) : Prop := Below y0.heap.size y0 w /\ w.ownsRow y0.heap.size 57 3 (.slice a k c) k (qcs fB fS fT k)
theorem OwnQ.qrow {y0 w : World} {a : Option Addr} {k c : Nat} {fB : Nat -> Bool} {fS fT : Nat -> ByteArray} (h : OwnQ y0 w a k c fB fS fT) : QRow w a k c fB fS fT := by
 obtain ⟨a', c', e, q⟩ := QRow.of_own h.2
 cases e
 exact q
theorem OwnQ.ofRow {y0 w : World} {g : Nat} (h : Row w g 57 #[]) (hg : y0.heap.size <= g) (hb : Below y0.heap.size y0 w) (fB : Nat -> Bool) (fS fT : Nat -> ByteArray) : OwnQ y0 w (some ⟨g, 0, none⟩) 0 0 fB fS fT :=
 ⟨hb, ⟨rfl, .inr ⟨g, 0, #[], rfl, hg, h, Nat.le_refl _, Nat.zero_le _, rfl, rfl⟩⟩⟩
theorem qcs_congr {fB fB' : Nat -> Bool} {fS fT fS' fT' : Nat -> ByteArray} : ∀ {n : Nat}, (∀ j, j < n -> fB j = fB' j /\ fS j = fS' j /\ fT j = fT' j) -> qcs fB fS fT n = qcs fB' fS' fT' n
 | 0, _ => rfl
 | n + 1, h => by unfold qcs; rw [qcs_congr (fun j hj => h j (by omega)), (h n (by omega)).1, (h n (by omega)).2.1, (h n (by omega)).2.2]
theorem qcs_app1 {FB fB gB : Nat -> Bool} {FS FT fS fT gS gT : Nat -> ByteArray} {k : Nat} (h1 : ∀ j, j < k -> FB j = fB j /\ FS j = fS j /\ FT j = fT j) : ∀ {m : Nat}, (∀ j, j < m -> FB (k + j) = gB j /\ FS (k + j) = gS j /\ FT (k + j) = gT j) -> qcs fB fS fT k ++ qcs gB gS gT m = qcs FB FS FT (k + m)
 | 0, _ => by
  rw [show qcs gB gS gT 0 = [] from rfl, List.append_nil, Nat.add_zero]
  exact (qcs_congr h1).symm
 | m + 1, h2 => by
  show qcs fB fS fT k ++ (qcs gB gS gT m ++ [.bool (gB m), .string (gS m), .string (gT m)]) = qcs FB FS FT (k + m) ++ [.bool (FB (k + m)), .string (FS (k + m)), .string (FT (k + m))]
  obtain ⟨e1, e2, e3⟩ := h2 m (by omega)
  rw [← List.append_assoc, qcs_app1 h1 (fun j hj => h2 j (by omega)), e1, e2, e3]
theorem qcs_one (fB : Nat -> Bool) (fS fT : Nat -> ByteArray) : ∀ n, ∀ u ∈ qcs fB fS fT n, u.oneCell' = true
 | 0, u, hu => by cases hu
 | n + 1, u, hu => by
  unfold qcs at hu
  rcases List.mem_append.1 hu with h | h
  · exact qcs_one fB fS fT n u h
  · simp at h
    rcases h with rfl | rfl | rfl <;> rfl
theorem qrow_news {w : World} {b off n c : Nat} {fB : Nat -> Bool} {fS fT : Nat -> ByteArray} (h : QRow w (some ⟨b, off, none⟩) n c fB fS fT) : ∀ j u, (qcs fB fS fT n)[j]? = some u -> w.cell? ((⟨b, off, none⟩ : Addr).add j) = some u := by
 have hp : ∀ i, i < n * 3 -> ∀ u, (qcs fB fS fT n)[i]? = some u -> w.cell? ⟨b, off + i, none⟩ = some u := three (p := fun i => ∀ u, (qcs fB fS fT n)[i]? = some u -> w.cell? ⟨b, off + i, none⟩ = some u) fun j hj => by
  rcases h.2.2 with h0 | ⟨b', off', e, _, hc⟩
  · omega
  · cases e
    obtain ⟨e1, e2, e3⟩ := qcs_get fB fS fT n j hj
    obtain ⟨c1, c2, c3⟩ := hc j hj
    refine ⟨fun u hu => ?_, fun u hu => ?_, fun u hu => ?_⟩
    · rw [e1] at hu; rw [← hu]; exact c1
    · rw [e2] at hu; rw [← hu]; exact c2
    · rw [e3] at hu; rw [← hu]; exact c3
 intro j u hu
 have hj : j < n * 3 := by
  have := (List.getElem?_eq_some_iff.1 hu).1
  rwa [qcs_length] at this
 rw [show (⟨b, off, none⟩ : Addr).add j = ⟨b, off + j, none⟩ by simp [Addr.add]]
 exact hp j hj u hu
theorem ownQ_more {y0 wr : World} {a a2 : Option Addr} {k c m c2 N : Nat} {fB gB FB : Nat -> Bool} {fS fT gS gT FS FT : Nat -> ByteArray} (h : OwnQ y0 wr a k c fB fS fT) (h2 : QRow y0 a2 m c2 gB gS gT) (hN : k + m = N) (hm : N <= 1000000) (e1 : ∀ j, j < k -> FB j = fB j /\ FS j = fS j /\ FT j = fT j) (e2 : ∀ j, j < m -> FB (k + j) = gB j /\ FS (k + j) = gS j /\ FT (k + j) = gT j) :
    ∃ a' c' y1, (Builtin.append_ #[24, 24] 24 #[.slice a k c, .slice a2 m c2]).run Tryz.prog wr = .ok (.slice a' N c') y1 /\ OwnQ y0 y1 a' N c' FB FS FT /\ wr.grownBy y1 (Value.slice a k c).ownBlock := by
 obtain ⟨i0, hi, hz0, hz1, hz2⟩ := info_parts infoN
 have hs0 := h.1.size
 have ek := qcs_app1 e1 e2
 subst hN
 cases a2 with
 | none =>
  have hm : m = 0 := by
   rcases h2.2.2 with h | ⟨_, _, h, _⟩
   · exact h
   · cases h
  subst hm
  have ho := h.2
  rw [show qcs gB gS gT 0 = [] from rfl, List.append_nil] at ek
  rw [ek] at ho
  exact ⟨_, _, _, append_none1 y0.heap.size _ 57 i0 3 Tryz.underlying24 hi _ _ _ c2 ho, ⟨h.1, ho⟩, rfl, rfl, rfl, Nat.le_refl _, fun _ _ _ => rfl⟩
 | some ad =>
  obtain ⟨b9, off9, sp⟩ := ad
  have h3 := h2.below h.1
  have hnews : ∀ i u, (qcs gB gS gT m)[i]? = some u -> wr.cell? ((⟨b9, off9, sp⟩ : Addr).add i) = some u := by
   rcases h3.2.2 with h0 | ⟨_, _, e, _⟩
   · rw [h0]; intro i u hu; simp [qcs] at hu
   · cases e; exact qrow_news h3
  obtain ⟨v', w', r1, r2, r3, _⟩ := run_append_own (P := Tryz.prog) wr y0.heap.size 24 24 57 i0 _ 3 40 Tryz.underlying24 hi hz0 hz1 hz2 rfl (by omega) _ k _ h.2 ⟨b9, off9, sp⟩ m c2 (qcs gB gS gT m) (by rw [qcs_length]) hnews (qcs_one gB gS gT m) (by unfold maxLen; omega) (by omega) hs0
  rw [ek] at r2
  obtain ⟨a', c', rfl, _⟩ := QRow.of_own r2
  exact ⟨a', c', w', r1, ⟨h.1.grown r3 (by omega) (fun q hq => (h.2.lt q hq).1), r2⟩, r3⟩
theorem step_ownQ {ops : Array Oper} {o : Oper} {a : Act} {K : Act -> World -> Prop} {Q : Exit -> Act -> World -> Prop} {E : Prop} {y0 wr : World} (hgd : o.guard = none) (s x : Operand)
    (ho : o.op = .call { callee := .builtin .append, args := #[s, x], argTypes := #[24, 24] }) (hot : o.type = 24) {a0 a2 : Option Addr} {k c m c2 N : Nat} {fB gB FB : Nat -> Bool} {fS fT gS gT FS FT : Nat -> ByteArray} (hs : a.eval s = .slice a0 k c) (hx : a.eval x = .slice a2 m c2)
    (h : OwnQ y0 wr a0 k c fB fS fT) (h2 : QRow y0 a2 m c2 gB gS gT) (hN : k + m = N) (hm : N <= 1000000) (e1 : ∀ j, j < k -> FB j = fB j /\ FS j = fS j /\ FT j = fT j) (e2 : ∀ j, j < m -> FB (k + j) = gB j /\ FS (k + j) = gS j /\ FT (k + j) = gT j)
    (hK : ∀ a' c' y1, OwnQ y0 y1 a' N c' FB FS FT -> wr.grownBy y1 (Value.slice a0 k c).ownBlock -> K (a.put o.dst (.slice a' N c')) y1) : if Region.wanted o (yielded ops a.tmps) = true then Oper.wp Tryz.prog o a wr K Q else E := by
 obtain ⟨a', c', y1, r1, r2, r3⟩ := ownQ_more h h2 hN hm e1 e2
 exact step_append_run9 wr hgd s x _ _ ho _ _ hs hx _ _ (by rw [hot]; exact r1) (hK a' c' y1 r2 r3)
theorem rboth_any (x1 : Array Value) (S1 : Nat -> Int) (r1 : Nat) (ch : Bool) (L1 : Nat) (g1 : Nat -> Int) (B1 : Nat -> Bool) (s1 t1 : Nat -> ByteArray) (x2 : Array Value) (S2 : Nat -> Int) (r2 : Nat) (L2 : Nat) (g2 : Nat -> Int) (B2 : Nat -> Bool) (s2 t2 : Nat -> ByteArray) (w : World) (h1 : Pln w x1 S1 r1 ch L1 g1 B1 s1 t1) (h2 : Pln w x2 S2 r2 ch L2 g2 B2 s2 t2)
    (hL1 : L1 <= 400000) (hL2 : L2 <= 400000) :
    Calls Tryz.prog 86 #[.agg x1, .agg x2] w fun e w' => ∃ cs, e = .returned (.agg cs) /\ (∀ S, Pln w' cs S 0 ch (L1 + L2) (apF L1 g1 g2) (apF L1 B1 B2) (apF L1 s1 s2) (apF L1 t1 t2)) /\ Below w.heap.size w w' := by
 obtain ⟨sa1, sc1, ta1, tc1, na1, nc1, hx1, _, hT1, hN1⟩ := h1
 subst hx1
 obtain ⟨sa2, sc2, ta2, tc2, na2, nc2, hx2, _, hT2, hN2⟩ := h2
 subst hx2
 have et : tnO ch (L1 + L2) = tnO ch L1 + tnO ch L2 := by unfold tnO; cases ch <;> rfl
 have en : nnO ch (L1 + L2) = nnO ch L1 + nnO ch L2 := by unfold nnO; cases ch <;> rfl
 have b1 := nnO_le ch L1
 have b2 := nnO_le ch L2
 have EC1 : Hid (∀ j, j < tnO ch L1 -> apF L1 g1 g2 (0 + j) = g1 j) := Lib.hid (fun j hj => by rw [Nat.zero_add]; exact apF_fst (by omega))
 have EC2 : Hid (∀ j, j < tnO ch L2 -> apF L1 g1 g2 (tnO ch L1 + j) = g2 j) := Lib.hid (fun j hj => by
  have e : tnO ch L1 = L1 := by cases ch with
   | true => rfl
   | false => exact absurd hj (Nat.not_lt_zero _)
  rw [e]; exact apF_snd _ _ _ _)
 have EQ1 : Hid (∀ j, j < nnO ch L1 -> apF L1 B1 B2 (0 + j) = B1 j /\ apF L1 s1 s2 (0 + j) = s1 j /\ apF L1 t1 t2 (0 + j) = t1 j) := Lib.hid (fun j hj => by rw [Nat.zero_add]; exact ⟨apF_fst (by omega), apF_fst (by omega), apF_fst (by omega)⟩)
 have EQ2 : Hid (∀ j, j < nnO ch L2 -> apF L1 B1 B2 (nnO ch L1 + j) = B2 j /\ apF L1 s1 s2 (nnO ch L1 + j) = s2 j /\ apF L1 t1 t2 (nnO ch L1 + j) = t2 j) := Lib.hid (fun j hj => by
  have e : nnO ch L1 = L1 := by cases ch with
   | false => rfl
   | true => exact absurd hj (Nat.not_lt_zero _)
  rw [e]; exact ⟨apF_snd _ _ _ _, apF_snd _ _ _ _, apF_snd _ _ _ _⟩)
 unfold Pln
 rw [et, en]
 generalize apF L1 g1 g2 = FG at *
 generalize apF L1 B1 B2 = FB at *
 generalize apF L1 s1 s2 = FS at *
 generalize apF L1 t1 t2 = FT at *
 have T1 := Lib.hid hT1
 have T2 := Lib.hid hT2
 have N1 := Lib.hid hN1
 have N2 := Lib.hid hN2
 generalize tnO ch L1 = m1 at *
 generalize tnO ch L2 = m2 at *
 generalize nnO ch L1 = n1 at *
 generalize nnO ch L2 = n2 at *
 have BB0 := Lib.hid ((((Bag.start w).newRow (plC sa1 r1 sc1 ch ta1 m1 tc1 na1 n1 nc1) 26).newRow (plC sa2 r2 sc2 ch ta2 m2 tc2 na2 n2 nc2) 26).newRow plZer 26)
 simp only [World.size_alloc] at BB0
 have BB := Lib.hid (show Bag w (fun y => Row y w.heap.size 26 (plC sa1 r1 sc1 ch ta1 m1 tc1 na1 n1 nc1) /\ Row y (w.heap.size + 1) 26 (plC sa2 r2 sc2 ch ta2 m2 tc2 na2 n2 nc2) /\ Row y (w.heap.size + 1 + 1) 26 plZer /\ True) _ from ⟨BB0.out.below, fun a b hb ⟨q1, q2, q3, _⟩ => ⟨q1.below hb, q2.below hb, q3.below hb, trivial⟩, BB0.out.now.2.2.1, BB0.out.now.2.1, BB0.out.now.1, trivial⟩)
 unfold plZer at BB
 unfold plC at BB
 clear hT1 hT2 hN1 hN2 BB0 et en
 unfold plC
 go_enter Tryz.func86, Tryz.ntmps86
 go_wp2_with fail
 generalize hW : (((w.alloc (.cells _ 26)).alloc (.cells _ 26)).alloc (.cells _ 26)) = YY at *
 clear hW
 have TY1 : Hid (KRow YY .i32 ta1 m1 tc1 g1) := Lib.hid (T1.out.below BB.out.below)
 have TY2 : Hid (KRow YY .i32 ta2 m2 tc2 g2) := Lib.hid (T2.out.below BB.out.below)
 have NY1 : Hid (QRow YY na1 n1 nc1 B1 s1 t1) := Lib.hid (N1.out.below BB.out.below)
 have NY2 : Hid (QRow YY na2 n2 nc2 B2 s2 t2) := Lib.hid (N2.out.below BB.out.below)
 clear T1 T2 N1 N2
 have HSF : Hid (∀ y, Below YY.heap.size YY y -> y.cell? ⟨w.heap.size, 1, none⟩ = some (.bool ch) /\ y.cell? ⟨w.heap.size, 2, none⟩ = some (.slice ta1 m1 tc1) /\ y.cell? ⟨w.heap.size, 3, none⟩ = some (.slice na1 n1 nc1) /\ y.cell? ⟨w.heap.size + 1, 2, none⟩ = some (.slice ta2 m2 tc2) /\ y.cell? ⟨w.heap.size + 1, 3, none⟩ = some (.slice na2 n2 nc2)) := Lib.hid (fun y hb => ⟨(BB.out.now.1.below hb).cell 1, (BB.out.now.1.below hb).cell 2, (BB.out.now.1.below hb).cell 3, (BB.out.now.2.1.below hb).cell 2, (BB.out.now.2.1.below hb).cell 3⟩)
 have HSP : Hid (∀ y a b c d, Below YY.heap.size YY y -> ((((y.setCell ⟨w.heap.size + 1 + 1, 0, none⟩ a).setCell ⟨w.heap.size + 1 + 1, 1, none⟩ b).setCell ⟨w.heap.size + 1 + 1, 2, none⟩ c).setCell ⟨w.heap.size + 1 + 1, 3, none⟩ d).cell? ⟨w.heap.size, 1, none⟩ = some (.bool ch) /\ ((((y.setCell ⟨w.heap.size + 1 + 1, 0, none⟩ a).setCell ⟨w.heap.size + 1 + 1, 1, none⟩ b).setCell ⟨w.heap.size + 1 + 1, 2, none⟩ c).setCell ⟨w.heap.size + 1 + 1, 3, none⟩ d).cell? ⟨w.heap.size, 2, none⟩ = some (.slice ta1 m1 tc1) /\ ((((y.setCell ⟨w.heap.size + 1 + 1, 0, none⟩ a).setCell ⟨w.heap.size + 1 + 1, 1, none⟩ b).setCell ⟨w.heap.size + 1 + 1, 2, none⟩ c).setCell ⟨w.heap.size + 1 + 1, 3, none⟩ d).cell? ⟨w.heap.size, 3, none⟩ = some (.slice na1 n1 nc1) /\ ((((y.setCell ⟨w.heap.size + 1 + 1, 0, none⟩ a).setCell ⟨w.heap.size + 1 + 1, 1, none⟩ b).setCell ⟨w.heap.size + 1 + 1, 2, none⟩ c).setCell ⟨w.heap.size + 1 + 1, 3, none⟩ d).cell? ⟨w.heap.size + 1, 2, none⟩ = some (.slice ta2 m2 tc2) /\ ((((y.setCell ⟨w.heap.size + 1 + 1, 0, none⟩ a).setCell ⟨w.heap.size + 1 + 1, 1, none⟩ b).setCell ⟨w.heap.size + 1 + 1, 2, none⟩ c).setCell ⟨w.heap.size + 1 + 1, 3, none⟩ d).cell? ⟨w.heap.size + 1, 3, none⟩ = some (.slice na2 n2 nc2)) := Lib.hid (fun y a b c d hb => by
  have hf := far_put4 y (w.heap.size + 1 + 1) a b c d
  have q1 : Row (put4 y (w.heap.size + 1 + 1) a b c d) w.heap.size 26 _ := (hf.block _ (by omega) (BB.out.now.1.below hb).lt).trans (BB.out.now.1.below hb)
  have q2 : Row (put4 y (w.heap.size + 1 + 1) a b c d) (w.heap.size + 1) 26 _ := (hf.block _ (by omega) (BB.out.now.2.1.below hb).lt).trans (BB.out.now.2.1.below hb)
  exact ⟨q1.cell 1, q1.cell 2, q1.cell 3, q2.cell 2, q2.cell 3⟩)
 have HP : Hid (∀ y, Below YY.heap.size YY y -> Row y (w.heap.size + 1 + 1) 26 #[.slice none 0 0, .bool false, .slice none 0 0, .slice none 0 0]) := Lib.hid (fun y hb => BB.out.now.2.2.1.below hb)
 have HWB : Hid (Below w.heap.size w YY) := Lib.hid BB.out.below
 have B0 : Hid (Below YY.heap.size YY YY.drew) := Lib.hid (Below.refl _ YY).drew
 have HA := Lib.hid (ownC_new YY YY.drew FG B0.out)
 have HB := Lib.hid (HA.out.go ((Below.refl (YY.drew.alloc (.cells #[] 21)).heap.size (YY.drew.alloc (.cells #[] 21))).alloc (Nat.le_refl _) (.cells #[] 57)))
 have RB : Hid (Row ((YY.drew.alloc (.cells #[] 21)).alloc (.cells #[] 57)) (YY.heap.size + 1) 57 #[]) := Lib.hid (by have q := Row.new (YY.drew.alloc (.cells #[] 21)) 57 #[]; rw [World.size_alloc] at q; exact q)
 have HC : Hid (OwnC YY ((YY.drew.alloc (.cells #[] 57)).alloc (.cells #[] 21)) (some ⟨YY.heap.size + 1, 0, none⟩) 0 0 FG) := Lib.hid (by have q := ownC_new YY (YY.drew.alloc (.cells #[] 57)) FG (B0.out.alloc B0.out.size _); rw [World.size_alloc] at q; exact q)
 have RC : Hid (Row ((YY.drew.alloc (.cells #[] 57)).alloc (.cells #[] 21)) YY.heap.size 57 #[]) := Lib.hid ((Row.new YY.drew 57 #[]).below ((Below.refl _ _).alloc (Nat.le_refl _) (.cells #[] 21)))
 have BD : Hid (Below YY.heap.size YY (YY.alloc (.cells #[] 21)).drew /\ Below YY.heap.size YY (YY.alloc (.cells #[] 57)).drew /\ Below YY.heap.size YY ((YY.alloc (.cells #[] 21)).alloc (.cells #[] 57)).drew /\ Below YY.heap.size YY ((YY.alloc (.cells #[] 57)).alloc (.cells #[] 21)).drew) := Lib.hid ⟨((Below.refl _ _).alloc (Nat.le_refl _) _).drew, ((Below.refl _ _).alloc (Nat.le_refl _) _).drew, (((Below.refl _ _).alloc (Nat.le_refl _) _).alloc (by rw [World.size_alloc]; omega) _).drew, (((Below.refl _ _).alloc (Nat.le_refl _) _).alloc (by rw [World.size_alloc]; omega) _).drew⟩
 clear BB
 go_region_held3 (fun y => y.cell? ⟨w.heap.size, 1, none⟩ = some (.bool ch) /\ y.cell? ⟨w.heap.size, 2, none⟩ = some (.slice ta1 m1 tc1) /\ y.cell? ⟨w.heap.size, 3, none⟩ = some (.slice na1 n1 nc1) /\ y.cell? ⟨w.heap.size + 1, 2, none⟩ = some (.slice ta2 m2 tc2) /\ y.cell? ⟨w.heap.size + 1, 3, none⟩ = some (.slice na2 n2 nc2))
  (first
    | with_reducible exact HSF.out _ B0.out
    | with_reducible exact HSF.out _ BD.out.1
    | with_reducible exact HSF.out _ BD.out.2.1
    | with_reducible exact HSF.out _ BD.out.2.2.1
    | with_reducible exact HSF.out _ BD.out.2.2.2
    | (have hq := ho5.1; with_reducible exact HSF.out _ hq)
    | (have hq := ho5.1; with_reducible exact HSF.out _ (hq.alloc hq.size _))
    | (have hq := ho8.1; with_reducible exact HSF.out _ hq)
    | (have hq := ho8.1; with_reducible exact HSF.out _ (hq.alloc hq.size _))
    | (have hq := ho12.1; with_reducible exact HSF.out _ hq)
    | (have hq := ho15.1; with_reducible exact HSF.out _ hq)
    | (have hq := ho15.1; with_reducible exact HSP.out _ _ _ _ _ hq))
  (first
    | (refine step_ownC rfl (.tmp 7) (.tmp 9) rfl rfl rfl rfl HA.out TY1.out (Nat.zero_add m1) (by omega) (fun _ h => absurd h (Nat.not_lt_zero _)) EC1.out ?_; intro a5 c5 y5 ho5 hg5)
    | (refine step_ownC rfl (.tmp 7) (.tmp 9) rfl rfl rfl rfl HB.out TY1.out (Nat.zero_add m1) (by omega) (fun _ h => absurd h (Nat.not_lt_zero _)) EC1.out ?_; intro a5 c5 y5 ho5 hg5; have hr5 : Hid (Row y5 (YY.heap.size + 1) 57 #[] /\ YY.heap.size <= YY.heap.size + 1) := Lib.hid ⟨RB.out.grown hg5 (RB.out.apart HB.out.2 (by decide)), by omega⟩)
    | (refine step_ownC rfl (.tmp 7) (.tmp 9) rfl rfl rfl rfl HC.out TY1.out (Nat.zero_add m1) (by omega) (fun _ h => absurd h (Nat.not_lt_zero _)) EC1.out ?_; intro a5 c5 y5 ho5 hg5; have hr5 : Hid (Row y5 YY.heap.size 57 #[] /\ YY.heap.size <= YY.heap.size) := Lib.hid ⟨RC.out.grown hg5 (RC.out.apart HC.out.2 (by decide)), by omega⟩)
    | (refine step_ownC rfl (.tmp 10) (.tmp 12) rfl rfl rfl rfl ho5 TY2.out rfl (by omega) (fun _ _ => rfl) EC2.out ?_; intro a8 c8 y8 ho8 hg8; have hr8 := Lib.hid (And.intro (hr5.out.1.grown hg8 (hr5.out.1.apart ho5.2 (by decide))) hr5.out.2))
    | (refine step_ownC rfl (.tmp 10) (.tmp 12) rfl rfl rfl rfl (ho5.go ((Below.refl _ _).alloc (Nat.le_refl _) _)) TY2.out rfl (by omega) (fun _ _ => rfl) EC2.out ?_; intro a8 c8 y8 ho8 hg8; have hr8 := Lib.hid (And.intro ((Row.new y5 57 #[]).grown hg8 ((Row.new y5 57 #[]).apart (ho5.go ((Below.refl _ _).alloc (Nat.le_refl _) _)).2 (by decide))) ho5.1.size))
    | (refine step_ownC rfl (.tmp 10) (.tmp 12) rfl rfl rfl rfl ho5 TY2.out rfl (by omega) (fun _ _ => rfl) EC2.out ?_; intro a8 c8 y8 ho8 hg8)
    | (refine step_ownQ rfl (.tmp 14) (.tmp 16) rfl rfl rfl rfl (OwnQ.ofRow hr8.out.1 hr8.out.2 ho8.1 FB FS FT) NY1.out (Nat.zero_add n1) (by omega) (fun _ h => absurd h (Nat.not_lt_zero _)) EQ1.out ?_; intro a12 c12 y12 ho12 hg12; have hc12 := Lib.hid (ho8.keep (OwnQ.ofRow hr8.out.1 hr8.out.2 ho8.1 FB FS FT).2 (by decide) hg12 ho12.1))
    | (refine step_ownQ rfl (.tmp 14) (.tmp 16) rfl rfl rfl rfl (OwnQ.ofRow (Row.new y8 57 #[]) ho8.1.size (ho8.1.alloc ho8.1.size _) FB FS FT) NY1.out (Nat.zero_add n1) (by omega) (fun _ h => absurd h (Nat.not_lt_zero _)) EQ1.out ?_; intro a12 c12 y12 ho12 hg12; have hc12 := Lib.hid ((ho8.go ((Below.refl _ _).alloc (Nat.le_refl _) _)).keep (OwnQ.ofRow (Row.new y8 57 #[]) ho8.1.size (ho8.1.alloc ho8.1.size _) FB FS FT).2 (by decide) hg12 ho12.1))
    | (refine step_ownQ rfl (.tmp 17) (.tmp 19) rfl rfl rfl rfl ho12 NY2.out rfl (by omega) (fun _ _ => ⟨rfl, rfl, rfl⟩) EQ2.out ?_; intro a15 c15 y15 ho15 hg15; have hc15 := Lib.hid (hc12.out.keep ho12.2 (by decide) hg15 ho15.1); have l0 := (HP.out _ ho15.1).cell 0; have l1 := (HP.out _ ho15.1).cell 1; have l2 := (HP.out _ ho15.1).cell 2; have l3 := (HP.out _ ho15.1).cell 3; have f0 := (HP.out _ ho15.1).free 0; have f1 := (HP.out _ ho15.1).free 1; have f2 := (HP.out _ ho15.1).free 2; have f3 := (HP.out _ ho15.1).free 3))
 all_goals (
  have HE : Hid ((∀ S, PlnAt (put4 y15 (w.heap.size + 1 + 1) (.slice none 0 0) (.bool ch) (.slice a8 (m1 + m2) c8) (.slice a15 (n1 + n2) c15)) (plC none 0 0 ch a8 (m1 + m2) c8 a15 (n1 + n2) c15) S 0 ch FG (m1 + m2) FB FS FT (n1 + n2)) /\ Row (put4 y15 (w.heap.size + 1 + 1) (.slice none 0 0) (.bool ch) (.slice a8 (m1 + m2) c8) (.slice a15 (n1 + n2) c15)) (w.heap.size + 1 + 1) 26 #[.slice none 0 0, .bool ch, .slice a8 (m1 + m2) c8, .slice a15 (n1 + n2) c15] /\ Below w.heap.size w (put4 y15 (w.heap.size + 1 + 1) (.slice none 0 0) (.bool ch) (.slice a8 (m1 + m2) c8) (.slice a15 (n1 + n2) c15))) :=
   Lib.hid ⟨fun S => PlnAt.away (⟨none, 0, a8, c8, a15, c15, rfl, KRow.nought _ _ _ _ (Nat.zero_le _) _, hc15.out.krow, ho15.qrow⟩ : PlnAt y15 (plC none 0 0 ch a8 (m1 + m2) c8 a15 (n1 + n2) c15) S 0 ch FG (m1 + m2) FB FS FT (n1 + n2)) (HP.out _ ho15.1) (noInt_pl none 0 0 false none 0 0 none 0 0) (noStr_pl none 0 0 false none 0 0 none 0 0) (far_put4 _ _ _ _ _ _), row_put4 (HP.out _ ho15.1) _ _ _ _, below_put4 (HWB.out.trans (ho15.1.mono HWB.out.size)) (by omega) _ _ _ _⟩
  clear ho5 hg5 ho8 hg8 ho12 hg12 ho15 hg15 hc12 hc15 l0 l1 l2 l3 f0 f1 f2 f3
  go_wp2_with fail
  exact bodyPost_ret (res_pln Tryz.results86 rfl HE.out.2.1 rfl) rfl ⟨_, rfl, HE.out.1, HE.out.2.2⟩)
def jpF (q : Nat) (x : Nat -> Int) (r : Nat) (d : Nat -> Int) : Int := if q = 0 then 0 else if inB x d r then plc x d r else -1
theorem rplace_any (cs : Array Value) (S : Nat -> Int) (q : Nat) (ch : Bool) (L : Nat) (g : Nat -> Int) (fB : Nat -> Bool) (fS fT : Nat -> ByteArray) (a : Option Addr) (r c : Nat) (x : Nat -> Int) (a2 : Option Addr) (c2 : Nat) (d : Nat -> Int) (w : World) (h : Pln w cs S q ch L g fB fS fT) (k1 : KRow w .i64 a r c x) (k2 : KRow w .i64 a2 r c2 d) (hax : axB x r = true) :
    Calls Tryz.prog 85 #[.agg cs, .slice a r c, .slice a2 r c2] w fun e w' => e = .returned (.int .i64 (jpF q x r d)) /\ Below w.heap.size w w' := by
 obtain ⟨sa, sc, ta, tc, na, nc, hcs, hks⟩ := h.form
 subst hcs
 have hl := hks.len
 have BB := Lib.hid ((((Bag.start w).krow k2).krow k1).newRow (plC sa q sc ch ta (tnO ch L) tc na (nnO ch L) nc) 26)
 have PLC := Lib.hid (fun wz (h1 : KRow wz .i64 a r c x) (h2 : KRow wz .i64 a2 r c2 d) => rplk_any a r c x a2 c2 d wz h1 h2 hax)
 have x0 : (w.alloc (.cells (plC sa q sc ch ta (tnO ch L) tc na (nnO ch L) nc) 26)).cell? ⟨w.heap.size, 0, none⟩ = some (.slice sa q sc) := BB.out.now.1.cell 0
 clear h k1 k2 hks hax
 unfold jpF
 by_cases hq : q = 0
 · rw [if_pos hq]
   have dq : ((q : Int) == 0) = true := beq_iff_eq.2 (by omega)
   have HE := Lib.hid BB.out.below
   clear hq PLC BB
   unfold plC at x0 HE
   unfold plC
   go_enter Tryz.func85, Tryz.ntmps85
   go_wp2
   go_ret
   exact ⟨rfl, HE.out⟩
 · rw [if_neg hq]
   have dq : ((q : Int) == 0) = false := beq_eq_false_iff_ne.2 (by omega)
   clear hq
   obtain ⟨X, hX⟩ : ∃ X, (if inB x d r = true then plc x d r else -1) = X := ⟨_, rfl⟩
   rw [hX] at PLC ⊢
   clear hX
   unfold plC at x0 BB
   unfold plC
   go_enter Tryz.func85, Tryz.ntmps85
   go_wp2_with fail
   go_at_call 102
   (refine (PLC.out _ ?_ ?_).mono ?_)
   · exact BB.out.now.2.1
   · exact BB.out.now.2.2.1
   rintro e w5 ⟨rfl, hb5⟩
   have HE := Lib.hid (BB.out.go hb5).below
   clear hb5
   go_wp2
   go_ret
   exact ⟨rfl, HE.out⟩
def jlG (q1 : Nat) (X : Nat -> Int) (q2 : Nat) (Y : Nat -> Int) (r k L1 : Nat) (T : Nat -> Int) (j : Nat) : Int :=
 if dgs T r (j : Nat) k < X k then jpF q1 X r (dgs T r (j : Nat)) else (L1 : Int) + jpF q2 Y r (wiF (dgs T r (j : Nat)) (k : Nat) (dgs T r (j : Nat) k - X k))
theorem jp_at {q : Nat} {x d : Nat -> Int} {r L : Nat} (hb : ∀ a, a < r -> 0 <= d a /\ d a < x a) (h0 : q = 0 -> L = 1) (h1 : q ≠ 0 -> itm x r = (L : Nat)) : ∃ p : Nat, p < L /\ jpF q x r d = (p : Int) /\ exG q (plc x d r).toNat = (p : Int) := by
 unfold jpF exG
 by_cases hq : q = 0
 · rw [if_pos hq, if_pos hq]
   exact ⟨0, by rw [h0 hq]; omega, rfl, rfl⟩
 · obtain ⟨p0, p1⟩ := plc_lt hb
   rw [if_neg hq, if_neg hq, if_pos (inB_of hb)]
   exact ⟨(plc x d r).toNat, by have := h1 hq; omega, by omega, rfl⟩
theorem jl_at {T X Y : Nat -> Int} {r k j : Nat} {n m : Nat} {N1 N2 q1 q2 L1 L2 : Nat} (hk : k < r) (hT : axB T r = true) (hTk : T k = ((n + m : Nat) : Int)) (hxk : X k = n) (hyk : Y k = m) (hx : ∀ a, a < r -> a ≠ k -> X a = T a) (hy : ∀ a, a < r -> a ≠ k -> Y a = T a) (hj : (j : Int) < itm T r)
    (hN1 : (N1 : Int) = n * stF T r k) (hN2 : (N2 : Int) = m * stF T r k) (h10 : q1 = 0 -> L1 = 1) (h11 : q1 ≠ 0 -> itm X r = (L1 : Nat)) (h20 : q2 = 0 -> L2 = 1) (h21 : q2 ≠ 0 -> itm Y r = (L2 : Nat)) :
    (∃ p p' : Nat, p < L1 /\ jlG q1 X q2 Y r k L1 T j = (p : Int) /\ exG q1 p' = (p : Int) /\ ∀ {α : Type} (f1 f2 : Nat -> α), wvF N1 N2 f1 f2 j = f1 p') ∨
    (∃ p p' : Nat, p < L2 /\ jlG q1 X q2 Y r k L1 T j = ((L1 + p : Nat) : Int) /\ exG q2 p' = (p : Int) /\ ∀ {α : Type} (f1 f2 : Nat -> α), wvF N1 N2 f1 f2 j = f2 p') := by
 obtain ⟨_, _, hA, hB⟩ := wv_told hk hT hTk hxk hyk hx hy hj hN1 hN2
 unfold jlG
 rw [hxk]
 by_cases h : dgs T r (j : Nat) k < n
 · rw [if_pos h]
   obtain ⟨hb, hf⟩ := hA h
   obtain ⟨p, e1, e2, e3⟩ := jp_at hb h10 h11
   exact .inl ⟨p, _, e1, e2, e3, hf⟩
 · rw [if_neg h]
   obtain ⟨hb, hf⟩ := hB h
   obtain ⟨p, e1, e2, e3⟩ := jp_at hb h20 h21
   exact .inr ⟨p, _, e1, by rw [e2]; push_cast; rfl, e3, hf⟩
theorem jl_el {N1 N2 q1 q2 L1 L2 j : Nat} {G : Int} (h : (∃ p p' : Nat, p < L1 /\ G = (p : Int) /\ exG q1 p' = (p : Int) /\ ∀ {α : Type} (f1 f2 : Nat -> α), wvF N1 N2 f1 f2 j = f1 p') ∨ (∃ p p' : Nat, p < L2 /\ G = ((L1 + p : Nat) : Int) /\ exG q2 p' = (p : Int) /\ ∀ {α : Type} (f1 f2 : Nat -> α), wvF N1 N2 f1 f2 j = f2 p')) :
    (∀ (g1 g2 : Nat -> Int) (z : Int), elC (L1 + L2) (apF L1 g1 g2) z G = wvF N1 N2 (fun j => elC L1 g1 z (exG q1 j)) (fun j => elC L2 g2 z (exG q2 j)) j) /\
    (∀ (g1 g2 : Nat -> Bool), elB (L1 + L2) (apF L1 g1 g2) G = wvF N1 N2 (fun j => elB L1 g1 (exG q1 j)) (fun j => elB L2 g2 (exG q2 j)) j) /\
    ∀ (g1 g2 : Nat -> ByteArray) (z : ByteArray), elS (L1 + L2) (apF L1 g1 g2) z G = wvF N1 N2 (fun j => elS L1 g1 z (exG q1 j)) (fun j => elS L2 g2 z (exG q2 j)) j := by
 rcases h with ⟨p, p', h1, h2, h3, h4⟩ | ⟨p, p', h1, h2, h3, h4⟩
 · refine ⟨fun g1 g2 z => ?_, fun g1 g2 => ?_, fun g1 g2 z => ?_⟩
   · rw [h4, h2, h3]; unfold elC; rw [if_pos (by omega), if_pos (by omega), Int.toNat_natCast, apF_fst h1]
   · rw [h4, h2, h3]; unfold elB; rw [if_pos (by omega), if_pos (by omega), Int.toNat_natCast, apF_fst h1]
   · rw [h4, h2, h3]; unfold elS; rw [if_pos (by omega), if_pos (by omega), Int.toNat_natCast, apF_fst h1]
 · refine ⟨fun g1 g2 z => ?_, fun g1 g2 => ?_, fun g1 g2 z => ?_⟩
   · rw [h4, h2, h3]; unfold elC; rw [if_pos (by omega), if_pos (by omega), Int.toNat_natCast, Int.toNat_natCast, apF_snd]
   · rw [h4, h2, h3]; unfold elB; rw [if_pos (by omega), if_pos (by omega), Int.toNat_natCast, Int.toNat_natCast, apF_snd]
   · rw [h4, h2, h3]; unfold elS; rw [if_pos (by omega), if_pos (by omega), Int.toNat_natCast, Int.toNat_natCast, apF_snd]
theorem rlaid_any (x1 : Array Value) (S1 : Nat -> Int) (q1 : Nat) (ch : Bool) (L1 : Nat) (g1 : Nat -> Int) (B1 : Nat -> Bool) (s1 t1 : Nat -> ByteArray) (x2 : Array Value) (S2 : Nat -> Int) (q2 : Nat) (L2 : Nat) (g2 : Nat -> Int) (B2 : Nat -> Bool) (s2 t2 : Nat -> ByteArray) (aX : Option Addr) (r cX : Nat) (X : Nat -> Int) (aY : Option Addr) (cY : Nat) (Y : Nat -> Int) (k N1 N2 : Nat) (w : World)
    (h1 : Pln w x1 S1 q1 ch L1 g1 B1 s1 t1) (h2 : Pln w x2 S2 q2 ch L2 g2 B2 s2 t2) (kX : KRow w .i64 aX r cX X) (kY : KRow w .i64 aY r cY Y) (hX : shB X r = true) (hY : shB Y r = true) (hk : k < r) (hne : ∀ a, a < r -> a ≠ k -> Y a = X a) (hN1 : (N1 : Int) = X k * stF X r k) (hN2 : (N2 : Int) = Y k * stF X r k)
    (h10 : q1 = 0 -> L1 = 1) (h11 : q1 ≠ 0 -> itm X r = (L1 : Nat)) (h20 : q2 = 0 -> L2 = 1) (h21 : q2 ≠ 0 -> itm Y r = (L2 : Nat)) (hL1 : L1 <= 400000) (hL2 : L2 <= 400000) :
    Calls Tryz.prog 43 #[.agg x1, .agg x2, .slice aX r cX, .slice aY r cY, .int .i64 (k : Nat)] w fun e w' => PoTold (pkE (wiF X (k : Nat) (X k + Y k)) r) (wiF X (k : Nat) (X k + Y k)) r ch (itm (wiF X (k : Nat) (X k + Y k)) r).toNat (wvF N1 N2 (fun j => elC L1 g1 32 (exG q1 j)) (fun j => elC L2 g2 32 (exG q2 j))) (wvF N1 N2 (fun j => elB L1 B1 (exG q1 j)) (fun j => elB L2 B2 (exG q2 j))) (wvF N1 N2 (fun j => elS L1 s1 (rS 0) (exG q1 j)) (fun j => elS L2 s2 (rS 0) (exG q2 j))) (wvF N1 N2 (fun j => elS L1 t1 (str (dec 1)) (exG q1 j)) (fun j => elS L2 t2 (str (dec 1)) (exG q2 j))) w w' e := by
 have H1 := Lib.hid h1
 have H2 := Lib.hid h2
 obtain ⟨sa1, sc1, ta1, tc1, na1, nc1, hx1, _⟩ := h1.form
 subst hx1
 obtain ⟨sa2, sc2, ta2, tc2, na2, nc2, hx2, _⟩ := h2.form
 subst hx2
 obtain ⟨hr8, haxX⟩ := sh_ax hX
 obtain ⟨_, haxY⟩ := sh_ax hY
 have bX := ax_le4 hX hk
 have bY := ax_le4 hY hk
 obtain ⟨n, hn⟩ : ∃ n : Nat, X k = n := ⟨(X k).toNat, by omega⟩
 obtain ⟨m, hm⟩ : ∃ m : Nat, Y k = m := ⟨(Y k).toNat, by omega⟩
 obtain ⟨T, hT⟩ : ∃ f, wiF X (k : Nat) (X k + Y k) = f := ⟨_, rfl⟩
 have hTk : T k = ((n + m : Nat) : Int) := by rw [← hT, wi_at, hn, hm]; push_cast; rfl
 have hxT : ∀ a, a < r -> a ≠ k -> X a = T a := fun a _ ha => by rw [← hT, wi_off _ ha]
 have hyT : ∀ a, a < r -> a ≠ k -> Y a = T a := fun a ha hak => (hne a ha hak).trans (hxT a ha hak)
 have hst : stF X r k = stF T r k := itm_congr (shf_congr hxT hk).2
 rw [hst] at hN1 hN2
 rw [hn] at hN1
 rw [hm] at hN2
 have T64 : In64 T r := fun j hj => by
  by_cases e : j = k
  · rw [e, hTk]; omega
  · rw [← hxT j hj e]; have := ax_le4 hX hj; omega
 rw [hT]
 have hTe : wiF X (k : Nat) ((n : Int) + (m : Int)) = T := by rw [← hT, hn, hm]
 have hlX := kX.len
 have hlY := kY.len
 obtain ⟨bx, ox, haX, hbx, hcx⟩ := kX.get hk
 obtain ⟨by', oy, haY, hby, hcy⟩ := kY.get hk
 subst haX
 subst haY
 rw [hn] at hcx
 rw [hm] at hcy
 have HCX : Hid (∀ y, Below w.heap.size w y -> y.cell? ⟨bx, ox + k, none⟩ = some (.int .i64 (n : Int)) /\ y.cell? ⟨by', oy + k, none⟩ = some (.int .i64 (m : Int))) := Lib.hid (fun y hb => ⟨(hb.cell (p := ⟨bx, ox + k, none⟩) hbx).trans hcx, (hb.cell (p := ⟨by', oy + k, none⟩) hby).trans hcy⟩)
 have WT := Lib.hid (fun wz (q : KRow wz .i64 (some ⟨bx, ox, none⟩) r cX X) => r7With_any (some ⟨bx, ox, none⟩) r cX X (k : Nat) ((n : Int) + (m : Int)) wz q (by omega))
 rw [hTe] at WT
 have CN := Lib.hid (fun a c wz (q : KRow wz .i64 a r c T) => r6Count_any a r c T wz q T64)
 unfold CntTold at CN
 have BB0 := Lib.hid ((((((Bag.start w).krow kY).krow kX).newRow (plC sa1 q1 sc1 ch ta1 (tnO ch L1) tc1 na1 (nnO ch L1) nc1) 26).newRow (plC sa2 q2 sc2 ch ta2 (tnO ch L2) tc2 na2 (nnO ch L2) nc2) 26).newRow plZer 26)
 simp only [World.size_alloc] at BB0
 have BB := Lib.hid (show Bag w (fun y => Row y w.heap.size 26 (plC sa1 q1 sc1 ch ta1 (tnO ch L1) tc1 na1 (nnO ch L1) nc1) /\ Row y (w.heap.size + 1) 26 (plC sa2 q2 sc2 ch ta2 (tnO ch L2) tc2 na2 (nnO ch L2) nc2) /\ Row y (w.heap.size + 1 + 1) 26 plZer /\ KRow y .i64 (some ⟨bx, ox, none⟩) r cX X /\ KRow y .i64 (some ⟨by', oy, none⟩) r cY Y /\ True) _ from ⟨BB0.out.below, fun a b hb ⟨p1, p2, p3, p4, p5, _⟩ => ⟨p1.below hb, p2.below hb, p3.below hb, p4.below hb, p5.below hb, trivial⟩, BB0.out.now.2.2.1, BB0.out.now.2.1, BB0.out.now.1, BB0.out.now.2.2.2.1, BB0.out.now.2.2.2.2.1, trivial⟩)
 obtain ⟨EE, hEE⟩ : ∃ E, pkE T r = E := ⟨_, rfl⟩
 rw [hEE]
 obtain ⟨eC, heC⟩ : ∃ f, wvF N1 N2 (fun j => elC L1 g1 32 (exG q1 j)) (fun j => elC L2 g2 32 (exG q2 j)) = f := ⟨_, rfl⟩
 obtain ⟨eB, heB⟩ : ∃ f, wvF N1 N2 (fun j => elB L1 B1 (exG q1 j)) (fun j => elB L2 B2 (exG q2 j)) = f := ⟨_, rfl⟩
 obtain ⟨eS, heS⟩ : ∃ f, wvF N1 N2 (fun j => elS L1 s1 (rS 0) (exG q1 j)) (fun j => elS L2 s2 (rS 0) (exG q2 j)) = f := ⟨_, rfl⟩
 obtain ⟨eT, heT⟩ : ∃ f, wvF N1 N2 (fun j => elS L1 t1 (str (dec 1)) (exG q1 j)) (fun j => elS L2 t2 (str (dec 1)) (exG q2 j)) = f := ⟨_, rfl⟩
 rw [heC, heB, heS, heT]
 obtain ⟨MM, hMM⟩ : ∃ E, (itm T r).toNat = E := ⟨_, rfl⟩
 rw [hMM]
 have w1 := IntWalk.i64_in ((n : Int) + (m : Int)) (by omega)
 cases hts : shB T r with
 | false =>
  have hE : EE = 26 := by rw [← hEE]; unfold pkE; rw [hts]; rfl
  subst hE
  rw [hts] at CN
  generalize cntI T r = ci at *
  clear h1 h2 kX kY hX hY hne hN1 hN2 h10 h11 h20 h21 hEE heC heB heS heT hMM hts T64 hT hTk hxT hyT hst hTe haxX haxY H1 H2 BB0 hcx hcy
  unfold plZer at BB
  unfold plC at BB
  unfold plC
  go_enter Tryz.func43, Tryz.ntmps43
  go_wp2_with fail
  generalize hW : (((w.alloc (.cells _ 26)).alloc (.cells _ 26)).alloc (.cells _ 26)) = YY at *
  clear hW
  have KD := Lib.hid BB.out.drew.now.2.2.2.1
  have HBD := Lib.hid BB.out.drew.below
  have xk0 : (0 : Int) <= (k : Nat) := by omega
  have xk1 : ((k : Nat) : Int) < (r : Nat) := by omega
  go_region_held3 (fun y => y.cell? ⟨bx, ox + k, none⟩ = some (.int .i64 (n : Int)) /\ y.cell? ⟨by', oy + k, none⟩ = some (.int .i64 (m : Int)))
   (first
     | with_reducible exact HCX.out _ HBD.out
     | (have hq := BB2.out.below; with_reducible exact HCX.out _ hq))
   ((go_at_call 82; (refine (WT.out _ KD.out).mono ?_); rintro e w2 ⟨aT, cT, rfl, hk2, hb2⟩; have BB2 := Lib.hid ((BB.out.drew.go hb2).krow hk2)))
  have BB := Lib.hid BB2.out
  clear hb2 hk2 BB2 KD HBD xk0 xk1
  go_wp2_with fail
  go_at_call 83
  (with_reducible refine (CN.out _ _ _ ?_).mono ?_)
  · exact BB.out.now.1
  rintro e w3 ⟨rfl, rfl⟩
  have HZ := Lib.hid BB.out.now.2.2.2.1
  have HE := Lib.hid (PoTold.no (S := T) (r := r) (ch := ch) (L := MM) (g := eC) (fB := eB) (fS := eS) (fT := eT) (E := 26) (by decide) (below_put BB.out.below (show w.heap.size <= w.heap.size + 1 + 1 by omega) plZer))
  go_wp2_with (refine st_pln rfl (.tmp 10) (.tmp 38) rfl (w.heap.size + 1 + 1) rfl none 0 0 false none 0 0 none 0 0 rfl HZ.out rfl ?_)
  exact bodyPost_ret (res_pln2 Tryz.results43 rfl rfl (HZ.out.put _) rfl) rfl HE.out
 | true =>
  have hE : EE = 0 := by rw [← hEE]; unfold pkE; rw [hts]; rfl
  subst hE
  obtain ⟨_, haxT⟩ := sh_ax hts
  have hbd := ax_bd haxT
  obtain ⟨M, hM⟩ : ∃ M : Nat, itm T r = (M : Nat) := ⟨(itm T r).toNat, by omega⟩
  have hMM2 : M = MM := by rw [← hMM, hM]; rfl
  subst hMM2
  rw [hts] at CN
  generalize cntI T r = ci at *
  have hM4 : M <= 4096 := by omega
  have ALL := Lib.hid (fun a c wz (q : KRow wz .i64 a r c T) => r6All_any a r c T M wz q hts hM)
  have hLX : ∀ j, j < M -> _ := fun j hj => jl_el (jl_at (j := j) hk haxT hTk hn hm hxT hyT (by omega) hN1 hN2 h10 h11 h20 h21)
  have hHD : ∀ j, j < M -> 0 <= dgs T r (j : Nat) k /\ dgs T r (j : Nat) k < 8200 := fun j hj => by
   have h1 := itm_pos haxT (show (0 : Int) <= (j : Nat) by omega) (show ((j : Nat) : Int) < itm T r by omega)
   obtain ⟨h2, _⟩ := dgs_in h1 (show (0 : Int) <= (j : Nat) by omega) (show ((j : Nat) : Int) < itm T r by omega)
   have h3 := inB_at h2 hk
   rw [hTk] at h3
   omega
  obtain ⟨G, hG⟩ : ∃ f, jlG q1 X q2 Y r k L1 T = f := ⟨_, rfl⟩
  rw [hG] at hLX
  have HEL : Hid (∀ j, j < M -> elC (L1 + L2) (apF L1 g1 g2) 32 (G j) = eC j /\ elB (L1 + L2) (apF L1 B1 B2) (G j) = eB j /\ elS (L1 + L2) (apF L1 s1 s2) (rS 0) (G j) = eS j /\ elS (L1 + L2) (apF L1 t1 t2) (str (dec 1)) (G j) = eT j) := Lib.hid (fun j hj => by
   obtain ⟨e1, e2, e3⟩ := hLX j hj
   rw [← heC, ← heB, ← heS, ← heT]
   exact ⟨e1 _ _ _, e2 _ _, e3 _ _ _, e3 _ _ _⟩)
  have HGA : Hid (∀ j, dgs T r (j : Nat) k < n -> jpF q1 X r (dgs T r (j : Nat)) = G j) := Lib.hid (fun j h => by rw [← hG]; unfold jlG; rw [hn, if_pos h])
  have HGB : Hid (∀ j, (n : Int) <= dgs T r (j : Nat) k -> (L1 : Int) + jpF q2 Y r (wiF (dgs T r (j : Nat)) (k : Nat) (dgs T r (j : Nat) k - n)) = G j) := Lib.hid (fun j h => by rw [← hG]; unfold jlG; rw [hn, if_neg (by omega)])
  have HJP : Hid (∀ j, j < M -> (n : Int) <= dgs T r (j : Nat) k -> 0 <= jpF q2 Y r (wiF (dgs T r (j : Nat)) (k : Nat) (dgs T r (j : Nat) k - n)) /\ jpF q2 Y r (wiF (dgs T r (j : Nat)) (k : Nat) (dgs T r (j : Nat) k - n)) < 1000000) := Lib.hid (fun j hj h => by
   obtain ⟨_, _, _, hB⟩ := wv_told (j := j) hk haxT hTk hn hm hxT hyT (by omega) hN1 hN2
   obtain ⟨p, e1, e2, _⟩ := jp_at (hB (by omega)).1 h20 h21
   rw [e2]
   omega)
  have HHD := Lib.hid hHD
  have RP1 := Lib.hid (fun d a2 c2 wz (p : Pln wz (plC sa1 q1 sc1 ch ta1 (tnO ch L1) tc1 na1 (nnO ch L1) nc1) S1 q1 ch L1 g1 B1 s1 t1) (k1 : KRow wz .i64 (some ⟨bx, ox, none⟩) r cX X) (k2 : KRow wz .i64 a2 r c2 d) => rplace_any (plC sa1 q1 sc1 ch ta1 (tnO ch L1) tc1 na1 (nnO ch L1) nc1) S1 q1 ch L1 g1 B1 s1 t1 (some ⟨bx, ox, none⟩) r cX X a2 c2 d wz p k1 k2 haxX)
  have RP2 := Lib.hid (fun d a2 c2 wz (p : Pln wz (plC sa2 q2 sc2 ch ta2 (tnO ch L2) tc2 na2 (nnO ch L2) nc2) S2 q2 ch L2 g2 B2 s2 t2) (k1 : KRow wz .i64 (some ⟨by', oy, none⟩) r cY Y) (k2 : KRow wz .i64 a2 r c2 d) => rplace_any (plC sa2 q2 sc2 ch ta2 (tnO ch L2) tc2 na2 (nnO ch L2) nc2) S2 q2 ch L2 g2 B2 s2 t2 (some ⟨by', oy, none⟩) r cY Y a2 c2 d wz p k1 k2 haxY)
  have LN1 := Lib.hid (fun wz (h : Pln wz (plC sa1 q1 sc1 ch ta1 (tnO ch L1) tc1 na1 (nnO ch L1) nc1) S1 q1 ch L1 g1 B1 s1 t1) => Pln.lenJ wz h (by omega))
  have RB := Lib.hid (fun wz (p1 : Pln wz (plC sa1 q1 sc1 ch ta1 (tnO ch L1) tc1 na1 (nnO ch L1) nc1) S1 q1 ch L1 g1 B1 s1 t1) (p2 : Pln wz (plC sa2 q2 sc2 ch ta2 (tnO ch L2) tc2 na2 (nnO ch L2) nc2) S2 q2 ch L2 g2 B2 s2 t2) => rboth_any (plC sa1 q1 sc1 ch ta1 (tnO ch L1) tc1 na1 (nnO ch L1) nc1) S1 q1 ch L1 g1 B1 s1 t1 (plC sa2 q2 sc2 ch ta2 (tnO ch L2) tc2 na2 (nnO ch L2) nc2) S2 q2 L2 g2 B2 s2 t2 wz p1 p2 hL1 hL2)
  have RP := Lib.hid (fun cs a1 c1 a2 c2 wz (p : Pln wz cs T 0 ch (L1 + L2) (apF L1 g1 g2) (apF L1 B1 B2) (apF L1 s1 s2) (apF L1 t1 t2)) (k1 : KRow wz .i64 a1 r c1 T) (k2 : KRow wz .i64 a2 M c2 G) => rpick8_any cs T 0 ch (L1 + L2) (apF L1 g1 g2) (apF L1 B1 B2) (apF L1 s1 s2) (apF L1 t1 t2) a1 r c1 T a2 M c2 G wz p k1 k2 (by omega) (by omega))
  have hr8' : r <= 1000000 := by omega
  have hrp : 0 < r := by omega
  have HKK := Lib.hid hk
  have HTX := Lib.hid (And.intro bX bY)
  clear h1 h2 kX kY hX hY hne hN1 hN2 h10 h11 h20 h21 hEE heC heB heS heT hMM hts T64 hT hTk hxT hyT hst hTe haxX haxY haxT hbd hM BB0 hcx hcy hLX hHD hG bX bY
  unfold plZer at BB
  unfold plC at BB
  unfold plC
  go_enter Tryz.func43, Tryz.ntmps43
  go_wp2_with fail
  generalize hW : (((w.alloc (.cells _ 26)).alloc (.cells _ 26)).alloc (.cells _ 26)) = YY at *
  clear hW
  have KD := Lib.hid BB.out.drew.now.2.2.2.1
  have HBD := Lib.hid BB.out.drew.below
  have xk0 : (0 : Int) <= (k : Nat) := by omega
  have xk1 : ((k : Nat) : Int) < (r : Nat) := by omega
  go_region_held3 (fun y => y.cell? ⟨bx, ox + k, none⟩ = some (.int .i64 (n : Int)) /\ y.cell? ⟨by', oy + k, none⟩ = some (.int .i64 (m : Int)))
   (first
     | with_reducible exact HCX.out _ HBD.out
     | (have hq := BB2.out.below; with_reducible exact HCX.out _ hq))
   ((go_at_call 82; (refine (WT.out _ KD.out).mono ?_); rintro e w2 ⟨aT, cT, rfl, hk2, hb2⟩; have BB2 := Lib.hid ((BB.out.drew.go hb2).krow hk2)))
  have BB := Lib.hid BB2.out
  clear hb2 hk2 BB2 KD HBD xk0 xk1
  go_wp2_with fail
  go_at_call 83
  (with_reducible refine (CN.out _ _ _ ?_).mono ?_)
  · exact BB.out.now.1
  rintro e w3 ⟨rfl, rfl⟩
  go_wp2_with fail
  go_at_call 84
  (with_reducible refine (ALL.out _ _ _ ?_).mono ?_)
  · exact BB.out.now.1
  rintro e y4 ⟨a8, c8, A, CC, rfl, hlr, hb3⟩
  have BB := Lib.hid (BB.out.go hb3)
  have HLR := Lib.hid hlr
  have hl8 := hlr.1
  have hl9 := hlr.2.1
  unfold maxLen at hl9
  clear hb3 hlr
  go_wp2_with fail
  go_loopw [16, 17, 18] (fun s ii v wr => ∃ (j : Nat) (a : Option Addr) (c : Nat), j <= M /\ s = .slice a j c /\ ii = .int .i64 j /\ (∃ v6, v6 = v) /\ Hid (OwnI y4 wr a j c G)) (fun _ ii _ _ => M - (intOf ii).toNat)
  case atStart => exact ⟨0, none, 0, by omega, rfl, rfl, ⟨_, rfl⟩, OwnI.nil _ _⟩
  case round =>
   obtain ⟨j, a, c, hj, rfl, rfl, ⟨v6, rfl⟩, ho⟩ := hrel
   have BW := Lib.hid (BB.out.go ho.out.1)
   by_cases hlt : j < M
   · obtain ⟨b, off, rfl, hb, hc, hrow, hnone⟩ := (HLR.out.below ho.out.1).get hlt
     obtain ⟨g2', c2, y1, hr, hg2, hbox, hm1, hm2, hbw⟩ := idx_new hrow hnone hrp hr8'
     have hj0 : (0 : Int) <= j := by omega
     have hj1 : (j : Int) < M := by omega
     obtain ⟨hd0, hd1⟩ := HHD.out j hlt
     have hGA := HGA.out j
     have hGB := HGB.out j
     have hJP := HJP.out j hlt
     have xi : y1.cell? ⟨g2', k, none⟩ = some (.int .i64 (dgs T r (j : Nat) k)) := hbox.2.2 k HKK.out
     have HBW := Lib.hid hbw
     have HG2 := Lib.hid hg2
     have BY := Lib.hid (BW.out.go hbw)
     have xx := (HCX.out y1 BY.out.below).1
     have HBOX := Lib.hid hbox
     have HM12 := Lib.hid (And.intro hm1 hm2)
     have hk0 : (0 : Int) <= (k : Nat) := by omega
     have hk1 : ((k : Nat) : Int) < (r : Nat) := by omega
     have hkc : ((k : Nat) : Int) < (c2 : Nat) := by omega
     obtain ⟨D, hD⟩ : ∃ D, dgs T r (j : Nat) k = D := ⟨_, rfl⟩
     rw [hD] at xi hd0 hd1 hGA hGB hJP
     have HGAj := Lib.hid hGA
     have HGBj := Lib.hid hGB
     have HJPj := Lib.hid hJP
     have HD := Lib.hid hD
     clear hbw hbox hrow hnone hg2 hD hGA hGB hJP
     generalize dgs T r (j : Nat) = d at *
     generalize A j = aj at *
     generalize CC j = cj at *
     go_wp2_with (at_builtin; refine Lib.wpList_append_run _ rfl _ _ _ _ rfl _ _ rfl rfl _ _ hr ?_)
     by_cases hlt2 : D < (n : Int)
     · have hGA := HGAj.out hlt2
       obtain ⟨z, hz⟩ : ∃ z, jpF q1 X r d = z := ⟨_, rfl⟩
       have PLCj := Lib.hid (RP1.out d)
       rw [hz] at hGA PLCj
       clear hz HGBj HJPj
       go_quiet (fail)
       have BQ := Lib.hid (BW.out.go (below_drewN HBW.out nq))
       have KI := Lib.hid ((HBOX.out.drewN nq).krow2 HM12.out.1 HM12.out.2)
       have HP1 := Lib.hid (H1.out.below BQ.out.below)
       have HR3 := Lib.hid BQ.out.now.2.1
       go_wp2_with (refine ld_pln rfl (.tmp 5) rfl w.heap.size rfl HR3.out ?_)
       go_at_call 85
       (refine (PLCj.out _ _ _ HP1.out (BQ.out.now.2.2.2.2.1) KI.out).mono ?_)
       rintro e w5 ⟨rfl, hb5⟩
       obtain ⟨a', c', y3, hr3, ho'⟩ := app1_step (ho.out.go ((below_drewN HBW.out nq).trans (hb5.mono (below_drewN HBW.out nq).size))) hGA (by omega)
       have HO' := Lib.hid ho'
       clear ho' hb5 hGA
       go_wp2_with (at_builtin; refine Lib.wpList_append_run _ rfl _ _ _ _ rfl _ _ rfl rfl _ _ hr3 ?_)
       go_roundw
       case rel => exact ⟨j + 1, a', c', by omega, rfl, by go_num, ⟨_, rfl⟩, HO'⟩
       case measure => simp [intOf]; omega
     · have hlt3 : (n : Int) <= D := by omega
       have hGB := HGBj.out hlt3
       obtain ⟨hz0, hz1⟩ := HJPj.out hlt3
       obtain ⟨z, hz⟩ : ∃ z, jpF q2 Y r (wiF d (k : Nat) (D - n)) = z := ⟨_, rfl⟩
       have PLCj := Lib.hid (RP2.out (wiF d (k : Nat) (D - n)))
       rw [hz] at hGB PLCj hz0 hz1
       clear hz HGAj HJPj
       have HGBz := Lib.hid hGB
       clear hGB
       have w2 := IntWalk.i64_in (D - (n : Int)) (by omega)
       have w3 := IntWalk.i64_in ((L1 : Int) + z) (by omega)
       go_quiet (fail)
       have hq1 : Below wr.heap.size wr (y1.drewN nq).drew := (below_drewN HBW.out nq).drew
       have hbox1 : IBox (y1.drewN nq).drew g2' r d := HBOX.out
       have xi2 : (y1.drewN nq).drew.cell? ⟨g2', k, none⟩ = some (.int .i64 D) := xi
       have xx2 : (y1.drewN nq).drew.cell? ⟨bx, ox + k, none⟩ = some (.int .i64 (n : Int)) := xx
       have xf2 : (y1.drewN nq).drew.frozen? ⟨g2', k, none⟩ = false := hbox1.2.1 k
       have hbx3 : Below wr.heap.size wr ((y1.drewN nq).setCell ⟨g2', k, none⟩ (.int .i64 (D - n))).drew := hq1.setCell (p := ⟨g2', k, none⟩) HG2.out _
       have hbox3 : IBox ((y1.drewN nq).setCell ⟨g2', k, none⟩ (.int .i64 (D - n))).drew g2' r (wiF d (k : Nat) (D - n)) := (hbox1.set HKK.out (D - n)).congr (h' := wiF d (k : Nat) (D - n)) (fun i _ => by
        unfold wiF
        by_cases e : i = k
        · rw [if_pos e, if_pos (by omega)]
        · rw [if_neg e, if_neg (by omega)])
       have HBX3 := Lib.hid hbx3
       have KI3 := Lib.hid (hbox3.krow2 HM12.out.1 HM12.out.2)
       have xi1 : (y1.drewN nq).cell? ⟨g2', k, none⟩ = some (.int .i64 D) := xi
       have xx1 : (y1.drewN nq).cell? ⟨bx, ox + k, none⟩ = some (.int .i64 (n : Int)) := xx
       clear hq1 hbox1 hbx3 hbox3 xi xx
       generalize y1.drewN nq = YQ at *
       go_wp2_with fail
       go_still_tail 12, (by kernel_rfl)
       change wpList _ _ _ _ _ YQ.drew
       clear xi1 xx1
       go_wp2_with fail
       generalize (YQ.setCell ⟨g2', k, none⟩ (.int .i64 (D - n))).drew = Y3 at *
       have BQ := Lib.hid (BW.out.go HBX3.out)
       have HSF4 : Hid (∀ y, Below y4.heap.size y4 y -> y.cell? ⟨w.heap.size, 0, none⟩ = some (.slice sa1 q1 sc1) /\ y.cell? ⟨w.heap.size, 1, none⟩ = some (.bool ch) /\ y.cell? ⟨w.heap.size, 2, none⟩ = some (.slice ta1 (tnO ch L1) tc1) /\ y.cell? ⟨w.heap.size, 3, none⟩ = some (.slice na1 (nnO ch L1) nc1) /\ y.cell? ⟨w.heap.size + 1, 0, none⟩ = some (.slice sa2 q2 sc2) /\ y.cell? ⟨w.heap.size + 1, 1, none⟩ = some (.bool ch) /\ y.cell? ⟨w.heap.size + 1, 2, none⟩ = some (.slice ta2 (tnO ch L2) tc2) /\ y.cell? ⟨w.heap.size + 1, 3, none⟩ = some (.slice na2 (nnO ch L2) nc2)) := Lib.hid (fun y hb => by
        have q1 := (BB.out.go hb).now.2.1
        have q2 := (BB.out.go hb).now.2.2.1
        exact ⟨q1.cell 0, q1.cell 1, q1.cell 2, q1.cell 3, q2.cell 0, q2.cell 1, q2.cell 2, q2.cell 3⟩)
       have HB43 : Hid (Below y4.heap.size y4 Y3) := Lib.hid (ho.out.1.trans (HBX3.out.mono ho.out.1.size))
       have HSF : Hid (∀ y, Below Y3.heap.size Y3 y -> y.cell? ⟨w.heap.size, 0, none⟩ = some (.slice sa1 q1 sc1) /\ y.cell? ⟨w.heap.size, 1, none⟩ = some (.bool ch) /\ y.cell? ⟨w.heap.size, 2, none⟩ = some (.slice ta1 (tnO ch L1) tc1) /\ y.cell? ⟨w.heap.size, 3, none⟩ = some (.slice na1 (nnO ch L1) nc1) /\ y.cell? ⟨w.heap.size + 1, 0, none⟩ = some (.slice sa2 q2 sc2) /\ y.cell? ⟨w.heap.size + 1, 1, none⟩ = some (.bool ch) /\ y.cell? ⟨w.heap.size + 1, 2, none⟩ = some (.slice ta2 (tnO ch L2) tc2) /\ y.cell? ⟨w.heap.size + 1, 3, none⟩ = some (.slice na2 (nnO ch L2) nc2)) := Lib.hid (fun y hb => HSF4.out y (HB43.out.trans (hb.mono HB43.out.size)))
       have LNj : Hid (∀ wz, Below Y3.heap.size Y3 wz -> Calls Tryz.prog 50 #[.agg #[.slice sa1 q1 sc1, .bool ch, .slice ta1 (tnO ch L1) tc1, .slice na1 (nnO ch L1) nc1]] wz fun e w' => e = .returned (.int .i64 (L1 : Nat)) /\ Below wz.heap.size wz w') := Lib.hid (fun wz hb => LN1.out wz ((H1.out.below BQ.out.below).below hb))
       have PLk : Hid (∀ wz, Below Y3.heap.size Y3 wz -> Calls Tryz.prog 85 #[.agg #[.slice sa2 q2 sc2, .bool ch, .slice ta2 (tnO ch L2) tc2, .slice na2 (nnO ch L2) nc2], .slice (some ⟨by', oy, none⟩) r cY, .slice (some ⟨g2', 0, none⟩) r c2] wz fun e w' => e = .returned (.int .i64 z) /\ Below wz.heap.size wz w') := Lib.hid (fun wz hb => PLCj.out _ _ wz ((H2.out.below BQ.out.below).below hb) (BQ.out.now.2.2.2.2.2.1.below hb) (KI3.out.below hb))
       have EG : Hid (∀ i, i < 1 -> G (j + i) = (L1 : Int) + z) := Lib.hid (fun i hi => by rw [show i = 0 by omega, Nat.add_zero]; exact HGBz.out.symm)
       have B0 : Hid (Below Y3.heap.size Y3 Y3.drew) := Lib.hid (Below.refl _ Y3).drew
       clear xi2 xx2 xf2
       go_region_held3 (fun y => y.cell? ⟨w.heap.size, 0, none⟩ = some (.slice sa1 q1 sc1) /\ y.cell? ⟨w.heap.size, 1, none⟩ = some (.bool ch) /\ y.cell? ⟨w.heap.size, 2, none⟩ = some (.slice ta1 (tnO ch L1) tc1) /\ y.cell? ⟨w.heap.size, 3, none⟩ = some (.slice na1 (nnO ch L1) nc1) /\ y.cell? ⟨w.heap.size + 1, 0, none⟩ = some (.slice sa2 q2 sc2) /\ y.cell? ⟨w.heap.size + 1, 1, none⟩ = some (.bool ch) /\ y.cell? ⟨w.heap.size + 1, 2, none⟩ = some (.slice ta2 (tnO ch L2) tc2) /\ y.cell? ⟨w.heap.size + 1, 3, none⟩ = some (.slice na2 (nnO ch L2) nc2))
        (first
          | with_reducible exact HSF.out _ B0.out
          | (have hq := HA.out; with_reducible exact HSF.out _ hq)
          | (have hq := HC.out; with_reducible exact HSF.out _ hq)
          | (have hq := HC.out; with_reducible exact HSF.out _ (hq.alloc hq.size _))
          | (have hq := HO9.out.1; with_reducible exact HSF4.out _ hq))
        (first
          | (go_at_call 50; (with_reducible refine (LNj.out _ B0.out).mono ?_); rintro e wa ⟨rfl, hba⟩; have HA : Hid (Below Y3.heap.size Y3 wa) := Lib.hid (B0.out.trans hba))
          | (go_at_call 85; (with_reducible refine (PLk.out _ HA.out).mono ?_); rintro e wb ⟨rfl, hbb⟩; have HC : Hid (Below Y3.heap.size Y3 wb) := Lib.hid (HA.out.trans (hbb.mono HA.out.size)))
          | (refine step_ownI rfl (.tmp 81) (.tmp 89) rfl rfl rfl rfl ((ho.out.go (HBX3.out.trans (HC.out.mono HBX3.out.size))).go ((Below.refl _ _).alloc (Nat.le_refl _) _)) (KRow.one' _ .i64 ((L1 : Int) + z) _) rfl (by omega) (fun _ _ => rfl) EG.out ?_; intro a' c' y9 ho9 hg9; have HO9 := Lib.hid ho9))
       go_wp2
       go_roundw
       case rel => exact ⟨j + 1, a', c', by omega, rfl, by go_num, ⟨_, rfl⟩, HO9⟩
       case measure => simp [intOf]; omega
   · have hjM : j = M := by omega
     subst j
     have HK9 := Lib.hid ho.out.krow
     have HR3 := Lib.hid BW.out.now.2.1
     have HR4 := Lib.hid BW.out.now.2.2.1
     clear hj hlt ho
     go_wp2_with (first
      | (refine ld_pln rfl (.tmp 5) rfl w.heap.size rfl HR3.out ?_)
      | (refine ld_pln rfl (.tmp 6) rfl (w.heap.size + 1) rfl HR4.out ?_))
     go_at_call 86
     (refine (RB.out _ (H1.out.below BW.out.below) (H2.out.below BW.out.below)).mono ?_)
     rintro e w5 ⟨cs5, rfl, hp5, hb5⟩
     have BW := Lib.hid (BW.out.go hb5)
     have HK5 := Lib.hid (HK9.out.below hb5)
     have HP5 := Lib.hid (hp5 T)
     clear hb5 hp5 HK9 HR3 HR4
     go_wp2_with fail
     go_at_call 55
     (with_reducible refine (RP.out _ _ _ _ _ _ HP5.out BW.out.now.1 HK5.out).mono ?_)
     rintro e w9 ⟨cs', rfl, hq9, hb9⟩
     have BW := Lib.hid (BW.out.go hb9)
     have hq9 := hq9.on (fun j hj => (HEL.out j hj).1) (fun j hj => (HEL.out j hj).2.1) (fun j hj => (HEL.out j hj).2.2.1) (fun j hj => (HEL.out j hj).2.2.2)
     obtain ⟨sq, scq, tq, tcq, nq, ncq, rfl, _⟩ := hq9.form
     have HZ := Lib.hid BW.out.now.2.2.2.1
     have HE := Lib.hid (PoTold.yes (hq9.put HZ.out (plC sq r scq ch tq (tnO ch M) tcq nq (nnO ch M) ncq)) (below_put BW.out.below (show w.heap.size <= w.heap.size + 1 + 1 by omega) (plC sq r scq ch tq (tnO ch M) tcq nq (nnO ch M) ncq)))
     clear hq9 hb9
     go_wp2_with (refine st_pln rfl (.tmp 10) (.tmp 96) rfl (w.heap.size + 1 + 1) rfl _ _ _ _ _ _ _ _ _ _ rfl HZ.out rfl ?_)
     exact bodyPost_ret (res_pln2 Tryz.results43 rfl rfl (HZ.out.put _) rfl) rfl HE.out
end Go.Proofs.YtdlccnmhcggjiaaGreatDoor
