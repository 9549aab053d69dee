/-
  Texts of this seat, laid together.
-/
import Derived.Laws.EntriesVeiled
import Derived.Shelf.Abstract
import Derived.StillTailTactics
import Derived.Test.YtdlccnmhcggjiaaGreatDoorQ1
import Derived.Test.YtdlccnmhcggjiaaGreatDoorQ2
import Derived.Test.YtdlccnmhcggjiaaGreatDoorQ3
import Derived.Test.YtdlccnmhcggjiaaGreatDoorQ4
import Derived.Test.YtdlccnmhcggjiaaGreatDoorQ5
import Derived.Test.YtdlccnmhcggjiaaGreatDoorQ6
import Derived.Test.YtdlccnmhcggjiaaGreatDoorQ7
set_option maxHeartbeats 12800000
set_option maxRecDepth 100000
set_option linter.unusedSimpArgs false
set_option linter.unusedVariables false
namespace Go.Proofs.YtdlccnmhcggjiaaGreatDoor
open Go.RowKit
attribute [local go_sem ↓] Go.wp_at_zero Go.wp_at_succ
theorem NewAt.nil {w w' : World} {a : Option Addr} {n c : Nat} (h : NewAt w w' a n c) : a = none -> c = 0 := fun e => by
 rcases h with ⟨_, _, h⟩ | ⟨g, h, _⟩
 · exact h
 · rw [h] at e; cases e
theorem without_new (a : Option Addr) (n c : Nat) (f : Nat -> Int) (k : Nat) (w : World) (h : KRow w .i64 a n c f) (hn : n <= 1000000) (hk : k < n) :
    Calls Tryz.prog 75 #[.slice a n c, .int .i64 (k : Nat)] w fun e w' => ∃ a' c', e = .returned (.slice a' (n - 1) c') /\ KRow w' .i64 a' (n - 1) c' (outF f k) /\ (a' = none -> c' = 0) /\ Below w.heap.size w w' := by
 have hl := h.len
 have hcm := h.2.1
 unfold maxLen at hcm
 have h0 : (0 : Int) <= (k : Nat) := by omega
 have h1 : ((k : Nat) : Int) < n := by omega
 have HA := Lib.hid (has_any a n c (k : Nat) w)
 rw [decide_eq_true h0, decide_eq_true h1] at HA
 obtain ⟨b, off, rfl, hb, _⟩ := h.get hk
 have hw1 := IntWalk.i64_in ((k : Int) + 1) (by omega)
 have CO : Hid (∀ (wz : World) (ad : Option Addr), (ad = some ⟨b, off + (k + 1), none⟩ ∨ (ad ≠ none /\ n - (k + 1) = 0)) -> Below w.heap.size w wz -> Row wz w.heap.size 22 #[.slice (some ⟨b, off, none⟩) k c, .slice ad (n - (k + 1)) (c - (k + 1))] -> Calls Tryz.prog 121 #[.slice (some ⟨w.heap.size, 0, none⟩) 2 2] wz fun e w' => ∃ a' c', e = .returned (.slice a' (n - 1) c') /\ KRow w' .i64 a' (n - 1) c' (outF f k) /\ (a' = none -> c' = 0) /\ Below wz.heap.size wz w') := Lib.hid (fun wz ad hads hbz hrow => by
  have hadn : ad ≠ none := by rcases hads with rfl | ⟨h, _⟩; · simp
                              · exact h
  have k1 := (h.take (show k <= n by omega)).below hbz
  have k2 : KRow wz .i64 ad (n - (k + 1)) (c - (k + 1)) (shf f (k + 1)) := by
   rcases hads with rfl | ⟨_, h0⟩
   · exact (h.from (show k + 1 <= n by omega)).below hbz
   · rw [h0]; exact KRow.nought _ _ _ _ (by unfold maxLen; omega) _
  have hL := LRow.two hrow k1 k2 (fun e => absurd e (by simp)) (fun e => absurd e hadn)
  have ht : tot (fun j => if j = 0 then k else n - (k + 1)) 2 = n - 1 := by show 0 + k + (n - (k + 1)) = n - 1; omega
  have := concat_any _ 2 2 _ _ _ _ wz hL (by omega) (by rw [ht]; omega)
  rw [ht] at this
  refine this.mono ?_
  rintro e w' ⟨a', c', rfl, hk', hnw, hb'⟩
  refine ⟨a', c', rfl, hk'.congr (fun j hj => ?_), hnw.nil, hb'⟩
  show app (app (fun _ => 0) 0 f) (0 + k) (shf f (k + 1)) j = outF f k j
  unfold app outF shf
  rw [Nat.zero_add]
  by_cases e : j < k
  · rw [if_pos e, if_pos e, if_neg (by omega)]; rfl
  · rw [if_neg e, if_neg e]; congr 1; omega)
 by_cases hck : c = k + 1
 · subst hck
   obtain rfl : n = k + 1 := by omega
   rw [show k + 1 - 1 = k by omega] at CO ⊢
   have CO2 : Hid (Calls Tryz.prog 121 #[.slice (some ⟨w.heap.size, 0, none⟩) 2 2] (w.alloc (.cells #[.slice (some ⟨b, off, none⟩) k (k + 1), .slice (some ⟨b, off, none⟩) 0 0] 22)).drew fun e w' => ∃ a' c', e = .returned (.slice a' k c') /\ KRow w' .i64 a' k c' (outF f k) /\ (a' = none -> c' = 0) /\ Below w.heap.size w w') := Lib.hid (by
    have hbz : Below w.heap.size w (w.alloc (.cells #[.slice (some ⟨b, off, none⟩) k (k + 1), .slice (some ⟨b, off, none⟩) 0 0] 22)).drew := ((Below.refl _ _).alloc (Nat.le_refl _) _).drew
    have hrow : Row (w.alloc (.cells #[.slice (some ⟨b, off, none⟩) k (k + 1), .slice (some ⟨b, off, none⟩) 0 0] 22)).drew w.heap.size 22 #[.slice (some ⟨b, off, none⟩) k (k + 1), .slice (some ⟨b, off, none⟩) 0 0] := Row.new w _ _
    refine (CO.out _ (some ⟨b, off, none⟩) (.inr ⟨by simp, by omega⟩) hbz (by rw [show k + 1 - (k + 1) = 0 by omega]; exact hrow)).mono ?_
    rintro e w' ⟨a', c', rfl, hk', hnw, hb'⟩
    exact ⟨a', c', rfl, hk', hnw, hbz.trans (hb'.mono hbz.size)⟩)
   have d1 : ¬ (((k + 1 : Nat) : Int) < k) := by omega
   have d2 : (0 : Int) <= k := by omega
   have d3 : ¬ (((k + 1 : Nat) : Int) < (k : Int) + 1) := by omega
   have d4 : (0 : Int) <= (k : Int) + 1 := by omega
   have hg : ((k : Int) + 1).toNat = k + 1 := by omega
   clear h
   go_enter Tryz.func75, Tryz.ntmps75
   go_wp2_with fail
   go_at_call 120
   (with_reducible refine (HA.out).mono ?_)
   rintro e w2 ⟨rfl, rfl⟩
   go_wp2_with fail
   go_region_with (go_at_call 121; (refine CO2.out.mono ?_); rintro e w3 ⟨a3, c3, rfl, hq3⟩; have HE := Lib.hid hq3; clear hq3)
   go_wp2
   go_ret
   exact ⟨_, _, rfl, HE.out⟩
 · have CO2 : Hid (Calls Tryz.prog 121 #[.slice (some ⟨w.heap.size, 0, none⟩) 2 2] (w.alloc (.cells #[.slice (some ⟨b, off, none⟩) k c, .slice (some ⟨b, off + (k + 1), none⟩) (n - (k + 1)) (c - (k + 1))] 22)).drew fun e w' => ∃ a' c', e = .returned (.slice a' (n - 1) c') /\ KRow w' .i64 a' (n - 1) c' (outF f k) /\ (a' = none -> c' = 0) /\ Below w.heap.size w w') := Lib.hid (by
     have hbz : Below w.heap.size w (w.alloc (.cells #[.slice (some ⟨b, off, none⟩) k c, .slice (some ⟨b, off + (k + 1), none⟩) (n - (k + 1)) (c - (k + 1))] 22)).drew := ((Below.refl _ _).alloc (Nat.le_refl _) _).drew
     have hrow : Row (w.alloc (.cells #[.slice (some ⟨b, off, none⟩) k c, .slice (some ⟨b, off + (k + 1), none⟩) (n - (k + 1)) (c - (k + 1))] 22)).drew w.heap.size 22 #[.slice (some ⟨b, off, none⟩) k c, .slice (some ⟨b, off + (k + 1), none⟩) (n - (k + 1)) (c - (k + 1))] := Row.new w _ _
     refine (CO.out _ _ (.inl rfl) hbz hrow).mono ?_
     rintro e w' ⟨a', c', rfl, hk', hnw, hb'⟩
     exact ⟨a', c', rfl, hk', hnw, hbz.trans (hb'.mono hbz.size)⟩)
   have d1 : ¬ ((c : Int) < k) := by omega
   have d2 : (0 : Int) <= k := by omega
   have d3 : ¬ ((n : Int) < (k : Int) + 1) := by omega
   have d4 : (0 : Int) <= (k : Int) + 1 := by omega
   have hg : ((k : Int) + 1).toNat = k + 1 := by omega
   clear h
   go_enter Tryz.func75, Tryz.ntmps75
   go_wp2_with fail
   go_at_call 120
   (with_reducible refine (HA.out).mono ?_)
   rintro e w2 ⟨rfl, rfl⟩
   go_wp2_with fail
   go_region_with (go_at_call 121; (refine CO2.out.mono ?_); rintro e w3 ⟨a3, c3, rfl, hq3⟩; have HE := Lib.hid hq3; clear hq3)
   go_wp2
   go_ret
   exact ⟨_, _, rfl, HE.out⟩
theorem ins_cat {k q : Nat} {R : Nat -> Int} : ∀ j, j < q + 1 -> cat (fun j => if j = 0 then k else if j = 1 then 1 else q - k) (fun j => if j = 0 then R else if j = 1 then fun _ => 1 else shf R k) 3 j = insF R k 1 j := fun j hj => by
 show app (app (app (fun _ => 0) 0 R) (0 + k) (fun _ => 1)) (0 + k + 1) (shf R k) j = insF R k 1 j
 unfold app insF shf
 rw [Nat.zero_add]
 by_cases h : j < k
 · rw [if_pos (by omega), if_pos h, if_neg (by omega), if_pos h]; rfl
 · by_cases e : j = k
   · rw [if_pos (by omega), if_neg h, if_neg h, if_pos e]
   · rw [if_neg (by omega), if_neg h, if_neg e]
     congr 1
     omega
theorem made0 {w : World} {n j : Nat} {t : TypeId} {z : Int} (hz : (w.alloc (.cells (madeCells (Value.cells (.int .i64 0)) n) t)).cell? ⟨w.heap.size, j, none⟩ = some (.int .i64 z)) (hj : j < n) : z = 0 := by
 have h := (IBox.made w n t rfl).2.2 j hj
 rw [h] at hz
 cases hz
 rfl
theorem layer_any (cs : Array Value) (S : Nat -> Int) (r : Nat) (ch : Bool) (L : Nat) (g fP : Nat -> Int) (fQ : Nat -> Nat) (ra : Option Addr) (q rc : Nat) (R : Nat -> Int) (k : Nat) (w : World) (h : Arr w cs S r ch L g fP fQ) (hr : r <= 8) (hR : KRow w .i64 ra q rc R) (hnil : ra = none -> rc = 0) (hk : k <= q) (h8 : q + 1 <= 8) (hsh : shB R q = true) :
    Calls Tryz.prog 48 #[.agg cs, .slice ra q rc, .int .i64 (k : Nat)] w fun e w' => ∃ cs', e = .returned (.agg cs') /\ Arr w' cs' (insF R k 1) (q + 1) ch (itm R q).toNat (fun j => elC L g 32 (exG r j)) (fun j => elP L fP (exG r j)) (fun j => elQ L fQ (exG r j)) /\ Below w.heap.size w w' := by
 obtain ⟨na, nn, nc, ta, tn, tc, hcs, _⟩ := h.form
 subst hcs
 obtain ⟨i0, hi, hz0, hz1, hz2⟩ := info_parts infoI
 have hshi := ins_sh hk h8 hsh
 have hbd := ax_bd (sh_ax hsh).2
 obtain ⟨M, hM⟩ : ∃ M : Nat, itm R q = (M : Nat) := ⟨(itm R q).toNat, by omega⟩
 have hMi : itm (insF R k 1) (q + 1) = (M : Nat) := (ins_rm hk).2.trans hM
 have hM4 : M <= 4096 := by omega
 rw [hM, Int.toNat_natCast]
 have hT : In64 (insF R k 1) (q + 1) := fun j hj => by have := ax_le4 hshi hj; omega
 have hmk := fun wz => run_make (P := Tryz.prog) wz 22 3 i0 _ Tryz.underlying22 hi hz0 .i64 .i64 M M (by omega) (by omega) (by rw [hz2]; omega) (by omega)
 simp only [Int.toNat_natCast, hz1, Nat.mul_one] at hmk
 have H := Lib.hid h
 have RK := Lib.hid (fun wz (h : Arr wz (arrC ch ((r : Int) - 1) (dm S r) na nn nc ta tn tc) S r ch L g fP fQ) => rank8_any (arrC ch ((r : Int) - 1) (dm S r) na nn nc ta tn tc) S r ch L g fP fQ wz h (by omega))
 have CN := Lib.hid (fun sa sc wz (h : KRow wz .i64 sa (q + 1) sc (insF R k 1)) => count_any sa (q + 1) sc (insF R k 1) wz h hT)
 unfold CntTold at CN
 have hx : cntI (insF R k 1) (q + 1) = (M : Nat) := by unfold cntI; rw [hshi, if_pos rfl, hMi]
 rw [hshi, hx] at CN
 have PK := Lib.hid (fun sa sc wz pa pc (h : Arr wz (arrC ch ((r : Int) - 1) (dm S r) na nn nc ta tn tc) S r ch L g fP fQ) (h2 : KRow wz .i64 sa (q + 1) sc (insF R k 1)) (h3 : KRow wz .i64 pa M pc (exG r)) => pick8_any (arrC ch ((r : Int) - 1) (dm S r) na nn nc ta tn tc) S r ch L g fP fQ sa (q + 1) sc (insF R k 1) pa M pc (exG r) wz h h2 hT h3 (exG_in r M (by omega)) (by omega))
 rw [hshi, hMi, decide_eq_true rfl, Bool.true_and] at PK
 unfold ArrTold at PK
 have hl := hR.len
 have hcm := hR.2.1
 unfold maxLen at hcm
 have BB := Lib.hid ((((Bag.start w).krow hR).newRow (arrC ch ((r : Int) - 1) (dm S r) na nn nc ta tn tc) 32).newRow zerC 32)
 simp only [World.size_alloc] at BB
 -- rows[:axis] and rows[axis:]
 have k1 := KRow.part hR (l := 0) (m := k) (by omega)
 have k2 := KRow.part hR (l := k) (m := q - k) (by omega)
 have n1 : (if rc = 0 then ra else ra.map (·.add (0 * 1))) = none -> rc = 0 := fun e => by
  split at e
  · assumption
  · exact hnil (by cases ra with | none => rfl | some x => cases e)
 have n2 : (if rc = k then ra else ra.map (·.add (k * 1))) = none -> rc - k = 0 := fun e => by
  split at e
  · omega
  · have := hnil (by cases ra with | none => rfl | some x => cases e)
    omega
 have hs1 : ∀ wz, (Instr.slice 22 (.slice ra q rc) none (some (.int .i64 (k : Nat))) none).run Tryz.prog wz = .ok (.slice (if rc = 0 then ra else ra.map (·.add (0 * 1))) k rc) wz := fun wz => by
  have ht : Tryz.prog.underlying 22 = some (.slice (Tryz.prog.elem 22)) := by kernel_rfl
  have he : Tryz.prog.elem 22 = 3 := by kernel_rfl
  rw [run_slice_h wz 22 ra q rc ht .i64 _ (by omega) (by omega)]
  simp [sizeOf, typeInfo, he, hi, hz1, Result.andThen, sliced]
 have hs2 : ∀ wz, (Instr.slice 22 (.slice ra q rc) (some (.int .i64 (k : Nat))) none none).run Tryz.prog wz = .ok (.slice (if rc = k then ra else ra.map (·.add (k * 1))) (q - k) (rc - k)) wz := fun wz => by
  have ht : Tryz.prog.underlying 22 = some (.slice (Tryz.prog.elem 22)) := by kernel_rfl
  have he : Tryz.prog.elem 22 = 3 := by kernel_rfl
  rw [run_slice_l wz 22 ra q rc ht .i64 _ (by omega) (by omega)]
  simp [sizeOf, typeInfo, he, hi, hz1, Result.andThen, sliced]
 obtain ⟨A1, hA1⟩ : ∃ x, (if rc = 0 then ra else ra.map (·.add (0 * 1))) = x := ⟨_, rfl⟩
 obtain ⟨A2, hA2⟩ : ∃ x, (if rc = k then ra else ra.map (·.add (k * 1))) = x := ⟨_, rfl⟩
 rw [hA1] at k1 n1
 rw [hA2] at k2 n2
 simp only [hA1] at hs1
 simp only [hA2] at hs2
 have k1 : KRow w .i64 A1 k rc R := k1.congr (fun j _ => by unfold shf; rw [Nat.zero_add])
 have JN : Hid (∀ k7 k3 wz, Below w.heap.size w wz -> Row wz k7 22 #[.slice A1 k rc, .slice (some ⟨k3, 0, none⟩) 1 1, .slice A2 (q - k) (rc - k)] -> KRow wz .i64 (some ⟨k3, 0, none⟩) 1 1 (fun _ => 1) ->
     Calls Tryz.prog 89 #[.slice (some ⟨k7, 0, none⟩) 3 3] wz fun e w' => ∃ a' c', e = .returned (.slice a' (q + 1) c') /\ KRow w' .i64 a' (q + 1) c' (insF R k 1) /\ Below wz.heap.size wz w') := Lib.hid (fun k7 k3 wz hb hrow h3 => by
  have hbw := hb
  have hL := LRow.three hrow (k1.below hbw) h3 (k2.below hbw) n1 (fun e => by cases e) n2
  have ht : tot (fun j => if j = 0 then k else if j = 1 then 1 else q - k) 3 = q + 1 := by show 0 + k + 1 + (q - k) = q + 1; omega
  have := join_any _ 3 3 _ _ _ _ wz hL (by omega) (by rw [ht]; omega)
  rw [ht] at this
  refine this.mono ?_
  rintro e w' hq
  obtain ⟨a', c', rfl, hk', hb'⟩ := hq
  exact ⟨a', c', rfl, hk'.congr ins_cat, hb'⟩)
 clear h hR hnil hsh hshi hbd hM hMi hT hx hi hz0 hz1 hz2 hcm hA1 hA2 k1 k2 n1 n2
 unfold arrC
 go_enter Tryz.func48, Tryz.ntmps48
 go_wp2_with fail
 have hWW := Below.refl ((w.alloc (.cells (arrC ch ((r : Int) - 1) (dm S r) na nn nc ta tn tc) 32)).alloc (.cells zerC 32)).heap.size ((w.alloc (.cells (arrC ch ((r : Int) - 1) (dm S r) na nn nc ta tn tc) 32)).alloc (.cells zerC 32))
 unfold arrC zerC at hWW
 unfold zerC at BB
 unfold arrC at BB
 generalize hW : ((w.alloc (.cells _ 32)).alloc (.cells _ 32)) = YY at *
 clear hW hWW
 refine wp_region_inv2 ⟨(fun j => ([[14], [15], [16], [17], [18], [19], [20], [21], [22], [7]] : List (List Nat)).getD j []), (fun j => ([[], [], [0, 1], [], [], [], [4, 5], [0, 1, 2, 3, 4, 5, 6], [0, 1, 2, 3, 4, 5, 6, 7], [0, 1, 2, 3, 4, 5, 6, 7, 8]] : List (List Nat)).getD j []), [3, 7]⟩ (fun jj vv yy => match jj with | 0 => vv = [some (.slice ra q rc)] | 1 => vv = [some (.int .i64 (k : Nat))] | 2 => vv = [some (.slice A1 k rc)] | 3 => ∃ (k3 : Nat), vv = [some (.slice (some ⟨k3, 0, none⟩) 1 1)] /\ KRow yy .i64 (some ⟨k3, 0, none⟩) 1 1 (fun _ => 1) | 4 => vv = [some (.slice ra q rc)] | 5 => vv = [some (.int .i64 (k : Nat))] | 6 => vv = [some (.slice A2 (q - k) (rc - k))] | 7 => ∃ (k7 : Nat), ∃ (k3 : Nat), vv = [some (.slice (some ⟨k7, 0, none⟩) 3 3)] /\ Row yy k7 22 #[.slice A1 k rc, .slice (some ⟨k3, 0, none⟩) 1 1, .slice A2 (q - k) (rc - k)] /\ KRow yy .i64 (some ⟨k3, 0, none⟩) 1 1 (fun _ => 1) | 8 => ∃ (a8 : Option Addr), ∃ (c8 : Nat), vv = [some (.slice a8 (q + 1) c8)] /\ KRow yy .i64 a8 (q + 1) c8 (insF R k 1) | 9 => ∃ (a8 : Option Addr), ∃ (c8 : Nat), vv = [some (.slice a8 (q + 1) c8)] /\ KRow yy .i64 a8 (q + 1) c8 (insF R k 1) | _ => True) (Bag YY (fun _ => True)) (by kernel_rfl) (by kernel_rfl) (by kernel_rfl) (Bag.start YY).drew ?_ ?_ ?_
 · intro jj vv yw yw2 hb h
   match jj, h with
   | 0, h => exact h
   | 1, h => exact h
   | 2, h => exact h
   | 3, ⟨k3, e3, g3_0⟩ => exact Exists.intro k3 (And.intro e3 (g3_0.below hb))
   | 4, h => exact h
   | 5, h => exact h
   | 6, h => exact h
   | 7, ⟨k7, k3, e7, g7_0, g7_1⟩ => exact Exists.intro k7 (Exists.intro k3 (And.intro e7 (And.intro (g7_0.below hb) (g7_1.below hb))))
   | 8, ⟨a8, c8, e8, g8_0⟩ => exact Exists.intro a8 (Exists.intro c8 (And.intro e8 (g8_0.below hb)))
   | 9, ⟨a8, c8, e9, g9_0⟩ => exact Exists.intro a8 (Exists.intro c8 (And.intro e9 (g9_0.below hb)))
   | _ + 10, h => exact h
 · intro ac yw hsz hdf hold hB hp
   obtain ⟨a8, c8, e9, h8⟩ := hp 9 (by decide)
   have t7 : ac.tmps[7]? = some (.slice a8 (q + 1) c8) := (List.cons.inj e9).1
   have t3 : ac.tmps[3]? = some (.pointer (some ⟨w.heap.size, 0, none⟩)) := hold 3 (by kernel_rfl)
   have t6 : ac.tmps[6]? = some (.pointer (some ⟨w.heap.size + 1, 0, none⟩)) := hold 6 (by kernel_rfl)
   have BB := Lib.hid (BB.out.go hB.below)
   have HK := Lib.hid h8
   have hl8 := h8.len
   clear hold hp e9 h8 hB
   obtain ⟨TW, hTW⟩ : ∃ TW : Nat -> Value, ∀ i, (ac.tmps[i]?).getD undef = TW i := ⟨_, fun _ => rfl⟩
   have f3 := (hTW 3).symm.trans (congrArg (fun x => Option.getD x undef) t3)
   have f6 := (hTW 6).symm.trans (congrArg (fun x => Option.getD x undef) t6)
   have f7 := (hTW 7).symm.trans (congrArg (fun x => Option.getD x undef) t7)
   have hac := act_eq (n := 51) hsz TW hTW
   rw [show ((List.range 51).map TW).toArray = #[TW 0, TW 1, TW 2, TW 3, TW 4, TW 5, TW 6, TW 7, TW 8, TW 9, TW 10, TW 11, TW 12, TW 13, TW 14, TW 15, TW 16, TW 17, TW 18, TW 19, TW 20, TW 21, TW 22, TW 23, TW 24, TW 25, TW 26, TW 27, TW 28, TW 29, TW 30, TW 31, TW 32, TW 33, TW 34, TW 35, TW 36, TW 37, TW 38, TW 39, TW 40, TW 41, TW 42, TW 43, TW 44, TW 45, TW 46, TW 47, TW 48, TW 49, TW 50] from rfl, f3, f6, f7, hdf] at hac
   simp only [Option.getD_some] at hac
   subst hac
   clear hTW f3 f6 f7
   generalize yw = Y2 at *
   go_wp2_with fail
   go_at_call 90
   (with_reducible refine (CN.out _ _ _ HK.out).mono ?_)
   rintro e w3 ⟨rfl, rfl⟩
   have HR1 := Lib.hid (BB.out.now.2.1)
   by_cases hr0 : r = 0
   · have d0 : ¬ ((0 : Int) < (r : Int)) := by omega
     have HKP : Hid (KRow (Y2.alloc (.cells (madeCells (Value.cells (.int .i64 0)) M) 3)) .i64 (some ⟨Y2.heap.size, 0, none⟩) M M (exG r)) := Lib.hid (by
      have h1 := KTo.made Y2 M 3 (fun _ => 0) rfl
      have h2 : KTo (Y2.alloc (.cells (madeCells (Value.cells (.int .i64 0)) M) 3)) Y2.heap.size M M (fun _ => 0) := by
       refine ⟨h1.1, h1.2.1, fun j hj => ?_⟩
       obtain ⟨z, hz, _⟩ := h1.2.2 j hj
       refine ⟨z, hz, fun _ => ?_⟩
       exact made0 hz hj
      refine (h2.done (by unfold maxLen; omega)).congr (fun j _ => ?_)
      unfold exG
      rw [if_pos hr0])
     have HB1 : Hid (Below Y2.heap.size Y2 (Y2.alloc (.cells (madeCells (Value.cells (.int .i64 0)) M) 3))) := Lib.hid ((Below.refl _ _).alloc (Nat.le_refl _) _)
     have HK := Lib.hid (HK.out.below HB1.out)
     have BB := Lib.hid (BB.out.go HB1.out)
     have HR1 := Lib.hid (BB.out.now.2.1)
     clear hr0 HB1
     go_wp2_with (refine ld_arr rfl (.tmp 3) rfl w.heap.size rfl HR1.out ?_)
     go_at_call 34
     (with_reducible refine (RK.out _ ?_).mono ?_)
     · exact H.out.below BB.out.below
     rintro e w5 ⟨rfl, hb5⟩
     have BB := Lib.hid (BB.out.go hb5)
     have HK := Lib.hid (HK.out.below hb5)
     have HKP := Lib.hid (HKP.out.below hb5)
     have HR1 := Lib.hid (BB.out.now.2.1)
     clear hb5
     go_wp2_with (refine ld_arr rfl (.tmp 3) rfl w.heap.size rfl HR1.out ?_)
     go_at_call 53
     (refine (PK.out _ _ _ _ _ (H.out.below BB.out.below) HK.out HKP.out).mono ?_)
     rintro e w9 ⟨x9, rfl, h9, hb9⟩
     rw [if_pos trivial] at h9
     have BB := Lib.hid (BB.out.go hb9)
     have HZ := Lib.hid (BB.out.now.2.1)
     obtain ⟨n9, m9, d9, u9, v9, y9, hx9, _⟩ := h9.form
     rw [show (((q + 1 : Nat) : Int) - 1) = ((q : Nat) : Int) by omega] at hx9
     subst hx9
     have B9 := BB.out.below
     have h10 : Row (w9.alloc (.cells (arrC ch ((q : Nat) : Int) (dm (insF R k 1) (q + 1)) n9 m9 d9 u9 v9 y9) 32)) w9.heap.size 32 _ := Row.new _ _ _
     have hb10 : Below w9.heap.size w9 (w9.alloc (.cells (arrC ch ((q : Nat) : Int) (dm (insF R k 1) (q + 1)) n9 m9 d9 u9 v9 y9) 32)) := (Below.refl _ _).alloc (Nat.le_refl _) _
     have HX := Lib.hid h10
     have HA := Lib.hid (h9.below hb10)
     have BB := Lib.hid (BB.out.go hb10)
     have HZ := Lib.hid (BB.out.now.1)
     have HE := Lib.hid (And.intro (HA.out.put HZ.out (arrC ch ((q : Nat) : Int) (dm (insF R k 1) (q + 1)) n9 m9 d9 u9 v9 y9)) (below_put BB.out.below (show w.heap.size <= w.heap.size + 1 by omega) (arrC ch ((q : Nat) : Int) (dm (insF R k 1) (q + 1)) n9 m9 d9 u9 v9 y9)))
     clear h9 hb9 B9 h10 hb10
     unfold arrC
     unfold arrC at HX
     go_wp2_with (first
      | (refine ld_arr rfl (.tmp 12) rfl w9.heap.size rfl HX.out ?_)
      | (refine st_arr rfl (.tmp 6) (.tmp 50) rfl (w.heap.size + 1) rfl _ _ _ _ _ _ _ _ _ rfl HZ.out rfl ?_))
     exact bodyPost_ret (res_arr Tryz.results48 rfl (HZ.out.put _) rfl) rfl ⟨_, rfl, HE.out⟩
   · have d0 : (0 : Int) < (r : Int) := by omega
     have HB1 : Hid (Below Y2.heap.size Y2 (Y2.alloc (.cells (madeCells (Value.cells (.int .i64 0)) M) 3))) := Lib.hid ((Below.refl _ _).alloc (Nat.le_refl _) _)
     have HTO : Hid (KTo (Y2.alloc (.cells (madeCells (Value.cells (.int .i64 0)) M) 3)) Y2.heap.size M 0 (exG r)) := Lib.hid (KTo.made Y2 M 3 (exG r) rfl)
     have HEX : Hid (∀ j : Nat, exG r j = (j : Int)) := Lib.hid (fun j => by unfold exG; rw [if_neg hr0])
     have BB1 := Lib.hid (BB.out.go HB1.out)
     have HR1 := Lib.hid (BB1.out.now.2.1)
     clear hr0
     go_wp2_with (refine ld_arr rfl (.tmp 3) rfl w.heap.size rfl HR1.out ?_)
     go_at_call 34
     (with_reducible refine (RK.out _ ?_).mono ?_)
     · exact H.out.below BB1.out.below
     rintro e w5 ⟨rfl, hb5⟩
     have HB5 := Lib.hid (HB1.out.trans (hb5.mono HB1.out.size))
     have HTO := Lib.hid (HTO.out.below hb5)
     clear hb5 BB1 HR1
     go_wp2_with fail
     go_loopw [11, 35] (fun v11 i wr => (∃ v, v = v11) /\ ∃ j : Nat, j <= M /\ i = .int .i64 j /\ Hid (Below Y2.heap.size Y2 wr /\ KTo wr Y2.heap.size M j (exG r))) (fun _ i _ => M - (intOf i).toNat)
     case atStart => exact ⟨⟨_, rfl⟩, 0, by omega, rfl, HB5.out, HTO.out⟩
     case round =>
      obtain ⟨⟨v11, rfl⟩, j, hj, rfl, hrel⟩ := hrel
      obtain ⟨hbl, hto⟩ := hrel.out
      by_cases hlt : j < M
      · obtain ⟨⟨z0, x1⟩, y1⟩ := hto.place hlt
        have hj0 : (0 : Int) <= j := by omega
        have hj1 : (j : Int) < M := by omega
        have hst := hto.step hlt
        rw [HEX.out j] at hst
        have HN := Lib.hid (And.intro (hbl.setCell (p := ⟨Y2.heap.size, j, none⟩) (Nat.le_refl _) (.int .i64 (j : Nat))) hst)
        clear hbl hto hrel hst
        go_wp2_with fail
        go_roundw
        case rel => exact ⟨⟨_, rfl⟩, j + 1, by omega, by go_num, HN.out⟩
        case measure => simp [intOf]; omega
      · obtain rfl : j = M := by omega
        have HKP := Lib.hid (hto.done (by unfold maxLen; omega))
        have HK := Lib.hid (HK.out.below hbl)
        have BB := Lib.hid (BB.out.go hbl)
        have HR1 := Lib.hid (BB.out.now.2.1)
        clear hbl hto hrel hlt hj
        go_wp2_with (refine ld_arr rfl (.tmp 3) rfl w.heap.size rfl HR1.out ?_)
        go_at_call 53
        (refine (PK.out _ _ _ _ _ (H.out.below BB.out.below) HK.out HKP.out).mono ?_)
        rintro e w9 ⟨x9, rfl, h9, hb9⟩
        rw [if_pos trivial] at h9
        have BB := Lib.hid (BB.out.go hb9)
        have HZ := Lib.hid (BB.out.now.2.1)
        obtain ⟨n9, m9, d9, u9, v9, y9, hx9, _⟩ := h9.form
        rw [show (((q + 1 : Nat) : Int) - 1) = ((q : Nat) : Int) by omega] at hx9
        subst hx9
        have B9 := BB.out.below
        have h10 : Row (w9.alloc (.cells (arrC ch ((q : Nat) : Int) (dm (insF R k 1) (q + 1)) n9 m9 d9 u9 v9 y9) 32)) w9.heap.size 32 _ := Row.new _ _ _
        have hb10 : Below w9.heap.size w9 (w9.alloc (.cells (arrC ch ((q : Nat) : Int) (dm (insF R k 1) (q + 1)) n9 m9 d9 u9 v9 y9) 32)) := (Below.refl _ _).alloc (Nat.le_refl _) _
        have HX := Lib.hid h10
        have HA := Lib.hid (h9.below hb10)
        have BB := Lib.hid (BB.out.go hb10)
        have HZ := Lib.hid (BB.out.now.1)
        have HE := Lib.hid (And.intro (HA.out.put HZ.out (arrC ch ((q : Nat) : Int) (dm (insF R k 1) (q + 1)) n9 m9 d9 u9 v9 y9)) (below_put BB.out.below (show w.heap.size <= w.heap.size + 1 by omega) (arrC ch ((q : Nat) : Int) (dm (insF R k 1) (q + 1)) n9 m9 d9 u9 v9 y9)))
        clear h9 hb9 B9 h10 hb10
        unfold arrC
        unfold arrC at HX
        go_wp2_with (first
         | (refine ld_arr rfl (.tmp 12) rfl w9.heap.size rfl HX.out ?_)
         | (refine st_arr rfl (.tmp 6) (.tmp 50) rfl (w.heap.size + 1) rfl _ _ _ _ _ _ _ _ _ rfl HZ.out rfl ?_))
        exact bodyPost_ret (res_arr Tryz.results48 rfl (HZ.out.put _) rfl) rfl ⟨_, rfl, HE.out⟩
 refine Stps2.cons (o := _) ?_ ?_
 · intro ac yw hsz hold hB hp K hK
   have t1 : ac.tmps[1]? = some (.slice ra q rc) := hold 1 (by kernel_rfl)
   clear hold hp hsz
   go_simp
   exact hK.out _ _ ⟨hB, rfl, Nat.le_refl _, .inl (Below.refl _ _), fun h => absurd h (by decide)⟩
 refine Stps2.cons (o := _) ?_ ?_
 · intro ac yw hsz hold hB hp K hK
   have t2 : ac.tmps[2]? = some (.int .i64 (k : Nat)) := hold 2 (by kernel_rfl)
   clear hold hp hsz
   go_simp
   exact hK.out _ _ ⟨hB, rfl, Nat.le_refl _, .inl (Below.refl _ _), fun h => absurd h (by decide)⟩
 refine Stps2.cons (o := _) ?_ ?_
 · intro ac yw hsz hold hB hp K hK
   have e0 := hp 0 (by decide)
   have t14 : ac.tmps[14]? = some (.slice ra q rc) := (List.cons.inj e0).1
   have e1 := hp 1 (by decide)
   have t15 : ac.tmps[15]? = some (.int .i64 (k : Nat)) := (List.cons.inj e1).1
   clear hold hp hsz e0 e1
   go_simp
   exact hK.out _ _ ⟨hB, rfl, Nat.le_refl _, .inl (Below.refl _ _), fun h => absurd h (by decide)⟩
 refine Stps2.cons (o := _) ?_ ?_
 · intro ac yw hsz hold hB hp K hK
   clear hold hp hsz
   have hbz : Below yw.heap.size yw (yw.alloc (.cells #[.int .i64 1] 3)) /\ yw.heap.size < (yw.alloc (.cells #[.int .i64 1] 3)).heap.size := ⟨(Below.refl _ _).alloc (Nat.le_refl _) _, by rw [World.size_alloc]; omega⟩
   go_simp
   exact hK.out _ _ ⟨hB.alloc _, Exists.intro yw.heap.size (And.intro rfl (KRow.one' yw .i64 1 3)), Nat.le_of_lt hbz.2, .inl hbz.1, fun _ => ⟨_, rfl, Nat.le_refl _, hbz.2⟩⟩
 refine Stps2.cons (o := _) ?_ ?_
 · intro ac yw hsz hold hB hp K hK
   have t1 : ac.tmps[1]? = some (.slice ra q rc) := hold 1 (by kernel_rfl)
   clear hold hp hsz
   go_simp
   exact hK.out _ _ ⟨hB, rfl, Nat.le_refl _, .inl (Below.refl _ _), fun h => absurd h (by decide)⟩
 refine Stps2.cons (o := _) ?_ ?_
 · intro ac yw hsz hold hB hp K hK
   have t2 : ac.tmps[2]? = some (.int .i64 (k : Nat)) := hold 2 (by kernel_rfl)
   clear hold hp hsz
   go_simp
   exact hK.out _ _ ⟨hB, rfl, Nat.le_refl _, .inl (Below.refl _ _), fun h => absurd h (by decide)⟩
 refine Stps2.cons (o := _) ?_ ?_
 · intro ac yw hsz hold hB hp K hK
   have e4 := hp 4 (by decide)
   have t18 : ac.tmps[18]? = some (.slice ra q rc) := (List.cons.inj e4).1
   have e5 := hp 5 (by decide)
   have t19 : ac.tmps[19]? = some (.int .i64 (k : Nat)) := (List.cons.inj e5).1
   clear hold hp hsz e4 e5
   go_simp
   exact hK.out _ _ ⟨hB, rfl, Nat.le_refl _, .inl (Below.refl _ _), fun h => absurd h (by decide)⟩
 refine Stps2.cons (o := _) ?_ ?_
 · intro ac yw hsz hold hB hp K hK
   have e2 := hp 2 (by decide)
   have t16 : ac.tmps[16]? = some (.slice A1 k rc) := (List.cons.inj e2).1
   obtain ⟨k3_3, e3, g3_0⟩ := hp 3 (by decide)
   have t17 : ac.tmps[17]? = some (.slice (some ⟨k3_3, 0, none⟩) 1 1) := (List.cons.inj e3).1
   have e6 := hp 6 (by decide)
   have t20 : ac.tmps[20]? = some (.slice A2 (q - k) (rc - k)) := (List.cons.inj e6).1
   clear hold hp hsz e2 e3 e6
   have hbz : Below yw.heap.size yw (yw.alloc (.cells #[.slice A1 k rc, .slice (some ⟨k3_3, 0, none⟩) 1 1, .slice A2 (q - k) (rc - k)] 22)) /\ yw.heap.size < (yw.alloc (.cells #[.slice A1 k rc, .slice (some ⟨k3_3, 0, none⟩) 1 1, .slice A2 (q - k) (rc - k)] 22)).heap.size := ⟨(Below.refl _ _).alloc (Nat.le_refl _) _, by rw [World.size_alloc]; omega⟩
   go_simp
   exact hK.out _ _ ⟨hB.alloc _, Exists.intro yw.heap.size (Exists.intro k3_3 (And.intro rfl (And.intro (Row.new yw _ _) (g3_0.below hbz.1)))), Nat.le_of_lt hbz.2, .inl hbz.1, fun _ => ⟨_, rfl, Nat.le_refl _, hbz.2⟩⟩
 refine Stps2.cons (o := _) ?_ ?_
 · intro ac yw hsz hold hB hp K hK
   obtain ⟨k7_7, k3_7, e7, g7_0, g7_1⟩ := hp 7 (by decide)
   have t21 : ac.tmps[21]? = some (.slice (some ⟨k7_7, 0, none⟩) 3 3) := (List.cons.inj e7).1
   clear hold hp hsz e7
   go_simp
   (go_at_call 89; (refine (JN.out _ _ _ ((BB.out.go hB.below).below) g7_0 g7_1).mono ?_); rintro e wz ⟨a8, c8, rfl, h8_0, hbz⟩)
   exact hK.out _ _ ⟨hB.go hbz, Exists.intro a8 (Exists.intro c8 (And.intro rfl h8_0)), hbz.size, .inl hbz, fun h => absurd h (by decide)⟩
 refine Stps2.cons (o := _) ?_ ?_
 · intro ac yw hsz hold hB hp K hK
   obtain ⟨a8_8, c8_8, e8, g8_0⟩ := hp 8 (by decide)
   have t22 : ac.tmps[22]? = some (.slice a8_8 (q + 1) c8_8) := (List.cons.inj e8).1
   clear hold hp hsz e8
   go_simp
   exact hK.out _ _ ⟨hB, Exists.intro a8_8 (Exists.intro c8_8 (And.intro rfl g8_0)), Nat.le_refl _, .inl (Below.refl _ _), fun h => absurd h (by decide)⟩
 exact Stps2.nil _
end Go.Proofs.YtdlccnmhcggjiaaGreatDoor
namespace Go.Proofs.YtdlccnmhcggjiaaGreatDoor
open Go.RowKit
def bnd (b x : Int) : Int := min (max x (0 - b)) b
theorem cloneI_some (ad : Addr) (n c : Nat) (f : Nat -> Int) (w : World) (h : KRow w .i64 (some ad) n c f) (hn : n <= 1000000) :
    Calls Tryz.prog 88 #[.slice (some ad) n c] w fun e w' => ∃ g c', e = .returned (.slice (some ⟨g, 0, none⟩) n c') /\ w.heap.size <= g /\ g < w'.heap.size /\ KRow w' .i64 (some ⟨g, 0, none⟩) n c' f /\ Below w.heap.size w w' := by
 obtain ⟨i0, hi, hz0, hz1, hz2⟩ := info_parts infoI
 have q22 : ∀ (w : World) (a : Option Addr) (n c n' c' : Nat), (binOp .eql 22 (.slice a n c) (.slice none n' c')).run Tryz.prog w = .ok (.bool a.isNone) w := fun w a n c n' c' => Lib.run_eql_slice_nil w _ _ a n c n' c' Tryz.underlying22
 have hex : ∃ news : List Value, news.length = n * 1 /\ (∀ j u, news[j]? = some u -> w.cell? (ad.add j) = some u) /\ (∀ u ∈ news, u.oneCell' = true) /\ ∀ j, j < n -> news[j]? = some (.int .i64 (f j)) := by
  rcases h.2.2 with h0 | ⟨b, off, he, hb, hc⟩
  · subst h0
    exact ⟨[], rfl, fun j u hu => by simp at hu, fun u hu => by simp at hu, fun j hj => by omega⟩
  · obtain rfl := Option.some.inj he
    have hg : ∀ j, j < n -> ((List.range n).map fun j => Value.int .i64 (f j))[j]? = some (.int .i64 (f j)) := fun j hj => by rw [List.getElem?_map, List.getElem?_range hj]; rfl
    refine ⟨(List.range n).map fun j => .int .i64 (f j), by simp, fun j u hu => ?_, fun u hu => ?_, hg⟩
    · have hj : j < n := by
        have := (List.getElem?_eq_some_iff.1 hu).1
        simpa using this
      rw [hg j hj] at hu
      obtain rfl := Option.some.inj hu
      rw [show (⟨b, off, none⟩ : Addr).add j = ⟨b, off + j, none⟩ by simp [Addr.add]]
      exact hc j hj
    · obtain ⟨j, _, rfl⟩ := List.mem_map.1 hu
      rfl
 obtain ⟨news, hl, hcell, hone, hrat⟩ := hex
 have HC := Lib.hid hcell
 have HO := Lib.hid hone
 have HR := Lib.hid hrat
 have HL := Lib.hid hl
 have HN := Lib.hid hn
 clear hcell hone hrat hl h hn
 go_enter Tryz.func88, Tryz.ntmps88
 go_wp2_with (at_builtin; refine wpList_append_own _ rfl _ _ 22 rfl w.heap.size 3 i0 _ 1 8 Tryz.underlying22 hi hz0 hz1 hz2 rfl (by omega) _ _ _ rfl (World.ownsRow_made w #[] 0 (Nat.le_refl _) (Nat.zero_le _) (by simp)) ad n c news rfl ?qc1 ?qc2 ?qc3 ?qc4 ?qc5 ?qc6 ?_)
 case qc1 => exact HL.out
 case qc2 => exact fun j u hj => Lib.cell?_alloc_some _ (HC.out j u hj)
 case qc3 => exact HO.out
 case qc4 => have := HN.out; unfold maxLen; omega
 case qc5 => have := HN.out; omega
 case qc6 => simp
 intro v' w1 hown hgrow hnil
 have hb : Below w.heap.size w w1 := ((Below.refl _ w).alloc (Nat.le_refl _) _).grown hgrow (by simp) (by intro k hk; simp [Value.ownBlock] at hk; omega)
 have HE : Hid (∃ g c', v' = .slice (some ⟨g, 0, none⟩) n c' /\ w.heap.size <= g /\ g < w1.heap.size /\ KRow w1 .i64 (some ⟨g, 0, none⟩) n c' f) := by
  rcases hown.2 with ⟨e0, h0⟩ | ⟨g, cap, cur, rfl, hge, hh, h1, h2, _, hcs⟩
  · exact absurd e0 (by first | exact hnil | (intro e1; have := (hnil.1 e1).1; cases this))
  · try rw [Nat.zero_add] at h1
    refine ⟨g, cap, by first | rfl | rw [Nat.zero_add], hge, Row.lt (t := 3) hh, h1, h2, .inr ⟨g, 0, rfl, Row.lt (t := 3) hh, fun j hj => ?_⟩⟩
    have := hown.cells (g := g) rfl j _ (by first | exact HR.out j hj | (rw [List.nil_append]; exact HR.out j hj))
    rwa [show (⟨g, 0, none⟩ : Addr).add j = ⟨g, 0 + j, none⟩ by unfold Addr.add; split <;> simp_all] at this
 have HB := Lib.hid hb
 clear hown hgrow hnil hb
 go_wp2
 go_ret
 obtain ⟨g, c', rfl, hr⟩ := HE.out
 exact ⟨g, c', rfl, hr.1, hr.2.1, hr.2.2, HB.out⟩
theorem shape_new (cs : Array Value) (S : Nat -> Int) (r : Nat) (ch : Bool) (L : Nat) (g fP : Nat -> Int) (fQ : Nat -> Nat) (w : World) (h : Arr w cs S r ch L g fP fQ) (hr : r <= 8) :
    Calls Tryz.prog 46 #[.agg cs] w fun e w' => ∃ g c', e = .returned (.slice (some ⟨g, 0, none⟩) r c') /\ w.heap.size <= g /\ g < w'.heap.size /\ KRow w' .i64 (some ⟨g, 0, none⟩) r c' S /\ Below w.heap.size w w' := by
 obtain ⟨na, nn, nc, ta, tn, tc, rfl, _⟩ := h.form
 have RK := Lib.hid (fun wz => rank_any ch (dm S r) r na nn nc ta tn tc wz (by omega))
 have CL := Lib.hid (fun a c wz h => cloneI_some a r c S wz h (by omega))
 have BB := Lib.hid ((Bag.start w).newRow (arrC ch ((r : Int) - 1) (dm S r) na nn nc ta tn tc) 32)
 have HR := Lib.hid BB.out.now.1
 have h0 : (0 : Int) <= r := by omega
 have h8 : (r : Int) <= 8 := by omega
 clear h
 unfold arrC
 go_enter Tryz.func46, Tryz.ntmps46
 go_wp2_with (refine ld_arr rfl (.tmp 1) rfl w.heap.size rfl HR.out ?_)
 go_at_call 34
 (with_reducible refine (RK.out _).mono ?_)
 rintro e w2 ⟨rfl, hb2⟩
 have BB := Lib.hid (BB.out.go hb2)
 clear hb2
 go_wp2_with fail
 go_at_call 88
 (with_reducible refine (CL.out _ _ _ ?_).mono ?_)
 · exact KRow.of_box BB.out.now.1 hr
 rintro e w3 ⟨g3, c3, rfl, hg3, hg4, hk3, hb3⟩
 have HE : Hid (w.heap.size <= g3 /\ g3 < w3.heap.size /\ KRow w3 .i64 (some ⟨g3, 0, none⟩) r c3 S /\ Below w.heap.size w w3) := ⟨Nat.le_trans BB.out.below.size hg3, hg4, hk3, (BB.out.go hb3).below⟩
 clear hk3 hb3 hg3 hg4
 go_wp2
 go_ret
 exact ⟨_, _, rfl, HE.out⟩
end Go.Proofs.YtdlccnmhcggjiaaGreatDoor
namespace Go.Proofs.YtdlccnmhcggjiaaGreatDoor
open Go.RowKit
attribute [local go_sem ↓] Go.wp_at_zero Go.wp_at_succ
theorem IsA.of (ch : Bool) (more : Int) (d : Nat -> Int) (na : Option Addr) (nn nc : Nat) (ta : Option Addr) (tn tc : Nat) : IsA (arrC ch more d na nn nc ta tn tc) := ⟨_, _, _, _, _, _, _, _, _, rfl⟩
theorem res_arr3 {fn : Func} {p q s : Tmp} {tmps : Array Value} {w : World} {g g2 : Nat} {cs cs2 : Array Value} {v : Value} (h : fn.results = #[.cell p 32, .cell q 32, .tmp s]) (hp : tmps.getD p undef = .pointer (some ⟨g, 0, none⟩)) (hq : tmps.getD q undef = .pointer (some ⟨g2, 0, none⟩)) (hs : tmps.getD s undef = v) (hg : Row w g 32 cs) (hg2 : Row w g2 32 cs2) (h1 : cs.size = 12) (h2 : cs2.size = 12) :
    (results fn tmps).run Tryz.prog w = .ok (.tuple #[.agg cs, .agg cs2, v]) w := by
 have hp' : tmps[p]?.getD undef = .pointer (some ⟨g, 0, none⟩) := by simpa using hp
 have hq' : tmps[q]?.getD undef = .pointer (some ⟨g2, 0, none⟩) := by simpa using hq
 have hs' : tmps[s]?.getD undef = v := by simpa using hs
 simp [results, h, hp', hq', hs', asAddr, run_loadVar_row w g _ _ cs (0, 0) _ hg Tryz.underlying32 rfl (by rw [arr12, h1]), run_loadVar_row w g2 _ _ cs2 (0, 0) _ hg2 Tryz.underlying32 rfl (by rw [arr12, h2])]
theorem Arr.zero {w : World} {x : Array Value} {S : Nat -> Int} {r : Nat} {ch : Bool} {g P : Nat -> Int} {Q : Nat -> Nat} (h : Arr w x S r ch 0 g P Q) (g' P' : Nat -> Int) (Q' : Nat -> Nat) : Arr w x S r ch 0 g' P' Q' := by
 refine ⟨fun e => ?_, fun e => ?_⟩
 · obtain ⟨a, c, h1, h2⟩ := h.1 e
   exact ⟨a, c, h1, h2.zero _⟩
 · obtain ⟨a, c, h1, h2⟩ := h.2 e
   exact ⟨a, c, h1, h2.1, h2.2.1, .inl rfl⟩
theorem pick0_any {w : World} {cs : Array Value} {S : Nat -> Int} {r : Nat} {ch : Bool} {L : Nat} {g P : Nat -> Int} {Q : Nat -> Nat} {a : Option Addr} {q c : Nat} {T : Nat -> Int} {g' P' : Nat -> Int} {Q' : Nat -> Nat} (h : Arr w cs S r ch L g P Q) (k : KRow w .i64 a q c T) (hsh : shB T q = true) (h0 : itm T q = ((0 : Nat) : Int)) :
    Calls Tryz.prog 53 #[.agg cs, .slice a q c, .slice none 0 0] w fun e w' => ∃ x, e = .returned (.tuple #[.agg x, .bool true]) /\ Arr w' x T q ch 0 g' P' Q' /\ Below w.heap.size w w' := by
 have := pick8_any cs S r ch L g P Q a q c T none 0 0 (fun _ => 0) w h k (fun j hj => by have := ax_le4 hsh hj; omega) (KRow.nought _ _ _ _ (Nat.zero_le _) _) (fun j hj => absurd hj (Nat.not_lt_zero _)) (by omega)
 rw [hsh, h0, decide_eq_true rfl, Bool.true_and] at this
 refine this.mono ?_
 rintro e w' ⟨x, he, h2, hb⟩
 rw [if_pos rfl] at h2
 exact ⟨x, he, h2.zero _ _ _, hb⟩
def kdB (ch1 : Bool) (L1 : Nat) (ch2 : Bool) (L2 : Nat) : Bool := decide (ch1 = ch2) || decide (L2 = 0) || decide (L1 = 0)
def kdC (ch1 : Bool) (_L1 : Nat) (ch2 : Bool) (L2 : Nat) : Bool := if ch1 = ch2 then ch1 else if L2 = 0 then ch1 else ch2
def Keeps (K : World -> Prop) : Prop := (∀ a b, Below a.heap.size a b -> K a -> K b) /\ ∀ (y : World) (k : Nat) (z cs : Array Value), Row y k 32 z -> IsA z -> K y -> K (y.setRow k cs)
def ArrTwo (ch : Bool) (x1 : Array Value) (S1 : Nat -> Int) (r1 L1 : Nat) (g1 P1 : Nat -> Int) (Q1 : Nat -> Nat) (x2 : Array Value) (S2 : Nat -> Int) (r2 L2 : Nat) (g2 P2 : Nat -> Int) (Q2 : Nat -> Nat) (y : World) : Prop := Arr y x1 S1 r1 ch L1 g1 P1 Q1 /\ Arr y x2 S2 r2 ch L2 g2 P2 Q2
theorem ArrTwo.keeps {ch : Bool} {x1 : Array Value} {S1 : Nat -> Int} {r1 L1 : Nat} {g1 P1 : Nat -> Int} {Q1 : Nat -> Nat} {x2 : Array Value} {S2 : Nat -> Int} {r2 L2 : Nat} {g2 P2 : Nat -> Int} {Q2 : Nat -> Nat} : Keeps (ArrTwo ch x1 S1 r1 L1 g1 P1 Q1 x2 S2 r2 L2 g2 P2 Q2) :=
 ⟨fun _ _ hb h => ⟨h.1.below hb, h.2.below hb⟩, fun _ _ _ cs hr hz h => ⟨h.1.store hr hz cs, h.2.store hr hz cs⟩⟩
def AlkP (k1 k2 k3 k4 : Nat) (c1 c2 : Array Value) (K : World -> Prop) (y : World) : Prop := Row y k1 32 c1 /\ Row y k2 32 c2 /\ (∃ z, Row y k3 32 z /\ IsA z) /\ (∃ z, Row y k4 32 z /\ IsA z) /\ K y
theorem AlkP.stay {k1 k2 k3 k4 : Nat} {c1 c2 : Array Value} {K : World -> Prop} (hK : Keeps K) : ∀ a b, Below a.heap.size a b -> AlkP k1 k2 k3 k4 c1 c2 K a -> AlkP k1 k2 k3 k4 c1 c2 K b := by
 rintro a b hb ⟨h1, h2, ⟨z3, h3, i3⟩, ⟨z4, h4, i4⟩, h5⟩
 exact ⟨h1.below hb, h2.below hb, ⟨z3, h3.below hb, i3⟩, ⟨z4, h4.below hb, i4⟩, hK.1 _ _ hb h5⟩
theorem AlkP.put3 {w y : World} {k1 k2 k3 k4 : Nat} {c1 c2 : Array Value} {K : World -> Prop} (hK : Keeps K) (h : Bag w (AlkP k1 k2 k3 k4 c1 c2 K) y) (n1 : k1 ≠ k3) (n2 : k2 ≠ k3) (n4 : k4 ≠ k3) (hw : w.heap.size <= k3) (cs : Array Value) (hc : IsA cs) : Bag w (AlkP k1 k2 k3 k4 c1 c2 K) (y.setRow k3 cs) := by
 obtain ⟨h1, h2, ⟨z3, h3, i3⟩, ⟨z4, h4, i4⟩, h5⟩ := h.now
 exact ⟨below_put h.below hw _, AlkP.stay hK, h1.puto n1 _, h2.puto n2 _, ⟨_, h3.put _, hc⟩, ⟨z4, h4.puto n4 _, i4⟩, hK.2 _ _ _ _ h3 i3 h5⟩
theorem AlkP.put4 {w y : World} {k1 k2 k3 k4 : Nat} {c1 c2 : Array Value} {K : World -> Prop} (hK : Keeps K) (h : Bag w (AlkP k1 k2 k3 k4 c1 c2 K) y) (n1 : k1 ≠ k4) (n2 : k2 ≠ k4) (n3 : k3 ≠ k4) (hw : w.heap.size <= k4) (cs : Array Value) (hc : IsA cs) : Bag w (AlkP k1 k2 k3 k4 c1 c2 K) (y.setRow k4 cs) := by
 obtain ⟨h1, h2, ⟨z3, h3, i3⟩, ⟨z4, h4, i4⟩, h5⟩ := h.now
 exact ⟨below_put h.below hw _, AlkP.stay hK, h1.puto n1 _, h2.puto n2 _, ⟨z3, h3.puto n3 _, i3⟩, ⟨_, h4.put _, hc⟩, hK.2 _ _ _ _ h4 i4 h5⟩
def AlkB (f : Bool) (k1 k2 k3 k4 : Nat) (c1 c2 : Array Value) (y : World) : Prop := (f = false -> Row y k2 32 c2) /\ Row y k1 32 c1 /\ (∃ z, Row y k2 32 z /\ IsA z) /\ (∃ z, Row y k3 32 z /\ IsA z) /\ ∃ z, Row y k4 32 z /\ IsA z
theorem AlkB.stay {f : Bool} {k1 k2 k3 k4 : Nat} {c1 c2 : Array Value} : ∀ a b, Below a.heap.size a b -> AlkB f k1 k2 k3 k4 c1 c2 a -> AlkB f k1 k2 k3 k4 c1 c2 b := by
 rintro a b hb ⟨h0, h1, ⟨z2, h2, i2⟩, ⟨z3, h3, i3⟩, z4, h4, i4⟩
 exact ⟨fun e => (h0 e).below hb, h1.below hb, ⟨z2, h2.below hb, i2⟩, ⟨z3, h3.below hb, i3⟩, z4, h4.below hb, i4⟩
theorem AlkB.put {w y : World} {f : Bool} {k1 k2 k3 k4 : Nat} {c1 c2 : Array Value} (h : Bag w (AlkB f k1 k2 k3 k4 c1 c2) y) (n1 : k1 ≠ k2) (n34 : k3 ≠ k2 /\ k4 ≠ k2) (hw : w.heap.size <= k2) (cs : Array Value) (hc : IsA cs) : Bag w (AlkB true k1 k2 k3 k4 c1 c2) (y.setRow k2 cs) := by
 obtain ⟨h0, h1, ⟨z2, h2, i2⟩, ⟨z3, h3, i3⟩, z4, h4, i4⟩ := h.now
 exact ⟨below_put h.below hw _, AlkB.stay, (fun e => by cases e), h1.puto n1 _, ⟨_, h2.put _, hc⟩, ⟨z3, h3.puto n34.1 _, i3⟩, z4, h4.puto n34.2 _, i4⟩
theorem alike_any (x1 : Array Value) (S1 : Nat -> Int) (r1 : Nat) (ch1 : Bool) (L1 : Nat) (g1 P1 : Nat -> Int) (Q1 : Nat -> Nat) (x2 : Array Value) (S2 : Nat -> Int) (r2 : Nat) (ch2 : Bool) (L2 : Nat) (g2 P2 : Nat -> Int) (Q2 : Nat -> Nat) (w : World) (h1 : Arr w x1 S1 r1 ch1 L1 g1 P1 Q1) (h2 : Arr w x2 S2 r2 ch2 L2 g2 P2 Q2)
    (hsh1 : shB S1 r1 = true) (hc1 : itm S1 r1 = (L1 : Nat)) (hsh2 : shB S2 r2 = true) (hc2 : itm S2 r2 = (L2 : Nat)) :
    Calls Tryz.prog 36 #[.agg x1, .agg x2] w fun e w' => ∃ y1 y2, e = .returned (.tuple #[.agg y1, .agg y2, .bool (kdB ch1 L1 ch2 L2)]) /\ IsA y1 /\ IsA y2 /\ (kdB ch1 L1 ch2 L2 = true -> Arr w' y1 S1 r1 (kdC ch1 L1 ch2 L2) L1 g1 P1 Q1 /\ Arr w' y2 S2 r2 (kdC ch1 L1 ch2 L2) L2 g2 P2 Q2) /\ Below w.heap.size w w' := by
 obtain ⟨na1, nn1, nc1, ta1, tn1, tc1, hx1, _⟩ := h1.form
 subst hx1
 obtain ⟨na2, nn2, nc2, ta2, tn2, tc2, hx2, _⟩ := h2.form
 subst hx2
 have hr1 := (sh_ax hsh1).1
 have hr2 := (sh_ax hsh2).1
 have H1 := Lib.hid h1
 have H2 := Lib.hid h2
 have IC1 := Lib.hid (fun wz => isChar_any ch1 ((r1 : Int) - 1) (dm S1 r1) na1 nn1 nc1 ta1 tn1 tc1 wz)
 have IC2 := Lib.hid (fun wz => isChar_any ch2 ((r2 : Int) - 1) (dm S2 r2) na2 nn2 nc2 ta2 tn2 tc2 wz)
 have LN1 := Lib.hid (fun wz h => len8_any (arrC ch1 ((r1 : Int) - 1) (dm S1 r1) na1 nn1 nc1 ta1 tn1 tc1) S1 r1 ch1 L1 g1 P1 Q1 wz h)
 have LN2 := Lib.hid (fun wz h => len8_any (arrC ch2 ((r2 : Int) - 1) (dm S2 r2) na2 nn2 nc2 ta2 tn2 tc2) S2 r2 ch2 L2 g2 P2 Q2 wz h)
 have BB0 := Lib.hid (((((Bag.start w).newRow (arrC ch1 ((r1 : Int) - 1) (dm S1 r1) na1 nn1 nc1 ta1 tn1 tc1) 32).newRow (arrC ch2 ((r2 : Int) - 1) (dm S2 r2) na2 nn2 nc2 ta2 tn2 tc2) 32).newRow zerC 32).newRow zerC 32)
 simp only [World.size_alloc] at BB0
 have BB := Lib.hid (show Bag w (fun y => Row y w.heap.size 32 (arrC ch1 ((r1 : Int) - 1) (dm S1 r1) na1 nn1 nc1 ta1 tn1 tc1) /\ Row y (w.heap.size + 1) 32 (arrC ch2 ((r2 : Int) - 1) (dm S2 r2) na2 nn2 nc2 ta2 tn2 tc2) /\ Row y (w.heap.size + 1 + 1) 32 zerC /\ Row y (w.heap.size + 1 + 1 + 1) 32 zerC /\ True) _ from ⟨BB0.out.below, fun a b hb ⟨q1, q2, q3, q4, _⟩ => ⟨q1.below hb, q2.below hb, q3.below hb, q4.below hb, trivial⟩, BB0.out.now.2.2.2.1, BB0.out.now.2.2.1, BB0.out.now.2.1, BB0.out.now.1, trivial⟩)
 unfold zerC at BB
 unfold arrC at BB
 clear h1 h2 BB0
 by_cases hch : ch1 = ch2
 · have e1 : kdB ch1 L1 ch2 L2 = true := by unfold kdB; rw [decide_eq_true hch]; rfl
   have e2 : kdC ch1 L1 ch2 L2 = ch1 := by unfold kdC; rw [if_pos hch]
   rw [e1, e2]
   clear e1 e2
   subst hch
   have db : (ch1 == ch1) = true := beq_self_eq_true ch1
   clear hsh1 hsh2 hc1 hc2 hr1 hr2 
   unfold arrC
   go_enter Tryz.func36, Tryz.ntmps36
   go_wp2_with fail
   have hWW := BB.out.below
   generalize hW : ((((w.alloc (.cells _ 32)).alloc (.cells _ 32)).alloc (.cells _ 32)).alloc (.cells _ 32)) = YY at *
   clear hW hWW
   refine wp_region_inv2 ⟨(fun j => ([[10], [11], [12], [13], [14], [9]] : List (List Nat)).getD j []), (fun j => ([[], [0], [], [0, 1, 2], [0, 1, 2, 3], [0, 1, 2, 3, 4]] : List (List Nat)).getD j []), []⟩ (fun jj vv yy => match jj with | 0 => vv = [some (.agg (arrC ch1 ((r1 : Int) - 1) (dm S1 r1) na1 nn1 nc1 ta1 tn1 tc1))] | 1 => vv = [some (.bool ch1)] | 2 => vv = [some (.agg (arrC ch1 ((r2 : Int) - 1) (dm S2 r2) na2 nn2 nc2 ta2 tn2 tc2))] | 3 => vv = [some (.bool ch1)] | 4 => vv = [some (.bool true)] | 5 => vv = [some (.bool true)] | _ => True) (Bag YY (fun _ => True)) (by kernel_rfl) (by kernel_rfl) (by kernel_rfl) (Bag.start YY).drew ?_ ?_ ?_
   · intro jj vv yw yw2 hb h
     match jj, h with
     | 0, h => exact h
     | 1, h => exact h
     | 2, h => exact h
     | 3, h => exact h
     | 4, h => exact h
     | 5, h => exact h
     | _ + 6, h => exact h
   · intro ac yw hsz hdf hold hB hp
     have t9 : ac.tmps[9]? = some (.bool true) := (List.cons.inj (hp 5 (by decide))).1
     have t2 : ac.tmps[2]? = some (.pointer (some ⟨w.heap.size, 0, none⟩)) := hold 2 (by kernel_rfl)
     have t3 : ac.tmps[3]? = some (.pointer (some ⟨w.heap.size + 1, 0, none⟩)) := hold 3 (by kernel_rfl)
     have t4 : ac.tmps[4]? = some (.pointer (some ⟨w.heap.size + 1 + 1, 0, none⟩)) := hold 4 (by kernel_rfl)
     have t5 : ac.tmps[5]? = some (.pointer (some ⟨w.heap.size + 1 + 1 + 1, 0, none⟩)) := hold 5 (by kernel_rfl)
     have t6 : ac.tmps[6]? = some (.bool false) := hold 6 (by kernel_rfl)
     have BB := Lib.hid (BB.out.go hB.below)
     clear hold hp hB
     obtain ⟨TV, hTV⟩ : ∃ TV : Nat -> Value, ∀ i, (ac.tmps[i]?).getD undef = TV i := ⟨_, fun _ => rfl⟩
     have f2 := (hTV 2).symm.trans (congrArg (fun x => Option.getD x undef) t2)
     have f3 := (hTV 3).symm.trans (congrArg (fun x => Option.getD x undef) t3)
     have f4 := (hTV 4).symm.trans (congrArg (fun x => Option.getD x undef) t4)
     have f5 := (hTV 5).symm.trans (congrArg (fun x => Option.getD x undef) t5)
     have f6 := (hTV 6).symm.trans (congrArg (fun x => Option.getD x undef) t6)
     have f9 := (hTV 9).symm.trans (congrArg (fun x => Option.getD x undef) t9)
     have hac := act_eq (n := 41) hsz TV hTV
     rw [show ((List.range 41).map TV).toArray = #[TV 0, TV 1, TV 2, TV 3, TV 4, TV 5, TV 6, TV 7, TV 8, TV 9, TV 10, TV 11, TV 12, TV 13, TV 14, TV 15, TV 16, TV 17, TV 18, TV 19, TV 20, TV 21, TV 22, TV 23, TV 24, TV 25, TV 26, TV 27, TV 28, TV 29, TV 30, TV 31, TV 32, TV 33, TV 34, TV 35, TV 36, TV 37, TV 38, TV 39, TV 40] from rfl, f2, f3, f4, f5, f6, f9, hdf] at hac
     simp only [Option.getD_some] at hac
     subst hac
     clear hTV f2 f3 f4 f5 f6 f9
     generalize yw = Y2 at *
     have QA1 : Hid (∀ wz, Below w.heap.size w wz -> Arr wz (arrC ch1 ((r1 : Int) - 1) (dm S1 r1) na1 nn1 nc1 ta1 tn1 tc1) S1 r1 ch1 L1 g1 P1 Q1) := Lib.hid (fun wz hb => H1.out.below hb)
     have QA2 : Hid (∀ wz, Below w.heap.size w wz -> Arr wz (arrC ch1 ((r2 : Int) - 1) (dm S2 r2) na2 nn2 nc2 ta2 tn2 tc2) S2 r2 ch1 L2 g2 P2 Q2) := Lib.hid (fun wz hb => H2.out.below hb)
     obtain ⟨Y3, hY3⟩ : ∃ y, y = Y2 := ⟨_, rfl⟩
     subst hY3
     have BP : Bag w (AlkP (w.heap.size) (w.heap.size + 1) (w.heap.size + 1 + 1) (w.heap.size + 1 + 1 + 1) (arrC ch1 ((r1 : Int) - 1) (dm S1 r1) na1 nn1 nc1 ta1 tn1 tc1) (arrC ch1 ((r2 : Int) - 1) (dm S2 r2) na2 nn2 nc2 ta2 tn2 tc2) (ArrTwo ch1 (arrC ch1 ((r1 : Int) - 1) (dm S1 r1) na1 nn1 nc1 ta1 tn1 tc1) S1 r1 L1 g1 P1 Q1 (arrC ch1 ((r2 : Int) - 1) (dm S2 r2) na2 nn2 nc2 ta2 tn2 tc2) S2 r2 L2 g2 P2 Q2)) Y3 := ⟨BB.out.below, AlkP.stay ArrTwo.keeps, BB.out.now.1, BB.out.now.2.1, ⟨_, BB.out.now.2.2.1, IsA.zer⟩, ⟨_, BB.out.now.2.2.2.1, IsA.zer⟩, QA1.out _ BB.out.below, QA2.out _ BB.out.below⟩
     go_wp2_with fail
     refine wp_region_inv4 ⟨(fun j => ([[15], [16], [], [], [6]] : List (List Nat)).getD j []), (fun j => ([[], [], [0], [0, 1, 2], [0, 1, 2, 3]] : List (List Nat)).getD j []), []⟩ (fun jj vv yy => match jj with | 0 => vv = [some (.agg (arrC ch1 ((r1 : Int) - 1) (dm S1 r1) na1 nn1 nc1 ta1 tn1 tc1))] | 1 => vv = [some (.agg (arrC ch1 ((r2 : Int) - 1) (dm S2 r2) na2 nn2 nc2 ta2 tn2 tc2))] | 2 => Row yy (w.heap.size + 1 + 1) 32 (arrC ch1 ((r1 : Int) - 1) (dm S1 r1) na1 nn1 nc1 ta1 tn1 tc1) | 3 => Row yy (w.heap.size + 1 + 1 + 1) 32 (arrC ch1 ((r2 : Int) - 1) (dm S2 r2) na2 nn2 nc2 ta2 tn2 tc2) | 4 => vv = [some ((Value.bool true))] | _ => True) (fun _ => Bag w (AlkP (w.heap.size) (w.heap.size + 1) (w.heap.size + 1 + 1) (w.heap.size + 1 + 1 + 1) (arrC ch1 ((r1 : Int) - 1) (dm S1 r1) na1 nn1 nc1 ta1 tn1 tc1) (arrC ch1 ((r2 : Int) - 1) (dm S2 r2) na2 nn2 nc2 ta2 tn2 tc2) (ArrTwo ch1 (arrC ch1 ((r1 : Int) - 1) (dm S1 r1) na1 nn1 nc1 ta1 tn1 tc1) S1 r1 L1 g1 P1 Q1 (arrC ch1 ((r2 : Int) - 1) (dm S2 r2) na2 nn2 nc2 ta2 tn2 tc2) S2 r2 L2 g2 P2 Q2))) (by kernel_rfl) (by kernel_rfl) (by kernel_rfl) BP.drew ?_ ?_ ?_
     · intro jj vv yw yw2 hb h
       match jj, h with
       | 0, h => exact h
       | 1, h => exact h
       | 2, g2_0 => exact g2_0.below hb
       | 3, g3_0 => exact g3_0.below hb
       | 4, h => exact h
       | _ + 5, h => exact h
     · intro ac yw hsz hdf hold hB hp
       have r4 := hp 2 (by decide)
       have r5 := hp 3 (by decide)
       have t6 : ac.tmps[6]? = some (.bool true) := (List.cons.inj (hp 4 (by decide))).1
       have t2 : ac.tmps[2]? = some (.pointer (some ⟨w.heap.size, 0, none⟩)) := hold 2 (by kernel_rfl)
       have t3 : ac.tmps[3]? = some (.pointer (some ⟨w.heap.size + 1, 0, none⟩)) := hold 3 (by kernel_rfl)
       have t4 : ac.tmps[4]? = some (.pointer (some ⟨w.heap.size + 1 + 1, 0, none⟩)) := hold 4 (by kernel_rfl)
       have t5 : ac.tmps[5]? = some (.pointer (some ⟨w.heap.size + 1 + 1 + 1, 0, none⟩)) := hold 5 (by kernel_rfl)
       have HR4 := Lib.hid r4
       have HR5 := Lib.hid r5
       have HA1 := Lib.hid hB.now.2.2.2.2.1
       have HA2 := Lib.hid hB.now.2.2.2.2.2
       have HBW := Lib.hid hB.below
       clear hold hp r4 r5 hB
       obtain ⟨TZ, hTZ⟩ : ∃ TZ : Nat -> Value, ∀ i, (ac.tmps[i]?).getD undef = TZ i := ⟨_, fun _ => rfl⟩
       have f2 := (hTZ 2).symm.trans (congrArg (fun x => Option.getD x undef) t2)
       have f3 := (hTZ 3).symm.trans (congrArg (fun x => Option.getD x undef) t3)
       have f4 := (hTZ 4).symm.trans (congrArg (fun x => Option.getD x undef) t4)
       have f5 := (hTZ 5).symm.trans (congrArg (fun x => Option.getD x undef) t5)
       have f6 := (hTZ 6).symm.trans (congrArg (fun x => Option.getD x undef) t6)
       have hac := act_eq (n := 41) hsz TZ hTZ
       rw [show ((List.range 41).map TZ).toArray = #[TZ 0, TZ 1, TZ 2, TZ 3, TZ 4, TZ 5, TZ 6, TZ 7, TZ 8, TZ 9, TZ 10, TZ 11, TZ 12, TZ 13, TZ 14, TZ 15, TZ 16, TZ 17, TZ 18, TZ 19, TZ 20, TZ 21, TZ 22, TZ 23, TZ 24, TZ 25, TZ 26, TZ 27, TZ 28, TZ 29, TZ 30, TZ 31, TZ 32, TZ 33, TZ 34, TZ 35, TZ 36, TZ 37, TZ 38, TZ 39, TZ 40] from rfl, f2, f3, f4, f5, f6, hdf] at hac
       simp only [Option.getD_some] at hac
       subst hac
       clear hTZ f2 f3 f4 f5 f6
       go_wp2_with fail
       exact bodyPost_ret (res_arr3 Tryz.results36 rfl rfl rfl HR4.out HR5.out (IsA.of _ _ _ _ _ _ _ _ _).size (IsA.of _ _ _ _ _ _ _ _ _).size) rfl ⟨_, _, rfl, (IsA.of _ _ _ _ _ _ _ _ _), (IsA.of _ _ _ _ _ _ _ _ _), ⟨HA1.out, HA2.out⟩, HBW.out⟩
     refine Stps4.cons (o := _) ?_ ?_
     · intro f ac yw hsz hold hB hp hf K hK
       have t2 : ac.tmps[2]? = some (.pointer (some ⟨w.heap.size, 0, none⟩)) := hold 2 (by kernel_rfl)
       clear hold hp hsz
       rw [if_pos (by rfl)]
       refine ld8 2 rfl (w.heap.size) ((arrC ch1 ((r1 : Int) - 1) (dm S1 r1) na1 nn1 nc1 ta1 tn1 tc1)) t2 (hB.now.1) ((IsA.of _ _ _ _ _ _ _ _ _).size) ?_
       exact hK.out _ _ ⟨hB, rfl, Nat.le_refl _, .inl (Below.refl _ _), fun h => absurd h (by decide)⟩
     refine Stps4.cons (o := _) ?_ ?_
     · intro f ac yw hsz hold hB hp hf K hK
       have t3 : ac.tmps[3]? = some (.pointer (some ⟨w.heap.size + 1, 0, none⟩)) := hold 3 (by kernel_rfl)
       clear hold hp hsz
       rw [if_pos (by rfl)]
       refine ld8 3 rfl (w.heap.size + 1) ((arrC ch1 ((r2 : Int) - 1) (dm S2 r2) na2 nn2 nc2 ta2 tn2 tc2)) t3 (hB.now.2.1) ((IsA.of _ _ _ _ _ _ _ _ _).size) ?_
       exact hK.out _ _ ⟨hB, rfl, Nat.le_refl _, .inl (Below.refl _ _), fun h => absurd h (by decide)⟩
     refine Stps4.cons (o := _) ?_ ?_
     · intro f ac yw hsz hold hB hp hf K hK
       have e0 := hp 0 (by decide)
       have t15 : ac.tmps[15]? = some (.agg (arrC ch1 ((r1 : Int) - 1) (dm S1 r1) na1 nn1 nc1 ta1 tn1 tc1)) := (List.cons.inj e0).1
       have t4 : ac.tmps[4]? = some (.pointer (some ⟨w.heap.size + 1 + 1, 0, none⟩)) := hold 4 (by kernel_rfl)
       clear hold hp hsz hf e0
       rw [if_pos (by rfl)]
       obtain ⟨zz, hz, iz⟩ := hB.now.2.2.1
       have HB := AlkP.put3 ArrTwo.keeps hB (by omega) (by omega) (by omega) (by omega) ((arrC ch1 ((r1 : Int) - 1) (dm S1 r1) na1 nn1 nc1 ta1 tn1 tc1)) (IsA.of _ _ _ _ _ _ _ _ _)
       refine st8 4 15 rfl (w.heap.size + 1 + 1) (arrC ch1 ((r1 : Int) - 1) (dm S1 r1) na1 nn1 nc1 ta1 tn1 tc1) t4 t15 _ zz hz iz (IsA.of _ _ _ _ _ _ _ _ _) ?_
       refine hK.out undef _ ⟨HB, hz.put _, by simp [World.setRow], .inr ?_, fun h => absurd h (by decide)⟩
       intro jj hj hap h
       match jj, h with
       | 0, h => exact h
       | 1, h => exact h
       | 2, _ => exact absurd rfl hj
       | 3, g3_0 => exact g3_0.puto (by omega) _
       | 4, h => exact h
       | _ + 5, h => exact h
     refine Stps4.cons (o := _) ?_ ?_
     · intro f ac yw hsz hold hB hp hf K hK
       have e1 := hp 1 (by decide)
       have t16 : ac.tmps[16]? = some (.agg (arrC ch1 ((r2 : Int) - 1) (dm S2 r2) na2 nn2 nc2 ta2 tn2 tc2)) := (List.cons.inj e1).1
       have t5 : ac.tmps[5]? = some (.pointer (some ⟨w.heap.size + 1 + 1 + 1, 0, none⟩)) := hold 5 (by kernel_rfl)
       clear hold hp hsz hf e1
       rw [if_pos (by rfl)]
       obtain ⟨zz, hz, iz⟩ := hB.now.2.2.2.1
       have HB := AlkP.put4 ArrTwo.keeps hB (by omega) (by omega) (by omega) (by omega) ((arrC ch1 ((r2 : Int) - 1) (dm S2 r2) na2 nn2 nc2 ta2 tn2 tc2)) (IsA.of _ _ _ _ _ _ _ _ _)
       refine st8 5 16 rfl (w.heap.size + 1 + 1 + 1) (arrC ch1 ((r2 : Int) - 1) (dm S2 r2) na2 nn2 nc2 ta2 tn2 tc2) t5 t16 _ zz hz iz (IsA.of _ _ _ _ _ _ _ _ _) ?_
       refine hK.out undef _ ⟨HB, hz.put _, by simp [World.setRow], .inr ?_, fun h => absurd h (by decide)⟩
       intro jj hj hap h
       match jj, h with
       | 0, h => exact h
       | 1, h => exact h
       | 2, g2_0 => exact g2_0.puto (by omega) _
       | 3, _ => exact absurd rfl hj
       | 4, h => exact h
       | _ + 5, h => exact h
     refine Stps4.cons (o := _) ?_ ?_
     · intro f ac yw hsz hold hB hp hf K hK
       clear hold hp hsz hf
       go_simp
       exact hK.out _ _ ⟨hB, rfl, Nat.le_refl _, .inl (Below.refl _ _), fun h => absurd h (by decide)⟩
     exact Stps4.nil _
   refine Stps2.cons (o := _) ?_ ?_
   · intro ac yw hsz hold hB hp K hK
     have t2 : ac.tmps[2]? = some (.pointer (some ⟨w.heap.size, 0, none⟩)) := hold 2 (by kernel_rfl)
     clear hold hp hsz
     rw [if_pos (by rfl)]
     refine ld8 2 rfl (w.heap.size) ((arrC ch1 ((r1 : Int) - 1) (dm S1 r1) na1 nn1 nc1 ta1 tn1 tc1)) t2 ((BB.out.go hB.below).now.1) (rfl) ?_
     exact hK.out _ _ ⟨hB, rfl, Nat.le_refl _, .inl (Below.refl _ _), fun h => absurd h (by decide)⟩
   refine Stps2.cons (o := _) ?_ ?_
   · intro ac yw hsz hold hB hp K hK
     have e0 := hp 0 (by decide)
     have t10 : ac.tmps[10]? = some (.agg (arrC ch1 ((r1 : Int) - 1) (dm S1 r1) na1 nn1 nc1 ta1 tn1 tc1)) := (List.cons.inj e0).1
     clear hold hp hsz e0
     go_simp
     (go_at_call 58; (with_reducible refine (IC1.out _).mono ?_); rintro e wz ⟨rfl, hbz⟩)
     exact hK.out _ _ ⟨hB.go hbz, rfl, hbz.size, .inl hbz, fun h => absurd h (by decide)⟩
   refine Stps2.cons (o := _) ?_ ?_
   · intro ac yw hsz hold hB hp K hK
     have t3 : ac.tmps[3]? = some (.pointer (some ⟨w.heap.size + 1, 0, none⟩)) := hold 3 (by kernel_rfl)
     clear hold hp hsz
     rw [if_pos (by rfl)]
     refine ld8 3 rfl (w.heap.size + 1) ((arrC ch1 ((r2 : Int) - 1) (dm S2 r2) na2 nn2 nc2 ta2 tn2 tc2)) t3 ((BB.out.go hB.below).now.2.1) (rfl) ?_
     exact hK.out _ _ ⟨hB, rfl, Nat.le_refl _, .inl (Below.refl _ _), fun h => absurd h (by decide)⟩
   refine Stps2.cons (o := _) ?_ ?_
   · intro ac yw hsz hold hB hp K hK
     have e2 := hp 2 (by decide)
     have t12 : ac.tmps[12]? = some (.agg (arrC ch1 ((r2 : Int) - 1) (dm S2 r2) na2 nn2 nc2 ta2 tn2 tc2)) := (List.cons.inj e2).1
     clear hold hp hsz e2
     go_simp
     (go_at_call 58; (with_reducible refine (IC2.out _).mono ?_); rintro e wz ⟨rfl, hbz⟩)
     exact hK.out _ _ ⟨hB.go hbz, rfl, hbz.size, .inl hbz, fun h => absurd h (by decide)⟩
   refine Stps2.cons (o := _) ?_ ?_
   · intro ac yw hsz hold hB hp K hK
     have e1 := hp 1 (by decide)
     have t11 : ac.tmps[11]? = some (.bool ch1) := (List.cons.inj e1).1
     have e3 := hp 3 (by decide)
     have t13 : ac.tmps[13]? = some (.bool ch1) := (List.cons.inj e3).1
     clear hold hp hsz e1 e3
     go_simp
     exact hK.out _ _ ⟨hB, rfl, Nat.le_refl _, .inl (Below.refl _ _), fun h => absurd h (by decide)⟩
   refine Stps2.cons (o := _) ?_ ?_
   · intro ac yw hsz hold hB hp K hK
     have e4 := hp 4 (by decide)
     have t14 : ac.tmps[14]? = some (.bool true) := (List.cons.inj e4).1
     clear hold hp hsz e4
     go_simp
     exact hK.out _ _ ⟨hB, rfl, Nat.le_refl _, .inl (Below.refl _ _), fun h => absurd h (by decide)⟩
   exact Stps2.nil _
 · have db : (ch1 == ch2) = false := beq_eq_false_iff_ne.2 hch
   by_cases hz2 : L2 = 0
   · have SH := Lib.hid (fun wz h => shape_new (arrC ch2 ((r2 : Int) - 1) (dm S2 r2) na2 nn2 nc2 ta2 tn2 tc2) S2 r2 ch2 L2 g2 P2 Q2 wz h hr2)
     have PK : Hid (∀ a c wz, Arr wz (arrC ch1 ((r1 : Int) - 1) (dm S1 r1) na1 nn1 nc1 ta1 tn1 tc1) S1 r1 ch1 L1 g1 P1 Q1 -> KRow wz .i64 a r2 c S2 -> Calls Tryz.prog 53 #[.agg (arrC ch1 ((r1 : Int) - 1) (dm S1 r1) na1 nn1 nc1 ta1 tn1 tc1), .slice a r2 c, .slice none 0 0] wz fun e w' => ∃ x, e = .returned (.tuple #[.agg x, .bool true]) /\ Arr w' x S2 r2 ch1 0 g2 P2 Q2 /\ Below wz.heap.size wz w') := Lib.hid (fun a c wz h k => pick0_any h k hsh2 (by rw [hc2, hz2]))
     have HX := Lib.hid H2.out
     have HO := Lib.hid H1.out
     have d2 : ((L2 : Int) == 0) = true := beq_iff_eq.2 (by omega)
     have e1 : kdB ch1 L1 ch2 L2 = true := by unfold kdB; rw [decide_eq_true hz2, Bool.or_true, Bool.true_or]
     have e2 : kdC ch1 L1 ch2 L2 = ch1 := by unfold kdC; rw [if_neg hch, if_pos hz2]
     rw [e1, e2]
     subst hz2
     clear hch e1 e2
     clear hsh1 hsh2 hc1 hc2 hr1 hr2 
     unfold arrC
     go_enter Tryz.func36, Tryz.ntmps36
     go_wp2_with fail
     have hWW := BB.out.below
     generalize hW : ((((w.alloc (.cells _ 32)).alloc (.cells _ 32)).alloc (.cells _ 32)).alloc (.cells _ 32)) = YY at *
     clear hW hWW
     refine wp_region_inv2 ⟨(fun j => ([[10], [11], [12], [13], [14], [9]] : List (List Nat)).getD j []), (fun j => ([[], [0], [], [0, 1, 2], [0, 1, 2, 3], [0, 1, 2, 3, 4]] : List (List Nat)).getD j []), []⟩ (fun jj vv yy => match jj with | 0 => vv = [some (.agg (arrC ch1 ((r1 : Int) - 1) (dm S1 r1) na1 nn1 nc1 ta1 tn1 tc1))] | 1 => vv = [some (.bool ch1)] | 2 => vv = [some (.agg (arrC ch2 ((r2 : Int) - 1) (dm S2 r2) na2 nn2 nc2 ta2 tn2 tc2))] | 3 => vv = [some (.bool ch2)] | 4 => vv = [some (.bool false)] | 5 => vv = [some (.bool false)] | _ => True) (Bag YY (fun _ => True)) (by kernel_rfl) (by kernel_rfl) (by kernel_rfl) (Bag.start YY).drew ?_ ?_ ?_
     · intro jj vv yw yw2 hb h
       match jj, h with
       | 0, h => exact h
       | 1, h => exact h
       | 2, h => exact h
       | 3, h => exact h
       | 4, h => exact h
       | 5, h => exact h
       | _ + 6, h => exact h
     · intro ac yw hsz hdf hold hB hp
       have t9 : ac.tmps[9]? = some (.bool false) := (List.cons.inj (hp 5 (by decide))).1
       have t2 : ac.tmps[2]? = some (.pointer (some ⟨w.heap.size, 0, none⟩)) := hold 2 (by kernel_rfl)
       have t3 : ac.tmps[3]? = some (.pointer (some ⟨w.heap.size + 1, 0, none⟩)) := hold 3 (by kernel_rfl)
       have t4 : ac.tmps[4]? = some (.pointer (some ⟨w.heap.size + 1 + 1, 0, none⟩)) := hold 4 (by kernel_rfl)
       have t5 : ac.tmps[5]? = some (.pointer (some ⟨w.heap.size + 1 + 1 + 1, 0, none⟩)) := hold 5 (by kernel_rfl)
       have t6 : ac.tmps[6]? = some (.bool false) := hold 6 (by kernel_rfl)
       have BB := Lib.hid (BB.out.go hB.below)
       clear hold hp hB
       obtain ⟨TV, hTV⟩ : ∃ TV : Nat -> Value, ∀ i, (ac.tmps[i]?).getD undef = TV i := ⟨_, fun _ => rfl⟩
       have f2 := (hTV 2).symm.trans (congrArg (fun x => Option.getD x undef) t2)
       have f3 := (hTV 3).symm.trans (congrArg (fun x => Option.getD x undef) t3)
       have f4 := (hTV 4).symm.trans (congrArg (fun x => Option.getD x undef) t4)
       have f5 := (hTV 5).symm.trans (congrArg (fun x => Option.getD x undef) t5)
       have f6 := (hTV 6).symm.trans (congrArg (fun x => Option.getD x undef) t6)
       have f9 := (hTV 9).symm.trans (congrArg (fun x => Option.getD x undef) t9)
       have hac := act_eq (n := 41) hsz TV hTV
       rw [show ((List.range 41).map TV).toArray = #[TV 0, TV 1, TV 2, TV 3, TV 4, TV 5, TV 6, TV 7, TV 8, TV 9, TV 10, TV 11, TV 12, TV 13, TV 14, TV 15, TV 16, TV 17, TV 18, TV 19, TV 20, TV 21, TV 22, TV 23, TV 24, TV 25, TV 26, TV 27, TV 28, TV 29, TV 30, TV 31, TV 32, TV 33, TV 34, TV 35, TV 36, TV 37, TV 38, TV 39, TV 40] from rfl, f2, f3, f4, f5, f6, f9, hdf] at hac
       simp only [Option.getD_some] at hac
       subst hac
       clear hTV f2 f3 f4 f5 f6 f9
       have HR2 := Lib.hid BB.out.now.2.1
       go_wp2_with (refine ld_arr rfl (.tmp 3) rfl (w.heap.size + 1) rfl HR2.out ?_)
       go_at_call 26
       (with_reducible refine (LN2.out _ ?_).mono ?_)
       · exact H2.out.below BB.out.below
       rintro e w52 ⟨rfl, hb5⟩
       have BB := Lib.hid (BB.out.go hb5)
       clear hb5
       clear HR2
       obtain ⟨Y2, hY2⟩ : ∃ y, y = w52 := ⟨_, rfl⟩
       subst hY2
       go_wp2_with fail
       have BQ : Bag w (AlkB false (w.heap.size) (w.heap.size + 1) (w.heap.size + 1 + 1) (w.heap.size + 1 + 1 + 1) (arrC ch1 ((r1 : Int) - 1) (dm S1 r1) na1 nn1 nc1 ta1 tn1 tc1) (arrC ch2 ((r2 : Int) - 1) (dm S2 r2) na2 nn2 nc2 ta2 tn2 tc2)) Y2 := ⟨BB.out.below, AlkB.stay, fun _ => BB.out.now.2.1, BB.out.now.1, ⟨_, BB.out.now.2.1, IsA.of _ _ _ _ _ _ _ _ _⟩, ⟨_, BB.out.now.2.2.1, IsA.zer⟩, ⟨_, BB.out.now.2.2.2.1, IsA.zer⟩⟩
       refine wp_region_inv4 ⟨(fun j => ([[22], [23], [24], [25], [21], [26], [27], []] : List (List Nat)).getD j []), (fun j => ([[], [], [1], [0, 1, 2], [0, 1, 2, 3], [0, 1, 2, 3, 4], [0, 1, 2, 3, 4], [0, 1, 2, 3, 4, 5]] : List (List Nat)).getD j []), []⟩ (fun jj vv yy => match jj with | 0 => vv = [some (.agg (arrC ch1 ((r1 : Int) - 1) (dm S1 r1) na1 nn1 nc1 ta1 tn1 tc1))] | 1 => vv = [some (.agg (arrC ch2 ((r2 : Int) - 1) (dm S2 r2) na2 nn2 nc2 ta2 tn2 tc2))] | 2 => ∃ (k2 : Nat), ∃ (c2 : Nat), vv = [some (.slice (some ⟨k2, 0, none⟩) r2 c2)] /\ KRow yy .i64 (some ⟨k2, 0, none⟩) r2 c2 S2 /\ w.heap.size + 1 < k2 | 3 => ∃ (x3 : Array Value), vv = [some (.tuple #[.agg x3, .bool true])] /\ Arr yy x3 S2 r2 ch1 0 g2 P2 Q2 /\ IsA x3 | 4 => ∃ (x3 : Array Value), vv = [some (.tuple #[.agg x3, .bool true])] /\ Arr yy x3 S2 r2 ch1 0 g2 P2 Q2 /\ IsA x3 | 5 => ∃ (x3 : Array Value), vv = [some (.agg x3)] /\ Arr yy x3 S2 r2 ch1 0 g2 P2 Q2 /\ IsA x3 | 6 => vv = [some (.bool true)] | 7 => ∃ (x3 : Array Value), Row yy (w.heap.size + 1) 32 x3 /\ Arr yy x3 S2 r2 ch1 0 g2 P2 Q2 /\ IsA x3 | _ => True) (fun f => Bag w (AlkB (f 7) (w.heap.size) (w.heap.size + 1) (w.heap.size + 1 + 1) (w.heap.size + 1 + 1 + 1) (arrC ch1 ((r1 : Int) - 1) (dm S1 r1) na1 nn1 nc1 ta1 tn1 tc1) (arrC ch2 ((r2 : Int) - 1) (dm S2 r2) na2 nn2 nc2 ta2 tn2 tc2))) (by kernel_rfl) (by kernel_rfl) (by kernel_rfl) BQ.drew ?_ ?_ ?_
       · intro jj vv yw yw2 hb h
         match jj, h with
         | 0, h => exact h
         | 1, h => exact h
         | 2, ⟨k2, c2, e2, g2_0, g2_1⟩ => exact Exists.intro k2 (Exists.intro c2 (And.intro e2 (And.intro (g2_0.below hb) g2_1)))
         | 3, ⟨x3, e3, g3_0, g3_1⟩ => exact Exists.intro x3 (And.intro e3 (And.intro (g3_0.below hb) g3_1))
         | 4, ⟨x3, e4, g4_0, g4_1⟩ => exact Exists.intro x3 (And.intro e4 (And.intro (g4_0.below hb) g4_1))
         | 5, ⟨x3, e5, g5_0, g5_1⟩ => exact Exists.intro x3 (And.intro e5 (And.intro (g5_0.below hb) g5_1))
         | 6, h => exact h
         | 7, ⟨x3, g7_0, g7_1, g7_2⟩ => exact Exists.intro x3 (And.intro (g7_0.below hb) (And.intro (g7_1.below hb) g7_2))
         | _ + 8, h => exact h
       · intro ac yw hsz hdf hold hB hp
         obtain ⟨x3, rx, ax, ix⟩ := hp 7 (by decide)
         have t2 : ac.tmps[2]? = some (.pointer (some ⟨w.heap.size, 0, none⟩)) := hold 2 (by kernel_rfl)
         have t3 : ac.tmps[3]? = some (.pointer (some ⟨w.heap.size + 1, 0, none⟩)) := hold 3 (by kernel_rfl)
         have t4 : ac.tmps[4]? = some (.pointer (some ⟨w.heap.size + 1 + 1, 0, none⟩)) := hold 4 (by kernel_rfl)
         have t5 : ac.tmps[5]? = some (.pointer (some ⟨w.heap.size + 1 + 1 + 1, 0, none⟩)) := hold 5 (by kernel_rfl)
         have t6 : ac.tmps[6]? = some (.bool false) := hold 6 (by kernel_rfl)
         have QA2 : Hid (∀ wz, Below yw.heap.size yw wz -> Arr wz x3 S2 r2 ch1 0 g2 P2 Q2) := Lib.hid (fun wz hb => ax.below hb)
         have IX := Lib.hid ix
         have RX := Lib.hid rx
         have BO := Lib.hid hB
         clear hold hp rx ax ix hB
         obtain ⟨TW, hTW⟩ : ∃ TW : Nat -> Value, ∀ i, (ac.tmps[i]?).getD undef = TW i := ⟨_, fun _ => rfl⟩
         have f2 := (hTW 2).symm.trans (congrArg (fun x => Option.getD x undef) t2)
         have f3 := (hTW 3).symm.trans (congrArg (fun x => Option.getD x undef) t3)
         have f4 := (hTW 4).symm.trans (congrArg (fun x => Option.getD x undef) t4)
         have f5 := (hTW 5).symm.trans (congrArg (fun x => Option.getD x undef) t5)
         have f6 := (hTW 6).symm.trans (congrArg (fun x => Option.getD x undef) t6)
         have hac := act_eq (n := 41) hsz TW hTW
         rw [show ((List.range 41).map TW).toArray = #[TW 0, TW 1, TW 2, TW 3, TW 4, TW 5, TW 6, TW 7, TW 8, TW 9, TW 10, TW 11, TW 12, TW 13, TW 14, TW 15, TW 16, TW 17, TW 18, TW 19, TW 20, TW 21, TW 22, TW 23, TW 24, TW 25, TW 26, TW 27, TW 28, TW 29, TW 30, TW 31, TW 32, TW 33, TW 34, TW 35, TW 36, TW 37, TW 38, TW 39, TW 40] from rfl, f2, f3, f4, f5, f6, hdf] at hac
         simp only [Option.getD_some] at hac
         subst hac
         clear hTW f2 f3 f4 f5 f6
         have QA1 : Hid (∀ wz, Below w.heap.size w wz -> Arr wz (arrC ch1 ((r1 : Int) - 1) (dm S1 r1) na1 nn1 nc1 ta1 tn1 tc1) S1 r1 ch1 L1 g1 P1 Q1) := Lib.hid (fun wz hb => HO.out.below hb)
         obtain ⟨Y3, hY3⟩ : ∃ y, y = yw := ⟨_, rfl⟩
         subst hY3
         have BP : Bag w (AlkP (w.heap.size) (w.heap.size + 1) (w.heap.size + 1 + 1) (w.heap.size + 1 + 1 + 1) (arrC ch1 ((r1 : Int) - 1) (dm S1 r1) na1 nn1 nc1 ta1 tn1 tc1) x3 (ArrTwo ch1 (arrC ch1 ((r1 : Int) - 1) (dm S1 r1) na1 nn1 nc1 ta1 tn1 tc1) S1 r1 L1 g1 P1 Q1 x3 S2 r2 0 g2 P2 Q2)) Y3 := ⟨BO.out.below, AlkP.stay ArrTwo.keeps, BO.out.now.2.1, RX.out, BO.out.now.2.2.2.1, BO.out.now.2.2.2.2, QA1.out _ BO.out.below, QA2.out _ (Below.refl _ _)⟩
         go_wp2_with fail
         refine wp_region_inv4 ⟨(fun j => ([[39], [40], [], [], [6]] : List (List Nat)).getD j []), (fun j => ([[], [], [0], [0, 1, 2], [0, 1, 2, 3]] : List (List Nat)).getD j []), []⟩ (fun jj vv yy => match jj with | 0 => vv = [some (.agg (arrC ch1 ((r1 : Int) - 1) (dm S1 r1) na1 nn1 nc1 ta1 tn1 tc1))] | 1 => vv = [some (.agg x3)] | 2 => Row yy (w.heap.size + 1 + 1) 32 (arrC ch1 ((r1 : Int) - 1) (dm S1 r1) na1 nn1 nc1 ta1 tn1 tc1) | 3 => Row yy (w.heap.size + 1 + 1 + 1) 32 x3 | 4 => vv = [some ((Value.bool true))] | _ => True) (fun _ => Bag w (AlkP (w.heap.size) (w.heap.size + 1) (w.heap.size + 1 + 1) (w.heap.size + 1 + 1 + 1) (arrC ch1 ((r1 : Int) - 1) (dm S1 r1) na1 nn1 nc1 ta1 tn1 tc1) x3 (ArrTwo ch1 (arrC ch1 ((r1 : Int) - 1) (dm S1 r1) na1 nn1 nc1 ta1 tn1 tc1) S1 r1 L1 g1 P1 Q1 x3 S2 r2 0 g2 P2 Q2))) (by kernel_rfl) (by kernel_rfl) (by kernel_rfl) BP.drew ?_ ?_ ?_
         · intro jj vv yw yw2 hb h
           match jj, h with
           | 0, h => exact h
           | 1, h => exact h
           | 2, g2_0 => exact g2_0.below hb
           | 3, g3_0 => exact g3_0.below hb
           | 4, h => exact h
           | _ + 5, h => exact h
         · intro ac yw hsz hdf hold hB hp
           have r4 := hp 2 (by decide)
           have r5 := hp 3 (by decide)
           have t6 : ac.tmps[6]? = some (.bool true) := (List.cons.inj (hp 4 (by decide))).1
           have t2 : ac.tmps[2]? = some (.pointer (some ⟨w.heap.size, 0, none⟩)) := hold 2 (by kernel_rfl)
           have t3 : ac.tmps[3]? = some (.pointer (some ⟨w.heap.size + 1, 0, none⟩)) := hold 3 (by kernel_rfl)
           have t4 : ac.tmps[4]? = some (.pointer (some ⟨w.heap.size + 1 + 1, 0, none⟩)) := hold 4 (by kernel_rfl)
           have t5 : ac.tmps[5]? = some (.pointer (some ⟨w.heap.size + 1 + 1 + 1, 0, none⟩)) := hold 5 (by kernel_rfl)
           have HR4 := Lib.hid r4
           have HR5 := Lib.hid r5
           have HA1 := Lib.hid hB.now.2.2.2.2.1
           have HA2 := Lib.hid hB.now.2.2.2.2.2
           have HBW := Lib.hid hB.below
           clear hold hp r4 r5 hB
           obtain ⟨TZ, hTZ⟩ : ∃ TZ : Nat -> Value, ∀ i, (ac.tmps[i]?).getD undef = TZ i := ⟨_, fun _ => rfl⟩
           have f2 := (hTZ 2).symm.trans (congrArg (fun x => Option.getD x undef) t2)
           have f3 := (hTZ 3).symm.trans (congrArg (fun x => Option.getD x undef) t3)
           have f4 := (hTZ 4).symm.trans (congrArg (fun x => Option.getD x undef) t4)
           have f5 := (hTZ 5).symm.trans (congrArg (fun x => Option.getD x undef) t5)
           have f6 := (hTZ 6).symm.trans (congrArg (fun x => Option.getD x undef) t6)
           have hac := act_eq (n := 41) hsz TZ hTZ
           rw [show ((List.range 41).map TZ).toArray = #[TZ 0, TZ 1, TZ 2, TZ 3, TZ 4, TZ 5, TZ 6, TZ 7, TZ 8, TZ 9, TZ 10, TZ 11, TZ 12, TZ 13, TZ 14, TZ 15, TZ 16, TZ 17, TZ 18, TZ 19, TZ 20, TZ 21, TZ 22, TZ 23, TZ 24, TZ 25, TZ 26, TZ 27, TZ 28, TZ 29, TZ 30, TZ 31, TZ 32, TZ 33, TZ 34, TZ 35, TZ 36, TZ 37, TZ 38, TZ 39, TZ 40] from rfl, f2, f3, f4, f5, f6, hdf] at hac
           simp only [Option.getD_some] at hac
           subst hac
           clear hTZ f2 f3 f4 f5 f6
           go_wp2_with fail
           exact bodyPost_ret (res_arr3 Tryz.results36 rfl rfl rfl HR4.out HR5.out (IsA.of _ _ _ _ _ _ _ _ _).size IX.out.size) rfl ⟨_, _, rfl, (IsA.of _ _ _ _ _ _ _ _ _), IX.out, ⟨HA1.out, HA2.out⟩, HBW.out⟩
         refine Stps4.cons (o := _) ?_ ?_
         · intro f ac yw hsz hold hB hp hf K hK
           have t2 : ac.tmps[2]? = some (.pointer (some ⟨w.heap.size, 0, none⟩)) := hold 2 (by kernel_rfl)
           clear hold hp hsz
           rw [if_pos (by rfl)]
           refine ld8 2 rfl (w.heap.size) ((arrC ch1 ((r1 : Int) - 1) (dm S1 r1) na1 nn1 nc1 ta1 tn1 tc1)) t2 (hB.now.1) ((IsA.of _ _ _ _ _ _ _ _ _).size) ?_
           exact hK.out _ _ ⟨hB, rfl, Nat.le_refl _, .inl (Below.refl _ _), fun h => absurd h (by decide)⟩
         refine Stps4.cons (o := _) ?_ ?_
         · intro f ac yw hsz hold hB hp hf K hK
           have t3 : ac.tmps[3]? = some (.pointer (some ⟨w.heap.size + 1, 0, none⟩)) := hold 3 (by kernel_rfl)
           clear hold hp hsz
           rw [if_pos (by rfl)]
           refine ld8 3 rfl (w.heap.size + 1) (x3) t3 (hB.now.2.1) (IX.out.size) ?_
           exact hK.out _ _ ⟨hB, rfl, Nat.le_refl _, .inl (Below.refl _ _), fun h => absurd h (by decide)⟩
         refine Stps4.cons (o := _) ?_ ?_
         · intro f ac yw hsz hold hB hp hf K hK
           have e0 := hp 0 (by decide)
           have t39 : ac.tmps[39]? = some (.agg (arrC ch1 ((r1 : Int) - 1) (dm S1 r1) na1 nn1 nc1 ta1 tn1 tc1)) := (List.cons.inj e0).1
           have t4 : ac.tmps[4]? = some (.pointer (some ⟨w.heap.size + 1 + 1, 0, none⟩)) := hold 4 (by kernel_rfl)
           clear hold hp hsz hf e0
           rw [if_pos (by rfl)]
           obtain ⟨zz, hz, iz⟩ := hB.now.2.2.1
           have HB := AlkP.put3 ArrTwo.keeps hB (by omega) (by omega) (by omega) (by omega) ((arrC ch1 ((r1 : Int) - 1) (dm S1 r1) na1 nn1 nc1 ta1 tn1 tc1)) (IsA.of _ _ _ _ _ _ _ _ _)
           refine st8 4 39 rfl (w.heap.size + 1 + 1) (arrC ch1 ((r1 : Int) - 1) (dm S1 r1) na1 nn1 nc1 ta1 tn1 tc1) t4 t39 _ zz hz iz (IsA.of _ _ _ _ _ _ _ _ _) ?_
           refine hK.out undef _ ⟨HB, hz.put _, by simp [World.setRow], .inr ?_, fun h => absurd h (by decide)⟩
           intro jj hj hap h
           match jj, h with
           | 0, h => exact h
           | 1, h => exact h
           | 2, _ => exact absurd rfl hj
           | 3, g3_0 => exact g3_0.puto (by omega) _
           | 4, h => exact h
           | _ + 5, h => exact h
         refine Stps4.cons (o := _) ?_ ?_
         · intro f ac yw hsz hold hB hp hf K hK
           have e1 := hp 1 (by decide)
           have t40 : ac.tmps[40]? = some (.agg x3) := (List.cons.inj e1).1
           have t5 : ac.tmps[5]? = some (.pointer (some ⟨w.heap.size + 1 + 1 + 1, 0, none⟩)) := hold 5 (by kernel_rfl)
           clear hold hp hsz hf e1
           rw [if_pos (by rfl)]
           obtain ⟨zz, hz, iz⟩ := hB.now.2.2.2.1
           have HB := AlkP.put4 ArrTwo.keeps hB (by omega) (by omega) (by omega) (by omega) (x3) IX.out
           refine st8 5 40 rfl (w.heap.size + 1 + 1 + 1) x3 t5 t40 _ zz hz iz IX.out ?_
           refine hK.out undef _ ⟨HB, hz.put _, by simp [World.setRow], .inr ?_, fun h => absurd h (by decide)⟩
           intro jj hj hap h
           match jj, h with
           | 0, h => exact h
           | 1, h => exact h
           | 2, g2_0 => exact g2_0.puto (by omega) _
           | 3, _ => exact absurd rfl hj
           | 4, h => exact h
           | _ + 5, h => exact h
         refine Stps4.cons (o := _) ?_ ?_
         · intro f ac yw hsz hold hB hp hf K hK
           clear hold hp hsz hf
           go_simp
           exact hK.out _ _ ⟨hB, rfl, Nat.le_refl _, .inl (Below.refl _ _), fun h => absurd h (by decide)⟩
         exact Stps4.nil _
       refine Stps4.cons (o := _) ?_ ?_
       · intro f ac yw hsz hold hB hp hf K hK
         have t2 : ac.tmps[2]? = some (.pointer (some ⟨w.heap.size, 0, none⟩)) := hold 2 (by kernel_rfl)
         clear hold hp hsz
         rw [if_pos (by rfl)]
         refine ld8 2 rfl (w.heap.size) ((arrC ch1 ((r1 : Int) - 1) (dm S1 r1) na1 nn1 nc1 ta1 tn1 tc1)) t2 (hB.now.2.1) (rfl) ?_
         exact hK.out _ _ ⟨hB, rfl, Nat.le_refl _, .inl (Below.refl _ _), fun h => absurd h (by decide)⟩
       refine Stps4.cons (o := _) ?_ ?_
       · intro f ac yw hsz hold hB hp hf K hK
         have t3 : ac.tmps[3]? = some (.pointer (some ⟨w.heap.size + 1, 0, none⟩)) := hold 3 (by kernel_rfl)
         clear hold hp hsz
         rw [if_pos (by rfl)]
         refine ld8 3 rfl (w.heap.size + 1) ((arrC ch2 ((r2 : Int) - 1) (dm S2 r2) na2 nn2 nc2 ta2 tn2 tc2)) t3 (hB.now.1 (hf 7 (by decide))) (rfl) ?_
         exact hK.out _ _ ⟨hB, rfl, Nat.le_refl _, .inl (Below.refl _ _), fun h => absurd h (by decide)⟩
       refine Stps4.cons (o := _) ?_ ?_
       · intro f ac yw hsz hold hB hp hf K hK
         have e1 := hp 1 (by decide)
         have t23 : ac.tmps[23]? = some (.agg (arrC ch2 ((r2 : Int) - 1) (dm S2 r2) na2 nn2 nc2 ta2 tn2 tc2)) := (List.cons.inj e1).1
         clear hold hp hsz hf e1
         go_simp
         (go_at_call 46; (refine (SH.out _ (HX.out.below hB.below)).mono ?_); rintro e wz ⟨k2, c2, rfl, hge, hlt, h2_0, hbz⟩; have hge := Nat.lt_of_lt_of_le (Exists.elim hB.now.2.2.1 (fun _ h => h.1.lt)) hge)
         exact hK.out _ _ ⟨hB.go hbz, Exists.intro k2 (Exists.intro c2 (And.intro rfl (And.intro h2_0 hge))), hbz.size, .inl hbz, fun h => absurd h (by decide)⟩
       refine Stps4.cons (o := _) ?_ ?_
       · intro f ac yw hsz hold hB hp hf K hK
         have e0 := hp 0 (by decide)
         have t22 : ac.tmps[22]? = some (.agg (arrC ch1 ((r1 : Int) - 1) (dm S1 r1) na1 nn1 nc1 ta1 tn1 tc1)) := (List.cons.inj e0).1
         obtain ⟨k2_2, c2_2, e2, g2_0, g2_1⟩ := hp 2 (by decide)
         have t24 : ac.tmps[24]? = some (.slice (some ⟨k2_2, 0, none⟩) r2 c2_2) := (List.cons.inj e2).1
         clear hold hp hsz hf e0 e2
         go_simp
         (go_at_call 53; (refine (PK.out _ _ _ (HO.out.below hB.below) g2_0).mono ?_); rintro e wz ⟨x3, rfl, h3_0, hbz⟩)
         exact hK.out _ _ ⟨hB.go hbz, Exists.intro x3 (And.intro rfl (And.intro h3_0 h3_0.isA)), hbz.size, .inl hbz, fun h => absurd h (by decide)⟩
       refine Stps4.cons (o := _) ?_ ?_
       · intro f ac yw hsz hold hB hp hf K hK
         obtain ⟨x3_3, e3, g3_0, g3_1⟩ := hp 3 (by decide)
         have t25 : ac.tmps[25]? = some (.tuple #[.agg x3_3, .bool true]) := (List.cons.inj e3).1
         clear hold hp hsz hf e3
         go_simp
         exact hK.out _ _ ⟨hB, Exists.intro x3_3 (And.intro rfl (And.intro g3_0 g3_1)), Nat.le_refl _, .inl (Below.refl _ _), fun h => absurd h (by decide)⟩
       refine Stps4.cons (o := _) ?_ ?_
       · intro f ac yw hsz hold hB hp hf K hK
         obtain ⟨x3_4, e4, g4_0, g4_1⟩ := hp 4 (by decide)
         have t21 : ac.tmps[21]? = some (.tuple #[.agg x3_4, .bool true]) := (List.cons.inj e4).1
         clear hold hp hsz hf e4
         go_simp
         exact hK.out _ _ ⟨hB, Exists.intro x3_4 (And.intro rfl (And.intro g4_0 g4_1)), Nat.le_refl _, .inl (Below.refl _ _), fun h => absurd h (by decide)⟩
       refine Stps4.cons (o := _) ?_ ?_
       · intro f ac yw hsz hold hB hp hf K hK
         obtain ⟨x3_4, e4, g4_0, g4_1⟩ := hp 4 (by decide)
         have t21 : ac.tmps[21]? = some (.tuple #[.agg x3_4, .bool true]) := (List.cons.inj e4).1
         clear hold hp hsz hf e4
         go_simp
         exact hK.out _ _ ⟨hB, rfl, Nat.le_refl _, .inl (Below.refl _ _), fun h => absurd h (by decide)⟩
       refine Stps4.cons (o := _) ?_ ?_
       · intro f ac yw hsz hold hB hp hf K hK
         obtain ⟨x3_5, e5, g5_0, g5_1⟩ := hp 5 (by decide)
         have t26 : ac.tmps[26]? = some (.agg x3_5) := (List.cons.inj e5).1
         have t3 : ac.tmps[3]? = some (.pointer (some ⟨w.heap.size + 1, 0, none⟩)) := hold 3 (by kernel_rfl)
         clear hold hp hsz hf e5
         rw [if_pos (by rfl)]
         obtain ⟨zz, hz, iz⟩ := hB.now.2.2.1
         have HB := AlkB.put hB (by omega) (by omega) (by omega) (x3_5) g5_1
         refine st8 3 26 rfl (w.heap.size + 1) x3_5 t3 t26 _ zz hz iz g5_1 ?_
         refine hK.out undef _ ⟨HB, Exists.intro x3_5 (And.intro (hz.put _) (And.intro (g5_0.store hz iz _) g5_1)), by simp [World.setRow], .inr ?_, fun h => absurd h (by decide)⟩
         intro jj hj hap h
         match jj, h with
         | 0, h => exact h
         | 1, h => exact h
         | 2, ⟨k2, c2, e2, g2_0, g2_1⟩ => exact Exists.intro k2 (Exists.intro c2 (And.intro e2 (And.intro (g2_0.away (.inr (fun x hx => by obtain rfl := Option.some.inj hx; show (_ : Nat) ≠ _; dsimp only; omega)) (Far.setRow _ _ _)) g2_1)))
         | 3, ⟨x3, e3, g3_0, g3_1⟩ => exact Exists.intro x3 (And.intro e3 (And.intro (g3_0.store hz iz _) g3_1))
         | 4, ⟨x3, e4, g4_0, g4_1⟩ => exact Exists.intro x3 (And.intro e4 (And.intro (g4_0.store hz iz _) g4_1))
         | 5, ⟨x3, e5, g5_0, g5_1⟩ => exact Exists.intro x3 (And.intro e5 (And.intro (g5_0.store hz iz _) g5_1))
         | 6, h => exact h
         | 7, _ => exact absurd rfl hj
         | _ + 8, h => exact h
       exact Stps4.nil _
     refine Stps2.cons (o := _) ?_ ?_
     · intro ac yw hsz hold hB hp K hK
       have t2 : ac.tmps[2]? = some (.pointer (some ⟨w.heap.size, 0, none⟩)) := hold 2 (by kernel_rfl)
       clear hold hp hsz
       rw [if_pos (by rfl)]
       refine ld8 2 rfl (w.heap.size) ((arrC ch1 ((r1 : Int) - 1) (dm S1 r1) na1 nn1 nc1 ta1 tn1 tc1)) t2 ((BB.out.go hB.below).now.1) (rfl) ?_
       exact hK.out _ _ ⟨hB, rfl, Nat.le_refl _, .inl (Below.refl _ _), fun h => absurd h (by decide)⟩
     refine Stps2.cons (o := _) ?_ ?_
     · intro ac yw hsz hold hB hp K hK
       have e0 := hp 0 (by decide)
       have t10 : ac.tmps[10]? = some (.agg (arrC ch1 ((r1 : Int) - 1) (dm S1 r1) na1 nn1 nc1 ta1 tn1 tc1)) := (List.cons.inj e0).1
       clear hold hp hsz e0
       go_simp
       (go_at_call 58; (with_reducible refine (IC1.out _).mono ?_); rintro e wz ⟨rfl, hbz⟩)
       exact hK.out _ _ ⟨hB.go hbz, rfl, hbz.size, .inl hbz, fun h => absurd h (by decide)⟩
     refine Stps2.cons (o := _) ?_ ?_
     · intro ac yw hsz hold hB hp K hK
       have t3 : ac.tmps[3]? = some (.pointer (some ⟨w.heap.size + 1, 0, none⟩)) := hold 3 (by kernel_rfl)
       clear hold hp hsz
       rw [if_pos (by rfl)]
       refine ld8 3 rfl (w.heap.size + 1) ((arrC ch2 ((r2 : Int) - 1) (dm S2 r2) na2 nn2 nc2 ta2 tn2 tc2)) t3 ((BB.out.go hB.below).now.2.1) (rfl) ?_
       exact hK.out _ _ ⟨hB, rfl, Nat.le_refl _, .inl (Below.refl _ _), fun h => absurd h (by decide)⟩
     refine Stps2.cons (o := _) ?_ ?_
     · intro ac yw hsz hold hB hp K hK
       have e2 := hp 2 (by decide)
       have t12 : ac.tmps[12]? = some (.agg (arrC ch2 ((r2 : Int) - 1) (dm S2 r2) na2 nn2 nc2 ta2 tn2 tc2)) := (List.cons.inj e2).1
       clear hold hp hsz e2
       go_simp
       (go_at_call 58; (with_reducible refine (IC2.out _).mono ?_); rintro e wz ⟨rfl, hbz⟩)
       exact hK.out _ _ ⟨hB.go hbz, rfl, hbz.size, .inl hbz, fun h => absurd h (by decide)⟩
     refine Stps2.cons (o := _) ?_ ?_
     · intro ac yw hsz hold hB hp K hK
       have e1 := hp 1 (by decide)
       have t11 : ac.tmps[11]? = some (.bool ch1) := (List.cons.inj e1).1
       have e3 := hp 3 (by decide)
       have t13 : ac.tmps[13]? = some (.bool ch2) := (List.cons.inj e3).1
       clear hold hp hsz e1 e3
       go_simp
       exact hK.out _ _ ⟨hB, rfl, Nat.le_refl _, .inl (Below.refl _ _), fun h => absurd h (by decide)⟩
     refine Stps2.cons (o := _) ?_ ?_
     · intro ac yw hsz hold hB hp K hK
       have e4 := hp 4 (by decide)
       have t14 : ac.tmps[14]? = some (.bool false) := (List.cons.inj e4).1
       clear hold hp hsz e4
       go_simp
       exact hK.out _ _ ⟨hB, rfl, Nat.le_refl _, .inl (Below.refl _ _), fun h => absurd h (by decide)⟩
     exact Stps2.nil _
   · have d2 : ((L2 : Int) == 0) = false := beq_eq_false_iff_ne.2 (by omega)
     by_cases hz1 : L1 = 0
     · have SH := Lib.hid (fun wz h => shape_new (arrC ch1 ((r1 : Int) - 1) (dm S1 r1) na1 nn1 nc1 ta1 tn1 tc1) S1 r1 ch1 L1 g1 P1 Q1 wz h hr1)
       have PK : Hid (∀ a c wz, Arr wz (arrC ch2 ((r2 : Int) - 1) (dm S2 r2) na2 nn2 nc2 ta2 tn2 tc2) S2 r2 ch2 L2 g2 P2 Q2 -> KRow wz .i64 a r1 c S1 -> Calls Tryz.prog 53 #[.agg (arrC ch2 ((r2 : Int) - 1) (dm S2 r2) na2 nn2 nc2 ta2 tn2 tc2), .slice a r1 c, .slice none 0 0] wz fun e w' => ∃ x, e = .returned (.tuple #[.agg x, .bool true]) /\ Arr w' x S1 r1 ch2 0 g1 P1 Q1 /\ Below wz.heap.size wz w') := Lib.hid (fun a c wz h k => pick0_any h k hsh1 (by rw [hc1, hz1]))
       have HX := Lib.hid H1.out
       have HO := Lib.hid H2.out
       have d1 : ((L1 : Int) == 0) = true := beq_iff_eq.2 (by omega)
       have e1 : kdB ch1 L1 ch2 L2 = true := by unfold kdB; rw [decide_eq_true hz1, Bool.or_true]
       have e2 : kdC ch1 L1 ch2 L2 = ch2 := by unfold kdC; rw [if_neg hch, if_neg hz2]
       rw [e1, e2]
       subst hz1
       clear hch e1 e2 hz2
       clear hsh1 hsh2 hc1 hc2 hr1 hr2 
       unfold arrC
       go_enter Tryz.func36, Tryz.ntmps36
       go_wp2_with fail
       have hWW := BB.out.below
       generalize hW : ((((w.alloc (.cells _ 32)).alloc (.cells _ 32)).alloc (.cells _ 32)).alloc (.cells _ 32)) = YY at *
       clear hW hWW
       refine wp_region_inv2 ⟨(fun j => ([[10], [11], [12], [13], [14], [9]] : List (List Nat)).getD j []), (fun j => ([[], [0], [], [0, 1, 2], [0, 1, 2, 3], [0, 1, 2, 3, 4]] : List (List Nat)).getD j []), []⟩ (fun jj vv yy => match jj with | 0 => vv = [some (.agg (arrC ch1 ((r1 : Int) - 1) (dm S1 r1) na1 nn1 nc1 ta1 tn1 tc1))] | 1 => vv = [some (.bool ch1)] | 2 => vv = [some (.agg (arrC ch2 ((r2 : Int) - 1) (dm S2 r2) na2 nn2 nc2 ta2 tn2 tc2))] | 3 => vv = [some (.bool ch2)] | 4 => vv = [some (.bool false)] | 5 => vv = [some (.bool false)] | _ => True) (Bag YY (fun _ => True)) (by kernel_rfl) (by kernel_rfl) (by kernel_rfl) (Bag.start YY).drew ?_ ?_ ?_
       · intro jj vv yw yw2 hb h
         match jj, h with
         | 0, h => exact h
         | 1, h => exact h
         | 2, h => exact h
         | 3, h => exact h
         | 4, h => exact h
         | 5, h => exact h
         | _ + 6, h => exact h
       · intro ac yw hsz hdf hold hB hp
         have t9 : ac.tmps[9]? = some (.bool false) := (List.cons.inj (hp 5 (by decide))).1
         have t2 : ac.tmps[2]? = some (.pointer (some ⟨w.heap.size, 0, none⟩)) := hold 2 (by kernel_rfl)
         have t3 : ac.tmps[3]? = some (.pointer (some ⟨w.heap.size + 1, 0, none⟩)) := hold 3 (by kernel_rfl)
         have t4 : ac.tmps[4]? = some (.pointer (some ⟨w.heap.size + 1 + 1, 0, none⟩)) := hold 4 (by kernel_rfl)
         have t5 : ac.tmps[5]? = some (.pointer (some ⟨w.heap.size + 1 + 1 + 1, 0, none⟩)) := hold 5 (by kernel_rfl)
         have t6 : ac.tmps[6]? = some (.bool false) := hold 6 (by kernel_rfl)
         have BB := Lib.hid (BB.out.go hB.below)
         clear hold hp hB
         obtain ⟨TV, hTV⟩ : ∃ TV : Nat -> Value, ∀ i, (ac.tmps[i]?).getD undef = TV i := ⟨_, fun _ => rfl⟩
         have f2 := (hTV 2).symm.trans (congrArg (fun x => Option.getD x undef) t2)
         have f3 := (hTV 3).symm.trans (congrArg (fun x => Option.getD x undef) t3)
         have f4 := (hTV 4).symm.trans (congrArg (fun x => Option.getD x undef) t4)
         have f5 := (hTV 5).symm.trans (congrArg (fun x => Option.getD x undef) t5)
         have f6 := (hTV 6).symm.trans (congrArg (fun x => Option.getD x undef) t6)
         have f9 := (hTV 9).symm.trans (congrArg (fun x => Option.getD x undef) t9)
         have hac := act_eq (n := 41) hsz TV hTV
         rw [show ((List.range 41).map TV).toArray = #[TV 0, TV 1, TV 2, TV 3, TV 4, TV 5, TV 6, TV 7, TV 8, TV 9, TV 10, TV 11, TV 12, TV 13, TV 14, TV 15, TV 16, TV 17, TV 18, TV 19, TV 20, TV 21, TV 22, TV 23, TV 24, TV 25, TV 26, TV 27, TV 28, TV 29, TV 30, TV 31, TV 32, TV 33, TV 34, TV 35, TV 36, TV 37, TV 38, TV 39, TV 40] from rfl, f2, f3, f4, f5, f6, f9, hdf] at hac
         simp only [Option.getD_some] at hac
         subst hac
         clear hTV f2 f3 f4 f5 f6 f9
         have HR2 := Lib.hid BB.out.now.2.1
         go_wp2_with (refine ld_arr rfl (.tmp 3) rfl (w.heap.size + 1) rfl HR2.out ?_)
         go_at_call 26
         (with_reducible refine (LN2.out _ ?_).mono ?_)
         · exact H2.out.below BB.out.below
         rintro e w52 ⟨rfl, hb5⟩
         have BB := Lib.hid (BB.out.go hb5)
         clear hb5
         clear HR2
         have HR1 := Lib.hid BB.out.now.1
         go_wp2_with (refine ld_arr rfl (.tmp 2) rfl (w.heap.size) rfl HR1.out ?_)
         go_at_call 26
         (with_reducible refine (LN1.out _ ?_).mono ?_)
         · exact H1.out.below BB.out.below
         rintro e w51 ⟨rfl, hb5⟩
         have BB := Lib.hid (BB.out.go hb5)
         clear hb5
         clear HR1
         obtain ⟨Y2, hY2⟩ : ∃ y, y = w51 := ⟨_, rfl⟩
         subst hY2
         go_wp2_with fail
         have BQ : Bag w (AlkB false (w.heap.size + 1) (w.heap.size) (w.heap.size + 1 + 1) (w.heap.size + 1 + 1 + 1) (arrC ch2 ((r2 : Int) - 1) (dm S2 r2) na2 nn2 nc2 ta2 tn2 tc2) (arrC ch1 ((r1 : Int) - 1) (dm S1 r1) na1 nn1 nc1 ta1 tn1 tc1)) Y2 := ⟨BB.out.below, AlkB.stay, fun _ => BB.out.now.1, BB.out.now.2.1, ⟨_, BB.out.now.1, IsA.of _ _ _ _ _ _ _ _ _⟩, ⟨_, BB.out.now.2.2.1, IsA.zer⟩, ⟨_, BB.out.now.2.2.2.1, IsA.zer⟩⟩
         refine wp_region_inv4 ⟨(fun j => ([[33], [34], [35], [36], [32], [37], [38], []] : List (List Nat)).getD j []), (fun j => ([[], [], [1], [0, 1, 2], [0, 1, 2, 3], [0, 1, 2, 3, 4], [0, 1, 2, 3, 4], [0, 1, 2, 3, 4, 5]] : List (List Nat)).getD j []), []⟩ (fun jj vv yy => match jj with | 0 => vv = [some (.agg (arrC ch2 ((r2 : Int) - 1) (dm S2 r2) na2 nn2 nc2 ta2 tn2 tc2))] | 1 => vv = [some (.agg (arrC ch1 ((r1 : Int) - 1) (dm S1 r1) na1 nn1 nc1 ta1 tn1 tc1))] | 2 => ∃ (k2 : Nat), ∃ (c2 : Nat), vv = [some (.slice (some ⟨k2, 0, none⟩) r1 c2)] /\ KRow yy .i64 (some ⟨k2, 0, none⟩) r1 c2 S1 /\ w.heap.size < k2 | 3 => ∃ (x3 : Array Value), vv = [some (.tuple #[.agg x3, .bool true])] /\ Arr yy x3 S1 r1 ch2 0 g1 P1 Q1 /\ IsA x3 | 4 => ∃ (x3 : Array Value), vv = [some (.tuple #[.agg x3, .bool true])] /\ Arr yy x3 S1 r1 ch2 0 g1 P1 Q1 /\ IsA x3 | 5 => ∃ (x3 : Array Value), vv = [some (.agg x3)] /\ Arr yy x3 S1 r1 ch2 0 g1 P1 Q1 /\ IsA x3 | 6 => vv = [some (.bool true)] | 7 => ∃ (x3 : Array Value), Row yy (w.heap.size) 32 x3 /\ Arr yy x3 S1 r1 ch2 0 g1 P1 Q1 /\ IsA x3 | _ => True) (fun f => Bag w (AlkB (f 7) (w.heap.size + 1) (w.heap.size) (w.heap.size + 1 + 1) (w.heap.size + 1 + 1 + 1) (arrC ch2 ((r2 : Int) - 1) (dm S2 r2) na2 nn2 nc2 ta2 tn2 tc2) (arrC ch1 ((r1 : Int) - 1) (dm S1 r1) na1 nn1 nc1 ta1 tn1 tc1))) (by kernel_rfl) (by kernel_rfl) (by kernel_rfl) BQ.drew ?_ ?_ ?_
         · intro jj vv yw yw2 hb h
           match jj, h with
           | 0, h => exact h
           | 1, h => exact h
           | 2, ⟨k2, c2, e2, g2_0, g2_1⟩ => exact Exists.intro k2 (Exists.intro c2 (And.intro e2 (And.intro (g2_0.below hb) g2_1)))
           | 3, ⟨x3, e3, g3_0, g3_1⟩ => exact Exists.intro x3 (And.intro e3 (And.intro (g3_0.below hb) g3_1))
           | 4, ⟨x3, e4, g4_0, g4_1⟩ => exact Exists.intro x3 (And.intro e4 (And.intro (g4_0.below hb) g4_1))
           | 5, ⟨x3, e5, g5_0, g5_1⟩ => exact Exists.intro x3 (And.intro e5 (And.intro (g5_0.below hb) g5_1))
           | 6, h => exact h
           | 7, ⟨x3, g7_0, g7_1, g7_2⟩ => exact Exists.intro x3 (And.intro (g7_0.below hb) (And.intro (g7_1.below hb) g7_2))
           | _ + 8, h => exact h
         · intro ac yw hsz hdf hold hB hp
           obtain ⟨x3, rx, ax, ix⟩ := hp 7 (by decide)
           have t2 : ac.tmps[2]? = some (.pointer (some ⟨w.heap.size, 0, none⟩)) := hold 2 (by kernel_rfl)
           have t3 : ac.tmps[3]? = some (.pointer (some ⟨w.heap.size + 1, 0, none⟩)) := hold 3 (by kernel_rfl)
           have t4 : ac.tmps[4]? = some (.pointer (some ⟨w.heap.size + 1 + 1, 0, none⟩)) := hold 4 (by kernel_rfl)
           have t5 : ac.tmps[5]? = some (.pointer (some ⟨w.heap.size + 1 + 1 + 1, 0, none⟩)) := hold 5 (by kernel_rfl)
           have t6 : ac.tmps[6]? = some (.bool false) := hold 6 (by kernel_rfl)
           have QA1 : Hid (∀ wz, Below yw.heap.size yw wz -> Arr wz x3 S1 r1 ch2 0 g1 P1 Q1) := Lib.hid (fun wz hb => ax.below hb)
           have IX := Lib.hid ix
           have RX := Lib.hid rx
           have BO := Lib.hid hB
           clear hold hp rx ax ix hB
           obtain ⟨TW, hTW⟩ : ∃ TW : Nat -> Value, ∀ i, (ac.tmps[i]?).getD undef = TW i := ⟨_, fun _ => rfl⟩
           have f2 := (hTW 2).symm.trans (congrArg (fun x => Option.getD x undef) t2)
           have f3 := (hTW 3).symm.trans (congrArg (fun x => Option.getD x undef) t3)
           have f4 := (hTW 4).symm.trans (congrArg (fun x => Option.getD x undef) t4)
           have f5 := (hTW 5).symm.trans (congrArg (fun x => Option.getD x undef) t5)
           have f6 := (hTW 6).symm.trans (congrArg (fun x => Option.getD x undef) t6)
           have hac := act_eq (n := 41) hsz TW hTW
           rw [show ((List.range 41).map TW).toArray = #[TW 0, TW 1, TW 2, TW 3, TW 4, TW 5, TW 6, TW 7, TW 8, TW 9, TW 10, TW 11, TW 12, TW 13, TW 14, TW 15, TW 16, TW 17, TW 18, TW 19, TW 20, TW 21, TW 22, TW 23, TW 24, TW 25, TW 26, TW 27, TW 28, TW 29, TW 30, TW 31, TW 32, TW 33, TW 34, TW 35, TW 36, TW 37, TW 38, TW 39, TW 40] from rfl, f2, f3, f4, f5, f6, hdf] at hac
           simp only [Option.getD_some] at hac
           subst hac
           clear hTW f2 f3 f4 f5 f6
           have QA2 : Hid (∀ wz, Below w.heap.size w wz -> Arr wz (arrC ch2 ((r2 : Int) - 1) (dm S2 r2) na2 nn2 nc2 ta2 tn2 tc2) S2 r2 ch2 L2 g2 P2 Q2) := Lib.hid (fun wz hb => HO.out.below hb)
           obtain ⟨Y3, hY3⟩ : ∃ y, y = yw := ⟨_, rfl⟩
           subst hY3
           have BP : Bag w (AlkP (w.heap.size) (w.heap.size + 1) (w.heap.size + 1 + 1) (w.heap.size + 1 + 1 + 1) x3 (arrC ch2 ((r2 : Int) - 1) (dm S2 r2) na2 nn2 nc2 ta2 tn2 tc2) (ArrTwo ch2 x3 S1 r1 0 g1 P1 Q1 (arrC ch2 ((r2 : Int) - 1) (dm S2 r2) na2 nn2 nc2 ta2 tn2 tc2) S2 r2 L2 g2 P2 Q2)) Y3 := ⟨BO.out.below, AlkP.stay ArrTwo.keeps, RX.out, BO.out.now.2.1, BO.out.now.2.2.2.1, BO.out.now.2.2.2.2, QA1.out _ (Below.refl _ _), QA2.out _ BO.out.below⟩
           go_wp2_with fail
           refine wp_region_inv4 ⟨(fun j => ([[39], [40], [], [], [6]] : List (List Nat)).getD j []), (fun j => ([[], [], [0], [0, 1, 2], [0, 1, 2, 3]] : List (List Nat)).getD j []), []⟩ (fun jj vv yy => match jj with | 0 => vv = [some (.agg x3)] | 1 => vv = [some (.agg (arrC ch2 ((r2 : Int) - 1) (dm S2 r2) na2 nn2 nc2 ta2 tn2 tc2))] | 2 => Row yy (w.heap.size + 1 + 1) 32 x3 | 3 => Row yy (w.heap.size + 1 + 1 + 1) 32 (arrC ch2 ((r2 : Int) - 1) (dm S2 r2) na2 nn2 nc2 ta2 tn2 tc2) | 4 => vv = [some ((Value.bool true))] | _ => True) (fun _ => Bag w (AlkP (w.heap.size) (w.heap.size + 1) (w.heap.size + 1 + 1) (w.heap.size + 1 + 1 + 1) x3 (arrC ch2 ((r2 : Int) - 1) (dm S2 r2) na2 nn2 nc2 ta2 tn2 tc2) (ArrTwo ch2 x3 S1 r1 0 g1 P1 Q1 (arrC ch2 ((r2 : Int) - 1) (dm S2 r2) na2 nn2 nc2 ta2 tn2 tc2) S2 r2 L2 g2 P2 Q2))) (by kernel_rfl) (by kernel_rfl) (by kernel_rfl) BP.drew ?_ ?_ ?_
           · intro jj vv yw yw2 hb h
             match jj, h with
             | 0, h => exact h
             | 1, h => exact h
             | 2, g2_0 => exact g2_0.below hb
             | 3, g3_0 => exact g3_0.below hb
             | 4, h => exact h
             | _ + 5, h => exact h
           · intro ac yw hsz hdf hold hB hp
             have r4 := hp 2 (by decide)
             have r5 := hp 3 (by decide)
             have t6 : ac.tmps[6]? = some (.bool true) := (List.cons.inj (hp 4 (by decide))).1
             have t2 : ac.tmps[2]? = some (.pointer (some ⟨w.heap.size, 0, none⟩)) := hold 2 (by kernel_rfl)
             have t3 : ac.tmps[3]? = some (.pointer (some ⟨w.heap.size + 1, 0, none⟩)) := hold 3 (by kernel_rfl)
             have t4 : ac.tmps[4]? = some (.pointer (some ⟨w.heap.size + 1 + 1, 0, none⟩)) := hold 4 (by kernel_rfl)
             have t5 : ac.tmps[5]? = some (.pointer (some ⟨w.heap.size + 1 + 1 + 1, 0, none⟩)) := hold 5 (by kernel_rfl)
             have HR4 := Lib.hid r4
             have HR5 := Lib.hid r5
             have HA1 := Lib.hid hB.now.2.2.2.2.1
             have HA2 := Lib.hid hB.now.2.2.2.2.2
             have HBW := Lib.hid hB.below
             clear hold hp r4 r5 hB
             obtain ⟨TZ, hTZ⟩ : ∃ TZ : Nat -> Value, ∀ i, (ac.tmps[i]?).getD undef = TZ i := ⟨_, fun _ => rfl⟩
             have f2 := (hTZ 2).symm.trans (congrArg (fun x => Option.getD x undef) t2)
             have f3 := (hTZ 3).symm.trans (congrArg (fun x => Option.getD x undef) t3)
             have f4 := (hTZ 4).symm.trans (congrArg (fun x => Option.getD x undef) t4)
             have f5 := (hTZ 5).symm.trans (congrArg (fun x => Option.getD x undef) t5)
             have f6 := (hTZ 6).symm.trans (congrArg (fun x => Option.getD x undef) t6)
             have hac := act_eq (n := 41) hsz TZ hTZ
             rw [show ((List.range 41).map TZ).toArray = #[TZ 0, TZ 1, TZ 2, TZ 3, TZ 4, TZ 5, TZ 6, TZ 7, TZ 8, TZ 9, TZ 10, TZ 11, TZ 12, TZ 13, TZ 14, TZ 15, TZ 16, TZ 17, TZ 18, TZ 19, TZ 20, TZ 21, TZ 22, TZ 23, TZ 24, TZ 25, TZ 26, TZ 27, TZ 28, TZ 29, TZ 30, TZ 31, TZ 32, TZ 33, TZ 34, TZ 35, TZ 36, TZ 37, TZ 38, TZ 39, TZ 40] from rfl, f2, f3, f4, f5, f6, hdf] at hac
             simp only [Option.getD_some] at hac
             subst hac
             clear hTZ f2 f3 f4 f5 f6
             go_wp2_with fail
             exact bodyPost_ret (res_arr3 Tryz.results36 rfl rfl rfl HR4.out HR5.out IX.out.size (IsA.of _ _ _ _ _ _ _ _ _).size) rfl ⟨_, _, rfl, IX.out, (IsA.of _ _ _ _ _ _ _ _ _), ⟨HA1.out, HA2.out⟩, HBW.out⟩
           refine Stps4.cons (o := _) ?_ ?_
           · intro f ac yw hsz hold hB hp hf K hK
             have t2 : ac.tmps[2]? = some (.pointer (some ⟨w.heap.size, 0, none⟩)) := hold 2 (by kernel_rfl)
             clear hold hp hsz
             rw [if_pos (by rfl)]
             refine ld8 2 rfl (w.heap.size) (x3) t2 (hB.now.1) (IX.out.size) ?_
             exact hK.out _ _ ⟨hB, rfl, Nat.le_refl _, .inl (Below.refl _ _), fun h => absurd h (by decide)⟩
           refine Stps4.cons (o := _) ?_ ?_
           · intro f ac yw hsz hold hB hp hf K hK
             have t3 : ac.tmps[3]? = some (.pointer (some ⟨w.heap.size + 1, 0, none⟩)) := hold 3 (by kernel_rfl)
             clear hold hp hsz
             rw [if_pos (by rfl)]
             refine ld8 3 rfl (w.heap.size + 1) ((arrC ch2 ((r2 : Int) - 1) (dm S2 r2) na2 nn2 nc2 ta2 tn2 tc2)) t3 (hB.now.2.1) ((IsA.of _ _ _ _ _ _ _ _ _).size) ?_
             exact hK.out _ _ ⟨hB, rfl, Nat.le_refl _, .inl (Below.refl _ _), fun h => absurd h (by decide)⟩
           refine Stps4.cons (o := _) ?_ ?_
           · intro f ac yw hsz hold hB hp hf K hK
             have e0 := hp 0 (by decide)
             have t39 : ac.tmps[39]? = some (.agg x3) := (List.cons.inj e0).1
             have t4 : ac.tmps[4]? = some (.pointer (some ⟨w.heap.size + 1 + 1, 0, none⟩)) := hold 4 (by kernel_rfl)
             clear hold hp hsz hf e0
             rw [if_pos (by rfl)]
             obtain ⟨zz, hz, iz⟩ := hB.now.2.2.1
             have HB := AlkP.put3 ArrTwo.keeps hB (by omega) (by omega) (by omega) (by omega) (x3) IX.out
             refine st8 4 39 rfl (w.heap.size + 1 + 1) x3 t4 t39 _ zz hz iz IX.out ?_
             refine hK.out undef _ ⟨HB, hz.put _, by simp [World.setRow], .inr ?_, fun h => absurd h (by decide)⟩
             intro jj hj hap h
             match jj, h with
             | 0, h => exact h
             | 1, h => exact h
             | 2, _ => exact absurd rfl hj
             | 3, g3_0 => exact g3_0.puto (by omega) _
             | 4, h => exact h
             | _ + 5, h => exact h
           refine Stps4.cons (o := _) ?_ ?_
           · intro f ac yw hsz hold hB hp hf K hK
             have e1 := hp 1 (by decide)
             have t40 : ac.tmps[40]? = some (.agg (arrC ch2 ((r2 : Int) - 1) (dm S2 r2) na2 nn2 nc2 ta2 tn2 tc2)) := (List.cons.inj e1).1
             have t5 : ac.tmps[5]? = some (.pointer (some ⟨w.heap.size + 1 + 1 + 1, 0, none⟩)) := hold 5 (by kernel_rfl)
             clear hold hp hsz hf e1
             rw [if_pos (by rfl)]
             obtain ⟨zz, hz, iz⟩ := hB.now.2.2.2.1
             have HB := AlkP.put4 ArrTwo.keeps hB (by omega) (by omega) (by omega) (by omega) ((arrC ch2 ((r2 : Int) - 1) (dm S2 r2) na2 nn2 nc2 ta2 tn2 tc2)) (IsA.of _ _ _ _ _ _ _ _ _)
             refine st8 5 40 rfl (w.heap.size + 1 + 1 + 1) (arrC ch2 ((r2 : Int) - 1) (dm S2 r2) na2 nn2 nc2 ta2 tn2 tc2) t5 t40 _ zz hz iz (IsA.of _ _ _ _ _ _ _ _ _) ?_
             refine hK.out undef _ ⟨HB, hz.put _, by simp [World.setRow], .inr ?_, fun h => absurd h (by decide)⟩
             intro jj hj hap h
             match jj, h with
             | 0, h => exact h
             | 1, h => exact h
             | 2, g2_0 => exact g2_0.puto (by omega) _
             | 3, _ => exact absurd rfl hj
             | 4, h => exact h
             | _ + 5, h => exact h
           refine Stps4.cons (o := _) ?_ ?_
           · intro f ac yw hsz hold hB hp hf K hK
             clear hold hp hsz hf
             go_simp
             exact hK.out _ _ ⟨hB, rfl, Nat.le_refl _, .inl (Below.refl _ _), fun h => absurd h (by decide)⟩
           exact Stps4.nil _
         refine Stps4.cons (o := _) ?_ ?_
         · intro f ac yw hsz hold hB hp hf K hK
           have t3 : ac.tmps[3]? = some (.pointer (some ⟨w.heap.size + 1, 0, none⟩)) := hold 3 (by kernel_rfl)
           clear hold hp hsz
           rw [if_pos (by rfl)]
           refine ld8 3 rfl (w.heap.size + 1) ((arrC ch2 ((r2 : Int) - 1) (dm S2 r2) na2 nn2 nc2 ta2 tn2 tc2)) t3 (hB.now.2.1) (rfl) ?_
           exact hK.out _ _ ⟨hB, rfl, Nat.le_refl _, .inl (Below.refl _ _), fun h => absurd h (by decide)⟩
         refine Stps4.cons (o := _) ?_ ?_
         · intro f ac yw hsz hold hB hp hf K hK
           have t2 : ac.tmps[2]? = some (.pointer (some ⟨w.heap.size, 0, none⟩)) := hold 2 (by kernel_rfl)
           clear hold hp hsz
           rw [if_pos (by rfl)]
           refine ld8 2 rfl (w.heap.size) ((arrC ch1 ((r1 : Int) - 1) (dm S1 r1) na1 nn1 nc1 ta1 tn1 tc1)) t2 (hB.now.1 (hf 7 (by decide))) (rfl) ?_
           exact hK.out _ _ ⟨hB, rfl, Nat.le_refl _, .inl (Below.refl _ _), fun h => absurd h (by decide)⟩
         refine Stps4.cons (o := _) ?_ ?_
         · intro f ac yw hsz hold hB hp hf K hK
           have e1 := hp 1 (by decide)
           have t34 : ac.tmps[34]? = some (.agg (arrC ch1 ((r1 : Int) - 1) (dm S1 r1) na1 nn1 nc1 ta1 tn1 tc1)) := (List.cons.inj e1).1
           clear hold hp hsz hf e1
           go_simp
           (go_at_call 46; (refine (SH.out _ (HX.out.below hB.below)).mono ?_); rintro e wz ⟨k2, c2, rfl, hge, hlt, h2_0, hbz⟩; have hge := Nat.lt_of_lt_of_le (Exists.elim hB.now.2.2.1 (fun _ h => h.1.lt)) hge)
           exact hK.out _ _ ⟨hB.go hbz, Exists.intro k2 (Exists.intro c2 (And.intro rfl (And.intro h2_0 hge))), hbz.size, .inl hbz, fun h => absurd h (by decide)⟩
         refine Stps4.cons (o := _) ?_ ?_
         · intro f ac yw hsz hold hB hp hf K hK
           have e0 := hp 0 (by decide)
           have t33 : ac.tmps[33]? = some (.agg (arrC ch2 ((r2 : Int) - 1) (dm S2 r2) na2 nn2 nc2 ta2 tn2 tc2)) := (List.cons.inj e0).1
           obtain ⟨k2_2, c2_2, e2, g2_0, g2_1⟩ := hp 2 (by decide)
           have t35 : ac.tmps[35]? = some (.slice (some ⟨k2_2, 0, none⟩) r1 c2_2) := (List.cons.inj e2).1
           clear hold hp hsz hf e0 e2
           go_simp
           (go_at_call 53; (refine (PK.out _ _ _ (HO.out.below hB.below) g2_0).mono ?_); rintro e wz ⟨x3, rfl, h3_0, hbz⟩)
           exact hK.out _ _ ⟨hB.go hbz, Exists.intro x3 (And.intro rfl (And.intro h3_0 h3_0.isA)), hbz.size, .inl hbz, fun h => absurd h (by decide)⟩
         refine Stps4.cons (o := _) ?_ ?_
         · intro f ac yw hsz hold hB hp hf K hK
           obtain ⟨x3_3, e3, g3_0, g3_1⟩ := hp 3 (by decide)
           have t36 : ac.tmps[36]? = some (.tuple #[.agg x3_3, .bool true]) := (List.cons.inj e3).1
           clear hold hp hsz hf e3
           go_simp
           exact hK.out _ _ ⟨hB, Exists.intro x3_3 (And.intro rfl (And.intro g3_0 g3_1)), Nat.le_refl _, .inl (Below.refl _ _), fun h => absurd h (by decide)⟩
         refine Stps4.cons (o := _) ?_ ?_
         · intro f ac yw hsz hold hB hp hf K hK
           obtain ⟨x3_4, e4, g4_0, g4_1⟩ := hp 4 (by decide)
           have t32 : ac.tmps[32]? = some (.tuple #[.agg x3_4, .bool true]) := (List.cons.inj e4).1
           clear hold hp hsz hf e4
           go_simp
           exact hK.out _ _ ⟨hB, Exists.intro x3_4 (And.intro rfl (And.intro g4_0 g4_1)), Nat.le_refl _, .inl (Below.refl _ _), fun h => absurd h (by decide)⟩
         refine Stps4.cons (o := _) ?_ ?_
         · intro f ac yw hsz hold hB hp hf K hK
           obtain ⟨x3_4, e4, g4_0, g4_1⟩ := hp 4 (by decide)
           have t32 : ac.tmps[32]? = some (.tuple #[.agg x3_4, .bool true]) := (List.cons.inj e4).1
           clear hold hp hsz hf e4
           go_simp
           exact hK.out _ _ ⟨hB, rfl, Nat.le_refl _, .inl (Below.refl _ _), fun h => absurd h (by decide)⟩
         refine Stps4.cons (o := _) ?_ ?_
         · intro f ac yw hsz hold hB hp hf K hK
           obtain ⟨x3_5, e5, g5_0, g5_1⟩ := hp 5 (by decide)
           have t37 : ac.tmps[37]? = some (.agg x3_5) := (List.cons.inj e5).1
           have t2 : ac.tmps[2]? = some (.pointer (some ⟨w.heap.size, 0, none⟩)) := hold 2 (by kernel_rfl)
           clear hold hp hsz hf e5
           rw [if_pos (by rfl)]
           obtain ⟨zz, hz, iz⟩ := hB.now.2.2.1
           have HB := AlkB.put hB (by omega) (by omega) (by omega) (x3_5) g5_1
           refine st8 2 37 rfl (w.heap.size) x3_5 t2 t37 _ zz hz iz g5_1 ?_
           refine hK.out undef _ ⟨HB, Exists.intro x3_5 (And.intro (hz.put _) (And.intro (g5_0.store hz iz _) g5_1)), by simp [World.setRow], .inr ?_, fun h => absurd h (by decide)⟩
           intro jj hj hap h
           match jj, h with
           | 0, h => exact h
           | 1, h => exact h
           | 2, ⟨k2, c2, e2, g2_0, g2_1⟩ => exact Exists.intro k2 (Exists.intro c2 (And.intro e2 (And.intro (g2_0.away (.inr (fun x hx => by obtain rfl := Option.some.inj hx; show (_ : Nat) ≠ _; dsimp only; omega)) (Far.setRow _ _ _)) g2_1)))
           | 3, ⟨x3, e3, g3_0, g3_1⟩ => exact Exists.intro x3 (And.intro e3 (And.intro (g3_0.store hz iz _) g3_1))
           | 4, ⟨x3, e4, g4_0, g4_1⟩ => exact Exists.intro x3 (And.intro e4 (And.intro (g4_0.store hz iz _) g4_1))
           | 5, ⟨x3, e5, g5_0, g5_1⟩ => exact Exists.intro x3 (And.intro e5 (And.intro (g5_0.store hz iz _) g5_1))
           | 6, h => exact h
           | 7, _ => exact absurd rfl hj
           | _ + 8, h => exact h
         exact Stps4.nil _
       refine Stps2.cons (o := _) ?_ ?_
       · intro ac yw hsz hold hB hp K hK
         have t2 : ac.tmps[2]? = some (.pointer (some ⟨w.heap.size, 0, none⟩)) := hold 2 (by kernel_rfl)
         clear hold hp hsz
         rw [if_pos (by rfl)]
         refine ld8 2 rfl (w.heap.size) ((arrC ch1 ((r1 : Int) - 1) (dm S1 r1) na1 nn1 nc1 ta1 tn1 tc1)) t2 ((BB.out.go hB.below).now.1) (rfl) ?_
         exact hK.out _ _ ⟨hB, rfl, Nat.le_refl _, .inl (Below.refl _ _), fun h => absurd h (by decide)⟩
       refine Stps2.cons (o := _) ?_ ?_
       · intro ac yw hsz hold hB hp K hK
         have e0 := hp 0 (by decide)
         have t10 : ac.tmps[10]? = some (.agg (arrC ch1 ((r1 : Int) - 1) (dm S1 r1) na1 nn1 nc1 ta1 tn1 tc1)) := (List.cons.inj e0).1
         clear hold hp hsz e0
         go_simp
         (go_at_call 58; (with_reducible refine (IC1.out _).mono ?_); rintro e wz ⟨rfl, hbz⟩)
         exact hK.out _ _ ⟨hB.go hbz, rfl, hbz.size, .inl hbz, fun h => absurd h (by decide)⟩
       refine Stps2.cons (o := _) ?_ ?_
       · intro ac yw hsz hold hB hp K hK
         have t3 : ac.tmps[3]? = some (.pointer (some ⟨w.heap.size + 1, 0, none⟩)) := hold 3 (by kernel_rfl)
         clear hold hp hsz
         rw [if_pos (by rfl)]
         refine ld8 3 rfl (w.heap.size + 1) ((arrC ch2 ((r2 : Int) - 1) (dm S2 r2) na2 nn2 nc2 ta2 tn2 tc2)) t3 ((BB.out.go hB.below).now.2.1) (rfl) ?_
         exact hK.out _ _ ⟨hB, rfl, Nat.le_refl _, .inl (Below.refl _ _), fun h => absurd h (by decide)⟩
       refine Stps2.cons (o := _) ?_ ?_
       · intro ac yw hsz hold hB hp K hK
         have e2 := hp 2 (by decide)
         have t12 : ac.tmps[12]? = some (.agg (arrC ch2 ((r2 : Int) - 1) (dm S2 r2) na2 nn2 nc2 ta2 tn2 tc2)) := (List.cons.inj e2).1
         clear hold hp hsz e2
         go_simp
         (go_at_call 58; (with_reducible refine (IC2.out _).mono ?_); rintro e wz ⟨rfl, hbz⟩)
         exact hK.out _ _ ⟨hB.go hbz, rfl, hbz.size, .inl hbz, fun h => absurd h (by decide)⟩
       refine Stps2.cons (o := _) ?_ ?_
       · intro ac yw hsz hold hB hp K hK
         have e1 := hp 1 (by decide)
         have t11 : ac.tmps[11]? = some (.bool ch1) := (List.cons.inj e1).1
         have e3 := hp 3 (by decide)
         have t13 : ac.tmps[13]? = some (.bool ch2) := (List.cons.inj e3).1
         clear hold hp hsz e1 e3
         go_simp
         exact hK.out _ _ ⟨hB, rfl, Nat.le_refl _, .inl (Below.refl _ _), fun h => absurd h (by decide)⟩
       refine Stps2.cons (o := _) ?_ ?_
       · intro ac yw hsz hold hB hp K hK
         have e4 := hp 4 (by decide)
         have t14 : ac.tmps[14]? = some (.bool false) := (List.cons.inj e4).1
         clear hold hp hsz e4
         go_simp
         exact hK.out _ _ ⟨hB, rfl, Nat.le_refl _, .inl (Below.refl _ _), fun h => absurd h (by decide)⟩
       exact Stps2.nil _
     · have d1 : ((L1 : Int) == 0) = false := beq_eq_false_iff_ne.2 (by omega)
       have e1 : kdB ch1 L1 ch2 L2 = false := by unfold kdB; rw [decide_eq_false hch, decide_eq_false hz1, decide_eq_false hz2]; rfl
       rw [e1]
       clear hch e1 hz1 hz2
       clear hsh1 hsh2 hc1 hc2 hr1 hr2 
       unfold arrC
       go_enter Tryz.func36, Tryz.ntmps36
       go_wp2_with fail
       have hWW := BB.out.below
       generalize hW : ((((w.alloc (.cells _ 32)).alloc (.cells _ 32)).alloc (.cells _ 32)).alloc (.cells _ 32)) = YY at *
       clear hW hWW
       refine wp_region_inv2 ⟨(fun j => ([[10], [11], [12], [13], [14], [9]] : List (List Nat)).getD j []), (fun j => ([[], [0], [], [0, 1, 2], [0, 1, 2, 3], [0, 1, 2, 3, 4]] : List (List Nat)).getD j []), []⟩ (fun jj vv yy => match jj with | 0 => vv = [some (.agg (arrC ch1 ((r1 : Int) - 1) (dm S1 r1) na1 nn1 nc1 ta1 tn1 tc1))] | 1 => vv = [some (.bool ch1)] | 2 => vv = [some (.agg (arrC ch2 ((r2 : Int) - 1) (dm S2 r2) na2 nn2 nc2 ta2 tn2 tc2))] | 3 => vv = [some (.bool ch2)] | 4 => vv = [some (.bool false)] | 5 => vv = [some (.bool false)] | _ => True) (Bag YY (fun _ => True)) (by kernel_rfl) (by kernel_rfl) (by kernel_rfl) (Bag.start YY).drew ?_ ?_ ?_
       · intro jj vv yw yw2 hb h
         match jj, h with
         | 0, h => exact h
         | 1, h => exact h
         | 2, h => exact h
         | 3, h => exact h
         | 4, h => exact h
         | 5, h => exact h
         | _ + 6, h => exact h
       · intro ac yw hsz hdf hold hB hp
         have t9 : ac.tmps[9]? = some (.bool false) := (List.cons.inj (hp 5 (by decide))).1
         have t2 : ac.tmps[2]? = some (.pointer (some ⟨w.heap.size, 0, none⟩)) := hold 2 (by kernel_rfl)
         have t3 : ac.tmps[3]? = some (.pointer (some ⟨w.heap.size + 1, 0, none⟩)) := hold 3 (by kernel_rfl)
         have t4 : ac.tmps[4]? = some (.pointer (some ⟨w.heap.size + 1 + 1, 0, none⟩)) := hold 4 (by kernel_rfl)
         have t5 : ac.tmps[5]? = some (.pointer (some ⟨w.heap.size + 1 + 1 + 1, 0, none⟩)) := hold 5 (by kernel_rfl)
         have t6 : ac.tmps[6]? = some (.bool false) := hold 6 (by kernel_rfl)
         have BB := Lib.hid (BB.out.go hB.below)
         clear hold hp hB
         obtain ⟨TV, hTV⟩ : ∃ TV : Nat -> Value, ∀ i, (ac.tmps[i]?).getD undef = TV i := ⟨_, fun _ => rfl⟩
         have f2 := (hTV 2).symm.trans (congrArg (fun x => Option.getD x undef) t2)
         have f3 := (hTV 3).symm.trans (congrArg (fun x => Option.getD x undef) t3)
         have f4 := (hTV 4).symm.trans (congrArg (fun x => Option.getD x undef) t4)
         have f5 := (hTV 5).symm.trans (congrArg (fun x => Option.getD x undef) t5)
         have f6 := (hTV 6).symm.trans (congrArg (fun x => Option.getD x undef) t6)
         have f9 := (hTV 9).symm.trans (congrArg (fun x => Option.getD x undef) t9)
         have hac := act_eq (n := 41) hsz TV hTV
         rw [show ((List.range 41).map TV).toArray = #[TV 0, TV 1, TV 2, TV 3, TV 4, TV 5, TV 6, TV 7, TV 8, TV 9, TV 10, TV 11, TV 12, TV 13, TV 14, TV 15, TV 16, TV 17, TV 18, TV 19, TV 20, TV 21, TV 22, TV 23, TV 24, TV 25, TV 26, TV 27, TV 28, TV 29, TV 30, TV 31, TV 32, TV 33, TV 34, TV 35, TV 36, TV 37, TV 38, TV 39, TV 40] from rfl, f2, f3, f4, f5, f6, f9, hdf] at hac
         simp only [Option.getD_some] at hac
         subst hac
         clear hTV f2 f3 f4 f5 f6 f9
         have HR2 := Lib.hid BB.out.now.2.1
         go_wp2_with (refine ld_arr rfl (.tmp 3) rfl (w.heap.size + 1) rfl HR2.out ?_)
         go_at_call 26
         (with_reducible refine (LN2.out _ ?_).mono ?_)
         · exact H2.out.below BB.out.below
         rintro e w52 ⟨rfl, hb5⟩
         have BB := Lib.hid (BB.out.go hb5)
         clear hb5
         clear HR2
         have HR1 := Lib.hid BB.out.now.1
         go_wp2_with (refine ld_arr rfl (.tmp 2) rfl (w.heap.size) rfl HR1.out ?_)
         go_at_call 26
         (with_reducible refine (LN1.out _ ?_).mono ?_)
         · exact H1.out.below BB.out.below
         rintro e w51 ⟨rfl, hb5⟩
         have BB := Lib.hid (BB.out.go hb5)
         clear hb5
         clear HR1
         have HZ4 := Lib.hid BB.out.now.2.2.1
         have HZ5 := Lib.hid (BB.out.now.2.2.2.1.puto (k := w.heap.size + 1 + 1) (by omega) zerC)
         have HE : Hid (Row ((w51.setRow (w.heap.size + 1 + 1) zerC).setRow (w.heap.size + 1 + 1 + 1) zerC) (w.heap.size + 1 + 1) 32 zerC /\ Row ((w51.setRow (w.heap.size + 1 + 1) zerC).setRow (w.heap.size + 1 + 1 + 1) zerC) (w.heap.size + 1 + 1 + 1) 32 zerC /\ Below w.heap.size w ((w51.setRow (w.heap.size + 1 + 1) zerC).setRow (w.heap.size + 1 + 1 + 1) zerC)) := Lib.hid ⟨(HZ4.out.put _).puto (by omega) _, HZ5.out.put _, below_put (below_put BB.out.below (by omega) zerC) (by omega) zerC⟩
         go_wp2_with (first
          | (refine st_arr rfl (.tmp 4) (.tmp 7) rfl (w.heap.size + 1 + 1) rfl false 0 (fun _ => 0) none 0 0 none 0 0 rfl HZ4.out rfl ?_)
          | (refine st_arr rfl (.tmp 5) (.tmp 8) rfl (w.heap.size + 1 + 1 + 1) rfl false 0 (fun _ => 0) none 0 0 none 0 0 rfl HZ5.out rfl ?_))
         exact bodyPost_ret (res_arr3 Tryz.results36 rfl rfl rfl HE.out.1 HE.out.2.1 rfl rfl) rfl ⟨_, _, rfl, IsA.zer, IsA.zer, (fun e => by cases e), HE.out.2.2⟩
       refine Stps2.cons (o := _) ?_ ?_
       · intro ac yw hsz hold hB hp K hK
         have t2 : ac.tmps[2]? = some (.pointer (some ⟨w.heap.size, 0, none⟩)) := hold 2 (by kernel_rfl)
         clear hold hp hsz
         rw [if_pos (by rfl)]
         refine ld8 2 rfl (w.heap.size) ((arrC ch1 ((r1 : Int) - 1) (dm S1 r1) na1 nn1 nc1 ta1 tn1 tc1)) t2 ((BB.out.go hB.below).now.1) (rfl) ?_
         exact hK.out _ _ ⟨hB, rfl, Nat.le_refl _, .inl (Below.refl _ _), fun h => absurd h (by decide)⟩
       refine Stps2.cons (o := _) ?_ ?_
       · intro ac yw hsz hold hB hp K hK
         have e0 := hp 0 (by decide)
         have t10 : ac.tmps[10]? = some (.agg (arrC ch1 ((r1 : Int) - 1) (dm S1 r1) na1 nn1 nc1 ta1 tn1 tc1)) := (List.cons.inj e0).1
         clear hold hp hsz e0
         go_simp
         (go_at_call 58; (with_reducible refine (IC1.out _).mono ?_); rintro e wz ⟨rfl, hbz⟩)
         exact hK.out _ _ ⟨hB.go hbz, rfl, hbz.size, .inl hbz, fun h => absurd h (by decide)⟩
       refine Stps2.cons (o := _) ?_ ?_
       · intro ac yw hsz hold hB hp K hK
         have t3 : ac.tmps[3]? = some (.pointer (some ⟨w.heap.size + 1, 0, none⟩)) := hold 3 (by kernel_rfl)
         clear hold hp hsz
         rw [if_pos (by rfl)]
         refine ld8 3 rfl (w.heap.size + 1) ((arrC ch2 ((r2 : Int) - 1) (dm S2 r2) na2 nn2 nc2 ta2 tn2 tc2)) t3 ((BB.out.go hB.below).now.2.1) (rfl) ?_
         exact hK.out _ _ ⟨hB, rfl, Nat.le_refl _, .inl (Below.refl _ _), fun h => absurd h (by decide)⟩
       refine Stps2.cons (o := _) ?_ ?_
       · intro ac yw hsz hold hB hp K hK
         have e2 := hp 2 (by decide)
         have t12 : ac.tmps[12]? = some (.agg (arrC ch2 ((r2 : Int) - 1) (dm S2 r2) na2 nn2 nc2 ta2 tn2 tc2)) := (List.cons.inj e2).1
         clear hold hp hsz e2
         go_simp
         (go_at_call 58; (with_reducible refine (IC2.out _).mono ?_); rintro e wz ⟨rfl, hbz⟩)
         exact hK.out _ _ ⟨hB.go hbz, rfl, hbz.size, .inl hbz, fun h => absurd h (by decide)⟩
       refine Stps2.cons (o := _) ?_ ?_
       · intro ac yw hsz hold hB hp K hK
         have e1 := hp 1 (by decide)
         have t11 : ac.tmps[11]? = some (.bool ch1) := (List.cons.inj e1).1
         have e3 := hp 3 (by decide)
         have t13 : ac.tmps[13]? = some (.bool ch2) := (List.cons.inj e3).1
         clear hold hp hsz e1 e3
         go_simp
         exact hK.out _ _ ⟨hB, rfl, Nat.le_refl _, .inl (Below.refl _ _), fun h => absurd h (by decide)⟩
       refine Stps2.cons (o := _) ?_ ?_
       · intro ac yw hsz hold hB hp K hK
         have e4 := hp 4 (by decide)
         have t14 : ac.tmps[14]? = some (.bool false) := (List.cons.inj e4).1
         clear hold hp hsz e4
         go_simp
         exact hK.out _ _ ⟨hB, rfl, Nat.le_refl _, .inl (Below.refl _ _), fun h => absurd h (by decide)⟩
       exact Stps2.nil _
end Go.Proofs.YtdlccnmhcggjiaaGreatDoor
