/-
  Texts of this seat, laid together.
-/
import Derived.Lib.ItoaNum
import Derived.IntWalk
import Derived.Test.YtkljpofljkgkdaaGreatDoorShelf
import Derived.Deep.MidRow
import Derived.BigRegion
import Derived.RegionTactic
import Derived.Deep.RegionWith
import Derived.Deep.RegionHeld3
import Derived.Deep.DrawnRows
import Derived.Laws.BitsLemmas
import Derived.Laws.BytesArg
import Derived.WalkKit
import Derived.WalkSpells
import Derived.Deep.Draws
import Derived.Lib.Hide
import Derived.Lib.TrimByte
import Derived.WalkLawsBesides
import Derived.Laws.CopyOwn
import Derived.Deep.QuietTactic
import Derived.BigQuiet
import Derived.StillTailTactics
import Derived.Test.YtkljpofljkgkdaaGreatDoorRows
import Derived.Lib.SliceRun
import Derived.Lib.Walk
import Derived.Deep.AppendLies
import Derived.Deep.RegionLaw
import Derived.Lib.AppendZeros
import Derived.Laws.AppendOwnNone
import Derived.Below
import Derived.Laws.StructEq
import Derived.Shelf.Abstract
import Derived.ChangeKeysEq
import Derived.Laws.EntriesVeiled
import Derived.Test.YtkljpofljkgkdaaGreatDoorQ1
import Derived.Test.YtkljpofljkgkdaaGreatDoorQ2
import Derived.Test.YtkljpofljkgkdaaGreatDoorQ3
import Derived.Test.YtkljpofljkgkdaaGreatDoorQ4
import Derived.Test.YtkljpofljkgkdaaGreatDoorQ5
import Derived.Test.YtkljpofljkgkdaaGreatDoorQ6
import Derived.Test.YtkljpofljkgkdaaGreatDoorQ7
import Derived.Test.YtkljpofljkgkdaaGreatDoorQ8
import Derived.Test.YtkljpofljkgkdaaGreatDoorQ9

namespace Go.Proofs.YtkljpofljkgkdaaGreatDoor
open Go.RowKit
/-- Two indexes at one place are the same. -/
theorem plc_inj {f g g' : Nat → Int} : ∀ {n : Nat}, inB f g n = true → inB f g' n = true → plc f g n = plc f g' n → ∀ j, j < n → g j = g' j := by
  intro n
  induction n with
  | zero => intro _ _ _ j hj; omega
  | succ n ih =>
    intro h1 h2 h3
    have b1 := inB_at h1 (show n < n + 1 by omega)
    have b2 := inB_at h2 (show n < n + 1 by omega)
    have e1 : plc f g n * f n + g n = plc f g' n * f n + g' n := h3
    have hm : g n = g' n := by
      have m1 : (plc f g n * f n + g n) % f n = g n := by rw [Int.add_comm, Int.add_mul_emod_self_right]; exact Int.emod_eq_of_lt b1.1 b1.2
      have m2 : (plc f g' n * f n + g' n) % f n = g' n := by rw [Int.add_comm, Int.add_mul_emod_self_right]; exact Int.emod_eq_of_lt b2.1 b2.2
      rw [e1, m2] at m1
      exact m1.symm
    have hp : plc f g n = plc f g' n := by
      rw [hm] at e1
      exact Int.eq_of_mul_eq_mul_right (show f n ≠ 0 by omega) (by omega)
    intro j hj
    by_cases e : j = n
    · subst e; exact hm
    · exact ih (inB_le (by omega) h1) (inB_le (by omega) h2) hp j (by omega)
end Go.Proofs.YtkljpofljkgkdaaGreatDoor

namespace Go.Proofs.YtkljpofljkgkdaaGreatDoor
open Go.RowKit
/-- Is every number an index? -/
theorem inB_of {f g : Nat → Int} : ∀ {n : Nat}, (∀ j, j < n → 0 ≤ g j ∧ g j < f j) → inB f g n = true
  | 0, _ => rfl
  | n + 1, h => by
    have h1 := h n (by omega)
    show (inB f g n && (decide (0 ≤ g n) && decide (g n < f n))) = true
    rw [inB_of (fun j hj => h j (by omega)), decide_eq_true h1.1, decide_eq_true h1.2]; rfl
/-- The numbers of a place, told of the place alone. -/
theorem dgs_plc {f g : Nat → Int} {n : Nat} (h : ∀ j, j < n → 0 ≤ g j ∧ g j < f j) {j : Nat} (hj : j < n) : dgs f n (plc f g n) j = g j := by
  obtain ⟨h1, h2⟩ := plc_lt h
  obtain ⟨h3, h4⟩ := dgs_in (f := f) (n := n) (r := plc f g n) (fun j hj => by have := h j hj; omega) h1 h2
  exact plc_inj h3 (inB_of h) h4 j hj
/-- Turned round and back. -/
theorem round_back {i t u n : Int} (h0 : 0 ≤ i) (hi : i < n) (hz : t + u = 0) : ((i + t % n) % n + u % n) % n = i := by
  rw [Int.emod_add_emod, Int.add_emod_emod, show i + t % n + u = t % n + (i + u) by omega, Int.emod_add_emod, show t + (i + u) = i by omega, Int.emod_eq_of_lt h0 hi]
end Go.Proofs.YtkljpofljkgkdaaGreatDoor

namespace Go.Proofs.YtkljpofljkgkdaaGreatDoor
open Go.RowKit
attribute [local go_sem ↓] Go.wp_at_zero Go.wp_at_succ
theorem ent_rev1 : Enters Tryz.prog 54 := enters_of Tryz.func54 (by kernel_rfl) rfl
set_option maxHeartbeats 400000 in
set_option maxRecDepth 100000 in
theorem rev1_any (R N g0 : Nat) (w : World) (hN : N ≤ 1000000) (h : w.cell? ⟨g0, 0, none⟩ = some (.int .i64 ((N : Int) - 1))) (hg : g0 < w.heap.size) : Gives2 54 #[.pointer (some ⟨g0, 0, none⟩)] (fun _ i => (N : Int) - 1 - i) R N w := by
  intro wz hz row i _ hi
  show Calls Tryz.prog 54 #[.int .i64 (row : Nat), .int .i64 (i : Nat), .pointer (some ⟨g0, 0, none⟩)] wz _
  have hc := (hz.cell (p := ⟨g0, 0, none⟩) hg).trans h
  have hw := IntWalk.i64_in ((N : Int) - 1 - i) (by omega)
  have HE : Hid (Below wz.heap.size wz wz) := Below.refl _ _
  clear h hz
  go_enter Tryz.func54, Tryz.ntmps54
  go_wp2
  go_ret
  exact ⟨rfl, HE.out⟩
end Go.Proofs.YtkljpofljkgkdaaGreatDoor

namespace Go.Proofs.YtkljpofljkgkdaaGreatDoor
open Go.RowKit
/-- The error of an axis that there is none of. -/
def rvE (r : Nat) (i : Int) : Int := if stB r i then 0 else if axQ r i then 0 else 23
def revF (n : Int) : Nat → Nat → Int := fun _ i => n - 1 - i
set_option linter.unusedSimpArgs false in
set_option maxHeartbeats 3200000 in
set_option maxRecDepth 100000 in
theorem moReverse_any (cs : Array Value) (S : Nat → Int) (r : Nat) (ch : Bool) (L : Nat) (g fP : Nat → Int) (fQ : Nat → Nat) (i : Int) (w : World) (h : Arr w cs S r ch L g fP fQ) (hS : In64 S r) (hsh : shB S r = true) (hL : itm S r = (L : Nat)) :
    Calls Tryz.prog 20 #[.agg cs, .int .i64 i] w fun e w' => MoTold (rvE r i) S r ch L (fun j => elC L g 32 (rvG S r i (revF (S (axI r i).toNat)) j)) (fun j => elP L fP (rvG S r i (revF (S (axI r i).toNat)) j)) (fun j => elQ L fQ (rvG S r i (revF (S (axI r i).toNat)) j)) w w' e := by
  obtain ⟨na, nn, nc, ta, tn, tc, hcs, _⟩ := h.form
  subst hcs
  obtain ⟨h8, hax⟩ := sh_ax hsh
  have H := Lib.hid h
  have ST := Lib.hid (fun wz h => still_any (arrC ch ((r : Int) - 1) (dm S r) na nn nc ta tn tc) S r ch L g fP fQ i wz h h8)
  have BB := Lib.hid (((Bag.start w).newRow (arrC ch ((r : Int) - 1) (dm S r) na nn nc ta tn tc) 34).newRow zerC 34)
  simp only [World.size_alloc] at BB
  have HR1 := Lib.hid BB.out.now.2.1
  unfold rvE
  cases hst : stB r i with
  | true =>
    have HSELF : Hid (∀ wz, Below w.heap.size w wz → Arr wz (arrC ch ((r : Int) - 1) (dm S r) na nn nc ta tn tc) S r ch L (fun j => elC L g 32 (rvG S r i (revF (S (axI r i).toNat)) j)) (fun j => elP L fP (rvG S r i (revF (S (axI r i).toNat)) j)) (fun j => elQ L fQ (rvG S r i (revF (S (axI r i).toNat)) j))) := Lib.hid (fun wz hb => (H.out.below hb).self (fun j _ => by unfold rvG; rw [hst, if_pos rfl]))
    rw [if_pos rfl]
    rw [hst] at ST
    generalize (fun j => elC L g 32 (rvG S r i (revF (S (axI r i).toNat)) j)) = eC at *
    generalize (fun j => elP L fP (rvG S r i (revF (S (axI r i).toNat)) j)) = eP at *
    generalize (fun j => elQ L fQ (rvG S r i (revF (S (axI r i).toNat)) j)) = eQ at *
    clear h hS hsh hL hax hst
    unfold arrC
    go_enter Tryz.func20, Tryz.ntmps20
    go_wp2_with (refine ld_arr rfl (.tmp 2) rfl w.heap.size rfl HR1.out ?_)
    go_at_call 52
    (with_reducible refine (ST.out _ ?_).mono ?_)
    · exact H.out.below BB.out.below
    rintro e w2 ⟨rfl, hb2⟩
    have BB := Lib.hid (BB.out.go hb2)
    have HR2 := Lib.hid BB.out.now.2.1
    have HZ := Lib.hid BB.out.now.1
    have HE := Lib.hid (MoTold.yes ((HSELF.out _ BB.out.below).put HZ.out (arrC ch ((r : Int) - 1) (dm S r) na nn nc ta tn tc)) (below_put BB.out.below (show w.heap.size ≤ w.heap.size + 1 by omega) (arrC ch ((r : Int) - 1) (dm S r) na nn nc ta tn tc)))
    clear hb2
    go_wp2_with (first
      | (refine ld_arr rfl (.tmp 2) rfl w.heap.size rfl HR2.out ?_)
      | (refine st_arr rfl (.tmp 4) (.tmp 11) rfl (w.heap.size + 1) rfl _ _ _ _ _ _ _ _ _ rfl HZ.out rfl ?_))
    exact bodyPost_ret (res_arr2 Tryz.results20 rfl rfl (HZ.out.put _) rfl) rfl HE.out
  | false =>
    rw [if_neg (by decide)]
    rw [hst] at ST
    have AX := Lib.hid (fun wz h => moAxis_any (arrC ch ((r : Int) - 1) (dm S r) na nn nc ta tn tc) S r ch L g fP fQ i wz h h8)
    cases hq : axQ r i with
    | false =>
      rw [if_neg (by decide)]
      rw [hq] at AX
      generalize axI r i = x at *
      clear h hS hsh hL hax hst hq
      unfold arrC
      go_enter Tryz.func20, Tryz.ntmps20
      go_wp2_with (refine ld_arr rfl (.tmp 2) rfl w.heap.size rfl HR1.out ?_)
      go_at_call 52
      (with_reducible refine (ST.out _ ?_).mono ?_)
      · exact H.out.below BB.out.below
      rintro e w2 ⟨rfl, hb2⟩
      have BB := Lib.hid (BB.out.go hb2)
      have HR2 := Lib.hid BB.out.now.2.1
      clear hb2
      go_wp2_with (refine ld_arr rfl (.tmp 2) rfl w.heap.size rfl HR2.out ?_)
      go_at_call 10
      (with_reducible refine (AX.out _ ?_).mono ?_)
      · exact H.out.below BB.out.below
      rintro e w3 ⟨rfl, hb3⟩
      have BB := Lib.hid (BB.out.go hb3)
      have HZ := Lib.hid BB.out.now.1
      have HE := Lib.hid (fun S r ch L g fP fQ => MoTold.no (E := 23) (by decide) (S := S) (r := r) (ch := ch) (L := L) (g := g) (fP := fP) (fQ := fQ) (below_put BB.out.below (show w.heap.size ≤ w.heap.size + 1 by omega) zerC))
      clear hb3
      go_wp2_with (refine st_arr rfl (.tmp 4) (.tmp 20) rfl (w.heap.size + 1) rfl false 0 (fun _ => 0) none 0 0 none 0 0 rfl HZ.out rfl ?_)
      exact bodyPost_ret (res_arr2 Tryz.results20 rfl rfl (HZ.out.put _) rfl) rfl (HE.out _ _ _ _ _ _ _)
    | true =>
      rw [if_pos rfl]
      rw [hq] at AX
      obtain ⟨k, hk, hkr⟩ := axQ_yes hq
      have hrv : rvG S r i (revF (S (axI r i).toNat)) = alG S r k (revF (S k)) := by
        funext j
        unfold rvG
        rw [hst, if_neg (by decide), hk]
        rfl
      rw [hrv]
      rw [hk] at AX
      have hsk0 := ax_nn hax hkr
      have hsk : S k ≤ 4096 := by
        have h1 := ax_bd (ax_le (show k + 1 ≤ r by omega) hax)
        have h2 := rm_pos S k
        have h3 : 1 * max (S k) 1 ≤ rm S k * max (S k) 1 := Int.mul_le_mul h2 (Int.le_refl _) (by omega) (by omega)
        have h4 : rm S (k + 1) = rm S k * max (S k) 1 := rfl
        omega
      obtain ⟨N, hN⟩ : ∃ N : Nat, S k = N := ⟨(S k).toNat, by omega⟩
      have SH := Lib.hid (fun wz h => shape8_any (arrC ch ((r : Int) - 1) (dm S r) na nn nc ta tn tc) S r ch L g fP fQ wz h h8)
      have ENR := Lib.hid ent_rev1
      have AL := Lib.hid (fun cp wz (q : Arr wz (arrC ch ((r : Int) - 1) (dm S r) na nn nc ta tn tc) S r ch L g fP fQ) z => along_any 54 cp ENR.out (arrC ch ((r : Int) - 1) (dm S r) na nn nc ta tn tc) S r ch L g fP fQ k L (revF (S k)) wz q hS hsh hL hkr (fun row i _ hi => by unfold revF; omega) z)
      have HG2 : Hid (∀ wz g0, wz.cell? ⟨g0, 0, none⟩ = some (.int .i64 ((N : Int) - 1)) → g0 < wz.heap.size → Gives2 54 #[.pointer (some ⟨g0, 0, none⟩)] (revF (S k)) (itm (outF S k) (r - 1)).toNat (S k).toNat wz) := Lib.hid (fun wz g0 h1 h2 => by
        have := rev1_any (itm (outF S k) (r - 1)).toNat N g0 wz (by omega) h1 h2
        rw [show (S k).toNat = N by omega, hN]
        exact this)
      have HSK : Hid (S k = (N : Int)) := hN
      have w1 := IntWalk.i64_in ((N : Int) - 1) (by omega)
      have d0 : (0 : Int) ≤ k := by omega
      have d1 : (k : Int) < r := by omega
      generalize (fun j => elC L g 32 (alG S r k (revF (S k)) j)) = eC at *
      generalize (fun j => elP L fP (alG S r k (revF (S k)) j)) = eP at *
      generalize (fun j => elQ L fQ (alG S r k (revF (S k)) j)) = eQ at *
      clear h hS hsh hL hax hst hq hrv hk hsk0 hsk hN ENR
      unfold arrC
      go_enter Tryz.func20, Tryz.ntmps20
      go_wp2_with (refine ld_arr rfl (.tmp 2) rfl w.heap.size rfl HR1.out ?_)
      go_at_call 52
      (with_reducible refine (ST.out _ ?_).mono ?_)
      · exact H.out.below BB.out.below
      rintro e w2 ⟨rfl, hb2⟩
      have BB := Lib.hid (BB.out.go hb2)
      have HR2 := Lib.hid BB.out.now.2.1
      clear hb2
      go_wp2_with (refine ld_arr rfl (.tmp 2) rfl w.heap.size rfl HR2.out ?_)
      go_at_call 10
      (with_reducible refine (AX.out _ ?_).mono ?_)
      · exact H.out.below BB.out.below
      rintro e w3 ⟨rfl, hb3⟩
      have BB := Lib.hid (BB.out.go hb3)
      have HR3 := Lib.hid BB.out.now.2.1
      clear hb3
      go_wp2_with (refine ld_arr rfl (.tmp 2) rfl w.heap.size rfl HR3.out ?_)
      go_at_call 38
      (with_reducible refine (SH.out _ ?_).mono ?_)
      · exact H.out.below BB.out.below
      rintro e w4 ⟨a4, c4, rfl, hk4, hb4⟩
      obtain ⟨b, off, rfl, hlt, hcl⟩ := hk4.get hkr
      rw [HSK.out] at hcl
      have BB := Lib.hid ((BB.out.go hb4).newRow #[.int .i64 ((N : Int) - 1)] 3)
      have HR4 := Lib.hid BB.out.now.2.2.1
      clear hb4 hk4
      go_wp2_with (refine ld_arr rfl (.tmp 2) rfl w.heap.size rfl HR4.out ?_)
      go_at_call 53
      (refine (AL.out _ _ (H.out.below BB.out.below) (HG2.out _ _ (BB.out.now.1.cell 0) BB.out.now.1.lt)).mono ?_)
      rintro e w5 ⟨cs5, rfl, hcs5, hb5⟩
      have B5 := BB.out.go hb5
      have HZ := Lib.hid B5.now.2.1
      have HE := Lib.hid (MoTold.yes (hcs5.put HZ.out cs5) (below_put B5.below (show w.heap.size ≤ w.heap.size + 1 by omega) cs5))
      obtain ⟨na3, nn3, nc3, ta3, tn3, tc3, hcs3, _⟩ := hcs5.form
      subst hcs3
      clear hcs5 hb5 B5
      unfold arrC
      go_wp2_with (refine st_arr rfl (.tmp 4) (.tmp 30) rfl (w.heap.size + 1) rfl _ _ _ _ _ _ _ _ _ rfl HZ.out rfl ?_)
      exact bodyPost_ret (res_arr2 Tryz.results20 rfl rfl (HZ.out.put _) rfl) rfl HE.out
end Go.Proofs.YtkljpofljkgkdaaGreatDoor

namespace Go.Proofs.YtkljpofljkgkdaaGreatDoor
open Go.RowKit
/-- The axes in the other order. -/
def rvT (r : Nat) : Nat → Int := fun j => (r : Int) - 1 - j
theorem rvT_cn : ∀ (r n : Nat), n ≤ r → 0 < n → cnN (rvT r) n = (r : Int)
  | r, 0, _, h => absurd h (Nat.not_lt_zero _)
  | r, n + 1, h, _ => by
    show max (cnN (rvT r) n) (rvT r n + 1) = (r : Int)
    rcases Nat.eq_zero_or_pos n with h0 | h0
    · subst h0
      show max 0 ((r : Int) - 1 - ((0 : Nat) : Int) + 1) = (r : Int)
      omega
    · rw [rvT_cn r n (by omega) h0]
      show max (r : Int) ((r : Int) - 1 - n + 1) = (r : Int)
      omega
theorem rvT_count (r : Nat) : cnN (rvT r) r = (r : Int) := by
  rcases Nat.eq_zero_or_pos r with h | h
  · subst h; rfl
  · exact rvT_cn r r (Nat.le_refl _) h
theorem rvT_shape {S : Nat → Int} {r : Nat} (hsh : shB S r = true) : shB (mnF S (rvT r) r) r = true :=
  moved_shape hsh (fun x hx => ⟨r - 1 - x, by omega, by show (r : Int) - 1 - ((r - 1 - x : Nat) : Int) = x; omega⟩)
set_option linter.unusedSimpArgs false in
set_option maxHeartbeats 3200000 in
set_option maxRecDepth 100000 in
theorem transpose_any (cs : Array Value) (S : Nat → Int) (r : Nat) (ch : Bool) (L : Nat) (g fP : Nat → Int) (fQ : Nat → Nat) (M : Nat) (w : World) (h : Arr w cs S r ch L g fP fQ) (hS : In64 S r) (hsh : shB S r = true) (hM : itm (mnF S (rvT r) r) r = (M : Nat)) :
    Calls Tryz.prog 26 #[.agg cs] w fun e w' => ∃ cs', e = .returned (.agg cs') ∧ Arr w' cs' (mnF S (rvT r) r) r ch M (fun j => elC L g 32 (mvG S (rvT r) r r j)) (fun j => elP L fP (mvG S (rvT r) r r j)) (fun j => elQ L fQ (mvG S (rvT r) r r j)) ∧ Below w.heap.size w w' := by
  obtain ⟨na, nn, nc, ta, tn, tc, hcs, _⟩ := h.form
  subst hcs
  obtain ⟨h8, hax⟩ := sh_ax hsh
  obtain ⟨i0, hi, hz0, hz1, hz2⟩ := info_parts infoI
  have hmk := fun wz => run_make (P := Tryz.prog) wz 22 3 i0 _ Tryz.underlying22 hi hz0 .i64 .i64 r r (by omega) (by omega) (by rw [hz2]; omega) (by omega)
  simp only [Int.toNat_natCast, hz1, Nat.mul_one] at hmk
  have H := Lib.hid h
  have RK := Lib.hid (fun wz h => rank8_any (arrC ch ((r : Int) - 1) (dm S r) na nn nc ta tn tc) S r ch L g fP fQ wz h (by omega))
  have MV := Lib.hid (fun aT cT wz (q : Arr wz (arrC ch ((r : Int) - 1) (dm S r) na nn nc ta tn tc) S r ch L g fP fQ) z => moved_any (arrC ch ((r : Int) - 1) (dm S r) na nn nc ta tn tc) S r ch L g fP fQ aT cT (rvT r) r M wz q hS hsh z (fun j hj => by show 0 ≤ (r : Int) - 1 - j ∧ (r : Int) - 1 - j < r; omega) (rvT_count r) (rvT_shape hsh) hM)
  have BB := Lib.hid (((Bag.start w).newRow (arrC ch ((r : Int) - 1) (dm S r) na nn nc ta tn tc) 34).newRow zerC 34)
  simp only [World.size_alloc] at BB
  have HR1 := Lib.hid BB.out.now.2.1
  have w0 := IntWalk.i64_in ((r : Int) - 1) (by omega)
  generalize (fun j => elC L g 32 (mvG S (rvT r) r r j)) = eC at *
  generalize (fun j => elP L fP (mvG S (rvT r) r r j)) = eP at *
  generalize (fun j => elQ L fQ (mvG S (rvT r) r r j)) = eQ at *
  clear h hS hsh hM hax hi hz0 hz1 hz2
  unfold arrC
  go_enter Tryz.func26, Tryz.ntmps26
  go_wp2_with (refine ld_arr rfl (.tmp 1) rfl w.heap.size rfl HR1.out ?_)
  go_at_call 33
  (with_reducible refine (RK.out _ ?_).mono ?_)
  · exact H.out.below BB.out.below
  rintro e w2 ⟨rfl, hb2⟩
  have BB := Lib.hid (BB.out.go hb2)
  have hs2 := BB.out.below.size
  have B3 := BB.out.alloc (.cells (madeCells (Value.cells (.int .i64 0)) r) 3)
  have KT := KTo.made w2 r 3 (rvT r) rfl
  have HR3 := Lib.hid B3.now.2.1
  have hlt1 := BB.out.now.1.lt
  have hlt2 := BB.out.now.2.1.lt
  have H0 : Hid (Below w.heap.size w (w2.alloc (.cells (madeCells (Value.cells (.int .i64 0)) r) 3)) ∧ Row (w2.alloc (.cells (madeCells (Value.cells (.int .i64 0)) r) 3)) w.heap.size 34 (arrC ch ((r : Int) - 1) (dm S r) na nn nc ta tn tc) ∧ Row (w2.alloc (.cells (madeCells (Value.cells (.int .i64 0)) r) 3)) (w.heap.size + 1) 34 zerC ∧ KTo (w2.alloc (.cells (madeCells (Value.cells (.int .i64 0)) r) 3)) w2.heap.size r 0 (rvT r)) :=
    Lib.hid ⟨B3.below, B3.now.2.1, B3.now.1, KT⟩
  clear hb2 B3 KT
  go_wp2_with (refine ld_arr rfl (.tmp 1) rfl w.heap.size rfl HR3.out ?_)
  go_at_call 33
  (with_reducible refine (RK.out _ ?_).mono ?_)
  · exact H.out.below H0.out.1
  rintro e w3 ⟨rfl, hb3⟩
  have H1 : Hid (Below w.heap.size w w3 ∧ Row w3 w.heap.size 34 (arrC ch ((r : Int) - 1) (dm S r) na nn nc ta tn tc) ∧ Row w3 (w.heap.size + 1) 34 zerC ∧ KTo w3 w2.heap.size r 0 (rvT r)) :=
    Lib.hid ⟨H0.out.1.trans (hb3.mono H0.out.1.size), H0.out.2.1.below hb3, H0.out.2.2.1.below hb3, H0.out.2.2.2.below hb3⟩
  clear hb3 H0
  go_wp2_with fail
  go_loopw [10] (fun i wr => ∃ k : Nat, k ≤ r ∧ i = .int .i64 k ∧ Hid (Below w.heap.size w wr ∧ Row wr w.heap.size 34 (arrC ch ((r : Int) - 1) (dm S r) na nn nc ta tn tc) ∧ Row wr (w.heap.size + 1) 34 zerC ∧ KTo wr w2.heap.size r k (rvT r))) (fun i _ => r - (intOf i).toNat)
  case atStart => exact ⟨0, by omega, rfl, H1.out⟩
  case round =>
    obtain ⟨k, hk, rfl, hrel⟩ := hrel
    obtain ⟨hbl, hr0, hr1, hto⟩ := hrel.out
    by_cases hlt : k < r
    · have HBL := Lib.hid hbl
      have HR0 := Lib.hid hr0
      have HRZ := Lib.hid hr1
      have HTO := Lib.hid hto
      have hk0 : (0 : Int) ≤ k := by omega
      have hk1 : (k : Int) < r := by omega
      have w1 := IntWalk.i64_in ((r : Int) - 1 - k) (by omega)
      clear hrel hbl hr0 hr1 hto
      go_wp2_with (refine ld_arr rfl (.tmp 1) rfl w.heap.size rfl HR0.out ?_)
      go_at_call 33
      (with_reducible refine (RK.out _ ?_).mono ?_)
      · exact H.out.below HBL.out
      rintro e w4 ⟨rfl, hb4⟩
      have hto := HTO.out.below hb4
      obtain ⟨⟨z0, x1⟩, y1⟩ := hto.place hlt
      have HN : Hid (Below w.heap.size w (w4.setCell ⟨w2.heap.size, k, none⟩ (.int .i64 ((r : Int) - 1 - k))) ∧ Row (w4.setCell ⟨w2.heap.size, k, none⟩ (.int .i64 ((r : Int) - 1 - k))) w.heap.size 34 (arrC ch ((r : Int) - 1) (dm S r) na nn nc ta tn tc) ∧ Row (w4.setCell ⟨w2.heap.size, k, none⟩ (.int .i64 ((r : Int) - 1 - k))) (w.heap.size + 1) 34 zerC ∧ KTo (w4.setCell ⟨w2.heap.size, k, none⟩ (.int .i64 ((r : Int) - 1 - k))) w2.heap.size r (k + 1) (rvT r)) :=
        Lib.hid ⟨(HBL.out.trans (hb4.mono HBL.out.size)).setCell (p := ⟨w2.heap.size, k, none⟩) hs2 _, (HR0.out.below hb4).far (a := ⟨w2.heap.size, k, none⟩) (by show w.heap.size ≠ w2.heap.size; omega) _, (HRZ.out.below hb4).far (a := ⟨w2.heap.size, k, none⟩) (by show w.heap.size + 1 ≠ w2.heap.size; omega) _, hto.step hlt⟩
      clear hto hb4
      go_wp2
      go_roundw
      case rel => exact ⟨k + 1, by omega, by go_num, HN.out⟩
      case measure => simp [intOf]; omega
    · obtain rfl : k = r := by omega
      have HBL := Lib.hid hbl
      have HR0 := Lib.hid hr0
      have HRZ := Lib.hid hr1
      have HKT := Lib.hid (hto.done (by unfold maxLen; omega))
      clear hrel hbl hr0 hr1 hto
      go_wp2_with (refine ld_arr rfl (.tmp 1) rfl w.heap.size rfl HR0.out ?_)
      go_at_call 69
      (refine (MV.out _ _ _ (H.out.below HBL.out) HKT.out).mono ?_)
      rintro e w5 ⟨cs5, rfl, hcs5, hb5⟩
      have HZ := Lib.hid (HRZ.out.below hb5)
      have HE : Hid (Arr (w5.setRow (w.heap.size + 1) cs5) cs5 (mnF S (rvT k) k) k ch M eC eP eQ ∧ Below w.heap.size w (w5.setRow (w.heap.size + 1) cs5)) := Lib.hid ⟨hcs5.put HZ.out _, below_put (HBL.out.trans (hb5.mono HBL.out.size)) (by omega) _⟩
      obtain ⟨na3, nn3, nc3, ta3, tn3, tc3, hcs3, _⟩ := hcs5.form
      subst hcs3
      clear hcs5 hb5
      unfold arrC
      go_wp2_with (refine st_arr rfl (.tmp 2) (.tmp 24) rfl (w.heap.size + 1) rfl _ _ _ _ _ _ _ _ _ rfl HZ.out rfl ?_)
      exact bodyPost_ret (res_arr Tryz.results26 rfl (HZ.out.put _) rfl) rfl ⟨_, rfl, HE.out⟩
end Go.Proofs.YtkljpofljkgkdaaGreatDoor

namespace Go.Proofs.YtkljpofljkgkdaaGreatDoor
open Go.RowKit
theorem Good.pos {S : Nat → Int} {r : Nat} {ch : Bool} {L : Nat} {fB : Nat → Bool} {fS fT : Nat → ByteArray} (h : Good S r ch L fB fS fT) : ch = false → ∀ j, j < L → 0 < gQ fB fS fT j := fun e j hj => (h.small e j hj).1
end Go.Proofs.YtkljpofljkgkdaaGreatDoor

namespace Go.Proofs.YtkljpofljkgkdaaGreatDoor
open Go.RowKit
theorem ld8G {ops : Array Oper} {rest : List Oper} {o : Oper} {a : Act} {w : World} {Q : Exit → Act → World → Prop} (hw : Region.wanted o (yielded ops a.tmps) = true) (d : Nat) (ho : o.op = .load 34 (.tmp d)) (g : Nat) (cs : Array Value) (hx : a.eval (.tmp d) = .pointer (some ⟨g, 0, none⟩)) (hr : Row w g 34 cs) (hs : cs.size = 12)
    (h : wpList Tryz.prog ops Q rest (a.put o.dst (.agg cs)) w) : wpList Tryz.prog ops Q (o :: rest) a w := by
  show if Region.wanted o (yielded ops a.tmps) = true then _ else _
  rw [if_pos hw]
  exact Or.inl (wp_load_row 34 (.tmp d) ho g hx 34 cs (0, 0) _ hr Tryz.underlying34 rfl (by rw [arr12, hs]) h)
theorem ldPG {ops : Array Oper} {rest : List Oper} {o : Oper} {a : Act} {w : World} {Q : Exit → Act → World → Prop} (hw : Region.wanted o (yielded ops a.tmps) = true) (d : Nat) (ho : o.op = .load 26 (.tmp d)) (g : Nat) (cs : Array Value) (hx : a.eval (.tmp d) = .pointer (some ⟨g, 0, none⟩)) (hr : Row w g 26 cs) (hs : cs.size = 4)
    (h : wpList Tryz.prog ops Q rest (a.put o.dst (.agg cs)) w) : wpList Tryz.prog ops Q (o :: rest) a w := by
  show if Region.wanted o (yielded ops a.tmps) = true then _ else _
  rw [if_pos hw]
  exact Or.inl (wp_load_row 26 (.tmp d) ho g hx 26 cs (0, 0) _ hr Tryz.underlying26 rfl (by rw [pln4, hs]) h)
theorem dm_congr {f f' : Nat → Int} {n : Nat} (h : ∀ j, j < n → f j = f' j) : dm f n = dm f' n := by
  funext j
  unfold dm
  split
  · rename_i hj; exact h j hj
  · rfl
theorem Arr.shape {w : World} {cs : Array Value} {S S' : Nat → Int} {r : Nat} {ch : Bool} {L : Nat} {g fP : Nat → Int} {fQ : Nat → Nat} (h : Arr w cs S r ch L g fP fQ) (e : ∀ j, j < r → S j = S' j) : Arr w cs S' r ch L g fP fQ := by
  refine ⟨fun q => ?_, fun q => ?_⟩
  · obtain ⟨ta, tc, h1, h2⟩ := h.1 q
    exact ⟨ta, tc, by rw [h1, dm_congr e], h2⟩
  · obtain ⟨na, nc, h1, h2⟩ := h.2 q
    exact ⟨na, nc, by rw [h1, dm_congr e], h2⟩
theorem mnF_ge {f g : Nat → Int} {b : Int} {j : Nat} (hb : b ≤ 4096) : ∀ {n : Nat}, (∀ i, i < n → g i = (j : Int) → b ≤ f i) → b ≤ mnF f g n j
  | 0, _ => by unfold mnF; exact hb
  | n + 1, h => by
    have h1 := mnF_ge (f := f) (g := g) hb (n := n) (fun i hi => h i (by omega))
    unfold mnF
    split
    · rename_i e
      have := h n (by omega) e
      omega
    · exact h1
theorem dgs_congr {f f' : Nat → Int} : ∀ {n : Nat} (r : Int) (j : Nat), (∀ a, a < n → f a = f' a) → dgs f n r j = dgs f' n r j
  | 0, _, _, _ => rfl
  | n + 1, r, j, h => by
    show (if j = n then r % f n else dgs f n (r / f n) j) = if j = n then r % f' n else dgs f' n (r / f' n) j
    rw [h n (by omega), dgs_congr (r / f' n) j (fun a ha => h a (by omega))]
theorem ax_le4 {S : Nat → Int} {r j : Nat} (h : shB S r = true) (hj : j < r) : 0 ≤ S j ∧ S j ≤ 4096 := by
  obtain ⟨_, hax⟩ := sh_ax h
  have h1 := ax_bd (ax_le (show j + 1 ≤ r by omega) hax)
  have h2 := rm_pos S j
  have h3 : 1 * max (S j) 1 ≤ rm S j * max (S j) 1 := Int.mul_le_mul h2 (Int.le_refl _) (by omega) (by omega)
  have h4 : rm S (j + 1) = rm S j * max (S j) 1 := rfl
  have h5 := ax_nn hax hj
  omega
/-- The shape with its axes in the other order. -/
theorem rv_shape {S : Nat → Int} {r x : Nat} (h : shB S r = true) (hx : x < r) : mnF S (rvT r) r x = S (r - 1 - x) := by
  have h1 := mnF_le S (rvT r) (n := r) (i := r - 1 - x) (j := x) (by omega) (by show (r : Int) - 1 - ((r - 1 - x : Nat) : Int) = x; omega)
  have h2 := ax_le4 h (show r - 1 - x < r by omega)
  have h3 := mnF_ge (f := S) (g := rvT r) (b := S (r - 1 - x)) (j := x) (by omega) (n := r) (fun i hi e => by
    have e : (r : Int) - 1 - i = x := e
    obtain rfl : i = r - 1 - x := by omega
    exact Int.le_refl _)
  omega
theorem rv_twice {S : Nat → Int} {r x : Nat} (h : shB S r = true) (hx : x < r) : mnF (mnF S (rvT r) r) (rvT r) r x = S x := by
  rw [rv_shape (rvT_shape h) hx, rv_shape h (by omega), show r - 1 - (r - 1 - x) = x by omega]
/-- The axes' order turned twice. -/
theorem tt_back {S : Nat → Int} {r L : Nat} (h : shB S r = true) (hL : itm S r = (L : Nat)) {j : Nat} (hj : j < L) :
    0 ≤ mvG (mnF S (rvT r) r) (rvT r) r r j ∧ mvG (mnF S (rvT r) r) (rvT r) r r j < itm (mnF S (rvT r) r) r ∧ mvG S (rvT r) r r (mvG (mnF S (rvT r) r) (rvT r) r r j).toNat = (j : Int) := by
  obtain ⟨_, hax⟩ := sh_ax h
  have hp := itm_pos hax (show (0 : Int) ≤ (j : Nat) by omega) (show ((j : Nat) : Int) < itm S r by omega)
  obtain ⟨hd, hpl⟩ := dgs_bd (S := S) (r := r) (j := j) hp (by omega)
  have ht : ∀ a, a < r → (rvT r a).toNat = r - 1 - a := fun a ha => by show ((r : Int) - 1 - a).toNat = r - 1 - a; omega
  have e1 : mvG (mnF S (rvT r) r) (rvT r) r r j = plc (mnF S (rvT r) r) (fun a => dgs S r (j : Nat) (r - 1 - a)) r := by
    unfold mvG
    exact plc_congr (fun a ha => ⟨rfl, by rw [ht a ha, dgs_congr (f' := S) _ _ (fun b hb => rv_twice h hb)]⟩)
  have hin : ∀ a, a < r → 0 ≤ dgs S r (j : Nat) (r - 1 - a) ∧ dgs S r (j : Nat) (r - 1 - a) < mnF S (rvT r) r a := fun a ha => by
    rw [rv_shape h ha]
    exact hd _ (by omega)
  have hb := plc_lt hin
  rw [← e1] at hb
  refine ⟨hb.1, hb.2, ?_⟩
  have e2 : (((mvG (mnF S (rvT r) r) (rvT r) r r j).toNat : Nat) : Int) = plc (mnF S (rvT r) r) (fun a => dgs S r (j : Nat) (r - 1 - a)) r := by rw [← e1]; omega
  unfold mvG at e2 ⊢
  rw [e2]
  have e3 : plc S (fun ax => dgs (mnF S (rvT r) r) r (plc (mnF S (rvT r) r) (fun a => dgs S r (j : Nat) (r - 1 - a)) r) (rvT r ax).toNat) r = plc S (dgs S r (j : Nat)) r :=
    plc_congr (fun a ha => ⟨rfl, by rw [ht a ha, dgs_plc hin (by omega), show r - 1 - (r - 1 - a) = a by omega]⟩)
  rw [e3, hpl]
/-- Each row laid in another order, and laid back. -/
theorem al_back {S : Nat → Int} {r k j : Nat} {F F2 : Nat → Nat → Int} (hk : k < r) (h1 : ∀ a, a < r → 1 ≤ S a) (hj : (j : Int) < itm S r) (hF : ∀ row i : Nat, (i : Int) < S k → 0 ≤ F row i ∧ F row i < S k) (hB : ∀ row i : Nat, (i : Int) < S k → F2 row (F row i).toNat = (i : Int)) :
    0 ≤ alG S r k F j ∧ alG S r k F j < itm S r ∧ alG S r k F2 (alG S r k F j).toNat = (j : Int) := by
  obtain ⟨hd, hp⟩ := dgs_bd h1 hj
  have hik := hd k hk
  have hFi := hF (plc (outF S k) (outF (dgs S r (j : Nat)) k) (r - 1)).toNat (dgs S r (j : Nat) k).toNat (by omega)
  have hBi := hB (plc (outF S k) (outF (dgs S r (j : Nat)) k) (r - 1)).toNat (dgs S r (j : Nat) k).toNat (by omega)
  have e0 : alG S r k F j = plc S (wiF (dgs S r (j : Nat)) k (F (plc (outF S k) (outF (dgs S r (j : Nat)) k) (r - 1)).toNat (dgs S r (j : Nat) k).toNat)) r := rfl
  generalize F (plc (outF S k) (outF (dgs S r (j : Nat)) k) (r - 1)).toNat (dgs S r (j : Nat) k).toNat = x at *
  have hwi : ∀ a, a < r → 0 ≤ wiF (dgs S r (j : Nat)) k x a ∧ wiF (dgs S r (j : Nat)) k x a < S a := fun a ha => by
    unfold wiF
    split
    · rename_i e
      obtain rfl : a = k := by omega
      exact hFi
    · exact hd a ha
  have hb := plc_lt hwi
  rw [← e0] at hb
  refine ⟨hb.1, hb.2, ?_⟩
  obtain ⟨q, hq⟩ : ∃ q, (alG S r k F j).toNat = q := ⟨_, rfl⟩
  have e2 : ((q : Nat) : Int) = plc S (wiF (dgs S r (j : Nat)) k x) r := by rw [← hq, ← e0]; omega
  have e3 : ∀ a, a < r → dgs S r (plc S (wiF (dgs S r (j : Nat)) k x) r) a = wiF (dgs S r (j : Nat)) k x a := fun a ha => dgs_plc hwi ha
  have e4 : plc (outF S k) (outF (dgs S r (plc S (wiF (dgs S r (j : Nat)) k x) r)) k) (r - 1) = plc (outF S k) (outF (dgs S r (j : Nat)) k) (r - 1) := plc_congr (fun a ha => ⟨rfl, by
    unfold outF
    split
    · rw [e3 a (by omega)]; unfold wiF; rw [if_neg (by omega)]
    · rw [e3 (a + 1) (by omega)]; unfold wiF; rw [if_neg (by omega)]⟩)
  have e5 : dgs S r (plc S (wiF (dgs S r (j : Nat)) k x) r) k = x := by rw [e3 k hk]; unfold wiF; rw [if_pos rfl]
  have e6 : plc S (wiF (dgs S r (plc S (wiF (dgs S r (j : Nat)) k x) r)) (k : Nat) (((dgs S r (j : Nat) k).toNat : Nat) : Int)) r = plc S (dgs S r (j : Nat)) r := plc_congr (fun a ha => ⟨rfl, by
    unfold wiF
    split
    · rename_i e
      obtain rfl : a = k := by omega
      omega
    · rename_i e
      have := e3 a ha
      unfold wiF at this
      rw [this, if_neg e]⟩)
  rw [hq]
  show plc S (wiF (dgs S r (q : Nat)) k (F2 (plc (outF S k) (outF (dgs S r (q : Nat)) k) (r - 1)).toNat (dgs S r (q : Nat) k).toNat)) r = (j : Int)
  rw [e2, e4, e5, hBi, e6, hp]
theorem rev_back {n : Int} {i : Nat} (h : (i : Int) < n) : revF n 0 (revF n 0 i).toNat = (i : Int) := by
  show n - 1 - ((n - 1 - (i : Int)).toNat : Int) = i
  omega
theorem rot_back {N : Nat} {t u : Int} {row i : Nat} (hz : t + u = 0) (h : (i : Int) < (N : Int)) : rotF (fun _ => u) N row (rotF (fun _ => t) N row i).toNat = (i : Int) := by
  have h1 : 0 ≤ ((i : Int) + t % (N : Nat)) % (N : Nat) ∧ ((i : Int) + t % (N : Nat)) % (N : Nat) < N := rotF_in (fun _ => t) (N := N) (by omega) row i
  show ((((((i : Int) + t % (N : Nat)) % (N : Nat)).toNat : Nat) : Int) + u % (N : Nat)) % (N : Nat) = i
  rw [show (((((i : Int) + t % (N : Nat)) % (N : Nat)).toNat : Nat) : Int) = ((i : Int) + t % (N : Nat)) % (N : Nat) by omega]
  exact round_back (by omega) h hz
/-- What is picked at places, and picked again so that each place leads back, is as it was. -/
theorem Arr.back {w : World} {cs : Array Value} {S : Nat → Int} {r : Nat} {ch : Bool} {L M : Nat} {g fP : Nat → Int} {fQ : Nat → Nat} {G1 G2 : Nat → Int} (h : Arr w cs S r ch L (fun j => elC M (fun j => elC L g 32 (G1 j)) 32 (G2 j)) (fun j => elP M (fun j => elP L fP (G1 j)) (G2 j)) (fun j => elQ M (fun j => elQ L fQ (G1 j)) (G2 j)))
    (hG : ∀ j, j < L → 0 ≤ G2 j ∧ G2 j < (M : Int) ∧ G1 (G2 j).toNat = (j : Int)) : Arr w cs S r ch L g fP fQ := by
  refine h.on (fun j hj => ?_) (fun j hj => ?_) (fun j hj => ?_) <;> obtain ⟨h1, h2, h3⟩ := hG j hj
  · show elC M _ 32 (G2 j) = g j
    unfold elC
    rw [if_pos ⟨h1, h2⟩]
    show (if 0 ≤ G1 (G2 j).toNat ∧ G1 (G2 j).toNat < L then _ else _) = _
    rw [h3, if_pos ⟨by omega, by omega⟩]
    rfl
  · show elP M _ (G2 j) = fP j
    unfold elP
    rw [if_pos ⟨h1, h2⟩]
    show (if 0 ≤ G1 (G2 j).toNat ∧ G1 (G2 j).toNat < L then _ else _) = _
    rw [h3, if_pos ⟨by omega, by omega⟩]
    rfl
  · show elQ M _ (G2 j) = fQ j
    unfold elQ
    rw [if_pos ⟨h1, h2⟩]
    show (if 0 ≤ G1 (G2 j).toNat ∧ G1 (G2 j).toNat < L then _ else _) = _
    rw [h3, if_pos ⟨by omega, by omega⟩]
    rfl
/-- The last axis, or none. -/
theorem last_axis (r : Nat) : (r = 0 ∧ stB r (-1) = true) ∨ (0 < r ∧ stB r (-1) = false ∧ axI r (-1) = ((r - 1 : Nat) : Int) ∧ axQ r (-1) = true) := by
  rcases Nat.eq_zero_or_pos r with h | h
  · subst h; exact .inl ⟨rfl, rfl⟩
  · refine .inr ⟨h, ?_, ?_, ?_⟩
    · unfold stB; rw [decide_eq_false (by omega)]; rfl
    · unfold axI; rw [if_pos (by decide)]; omega
    · unfold axQ axI; rw [if_pos (by decide), decide_eq_true (by omega), decide_eq_true (by omega)]; rfl
theorem rv_back {S : Nat → Int} {r L : Nat} (h : shB S r = true) (hL : itm S r = (L : Nat)) {F F2 : Nat → Nat → Int} (hF : ∀ row i : Nat, (i : Int) < S (r - 1) → 0 ≤ F row i ∧ F row i < S (r - 1)) (hB : ∀ row i : Nat, (i : Int) < S (r - 1) → F2 row (F row i).toNat = (i : Int)) {j : Nat} (hj : j < L) :
    0 ≤ rvG S r (-1) F j ∧ rvG S r (-1) F j < (L : Int) ∧ rvG S r (-1) F2 (rvG S r (-1) F j).toNat = (j : Int) := by
  unfold rvG
  rcases last_axis r with ⟨_, h2⟩ | ⟨h1, h2, h3, _⟩
  · rw [h2, if_pos rfl, if_pos rfl]
    omega
  · rw [h2, if_neg (by decide), if_neg (by decide), h3, Int.toNat_natCast, ← hL]
    obtain ⟨_, hax⟩ := sh_ax h
    have hp := itm_pos hax (show (0 : Int) ≤ (j : Nat) by omega) (show ((j : Nat) : Int) < itm S r by omega)
    exact al_back (by omega) hp (by omega) hF hB
end Go.Proofs.YtkljpofljkgkdaaGreatDoor
