/-
  Texts of this seat, laid together.
-/
import Derived.WalkKit
import Derived.WalkSpells
import Derived.Deep.Draws
import Derived.Lib.Hide
import Derived.Lib.TrimByte
import Derived.WalkLawsBesides
import Derived.Laws.CopyOwn
import Derived.Deep.QuietTactic
import Derived.BigQuiet
import Derived.BigRegion
import Derived.RegionTactic
import Derived.Deep.RegionWith
import Derived.StillTailTactics
import Derived.IntWalk
import Derived.Test.YtpmcbnliogjknaaGreatDoorRows
import Derived.Lib.SliceRun
import Derived.Lib.Walk
import Derived.Deep.AppendLies
import Derived.Deep.RegionLaw
import Derived.Test.YtpmcbnliogjknaaGreatDoorShelf
import Derived.Lib.ItoaNum
import Derived.Deep.RegionHeld3
import Derived.Deep.DrawnRows
import Derived.Laws.BitsLemmas
import Derived.Laws.BytesArg
import Derived.Deep.MidRow
import Derived.Laws.StructEq
import Derived.ChangeKeysEq
import Derived.Below
import Derived.Lib.AppendZeros
import Derived.Laws.AppendOwnNone
import Derived.Shelf.Abstract
import Derived.Laws.EntriesVeiled
import Derived.Laws.OwnMore
import Derived.ProofKit
import Derived.Carry
import Derived.Deep.Grids
import Derived.Test.YtpmcbnliogjknaaGreatDoorQ1
import Derived.Test.YtpmcbnliogjknaaGreatDoorQ2
import Derived.Test.YtpmcbnliogjknaaGreatDoorQ3
import Derived.Test.YtpmcbnliogjknaaGreatDoorQ4
import Derived.Test.YtpmcbnliogjknaaGreatDoorQ5
import Derived.Test.YtpmcbnliogjknaaGreatDoorQ6
import Derived.Test.YtpmcbnliogjknaaGreatDoorQ7
import Derived.Test.YtpmcbnliogjknaaGreatDoorQ8
import Derived.Test.YtpmcbnliogjknaaGreatDoorQ9
import Derived.Test.YtpmcbnliogjknaaGreatDoorQ10

namespace Go.Proofs.YtpmcbnliogjknaaGreatDoor
open Go.RowKit
set_option maxHeartbeats 1600000 in
set_option maxRecDepth 100000 in
theorem whole6_any (cs : Array Value) (f : Nat → Int) (r n : Nat) (fP : Nat → Int) (fQ : Nat → Nat) (w : World) (h : NumArr w cs f r n fP fQ) (hQ : ∀ j, j < n → 0 < fQ j) (hn : n ≤ 1000000) :
    Calls Tryz.prog 18 #[.agg cs] w fun e w' => WhTold (whB fP fQ n) n fP w w' e := by
  obtain ⟨i0, hi, hz0, hz1, hz2⟩ := info_parts infoI
  have hmk := fun wz => run_make (P := Tryz.prog) wz 22 3 i0 _ Tryz.underlying22 hi hz0 .i64 .i64 n n (by omega) (by omega) (by rw [hz2]; omega) (by omega)
  simp only [Int.toNat_natCast, hz1, Nat.mul_one] at hmk
  obtain ⟨na, nc, rfl, hr⟩ := h
  have HR := Lib.hid hr
  have hl := hr.len
  have HQ := Lib.hid hQ
  have IN := Lib.hid (fun a n c m a2 n2 c2 P Q wz h hq => ratInt_any a n c m a2 n2 c2 P Q wz h hq)
  have hR0 : Row (w.alloc (.cells (arrC false ((r : Int) - 1) (dm f r) na n nc none 0 0) 32)) w.heap.size 32 _ := Row.new _ _ _
  have H0 : Hid (Below w.heap.size w ((w.alloc (.cells (arrC false ((r : Int) - 1) (dm f r) na n nc none 0 0) 32)).alloc (.cells (madeCells (Value.cells (.int .i64 0)) n) 3)) ∧ KTo ((w.alloc (.cells (arrC false ((r : Int) - 1) (dm f r) na n nc none 0 0) 32)).alloc (.cells (madeCells (Value.cells (.int .i64 0)) n) 3)) (w.heap.size + 1) n 0 fP ∧ whB fP fQ 0 = true) :=
    ⟨((Below.refl _ _).alloc (Nat.le_refl _) _).alloc (by simp) _, by have := KTo.made (w.alloc (.cells (arrC false ((r : Int) - 1) (dm f r) na n nc none 0 0) 32)) n 3 fP rfl; rwa [World.size_alloc] at this, rfl⟩
  unfold arrC at H0
  unfold arrC
  clear hr hi hz0 hz1 hz2 hR0 hQ
  go_enter Tryz.func18, Tryz.ntmps18
  go_wp2_with fail
  go_loopw [20] (fun i wr => ∃ k : Nat, k ≤ n ∧ i = .int .i64 k ∧ Hid (Below w.heap.size w wr ∧ KTo wr (w.heap.size + 1) n k fP ∧ whB fP fQ k = true)) (fun i _ => n - (intOf i).toNat)
  case atStart => exact ⟨0, by omega, rfl, H0.out⟩
  case round =>
    obtain ⟨k, hk, rfl, hrel⟩ := hrel
    obtain ⟨hbl, hto, hwh⟩ := hrel.out
    have hwr := hbl.size
    by_cases hlt : k < n
    · obtain ⟨b, off, a', n', c', m', a2', n2', c2', rfl, hlb, e1, e2, e3, hi'⟩ := (HR.out.below hbl).get hlt
      have BB := Lib.hid ((((Bag.start wr).kto hto).rat hi').alloc (.cells #[.slice a' n' c', .bool m', .slice a2' n2' c2'] 76))
      have HBL := Lib.hid hbl
      have HWH := Lib.hid hwh
      clear hbl hto hi' hwh
      go_wp2_with fail
      go_at_call 40
      (with_reducible refine (IN.out _ _ _ _ _ _ _ (fP k) (fQ k) _ ?_ ?_).mono ?_)
      · exact BB.out.now.1
      · exact HQ.out k hlt
      rintro e w2 ⟨rfl, hb2⟩
      have B2 := BB.out.go hb2
      have hto := B2.now.2.1
      obtain ⟨⟨z, x1⟩, y1⟩ := hto.place hlt
      have hbb := HBL.out.trans (B2.below.mono hwr)
      by_cases hok : (decide (fQ k = 1) && fitB (fP k)) = true
      · have hv : (if fQ k = 1 then fitI (fP k) else 0) = fP k := by
          rw [Bool.and_eq_true, decide_eq_true_eq] at hok
          rw [if_pos hok.1]; unfold fitI; rw [if_pos hok.2]
        have HN : Hid (Below w.heap.size w (w2.setCell ⟨w.heap.size + 1, k, none⟩ (.int .i64 (fP k))) ∧ KTo (w2.setCell ⟨w.heap.size + 1, k, none⟩ (.int .i64 (fP k))) (w.heap.size + 1) n (k + 1) fP ∧ whB fP fQ (k + 1) = true) :=
          ⟨hbb.setCell (p := ⟨w.heap.size + 1, k, none⟩) (Nat.le_succ _) _, hto.step hlt, by show (whB fP fQ k && _) = true; rw [HWH.out, hok]; rfl⟩
        rw [hok, hv]
        clear hto hb2 B2 hbb hv hok e1 e2 e3
        generalize fP k = x at *
        go_wp2
        go_roundw
        case rel => exact ⟨k + 1, by omega, by go_num, HN.out⟩
        case measure => simp [intOf]; omega
      · rw [Bool.not_eq_true] at hok
        have hno : whB fP fQ n = false := by
          cases hx : whB fP fQ n with
          | false => rfl
          | true =>
            have := whB_le (k := k + 1) (by omega) hx
            unfold whB at this
            rw [hok, Bool.and_false] at this
            exact this.symm
        rw [hok]
        have HE : Hid (WhTold (whB fP fQ n) n fP w w2 (.returned (.tuple #[.slice none 0 0, .bool false]))) := by
          rw [hno]
          exact ⟨_, _, _, rfl, by rw [if_neg (by decide)]; exact ⟨rfl, rfl, rfl⟩, hbb⟩
        generalize (if fQ k = 1 then fitI (fP k) else 0) = x at *
        clear hto hb2 B2 hbb hno hok e1 e2 e3
        go_wp2
        go_ret2
        exact HE.out
    · obtain rfl : k = n := by omega
      have HE : Hid (WhTold (whB fP fQ k) k fP w wr (.returned (.tuple #[.slice (some ⟨w.heap.size + 1, 0, none⟩) k k, .bool true]))) := by
        rw [hwh]
        exact ⟨_, _, _, rfl, by rw [if_pos rfl]; exact ⟨rfl, hto.done (by unfold maxLen; omega)⟩, hbl⟩
      clear hbl hto hwh
      go_wp2
      go_ret2
      exact HE.out
end Go.Proofs.YtpmcbnliogjknaaGreatDoor

namespace Go.Proofs.YtpmcbnliogjknaaGreatDoor
open Go.RowKit
theorem whole8_any (cs : Array Value) (S : Nat → Int) (r : Nat) (ch : Bool) (L : Nat) (g fP : Nat → Int) (fQ : Nat → Nat) (w : World) (h : Arr w cs S r ch L g fP fQ) (hQ : ch = false → ∀ j, j < L → 0 < fQ j) (hL : L ≤ 1000000) :
    Calls Tryz.prog 18 #[.agg cs] w fun e w' => WhTold (whC ch L fP fQ) L fP w w' e := by
  cases ch with
  | true =>
    refine (wholeC_any cs S r L g w (h.1 rfl) hL).mono ?_
    rintro e w' ⟨a, m, c, he, h2, hb⟩
    refine ⟨a, m, c, he, ?_, hb⟩
    show if decide (L = 0) = true then _ else _
    by_cases h0 : L = 0
    · subst h0
      rw [decide_eq_true rfl, if_pos rfl] at h2 ⊢
      exact ⟨h2.1, h2.2.1, h2.2.2.1, .inl rfl⟩
    · rw [decide_eq_false h0, if_neg (by decide)] at h2 ⊢
      exact h2
  | false => exact whole6_any cs S r L fP fQ w (h.2 rfl) (hQ rfl) hL
end Go.Proofs.YtpmcbnliogjknaaGreatDoor

namespace Go.Proofs.YtpmcbnliogjknaaGreatDoor
open Go.RowKit
theorem pints_any (a : Option Addr) (n c : Nat) (g : Nat → Int) (w : World) (h : KRow w .i64 a n c g) (hg : In64 g n) (hn : n ≤ 1000000) :
    Calls Tryz.prog 20 #[.slice a n c] w fun e w' => ∃ p, e = .returned (.agg p) ∧ (∀ T, Pln w' p (fun _ => (n : Int)) 1 false n T (fun j => rB (g j)) (fun j => rS (g j)) (fun _ => str (dec 1))) ∧ Below w.heap.size w w' :=
  (r6Ints_any a n c g w h hg hn).mono (by
    intro e w' q
    obtain ⟨p, he, hp, hb⟩ := q (fun _ => 0)
    refine ⟨p, he, fun T => ?_, hb⟩
    obtain ⟨p', he', hp', _⟩ := q T
    rw [he] at he'
    cases he'
    exact hp')
end Go.Proofs.YtpmcbnliogjknaaGreatDoor

namespace Go.Proofs.YtpmcbnliogjknaaGreatDoor
open Go.RowKit
theorem ent_left : Enters Tryz.prog 27 := enters_of Tryz.func27 (by kernel_rfl) rfl
set_option maxHeartbeats 400000 in
set_option maxRecDepth 100000 in
theorem left_any : Tells 27 true := by
  intro w t n ht0 ht1 hn0 hn1
  by_cases h0 : t < 0
  · obtain ⟨m, hm⟩ : ∃ m : Nat, max (n + t) 0 = (m : Int) := ⟨(max (n + t) 0).toNat, by omega⟩
    have e1 : tkN true t n = (m : Int) := by unfold tkN; rw [if_pos rfl]; omega
    have e2 : tkF true t n = 0 := by unfold tkF; rw [if_pos rfl, if_neg (by omega)]
    rw [e1, e2]
    have w1 := IntWalk.i64_in (n + t) (by omega)
    have RN := Lib.hid (crun_any 0 m w (by omega) (by omega))
    clear e1 e2
    go_enter Tryz.func27, Tryz.ntmps27
    go_wp2_with fail
    go_at_call 50
    (with_reducible refine RN.out.mono ?_)
    rintro e w2 ⟨rfl, hk, hb⟩
    have HE := Lib.hid (And.intro hk hb)
    clear hk hb
    go_wp2
    go_ret
    exact ⟨_, _, _, rfl, rfl, HE.out⟩
  · obtain ⟨m, hm⟩ : ∃ m : Nat, max (n - t) 0 = (m : Int) := ⟨(max (n - t) 0).toNat, by omega⟩
    have e1 : tkN true t n = (m : Int) := by unfold tkN; rw [if_pos rfl]; omega
    have e2 : tkF true t n = t := by unfold tkF; rw [if_pos rfl]; split <;> omega
    rw [e1, e2]
    have w1 := IntWalk.i64_in (n - t) (by omega)
    have RN := Lib.hid (crun_any t m w (by omega) (by omega))
    clear e1 e2
    go_enter Tryz.func27, Tryz.ntmps27
    go_wp2_with fail
    go_at_call 50
    (with_reducible refine RN.out.mono ?_)
    rintro e w2 ⟨rfl, hk, hb⟩
    have HE := Lib.hid (And.intro hk hb)
    clear hk hb
    go_wp2
    go_ret
    exact ⟨_, _, _, rfl, rfl, HE.out⟩
end Go.Proofs.YtpmcbnliogjknaaGreatDoor

namespace Go.Proofs.YtpmcbnliogjknaaGreatDoor
open Go.RowKit
theorem dm_congr {f f' : Nat → Int} {n : Nat} (h : ∀ j, j < n → f j = f' j) : dm f n = dm f' n := by
  funext j
  unfold dm
  split
  · rename_i hj; exact h j hj
  · rfl
theorem Arr.shape {w : World} {cs : Array Value} {S S' : Nat → Int} {r : Nat} {ch : Bool} {L : Nat} {g fP : Nat → Int} {fQ : Nat → Nat} (h : Arr w cs S r ch L g fP fQ) (e : ∀ j, j < r → S j = S' j) : Arr w cs S' r ch L g fP fQ := by
  refine ⟨fun q => ?_, fun q => ?_⟩
  · obtain ⟨ta, tc, h1, h2⟩ := h.1 q
    exact ⟨ta, tc, by rw [h1, dm_congr e], h2⟩
  · obtain ⟨na, nc, h1, h2⟩ := h.2 q
    exact ⟨na, nc, by rw [h1, dm_congr e], h2⟩
end Go.Proofs.YtpmcbnliogjknaaGreatDoor

namespace Go.Proofs.YtpmcbnliogjknaaGreatDoor
open Go.RowKit
attribute [local go_sem ↓] Go.wp_at_zero Go.wp_at_succ
set_option linter.unusedSimpArgs false in
set_option maxHeartbeats 3200000 in
set_option maxRecDepth 100000 in
theorem drop_any (cs0 : Array Value) (S0 : Nat → Int) (r0 : Nat) (ch0 : Bool) (L0 : Nat) (g0 P0 : Nat → Int) (Q0 : Nat → Nat) (cs : Array Value) (S : Nat → Int) (r : Nat) (ch : Bool) (L : Nat) (g fP : Nat → Int) (fQ : Nat → Nat) (w : World)
    (h0 : Arr w cs0 S0 r0 ch0 L0 g0 P0 Q0) (h : Arr w cs S r ch L g fP fQ) (hr0 : r0 ≤ 8) (hQ0 : ch0 = false → ∀ j, j < L0 → 0 < Q0 j) (hL0 : L0 ≤ 4096) (hS : In64 S r) (hsh : shB S r = true) (hcnt : itm S r = (L : Nat)) :
    Calls Tryz.prog 11 #[.agg cs0, .agg cs] w fun e w' => MoTold (paE true 4097 r0 ch0 L0 P0 Q0 S r) (lnF (paN true 4097 P0 (paS r S))) L0 ch (itm (lnF (paN true 4097 P0 (paS r S))) L0).toNat (fun j => elC L g 32 (pkG (paS r S) (lnF (paN true 4097 P0 (paS r S))) L0 (paF true 4097 P0 (paS r S)) j)) (fun j => elP L fP (pkG (paS r S) (lnF (paN true 4097 P0 (paS r S))) L0 (paF true 4097 P0 (paS r S)) j)) (fun j => elQ L fQ (pkG (paS r S) (lnF (paN true 4097 P0 (paS r S))) L0 (paF true 4097 P0 (paS r S)) j)) w w' e := by
  obtain ⟨nb, nnb, ncb, tb, tnb, tcb, hcs0, _⟩ := h0.form
  subst hcs0
  obtain ⟨na, nn, nc, ta, tn, tc, hcs, _⟩ := h.form
  subst hcs
  have H0 := Lib.hid h0
  have H := Lib.hid h
  have PT := Lib.hid (fun wz (q0 : Arr wz (arrC ch0 ((r0 : Int) - 1) (dm S0 r0) nb nnb ncb tb tnb tcb) S0 r0 ch0 L0 g0 P0 Q0) (q : Arr wz (arrC ch ((r : Int) - 1) (dm S r) na nn nc ta tn tc) S r ch L g fP fQ) => part_any 27 true ent_left left_any (arrC ch0 ((r0 : Int) - 1) (dm S0 r0) nb nnb ncb tb tnb tcb) S0 r0 ch0 L0 g0 P0 Q0 (arrC ch ((r : Int) - 1) (dm S r) na nn nc ta tn tc) S r ch L g fP fQ wz q0 q hr0 hQ0 hL0 hS hsh hcnt)
  have B0 := Lib.hid ((((Bag.start w).newRow (arrC ch0 ((r0 : Int) - 1) (dm S0 r0) nb nnb ncb tb tnb tcb) 32).newRow (arrC ch ((r : Int) - 1) (dm S r) na nn nc ta tn tc) 32).newRow zerC 32)
  simp only [World.size_alloc] at B0
  have HR1 := Lib.hid B0.out.now.2.2.1
  have HR2 := Lib.hid B0.out.now.2.1
  generalize (paE true 4097 r0 ch0 L0 P0 Q0 S r) = EE at *
  generalize (fun j => elC L g 32 (pkG (paS r S) (lnF (paN true 4097 P0 (paS r S))) L0 (paF true 4097 P0 (paS r S)) j)) = eC at *
  generalize (fun j => elP L fP (pkG (paS r S) (lnF (paN true 4097 P0 (paS r S))) L0 (paF true 4097 P0 (paS r S)) j)) = eP at *
  generalize (fun j => elQ L fQ (pkG (paS r S) (lnF (paN true 4097 P0 (paS r S))) L0 (paF true 4097 P0 (paS r S)) j)) = eQ at *
  generalize (itm (lnF (paN true 4097 P0 (paS r S))) L0).toNat = MM at *
  generalize lnF (paN true 4097 P0 (paS r S)) = TT at *
  clear h0 h hQ0 hS hsh
  unfold arrC
  go_enter Tryz.func11, Tryz.ntmps11
  go_wp2_with (first
    | (refine ld_arr rfl (.tmp 2) rfl w.heap.size rfl HR1.out ?_)
    | (refine ld_arr rfl (.tmp 3) rfl (w.heap.size + 1) rfl HR2.out ?_))
  go_at_call 22
  (refine (PT.out _ (H0.out.below B0.out.below) (H.out.below B0.out.below)).mono ?_)
  rintro e w9 hmt
  obtain ⟨x9, rfl, hm9, hb9⟩ := hmt.res
  have B9 := B0.out.go hb9
  have HZ := Lib.hid B9.now.1
  have HE : Hid (MoTold EE TT L0 ch MM eC eP eQ w (w9.setRow (w.heap.size + 1 + 1) x9) (.returned (.tuple #[.agg x9, .int .i64 EE]))) := Lib.hid ⟨x9, rfl, fun e => (hm9.2.1 e).put HZ.out x9, hm9.2.2, below_put B9.below (show w.heap.size ≤ w.heap.size + 1 + 1 by omega) x9⟩
  obtain ⟨q1, q2, q3, q4, q5, q6, q7, q8, q9, hx9⟩ := hm9.1
  subst hx9
  clear hmt hm9 hb9 B9
  unfold arrC
  unfold arrC at HZ
  go_wp2_with (refine st_arr rfl (.tmp 4) (.tmp 9) rfl (w.heap.size + 1 + 1) rfl _ _ _ _ _ _ _ _ _ rfl HZ.out rfl ?_)
  exact bodyPost_ret (res_arr2 Tryz.results11 rfl rfl (HZ.out.put _) rfl) rfl HE.out
end Go.Proofs.YtpmcbnliogjknaaGreatDoor

namespace Go.Proofs.YtpmcbnliogjknaaGreatDoor
open Go.RowKit
theorem run_append_none9 {w : World} (base : Nat) (v : Value) (n : Nat) (xs : List Value) (c : Nat) (hown : w.ownsRow base 3 1 v n xs) : (Builtin.append_ #[22, 22] 22 #[v, .slice none 0 c]).run Tryz.prog w = .ok v w := by
  obtain ⟨i0, hi, hz0, hz1, hz2⟩ := info_parts infoI
  have ht := Tryz.underlying22
  rcases hown.2 with ⟨rfl, rfl⟩ | ⟨g, cap, cur, rfl, _, _, hnc, _⟩
  · simp [Builtin.append_, run_underlying ht, sizeOf, typeInfo, hi, Builtin.lenOf, Builtin.firstCells]
  · simp [Builtin.append_, run_underlying ht, sizeOf, typeInfo, hi, Builtin.lenOf, Builtin.firstCells, hnc, storeCells]
/-- A row copied into one that the call makes and that grows. -/
theorem own_new {wr : World} {a : Option Addr} {c m : Nat} {f : Nat → Int} (h : KRow wr .i64 a m c f) (hm2 : m ≤ 1000000) :
    ∃ a' c' y1, (Builtin.append_ #[22, 22] 22 #[.slice (some ⟨wr.heap.size, 0, none⟩) 0 0, .slice a m c]).run Tryz.prog (wr.alloc (.cells #[] 3)) = .ok (.slice a' m c') y1 ∧ OwnI wr y1 a' m c' f := by
  have hb : Below wr.heap.size wr (wr.alloc (.cells #[] 3)) := (Below.refl _ _).alloc (Nat.le_refl _) _
  have hown : (wr.alloc (.cells #[] 3)).ownsRow wr.heap.size 3 1 (.slice (some ⟨wr.heap.size, 0, none⟩) 0 0) 0 [] := ⟨rfl, .inr ⟨wr.heap.size, 0, #[], rfl, Nat.le_refl _, heap_alloc_new wr _, Nat.le_refl _, Nat.zero_le _, rfl, rfl⟩⟩
  cases a with
  | none =>
    have hm : m = 0 := by
      rcases h.2.2 with h | ⟨_, _, h, _⟩
      · exact h
      · cases h
    subst hm
    exact ⟨_, _, _, run_append_none9 wr.heap.size _ _ _ c hown, hb, hown⟩
  | some ad =>
    obtain ⟨v', w', e1, e2, e3⟩ := run_append_krow 22 wr.heap.size _ 0 [] hown (some ad) m c f (h.below hb) (fun e => by cases e) (by omega) (by rw [World.size_alloc]; omega)
    rw [List.nil_append, Nat.zero_add] at e2
    obtain ⟨a', c', rfl, _⟩ := KRow.of_own e2
    refine ⟨a', c', w', e1, hb.trans ⟨e3.os, e3.tape, e3.output, e3.size, fun j hj => e3.block j (Nat.lt_of_lt_of_le hj (by rw [World.size_alloc]; omega)) (fun e => ?_)⟩, e2⟩
    have e' : j = wr.heap.size := by simpa [Value.ownBlock] using e
    omega
end Go.Proofs.YtpmcbnliogjknaaGreatDoor

namespace Go.Proofs.YtpmcbnliogjknaaGreatDoor
open Go.RowKit
theorem kpN_congr {f f' : Nat → Int} : ∀ {n : Nat}, (∀ j, j < n → f j = f' j) → kpN f n = kpN f' n
  | 0, _ => rfl
  | n + 1, h => by
    show (if f n = 1 then kpN f n + 1 else kpN f n) = (if f' n = 1 then kpN f' n + 1 else kpN f' n)
    rw [h n (by omega), kpN_congr (fun j hj => h j (by omega))]
end Go.Proofs.YtpmcbnliogjknaaGreatDoor

namespace Go.Proofs.YtpmcbnliogjknaaGreatDoor
open Go.RowKit
/-- A list of integers. -/
def LArr (w : World) (x : Array Value) (n : Nat) (f : Nat → Int) : Prop := Arr w x (fun _ => (n : Int)) 1 false n (fun _ => 0) f (fun _ => 1)
theorem LArr.below {w w' : World} {x : Array Value} {n : Nat} {f : Nat → Int} (h : LArr w x n f) (hb : Below w.heap.size w w') : LArr w' x n f := Arr.below h hb
theorem pkG_one {S T : Nat → Int} {F : Nat → Nat → Int} {N M j : Nat} (hS : S 0 = N) (hT : T 0 = M) (hj : j < M) : pkG S T 1 F j = if 0 ≤ F 0 j ∧ F 0 j < N then F 0 j else -1 := by
  have e : dgs T 1 (j : Nat) 0 = j := by
    show (if 0 = 0 then (j : Int) % T 0 else _) = _
    rw [if_pos rfl, hT]
    exact Int.emod_eq_of_lt (by omega) (by omega)
  have e2 : pkI F (dgs T 1 (j : Nat)) 0 = F 0 j := by unfold pkI; rw [e]; rfl
  unfold pkG
  have h1 : inB S (pkI F (dgs T 1 (j : Nat))) 1 = (decide (0 ≤ F 0 j) && decide (F 0 j < N)) := by
    show (true && (decide (0 ≤ pkI F (dgs T 1 (j : Nat)) 0) && decide (pkI F (dgs T 1 (j : Nat)) 0 < S 0))) = _
    rw [e2, hS, Bool.true_and]
  have h2 : plc S (pkI F (dgs T 1 (j : Nat))) 1 = F 0 j := by
    show 0 * S 0 + pkI F (dgs T 1 (j : Nat)) 0 = F 0 j
    rw [e2]; omega
  rw [h1, h2]
  by_cases h : 0 ≤ F 0 j ∧ F 0 j < N
  · rw [if_pos h, decide_eq_true h.1, decide_eq_true h.2]; rfl
  · rw [if_neg h]
    have : (decide (0 ≤ F 0 j) && decide (F 0 j < (N : Int))) = false := by
      rw [Bool.and_eq_false_iff, decide_eq_false_iff_not, decide_eq_false_iff_not]
      omega
    rw [this]; rfl
theorem itm_one9 {T : Nat → Int} {M : Nat} (hT : T 0 = M) : (itm T 1).toNat = M := by
  show (1 * T 0).toNat = M
  rw [hT]; omega
theorem LArr.of {w : World} {x : Array Value} {S T : Nat → Int} {r : Nat} {F : Nat → Nat → Int} {n M : Nat} {G f f' : Nat → Int} (hr : r = 1) (h : Arr w x T r false (itm T r).toNat G (fun j => elP n f (pkG S T r F j)) (fun j => elQ n (fun _ => 1) (pkG S T r F j))) (hS : S 0 = (n : Int)) (hT : T 0 = (M : Int))
    (hf : ∀ j, j < M → (0 ≤ F 0 j ∧ F 0 j < n ∧ f' j = f (F 0 j).toNat) ∨ (¬ (0 ≤ F 0 j ∧ F 0 j < n) ∧ f' j = 0)) : LArr w x M f' := by
  subst hr
  rw [itm_one9 hT] at h
  have h1 : Arr w x T 1 false M (fun _ => 0) _ _ := ⟨(fun e => by cases e), h.2⟩
  refine (h1.on (fun _ _ => rfl) (fun j hj => ?_) (fun j hj => ?_)).shape (fun j hj => ?_)
  · show elP n f (pkG S T 1 F j) = f' j
    rw [pkG_one hS hT hj]
    rcases hf j hj with ⟨a, b, c⟩ | ⟨a, c⟩
    · rw [if_pos ⟨a, b⟩, c]; unfold elP; rw [if_pos ⟨a, b⟩]
    · rw [if_neg a, c]; rfl
  · show elQ n (fun _ => 1) (pkG S T 1 F j) = 1
    unfold elQ
    split <;> rfl
  · obtain rfl : j = 0 := by omega
    exact hT
theorem wh_one {k : Int} (h : -9223372036854775808 ≤ k ∧ k ≤ 9223372036854775807) : whC false 1 (fun _ => k) (fun _ => 1) = true := by
  show (true && (decide (1 = 1) && fitB k)) = true
  unfold fitB
  rw [decide_eq_true h]; rfl
theorem wh_list {f : Nat → Int} : ∀ {n : Nat}, In64 f n → whC false n f (fun _ => 1) = true
  | 0, _ => rfl
  | n + 1, h => by
    have h1 : whC false n f (fun _ => 1) = true := wh_list (fun j hj => h j (by omega))
    show (whB f (fun _ => 1) n && (decide (1 = 1) && fitB (f n))) = true
    have h2 : whB f (fun _ => 1) n = true := h1
    rw [h2]
    unfold fitB
    rw [decide_eq_true (h n (by omega))]; rfl
theorem sh_list9 {n : Nat} (h : n ≤ 4096) : shB (fun _ => (n : Int)) 1 = true := by
  rw [shB_one, decide_eq_true (by omega), decide_eq_true (by omega)]; rfl
theorem in_list {n : Nat} (h : n ≤ 4096) : In64 (fun _ => (n : Int)) 1 := fun j _ => by show _ ≤ (n : Int) ∧ (n : Int) ≤ _; omega
theorem cn_list (n : Nat) : itm (fun _ => (n : Int)) 1 = (n : Nat) := by
  show 1 * (n : Int) = n
  omega
theorem pa_ok {drop : Bool} {P S : Nat → Int} {Q : Nat → Nat} {M : Nat} (hw : whC false 1 P Q = true) (hT : lnF (paN drop 4097 P (paS 1 S)) 0 = (M : Int)) (hM : M ≤ 4096) : paE drop 4097 0 false 1 P Q S 1 = 0 := by
  unfold paE
  rw [hw, if_pos (by rfl), if_pos (.inr rfl), if_neg (by omega)]
  unfold pkE
  rw [shB_one, hT, decide_eq_true (by omega), decide_eq_true (by omega)]; rfl
set_option maxRecDepth 100000 in
theorem takeL (c0 c : Array Value) (k n : Nat) (f : Nat → Int) (w : World) (h0 : Arr w c0 (fun _ => 0) 0 false 1 (fun _ => 0) (fun _ => (k : Int)) (fun _ => 1)) (h : LArr w c n f) (hk : k ≤ n) (hn : n ≤ 4096) :
    Calls Tryz.prog 8 #[.agg c0, .agg c] w fun e w' => ∃ x, e = .returned (.tuple #[.agg x, .int .i64 0]) ∧ LArr w' x k f ∧ Below w.heap.size w w' := by
  have hb : bnd 4097 (k : Int) = k := by unfold bnd; omega
  have hT : lnF (paN false 4097 (fun _ => (k : Int)) (paS 1 (fun _ => (n : Int)))) 0 = (k : Int) := by
    show ((tkN false (bnd 4097 (k : Int)) _).toNat : Int) = k
    rw [hb]
    show (((k : Int).natAbs : Int).toNat : Int) = k
    omega
  refine (take_any c0 (fun _ => 0) 0 false 1 (fun _ => 0) (fun _ => (k : Int)) (fun _ => 1) c (fun _ => (n : Int)) 1 false n (fun _ => 0) f (fun _ => 1) w h0 h (by omega) (fun _ _ _ => Nat.one_pos) (by omega) (in_list hn) (sh_list9 hn) (cn_list n)).mono ?_
  intro e w' q
  obtain ⟨x, he, hx, hb2⟩ := q.ok (pa_ok (wh_one (by omega)) hT (by omega))
  refine ⟨x, he, LArr.of rfl hx (show (if 1 = 0 then 1 else (n : Int)) = n by rw [if_neg (by omega)]) hT (fun j hj => .inl ?_), hb2⟩
  have e1 : paF false 4097 (fun _ => (k : Int)) (paS 1 (fun _ => (n : Int))) 0 j = (j : Int) := by
    show (if bnd 4097 (k : Int) < 0 then _ else 0) + (j : Int) = j
    rw [if_neg (by omega)]; omega
  rw [e1]
  exact ⟨by omega, by omega, rfl⟩
set_option maxRecDepth 100000 in
theorem dropL (c0 c : Array Value) (k n : Nat) (f : Nat → Int) (w : World) (h0 : Arr w c0 (fun _ => 0) 0 false 1 (fun _ => 0) (fun _ => (k : Int)) (fun _ => 1)) (h : LArr w c n f) (hk : k ≤ n) (hn : n ≤ 4096) :
    Calls Tryz.prog 11 #[.agg c0, .agg c] w fun e w' => ∃ x, e = .returned (.tuple #[.agg x, .int .i64 0]) ∧ LArr w' x (n - k) (fun j => f (k + j)) ∧ Below w.heap.size w w' := by
  have hb : bnd 4097 (k : Int) = k := by unfold bnd; omega
  have hT : lnF (paN true 4097 (fun _ => (k : Int)) (paS 1 (fun _ => (n : Int)))) 0 = ((n - k : Nat) : Int) := by
    show ((tkN true (bnd 4097 (k : Int)) (if 1 = 0 then 1 else (n : Int))).toNat : Int) = _
    rw [hb, if_neg (by omega)]
    show ((max ((n : Int) - ((k : Int).natAbs : Int)) 0).toNat : Int) = _
    omega
  refine (drop_any c0 (fun _ => 0) 0 false 1 (fun _ => 0) (fun _ => (k : Int)) (fun _ => 1) c (fun _ => (n : Int)) 1 false n (fun _ => 0) f (fun _ => 1) w h0 h (by omega) (fun _ _ _ => Nat.one_pos) (by omega) (in_list hn) (sh_list9 hn) (cn_list n)).mono ?_
  intro e w' q
  obtain ⟨x, he, hx, hb2⟩ := q.ok (pa_ok (wh_one (by omega)) hT (by omega))
  refine ⟨x, he, LArr.of rfl hx (show (if 1 = 0 then 1 else (n : Int)) = n by rw [if_neg (by omega)]) hT (fun j hj => .inl ?_), hb2⟩
  have e1 : paF true 4097 (fun _ => (k : Int)) (paS 1 (fun _ => (n : Int))) 0 j = ((k + j : Nat) : Int) := by
    show (if 0 < bnd 4097 (k : Int) then bnd 4097 (k : Int) else 0) + (j : Int) = _
    rw [hb]
    split <;> omega
  rw [e1]
  exact ⟨by omega, by omega, rfl⟩
theorem cf_one (n : Nat) : cfR 1 (-1) = 1 ∧ cfS 1 (-1) (fun _ => (n : Int)) = (fun _ => (n : Int)) ∧ cfK 1 (-1) = 0 ∧ cfM 1 (-1) (fun _ => (n : Int)) = n := by
  have h1 : cfR 1 (-1) = 1 := rfl
  have h2 : cfS 1 (-1) (fun _ => (n : Int)) = (fun _ => (n : Int)) := rfl
  have h3 : cfK 1 (-1) = 0 := rfl
  refine ⟨h1, h2, h3, ?_⟩
  unfold cfM
  rw [h2, h3]
  show ((n : Int)).toNat = n
  omega
theorem cf_ok {ex : Bool} {P : Nat → Int} {m n M : Nat} (hP : ∀ j, j < m → P j = 0 ∨ P j = 1) (hB : wcB ex P m n = true) (hM : wcM ex P m n = M) (h4 : M ≤ 4096) : cfE ex 1 false m P (fun _ => 1) (fun _ => (n : Int)) 1 (-1) = 0 ∧ lnF (cfN ex P m 1 (-1) (fun _ => (n : Int))) 0 = (M : Int) := by
  obtain ⟨h1, h2, h3, h5⟩ := cf_one n
  have hT : lnF (cfN ex P m 1 (-1) (fun _ => (n : Int))) 0 = (M : Int) := by
    show ((if 0 = cfK 1 (-1) then wcM ex P m (cfM 1 (-1) (fun _ => (n : Int))) else _ : Nat) : Int) = M
    rw [h3, if_pos rfl, h5, hM]
  refine ⟨?_, hT⟩
  have hw : whC false m P (fun _ => 1) = true := wh_list (fun j hj => by have := hP j hj; omega)
  unfold cfE
  rw [hw, if_pos (by rfl), nfA_iff.2 hP, if_neg (by decide), h1, if_pos (by rfl), h5, hB, if_pos rfl]
  unfold pkE
  rw [shB_one, hT, decide_eq_true (by omega), decide_eq_true (by omega)]; rfl
set_option maxRecDepth 100000 in
theorem expandL (c0 c : Array Value) (m : Nat) (P f : Nat → Int) (w : World) (h0 : LArr w c0 m P) (h : LArr w c (kpN P m) f) (hP : ∀ j, j < m → P j = 0 ∨ P j = 1) (hm : m ≤ 4096) :
    Calls Tryz.prog 15 #[.agg c0, .agg c, .int .i64 (-1)] w fun e w' => ∃ x, e = .returned (.tuple #[.agg x, .int .i64 0]) ∧ LArr w' x m (fun j => if P j = 1 then f (kpN P j) else 0) ∧ Below w.heap.size w w' := by
  have hq := kpN_le P m
  obtain ⟨hE, hT⟩ := cf_ok (ex := true) (n := kpN P m) hP (by show (decide (kpN P m = 1) || decide (kpN P m = kpN P m)) = true; rw [decide_eq_true rfl, Bool.or_true]) rfl hm
  obtain ⟨h1, h2, h3, h5⟩ := cf_one (kpN P m)
  refine (expand_any c0 (fun _ => (m : Int)) 1 false m (fun _ => 0) P (fun _ => 1) c (fun _ => (kpN P m : Int)) 1 false (kpN P m) (fun _ => 0) f (fun _ => 1) (-1) w h0 h (by omega) (fun _ _ _ => Nat.one_pos) hm (in_list (by omega)) (sh_list9 (by omega)) (cn_list _)).mono ?_
  intro e w' q
  obtain ⟨x, he, hx, hb2⟩ := q.ok hE
  refine ⟨x, he, LArr.of h1 hx rfl hT (fun j hj => ?_), hb2⟩
  have e1 : cfF true P m 1 (-1) (fun _ => (kpN P m : Int)) 0 j = if P j = 1 then ((kpN P j % kpN P m : Nat) : Int) else -1 := by
    show (if 0 = cfK 1 (-1) then wcH true P m (cfM 1 (-1) (fun _ => (kpN P m : Int))) j else _) = _
    rw [h3, if_pos rfl, h5]; rfl
  rw [e1]
  by_cases e : P j = 1
  · have hlt := kpN_lt (n := m) hj e
    have e2 : kpN P j % kpN P m = kpN P j := Nat.mod_eq_of_lt hlt
    rw [if_pos e, e2]
    refine .inl ⟨by omega, by omega, ?_⟩
    show (if P j = 1 then f (kpN P j) else 0) = _
    rw [if_pos e]; rfl
  · rw [if_neg e]
    refine .inr ⟨by omega, ?_⟩
    show (if P j = 1 then f (kpN P j) else 0) = 0
    rw [if_neg e]
theorem kpN_onto {P : Nat → Int} : ∀ {n : Nat} {j : Nat}, j < kpN P n → ∃ t, t < n ∧ P t = 1 ∧ kpN P t = j
  | 0, j, h => absurd h (Nat.not_lt_zero _)
  | n + 1, j, h => by
    have h' : j < (if P n = 1 then kpN P n + 1 else kpN P n) := h
    by_cases e : P n = 1
    · rw [if_pos e] at h'
      by_cases e2 : j = kpN P n
      · exact ⟨n, by omega, e, e2.symm⟩
      · obtain ⟨t, a, b, c⟩ := kpN_onto (P := P) (n := n) (j := j) (by omega)
        exact ⟨t, by omega, b, c⟩
    · rw [if_neg e] at h'
      obtain ⟨t, a, b, c⟩ := kpN_onto (P := P) (n := n) (j := j) h'
      exact ⟨t, by omega, b, c⟩
set_option maxRecDepth 100000 in
theorem compressL (c0 c : Array Value) (m : Nat) (P f f' : Nat → Int) (w : World) (h0 : LArr w c0 m P) (h : LArr w c m f') (hP : ∀ j, j < m → P j = 0 ∨ P j = 1) (hm : m ≤ 4096) (hf : ∀ t, t < m → P t = 1 → f' t = f (kpN P t)) :
    Calls Tryz.prog 13 #[.agg c0, .agg c, .int .i64 (-1)] w fun e w' => ∃ x, e = .returned (.tuple #[.agg x, .int .i64 0]) ∧ LArr w' x (kpN P m) f ∧ Below w.heap.size w w' := by
  have hq := kpN_le P m
  have hl : wcL m m = m := by unfold wcL; split <;> rfl
  have hF : ∀ j, j < m → wcF P m j = P j := fun j hj => by
    unfold wcF
    split
    · rename_i e
      obtain rfl : j = 0 := by omega
      rfl
    · rfl
  have hkp : ∀ n, n ≤ m → kpN (wcF P m) n = kpN P n := fun n hn => kpN_congr (fun j hj => hF j (by omega))
  obtain ⟨hE, hT⟩ := cf_ok (ex := false) (n := m) (M := kpN P m) hP (by show (decide (m = 1) || decide (wcL m m = m)) = true; rw [hl, decide_eq_true rfl, Bool.or_true]) (by show kpN (wcF P m) (wcL m m) = _; rw [hl, hkp m (Nat.le_refl _)]) (by omega)
  obtain ⟨h1, h2, h3, h5⟩ := cf_one m
  refine (compress_any c0 (fun _ => (m : Int)) 1 false m (fun _ => 0) P (fun _ => 1) c (fun _ => (m : Int)) 1 false m (fun _ => 0) f' (fun _ => 1) (-1) w h0 h (by omega) (fun _ _ _ => Nat.one_pos) hm (in_list (by omega)) (sh_list9 (by omega)) (cn_list _)).mono ?_
  intro e w' q
  obtain ⟨x, he, hx, hb2⟩ := q.ok hE
  refine ⟨x, he, LArr.of h1 hx rfl hT (fun j hj => .inl ?_), hb2⟩
  obtain ⟨t, ht, hp, hk⟩ := kpN_onto hj
  have e1 : cfF false P m 1 (-1) (fun _ => (m : Int)) 0 j = (t : Int) := by
    show (if 0 = cfK 1 (-1) then wcH false P m (cfM 1 (-1) (fun _ => (m : Int))) j else _) = _
    rw [h3, if_pos rfl, h5]
    show kpP (wcF P m) (fun m' => ((m' % m : Nat) : Int)) (wcL m m) j = t
    rw [hl, ← hk, ← hkp t (by omega), kpP_at (by rw [hF t ht]; exact hp) ht]
    show ((t % m : Nat) : Int) = t
    rw [Nat.mod_eq_of_lt ht]
  rw [e1]
  refine ⟨by omega, by omega, ?_⟩
  rw [show ((t : Int)).toNat = t by omega, hf t ht hp, hk]
end Go.Proofs.YtpmcbnliogjknaaGreatDoor

namespace Go.Proofs.YtpmcbnliogjknaaGreatDoor
open Go.ChangeShapes Go.WideShapes Go.ChangeAt Go.RowKit
theorem open_krow {H : Type} {enc : TypeId × Value → H} {P : Program} {w : World} {base : Nat} {t e : TypeId} {ki : IntKind} {v : Value} {d : DataW H} {p : List MemPlace} (ht : P.underlying t = some (.slice e)) (he : P.underlying e = some (.int ki)) (hc : P.cellsOf e = 1)
    {r : Reach} {b0 : Nat} (hv : Value.okWide P w r b0 t v) (h : DataW.Trod enc P w base (fun _ => true) true t v d p) :
    ∃ a n c f, v = .slice a n c ∧ KRow w ki a n c f ∧ ∀ j, j < n → (Lit.int ki (f j)).wf = true := by
  obtain ⟨a0, len, cap, rfl⟩ := okWide_slice ht hv
  obtain ⟨fuel, hf⟩ := h
  rcases open_ints ht he hc hf with ⟨hcs, _⟩ | ⟨a, len', cap', zs, hcs, _, hl, hmx, hz, _, hcell, hwz⟩
  · simp [Value.cells] at hcs
    obtain ⟨rfl, rfl, rfl⟩ := hcs
    exact ⟨none, 0, 0, fun _ => 0, rfl, ⟨Nat.le_refl _, Nat.zero_le _, .inl rfl⟩, fun j hj => absurd hj (Nat.not_lt_zero _)⟩
  · simp [Value.cells] at hcs
    obtain ⟨rfl, rfl, rfl⟩ := hcs
    simp only [if_true] at hz
    refine ⟨some a, len, cap, fun j => zs.getD j 0, rfl, ⟨hl, hmx, ?_⟩, fun j hj => ?_⟩
    · rcases Nat.eq_zero_or_pos len with h0 | h0
      · exact .inl h0
      · obtain ⟨b, off, spot⟩ := a
        have hspot : spot = none := by simpa [Addr.add] using World.cell?_spot (hcell 0 (by omega))
        subst hspot
        have h1 : ∀ j, j < zs.length → w.cell? ⟨b, off + j, none⟩ = some (.int ki (zs.getD j 0)) := fun j hj => by rw [← add_plain]; exact hcell j hj
        exact .inr ⟨b, off, rfl, World.block_lt_of_cell? w _ (h1 0 (by omega)), fun j hj => h1 j (by omega)⟩
    · refine hwz _ ?_
      have : zs.getD j 0 = zs[j]'(by omega) := by simp [List.getD, show j < zs.length by omega]
      show zs.getD j 0 ∈ zs
      rw [this]
      exact List.getElem_mem _
section
variable {H : Type} {enc : TypeId × Value → H} {P : Program} {w : World} {base : Nat} {spare : Nat → Bool} {held : Bool}
end
end Go.Proofs.YtpmcbnliogjknaaGreatDoor

namespace Go.Proofs.YtpmcbnliogjknaaGreatDoor
open Go.ChangeShapes Go.WideShapes Go.ChangeAt Go.RowKit
theorem wpAppG (w : World) {ops : Array Oper} {rest : List Oper} {o : Oper} {a : Act} {Q : Exit → Act → World → Prop} (hw : Region.wanted o (yielded ops a.tmps) = true) (s x : Operand) (t tn : TypeId)
    (ho : o.op = .call { callee := .builtin .append, args := #[s, x], argTypes := #[t, tn] }) (vs vx : Value) (hs : a.eval s = vs) (hx : a.eval x = vx)
    (v' : Value) (w' : World) (hr : (Builtin.append_ #[t, tn] o.type #[vs, vx]).run Tryz.prog w = .ok v' w') (h : wpList Tryz.prog ops Q rest (a.put o.dst v') w') : wpList Tryz.prog ops Q (o :: rest) a w := by
  show if Region.wanted o (yielded ops a.tmps) = true then _ else _
  rw [if_pos hw]
  exact Or.inl (Lib.wp_append_run w s x t tn ho vs vx hs hx v' w' hr h)
/-- A row of truths. -/
def BRow (w : World) (a : Option Addr) (n c : Nat) (f : Nat → Bool) : Prop := n ≤ c ∧ c ≤ maxLen ∧ (n = 0 ∨ ∃ b off, a = some ⟨b, off, none⟩ ∧ b < w.heap.size ∧ ∀ j, j < n → w.cell? ⟨b, off + j, none⟩ = some (.bool (f j)))
theorem BRow.below {w w' : World} {a : Option Addr} {n c : Nat} {f : Nat → Bool} (h : BRow w a n c f) (hb : Below w.heap.size w w') : BRow w' a n c f := by
  obtain ⟨h1, h2, h3⟩ := h
  refine ⟨h1, h2, h3.imp id ?_⟩
  rintro ⟨b, off, rfl, hl, hc⟩
  exact ⟨b, off, rfl, Nat.lt_of_lt_of_le hl hb.size, fun j hj => (hb.cell (p := ⟨b, off + j, none⟩) hl).trans (hc j hj)⟩
theorem BRow.get {w : World} {a : Option Addr} {n c : Nat} {f : Nat → Bool} (h : BRow w a n c f) {j : Nat} (hj : j < n) : ∃ b off, a = some ⟨b, off, none⟩ ∧ b < w.heap.size ∧ w.cell? ⟨b, off + j, none⟩ = some (.bool (f j)) := by
  rcases h.2.2 with h | ⟨b, off, rfl, hl, hc⟩
  · omega
  · exact ⟨b, off, rfl, hl, hc j hj⟩
theorem BRow.len {w : World} {a : Option Addr} {n c : Nat} {f : Nat → Bool} (h : BRow w a n c f) : n ≤ c ∧ n ≤ 9223372036854775807 := by
  have h1 := h.1
  have h2 := h.2.1
  unfold maxLen at h2
  exact ⟨h1, by omega⟩
theorem open_brow {H : Type} {enc : TypeId × Value → H} {P : Program} {w : World} {base : Nat} {t e : TypeId} {v : Value} {d : DataW H} {p : List MemPlace} (ht : P.underlying t = some (.slice e)) (he : P.underlying e = some .bool) (hc : P.cellsOf e = 1)
    {r : Reach} {b0 : Nat} (hv : Value.okWide P w r b0 t v) (h : DataW.Trod enc P w base (fun _ => true) true t v d p) :
    ∃ a n c f, v = .slice a n c ∧ BRow w a n c f := by
  obtain ⟨a0, len, cap, rfl⟩ := okWide_slice ht hv
  obtain ⟨fuel, hf⟩ := h
  rcases Go.Deep.open_bools ht he hc hf with ⟨hcs, _⟩ | ⟨a, len', cap', B, hcs, _, hl, hmx, _, hcell⟩
  · simp [Value.cells] at hcs
    obtain ⟨rfl, rfl, rfl⟩ := hcs
    exact ⟨none, 0, 0, fun _ => false, rfl, Nat.le_refl _, Nat.zero_le _, .inl rfl⟩
  · simp [Value.cells] at hcs
    obtain ⟨rfl, rfl, rfl⟩ := hcs
    refine ⟨some a, len, cap, B, rfl, hl, hmx, ?_⟩
    rcases Nat.eq_zero_or_pos len with h0 | h0
    · exact .inl h0
    · obtain ⟨b, off, spot⟩ := a
      have hspot : spot = none := by simpa [Addr.add] using World.cell?_spot (hcell 0 (by omega))
      subst hspot
      have h1 : ∀ j, j < len → w.cell? ⟨b, off + j, none⟩ = some (.bool (B j)) := fun j hj => by rw [← add_plain]; exact hcell j (by omega)
      exact .inr ⟨b, off, rfl, World.block_lt_of_cell? w _ (h1 0 (by omega)), h1⟩
theorem in8_of {f : Nat → Int} {n : Nat} (h : ∀ j, j < n → (Lit.int .i8 (f j)).wf = true) : ∀ j, j < n → -128 ≤ f j ∧ f j ≤ 127 := fun j hj => by
  simpa [Lit.wf, IntKind.min, IntKind.max, IntKind.signed, IntKind.bits] using h j hj
/-- Two rows that grow, apart from one another, each as long as it is. -/
def OwnIJ (y0 w : World) (a : Option Addr) (k c : Nat) (f : Nat → Int) (a2 : Option Addr) (k2 c2 : Nat) (f2 : Nat → Int) : Prop :=
  OwnI y0 w a k c f ∧ OwnI y0 w a2 k2 c2 f2 ∧ ∀ b, (Value.slice a k c).ownBlock = some b → (Value.slice a2 k2 c2).ownBlock ≠ some b
theorem OwnIJ.nil (y0 : World) (f f2 : Nat → Int) : OwnIJ y0 y0 none 0 0 f none 0 0 f2 := ⟨OwnI.nil _ _, OwnI.nil _ _, fun b h => by cases h⟩
theorem OwnIJ.symm {y0 w : World} {a a2 : Option Addr} {k c k2 c2 : Nat} {f f2 : Nat → Int} (h : OwnIJ y0 w a k c f a2 k2 c2 f2) : OwnIJ y0 w a2 k2 c2 f2 a k c f := ⟨h.2.1, h.1, fun b hb e => h.2.2 b e hb⟩
theorem appL_step {y0 wr : World} {a a2 : Option Addr} {k c k2 c2 : Nat} {f f2 : Nat → Int} (h : OwnIJ y0 wr a k c f a2 k2 c2 f2) {x : Int} (hx : x = f k) (hk : k + 1 ≤ 1000000) :
    ∃ a' c' y1, (Builtin.append_ #[22, 22] 22 #[.slice a k c, .slice (some ⟨wr.heap.size, 0, none⟩) 1 1]).run Tryz.prog (wr.alloc (.cells #[.int .i64 x] 3)) = .ok (.slice a' (k + 1) c') y1 ∧ OwnIJ y0 y1 a' (k + 1) c' f a2 k2 c2 f2 := by
  obtain ⟨h1, h2, hap⟩ := h
  obtain ⟨i0, hi, hz0, hz1, hz2⟩ := info_parts infoI
  have hb : Below wr.heap.size wr (wr.alloc (.cells #[.int .i64 x] 3)) := (Below.refl _ _).alloc (Nat.le_refl _) _
  have o1 := own_below h1.2 hb
  have o2 := own_below h2.2 hb
  have hs0 := h1.1.size
  obtain ⟨g1, cap1, y1, r1, o1', q1, hor1, hlt1⟩ := run_append_lies (P := Tryz.prog) (wr.alloc (.cells #[.int .i64 x] 3)) 22 22 y0.heap.size 3 i0 _ 1 8 Tryz.underlying22 hi hz0 hz1 hz2 rfl (by omega) (.slice a k c) k _ o1 ⟨wr.heap.size, 0, none⟩ 1 1 [.int .i64 x] rfl (World.news_of_block (Row.new wr 3 #[.int .i64 x])) (by intro u hu; simp at hu; subst hu; rfl) (by omega) (by unfold maxLen; omega) (by omega) (by rw [World.size_alloc]; omega) _ rfl
  have hne1 : (Value.slice a2 k2 c2).ownBlock = none ∨ (Value.slice a2 k2 c2).ownBlock ≠ (Value.slice a k c).ownBlock := by
    cases hv : (Value.slice a k c).ownBlock with
    | none => cases hv2 : (Value.slice a2 k2 c2).ownBlock with
      | none => exact .inl rfl
      | some b => exact .inr (fun e => by cases e)
    | some b => exact .inr (hap b hv)
  have o2' := o2.kept q1 hne1
  have hap1 : (Value.slice a2 k2 c2).ownBlock ≠ some g1 := by
    rcases hor1 with e | e
    · exact hap g1 e
    · intro e2
      have := (o2.lt g1 e2).2
      omega
  have b1 : Below y0.heap.size y0 y1 := (h1.1.trans (hb.mono hs0)).grown q1 (by rw [World.size_alloc]; omega) (fun q hq => (o1.lt q hq).1)
  have e1 : kcs .i64 f k ++ [.int .i64 x] = kcs .i64 f (k + 1) := by rw [hx]; rfl
  rw [e1] at o1'
  refine ⟨some ⟨g1, 0, none⟩, cap1, y1, r1, ⟨b1, o1'⟩, ⟨b1, o2'⟩, fun b hb e => ?_⟩
  have ea : g1 = b := by simpa [Value.ownBlock] using hb
  subst ea
  exact hap1 e
theorem kcs_app9 (ki : IntKind) {F f g : Nat → Int} {k : Nat} (h1 : ∀ j, j < k → F j = f j) : ∀ {m : Nat}, (∀ j, j < m → F (k + j) = g j) → kcs ki f k ++ kcs ki g m = kcs ki F (k + m)
  | 0, _ => by
    have : ∀ n, n ≤ k → kcs ki f n = kcs ki F n := by
      intro n
      induction n with
      | zero => intro _; rfl
      | succ n ih => intro hn; unfold kcs; rw [ih (by omega), h1 n (by omega)]
    rw [show kcs ki g 0 = [] from rfl, List.append_nil]
    exact this k (Nat.le_refl _)
  | m + 1, h2 => by
    have ih := kcs_app9 ki h1 (g := g) (m := m) (fun j hj => h2 j (by omega))
    show kcs ki f k ++ (kcs ki g m ++ [.int ki (g m)]) = kcs ki F (k + m) ++ [.int ki (F (k + m))]
    rw [← List.append_assoc, ih, h2 m (by omega)]
/-- A row laid behind one that grows. -/
theorem own_more {y0 wr : World} {a a2 : Option Addr} {k c m c2 N : Nat} {f g F : Nat → Int} (h : OwnI y0 wr a k c f) (h2 : KRow wr .i64 a2 m c2 g) (hN : k + m = N) (hm : N ≤ 1000000) (e1 : ∀ j, j < k → F j = f j) (e2 : ∀ j, j < m → F (k + j) = g j) :
    ∃ a' c' y1, (Builtin.append_ #[22, 22] 22 #[.slice a k c, .slice a2 m c2]).run Tryz.prog wr = .ok (.slice a' N c') y1 ∧ OwnI y0 y1 a' N c' F := by
  have hs0 := h.1.size
  have ek := kcs_app9 .i64 e1 e2
  subst hN
  cases a2 with
  | none =>
    have hm : m = 0 := by
      rcases h2.2.2 with h | ⟨_, _, h, _⟩
      · exact h
      · cases h
    subst hm
    have ho := h.2
    rw [show kcs .i64 g 0 = [] from rfl, List.append_nil] at ek
    rw [ek] at ho
    exact ⟨_, _, _, run_append_none9 y0.heap.size _ _ _ c2 ho, h.1, ho⟩
  | some ad =>
    obtain ⟨v', w', r1, r2, r3⟩ := run_append_krow 22 y0.heap.size _ k _ h.2 (some ad) m c2 g h2 (fun e => by cases e) hm hs0
    rw [ek] at r2
    obtain ⟨a', c', rfl, _⟩ := KRow.of_own r2
    exact ⟨a', c', w', r1, h.1.grown r3 (by omega) (fun q hq => (h.2.lt q hq).1), r2⟩
/-- How many of the truths count, at most so many; and which. -/
def ctN (b : Nat → Bool) (n : Nat) : Nat → Nat
  | 0 => 0
  | t + 1 => if b t = true ∧ ctN b n t < n then ctN b n t + 1 else ctN b n t
def ctP (b : Nat → Bool) (n : Nat) : Nat → Int := fun t => if b t = true ∧ ctN b n t < n then 1 else 0
theorem ctP_bit (b : Nat → Bool) (n t : Nat) : ctP b n t = 0 ∨ ctP b n t = 1 := by unfold ctP; split <;> simp
theorem ctN_le (b : Nat → Bool) (n : Nat) : ∀ t, ctN b n t ≤ n ∧ ctN b n t ≤ t
  | 0 => ⟨Nat.zero_le _, Nat.le_refl _⟩
  | t + 1 => by
    have := ctN_le b n t
    unfold ctN
    split <;> omega
theorem kpN_ct (b : Nat → Bool) (n : Nat) : ∀ t, kpN (ctP b n) t = ctN b n t
  | 0 => rfl
  | t + 1 => by
    show (if ctP b n t = 1 then kpN (ctP b n) t + 1 else kpN (ctP b n) t) = (if b t = true ∧ ctN b n t < n then ctN b n t + 1 else ctN b n t)
    rw [kpN_ct b n t]
    unfold ctP
    by_cases h : b t = true ∧ ctN b n t < n
    · rw [if_pos h, if_pos h, if_pos rfl]
    · rw [if_neg h, if_neg h, if_neg (by decide)]
theorem shownL {w : World} {cs p : Array Value} {n : Nat} {f : Nat → Int} (h : LArr w cs n f) (hp : ∀ T, Pln w p (fun _ => (n : Int)) 1 false n T (fun j => rB (f j)) (fun j => rS (f j)) (fun _ => str (dec 1))) (hL : n ≤ 1000) (hP : ∀ j, j < n → (f j).natAbs ≤ 1000) : Shown w cs p := by
  refine ⟨_, 1, false, n, fun _ => 0, f, fun _ => 1, fun _ => (n : Int), fun _ => 0, _, _, _, h, hp _, by omega, by omega, fun _ j hj => ?_, fun j hj => rfl, fun _ _ => rfl, fun j hj => ⟨rfl, rfl, rfl⟩⟩
  have := hP j hj
  refine ⟨Nat.one_pos, ?_, (by decide : (1 : Nat) < 4294967296 ^ 7)⟩
  have : (1000 : Nat) < 4294967296 ^ 7 := by decide
  omega
end Go.Proofs.YtpmcbnliogjknaaGreatDoor
