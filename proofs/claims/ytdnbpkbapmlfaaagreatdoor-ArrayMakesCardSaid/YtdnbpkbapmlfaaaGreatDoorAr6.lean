/-
  Package array: Pick of numbers, Rank, Whole, Bytes, by contract.
-/
import Derived.Test.YtdnbpkbapmlfaaaGreatDoorAr5
namespace Go.Proofs.YtdnbpkbapmlfaaaGreatDoor
open Go.RowKit

set_option maxHeartbeats 1600000 in
set_option maxRecDepth 100000 in
theorem pickN_any (cs : Array Value) (f : Nat → Int) (r n : Nat) (fP : Nat → Int) (fQ : Nat → Nat) (sa : Option Addr) (sr sc : Nat) (S : Nat → Int) (ta : Option Addr) (tn tc : Nat) (g : Nat → Int) (w : World) (h : NumArr w cs f r n fP fQ)
    (hs : KRow w .i64 sa sr sc S) (hS : In64 S sr) (ht : KRow w .i64 ta tn tc g) (hg : In64 g tn) (hn : tn ≤ 1000000) :
    Calls Tryz.prog 42 #[.agg cs, .slice sa sr sc, .slice ta tn tc] w fun e w' => NumsTold (shB S sr && decide (itm S sr = tn)) S sr tn (fun j => elP n fP (g j)) (fun j => elQ n fQ (g j)) w w' e := by
  have HA := Lib.hid h
  obtain ⟨na, nc, rfl, hr⟩ := h
  have PR := Lib.hid (fun wz h h2 => pickRats_any (arrC false ((r : Int) - 1) (dm f r) na n nc none 0 0) f r n fP fQ ta tn tc g wz h h2 hg hn)
  have NU := Lib.hid (fun la lc wz (h : KRow wz .i64 sa sr sc S) h2 => nums_any sa sr sc S la tn lc (fun j => elP n fP (g j)) (fun j => elQ n fQ (g j)) wz h hS h2 hn)
  unfold NumsTold at NU
  have HS := Lib.hid hs
  have HT := Lib.hid ht
  have BB := Lib.hid (((Bag.start w).newRow (arrC false ((r : Int) - 1) (dm f r) na n nc none 0 0) 50).newRow zerC 50)
  simp only [World.size_alloc] at BB
  generalize hb : (shB S sr && decide (itm S sr = tn)) = b at *
  have HR1 := Lib.hid BB.out.now.2.1
  clear hr hs hS ht hg hb
  unfold arrC
  go_enter Tryz.func42, Tryz.ntmps42
  go_wp2_with (refine ld_arr rfl (.tmp 3) rfl w.heap.size rfl HR1.out ?_)
  go_at_call 84
  (with_reducible refine (PR.out _ ?_ ?_).mono ?_)
  · exact HA.out.below BB.out.below
  · exact HT.out.below BB.out.below
  rintro e w2 ⟨a2, c2, rfl, hr2, hb2⟩
  have BB := Lib.hid ((BB.out.go hb2).rrow hr2)
  clear hr2 hb2
  go_wp2_with fail
  go_at_call 73
  (with_reducible refine (NU.out _ _ _ ?_ ?_).mono ?_)
  · exact HS.out.below BB.out.below
  · exact BB.out.now.1
  rintro e w3 ⟨cs3, rfl, hcs, hb3⟩
  have B3 := BB.out.go hb3
  have hr0 := B3.now.2.1
  have HR0 := Lib.hid hr0
  have HBL := Lib.hid B3.below
  have HE : Hid (∃ ch more d na nn nc ta tn' tc, cs3 = arrC ch more d na nn nc ta tn' tc ∧ NumsTold b S sr tn (fun j => elP n fP (g j)) (fun j => elQ n fQ (g j)) w (w3.setRow (w.heap.size + 1) cs3) (.returned (.tuple #[.agg cs3, .bool b]))) := by
    cases b with
    | false =>
      rw [if_neg (by decide)] at hcs
      subst hcs
      exact ⟨false, 0, fun _ => 0, none, 0, 0, none, 0, 0, rfl, zerC, rfl, by rw [if_neg (by decide)], below_put HBL.out (Nat.le_succ _) _⟩
    | true =>
      rw [if_pos rfl] at hcs
      obtain ⟨na3, nc3, rfl, hr3⟩ := hcs
      exact ⟨_, _, _, _, _, _, _, _, _, rfl, _, rfl, by rw [if_pos rfl]; exact ⟨na3, nc3, rfl, hr3.away (Row.noLimb hr0) (hr3.ne hr0) (Far.setRow _ _ _)⟩, below_put HBL.out (Nat.le_succ _) _⟩
  clear hcs hb3 B3 hr0
  obtain ⟨ch, more, d, na3, nn3, nc3, ta3, tn3, tc3, rfl, HE⟩ := HE.out
  have HE := Lib.hid HE
  go_wp2_with (refine st_arr rfl (.tmp 6) (.tmp 22) rfl (w.heap.size + 1) rfl _ _ _ _ _ _ _ _ _ rfl HR0.out rfl ?_)
  exact bodyPost_ret (res_arr2 Tryz.results42 rfl rfl (HR0.out.put _) rfl) rfl HE.out

set_option maxHeartbeats 1600000 in
set_option maxRecDepth 100000 in
theorem rank_any (ch : Bool) (d : Nat → Int) (r : Nat) (na : Option Addr) (nn nc : Nat) (ta : Option Addr) (tn tc : Nat) (w : World) (hr : r ≤ 1000) :
    Calls Tryz.prog 27 #[.agg (arrC ch ((r : Int) - 1) d na nn nc ta tn tc)] w fun e w' => e = .returned (.int .i64 r) ∧ Below w.heap.size w w' := by
  have HB : Hid (Below w.heap.size w (w.alloc (.cells (arrC ch ((r : Int) - 1) d na nn nc ta tn tc) 50))) := (Below.refl _ _).alloc (Nat.le_refl _) _
  have HE : Hid (1 + ((r : Int) - 1) = r) := by show _ = _; omega
  unfold arrC at HB
  unfold arrC
  go_enter Tryz.func27, Tryz.ntmps27
  go_wp2
  go_ret
  exact ⟨ret_int HE.out, HB.out⟩

/-- A row of n integers in the making: the first k are laid. -/
def KTo (w : World) (g n k : Nat) (f : Nat → Int) : Prop := g < w.heap.size ∧ Free w g ∧ ∀ j, j < n → ∃ z, w.cell? ⟨g, j, none⟩ = some (.int .i64 z) ∧ (j < k → z = f j)
theorem KTo.below {w w' : World} {g n k : Nat} {f : Nat → Int} (h : KTo w g n k f) (hb : Below w.heap.size w w') : KTo w' g n k f := by
  obtain ⟨h1, h2, h3⟩ := h
  refine ⟨Nat.lt_of_lt_of_le h1 hb.size, h2.below hb h1, fun j hj => ?_⟩
  obtain ⟨z, e1, e2⟩ := h3 j hj
  exact ⟨z, (hb.cell (p := ⟨g, _, none⟩) h1).trans e1, e2⟩
theorem KTo.step {w : World} {g n k : Nat} {f : Nat → Int} (h : KTo w g n k f) (hk : k < n) : KTo (w.setCell ⟨g, k, none⟩ (.int .i64 (f k))) g n (k + 1) f := by
  obtain ⟨h1, h2, h3⟩ := h
  refine ⟨by simpa using h1, h2.set _ _, fun j hj => ?_⟩
  by_cases e : j = k
  · subst e
    obtain ⟨z, e1, _⟩ := h3 j hj
    exact ⟨f j, World.cell?_setCell_same _ _ _ e1, fun _ => rfl⟩
  · obtain ⟨z, e1, e2⟩ := h3 j hj
    exact ⟨z, by rw [World.cell?_setCell_other _ _ _ _ (fun h => by injection h with _ h; omega)]; exact e1, fun h => e2 (by omega)⟩
theorem KTo.done {w : World} {g n : Nat} {f : Nat → Int} (h : KTo w g n n f) (hn : n ≤ maxLen) : KRow w .i64 (some ⟨g, 0, none⟩) n n f := by
  refine ⟨Nat.le_refl _, hn, .inr ⟨g, 0, rfl, h.1, fun j hj => ?_⟩⟩
  obtain ⟨z, e1, e2⟩ := h.2.2 j hj
  rw [Nat.zero_add, e1, e2 hj]
theorem KTo.made (w : World) (n : Nat) (t : TypeId) (f : Nat → Int) {mc : Array Value} (hmc : mc = madeCells (Value.cells (.int .i64 0)) n) : KTo (w.alloc (.cells mc t)) w.heap.size n 0 f := by
  subst hmc
  have hR := Row.new w t (madeCells (Value.cells (.int .i64 0)) n)
  refine ⟨hR.lt, fun o => hR.free o, fun j hj => ⟨0, ?_, fun h => absurd h (Nat.not_lt_zero _)⟩⟩
  rw [hR.cell]
  unfold madeCells
  rw [Array.getElem?_map, Array.getElem?_range, if_pos (by omega), Option.map_some]
  simp [Value.cells, Nat.mod_one]
theorem KTo.place {w : World} {g n k : Nat} {f : Nat → Int} (h : KTo w g n k f) {j : Nat} (hj : j < n) : (∃ z, w.cell? ⟨g, j, none⟩ = some (.int .i64 z)) ∧ w.frozen? ⟨g, j, none⟩ = false := by
  obtain ⟨z, e1, _⟩ := h.2.2 j hj
  exact ⟨⟨z, e1⟩, h.2.1 _⟩
theorem Bag.kto {w0 w : World} {B : World → Prop} {g n k : Nat} {f : Nat → Int} (h : Bag w0 B w) (q : KTo w g n k f) : Bag w0 (fun y => KTo y g n k f ∧ B y) w := h.add (fun _ _ hb q => KTo.below q hb) q

/-- Are the first numbers all integers of 64 bits? -/
def whB (fP : Nat → Int) (fQ : Nat → Nat) : Nat → Bool
  | 0 => true
  | k + 1 => whB fP fQ k && (decide (fQ k = 1) && fitB (fP k))
theorem whB_le {fP : Nat → Int} {fQ : Nat → Nat} : ∀ {k m : Nat}, k ≤ m → whB fP fQ m = true → whB fP fQ k = true := by
  intro k m
  induction m with
  | zero => intro h h2; obtain rfl : k = 0 := by omega
            exact h2
  | succ m ih =>
    intro h h2
    rcases Nat.lt_or_ge k (m + 1) with h3 | h3
    · refine ih (by omega) ?_
      unfold whB at h2
      rw [Bool.and_eq_true] at h2
      exact h2.1
    · obtain rfl : k = m + 1 := by omega
      exact h2
/-- What Whole answers. -/
def WhTold (b : Bool) (n : Nat) (fP : Nat → Int) (w w' : World) (e : Ending) : Prop := ∃ a m c, e = .returned (.tuple #[.slice a m c, .bool b]) ∧ (if b then m = n ∧ KRow w' .i64 a n c fP else a = none ∧ m = 0 ∧ c = 0) ∧ Below w.heap.size w w'

set_option maxHeartbeats 1600000 in
set_option maxRecDepth 100000 in
theorem whole6_any (cs : Array Value) (f : Nat → Int) (r n : Nat) (fP : Nat → Int) (fQ : Nat → Nat) (w : World) (h : NumArr w cs f r n fP fQ) (hQ : ∀ j, j < n → 0 < fQ j) (hn : n ≤ 1000000) :
    Calls Tryz.prog 21 #[.agg cs] w fun e w' => WhTold (whB fP fQ n) n fP w w' e := by
  obtain ⟨i0, hi, hz0, hz1, hz2⟩ := info_parts infoI
  have hmk := fun wz => run_make (P := Tryz.prog) wz 43 3 i0 _ Tryz.underlying43 hi hz0 .i64 .i64 n n (by omega) (by omega) (by rw [hz2]; omega) (by omega)
  simp only [Int.toNat_natCast, hz1, Nat.mul_one] at hmk
  obtain ⟨na, nc, rfl, hr⟩ := h
  have HR := Lib.hid hr
  have hl := hr.len
  have HQ := Lib.hid hQ
  have IN := Lib.hid (fun a n c m a2 n2 c2 P Q wz h hq => ratInt_any a n c m a2 n2 c2 P Q wz h hq)
  have hR0 : Row (w.alloc (.cells (arrC false ((r : Int) - 1) (dm f r) na n nc none 0 0) 50)) w.heap.size 50 _ := Row.new _ _ _
  have H0 : Hid (Below w.heap.size w ((w.alloc (.cells (arrC false ((r : Int) - 1) (dm f r) na n nc none 0 0) 50)).alloc (.cells (madeCells (Value.cells (.int .i64 0)) n) 3)) ∧ KTo ((w.alloc (.cells (arrC false ((r : Int) - 1) (dm f r) na n nc none 0 0) 50)).alloc (.cells (madeCells (Value.cells (.int .i64 0)) n) 3)) (w.heap.size + 1) n 0 fP ∧ whB fP fQ 0 = true) :=
    ⟨((Below.refl _ _).alloc (Nat.le_refl _) _).alloc (by simp) _, by have := KTo.made (w.alloc (.cells (arrC false ((r : Int) - 1) (dm f r) na n nc none 0 0) 50)) n 3 fP rfl; rwa [World.size_alloc] at this, rfl⟩
  unfold arrC at H0
  unfold arrC
  clear hr hi hz0 hz1 hz2 hR0 hQ
  go_enter Tryz.func21, Tryz.ntmps21
  go_wp2_with fail
  go_loopw [20] (fun i wr => ∃ k : Nat, k ≤ n ∧ i = .int .i64 k ∧ Hid (Below w.heap.size w wr ∧ KTo wr (w.heap.size + 1) n k fP ∧ whB fP fQ k = true)) (fun i _ => n - (intOf i).toNat)
  case atStart => exact ⟨0, by omega, rfl, H0.out⟩
  case round =>
    obtain ⟨k, hk, rfl, hrel⟩ := hrel
    obtain ⟨hbl, hto, hwh⟩ := hrel.out
    have hwr := hbl.size
    by_cases hlt : k < n
    · obtain ⟨b, off, a', n', c', m', a2', n2', c2', rfl, hlb, e1, e2, e3, hi'⟩ := (HR.out.below hbl).get hlt
      have BB := Lib.hid ((((Bag.start wr).kto hto).rat hi').alloc (.cells #[.slice a' n' c', .bool m', .slice a2' n2' c2'] 30))
      have HBL := Lib.hid hbl
      have HWH := Lib.hid hwh
      clear hbl hto hi' hwh
      go_wp2_with fail
      go_at_call 74
      (with_reducible refine (IN.out _ _ _ _ _ _ _ (fP k) (fQ k) _ ?_ ?_).mono ?_)
      · exact BB.out.now.1
      · exact HQ.out k hlt
      rintro e w2 ⟨rfl, hb2⟩
      have B2 := BB.out.go hb2
      have hto := B2.now.2.1
      obtain ⟨⟨z, x1⟩, y1⟩ := hto.place hlt
      have hbb := HBL.out.trans (B2.below.mono hwr)
      by_cases hok : (decide (fQ k = 1) && fitB (fP k)) = true
      · have hv : (if fQ k = 1 then fitI (fP k) else 0) = fP k := by
          rw [Bool.and_eq_true, decide_eq_true_eq] at hok
          rw [if_pos hok.1]; unfold fitI; rw [if_pos hok.2]
        have HN : Hid (Below w.heap.size w (w2.setCell ⟨w.heap.size + 1, k, none⟩ (.int .i64 (fP k))) ∧ KTo (w2.setCell ⟨w.heap.size + 1, k, none⟩ (.int .i64 (fP k))) (w.heap.size + 1) n (k + 1) fP ∧ whB fP fQ (k + 1) = true) :=
          ⟨hbb.setCell (p := ⟨w.heap.size + 1, k, none⟩) (Nat.le_succ _) _, hto.step hlt, by show (whB fP fQ k && _) = true; rw [HWH.out, hok]; rfl⟩
        rw [hok, hv]
        clear hto hb2 B2 hbb hv hok e1 e2 e3
        generalize fP k = x at *
        go_wp2
        go_roundw
        case rel => exact ⟨k + 1, by omega, by go_num, HN.out⟩
        case measure => simp [intOf]; omega
      · rw [Bool.not_eq_true] at hok
        have hno : whB fP fQ n = false := by
          cases hx : whB fP fQ n with
          | false => rfl
          | true =>
            have := whB_le (k := k + 1) (by omega) hx
            unfold whB at this
            rw [hok, Bool.and_false] at this
            exact this.symm
        rw [hok]
        have HE : Hid (WhTold (whB fP fQ n) n fP w w2 (.returned (.tuple #[.slice none 0 0, .bool false]))) := by
          rw [hno]
          exact ⟨_, _, _, rfl, by rw [if_neg (by decide)]; exact ⟨rfl, rfl, rfl⟩, hbb⟩
        generalize (if fQ k = 1 then fitI (fP k) else 0) = x at *
        clear hto hb2 B2 hbb hno hok e1 e2 e3
        go_wp2
        go_ret2
        exact HE.out
    · obtain rfl : k = n := by omega
      have HE : Hid (WhTold (whB fP fQ k) k fP w wr (.returned (.tuple #[.slice (some ⟨w.heap.size + 1, 0, none⟩) k k, .bool true]))) := by
        rw [hwh]
        exact ⟨_, _, _, rfl, by rw [if_pos rfl]; exact ⟨rfl, hto.done (by unfold maxLen; omega)⟩, hbl⟩
      clear hbl hto hwh
      go_wp2
      go_ret2
      exact HE.out

end Go.Proofs.YtdnbpkbapmlfaaaGreatDoor
