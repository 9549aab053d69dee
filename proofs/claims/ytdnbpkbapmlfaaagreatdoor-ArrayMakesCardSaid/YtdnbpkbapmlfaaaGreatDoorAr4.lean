/-
  Package array: Rat, pickRats, Ints, Pick of numbers, by contract.
-/
import Derived.Test.YtdnbpkbapmlfaaaGreatDoorAr3
namespace Go.Proofs.YtdnbpkbapmlfaaaGreatDoor
open Go.RowKit

/-- The element at an index, 0 where there is none. -/
def elP (n : Nat) (fP : Nat → Int) (i : Int) : Int := if 0 ≤ i ∧ i < n then fP i.toNat else 0
def elQ (n : Nat) (fQ : Nat → Nat) (i : Int) : Nat := if 0 ≤ i ∧ i < n then fQ i.toNat else 1
theorem RatAt.nought (w : World) : RatAt w none 0 0 false none 0 0 0 1 := ⟨⟨rfl, NatIs.zero w⟩, NatIs.zero w⟩

set_option maxHeartbeats 1600000 in
set_option maxRecDepth 100000 in
theorem elem_any (cs : Array Value) (f : Nat → Int) (r n : Nat) (fP : Nat → Int) (fQ : Nat → Nat) (i : Int) (w : World) (h : NumArr w cs f r n fP fQ) :
    Calls Tryz.prog 32 #[.agg cs, .int .i64 i] w fun e w' => RatTold w w' e (elP n fP i) (elQ n fQ i) := by
  obtain ⟨na, nc, rfl, hr⟩ := h
  have hl := hr.len
  by_cases hin : 0 ≤ i ∧ i < n
  · unfold elP elQ
    rw [if_pos hin, if_pos hin]
    obtain ⟨h0, h1⟩ := hin
    obtain ⟨k, rfl⟩ : ∃ k : Nat, i = k := ⟨i.toNat, by omega⟩
    have hk : k < n := by omega
    rw [show ((k : Int)).toNat = k from rfl]
    obtain ⟨b, off, a', n', c', m', a2', n2', c2', rfl, hb, e1, e2, e3, hq⟩ := hr.get hk
    have d1 : ¬ ((k : Int) < 0) := by omega
    have d2 : ¬ ((n : Int) ≤ k) := by omega
    have B0 := ((((Bag.start w).rat hq).alloc (.cells (arrC false ((r : Int) - 1) (dm f r) (some ⟨b, off, none⟩) n nc none 0 0) 50)).alloc (.cells #[.slice a' n' c', .bool m', .slice a2' n2' c2'] 30))
    have HE : Hid (RatTold w ((w.alloc (.cells (arrC false ((r : Int) - 1) (dm f r) (some ⟨b, off, none⟩) n nc none 0 0) 50)).alloc (.cells #[.slice a' n' c', .bool m', .slice a2' n2' c2'] 30)) (.returned (.agg #[.slice a' n' c', .bool m', .slice a2' n2' c2'])) (fP k) (fQ k)) :=
      ⟨a', n', c', m', a2', n2', c2', rfl, B0.now.1, B0.below⟩
    unfold arrC at HE
    unfold arrC
    clear hr hq B0
    go_enter Tryz.func32, Tryz.ntmps32
    go_wp2
    exact bodyPost_ret (v := .agg #[.slice a' n' c', .bool m', .slice a2' n2' c2']) (by simp [results, Tryz.results32, go_sem]) rfl HE.out
  · unfold elP elQ
    rw [if_neg hin, if_neg hin]
    have B0 := (((Bag.start w).alloc (.cells (arrC false ((r : Int) - 1) (dm f r) na n nc none 0 0) 50)).alloc (.cells #[.slice none 0 0, .bool false, .slice none 0 0] 30))
    have HE : Hid (RatTold w ((w.alloc (.cells (arrC false ((r : Int) - 1) (dm f r) na n nc none 0 0) 50)).alloc (.cells #[.slice none 0 0, .bool false, .slice none 0 0] 30)) (.returned (.agg #[.slice none 0 0, .bool false, .slice none 0 0])) 0 1) :=
      ⟨_, _, _, _, _, _, _, rfl, RatAt.nought _, B0.below⟩
    unfold arrC at HE
    unfold arrC
    clear hr B0
    by_cases h0 : i < 0
    · clear hin
      go_enter Tryz.func32, Tryz.ntmps32
      go_wp2
      exact bodyPost_ret (v := .agg #[.slice none 0 0, .bool false, .slice none 0 0]) (by simp [results, Tryz.results32, go_sem]) rfl HE.out
    · have d2 : (n : Int) ≤ i := by omega
      clear hin
      go_enter Tryz.func32, Tryz.ntmps32
      go_wp2
      exact bodyPost_ret (v := .agg #[.slice none 0 0, .bool false, .slice none 0 0]) (by simp [results, Tryz.results32, go_sem]) rfl HE.out

/-- A row of n numbers in the making: the first k are laid. -/
def RatsTo (w : World) (g n k : Nat) (fP : Nat → Int) (fQ : Nat → Nat) : Prop := g < w.heap.size ∧ Free w g ∧ ∀ j, j < n → ∃ a n' c m a2 n2 c2, w.cell? ⟨g, j * 3, none⟩ = some (.slice a n' c) ∧ w.cell? ⟨g, j * 3 + 1, none⟩ = some (.bool m) ∧ w.cell? ⟨g, j * 3 + 2, none⟩ = some (.slice a2 n2 c2) ∧ (j < k → RatAt w a n' c m a2 n2 c2 (fP j) (fQ j))
theorem RatsTo.below {w w' : World} {g n k : Nat} {fP : Nat → Int} {fQ : Nat → Nat} (h : RatsTo w g n k fP fQ) (hb : Below w.heap.size w w') : RatsTo w' g n k fP fQ := by
  obtain ⟨h1, h2, h3⟩ := h
  refine ⟨Nat.lt_of_lt_of_le h1 hb.size, h2.below hb h1, fun j hj => ?_⟩
  obtain ⟨a, n', c, m, a2, n2, c2, e1, e2, e3, e4⟩ := h3 j hj
  exact ⟨a, n', c, m, a2, n2, c2, (hb.cell (p := ⟨g, _, none⟩) h1).trans e1, (hb.cell (p := ⟨g, _, none⟩) h1).trans e2, (hb.cell (p := ⟨g, _, none⟩) h1).trans e3, fun hk => (e4 hk).below hb⟩
/-- The next number laid. -/
theorem RatsTo.step {w : World} {g n k : Nat} {fP : Nat → Int} {fQ : Nat → Nat} (h : RatsTo w g n k fP fQ) (hk : k < n) {a : Option Addr} {n' c : Nat} {m : Bool} {a2 : Option Addr} {n2 c2 : Nat} (hr : RatAt w a n' c m a2 n2 c2 (fP k) (fQ k)) :
    RatsTo (((w.setCell ⟨g, k * 3, none⟩ (.slice a n' c)).setCell ⟨g, k * 3 + 1, none⟩ (.bool m)).setCell ⟨g, k * 3 + 2, none⟩ (.slice a2 n2 c2)) g n (k + 1) fP fQ := by
  obtain ⟨h1, h2, h3⟩ := h
  obtain ⟨b, l, d, v, b2, l2, d2, x1, x2, x3, _⟩ := h3 k hk
  have keep : ∀ v N, NatIs w v N → NatIs (((w.setCell ⟨g, k * 3, none⟩ (.slice a n' c)).setCell ⟨g, k * 3 + 1, none⟩ (.bool m)).setCell ⟨g, k * 3 + 2, none⟩ (.slice a2 n2 c2)) v N := by
    intro u N hN
    refine ((hN.storeAt x1 (fun _ _ h => by cases h) _).storeAt (x := .bool v) ?_ (fun _ _ h => by cases h) _).storeAt (x := .slice b2 l2 d2) ?_ (fun _ _ h => by cases h) _
    · rw [World.cell?_setCell_other _ _ _ _ (fun e => by injection e with _ e; omega)]; exact x2
    · rw [World.cell?_setCell_other _ _ _ _ (fun e => by injection e with _ e; omega), World.cell?_setCell_other _ _ _ _ (fun e => by injection e with _ e; omega)]; exact x3
  have keepR : ∀ a n c m a2 n2 c2 P Q, RatAt w a n c m a2 n2 c2 P Q → RatAt _ a n c m a2 n2 c2 P Q := fun _ _ _ _ _ _ _ _ _ hq => ⟨⟨hq.1.1, keep _ _ hq.1.2⟩, keep _ _ hq.2⟩
  refine ⟨by simpa using h1, ((h2.set _ _).set _ _).set _ _, fun j hj => ?_⟩
  by_cases e : j = k
  · subst e
    refine ⟨a, n', c, m, a2, n2, c2, ?_, ?_, ?_, fun _ => keepR _ _ _ _ _ _ _ _ _ hr⟩
    · rw [World.cell?_setCell_other _ _ _ _ (fun e => by injection e with _ e; omega), World.cell?_setCell_other _ _ _ _ (fun e => by injection e with _ e; omega)]
      exact World.cell?_setCell_same _ _ _ x1
    · rw [World.cell?_setCell_other _ _ _ _ (fun e => by injection e with _ e; omega)]
      refine World.cell?_setCell_same (u := .bool v) _ _ _ ?_
      rw [World.cell?_setCell_other _ _ _ _ (fun e => by injection e with _ e; omega)]
      exact x2
    · refine World.cell?_setCell_same (u := .slice b2 l2 d2) _ _ _ ?_
      rw [World.cell?_setCell_other _ _ _ _ (fun e => by injection e with _ e; omega), World.cell?_setCell_other _ _ _ _ (fun e => by injection e with _ e; omega)]
      exact x3
  · obtain ⟨a', n9, c', m', a2', n2', c2', e1, e2, e3, e4⟩ := h3 j hj
    have far : ∀ o, (o = j * 3 ∨ o = j * 3 + 1 ∨ o = j * 3 + 2) → (((w.setCell ⟨g, k * 3, none⟩ (.slice a n' c)).setCell ⟨g, k * 3 + 1, none⟩ (.bool m)).setCell ⟨g, k * 3 + 2, none⟩ (.slice a2 n2 c2)).cell? ⟨g, o, none⟩ = w.cell? ⟨g, o, none⟩ := by
      intro o ho
      rw [World.cell?_setCell_other _ _ _ _ (fun e => by injection e with _ e; omega), World.cell?_setCell_other _ _ _ _ (fun e => by injection e with _ e; omega), World.cell?_setCell_other _ _ _ _ (fun e => by injection e with _ e; omega)]
    exact ⟨a', n9, c', m', a2', n2', c2', (far _ (.inl rfl)).trans e1, (far _ (.inr (.inl rfl))).trans e2, (far _ (.inr (.inr rfl))).trans e3, fun hj' => keepR _ _ _ _ _ _ _ _ _ (e4 (by omega))⟩
theorem RatsTo.done {w : World} {g n : Nat} {fP : Nat → Int} {fQ : Nat → Nat} (h : RatsTo w g n n fP fQ) (hn : n ≤ maxLen) : RRow w (some ⟨g, 0, none⟩) n n fP fQ := by
  refine ⟨Nat.le_refl _, hn, .inr ⟨g, 0, rfl, h.1, fun j hj => ?_⟩⟩
  obtain ⟨a, n', c, m, a2, n2, c2, e1, e2, e3, e4⟩ := h.2.2 j hj
  rw [Nat.zero_add]
  exact ⟨a, n', c, m, a2, n2, c2, e1, e2, e3, e4 hj⟩
theorem made3 {n i : Nat} (h : i < n * 3) : (madeCells (Value.cells (.agg #[.slice none 0 0, .bool false, .slice none 0 0])) (n * 3))[i]? = some (#[Value.slice none 0 0, .bool false, .slice none 0 0][i % 3]!) := by
  unfold madeCells
  rw [Array.getElem?_map, Array.getElem?_range, if_pos h]
  rfl
theorem RatsTo.made (w : World) (n : Nat) (t : TypeId) (fP : Nat → Int) (fQ : Nat → Nat) {mc : Array Value} (hmc : mc = madeCells (Value.cells (.agg #[.slice none 0 0, .bool false, .slice none 0 0])) (n * 3)) : RatsTo (w.alloc (.cells mc t)) w.heap.size n 0 fP fQ := by
  subst hmc
  have hR := Row.new w t (madeCells (Value.cells (.agg #[.slice none 0 0, .bool false, .slice none 0 0])) (n * 3))
  refine ⟨hR.lt, fun o => hR.free o, fun j hj => ⟨none, 0, 0, false, none, 0, 0, ?_, ?_, ?_, fun h => absurd h (Nat.not_lt_zero _)⟩⟩
  · rw [hR.cell, made3 (by omega)]; simp
  · rw [hR.cell, made3 (by omega), show (j * 3 + 1) % 3 = 1 by omega]; rfl
  · rw [hR.cell, made3 (by omega), show (j * 3 + 2) % 3 = 2 by omega]; rfl

/-- The three cells at a place of a row in the making. -/
theorem RatsTo.place {w : World} {g n k : Nat} {fP : Nat → Int} {fQ : Nat → Nat} (h : RatsTo w g n k fP fQ) {j : Nat} (hj : j < n) : (∃ a n' c m a2 n2 c2, w.cell? ⟨g, j * 3, none⟩ = some (.slice a n' c) ∧ w.cell? ⟨g, j * 3 + 1, none⟩ = some (.bool m) ∧ w.cell? ⟨g, j * 3 + 2, none⟩ = some (.slice a2 n2 c2)) ∧ w.frozen? ⟨g, j * 3, none⟩ = false ∧ w.frozen? ⟨g, j * 3 + 1, none⟩ = false ∧ w.frozen? ⟨g, j * 3 + 2, none⟩ = false := by
  obtain ⟨a, n', c, m, a2, n2, c2, e1, e2, e3, _⟩ := h.2.2 j hj
  exact ⟨⟨a, n', c, m, a2, n2, c2, e1, e2, e3⟩, h.2.1 _, h.2.1 _, h.2.1 _⟩

set_option maxHeartbeats 1600000 in
set_option maxRecDepth 100000 in
theorem pickRats_any (cs : Array Value) (f : Nat → Int) (r n : Nat) (fP : Nat → Int) (fQ : Nat → Nat) (sa : Option Addr) (sn sc : Nat) (g : Nat → Int) (w : World) (h : NumArr w cs f r n fP fQ) (hs : KRow w .i64 sa sn sc g) (hg : In64 g sn) (hn : sn ≤ 1000000) :
    Calls Tryz.prog 84 #[.agg cs, .slice sa sn sc] w fun e w' => ∃ a c, e = .returned (.slice a sn c) ∧ RRow w' a sn c (fun j => elP n fP (g j)) (fun j => elQ n fQ (g j)) ∧ Below w.heap.size w w' := by
  obtain ⟨i0, hi, hz0, hz1, hz2⟩ := info_parts infoR
  have hmk := fun wz => run_make (P := Tryz.prog) wz 48 30 i0 _ Tryz.underlying48 hi hz0 .i64 .i64 sn sn (by omega) (by omega) (by rw [hz2]; omega) (by omega)
  simp only [Int.toNat_natCast, hz1] at hmk
  have HA := Lib.hid h
  have HK := Lib.hid hs
  have HG := Lib.hid hg
  have hl := hs.len
  obtain ⟨na, nc, rfl, hr⟩ := h
  have EL := Lib.hid (fun i wz h => elem_any (arrC false ((r : Int) - 1) (dm f r) na n nc none 0 0) f r n fP fQ i wz h)
  unfold RatTold at EL
  have hR0 : Row (w.alloc (.cells (arrC false ((r : Int) - 1) (dm f r) na n nc none 0 0) 50)) w.heap.size 50 _ := Row.new _ _ _
  have H0 : Hid (Below w.heap.size w ((w.alloc (.cells (arrC false ((r : Int) - 1) (dm f r) na n nc none 0 0) 50)).alloc (.cells (madeCells (Value.cells (.agg #[.slice none 0 0, .bool false, .slice none 0 0])) (sn * 3)) 30)) ∧ Row ((w.alloc (.cells (arrC false ((r : Int) - 1) (dm f r) na n nc none 0 0) 50)).alloc (.cells (madeCells (Value.cells (.agg #[.slice none 0 0, .bool false, .slice none 0 0])) (sn * 3)) 30)) w.heap.size 50 (arrC false ((r : Int) - 1) (dm f r) na n nc none 0 0) ∧ RatsTo ((w.alloc (.cells (arrC false ((r : Int) - 1) (dm f r) na n nc none 0 0) 50)).alloc (.cells (madeCells (Value.cells (.agg #[.slice none 0 0, .bool false, .slice none 0 0])) (sn * 3)) 30)) (w.heap.size + 1) sn 0 (fun j => elP n fP (g j)) (fun j => elQ n fQ (g j))) :=
    ⟨((Below.refl _ _).alloc (Nat.le_refl _) _).alloc (by simp) _, hR0.below ((Below.refl _ _).alloc (Nat.le_refl _) _), by have := RatsTo.made (w.alloc (.cells (arrC false ((r : Int) - 1) (dm f r) na n nc none 0 0) 50)) sn 30 (fun j => elP n fP (g j)) (fun j => elQ n fQ (g j)) rfl; rwa [World.size_alloc] at this⟩
  unfold arrC
  clear hr hs hg hi hz0 hz1 hz2 hR0
  go_enter Tryz.func84, Tryz.ntmps84
  go_wp2_with fail
  go_loopw [13] (fun i wr => ∃ k : Nat, k ≤ sn ∧ i = .int .i64 k ∧ Hid (Below w.heap.size w wr ∧ Row wr w.heap.size 50 (arrC false ((r : Int) - 1) (dm f r) na n nc none 0 0) ∧ RatsTo wr (w.heap.size + 1) sn k (fun j => elP n fP (g j)) (fun j => elQ n fQ (g j)))) (fun i _ => sn - (intOf i).toNat)
  case atStart => exact ⟨0, by omega, rfl, H0.out⟩
  case round =>
    obtain ⟨k, hk, rfl, hrel⟩ := hrel
    obtain ⟨hbl, hrow, hto⟩ := hrel.out
    have hwr := hbl.size
    by_cases hlt : k < sn
    · obtain ⟨b, off, rfl, hb, hc⟩ := (HK.out.below hbl).get hlt
      have HAR := HA.out.below hbl
      have BB := Lib.hid ((((Bag.start wr).row hrow).add (fun _ _ hb q => RatsTo.below q hb) hto))
      have HBL := Lib.hid hbl
      have HROW := Lib.hid hrow
      have HARH := Lib.hid HAR
      clear hbl hrow hto HAR
      go_wp2_with (refine ld_arr rfl (.tmp 2) rfl w.heap.size rfl HROW.out ?_)
      go_at_call 32
      (with_reducible refine (EL.out _ _ ?_).mono ?_)
      · exact HARH.out
      rintro e w2 ⟨a2, n2, c2, m2, a3, n3, c3, rfl, hr2, hb2⟩
      have B2 := BB.out.go hb2
      have hto := B2.now.1
      have hrow := B2.now.2.1
      obtain ⟨⟨b1, l1, d1, v1, b2, l2, d2, x1, x2, x3⟩, y1, y2, y3⟩ := hto.place hlt
      have HN : Hid (Below w.heap.size w (((w2.setCell ⟨w.heap.size + 1, k * 3, none⟩ (.slice a2 n2 c2)).setCell ⟨w.heap.size + 1, k * 3 + 1, none⟩ (.bool m2)).setCell ⟨w.heap.size + 1, k * 3 + 2, none⟩ (.slice a3 n3 c3)) ∧
          Row (((w2.setCell ⟨w.heap.size + 1, k * 3, none⟩ (.slice a2 n2 c2)).setCell ⟨w.heap.size + 1, k * 3 + 1, none⟩ (.bool m2)).setCell ⟨w.heap.size + 1, k * 3 + 2, none⟩ (.slice a3 n3 c3)) w.heap.size 50 (arrC false ((r : Int) - 1) (dm f r) na n nc none 0 0) ∧
          RatsTo (((w2.setCell ⟨w.heap.size + 1, k * 3, none⟩ (.slice a2 n2 c2)).setCell ⟨w.heap.size + 1, k * 3 + 1, none⟩ (.bool m2)).setCell ⟨w.heap.size + 1, k * 3 + 2, none⟩ (.slice a3 n3 c3)) (w.heap.size + 1) sn (k + 1) (fun j => elP n fP (g j)) (fun j => elQ n fQ (g j))) :=
        ⟨(((HBL.out.trans (hb2.mono hwr)).setCell (p := ⟨w.heap.size + 1, _, none⟩) (Nat.le_succ _) _).setCell (p := ⟨w.heap.size + 1, _, none⟩) (Nat.le_succ _) _).setCell (p := ⟨w.heap.size + 1, _, none⟩) (Nat.le_succ _) _,
          ((hrow.far (a := ⟨w.heap.size + 1, _, none⟩) (show w.heap.size ≠ w.heap.size + 1 by omega) _).far (a := ⟨w.heap.size + 1, _, none⟩) (show w.heap.size ≠ w.heap.size + 1 by omega) _).far (a := ⟨w.heap.size + 1, _, none⟩) (show w.heap.size ≠ w.heap.size + 1 by omega) _,
          hto.step hlt hr2⟩
      clear hto hrow hr2 hb2 B2 hc
      go_wp2
      go_roundw
      case rel => exact ⟨k + 1, by omega, by go_num, HN.out⟩
      case measure => simp [intOf]; omega
    · obtain rfl : k = sn := by omega
      have HE : Hid (RRow wr (some ⟨w.heap.size + 1, 0, none⟩) k k (fun j => elP n fP (g j)) (fun j => elQ n fQ (g j)) ∧ Below w.heap.size w wr) := ⟨hto.done (by unfold maxLen; omega), hbl⟩
      clear hbl hrow hto
      go_wp2
      go_ret
      exact ⟨_, _, rfl, HE.out⟩

end Go.Proofs.YtdnbpkbapmlfaaaGreatDoor
