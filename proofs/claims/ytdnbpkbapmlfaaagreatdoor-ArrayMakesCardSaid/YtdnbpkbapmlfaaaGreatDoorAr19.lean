/-
  Package array: IsChar, Rune, Rats, Limbs, Pick of characters, Ravel, by contract.
-/
import Derived.Test.YtdnbpkbapmlfaaaGreatDoorAr13
import Derived.Test.YtdnbpkbapmlfaaaGreatDoorAr15
namespace Go.Proofs.YtdnbpkbapmlfaaaGreatDoor
open Go.RowKit

set_option maxHeartbeats 1600000 in
set_option maxRecDepth 100000 in
theorem isChar_any (ch : Bool) (more : Int) (d : Nat → Int) (na : Option Addr) (nn nc : Nat) (ta : Option Addr) (tn tc : Nat) (w : World) :
    Calls Tryz.prog 30 #[.agg (arrC ch more d na nn nc ta tn tc)] w fun e w' => e = .returned (.bool ch) ∧ Below w.heap.size w w' := by
  have HB : Hid (Below w.heap.size w (w.alloc (.cells (arrC ch more d na nn nc ta tn tc) 50))) := (Below.refl _ _).alloc (Nat.le_refl _) _
  unfold arrC at HB
  unfold arrC
  go_enter Tryz.func30, Tryz.ntmps30
  go_wp2
  go_ret
  exact ⟨rfl, HB.out⟩

/-- The character at a place, or what fills. -/
def elC (n : Nat) (g : Nat → Int) (z i : Int) : Int := if 0 ≤ i ∧ i < n then g i.toNat else z

set_option maxHeartbeats 1600000 in
set_option maxRecDepth 100000 in
theorem rune_any (ch : Bool) (more : Int) (d : Nat → Int) (na : Option Addr) (nn nc : Nat) (ta : Option Addr) (tn tc : Nat) (g : Nat → Int) (i : Int) (w : World) (h : KRow w .i32 ta tn tc g) :
    Calls Tryz.prog 31 #[.agg (arrC ch more d na nn nc ta tn tc), .int .i64 i] w fun e w' => e = .returned (.int .i32 (elC tn g 0 i)) ∧ Below w.heap.size w w' := by
  have hl := h.len
  have HB : Hid (Below w.heap.size w (w.alloc (.cells (arrC ch more d na nn nc ta tn tc) 50))) := (Below.refl _ _).alloc (Nat.le_refl _) _
  unfold elC
  by_cases hin : 0 ≤ i ∧ i < tn
  · rw [if_pos hin]
    obtain ⟨h0, h1⟩ := hin
    obtain ⟨k, rfl⟩ : ∃ k : Nat, i = k := ⟨i.toNat, by omega⟩
    have hk : k < tn := by omega
    rw [show ((k : Int)).toNat = k from rfl]
    obtain ⟨b, off, rfl, hb, hc⟩ := h.get hk
    have d1 : ¬ ((k : Int) < 0) := by omega
    have d2 : ¬ ((tn : Int) ≤ k) := by omega
    clear h
    generalize g k = x at *
    unfold arrC at HB
    unfold arrC
    go_enter Tryz.func31, Tryz.ntmps31
    go_wp2
    go_ret
    exact ⟨rfl, HB.out⟩
  · rw [if_neg hin]
    clear h
    unfold arrC at HB
    unfold arrC
    by_cases h0 : i < 0
    · clear hin
      go_enter Tryz.func31, Tryz.ntmps31
      go_wp2
      go_ret
      exact ⟨rfl, HB.out⟩
    · have d2 : (tn : Int) ≤ i := by omega
      clear hin
      go_enter Tryz.func31, Tryz.ntmps31
      go_wp2
      go_ret
      exact ⟨rfl, HB.out⟩

set_option maxHeartbeats 1600000 in
set_option maxRecDepth 100000 in
theorem elemG_any (ch : Bool) (more : Int) (d : Nat → Int) (na : Option Addr) (n nc : Nat) (ta : Option Addr) (tn tc : Nat) (fP : Nat → Int) (fQ : Nat → Nat) (i : Int) (w : World) (hr : RRow w na n nc fP fQ) :
    Calls Tryz.prog 32 #[.agg (arrC ch more d na n nc ta tn tc), .int .i64 i] w fun e w' => RatTold w w' e (elP n fP i) (elQ n fQ i) := by
  have hl := hr.len
  by_cases hin : 0 ≤ i ∧ i < n
  · unfold elP elQ
    rw [if_pos hin, if_pos hin]
    obtain ⟨h0, h1⟩ := hin
    obtain ⟨k, rfl⟩ : ∃ k : Nat, i = k := ⟨i.toNat, by omega⟩
    have hk : k < n := by omega
    rw [show ((k : Int)).toNat = k from rfl]
    obtain ⟨b, off, a', n', c', m', a2', n2', c2', rfl, hb, e1, e2, e3, hq⟩ := hr.get hk
    have d1 : ¬ ((k : Int) < 0) := by omega
    have d2 : ¬ ((n : Int) ≤ k) := by omega
    have B0 := ((((Bag.start w).rat hq).alloc (.cells (arrC ch more d (some ⟨b, off, none⟩) n nc ta tn tc) 50)).alloc (.cells #[.slice a' n' c', .bool m', .slice a2' n2' c2'] 30))
    have HE : Hid (RatTold w ((w.alloc (.cells (arrC ch more d (some ⟨b, off, none⟩) n nc ta tn tc) 50)).alloc (.cells #[.slice a' n' c', .bool m', .slice a2' n2' c2'] 30)) (.returned (.agg #[.slice a' n' c', .bool m', .slice a2' n2' c2'])) (fP k) (fQ k)) :=
      ⟨a', n', c', m', a2', n2', c2', rfl, B0.now.1, B0.below⟩
    unfold arrC at HE
    unfold arrC
    clear hr hq B0
    go_enter Tryz.func32, Tryz.ntmps32
    go_wp2
    exact bodyPost_ret (v := .agg #[.slice a' n' c', .bool m', .slice a2' n2' c2']) (by simp [results, Tryz.results32, go_sem]) rfl HE.out
  · unfold elP elQ
    rw [if_neg hin, if_neg hin]
    have B0 := (((Bag.start w).alloc (.cells (arrC ch more d na n nc ta tn tc) 50)).alloc (.cells #[.slice none 0 0, .bool false, .slice none 0 0] 30))
    have HE : Hid (RatTold w ((w.alloc (.cells (arrC ch more d na n nc ta tn tc) 50)).alloc (.cells #[.slice none 0 0, .bool false, .slice none 0 0] 30)) (.returned (.agg #[.slice none 0 0, .bool false, .slice none 0 0])) 0 1) :=
      ⟨_, _, _, _, _, _, _, rfl, RatAt.nought _, B0.below⟩
    unfold arrC at HE
    unfold arrC
    clear hr B0
    by_cases h0 : i < 0
    · clear hin
      go_enter Tryz.func32, Tryz.ntmps32
      go_wp2
      exact bodyPost_ret (v := .agg #[.slice none 0 0, .bool false, .slice none 0 0]) (by simp [results, Tryz.results32, go_sem]) rfl HE.out
    · have d2 : (n : Int) ≤ i := by omega
      clear hin
      go_enter Tryz.func32, Tryz.ntmps32
      go_wp2
      exact bodyPost_ret (v := .agg #[.slice none 0 0, .bool false, .slice none 0 0]) (by simp [results, Tryz.results32, go_sem]) rfl HE.out

set_option maxHeartbeats 1600000 in
set_option maxRecDepth 100000 in
theorem aRats_any (ch : Bool) (more : Int) (d : Nat → Int) (na : Option Addr) (nn nc : Nat) (ta : Option Addr) (tn tc : Nat) (fP : Nat → Int) (fQ : Nat → Nat) (w : World) (h : RRow w na nn nc fP fQ) (hn : nn ≤ 1000000) :
    Calls Tryz.prog 35 #[.agg (arrC ch more d na nn nc ta tn tc)] w fun e w' => ∃ a c, e = .returned (.slice a nn c) ∧ RRow w' a nn c fP fQ ∧ Below w.heap.size w w' := by
  have CL := Lib.hid (fun wz h => cloneR_any na nn nc fP fQ wz h hn)
  have BB := Lib.hid (((Bag.start w).rrow h).newRow (arrC ch more d na nn nc ta tn tc) 50)
  clear h
  unfold arrC at BB
  unfold arrC
  go_enter Tryz.func35, Tryz.ntmps35
  go_wp2_with fail
  go_at_call 78
  (with_reducible refine (CL.out _ BB.out.now.2.1).mono ?_)
  rintro e w3 ⟨a3, c3, rfl, hk3, hb3⟩
  have HE : Hid (RRow w3 a3 nn c3 fP fQ ∧ Below w.heap.size w w3) := ⟨hk3, (BB.out.go hb3).below⟩
  clear hk3 hb3
  go_wp2
  go_ret
  exact ⟨a3, c3, rfl, HE.out⟩

/-- The most limbs of the first numbers. -/
def mxl (fP : Nat → Int) (fQ : Nat → Nat) : Nat → Nat
  | 0 => 0
  | k + 1 => max (mxl fP fQ k) (max (lbs (fP k).natAbs) (lbs (fQ k)))

set_option maxHeartbeats 1600000 in
set_option maxRecDepth 100000 in
theorem aLimbs_any (ch : Bool) (more : Int) (d : Nat → Int) (na : Option Addr) (n nc : Nat) (ta : Option Addr) (tn tc : Nat) (fP : Nat → Int) (fQ : Nat → Nat) (w : World) (h : RRow w na n nc fP fQ) (hQ : ∀ j, j < n → 0 < fQ j) :
    Calls Tryz.prog 36 #[.agg (arrC ch more d na n nc ta tn tc)] w fun e w' => e = .returned (.int .i64 (mxl fP fQ n : Nat)) ∧ Below w.heap.size w w' := by
  have HR := Lib.hid h
  have HQ := Lib.hid hQ
  have hl := h.len
  have LM := Lib.hid (fun a n' c m a2 n2 c2 P Q wz h hq => ratLimbs_any a n' c m a2 n2 c2 P Q wz h hq)
  have H0 : Hid (Below w.heap.size w (w.alloc (.cells (arrC ch more d na n nc ta tn tc) 50))) := (Below.refl _ _).alloc (Nat.le_refl _) _
  unfold arrC at H0
  unfold arrC
  clear h hQ
  go_enter Tryz.func36, Tryz.ntmps36
  go_wp2_with fail
  go_loopw [3, 9] (fun s i wr => ∃ k : Nat, k ≤ n ∧ i = .int .i64 k ∧ s = .int .i64 (mxl fP fQ k : Nat) ∧ Hid (Below w.heap.size w wr)) (fun _ i _ => n - (intOf i).toNat)
  case atStart => exact ⟨0, by omega, rfl, rfl, H0.out⟩
  case round =>
    obtain ⟨k, hk, rfl, rfl, hbl⟩ := hrel
    have hwr := hbl.out.size
    by_cases hlt : k < n
    · obtain ⟨b, off, a', n', c', m', a2', n2', c2', rfl, hlb, e1, e2, e3, hi'⟩ := (HR.out.below hbl.out).get hlt
      have HS : Hid (max ((mxl fP fQ k : Nat) : Int) (max (lbs (fP k).natAbs : Int) (lbs (fQ k) : Int)) = (mxl fP fQ (k + 1) : Nat)) := by
        show _ = ((max (mxl fP fQ k) (max (lbs (fP k).natAbs) (lbs (fQ k))) : Nat) : Int)
        omega
      have BB := Lib.hid (((Bag.start wr).rat hi').box3 (.slice a' n' c') (.bool m') (.slice a2' n2' c2') 30)
      have LK := Lib.hid (fun wz h => LM.out a' n' c' m' a2' n2' c2' (fP k) (fQ k) wz h (HQ.out k hlt))
      clear hi'
      generalize (max (lbs (fP k).natAbs : Int) (lbs (fQ k) : Int)) = lx at *
      generalize ((mxl fP fQ k : Nat) : Int) = sm at *
      go_wp2_with fail
      go_at_call 79
      (with_reducible refine (LK.out _ BB.out.now.2.1).mono ?_)
      rintro e w3 ⟨rfl, hb3⟩
      have HBE := Lib.hid (hbl.out.trans ((BB.out.go hb3).below.mono hwr))
      clear hb3
      go_wp2
      go_roundw
      case rel => exact ⟨k + 1, by omega, by go_num, vint HS.out, HBE.out⟩
      case measure => simp [intOf]; omega
    · obtain rfl : k = n := by omega
      go_wp2
      go_ret
      exact ⟨rfl, hbl.out⟩

/-- A row of n characters in the making: the first k are laid. -/
def CTo (w : World) (g n k : Nat) (f : Nat → Int) : Prop := g < w.heap.size ∧ Free w g ∧ ∀ j, j < n → ∃ z, w.cell? ⟨g, j, none⟩ = some (.int .i32 z) ∧ (j < k → z = f j)
theorem CTo.below {w w' : World} {g n k : Nat} {f : Nat → Int} (h : CTo w g n k f) (hb : Below w.heap.size w w') : CTo w' g n k f := by
  obtain ⟨h1, h2, h3⟩ := h
  refine ⟨Nat.lt_of_lt_of_le h1 hb.size, h2.below hb h1, fun j hj => ?_⟩
  obtain ⟨z, e1, e2⟩ := h3 j hj
  exact ⟨z, (hb.cell (p := ⟨g, _, none⟩) h1).trans e1, e2⟩
theorem CTo.over {w : World} {g n k : Nat} {f : Nat → Int} (h : CTo w g n k f) (x : Int) : CTo (w.setCell ⟨g, k, none⟩ (.int .i32 x)) g n k f := by
  obtain ⟨h1, h2, h3⟩ := h
  refine ⟨by simpa using h1, h2.set _ _, fun j hj => ?_⟩
  by_cases e : j = k
  · subst e
    obtain ⟨z, e1, _⟩ := h3 j hj
    exact ⟨x, World.cell?_setCell_same _ _ _ e1, fun h => absurd h (Nat.lt_irrefl _)⟩
  · obtain ⟨z, e1, e2⟩ := h3 j hj
    exact ⟨z, by rw [World.cell?_setCell_other _ _ _ _ (fun h => by injection h with _ h; omega)]; exact e1, e2⟩
theorem CTo.step {w : World} {g n k : Nat} {f : Nat → Int} (h : CTo w g n k f) (hk : k < n) {x : Int} (hx : x = f k) : CTo (w.setCell ⟨g, k, none⟩ (.int .i32 x)) g n (k + 1) f := by
  subst hx
  obtain ⟨h1, h2, h3⟩ := h
  refine ⟨by simpa using h1, h2.set _ _, fun j hj => ?_⟩
  by_cases e : j = k
  · subst e
    obtain ⟨z, e1, _⟩ := h3 j hj
    exact ⟨f j, World.cell?_setCell_same _ _ _ e1, fun _ => rfl⟩
  · obtain ⟨z, e1, e2⟩ := h3 j hj
    exact ⟨z, by rw [World.cell?_setCell_other _ _ _ _ (fun h => by injection h with _ h; omega)]; exact e1, fun h => e2 (by omega)⟩
theorem CTo.done {w : World} {g n : Nat} {f : Nat → Int} (h : CTo w g n n f) (hn : n ≤ maxLen) : KRow w .i32 (some ⟨g, 0, none⟩) n n f := by
  refine ⟨Nat.le_refl _, hn, .inr ⟨g, 0, rfl, h.1, fun j hj => ?_⟩⟩
  obtain ⟨z, e1, e2⟩ := h.2.2 j hj
  rw [Nat.zero_add, e1, e2 hj]
theorem CTo.made (w : World) (n : Nat) (t : TypeId) (f : Nat → Int) {mc : Array Value} (hmc : mc = madeCells (Value.cells (.int .i32 0)) n) : CTo (w.alloc (.cells mc t)) w.heap.size n 0 f := by
  subst hmc
  have hR := Row.new w t (madeCells (Value.cells (.int .i32 0)) n)
  refine ⟨hR.lt, fun o => hR.free o, fun j hj => ⟨0, ?_, fun h => absurd h (Nat.not_lt_zero _)⟩⟩
  rw [hR.cell]
  unfold madeCells
  rw [Array.getElem?_map, Array.getElem?_range, if_pos (by omega), Option.map_some]
  simp [Value.cells, Nat.mod_one]
theorem CTo.place {w : World} {g n k : Nat} {f : Nat → Int} (h : CTo w g n k f) {j : Nat} (hj : j < n) : (∃ z, w.cell? ⟨g, j, none⟩ = some (.int .i32 z)) ∧ w.frozen? ⟨g, j, none⟩ = false := by
  obtain ⟨z, e1, _⟩ := h.2.2 j hj
  exact ⟨⟨z, e1⟩, h.2.1 _⟩

set_option maxHeartbeats 3200000 in
set_option maxRecDepth 100000 in
theorem pickRunes_any (cs : Array Value) (f : Nat → Int) (r n : Nat) (T : Nat → Int) (sa : Option Addr) (sn sc : Nat) (g : Nat → Int) (w : World) (h : ChrArr w cs f r n T) (hs : KRow w .i64 sa sn sc g) (hg : In64 g sn) (hn : sn ≤ 1000000) :
    Calls Tryz.prog 83 #[.agg cs, .slice sa sn sc] w fun e w' => ∃ a c, e = .returned (.slice a sn c) ∧ KRow w' .i32 a sn c (fun j => elC n T 32 (g j)) ∧ Below w.heap.size w w' := by
  obtain ⟨i0, hi, hz0, hz1, hz2⟩ := info_parts infoC
  have hmk := fun wz => run_make (P := Tryz.prog) wz 22 21 i0 _ Tryz.underlying22 hi hz0 .i64 .i64 sn sn (by omega) (by omega) (by rw [hz2]; omega) (by omega)
  simp only [Int.toNat_natCast, hz1, Nat.mul_one] at hmk
  have HK := Lib.hid hs
  have HG := Lib.hid hg
  have hl := hs.len
  obtain ⟨ta, tc, rfl, ht⟩ := h
  have HT := Lib.hid ht
  have hlt0 := ht.len
  have hR0 : Row (w.alloc (.cells (arrC true ((r : Int) - 1) (dm f r) none 0 0 ta n tc) 50)) w.heap.size 50 _ := Row.new _ _ _
  have H0 : Hid (Below w.heap.size w ((w.alloc (.cells (arrC true ((r : Int) - 1) (dm f r) none 0 0 ta n tc) 50)).alloc (.cells (madeCells (Value.cells (.int .i32 0)) sn) 21)) ∧ Row ((w.alloc (.cells (arrC true ((r : Int) - 1) (dm f r) none 0 0 ta n tc) 50)).alloc (.cells (madeCells (Value.cells (.int .i32 0)) sn) 21)) w.heap.size 50 (arrC true ((r : Int) - 1) (dm f r) none 0 0 ta n tc) ∧ CTo ((w.alloc (.cells (arrC true ((r : Int) - 1) (dm f r) none 0 0 ta n tc) 50)).alloc (.cells (madeCells (Value.cells (.int .i32 0)) sn) 21)) (w.heap.size + 1) sn 0 (fun j => elC n T 32 (g j))) :=
    ⟨((Below.refl _ _).alloc (Nat.le_refl _) _).alloc (by simp) _, hR0.below ((Below.refl _ _).alloc (Nat.le_refl _) _), by have := CTo.made (w.alloc (.cells (arrC true ((r : Int) - 1) (dm f r) none 0 0 ta n tc) 50)) sn 21 (fun j => elC n T 32 (g j)) rfl; rwa [World.size_alloc] at this⟩
  generalize hsh : (r : Int) - 1 = more at *
  generalize dm f r = d at *
  unfold arrC at H0
  unfold arrC
  clear ht hs hg hi hz0 hz1 hz2 hR0 hsh
  go_enter Tryz.func83, Tryz.ntmps83
  go_wp2_with fail
  go_loopw [13] (fun i wr => ∃ k : Nat, k ≤ sn ∧ i = .int .i64 k ∧ Hid (Below w.heap.size w wr ∧ Row wr w.heap.size 50 (arrC true more d none 0 0 ta n tc) ∧ CTo wr (w.heap.size + 1) sn k (fun j => elC n T 32 (g j)))) (fun i _ => sn - (intOf i).toNat)
  case atStart => exact ⟨0, by omega, rfl, H0.out⟩
  case round =>
    obtain ⟨k, hk, rfl, hrel⟩ := hrel
    obtain ⟨hbl, hrow, hto⟩ := hrel.out
    have hwr := hbl.size
    by_cases hlt : k < sn
    · obtain ⟨b, off, rfl, hb, hc⟩ := (HK.out.below hbl).get hlt
      obtain ⟨⟨z0, x1⟩, y1⟩ := hto.place hlt
      have q11 : wr.cell? ⟨w.heap.size, 11, none⟩ = some (.slice ta n tc) := hrow.cell 11
      have ne0 : w.heap.size ≠ w.heap.size + 1 := by omega
      by_cases hin : 0 ≤ g k ∧ g k < n
      · obtain ⟨h0, h1⟩ := hin
        obtain ⟨q, hq⟩ : ∃ q : Nat, g k = q := ⟨(g k).toNat, by omega⟩
        have hqn : q < n := by omega
        have hv : elC n T 32 (g k) = T q := by unfold elC; rw [if_pos ⟨h0, h1⟩, hq]; rfl
        obtain ⟨b2, off2, rfl, hb2, hc2⟩ := (HT.out.below hbl).get hqn
        rw [hq] at hc h0 h1
        have nb : b2 ≠ w.heap.size + 1 := by
          have := HT.out.get hqn
          obtain ⟨b3, o3, e3, hb3, _⟩ := this
          injection e3 with e3; injection e3 with e3 _ _
          omega
        have HN : Hid (Below w.heap.size w ((wr.setCell ⟨w.heap.size + 1, k, none⟩ (.int .i32 32)).setCell ⟨w.heap.size + 1, k, none⟩ (.int .i32 (T q))) ∧
            Row ((wr.setCell ⟨w.heap.size + 1, k, none⟩ (.int .i32 32)).setCell ⟨w.heap.size + 1, k, none⟩ (.int .i32 (T q))) w.heap.size 50 (arrC true more d none 0 0 (some ⟨b2, off2, none⟩) n tc) ∧
            CTo ((wr.setCell ⟨w.heap.size + 1, k, none⟩ (.int .i32 32)).setCell ⟨w.heap.size + 1, k, none⟩ (.int .i32 (T q))) (w.heap.size + 1) sn (k + 1) (fun j => elC n T 32 (g j))) :=
          ⟨(hbl.setCell (p := ⟨w.heap.size + 1, _, none⟩) (Nat.le_succ _) _).setCell (p := ⟨w.heap.size + 1, _, none⟩) (Nat.le_succ _) _,
            (hrow.far (a := ⟨w.heap.size + 1, _, none⟩) ne0 _).far (a := ⟨w.heap.size + 1, _, none⟩) ne0 _, (hto.over 32).step hlt hv.symm⟩
        clear hbl hrow hto hq hv
        generalize T q = y at *
        go_wp2
        go_roundw
        case rel => exact ⟨k + 1, by omega, by go_num, HN.out⟩
        case measure => simp [intOf]; omega
      · have hv : elC n T 32 (g k) = 32 := by unfold elC; rw [if_neg hin]
        have HN : Hid (Below w.heap.size w (wr.setCell ⟨w.heap.size + 1, k, none⟩ (.int .i32 32)) ∧ Row (wr.setCell ⟨w.heap.size + 1, k, none⟩ (.int .i32 32)) w.heap.size 50 (arrC true more d none 0 0 ta n tc) ∧ CTo (wr.setCell ⟨w.heap.size + 1, k, none⟩ (.int .i32 32)) (w.heap.size + 1) sn (k + 1) (fun j => elC n T 32 (g j))) :=
          ⟨hbl.setCell (p := ⟨w.heap.size + 1, _, none⟩) (Nat.le_succ _) _, hrow.far (a := ⟨w.heap.size + 1, _, none⟩) ne0 _, hto.step hlt hv.symm⟩
        clear hbl hrow hto hv
        generalize g k = x at *
        by_cases h0 : 0 ≤ x
        · have h1 : ¬ x < (n : Int) := by omega
          clear hin
          go_wp2
          go_roundw
          case rel => exact ⟨k + 1, by omega, by go_num, HN.out⟩
          case measure => simp [intOf]; omega
        · clear hin
          go_wp2
          go_roundw
          case rel => exact ⟨k + 1, by omega, by go_num, HN.out⟩
          case measure => simp [intOf]; omega
    · obtain rfl : k = sn := by omega
      have HE : Hid (KRow wr .i32 (some ⟨w.heap.size + 1, 0, none⟩) k k (fun j => elC n T 32 (g j)) ∧ Below w.heap.size w wr) := ⟨hto.done (by unfold maxLen; omega), hbl⟩
      clear hbl hrow hto
      go_wp2
      go_ret
      exact ⟨_, _, rfl, HE.out⟩

set_option maxHeartbeats 1600000 in
set_option maxRecDepth 100000 in
theorem pickC_any (cs : Array Value) (f : Nat → Int) (r n : Nat) (T : Nat → Int) (sa : Option Addr) (sr sc : Nat) (S : Nat → Int) (ta : Option Addr) (tn tc : Nat) (g : Nat → Int) (w : World) (h : ChrArr w cs f r n T)
    (hs : KRow w .i64 sa sr sc S) (hS : In64 S sr) (ht : KRow w .i64 ta tn tc g) (hg : In64 g tn) (hn : tn ≤ 1000000) :
    Calls Tryz.prog 42 #[.agg cs, .slice sa sr sc, .slice ta tn tc] w fun e w' => CharsTold (shB S sr && decide (itm S sr = tn)) S sr tn (fun j => elC n T 32 (g j)) w w' e := by
  have HA := Lib.hid h
  obtain ⟨na, nc, rfl, hr⟩ := h
  have PR := Lib.hid (fun wz h h2 => pickRunes_any (arrC true ((r : Int) - 1) (dm f r) none 0 0 na n nc) f r n T ta tn tc g wz h h2 hg hn)
  have NU := Lib.hid (fun la lc wz (h : KRow wz .i64 sa sr sc S) h2 => chars_any sa sr sc S la tn lc (fun j => elC n T 32 (g j)) wz h hS h2 hn)
  unfold CharsTold at NU
  have HS := Lib.hid hs
  have HT := Lib.hid ht
  have BB := Lib.hid (((Bag.start w).newRow (arrC true ((r : Int) - 1) (dm f r) none 0 0 na n nc) 50).newRow zerC 50)
  simp only [World.size_alloc] at BB
  generalize hb : (shB S sr && decide (itm S sr = tn)) = b at *
  have HR1 := Lib.hid BB.out.now.2.1
  clear hr hs hS ht hg hb
  unfold arrC
  go_enter Tryz.func42, Tryz.ntmps42
  go_wp2_with (refine ld_arr rfl (.tmp 3) rfl w.heap.size rfl HR1.out ?_)
  go_at_call 83
  (with_reducible refine (PR.out _ ?_ ?_).mono ?_)
  · exact HA.out.below BB.out.below
  · exact HT.out.below BB.out.below
  rintro e w2 ⟨a2, c2, rfl, hr2, hb2⟩
  have BB := Lib.hid ((BB.out.go hb2).krow hr2)
  clear hr2 hb2
  go_wp2_with fail
  go_at_call 71
  (with_reducible refine (NU.out _ _ _ ?_ ?_).mono ?_)
  · exact HS.out.below BB.out.below
  · exact BB.out.now.1
  rintro e w3 ⟨cs3, rfl, hcs, hb3⟩
  have B3 := BB.out.go hb3
  have hr0 := B3.now.2.1
  have HR0 := Lib.hid hr0
  have HBL := Lib.hid B3.below
  have HE : Hid (∃ ch more d na nn nc ta tn' tc, cs3 = arrC ch more d na nn nc ta tn' tc ∧ CharsTold b S sr tn (fun j => elC n T 32 (g j)) w (w3.setRow (w.heap.size + 1) cs3) (.returned (.tuple #[.agg cs3, .bool b]))) := by
    cases b with
    | false =>
      rw [if_neg (by decide)] at hcs
      subst hcs
      exact ⟨false, 0, fun _ => 0, none, 0, 0, none, 0, 0, rfl, zerC, rfl, by rw [if_neg (by decide)], below_put HBL.out (Nat.le_succ _) _⟩
    | true =>
      rw [if_pos rfl] at hcs
      obtain ⟨na3, nc3, rfl, hr3⟩ := hcs
      exact ⟨_, _, _, _, _, _, _, _, _, rfl, _, rfl, by rw [if_pos rfl]; exact ⟨na3, nc3, rfl, hr3.away (KRow.ne hr3 (by decide) (zerC_row ▸ hr0)) (Far.setRow _ _ _)⟩, below_put HBL.out (Nat.le_succ _) _⟩
  clear hcs hb3 B3 hr0
  obtain ⟨ch, more, d, na3, nn3, nc3, ta3, tn3, tc3, rfl, HE⟩ := HE.out
  have HE := Lib.hid HE
  go_wp2_with (refine st_arr rfl (.tmp 6) (.tmp 15) rfl (w.heap.size + 1) rfl _ _ _ _ _ _ _ _ _ rfl HR0.out rfl ?_)
  exact bodyPost_ret (res_arr2 Tryz.results42 rfl rfl (HR0.out.put _) rfl) rfl HE.out

set_option maxHeartbeats 1600000 in
set_option maxRecDepth 100000 in
theorem ravelC_any (cs : Array Value) (f : Nat → Int) (r n : Nat) (T : Nat → Int) (w : World) (h : ChrArr w cs f r n T) (hn : n ≤ 4096) :
    Calls Tryz.prog 45 #[.agg cs] w fun e w' => ChrTold1 (fun _ => (n : Int)) 1 n T w w' e := by
  obtain ⟨ta, tc, rfl, ht⟩ := h
  have TX := Lib.hid (fun wz p => arrText_any ta n tc T wz p hn)
  unfold ChrTold1 at TX
  have BB := Lib.hid ((((Bag.start w).krow ht).newRow (arrC true ((r : Int) - 1) (dm f r) none 0 0 ta n tc) 50).newRow zerC 50)
  simp only [World.size_alloc] at BB
  clear ht
  unfold arrC
  go_enter Tryz.func45, Tryz.ntmps45
  go_wp2_with fail
  go_at_call 85
  (with_reducible refine (TX.out _ ?_).mono ?_)
  · exact BB.out.now.2.2.1
  rintro e w3 ⟨cs3, rfl, hcs, hb3⟩
  have B3 := BB.out.go hb3
  have hz := B3.now.1
  rw [zerC_row] at hz
  have HE : Hid (ChrTold1 (fun _ => (n : Int)) 1 n T w (w3.setRow (w.heap.size + 1) cs3) (.returned (.agg cs3))) := Lib.hid ⟨cs3, rfl, hcs.row hz cs3, below_put B3.below (Nat.le_succ _) _⟩
  have HZ := Lib.hid B3.now.1
  obtain ⟨na3, nc3, rfl, _⟩ := hcs
  clear hb3 B3 hz
  unfold arrC
  go_wp2_with (refine st_arr rfl (.tmp 2) (.tmp 9) rfl (w.heap.size + 1) rfl _ _ _ _ _ _ _ _ _ rfl HZ.out rfl ?_)
  exact bodyPost_ret (res_arr Tryz.results45 rfl (HZ.out.put _) rfl) rfl HE.out

set_option maxHeartbeats 1600000 in
set_option maxRecDepth 100000 in
theorem ravelN_any (cs : Array Value) (f : Nat → Int) (r n : Nat) (fP : Nat → Int) (fQ : Nat → Nat) (w : World) (h : NumArr w cs f r n fP fQ) (hn : n ≤ 4096) :
    Calls Tryz.prog 45 #[.agg cs] w fun e w' => NumTold1 (fun _ => (n : Int)) 1 n fP fQ w w' e := by
  obtain ⟨na, nc, rfl, hr⟩ := h
  have hl := hr.len
  have NU := Lib.hid (fun la lc wz (h1 : KRow wz .i64 la 1 lc (fun _ => (n : Int))) (h2 : RRow wz na n nc fP fQ) => nums_any la 1 lc (fun _ => (n : Int)) na n nc fP fQ wz h1 (In64.one (by omega) _) h2 (by omega))
  rw [sh_list hn] at NU
  unfold NumsTold at NU
  have BB := Lib.hid ((((Bag.start w).rrow hr).newRow (arrC false ((r : Int) - 1) (dm f r) na n nc none 0 0) 50).newRow zerC 50)
  simp only [World.size_alloc] at BB
  have HK := Lib.hid (KRow.one ((w.alloc (.cells (arrC false ((r : Int) - 1) (dm f r) na n nc none 0 0) 50)).alloc (.cells zerC 50)) n 3)
  have BB := Lib.hid (BB.out.alloc (.cells #[.int .i64 n] 3))
  simp only [World.size_alloc] at HK
  clear hr
  unfold arrC
  unfold arrC at HK BB
  go_enter Tryz.func45, Tryz.ntmps45
  go_wp2_with fail
  go_at_call 73
  (with_reducible refine (NU.out _ _ _ ?_ ?_).mono ?_)
  · exact HK.out
  · exact BB.out.now.2.2.1
  rintro e w3 ⟨cs3, rfl, hcs, hb3⟩
  rw [if_pos trivial] at hcs
  have B3 := BB.out.go hb3
  have HE := Lib.hid (ans_num (t' := 50) hcs B3.below B3.now.1 (Nat.le_succ _))
  obtain ⟨na3, nc3, rfl, _⟩ := hcs
  have HR1 := Lib.hid (Row.new w3 50 (arrC false (((1 : Nat) : Int) - 1) (dm (fun _ => (n : Int)) 1) na3 n nc3 none 0 0))
  have HR0 := Lib.hid (B3.now.1.below ((Below.refl _ _).alloc (Nat.le_refl _) (.cells (arrC false (((1 : Nat) : Int) - 1) (dm (fun _ => (n : Int)) 1) na3 n nc3 none 0 0) 50)))
  clear hb3 B3
  unfold arrC
  go_wp2_with (first
    | (refine ld_arr rfl (.tmp 3) rfl w3.heap.size rfl HR1.out ?_)
    | (refine st_arr rfl (.tmp 2) (.tmp 20) rfl (w.heap.size + 1) rfl _ _ _ _ _ _ _ _ _ rfl HR0.out rfl ?_))
  exact bodyPost_ret (res_arr Tryz.results45 rfl (HR0.out.put _) rfl) rfl HE.out

set_option maxHeartbeats 1600000 in
set_option maxRecDepth 100000 in
theorem wholeC_any (cs : Array Value) (f : Nat → Int) (r n : Nat) (T : Nat → Int) (w : World) (h : ChrArr w cs f r n T) (hn : n ≤ 1000000) :
    Calls Tryz.prog 21 #[.agg cs] w fun e w' => WhTold (decide (n = 0)) 0 (fun _ => 0) w w' e := by
  obtain ⟨i0, hi, hz0, hz1, hz2⟩ := info_parts infoI
  have hmk := fun wz => run_make (P := Tryz.prog) wz 43 3 i0 _ Tryz.underlying43 hi hz0 .i64 .i64 0 0 (by omega) (by omega) (by rw [hz2]; omega) (by omega)
  simp only [hz1, Nat.mul_one] at hmk
  obtain ⟨ta, tc, rfl, ht⟩ := h
  by_cases h0 : n = 0
  · subst h0
    rw [decide_eq_true rfl]
    have H0 : Hid (WhTold true 0 (fun _ => 0) w ((w.alloc (.cells (arrC true ((r : Int) - 1) (dm f r) none 0 0 ta 0 tc) 50)).alloc (.cells (madeCells (Value.cells (.int .i64 0)) 0) 3)) (.returned (.tuple #[.slice (some ⟨w.heap.size + 1, 0, none⟩) 0 0, .bool true]))) :=
      Lib.hid ⟨_, _, _, rfl, by rw [if_pos rfl]; exact ⟨rfl, KRow.nought _ _ _ _ (Nat.zero_le _) _⟩, ((Below.refl _ _).alloc (Nat.le_refl _) _).alloc (by simp) _⟩
    unfold arrC at H0
    unfold arrC
    clear ht hi hz0 hz1 hz2
    go_enter Tryz.func21, Tryz.ntmps21
    go_wp2_with fail
    go_loopw [20] (fun i wr => i = .int .i64 0 ∧ Hid (wr = (w.alloc (.cells #[.bool true, .int .i64 ((r : Int) - 1), .int .i64 (dm f r 0), .int .i64 (dm f r 1), .int .i64 (dm f r 2), .int .i64 (dm f r 3), .int .i64 (dm f r 4), .int .i64 (dm f r 5), .int .i64 (dm f r 6), .int .i64 (dm f r 7), .slice none 0 0, .slice ta 0 tc] 50)).alloc (.cells (madeCells (Value.cells (.int .i64 0)) 0) 3))) (fun _ _ => 0)
    case atStart => exact ⟨rfl, rfl⟩
    case round =>
      obtain ⟨rfl, hrel⟩ := hrel
      obtain rfl := hrel.out
      go_wp2
      go_ret2
      exact H0.out
  · rw [decide_eq_false h0]
    have d1 : (0 : Int) < n := by omega
    have H0 : Hid (WhTold false 0 (fun _ => 0) w (w.alloc (.cells (arrC true ((r : Int) - 1) (dm f r) none 0 0 ta n tc) 50)) (.returned (.tuple #[.slice none 0 0, .bool false]))) :=
      Lib.hid ⟨_, _, _, rfl, by rw [if_neg (by decide)]; exact ⟨rfl, rfl, rfl⟩, (Below.refl _ _).alloc (Nat.le_refl _) _⟩
    unfold arrC at H0
    unfold arrC
    clear ht hi hz0 hz1 hz2 h0 hmk
    go_enter Tryz.func21, Tryz.ntmps21
    go_wp2
    go_ret2
    exact H0.out

end Go.Proofs.YtdnbpkbapmlfaaaGreatDoor
