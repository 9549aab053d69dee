/-
  Package array: Ints, Pick of numbers, by contract.
-/
import Derived.Test.YtdnbpkbapmlfaaaGreatDoorAr4
namespace Go.Proofs.YtdnbpkbapmlfaaaGreatDoor
open Go.RowKit

/-- What answers an array of numbers. -/
def NumTold1 (f : Nat → Int) (r n : Nat) (fP : Nat → Int) (fQ : Nat → Nat) (w w' : World) (e : Ending) : Prop := ∃ cs, e = .returned (.agg cs) ∧ NumArr w' cs f r n fP fQ ∧ Below w.heap.size w w'
theorem itm_one (f : Nat → Int) : itm f 1 = f 0 := by show 1 * f 0 = f 0; omega
theorem shB_one (f : Nat → Int) : shB f 1 = (decide (0 ≤ f 0) && decide (f 0 ≤ 4096)) := by
  unfold shB
  rw [decide_eq_true (by omega), Bool.true_and]
  show (true && (decide (0 ≤ f 0) && decide (1 * max (f 0) 1 ≤ 4096))) = _
  rw [Bool.true_and]
  by_cases h : 0 ≤ f 0
  · rw [decide_eq_true h, Bool.true_and, Bool.true_and]
    by_cases h2 : f 0 ≤ 4096
    · rw [decide_eq_true h2, decide_eq_true (by omega)]
    · rw [decide_eq_false h2, decide_eq_false (by omega)]
  · rw [decide_eq_false h]; rfl
theorem sh_list {n : Nat} (h : n ≤ 4096) : (shB (fun _ => (n : Int)) 1 && decide (itm (fun _ => (n : Int)) 1 = n)) = true := by
  rw [shB_one, itm_one, decide_eq_true (show (0 : Int) ≤ n by omega), decide_eq_true (show (n : Int) ≤ 4096 by omega), decide_eq_true rfl]
  rfl
theorem KRow.one (w : World) (x : Int) (t : TypeId) : KRow (w.alloc (.cells #[.int .i64 x] t)) .i64 (some ⟨w.heap.size, 0, none⟩) 1 1 (fun _ => x) := by
  refine ⟨Nat.le_refl _, by unfold maxLen; omega, .inr ⟨_, 0, rfl, by simp, fun j hj => ?_⟩⟩
  obtain rfl : j = 0 := by omega
  exact (Row.new w t #[.int .i64 x]).cell 0
theorem In64.one {x : Int} (h : -9223372036854775808 ≤ x ∧ x ≤ 9223372036854775807) (n : Nat) : In64 (fun _ => x) n := fun _ _ => h
theorem Bag.to {w0 w : World} {B : World → Prop} {g n k : Nat} {fP : Nat → Int} {fQ : Nat → Nat} (h : Bag w0 B w) (q : RatsTo w g n k fP fQ) : Bag w0 (fun y => RatsTo y g n k fP fQ ∧ B y) w := h.add (fun _ _ hb q => RatsTo.below q hb) q
theorem Bag.rrow {w0 w : World} {B : World → Prop} {a : Option Addr} {n c : Nat} {fP : Nat → Int} {fQ : Nat → Nat} (h : Bag w0 B w) (q : RRow w a n c fP fQ) : Bag w0 (fun y => RRow y a n c fP fQ ∧ B y) w := h.add (fun _ _ hb q => RRow.below q hb) q
theorem Bag.krow {w0 w : World} {B : World → Prop} {ki : IntKind} {a : Option Addr} {n c : Nat} {f : Nat → Int} (h : Bag w0 B w) (q : KRow w ki a n c f) : Bag w0 (fun y => KRow y ki a n c f ∧ B y) w := h.add (fun _ _ hb q => KRow.below q hb) q
theorem Bag.numArr {w0 w : World} {B : World → Prop} {cs : Array Value} {f : Nat → Int} {r n : Nat} {fP : Nat → Int} {fQ : Nat → Nat} (h : Bag w0 B w) (q : NumArr w cs f r n fP fQ) : Bag w0 (fun y => NumArr y cs f r n fP fQ ∧ B y) w := h.add (fun _ _ hb q => NumArr.below q hb) q
theorem Bag.newRow {w0 w : World} {B : World → Prop} (h : Bag w0 B w) (cs : Array Value) (t : TypeId) : Bag w0 (fun y => Row y w.heap.size t cs ∧ B y) (w.alloc (.cells cs t)) := (h.alloc _).row (Row.new w t cs)

set_option maxHeartbeats 1600000 in
set_option maxRecDepth 100000 in
theorem ints_any (sa : Option Addr) (sn sc : Nat) (g : Nat → Int) (w : World) (hs : KRow w .i64 sa sn sc g) (hg : In64 g sn) (hn : sn ≤ 4096) :
    Calls Tryz.prog 70 #[.slice sa sn sc] w fun e w' => NumTold1 (fun _ => sn) 1 sn g (fun _ => 1) w w' e := by
  obtain ⟨i0, hi, hz0, hz1, hz2⟩ := info_parts infoR
  have hmk := fun wz => run_make (P := Tryz.prog) wz 48 30 i0 _ Tryz.underlying48 hi hz0 .i64 .i64 sn sn (by omega) (by omega) (by rw [hz2]; omega) (by omega)
  simp only [Int.toNat_natCast, hz1] at hmk
  have HK := Lib.hid hs
  have hl := hs.len
  have FR := Lib.hid (fun X wz h => ratFrom_any X wz h)
  unfold RatTold at FR
  have HG := Lib.hid hg
  have NU := Lib.hid (fun a c la lc wz (h : KRow wz .i64 a 1 c (fun _ => (sn : Int))) (h2 : RRow wz la sn lc g (fun _ => 1)) => nums_any a 1 c (fun _ => (sn : Int)) la sn lc g (fun _ => 1) wz h (In64.one (by omega) 1) h2 (by omega))
  rw [sh_list hn] at NU
  unfold NumsTold at NU
  have H0 : Hid (Below w.heap.size w ((w.alloc (.cells zerC 50)).alloc (.cells (madeCells (Value.cells (.agg #[.slice none 0 0, .bool false, .slice none 0 0])) (sn * 3)) 30)) ∧ Row ((w.alloc (.cells zerC 50)).alloc (.cells (madeCells (Value.cells (.agg #[.slice none 0 0, .bool false, .slice none 0 0])) (sn * 3)) 30)) w.heap.size 50 zerC ∧ RatsTo ((w.alloc (.cells zerC 50)).alloc (.cells (madeCells (Value.cells (.agg #[.slice none 0 0, .bool false, .slice none 0 0])) (sn * 3)) 30)) (w.heap.size + 1) sn 0 g (fun _ => 1)) :=
    ⟨((Below.refl _ _).alloc (Nat.le_refl _) _).alloc (by simp) _, (Row.new _ _ _).below ((Below.refl _ _).alloc (Nat.le_refl _) _), by have := RatsTo.made (w.alloc (.cells zerC 50)) sn 30 g (fun _ => 1) rfl; rwa [World.size_alloc] at this⟩
  clear hs hg hi hz0 hz1 hz2
  go_enter Tryz.func70, Tryz.ntmps70
  go_wp2_with fail
  go_loopw [13] (fun i wr => ∃ k : Nat, k ≤ sn ∧ i = .int .i64 k ∧ Hid (Below w.heap.size w wr ∧ Row wr w.heap.size 50 zerC ∧ RatsTo wr (w.heap.size + 1) sn k g (fun _ => 1))) (fun i _ => sn - (intOf i).toNat)
  case atStart => exact ⟨0, by omega, rfl, H0.out⟩
  case round =>
    obtain ⟨k, hk, rfl, hrel⟩ := hrel
    obtain ⟨hbl, hrow, hto⟩ := hrel.out
    have hwr := hbl.size
    by_cases hlt : k < sn
    · obtain ⟨b, off, rfl, hb, hc⟩ := (HK.out.below hbl).get hlt
      have BB := Lib.hid ((((Bag.start wr).row hrow).to hto))
      have HBL := Lib.hid hbl
      clear hbl hrow hto
      go_wp2_with fail
      go_at_call 49
      (with_reducible refine (FR.out _ _ ?_).mono ?_)
      · exact HG.out k hlt
      rintro e w2 ⟨a2, n2, c2, m2, a3, n3, c3, rfl, hr2, hb2⟩
      have B2 := BB.out.go hb2
      have hto := B2.now.1
      have hrow := B2.now.2.1
      obtain ⟨⟨b1, l1, d1, v1, b2, l2, d2, x1, x2, x3⟩, y1, y2, y3⟩ := hto.place hlt
      have HN : Hid (Below w.heap.size w (((w2.setCell ⟨w.heap.size + 1, k * 3, none⟩ (.slice a2 n2 c2)).setCell ⟨w.heap.size + 1, k * 3 + 1, none⟩ (.bool m2)).setCell ⟨w.heap.size + 1, k * 3 + 2, none⟩ (.slice a3 n3 c3)) ∧
          Row (((w2.setCell ⟨w.heap.size + 1, k * 3, none⟩ (.slice a2 n2 c2)).setCell ⟨w.heap.size + 1, k * 3 + 1, none⟩ (.bool m2)).setCell ⟨w.heap.size + 1, k * 3 + 2, none⟩ (.slice a3 n3 c3)) w.heap.size 50 zerC ∧
          RatsTo (((w2.setCell ⟨w.heap.size + 1, k * 3, none⟩ (.slice a2 n2 c2)).setCell ⟨w.heap.size + 1, k * 3 + 1, none⟩ (.bool m2)).setCell ⟨w.heap.size + 1, k * 3 + 2, none⟩ (.slice a3 n3 c3)) (w.heap.size + 1) sn (k + 1) g (fun _ => 1)) :=
        ⟨(((HBL.out.trans (hb2.mono hwr)).setCell (p := ⟨w.heap.size + 1, _, none⟩) (Nat.le_succ _) _).setCell (p := ⟨w.heap.size + 1, _, none⟩) (Nat.le_succ _) _).setCell (p := ⟨w.heap.size + 1, _, none⟩) (Nat.le_succ _) _,
          ((hrow.far (a := ⟨w.heap.size + 1, _, none⟩) (show w.heap.size ≠ w.heap.size + 1 by omega) _).far (a := ⟨w.heap.size + 1, _, none⟩) (show w.heap.size ≠ w.heap.size + 1 by omega) _).far (a := ⟨w.heap.size + 1, _, none⟩) (show w.heap.size ≠ w.heap.size + 1 by omega) _,
          hto.step hlt hr2⟩
      clear hto hrow hr2 hb2 B2 hc
      go_wp2
      go_roundw
      case rel => exact ⟨k + 1, by omega, by go_num, HN.out⟩
      case measure => simp [intOf]; omega
    · obtain rfl : k = sn := by omega
      have hdone := hto.done (by unfold maxLen; omega)
      have hkr : KRow (wr.alloc (.cells #[.int .i64 (k : Int)] 3)) .i64 (some ⟨wr.heap.size, 0, none⟩) 1 1 (fun _ => (k : Int)) := KRow.one wr k _
      have BB := Lib.hid ((((Bag.start wr).row hrow).alloc (.cells #[.int .i64 (k : Int)] 3)))
      have HD := Lib.hid (hdone.below ((Below.refl _ _).alloc (Nat.le_refl _) (.cells #[.int .i64 (k : Int)] 3)))
      have HKR := Lib.hid hkr
      have HBL := Lib.hid hbl
      clear hbl hrow hto hdone hkr
      go_wp2_with fail
      go_at_call 73
      (with_reducible refine (NU.out _ _ _ _ _ ?_ ?_).mono ?_)
      · exact HKR.out
      · exact HD.out
      rintro e w3 ⟨cs, rfl, hcs, hb3⟩
      rw [if_pos trivial] at hcs
      obtain ⟨na, nc, rfl, hr3⟩ := hcs
      have B3 := (((BB.out.go hb3).rrow hr3).newRow (arrC false (((1 : Nat) : Int) - 1) (dm (fun _ => (k : Int)) 1) na k nc none 0 0) 50)
      have hlt3 : w.heap.size < w3.heap.size := by have := hb3.size; simp at this; omega
      have hbb := HBL.out.trans (B3.below.mono hwr)
      have hr1 := B3.now.1
      have hr0 := B3.now.2.2.1
      have HR1 := Lib.hid hr1
      have HR0 := Lib.hid hr0
      have hq := B3.now.2.1.away (Row.noLimb hr0) (RRow.ne B3.now.2.1 hr0) (Far.setRow _ _ (arrC false (((1 : Nat) : Int) - 1) (dm (fun _ => (k : Int)) 1) na k nc none 0 0))
      have HE : Hid (NumTold1 (fun _ => (k : Int)) 1 k g (fun _ => 1) w ((w3.alloc (.cells (arrC false (((1 : Nat) : Int) - 1) (dm (fun _ => (k : Int)) 1) na k nc none 0 0) 50)).setRow w.heap.size (arrC false (((1 : Nat) : Int) - 1) (dm (fun _ => (k : Int)) 1) na k nc none 0 0)) (.returned (.agg (arrC false (((1 : Nat) : Int) - 1) (dm (fun _ => (k : Int)) 1) na k nc none 0 0)))) :=
        ⟨_, rfl, ⟨na, nc, rfl, hq⟩, below_put hbb (Nat.le_refl _) _⟩
      clear hr3 hb3 B3 hbb hr1 hr0 hq
      unfold arrC
      go_wp2_with (first
        | (refine ld_arr rfl (.tmp 6) rfl w3.heap.size rfl HR1.out ?_)
        | (refine st_arr rfl (.tmp 2) (.tmp 32) rfl w.heap.size rfl _ _ _ _ _ _ _ _ _ rfl HR0.out rfl ?_))
      exact bodyPost_ret (res_arr Tryz.results70 rfl (HR0.out.put _) rfl) rfl HE.out

end Go.Proofs.YtdnbpkbapmlfaaaGreatDoor
