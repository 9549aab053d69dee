/-
  The document's answer for layer 4: Read, by contract.
-/
import Derived.Test.YtgpcfncolhmgfaaGreatDoorDg4
import Derived.Test.YtgpcfncolhmgfaaGreatDoorDw0
import Derived.Test.YtgpcfncolhmgfaaGreatDoorK8
namespace Go.Proofs.YtgpcfncolhmgfaaGreatDoor
open Go.RowKit
attribute [local go_sem ↓] Go.wp_at_zero Go.wp_at_succ

theorem rd_same (neg : Bool) (l : List UInt8) (n : Int) : ttP (sgn neg (numOf l)) 1 n = nwP (vlT neg l n) (vlB n) ∧ ttQ (sgn neg (numOf l)) 1 n = nwQ (vlT neg l n) (vlB n) := by
  unfold ttP ttQ vlT vlB
  by_cases h : 0 ≤ n
  · rw [if_pos h, if_pos h, show (-n).toNat = 0 by omega]
    unfold tmP tmQ nwP nwQ upZ
    have e : sgn neg (numOf l * 10 ^ n.toNat) = sgn neg (numOf l) * ((10 ^ n.toNat : Nat) : Int) := by
      unfold sgn
      cases neg <;> simp [Int.neg_mul]
    rw [e]
    exact ⟨rfl, rfl⟩
  · rw [if_neg h, if_neg h, show n.toNat = 0 by omega]
    unfold dvP dvQ
    have hp : 0 < 10 ^ (-n).toNat := Nat.pow_pos (by omega)
    have hz : ¬ ((10 ^ (-n).toNat : Nat) : Int) = 0 := by omega
    rw [if_neg hz, if_neg hz]
    simp

def RdNum (w w' : World) (e : Ending) (P : Int) (Q : Nat) (nx : Nat) (ok : Bool) : Prop := e = .returned (.tuple #[.agg #[.bool (rB P), .string (rS P), .string (str (dec Q))], .int .i64 (nx : Nat), .bool ok]) ∧ Below w.heap.size w w'
theorem RdNum.done {w w2 : World} {k : Nat} (P : Int) (Q : Nat) (nx : Nat) (ok : Bool) (hb : Below w.heap.size w w2) (hk : w.heap.size ≤ k) {b : Bool} {s t : ByteArray} (h1 : rB P = b) (h2 : rS P = s) (h3 : str (dec Q) = t) :
    RdNum w (((w2.setCell ⟨k, 0, none⟩ (.bool b)).setCell ⟨k, 1, none⟩ (.string s)).setCell ⟨k, 2, none⟩ (.string t)) (.returned (.tuple #[.agg #[.bool b, .string s, .string t], .int .i64 (nx : Nat), .bool ok])) P Q nx ok :=
  ⟨by rw [h1, h2, h3], ((hb.setCell (p := ⟨k, 0, none⟩) hk _).setCell (p := ⟨k, 1, none⟩) hk _).setCell (p := ⟨k, 2, none⟩) hk _⟩

theorem wp_cut4 {P : Program} {x1 x2 x3 x4 R : Code} {Q : Exit → Act → World → Prop} {K : Act → World → Prop} (hk : ∀ a w, (x1.seq (x2.seq (x3.seq (x4.seq R)))).wp P Q a w → K a w) :
    ∃ RW : Act → World → Prop, (∀ a w, R.wp P Q a w → RW a w) ∧ ∀ a w, (∀ K1 K2 K3 : Act → World → Prop, (∀ a w, x2.wp P (Exit.then K2 Q) a w → K1 a w) → (∀ a w, x3.wp P (Exit.then K3 Q) a w → K2 a w) → (∀ a w, x4.wp P (Exit.then RW Q) a w → K3 a w) → x1.wp P (Exit.then K1 Q) a w) → K a w :=
  ⟨R.wp P Q, fun _ _ h => h, fun a w h => hk a w (wp_seq (h _ _ _ (fun _ _ h => wp_seq h) (fun _ _ h => wp_seq h) (fun _ _ h => wp_seq h)))⟩

set_option maxHeartbeats 6400000 in
set_option maxRecDepth 100000 in
theorem r4Read_no (a : Option Addr) (n c : Nat) (f : Nat → Int) (i : Int) (w : World) (h : KRow w .i32 a n c f) (hi : -9223372036854775808 ≤ i ∧ i ≤ 9223372036854775807) (hbg : bgB f n i = false) :
    Calls Tryz.prog 7 #[.slice a n c, .int .i64 i] w fun e w' =>
      RdNum w w' e 0 1 0 false := by
  have BG := Lib.hid (fun wz hz => r4Begins_any a n c f i wz hz hi)
  have ZR := Lib.hid (fun wz => r3Zero_any wz)
  unfold NumTold at ZR
  have BB := Lib.hid ((Bag.start w).box3 (.bool false) (.string ⟨#[]⟩) (.string ⟨#[]⟩) 34)
  have HKA := Lib.hid (h.below ((Below.refl w.heap.size w).alloc (Nat.le_refl _) (.cells #[.bool false, .string ⟨#[]⟩, .string ⟨#[]⟩] 34)))
  obtain ⟨zb, hzb⟩ : ∃ z, rB 0 = z := ⟨_, rfl⟩
  obtain ⟨zs, hzs⟩ : ∃ z, rS 0 = z := ⟨_, rfl⟩
  obtain ⟨zt, hzt⟩ : ∃ z, str (dec 1) = z := ⟨_, rfl⟩
  rw [hzb, hzs, hzt] at ZR
  have ZZ : Hid (∀ (w2 : World), Bag w (fun y => Slot3 y w.heap.size (.bool false) (.string ⟨#[]⟩) (.string ⟨#[]⟩) ∧ True) w2 → RdNum w (((w2.setCell ⟨w.heap.size, 0, none⟩ (.bool zb)).setCell ⟨w.heap.size, 1, none⟩ (.string zs)).setCell ⟨w.heap.size, 2, none⟩ (.string zt)) (.returned (.tuple #[.agg #[.bool zb, .string zs, .string zt], .int .i64 (0 : Nat), .bool false])) 0 1 0 false) :=
    Lib.hid (fun w2 B => RdNum.done 0 1 0 false B.below (Nat.le_refl _) hzb hzs hzt)
  clear hzb hzs
  rw [hbg] at BG
  clear hbg h hzt
  go_enter Tryz.func7, Tryz.ntmps7
  go_wp2_with fail
  go_at_call 9
  refine (BG.out _ HKA.out).mono ?_
  rintro e w2 ⟨rfl, rfl⟩
  go_wp2_with fail
  go_at_call 20
  refine (ZR.out _).mono ?_
  rintro e w9 ⟨rfl, hb9⟩
  have BB := Lib.hid (BB.out.go hb9)
  have hs := BB.out.now.1
  have r0 := hs.cell
  have r1 := hs.cell1
  have r2 := hs.cell2
  have g0 := hs.free
  have g1 := hs.free1
  have g2 := hs.free2
  have HS := hs.set (.bool zb) (.string zs) (.string zt)
  have HE := Lib.hid (ZZ.out _ BB.out)
  clear hs hb9
  go_wp2
  exact bodyPost_ret (v := .tuple #[.agg #[.bool zb, .string zs, .string zt], .int .i64 0, .bool false]) (by simp [results, Tryz.results7, go_sem, HS]) rfl HE.out

end Go.Proofs.YtgpcfncolhmgfaaGreatDoor
