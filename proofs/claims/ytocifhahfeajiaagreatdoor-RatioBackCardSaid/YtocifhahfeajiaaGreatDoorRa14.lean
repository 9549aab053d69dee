/-
  Package ratio: shifted (of 0), read (of no more than 2000 digits), by contract.
-/
import Derived.Test.YtocifhahfeajiaaGreatDoorRa7
import Derived.Test.YtocifhahfeajiaaGreatDoorRa5
namespace Go.Proofs.YtocifhahfeajiaaGreatDoor
open Go.RowKit
attribute [local go_sem ↓] Go.wp_at_zero Go.wp_at_succ

set_option maxHeartbeats 1600000 in
set_option maxRecDepth 100000 in
theorem shifted0_any (a : Option Addr) (n c : Nat) (k : Int) (w : World) (h : NatIs w (.agg #[.slice a n c]) 0) :
    Calls Tryz.prog 110 #[.agg #[.slice a n c], .int .i64 k] w fun e w' => NatTold2 w w' e (.agg #[.slice a n c]) 0 := by
  have B0 := (((Bag.start w).nat h).box (.slice a n c) 26).box (.slice none 0 0) 26
  simp only [World.size_alloc] at B0
  have ZE := Lib.hid (fun wz (h : NatIs wz (.agg #[.slice a n c]) 0) => zero_any _ 0 wz h)
  rw [decide_eq_true rfl] at ZE
  have BB := Lib.hid B0
  have q0 := B0.now.2.1.cell
  clear h B0
  go_enter Tryz.func110, Tryz.ntmps110
  go_wp2_with fail
  go_at_call 68
  (with_reducible refine (ZE.out _ BB.out.now.2.2.1).mono ?_)
  rintro e w2 ⟨rfl, hb2⟩
  have BB := Lib.hid (BB.out.go hb2)
  have q0 := BB.out.now.2.1.cell
  have hs := BB.out.now.1
  have hc := hs.cell
  have hf := hs.free
  have HS := World.cell?_setCell_same w2 ⟨w.heap.size + 1, 0, none⟩ (.slice a n c) hc
  have HE : Hid (NatTold2 w (w2.setCell ⟨w.heap.size + 1, 0, none⟩ (.slice a n c)) (.returned (.agg #[.slice a n c])) (.agg #[.slice a n c]) 0) := ⟨rfl, BB.out.now.2.2.1.storeAt hc (fun _ _ h => by cases h) _, BB.out.below.setCell (p := ⟨w.heap.size + 1, 0, none⟩) (show w.heap.size ≤ w.heap.size + 1 by omega) _⟩
  clear hb2 hs
  go_wp2
  exact bodyPost_ret (v := .agg #[.slice a n c]) (by simp [results, Tryz.results110, go_sem, HS]) rfl HE.out

set_option maxHeartbeats 3200000 in
set_option maxRecDepth 100000 in
theorem ratRead_yes (s : ByteArray) (w : World) (hs : s.size ≤ 2000) (hok : okB s.data.toList = true) :
    Calls Tryz.prog 67 #[.string s] w fun e w' => SubOf3 w w' e (numOf s.data.toList) true := by
  have B0 := (Bag.start w).box (.slice none 0 0) 26 |>.box (.slice none 0 0) 26
  simp only [World.size_alloc] at B0
  have PA := Lib.hid (fun wz => parse_any s wz (by unfold maxLen; omega))
  unfold ParseOut at PA
  rw [hok] at PA
  have BB := Lib.hid B0
  go_enter Tryz.func67, Tryz.ntmps67
  go_wp2
  have hsz : ¬ ((s.size : Int) > 2000) := by omega
  go_loopw [0] (fun i wr => i = .string s ∧ wr = ((w.alloc (.cells #[.slice none 0 0] 26)).alloc (.cells #[.slice none 0 0] 26))) (fun _ _ => 0)
  case atStart => exact ⟨rfl, rfl⟩
  case round =>
    obtain ⟨rfl, rfl⟩ := hrel
    go_wp2_with fail
    go_at_call 89
    (with_reducible refine (PA.out _).mono ?_)
    rintro e w2 ⟨a, n, c, rfl, hv, _, hb2⟩
    rw [if_pos trivial] at hv
    have hk2 := (BB.out.go hb2).now.1.lt
    have BB := Lib.hid (((BB.out.go hb2).nat hv).box (.slice a n c) 26)
    have he : w.heap.size + 1 ≠ w.heap.size ∧ w2.heap.size ≠ w.heap.size := by omega
    have SH := Lib.hid (fun k wz => shifted0_any none 0 0 k wz (NatIs.zero wz))
    unfold NatTold2 at SH
    obtain ⟨K, hK⟩ : ∃ K, K = 2000 := ⟨_, rfl⟩
    have hN : numOf s.data.toList < 4294967296 ^ K := by
      obtain ⟨g1, g2, g3⟩ := okB_digs hok
      have h1 := numOf_lt _ g3
      have h2 : s.data.toList.length = s.size := rfl
      exact Nat.lt_of_lt_of_le h1 (Nat.le_trans (Nat.pow_le_pow_right (by omega) (show s.data.toList.length ≤ K by omega)) (Nat.pow_le_pow_left (by omega) K))
    have AD : Hid (∀ a n c b k l wz, NatIs wz (.agg #[.slice a n c]) 0 → NatIs wz (.agg #[.slice b k l]) (numOf s.data.toList) → Calls Tryz.prog 95 #[.agg #[.slice a n c], .agg #[.slice b k l]] wz fun e w' => NatTold wz w' e (numOf s.data.toList)) := fun a n c b k l wz h g => by
      have := (add_any _ _ 0 (numOf s.data.toList) wz h g K (by omega) (Nat.pow_pos (by omega)) hN).mono fun _ _ h => h.told
      rw [Nat.zero_add] at this
      exact this
    clear hv hb2 hN B0
    go_wp2_with fail
    have BB := Lib.hid BB.out.drew
    go_region_held3 (fun y => y.cell? ⟨w.heap.size + 1, 0, none⟩ = some (.slice none 0 0) ∧ y.cell? ⟨w2.heap.size, 0, none⟩ = some (.slice a n c))
      (first
        | (exact ⟨z0.cell, z1.cell⟩)
        | (exact ⟨BB.out.now.2.2.1.cell, BB.out.now.1.cell⟩))
      (first
        | (go_at_call 110; (with_reducible refine (SH.out _ _).mono ?_); rintro e w3 ⟨rfl, hn3, hb3⟩; have BB := Lib.hid (BB.out.go hb3))
        | (go_at_call 95; (with_reducible refine (AD.out _ _ _ _ _ _ _ hn3 BB.out.now.2.1).mono ?_); rintro e w4 ⟨a5, n5, c5, rfl, hn5, hb4⟩; have BB := Lib.hid (BB.out.go hb4); have hs4 := BB.out.now.2.2.2.1; have hc := hs4.cell; have hf := hs4.free; have z0 := BB.out.now.2.2.1.seto he.1 (.slice a5 n5 c5); have z1 := BB.out.now.1.seto he.2 (.slice a5 n5 c5); have HS := World.cell?_setCell_same w4 ⟨w.heap.size, 0, none⟩ (.slice a5 n5 c5) hc; have HE : Hid (SubOf3 w (w4.setCell ⟨w.heap.size, 0, none⟩ (.slice a5 n5 c5)) (.returned (.tuple #[.agg #[.slice a5 n5 c5], .bool true])) (numOf s.data.toList) true) := ⟨a5, n5, c5, rfl, hn5.storeAt hc (fun _ _ h => by cases h) _, BB.out.below.setCell (p := ⟨w.heap.size, 0, none⟩) (Nat.le_refl _) _⟩))
    go_wp2
    exact bodyPost_ret (v := .tuple #[.agg #[.slice a5 n5 c5], .bool true]) (by simp [results, Tryz.results67, go_sem, HS]) rfl HE.out

set_option maxHeartbeats 3200000 in
set_option maxRecDepth 100000 in
theorem ratRead_no (s : ByteArray) (w : World) (hs : s.size ≤ 2000) (hok : okB s.data.toList = false) :
    Calls Tryz.prog 67 #[.string s] w fun e w' => SubOf3 w w' e 0 false := by
  have B0 := (Bag.start w).box (.slice none 0 0) 26 |>.box (.slice none 0 0) 26
  simp only [World.size_alloc] at B0
  have PA := Lib.hid (fun wz => parse_any s wz (by unfold maxLen; omega))
  unfold ParseOut at PA
  rw [hok] at PA
  have BB := Lib.hid B0
  go_enter Tryz.func67, Tryz.ntmps67
  go_wp2
  have hsz : ¬ ((s.size : Int) > 2000) := by omega
  go_loopw [0] (fun i wr => i = .string s ∧ wr = ((w.alloc (.cells #[.slice none 0 0] 26)).alloc (.cells #[.slice none 0 0] 26))) (fun _ _ => 0)
  case atStart => exact ⟨rfl, rfl⟩
  case round =>
    obtain ⟨rfl, rfl⟩ := hrel
    go_wp2_with fail
    go_at_call 89
    (with_reducible refine (PA.out _).mono ?_)
    rintro e w2 ⟨a, n, c, rfl, hv, _, hb2⟩
    have BB := Lib.hid ((BB.out.go hb2).box (.slice a n c) 26)
    have hs4 := BB.out.now.2.2.1
    have hc := hs4.cell
    have hf := hs4.free
    have HS := World.cell?_setCell_same _ ⟨w.heap.size, 0, none⟩ (.slice none 0 0) hc
    have HE := Lib.hid (show SubOf3 w _ (.returned (.tuple #[.agg #[.slice none 0 0], .bool false])) 0 false from ⟨none, 0, 0, rfl, NatIs.zero _, BB.out.below.setCell (p := ⟨w.heap.size, 0, none⟩) (Nat.le_refl _) (.slice none 0 0)⟩)
    clear hv hb2 B0 hs4
    go_wp2
    exact bodyPost_ret (v := .tuple #[.agg #[.slice none 0 0], .bool false]) (by simp [results, Tryz.results67, go_sem, HS]) rfl HE.out

end Go.Proofs.YtocifhahfeajiaaGreatDoor
