/-
  Package ratio: Of, by contract.
-/
import Derived.Test.YthklcdcikmninaaGreatDoorRa4
import Derived.Test.YthklcdcikmninaaGreatDoorRa9
import Derived.Laws.StructEq
namespace Go.Proofs.YthklcdcikmninaaGreatDoor
open Go.RowKit
attribute [local go_sem ↓] Go.wp_at_zero Go.wp_at_succ

/-- Is it a number, and which: by its digits. -/
def ofK (s t : ByteArray) : Bool := okB s.data.toList && okB t.data.toList && !decide (numOf t.data.toList = 0)
def ofP (b : Bool) (s t : ByteArray) : Int := loP (sgn b (numOf s.data.toList)) (numOf t.data.toList)
def ofQ (b : Bool) (s t : ByteArray) : Nat := loQ (sgn b (numOf s.data.toList)) (numOf t.data.toList)

set_option linter.unusedSimpArgs false in
set_option maxHeartbeats 6400000 in
set_option maxRecDepth 100000 in
theorem of_some (b : Bool) (s t : ByteArray) (w : World) (hs : s.size ≤ 60) (ht : t.size ≤ 60) (hk : ofK s t = true) (x : Bool) (hx : x = decide (rB (ofP b s t) = b ∧ rS (ofP b s t) = s ∧ str (dec (ofQ b s t)) = t)) :
    Calls Tryz.prog 14 #[.agg #[.bool b, .string s, .string t]] w fun e w' => RatTold3 w w' e (if x then ofP b s t else 0) (if x then ofQ b s t else 1) x := by
  have B0 := (Bag.start w).box3 (.bool b) (.string s) (.string t) 23 |>.box3 (.slice none 0 0) (.bool false) (.slice none 0 0) 30
  simp only [World.size_alloc] at B0
  unfold ofK at hk
  rw [Bool.and_eq_true, Bool.and_eq_true] at hk
  obtain ⟨⟨hk1, hk2⟩, hk3⟩ := hk
  have hM : 0 < numOf t.data.toList := by
    rw [Bool.not_eq_true', decide_eq_false_iff_not] at hk3; omega
  have RS1 := Lib.hid (fun wz => ratRead_yes s wz (by omega) hk1)
  have RS2 := Lib.hid (fun wz => ratRead_yes t wz (by omega) hk2)
  unfold SubOf3 at RS1 RS2
  have hsz : ∀ u : ByteArray, u.size ≤ 60 → okB u.data.toList = true → numOf u.data.toList < 10 ^ 60 := fun u hu hok => by
    obtain ⟨g1, g2, g3⟩ := okB_digs hok
    have h2 : u.data.toList.length = u.size := rfl
    exact Nat.lt_of_lt_of_le (numOf_lt _ g3) (Nat.pow_le_pow_right (by omega) (by omega))
  have hN1 := hsz s hs hk1
  have hM1 := hsz t ht hk2
  have h10 : (10 : Nat) ^ 60 < 4294967296 ^ 7 := by decide
  have ZE := Lib.hid (fun a n c wz (h : NatIs wz (.agg #[.slice a n c]) (numOf t.data.toList)) => zero_any _ _ wz h)
  rw [decide_eq_false (show ¬ numOf t.data.toList = 0 by omega)] at ZE
  have OF := Lib.hid (fun a n c wz (h : NatIs wz (.agg #[.slice a n c]) (numOf s.data.toList)) => wof_any b a n c _ wz h)
  have LW := Lib.hid (fun a n c m a2 n2 c2 wz (h : IntAt wz a n c m (sgn b (numOf s.data.toList))) (g : NatIs wz (.agg #[.slice a2 n2 c2]) (numOf t.data.toList)) => lowest_any a n c m _ a2 n2 c2 _ wz h g hM 7 (by omega) (by rw [sgn_abs]; omega) (by omega))
  rw [show loP (sgn b (numOf s.data.toList)) (numOf t.data.toList) = ofP b s t from rfl, show loQ (sgn b (numOf s.data.toList)) (numOf t.data.toList) = ofQ b s t from rfl] at LW
  have hQ0 : 0 < ofQ b s t := loQ_pos _ hM
  have hP7 : (ofP b s t).natAbs < 4294967296 ^ 7 := Nat.lt_of_le_of_lt (loP_absle _ _) (by rw [sgn_abs]; omega)
  have hQ7 : ofQ b s t < 4294967296 ^ 7 := Nat.lt_of_le_of_lt (loQ_le _ _) (by omega)
  have NM := Lib.hid (fun a n c m a2 n2 c2 wz hz => num_any a n c m a2 n2 c2 (ofP b s t) (ofQ b s t) wz hz hQ0 7 (by omega) hP7 hQ7)
  unfold NumTold at NM
  generalize ofP b s t = P at *
  generalize ofQ b s t = Q at *
  obtain ⟨pb, hpb⟩ : ∃ pb, rB P = pb := ⟨_, rfl⟩
  obtain ⟨ps, hps⟩ : ∃ ps, rS P = ps := ⟨_, rfl⟩
  obtain ⟨pt, hpt⟩ : ∃ pt, str (dec Q) = pt := ⟨_, rfl⟩
  rw [hpb, hps, hpt] at NM hx
  obtain ⟨v1, hv1⟩ : ∃ v, (pb == b) = v := ⟨_, rfl⟩
  obtain ⟨v2, hv2⟩ : ∃ v, (ps.toList == s.toList) = v := ⟨_, rfl⟩
  obtain ⟨v3, hv3⟩ : ∃ v, (pt.toList == t.toList) = v := ⟨_, rfl⟩
  have hbl : ∀ u v : ByteArray, u.toList = v.toList ↔ u = v := fun u v => ⟨fun h => by rw [ByteArray.toList_eq, ByteArray.toList_eq] at h; exact ByteArray.ext (Array.toList_inj.1 h), fun h => by rw [h]⟩
  have hx2 : x = (v1 && (v2 && v3)) := by
    rw [hx, Bool.eq_iff_iff, decide_eq_true_eq, Bool.and_eq_true, Bool.and_eq_true, ← hv1, ← hv2, ← hv3, beq_iff_eq, beq_iff_eq, beq_iff_eq, hbl, hbl]
  subst hx2
  clear hx hpb hps hpt hbl
  have BB := Lib.hid B0
  have q0 := B0.now.2.1.cell
  have q1 := B0.now.2.1.cell1
  have q2 := B0.now.2.1.cell2
  clear B0 hs ht hk1 hk2 hk3 hM hsz hN1 hM1 h10 hQ0 hP7 hQ7
  go_enter Tryz.func14, Tryz.ntmps14
  go_wp2_with (first
    | (go_at_call 34; (with_reducible refine (RS1.out _).mono ?_); rintro e w2 ⟨a3, n3, c3, rfl, hn3, hb2⟩; have hk2 := (BB.out.go hb2).now.1.lt; have BB := Lib.hid (((BB.out.go hb2).nat hn3).box (.slice a3 n3 c3) 26); clear hb2 hn3; have q0 := BB.out.now.2.2.2.1.cell; have q1 := BB.out.now.2.2.2.1.cell1; have q2 := BB.out.now.2.2.2.1.cell2)
    | (go_at_call 34; (with_reducible refine (RS2.out _).mono ?_); rintro e w3 ⟨a4, n4, c4, rfl, hn4, hb3⟩; have hk3 := (BB.out.go hb3).now.1.lt; have BB := Lib.hid (((BB.out.go hb3).nat hn4).box (.slice a4 n4 c4) 26); clear hb3 hn4; have q3 := BB.out.now.1.cell)
    | (go_at_call 35; (with_reducible refine (ZE.out _ _ _ _ BB.out.now.2.1).mono ?_); rintro e w4 ⟨rfl, hb4⟩; have BB := Lib.hid (BB.out.go hb4); clear hb4; have q0 := BB.out.now.2.2.2.2.2.1.cell; have q1 := BB.out.now.2.2.2.2.2.1.cell1; have q2 := BB.out.now.2.2.2.2.2.1.cell2; have q3 := BB.out.now.1.cell; have q4 := BB.out.now.2.2.1.cell))
  have HP : Hid (∀ (y : World) (k : Nat), Slot3 y k (.slice none 0 0) (.bool false) (.slice none 0 0) → w3.heap.size < k → Bag w (fun y => Slot y w3.heap.size (.slice a4 n4 c4) ∧ NatIs y (.agg #[.slice a4 n4 c4]) (numOf t.data.toList) ∧ Slot y w2.heap.size (.slice a3 n3 c3) ∧ NatIs y (.agg #[.slice a3 n3 c3]) (numOf s.data.toList) ∧ Slot3 y (w.heap.size + 1) (.slice none 0 0) (.bool false) (.slice none 0 0) ∧ Slot3 y w.heap.size (.bool b) (.string s) (.string t) ∧ True) y → ∀ (a9 : Option Addr) (n9 c9 : Nat) (m9 : Bool) (a10 : Option Addr) (n10 c10 : Nat), Bag w (fun y => Slot y w3.heap.size (.slice a4 n4 c4) ∧ NatIs y (.agg #[.slice a4 n4 c4]) (numOf t.data.toList) ∧ Slot y w2.heap.size (.slice a3 n3 c3) ∧ NatIs y (.agg #[.slice a3 n3 c3]) (numOf s.data.toList) ∧ Slot3 y (w.heap.size + 1) (.slice none 0 0) (.bool false) (.slice none 0 0) ∧ Slot3 y w.heap.size (.bool b) (.string s) (.string t) ∧ True) (((y.setCell ⟨k, 0, none⟩ (.slice a9 n9 c9)).setCell ⟨k, 1, none⟩ (.bool m9)).setCell ⟨k, 2, none⟩ (.slice a10 n10 c10))) := by
    intro y k s hk B a9 n9 c9 m9 a10 n10 c10
    have hx : ∀ (x : Option Addr) (y z : Nat) (ki : IntKind) (i : Int), (Value.slice x y z) ≠ .int ki i := fun _ _ _ _ _ h => by cases h
    have hb : ∀ (x : Bool) (ki : IntKind) (i : Int), (Value.bool x) ≠ .int ki i := fun _ _ _ h => by cases h
    have q := B.now
    exact ⟨((B.below.setCell (p := ⟨k, 0, none⟩) (show w.heap.size ≤ k by omega) _).setCell (p := ⟨k, 1, none⟩) (show w.heap.size ≤ k by omega) _).setCell (p := ⟨k, 2, none⟩) (show w.heap.size ≤ k by omega) _, B.stay, q.1.set3o (by omega) _ _ _, q.2.1.set3 s (hx _ _ _) (hb _) (hx _ _ _) _ _ _, q.2.2.1.set3o (by omega) _ _ _, q.2.2.2.1.set3 s (hx _ _ _) (hb _) (hx _ _ _) _ _ _, q.2.2.2.2.1.set3o (by omega) _ _ _, q.2.2.2.2.2.1.set3o (by omega) _ _ _, trivial⟩
  have HC : Hid (∀ y, (fun y => Slot y w3.heap.size (.slice a4 n4 c4) ∧ NatIs y (.agg #[.slice a4 n4 c4]) (numOf t.data.toList) ∧ Slot y w2.heap.size (.slice a3 n3 c3) ∧ NatIs y (.agg #[.slice a3 n3 c3]) (numOf s.data.toList) ∧ Slot3 y (w.heap.size + 1) (.slice none 0 0) (.bool false) (.slice none 0 0) ∧ Slot3 y w.heap.size (.bool b) (.string s) (.string t) ∧ True) y → ((y.cell? ⟨w.heap.size, 0, none⟩ = some (.bool b) ∧ y.cell? ⟨w.heap.size, 1, none⟩ = some (.string s) ∧ y.cell? ⟨w.heap.size, 2, none⟩ = some (.string t)) ∧ y.cell? ⟨w2.heap.size, 0, none⟩ = some (.slice a3 n3 c3) ∧ y.cell? ⟨w3.heap.size, 0, none⟩ = some (.slice a4 n4 c4))) := fun y h => ⟨⟨h.2.2.2.2.2.1.cell, h.2.2.2.2.2.1.cell1, h.2.2.2.2.2.1.cell2⟩, h.2.2.1.cell, h.1.cell⟩
  refine wp_capture (fun R hR => ?_)
  have TL : ∀ (k8 : Nat) (a5 : Option Addr) (n5 c5 : Nat) (m5 : Bool) (a6 : Option Addr) (n6 c6 : Nat) (m6 : Bool) (a7 : Option Addr) (n7 c7 : Nat) (wy : World), Bag w (fun y => Slot y w3.heap.size (.slice a4 n4 c4) ∧ NatIs y (.agg #[.slice a4 n4 c4]) (numOf t.data.toList) ∧ Slot y w2.heap.size (.slice a3 n3 c3) ∧ NatIs y (.agg #[.slice a3 n3 c3]) (numOf s.data.toList) ∧ Slot3 y (w.heap.size + 1) (.slice none 0 0) (.bool false) (.slice none 0 0) ∧ Slot3 y w.heap.size (.bool b) (.string s) (.string t) ∧ True) wy → Slot3 wy k8 (.slice a6 n6 c6) (.bool m6) (.slice a7 n7 c7) → RatAt wy a6 n6 c6 m6 a7 n7 c7 P Q → R .normal { tmps := #[Value.agg #[Value.bool b, Value.string s, Value.string t], Value.pointer (some { block := w.heap.size, off := 0 }), Value.pointer (some { block := w.heap.size + 1, off := 0 }), Value.bool false, Value.pointer (some { block := w2.heap.size, off := 0 }), Value.bool true, Value.pointer (some { block := w3.heap.size, off := 0 }), Value.bool true, Value.pointer (some { block := k8, off := 0 }), Value.tuple #[Value.agg #[Value.slice a3 n3 c3], Value.bool true], Value.pointer (some { block := w.heap.size, off := 1 }), Value.string s, Value.tuple #[Value.agg #[Value.slice a3 n3 c3], Value.bool true], Value.agg #[Value.slice a3 n3 c3], Value.bool true, Value.tuple #[Value.agg #[Value.slice a4 n4 c4], Value.bool true], Value.pointer (some { block := w.heap.size, off := 2 }), Value.string t, Value.tuple #[Value.agg #[Value.slice a4 n4 c4], Value.bool true], Value.agg #[Value.slice a4 n4 c4], Value.bool true, Value.bool true, Value.bool false, Value.bool false, Value.bool true, Value.bool false, Value.bool false, Value.bool false, Value.agg #[Value.slice a4 n4 c4], Value.bool false, Value.bool false, undef, Value.pointer (some { block := w.heap.size, off := 0 }), Value.bool b, Value.agg #[Value.slice a3 n3 c3], Value.agg #[Value.slice a5 n5 c5, Value.bool m5], Value.agg #[Value.slice a4 n4 c4], Value.agg #[Value.slice a6 n6 c6, Value.bool m6, Value.slice a7 n7 c7], undef, undef, undef, undef, undef, undef], defers := [] } wy := by
    intro k8 a5 n5 c5 m5 a6 n6 c6 m6 a7 n7 c7 wy B1 sA hr5
    rw [hR]
    have BB := Lib.hid ((B1.slot3 sA).rat hr5)
    have q0 := BB.out.now.2.1.cell
    have q1 := BB.out.now.2.1.cell1
    have q2 := BB.out.now.2.1.cell2
    clear B1 sA hr5
    have BB := Lib.hid BB.out.drew
    cases v1 <;> cases v2 <;> cases v3
    all_goals
      go_wp2_with fail
      go_region_held3 (fun y => (y.cell? ⟨k8, 0, none⟩ = some (.slice a6 n6 c6) ∧ y.cell? ⟨k8, 1, none⟩ = some (.bool m6) ∧ y.cell? ⟨k8, 2, none⟩ = some (.slice a7 n7 c7)) ∧ y.cell? ⟨w.heap.size, 0, none⟩ = some (.bool b) ∧ y.cell? ⟨w.heap.size, 1, none⟩ = some (.string s) ∧ y.cell? ⟨w.heap.size, 2, none⟩ = some (.string t))
        (exact ⟨⟨BB.out.now.2.1.cell, BB.out.now.2.1.cell1, BB.out.now.2.1.cell2⟩, BB.out.now.2.2.2.2.2.2.2.1.cell, BB.out.now.2.2.2.2.2.2.2.1.cell1, BB.out.now.2.2.2.2.2.2.2.1.cell2⟩)
        (first
          | (go_at_call 12; (with_reducible refine (NM.out _ _ _ _ _ _ _ _ BB.out.now.1).mono ?_); rintro e w9 ⟨rfl, hb9⟩; have BB := Lib.hid (BB.out.go hb9)))
    all_goals
      have q0 := BB.out.now.2.1.cell
      have q1 := BB.out.now.2.1.cell1
      have q2 := BB.out.now.2.1.cell2
      have hs9 := BB.out.now.2.2.2.2.2.2.1
      have u0 := hs9.cell
      have u1 := hs9.cell1
      have u2 := hs9.cell2
      have g0 := hs9.free
      have g1 := hs9.free1
      have g2 := hs9.free2
      first
        | (have HS := hs9.set (.slice a6 n6 c6) (.bool m6) (.slice a7 n7 c7)
           have HE := Lib.hid (RatTold3.done true BB.out.below (show w.heap.size ≤ w.heap.size + 1 by omega) hs9 BB.out.now.1)
           go_wp2
           exact bodyPost_ret (v := .tuple #[.agg #[.slice a6 n6 c6, .bool m6, .slice a7 n7 c7], .bool true]) (by simp [results, Tryz.results14, go_sem, HS]) rfl HE.out)
        | (have HS := hs9.set (.slice none 0 0) (.bool false) (.slice none 0 0)
           have HE := Lib.hid (RatTold3.done false BB.out.below (show w.heap.size ≤ w.heap.size + 1 by omega) hs9 (RatAt.zero _))
           go_wp2
           exact bodyPost_ret (v := .tuple #[.agg #[.slice none 0 0, .bool false, .slice none 0 0], .bool false]) (by simp [results, Tryz.results14, go_sem, HS]) rfl HE.out)
  refine wp_region_noPanic ?_
  refine wp_region_held_drew (S := (fun y => ((y.cell? ⟨w.heap.size, 0, none⟩ = some (.bool b) ∧ y.cell? ⟨w.heap.size, 1, none⟩ = some (.string s) ∧ y.cell? ⟨w.heap.size, 2, none⟩ = some (.string t)) ∧ y.cell? ⟨w2.heap.size, 0, none⟩ = some (.slice a3 n3 c3) ∧ y.cell? ⟨w3.heap.size, 0, none⟩ = some (.slice a4 n4 c4)) ∧ Bag w (fun y => Slot y w3.heap.size (.slice a4 n4 c4) ∧ NatIs y (.agg #[.slice a4 n4 c4]) (numOf t.data.toList) ∧ Slot y w2.heap.size (.slice a3 n3 c3) ∧ NatIs y (.agg #[.slice a3 n3 c3]) (numOf s.data.toList) ∧ Slot3 y (w.heap.size + 1) (.slice none 0 0) (.bool false) (.slice none 0 0) ∧ Slot3 y w.heap.size (.bool b) (.string s) (.string t) ∧ True) y)) (by kernel_rfl) ?_ (fun _ => ?_)
  · exact (have B9 := BB.out.drew; ⟨HC.out _ B9.now, B9⟩)
  have hH : ((w4.drew.cell? ⟨w.heap.size, 0, none⟩ = some (.bool b) ∧ w4.drew.cell? ⟨w.heap.size, 1, none⟩ = some (.string s) ∧ w4.drew.cell? ⟨w.heap.size, 2, none⟩ = some (.string t)) ∧ w4.drew.cell? ⟨w2.heap.size, 0, none⟩ = some (.slice a3 n3 c3) ∧ w4.drew.cell? ⟨w3.heap.size, 0, none⟩ = some (.slice a4 n4 c4)) ∧ Bag w (fun y => Slot y w3.heap.size (.slice a4 n4 c4) ∧ NatIs y (.agg #[.slice a4 n4 c4]) (numOf t.data.toList) ∧ Slot y w2.heap.size (.slice a3 n3 c3) ∧ NatIs y (.agg #[.slice a3 n3 c3]) (numOf s.data.toList) ∧ Slot3 y (w.heap.size + 1) (.slice none 0 0) (.bool false) (.slice none 0 0) ∧ Slot3 y w.heap.size (.bool b) (.string s) (.string t) ∧ True) w4.drew := (have B9 := BB.out.drew; ⟨HC.out _ B9.now, B9⟩)
  generalize hw1 : w4.drew = w1 at *
  refine wpAnyH_take (i := 0) (oi := ⟨some 32, Op.fieldAddr 23 (Operand.tmp 1) 0, 0, _, _, none⟩) (v := ?v1) rfl (by kernel_rfl) (by kernel_rfl) (by kernel_rfl) (fun _ _ _ h => h) (Or.inl ⟨by rfl, ?hy1⟩) hH ?_
  case hy1 =>
    intro y hy
    (try dsimp only at hy)
    go_simp
    try with_reducible rfl
  try simp only [Act.put, List.setIfInBounds_toArray, List.set_cons_zero, List.set_cons_succ]
  refine wpAnyH_take (i := 1) (oi := ⟨some 33, Op.load 4 (Operand.tmp 32), 4, _, _, none⟩) (v := ?v2) rfl (by kernel_rfl) (by kernel_rfl) (by kernel_rfl) (fun _ _ _ h => h) (Or.inl ⟨by rfl, ?hy2⟩) hH ?_
  case hy2 =>
    intro y hy
    (try dsimp only at hy)
    go_simp
    try with_reducible rfl
  try simp only [Act.put, List.setIfInBounds_toArray, List.set_cons_zero, List.set_cons_succ]
  refine wpAnyH_take (i := 2) (oi := ⟨some 34, Op.load 26 (Operand.tmp 4), 26, _, _, none⟩) (v := ?v3) rfl (by kernel_rfl) (by kernel_rfl) (by kernel_rfl) (fun _ _ _ h => h) (Or.inl ⟨by rfl, ?hy3⟩) hH ?_
  case hy3 =>
    intro y hy
    (try dsimp only at hy)
    go_simp
    try with_reducible rfl
  try simp only [Act.put, List.setIfInBounds_toArray, List.set_cons_zero, List.set_cons_succ]
  refine wpAnyH_take (i := 4) (oi := ⟨some 36, Op.load 26 (Operand.tmp 6), 26, _, _, none⟩) (v := ?v4) rfl (by kernel_rfl) (by kernel_rfl) (by kernel_rfl) (fun _ _ _ h => h) (Or.inl ⟨by rfl, ?hy4⟩) hH ?_
  case hy4 =>
    intro y hy
    (try dsimp only at hy)
    go_simp
    try with_reducible rfl
  try simp only [Act.put, List.setIfInBounds_toArray, List.set_cons_zero, List.set_cons_succ]
  refine wpAnyH_ready (rs := [3, 6]) (by kernel_rfl) (by simp) ?_
  refine AllReadyH.cons (o := ⟨some 35, Op.call { callee := Callee.value (Operand.func 36), args := #[Operand.tmp 33, Operand.tmp 34], argTypes := #[4, 26] }, 28, _, _, none⟩) rfl (fun K hK => ?_) ?_
  · go_simp
    (go_at_call 36; (with_reducible refine (OF.out _ _ _ _ hH.2.now.2.2.2.1).mono ?_); rintro e wy3 ⟨a5, n5, c5, m5, rfl, hi5, hbz⟩)
    refine hK.out _ _ ?_ (fun hH => ?_)
    · exact (have B9 := Bag.go hH.2 hbz; ⟨HC.out _ B9.now, B9⟩)
    clear hK K
    try simp only [Act.put, List.setIfInBounds_toArray, List.set_cons_zero, List.set_cons_succ]
    refine wpAnyH_ready (rs := [5, 6]) (by kernel_rfl) (by simp) ?_
    refine AllReadyH.cons (o := ⟨some 37, Op.call { callee := Callee.value (Operand.func 20), args := #[Operand.tmp 35, Operand.tmp 36], argTypes := #[28, 26] }, 30, _, _, none⟩) rfl (fun K hK => ?_) ?_
    · go_simp
      (go_at_call 20; (with_reducible refine (LW.out _ _ _ _ _ _ _ _ (IntAt.below hi5 (by exact Below.refl _ _)) hH.2.now.2.1).mono ?_); rintro e wy5 ⟨a6, n6, c6, m6, a7, n7, c7, rfl, hr5, hbz⟩)
      refine hK.out _ _ ?_ (fun hH => ?_)
      · exact (have B9 := Bag.go hH.2 hbz; ⟨HC.out _ B9.now, B9⟩)
      clear hK K
      try simp only [Act.put, List.setIfInBounds_toArray, List.set_cons_zero, List.set_cons_succ]
      refine wpAnyH_ready (rs := [6]) (by kernel_rfl) (by simp) ?_
      refine AllReadyH.cons (o := ⟨some 8, Op.alloc 30, 0, _, _, none⟩) rfl (fun K hK => ?_) AllReadyH.nil
      have hkA := hH.2.now.1.lt
      have sA := Slot3.new wy5 (.slice none 0 0) (.bool false) (.slice none 0 0) 30
      go_simp
      refine hK.out _ _ ?_ (fun hH => ?_)
      · exact (have B9 := Bag.alloc hH.2 _; ⟨HC.out _ B9.now, B9⟩)
      clear hK K
      try simp only [Act.put, List.setIfInBounds_toArray, List.set_cons_zero, List.set_cons_succ]
      refine wpAnyH_ready (rs := [7]) (by kernel_rfl) (by simp) ?_
      refine AllReadyH.cons (o := ⟨none, Op.store 30 (Operand.tmp 8) (Operand.tmp 37), 0, _, _, none⟩) rfl (fun K hK => ?_) AllReadyH.nil
      have hr5 := hr5.below (show Below wy5.heap.size wy5 (World.alloc wy5 (.cells #[.slice none 0 0, .bool false, .slice none 0 0] 30)) from by refine Below.more ?_ _; exact Below.refl _ _)
      generalize hww : (World.alloc wy5 (.cells #[.slice none 0 0, .bool false, .slice none 0 0] 30)) = ww at *
      have l0 := sA.cell
      have l1 := sA.cell1
      have l2 := sA.cell2
      have f0 := sA.free
      have f1 := sA.free1
      have f2 := sA.free2
      have B9s := HP.out _ _ sA (by omega) hH.2 a6 n6 c6 m6 a7 n7 c7
      have hr5 := RatAt.set3 hr5 sA (.slice a6 n6 c6) (.bool m6) (.slice a7 n7 c7)
      have sA := (sA.set2 (.slice a6 n6 c6) (.bool m6)).set1 (.slice a7 n7 c7)
      go_simp
      refine hK.out _ _ ?_ (fun hH => ?_)
      · exact ⟨HC.out _ B9s.now, B9s⟩
      clear hK K
      try simp only [Act.put, List.setIfInBounds_toArray, List.set_cons_zero, List.set_cons_succ]
      refine wpAnyH_done (by kernel_rfl) ?_ _
      refine NoPanic.normal ?_
      exact TL _ _ _ _ _ _ _ _ _ _ _ _ _ hH.2 sA hr5
    refine AllReadyH.cons (o := ⟨some 8, Op.alloc 30, 0, _, _, none⟩) rfl (fun K hK => ?_) ?_
    · have hkA := hH.2.now.1.lt
      have sA := Slot3.new wy3 (.slice none 0 0) (.bool false) (.slice none 0 0) 30
      go_simp
      refine hK.out _ _ ?_ (fun hH => ?_)
      · exact (have B9 := Bag.alloc hH.2 _; ⟨HC.out _ B9.now, B9⟩)
      clear hK K
      try simp only [Act.put, List.setIfInBounds_toArray, List.set_cons_zero, List.set_cons_succ]
      refine wpAnyH_ready (rs := [5]) (by kernel_rfl) (by simp) ?_
      refine AllReadyH.cons (o := ⟨some 37, Op.call { callee := Callee.value (Operand.func 20), args := #[Operand.tmp 35, Operand.tmp 36], argTypes := #[28, 26] }, 30, _, _, none⟩) rfl (fun K hK => ?_) AllReadyH.nil
      go_simp
      (go_at_call 20; (with_reducible refine (LW.out _ _ _ _ _ _ _ _ (IntAt.below hi5 (by refine Below.more ?_ _; exact Below.refl _ _)) hH.2.now.2.1).mono ?_); rintro e wy5 ⟨a6, n6, c6, m6, a7, n7, c7, rfl, hr5, hbz⟩); have sA := sA.below hbz
      refine hK.out _ _ ?_ (fun hH => ?_)
      · exact (have B9 := Bag.go hH.2 hbz; ⟨HC.out _ B9.now, B9⟩)
      clear hK K
      try simp only [Act.put, List.setIfInBounds_toArray, List.set_cons_zero, List.set_cons_succ]
      refine wpAnyH_ready (rs := [7]) (by kernel_rfl) (by simp) ?_
      refine AllReadyH.cons (o := ⟨none, Op.store 30 (Operand.tmp 8) (Operand.tmp 37), 0, _, _, none⟩) rfl (fun K hK => ?_) AllReadyH.nil
      have l0 := sA.cell
      have l1 := sA.cell1
      have l2 := sA.cell2
      have f0 := sA.free
      have f1 := sA.free1
      have f2 := sA.free2
      have B9s := HP.out _ _ sA (by omega) hH.2 a6 n6 c6 m6 a7 n7 c7
      have hr5 := RatAt.set3 hr5 sA (.slice a6 n6 c6) (.bool m6) (.slice a7 n7 c7)
      have sA := (sA.set2 (.slice a6 n6 c6) (.bool m6)).set1 (.slice a7 n7 c7)
      go_simp
      refine hK.out _ _ ?_ (fun hH => ?_)
      · exact ⟨HC.out _ B9s.now, B9s⟩
      clear hK K
      try simp only [Act.put, List.setIfInBounds_toArray, List.set_cons_zero, List.set_cons_succ]
      refine wpAnyH_done (by kernel_rfl) ?_ _
      refine NoPanic.normal ?_
      exact TL _ _ _ _ _ _ _ _ _ _ _ _ _ hH.2 sA hr5
    exact AllReadyH.nil
  refine AllReadyH.cons (o := ⟨some 8, Op.alloc 30, 0, _, _, none⟩) rfl (fun K hK => ?_) ?_
  · have hkA := hH.2.now.1.lt
    have sA := Slot3.new w1 (.slice none 0 0) (.bool false) (.slice none 0 0) 30
    go_simp
    refine hK.out _ _ ?_ (fun hH => ?_)
    · exact (have B9 := Bag.alloc hH.2 _; ⟨HC.out _ B9.now, B9⟩)
    clear hK K
    try simp only [Act.put, List.setIfInBounds_toArray, List.set_cons_zero, List.set_cons_succ]
    refine wpAnyH_ready (rs := [3]) (by kernel_rfl) (by simp) ?_
    refine AllReadyH.cons (o := ⟨some 35, Op.call { callee := Callee.value (Operand.func 36), args := #[Operand.tmp 33, Operand.tmp 34], argTypes := #[4, 26] }, 28, _, _, none⟩) rfl (fun K hK => ?_) AllReadyH.nil
    go_simp
    (go_at_call 36; (with_reducible refine (OF.out _ _ _ _ hH.2.now.2.2.2.1).mono ?_); rintro e wy3 ⟨a5, n5, c5, m5, rfl, hi5, hbz⟩); have sA := sA.below hbz
    refine hK.out _ _ ?_ (fun hH => ?_)
    · exact (have B9 := Bag.go hH.2 hbz; ⟨HC.out _ B9.now, B9⟩)
    clear hK K
    try simp only [Act.put, List.setIfInBounds_toArray, List.set_cons_zero, List.set_cons_succ]
    refine wpAnyH_ready (rs := [5]) (by kernel_rfl) (by simp) ?_
    refine AllReadyH.cons (o := ⟨some 37, Op.call { callee := Callee.value (Operand.func 20), args := #[Operand.tmp 35, Operand.tmp 36], argTypes := #[28, 26] }, 30, _, _, none⟩) rfl (fun K hK => ?_) AllReadyH.nil
    go_simp
    (go_at_call 20; (with_reducible refine (LW.out _ _ _ _ _ _ _ _ (IntAt.below hi5 (by exact Below.refl _ _)) hH.2.now.2.1).mono ?_); rintro e wy5 ⟨a6, n6, c6, m6, a7, n7, c7, rfl, hr5, hbz⟩); have sA := sA.below hbz
    refine hK.out _ _ ?_ (fun hH => ?_)
    · exact (have B9 := Bag.go hH.2 hbz; ⟨HC.out _ B9.now, B9⟩)
    clear hK K
    try simp only [Act.put, List.setIfInBounds_toArray, List.set_cons_zero, List.set_cons_succ]
    refine wpAnyH_ready (rs := [7]) (by kernel_rfl) (by simp) ?_
    refine AllReadyH.cons (o := ⟨none, Op.store 30 (Operand.tmp 8) (Operand.tmp 37), 0, _, _, none⟩) rfl (fun K hK => ?_) AllReadyH.nil
    have l0 := sA.cell
    have l1 := sA.cell1
    have l2 := sA.cell2
    have f0 := sA.free
    have f1 := sA.free1
    have f2 := sA.free2
    have B9s := HP.out _ _ sA (by omega) hH.2 a6 n6 c6 m6 a7 n7 c7
    have hr5 := RatAt.set3 hr5 sA (.slice a6 n6 c6) (.bool m6) (.slice a7 n7 c7)
    have sA := (sA.set2 (.slice a6 n6 c6) (.bool m6)).set1 (.slice a7 n7 c7)
    go_simp
    refine hK.out _ _ ?_ (fun hH => ?_)
    · exact ⟨HC.out _ B9s.now, B9s⟩
    clear hK K
    try simp only [Act.put, List.setIfInBounds_toArray, List.set_cons_zero, List.set_cons_succ]
    refine wpAnyH_done (by kernel_rfl) ?_ _
    refine NoPanic.normal ?_
    exact TL _ _ _ _ _ _ _ _ _ _ _ _ _ hH.2 sA hr5
  exact AllReadyH.nil

set_option maxHeartbeats 6400000 in
set_option maxRecDepth 100000 in
theorem of_none (b : Bool) (s t : ByteArray) (w : World) (hs : s.size ≤ 60) (ht : t.size ≤ 60) (hk : ofK s t = false) :
    Calls Tryz.prog 14 #[.agg #[.bool b, .string s, .string t]] w fun e w' => RatTold3 w w' e 0 1 false := by
  have B0 := (Bag.start w).box3 (.bool b) (.string s) (.string t) 23 |>.box3 (.slice none 0 0) (.bool false) (.slice none 0 0) 30
  simp only [World.size_alloc] at B0
  have RD : ∀ u : ByteArray, u.size ≤ 60 → Hid (∀ wz, Calls Tryz.prog 34 #[.string u] wz fun e w' => SubOf3 wz w' e (if okB u.data.toList then numOf u.data.toList else 0) (okB u.data.toList)) := fun u hu wz => by
    cases h : okB u.data.toList with
    | true => exact ratRead_yes u wz (by omega) h
    | false => exact ratRead_no u wz (by omega) h
  have RS1 := RD s hs
  have RS2 := RD t ht
  unfold SubOf3 at RS1 RS2
  unfold ofK at hk
  have ZE := Lib.hid (fun a n c wz (h : NatIs wz (.agg #[.slice a n c]) (if okB t.data.toList then numOf t.data.toList else 0)) => zero_any _ _ wz h)
  have hz : ∀ g, okB t.data.toList = g → g = true → decide ((if okB t.data.toList then numOf t.data.toList else 0) = 0) = decide (numOf t.data.toList = 0) := fun g h1 h2 => by rw [h1, h2, if_pos rfl]
  obtain ⟨g1, hg1⟩ : ∃ g, okB s.data.toList = g := ⟨_, rfl⟩
  obtain ⟨g2, hg2⟩ : ∃ g, okB t.data.toList = g := ⟨_, rfl⟩
  have hz2 := hz g2 hg2
  clear hz RD
  obtain ⟨z, hz3⟩ : ∃ z, decide ((if okB t.data.toList then numOf t.data.toList else 0) = 0) = z := ⟨_, rfl⟩
  rw [hz3] at ZE hz2
  generalize (if okB t.data.toList then numOf t.data.toList else 0) = M at *
  generalize (if okB s.data.toList then numOf s.data.toList else 0) = N at *
  rw [hg1] at RS1 hk
  rw [hg2] at RS2 hk
  have hk2 : (g1 && (g2 && !z)) = false := by
    cases g2 with
    | false => simp
    | true => rw [← hz2 rfl] at hk; simpa using hk
  have BB := Lib.hid B0
  have q0 := B0.now.2.1.cell
  have q1 := B0.now.2.1.cell1
  have q2 := B0.now.2.1.cell2
  clear B0 hs ht hk hg1 hg2 hz2 hz3
  cases g1 <;> cases g2 <;> cases z
  all_goals
    first
      | (exact absurd hk2 (by decide))
      | skip
  all_goals
    clear hk2
    go_enter Tryz.func14, Tryz.ntmps14
    go_wp2_with fail
    go_at_call 34
    (with_reducible refine (RS1.out _).mono ?_)
    rintro e w2 ⟨a3, n3, c3, rfl, hn3, hb2⟩
    have BB := Lib.hid ((BB.out.go hb2).alloc (.cells #[.slice a3 n3 c3] 26))
    clear hb2 hn3
    have q0 := BB.out.now.2.1.cell
    have q1 := BB.out.now.2.1.cell1
    have q2 := BB.out.now.2.1.cell2
    go_wp2_with fail
    go_at_call 34
    (with_reducible refine (RS2.out _).mono ?_)
    rintro e w3 ⟨a4, n4, c4, rfl, hn4, hb3⟩
    have BB := Lib.hid (((BB.out.go hb3).nat hn4).box (.slice a4 n4 c4) 26)
    clear hb3 hn4
    have q3 := BB.out.now.1.cell
    have hs9 := BB.out.now.2.2.1
    have u0 := hs9.cell
    have u1 := hs9.cell1
    have u2 := hs9.cell2
    have g0 := hs9.free
    have g1 := hs9.free1
    have g2 := hs9.free2
    have HS := hs9.set (.slice none 0 0) (.bool false) (.slice none 0 0)
    have HE := Lib.hid (RatTold3.done false BB.out.below (show w.heap.size ≤ w.heap.size + 1 by omega) hs9 (RatAt.zero _))
    clear hs9
    go_wp2_with (first
      | (go_at_call 35; (with_reducible refine (ZE.out _ _ _ _ BB.out.now.2.1).mono ?_); rintro e w4 ⟨rfl, hb4⟩; have BB := Lib.hid (BB.out.go hb4); clear hb4; have hs9 := BB.out.now.2.2.1; have u0 := hs9.cell; have u1 := hs9.cell1; have u2 := hs9.cell2; have g0 := hs9.free; have g1 := hs9.free1; have g2 := hs9.free2; have HS := hs9.set (.slice none 0 0) (.bool false) (.slice none 0 0); have HE := Lib.hid (RatTold3.done false BB.out.below (show w.heap.size ≤ w.heap.size + 1 by omega) hs9 (RatAt.zero _)); clear hs9))
    exact bodyPost_ret (v := .tuple #[.agg #[.slice none 0 0, .bool false, .slice none 0 0], .bool false]) (by simp [results, Tryz.results14, go_sem, HS]) rfl HE.out

/-- Which number it is. -/
def ofO (b : Bool) (s t : ByteArray) : Bool := ofK s t && decide (rB (ofP b s t) = b ∧ rS (ofP b s t) = s ∧ str (dec (ofQ b s t)) = t)
theorem of_any' (b : Bool) (s t : ByteArray) (w : World) (hs : s.size ≤ 60) (ht : t.size ≤ 60) :
    Calls Tryz.prog 14 #[.agg #[.bool b, .string s, .string t]] w fun e w' => RatTold3 w w' e (if ofO b s t then ofP b s t else 0) (if ofO b s t then ofQ b s t else 1) (ofO b s t) := by
  cases hk : ofK s t with
  | false =>
    have e : ofO b s t = false := by unfold ofO; rw [hk]; rfl
    rw [e]; exact of_none b s t w hs ht hk
  | true =>
    have e : ofO b s t = decide (rB (ofP b s t) = b ∧ rS (ofP b s t) = s ∧ str (dec (ofQ b s t)) = t) := by unfold ofO; rw [hk, Bool.true_and]
    rw [e]; exact of_some b s t w hs ht hk _ rfl

end Go.Proofs.YthklcdcikmninaaGreatDoor
