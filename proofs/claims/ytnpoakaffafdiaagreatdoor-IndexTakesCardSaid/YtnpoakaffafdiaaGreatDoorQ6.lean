/-
  Texts of this seat, laid together.
-/
import Derived.Laws.StructEq
import Derived.ChangeKeysEq
import Derived.Test.YtnpoakaffafdiaaGreatDoorQ1
import Derived.Test.YtnpoakaffafdiaaGreatDoorQ2
import Derived.Test.YtnpoakaffafdiaaGreatDoorQ3
import Derived.Test.YtnpoakaffafdiaaGreatDoorQ4
import Derived.Test.YtnpoakaffafdiaaGreatDoorQ5
set_option maxHeartbeats 12800000
set_option maxRecDepth 100000
set_option linter.unusedSimpArgs false
set_option linter.unusedVariables false
namespace Go.Proofs.YtnpoakaffafdiaaGreatDoor
open Go.RowKit
attribute [local go_sem ↓] Go.wp_at_zero Go.wp_at_succ
def ofK (s t : ByteArray) : Bool := okB s.data.toList && okB t.data.toList && !decide (numOf t.data.toList = 0)
def ofP (b : Bool) (s t : ByteArray) : Int := loP (sgn b (numOf s.data.toList)) (numOf t.data.toList)
def ofQ (b : Bool) (s t : ByteArray) : Nat := loQ (sgn b (numOf s.data.toList)) (numOf t.data.toList)
theorem of_some (b : Bool) (s t : ByteArray) (w : World) (hs : s.size <= 60) (ht : t.size <= 60) (hk : ofK s t = true) (x : Bool) (hx : x = decide (rB (ofP b s t) = b /\ rS (ofP b s t) = s /\ str (dec (ofQ b s t)) = t)) :
    Calls Tryz.prog 63 #[.agg #[.bool b, .string s, .string t]] w fun e w' => RatTold3 w w' e (if x then ofP b s t else 0) (if x then ofQ b s t else 1) x := by
 have B0 := (Bag.start w).box3 (.bool b) (.string s) (.string t) 53 |>.box3 (.slice none 0 0) (.bool false) (.slice none 0 0) 60
 simp only [World.size_alloc] at B0
 unfold ofK at hk
 rw [Bool.and_eq_true, Bool.and_eq_true] at hk
 obtain ⟨⟨hk1, hk2⟩, hk3⟩ := hk
 have hM : 0 < numOf t.data.toList := by
  rw [Bool.not_eq_true', decide_eq_false_iff_not] at hk3; omega
 have RS1 := Lib.hid (fun wz => ratRead_yes s wz (by omega) hk1)
 have RS2 := Lib.hid (fun wz => ratRead_yes t wz (by omega) hk2)
 unfold SubOf3 at RS1 RS2
 have hsz : ∀ u : ByteArray, u.size <= 60 -> okB u.data.toList = true -> numOf u.data.toList < 10 ^ 60 := fun u hu hok => by
  obtain ⟨g1, g2, g3⟩ := okB_digs hok
  have h2 : u.data.toList.length = u.size := rfl
  exact Nat.lt_of_lt_of_le (numOf_lt _ g3) (Nat.pow_le_pow_right (by omega) (by omega))
 have hN1 := hsz s hs hk1
 have hM1 := hsz t ht hk2
 have h10 : (10 : Nat) ^ 60 < 4294967296 ^ 7 := by decide
 have ZE := Lib.hid (fun a n c wz (h : NatIs wz (.agg #[.slice a n c]) (numOf t.data.toList)) => zero_any _ _ wz h)
 rw [decide_eq_false (show ¬ numOf t.data.toList = 0 by omega)] at ZE
 have OF := Lib.hid (fun a n c wz (h : NatIs wz (.agg #[.slice a n c]) (numOf s.data.toList)) => wof_any b a n c _ wz h)
 have LW := Lib.hid (fun a n c m a2 n2 c2 wz (h : IntAt wz a n c m (sgn b (numOf s.data.toList))) (g : NatIs wz (.agg #[.slice a2 n2 c2]) (numOf t.data.toList)) => lowest_any a n c m _ a2 n2 c2 _ wz h g hM 7 (by omega) (by rw [sgn_abs]; omega) (by omega))
 rw [show loP (sgn b (numOf s.data.toList)) (numOf t.data.toList) = ofP b s t from rfl, show loQ (sgn b (numOf s.data.toList)) (numOf t.data.toList) = ofQ b s t from rfl] at LW
 have hQ0 : 0 < ofQ b s t := loQ_pos _ hM
 have hP7 : (ofP b s t).natAbs < 4294967296 ^ 7 := Nat.lt_of_le_of_lt (loP_absle _ _) (by rw [sgn_abs]; omega)
 have hQ7 : ofQ b s t < 4294967296 ^ 7 := Nat.lt_of_le_of_lt (loQ_le _ _) (by omega)
 have NM := Lib.hid (fun a n c m a2 n2 c2 wz hz => num_any a n c m a2 n2 c2 (ofP b s t) (ofQ b s t) wz hz hQ0 7 (by omega) hP7 hQ7)
 unfold NumTold at NM
 generalize ofP b s t = P at *
 generalize ofQ b s t = Q at *
 obtain ⟨pb, hpb⟩ : ∃ pb, rB P = pb := ⟨_, rfl⟩
 obtain ⟨ps, hps⟩ : ∃ ps, rS P = ps := ⟨_, rfl⟩
 obtain ⟨pt, hpt⟩ : ∃ pt, str (dec Q) = pt := ⟨_, rfl⟩
 rw [hpb, hps, hpt] at NM hx
 obtain ⟨v1, hv1⟩ : ∃ v, (pb == b) = v := ⟨_, rfl⟩
 obtain ⟨v2, hv2⟩ : ∃ v, (ps.toList == s.toList) = v := ⟨_, rfl⟩
 obtain ⟨v3, hv3⟩ : ∃ v, (pt.toList == t.toList) = v := ⟨_, rfl⟩
 have hbl : ∀ u v : ByteArray, u.toList = v.toList ↔ u = v := fun u v => ⟨fun h => by rw [ByteArray.toList_eq, ByteArray.toList_eq] at h; exact ByteArray.ext (Array.toList_inj.1 h), fun h => by rw [h]⟩
 have hx2 : x = (v1 && (v2 && v3)) := by
  rw [hx, Bool.eq_iff_iff, decide_eq_true_eq, Bool.and_eq_true, Bool.and_eq_true, ← hv1, ← hv2, ← hv3, beq_iff_eq, beq_iff_eq, beq_iff_eq, hbl, hbl]
 subst hx2
 clear hx hpb hps hpt hbl
 have BB := Lib.hid B0
 have q0 := B0.now.2.1.cell
 have q1 := B0.now.2.1.cell1
 have q2 := B0.now.2.1.cell2
 clear B0 hs ht hk1 hk2 hk3 hM hsz hN1 hM1 h10 hQ0 hP7 hQ7
 go_enter Tryz.func63, Tryz.ntmps63
 go_wp2_with (first
  | (go_at_call 117; (with_reducible refine (RS1.out _).mono ?_); rintro e w2 ⟨a3, n3, c3, rfl, hn3, hb2⟩; have hk2 := (BB.out.go hb2).now.1.lt; have BB := Lib.hid (((BB.out.go hb2).nat hn3).box (.slice a3 n3 c3) 56); clear hb2 hn3; have q0 := BB.out.now.2.2.2.1.cell; have q1 := BB.out.now.2.2.2.1.cell1; have q2 := BB.out.now.2.2.2.1.cell2)
  | (go_at_call 117; (with_reducible refine (RS2.out _).mono ?_); rintro e w3 ⟨a4, n4, c4, rfl, hn4, hb3⟩; have hk3 := (BB.out.go hb3).now.1.lt; have BB := Lib.hid (((BB.out.go hb3).nat hn4).box (.slice a4 n4 c4) 56); clear hb3 hn4; have q3 := BB.out.now.1.cell)
  | (go_at_call 107; (with_reducible refine (ZE.out _ _ _ _ BB.out.now.2.1).mono ?_); rintro e w4 ⟨rfl, hb4⟩; have BB := Lib.hid (BB.out.go hb4); clear hb4; have q0 := BB.out.now.2.2.2.2.2.1.cell; have q1 := BB.out.now.2.2.2.2.2.1.cell1; have q2 := BB.out.now.2.2.2.2.2.1.cell2; have q3 := BB.out.now.1.cell; have q4 := BB.out.now.2.2.1.cell))
 have HP : Hid (∀ (y : World) (k : Nat), Slot3 y k (.slice none 0 0) (.bool false) (.slice none 0 0) -> w3.heap.size < k -> Bag w (fun y => Slot y w3.heap.size (.slice a4 n4 c4) /\ NatIs y (.agg #[.slice a4 n4 c4]) (numOf t.data.toList) /\ Slot y w2.heap.size (.slice a3 n3 c3) /\ NatIs y (.agg #[.slice a3 n3 c3]) (numOf s.data.toList) /\ Slot3 y (w.heap.size + 1) (.slice none 0 0) (.bool false) (.slice none 0 0) /\ Slot3 y w.heap.size (.bool b) (.string s) (.string t) /\ True) y -> ∀ (a9 : Option Addr) (n9 c9 : Nat) (m9 : Bool) (a10 : Option Addr) (n10 c10 : Nat), Bag w (fun y => Slot y w3.heap.size (.slice a4 n4 c4) /\ NatIs y (.agg #[.slice a4 n4 c4]) (numOf t.data.toList) /\ Slot y w2.heap.size (.slice a3 n3 c3) /\ NatIs y (.agg #[.slice a3 n3 c3]) (numOf s.data.toList) /\ Slot3 y (w.heap.size + 1) (.slice none 0 0) (.bool false) (.slice none 0 0) /\ Slot3 y w.heap.size (.bool b) (.string s) (.string t) /\ True) (((y.setCell ⟨k, 0, none⟩ (.slice a9 n9 c9)).setCell ⟨k, 1, none⟩ (.bool m9)).setCell ⟨k, 2, none⟩ (.slice a10 n10 c10))) := by
  intro y k s hk B a9 n9 c9 m9 a10 n10 c10
  have hx : ∀ (x : Option Addr) (y z : Nat) (ki : IntKind) (i : Int), (Value.slice x y z) ≠ .int ki i := fun _ _ _ _ _ h => by cases h
  have hb : ∀ (x : Bool) (ki : IntKind) (i : Int), (Value.bool x) ≠ .int ki i := fun _ _ _ h => by cases h
  have q := B.now
  exact ⟨((B.below.setCell (p := ⟨k, 0, none⟩) (show w.heap.size <= k by omega) _).setCell (p := ⟨k, 1, none⟩) (show w.heap.size <= k by omega) _).setCell (p := ⟨k, 2, none⟩) (show w.heap.size <= k by omega) _, B.stay, q.1.set3o (by omega) _ _ _, q.2.1.set3 s (hx _ _ _) (hb _) (hx _ _ _) _ _ _, q.2.2.1.set3o (by omega) _ _ _, q.2.2.2.1.set3 s (hx _ _ _) (hb _) (hx _ _ _) _ _ _, q.2.2.2.2.1.set3o (by omega) _ _ _, q.2.2.2.2.2.1.set3o (by omega) _ _ _, trivial⟩
 have HC : Hid (∀ y, (fun y => Slot y w3.heap.size (.slice a4 n4 c4) /\ NatIs y (.agg #[.slice a4 n4 c4]) (numOf t.data.toList) /\ Slot y w2.heap.size (.slice a3 n3 c3) /\ NatIs y (.agg #[.slice a3 n3 c3]) (numOf s.data.toList) /\ Slot3 y (w.heap.size + 1) (.slice none 0 0) (.bool false) (.slice none 0 0) /\ Slot3 y w.heap.size (.bool b) (.string s) (.string t) /\ True) y -> ((y.cell? ⟨w.heap.size, 0, none⟩ = some (.bool b) /\ y.cell? ⟨w.heap.size, 1, none⟩ = some (.string s) /\ y.cell? ⟨w.heap.size, 2, none⟩ = some (.string t)) /\ y.cell? ⟨w2.heap.size, 0, none⟩ = some (.slice a3 n3 c3) /\ y.cell? ⟨w3.heap.size, 0, none⟩ = some (.slice a4 n4 c4))) := fun y h => ⟨⟨h.2.2.2.2.2.1.cell, h.2.2.2.2.2.1.cell1, h.2.2.2.2.2.1.cell2⟩, h.2.2.1.cell, h.1.cell⟩
 refine wp_capture (fun R hR => ?_)
 have TL : ∀ (k8 : Nat) (a5 : Option Addr) (n5 c5 : Nat) (m5 : Bool) (a6 : Option Addr) (n6 c6 : Nat) (m6 : Bool) (a7 : Option Addr) (n7 c7 : Nat) (wy : World), Bag w (fun y => Slot y w3.heap.size (.slice a4 n4 c4) /\ NatIs y (.agg #[.slice a4 n4 c4]) (numOf t.data.toList) /\ Slot y w2.heap.size (.slice a3 n3 c3) /\ NatIs y (.agg #[.slice a3 n3 c3]) (numOf s.data.toList) /\ Slot3 y (w.heap.size + 1) (.slice none 0 0) (.bool false) (.slice none 0 0) /\ Slot3 y w.heap.size (.bool b) (.string s) (.string t) /\ True) wy -> Slot3 wy k8 (.slice a6 n6 c6) (.bool m6) (.slice a7 n7 c7) -> RatAt wy a6 n6 c6 m6 a7 n7 c7 P Q -> R .normal { tmps := #[Value.agg #[Value.bool b, Value.string s, Value.string t], Value.pointer (some { block := w.heap.size, off := 0 }), Value.pointer (some { block := w.heap.size + 1, off := 0 }), Value.bool false, Value.pointer (some { block := w2.heap.size, off := 0 }), Value.bool true, Value.pointer (some { block := w3.heap.size, off := 0 }), Value.bool true, Value.pointer (some { block := k8, off := 0 }), Value.tuple #[Value.agg #[Value.slice a3 n3 c3], Value.bool true], Value.pointer (some { block := w.heap.size, off := 1 }), Value.string s, Value.tuple #[Value.agg #[Value.slice a3 n3 c3], Value.bool true], Value.agg #[Value.slice a3 n3 c3], Value.bool true, Value.tuple #[Value.agg #[Value.slice a4 n4 c4], Value.bool true], Value.pointer (some { block := w.heap.size, off := 2 }), Value.string t, Value.tuple #[Value.agg #[Value.slice a4 n4 c4], Value.bool true], Value.agg #[Value.slice a4 n4 c4], Value.bool true, Value.bool true, Value.bool false, Value.bool false, Value.bool true, Value.bool false, Value.bool false, Value.bool false, Value.agg #[Value.slice a4 n4 c4], Value.bool false, Value.bool false, undef, Value.pointer (some { block := w.heap.size, off := 0 }), Value.bool b, Value.agg #[Value.slice a3 n3 c3], Value.agg #[Value.slice a5 n5 c5, Value.bool m5], Value.agg #[Value.slice a4 n4 c4], Value.agg #[Value.slice a6 n6 c6, Value.bool m6, Value.slice a7 n7 c7], undef, undef, undef, undef, undef, undef], defers := [] } wy := by
  intro k8 a5 n5 c5 m5 a6 n6 c6 m6 a7 n7 c7 wy B1 sA hr5
  rw [hR]
  have BB := Lib.hid ((B1.slot3 sA).rat hr5)
  have q0 := BB.out.now.2.1.cell
  have q1 := BB.out.now.2.1.cell1
  have q2 := BB.out.now.2.1.cell2
  clear B1 sA hr5
  have BB := Lib.hid BB.out.drew
  cases v1 <;> cases v2 <;> cases v3
  all_goals
   go_wp2_with fail
   go_region_held3 (fun y => (y.cell? ⟨k8, 0, none⟩ = some (.slice a6 n6 c6) /\ y.cell? ⟨k8, 1, none⟩ = some (.bool m6) /\ y.cell? ⟨k8, 2, none⟩ = some (.slice a7 n7 c7)) /\ y.cell? ⟨w.heap.size, 0, none⟩ = some (.bool b) /\ y.cell? ⟨w.heap.size, 1, none⟩ = some (.string s) /\ y.cell? ⟨w.heap.size, 2, none⟩ = some (.string t))
    (exact ⟨⟨BB.out.now.2.1.cell, BB.out.now.2.1.cell1, BB.out.now.2.1.cell2⟩, BB.out.now.2.2.2.2.2.2.2.1.cell, BB.out.now.2.2.2.2.2.2.2.1.cell1, BB.out.now.2.2.2.2.2.2.2.1.cell2⟩)
    (first
      | (go_at_call 22; (with_reducible refine (NM.out _ _ _ _ _ _ _ _ BB.out.now.1).mono ?_); rintro e w9 ⟨rfl, hb9⟩; have BB := Lib.hid (BB.out.go hb9)))
  all_goals
   have q0 := BB.out.now.2.1.cell
   have q1 := BB.out.now.2.1.cell1
   have q2 := BB.out.now.2.1.cell2
   have hs9 := BB.out.now.2.2.2.2.2.2.1
   have u0 := hs9.cell
   have u1 := hs9.cell1
   have u2 := hs9.cell2
   have g0 := hs9.free
   have g1 := hs9.free1
   have g2 := hs9.free2
   first
    | (have HS := hs9.set (.slice a6 n6 c6) (.bool m6) (.slice a7 n7 c7)
       have HE := Lib.hid (RatTold3.done true BB.out.below (show w.heap.size <= w.heap.size + 1 by omega) hs9 BB.out.now.1)
       go_wp2
       exact bodyPost_ret (v := .tuple #[.agg #[.slice a6 n6 c6, .bool m6, .slice a7 n7 c7], .bool true]) (by simp [results, Tryz.results63, go_sem, HS]) rfl HE.out)
    | (have HS := hs9.set (.slice none 0 0) (.bool false) (.slice none 0 0)
       have HE := Lib.hid (RatTold3.done false BB.out.below (show w.heap.size <= w.heap.size + 1 by omega) hs9 (RatAt.zero _))
       go_wp2
       exact bodyPost_ret (v := .tuple #[.agg #[.slice none 0 0, .bool false, .slice none 0 0], .bool false]) (by simp [results, Tryz.results63, go_sem, HS]) rfl HE.out)
 refine wp_region_noPanic ?_
 refine wp_region_held_drew (S := (fun y => ((y.cell? ⟨w.heap.size, 0, none⟩ = some (.bool b) /\ y.cell? ⟨w.heap.size, 1, none⟩ = some (.string s) /\ y.cell? ⟨w.heap.size, 2, none⟩ = some (.string t)) /\ y.cell? ⟨w2.heap.size, 0, none⟩ = some (.slice a3 n3 c3) /\ y.cell? ⟨w3.heap.size, 0, none⟩ = some (.slice a4 n4 c4)) /\ Bag w (fun y => Slot y w3.heap.size (.slice a4 n4 c4) /\ NatIs y (.agg #[.slice a4 n4 c4]) (numOf t.data.toList) /\ Slot y w2.heap.size (.slice a3 n3 c3) /\ NatIs y (.agg #[.slice a3 n3 c3]) (numOf s.data.toList) /\ Slot3 y (w.heap.size + 1) (.slice none 0 0) (.bool false) (.slice none 0 0) /\ Slot3 y w.heap.size (.bool b) (.string s) (.string t) /\ True) y)) (by kernel_rfl) ?_ (fun _ => ?_)
 · exact (have B9 := BB.out.drew; ⟨HC.out _ B9.now, B9⟩)
 have hH : ((w4.drew.cell? ⟨w.heap.size, 0, none⟩ = some (.bool b) /\ w4.drew.cell? ⟨w.heap.size, 1, none⟩ = some (.string s) /\ w4.drew.cell? ⟨w.heap.size, 2, none⟩ = some (.string t)) /\ w4.drew.cell? ⟨w2.heap.size, 0, none⟩ = some (.slice a3 n3 c3) /\ w4.drew.cell? ⟨w3.heap.size, 0, none⟩ = some (.slice a4 n4 c4)) /\ Bag w (fun y => Slot y w3.heap.size (.slice a4 n4 c4) /\ NatIs y (.agg #[.slice a4 n4 c4]) (numOf t.data.toList) /\ Slot y w2.heap.size (.slice a3 n3 c3) /\ NatIs y (.agg #[.slice a3 n3 c3]) (numOf s.data.toList) /\ Slot3 y (w.heap.size + 1) (.slice none 0 0) (.bool false) (.slice none 0 0) /\ Slot3 y w.heap.size (.bool b) (.string s) (.string t) /\ True) w4.drew := (have B9 := BB.out.drew; ⟨HC.out _ B9.now, B9⟩)
 generalize hw1 : w4.drew = w1 at *
 refine wpAnyH_take (i := 0) (oi := ⟨some 32, Op.fieldAddr 53 (Operand.tmp 1) 0, 0, _, _, none⟩) (v := ?v1) rfl (by kernel_rfl) (by kernel_rfl) (by kernel_rfl) (fun _ _ _ h => h) (Or.inl ⟨by rfl, ?hy1⟩) hH ?_
 case hy1 =>
  intro y hy
  (try dsimp only at hy)
  go_simp
  try with_reducible rfl
 try simp only [Act.put, List.setIfInBounds_toArray, List.set_cons_zero, List.set_cons_succ]
 refine wpAnyH_take (i := 1) (oi := ⟨some 33, Op.load 4 (Operand.tmp 32), 4, _, _, none⟩) (v := ?v2) rfl (by kernel_rfl) (by kernel_rfl) (by kernel_rfl) (fun _ _ _ h => h) (Or.inl ⟨by rfl, ?hy2⟩) hH ?_
 case hy2 =>
  intro y hy
  (try dsimp only at hy)
  go_simp
  try with_reducible rfl
 try simp only [Act.put, List.setIfInBounds_toArray, List.set_cons_zero, List.set_cons_succ]
 refine wpAnyH_take (i := 2) (oi := ⟨some 34, Op.load 56 (Operand.tmp 4), 56, _, _, none⟩) (v := ?v3) rfl (by kernel_rfl) (by kernel_rfl) (by kernel_rfl) (fun _ _ _ h => h) (Or.inl ⟨by rfl, ?hy3⟩) hH ?_
 case hy3 =>
  intro y hy
  (try dsimp only at hy)
  go_simp
  try with_reducible rfl
 try simp only [Act.put, List.setIfInBounds_toArray, List.set_cons_zero, List.set_cons_succ]
 refine wpAnyH_take (i := 4) (oi := ⟨some 36, Op.load 56 (Operand.tmp 6), 56, _, _, none⟩) (v := ?v4) rfl (by kernel_rfl) (by kernel_rfl) (by kernel_rfl) (fun _ _ _ h => h) (Or.inl ⟨by rfl, ?hy4⟩) hH ?_
 case hy4 =>
  intro y hy
  (try dsimp only at hy)
  go_simp
  try with_reducible rfl
 try simp only [Act.put, List.setIfInBounds_toArray, List.set_cons_zero, List.set_cons_succ]
 refine wpAnyH_ready (rs := [3, 6]) (by kernel_rfl) (by simp) ?_
 refine AllReadyH.cons (o := ⟨some 35, Op.call { callee := Callee.value (Operand.func 119), args := #[Operand.tmp 33, Operand.tmp 34], argTypes := #[4, 56] }, 58, _, _, none⟩) rfl (fun K hK => ?_) ?_
 · go_simp
   (go_at_call 119; (with_reducible refine (OF.out _ _ _ _ hH.2.now.2.2.2.1).mono ?_); rintro e wy3 ⟨a5, n5, c5, m5, rfl, hi5, hbz⟩)
   refine hK.out _ _ ?_ (fun hH => ?_)
   · exact (have B9 := Bag.go hH.2 hbz; ⟨HC.out _ B9.now, B9⟩)
   clear hK K
   try simp only [Act.put, List.setIfInBounds_toArray, List.set_cons_zero, List.set_cons_succ]
   refine wpAnyH_ready (rs := [5, 6]) (by kernel_rfl) (by simp) ?_
   refine AllReadyH.cons (o := ⟨some 37, Op.call { callee := Callee.value (Operand.func 118), args := #[Operand.tmp 35, Operand.tmp 36], argTypes := #[58, 56] }, 60, _, _, none⟩) rfl (fun K hK => ?_) ?_
   · go_simp
     (go_at_call 118; (with_reducible refine (LW.out _ _ _ _ _ _ _ _ (IntAt.below hi5 (by exact Below.refl _ _)) hH.2.now.2.1).mono ?_); rintro e wy5 ⟨a6, n6, c6, m6, a7, n7, c7, rfl, hr5, hbz⟩)
     refine hK.out _ _ ?_ (fun hH => ?_)
     · exact (have B9 := Bag.go hH.2 hbz; ⟨HC.out _ B9.now, B9⟩)
     clear hK K
     try simp only [Act.put, List.setIfInBounds_toArray, List.set_cons_zero, List.set_cons_succ]
     refine wpAnyH_ready (rs := [6]) (by kernel_rfl) (by simp) ?_
     refine AllReadyH.cons (o := ⟨some 8, Op.alloc 60, 0, _, _, none⟩) rfl (fun K hK => ?_) AllReadyH.nil
     have hkA := hH.2.now.1.lt
     have sA := Slot3.new wy5 (.slice none 0 0) (.bool false) (.slice none 0 0) 60
     go_simp
     refine hK.out _ _ ?_ (fun hH => ?_)
     · exact (have B9 := Bag.alloc hH.2 _; ⟨HC.out _ B9.now, B9⟩)
     clear hK K
     try simp only [Act.put, List.setIfInBounds_toArray, List.set_cons_zero, List.set_cons_succ]
     refine wpAnyH_ready (rs := [7]) (by kernel_rfl) (by simp) ?_
     refine AllReadyH.cons (o := ⟨none, Op.store 60 (Operand.tmp 8) (Operand.tmp 37), 0, _, _, none⟩) rfl (fun K hK => ?_) AllReadyH.nil
     have hr5 := hr5.below (show Below wy5.heap.size wy5 (World.alloc wy5 (.cells #[.slice none 0 0, .bool false, .slice none 0 0] 60)) from by refine Below.more ?_ _; exact Below.refl _ _)
     generalize hww : (World.alloc wy5 (.cells #[.slice none 0 0, .bool false, .slice none 0 0] 60)) = ww at *
     have l0 := sA.cell
     have l1 := sA.cell1
     have l2 := sA.cell2
     have f0 := sA.free
     have f1 := sA.free1
     have f2 := sA.free2
     have B9s := HP.out _ _ sA (by omega) hH.2 a6 n6 c6 m6 a7 n7 c7
     have hr5 := RatAt.set3 hr5 sA (.slice a6 n6 c6) (.bool m6) (.slice a7 n7 c7)
     have sA := (sA.set2 (.slice a6 n6 c6) (.bool m6)).set1 (.slice a7 n7 c7)
     go_simp
     refine hK.out _ _ ?_ (fun hH => ?_)
     · exact ⟨HC.out _ B9s.now, B9s⟩
     clear hK K
     try simp only [Act.put, List.setIfInBounds_toArray, List.set_cons_zero, List.set_cons_succ]
     refine wpAnyH_done (by kernel_rfl) ?_ _
     refine NoPanic.normal ?_
     exact TL _ _ _ _ _ _ _ _ _ _ _ _ _ hH.2 sA hr5
   refine AllReadyH.cons (o := ⟨some 8, Op.alloc 60, 0, _, _, none⟩) rfl (fun K hK => ?_) ?_
   · have hkA := hH.2.now.1.lt
     have sA := Slot3.new wy3 (.slice none 0 0) (.bool false) (.slice none 0 0) 60
     go_simp
     refine hK.out _ _ ?_ (fun hH => ?_)
     · exact (have B9 := Bag.alloc hH.2 _; ⟨HC.out _ B9.now, B9⟩)
     clear hK K
     try simp only [Act.put, List.setIfInBounds_toArray, List.set_cons_zero, List.set_cons_succ]
     refine wpAnyH_ready (rs := [5]) (by kernel_rfl) (by simp) ?_
     refine AllReadyH.cons (o := ⟨some 37, Op.call { callee := Callee.value (Operand.func 118), args := #[Operand.tmp 35, Operand.tmp 36], argTypes := #[58, 56] }, 60, _, _, none⟩) rfl (fun K hK => ?_) AllReadyH.nil
     go_simp
     (go_at_call 118; (with_reducible refine (LW.out _ _ _ _ _ _ _ _ (IntAt.below hi5 (by refine Below.more ?_ _; exact Below.refl _ _)) hH.2.now.2.1).mono ?_); rintro e wy5 ⟨a6, n6, c6, m6, a7, n7, c7, rfl, hr5, hbz⟩); have sA := sA.below hbz
     refine hK.out _ _ ?_ (fun hH => ?_)
     · exact (have B9 := Bag.go hH.2 hbz; ⟨HC.out _ B9.now, B9⟩)
     clear hK K
     try simp only [Act.put, List.setIfInBounds_toArray, List.set_cons_zero, List.set_cons_succ]
     refine wpAnyH_ready (rs := [7]) (by kernel_rfl) (by simp) ?_
     refine AllReadyH.cons (o := ⟨none, Op.store 60 (Operand.tmp 8) (Operand.tmp 37), 0, _, _, none⟩) rfl (fun K hK => ?_) AllReadyH.nil
     have l0 := sA.cell
     have l1 := sA.cell1
     have l2 := sA.cell2
     have f0 := sA.free
     have f1 := sA.free1
     have f2 := sA.free2
     have B9s := HP.out _ _ sA (by omega) hH.2 a6 n6 c6 m6 a7 n7 c7
     have hr5 := RatAt.set3 hr5 sA (.slice a6 n6 c6) (.bool m6) (.slice a7 n7 c7)
     have sA := (sA.set2 (.slice a6 n6 c6) (.bool m6)).set1 (.slice a7 n7 c7)
     go_simp
     refine hK.out _ _ ?_ (fun hH => ?_)
     · exact ⟨HC.out _ B9s.now, B9s⟩
     clear hK K
     try simp only [Act.put, List.setIfInBounds_toArray, List.set_cons_zero, List.set_cons_succ]
     refine wpAnyH_done (by kernel_rfl) ?_ _
     refine NoPanic.normal ?_
     exact TL _ _ _ _ _ _ _ _ _ _ _ _ _ hH.2 sA hr5
   exact AllReadyH.nil
 refine AllReadyH.cons (o := ⟨some 8, Op.alloc 60, 0, _, _, none⟩) rfl (fun K hK => ?_) ?_
 · have hkA := hH.2.now.1.lt
   have sA := Slot3.new w1 (.slice none 0 0) (.bool false) (.slice none 0 0) 60
   go_simp
   refine hK.out _ _ ?_ (fun hH => ?_)
   · exact (have B9 := Bag.alloc hH.2 _; ⟨HC.out _ B9.now, B9⟩)
   clear hK K
   try simp only [Act.put, List.setIfInBounds_toArray, List.set_cons_zero, List.set_cons_succ]
   refine wpAnyH_ready (rs := [3]) (by kernel_rfl) (by simp) ?_
   refine AllReadyH.cons (o := ⟨some 35, Op.call { callee := Callee.value (Operand.func 119), args := #[Operand.tmp 33, Operand.tmp 34], argTypes := #[4, 56] }, 58, _, _, none⟩) rfl (fun K hK => ?_) AllReadyH.nil
   go_simp
   (go_at_call 119; (with_reducible refine (OF.out _ _ _ _ hH.2.now.2.2.2.1).mono ?_); rintro e wy3 ⟨a5, n5, c5, m5, rfl, hi5, hbz⟩); have sA := sA.below hbz
   refine hK.out _ _ ?_ (fun hH => ?_)
   · exact (have B9 := Bag.go hH.2 hbz; ⟨HC.out _ B9.now, B9⟩)
   clear hK K
   try simp only [Act.put, List.setIfInBounds_toArray, List.set_cons_zero, List.set_cons_succ]
   refine wpAnyH_ready (rs := [5]) (by kernel_rfl) (by simp) ?_
   refine AllReadyH.cons (o := ⟨some 37, Op.call { callee := Callee.value (Operand.func 118), args := #[Operand.tmp 35, Operand.tmp 36], argTypes := #[58, 56] }, 60, _, _, none⟩) rfl (fun K hK => ?_) AllReadyH.nil
   go_simp
   (go_at_call 118; (with_reducible refine (LW.out _ _ _ _ _ _ _ _ (IntAt.below hi5 (by exact Below.refl _ _)) hH.2.now.2.1).mono ?_); rintro e wy5 ⟨a6, n6, c6, m6, a7, n7, c7, rfl, hr5, hbz⟩); have sA := sA.below hbz
   refine hK.out _ _ ?_ (fun hH => ?_)
   · exact (have B9 := Bag.go hH.2 hbz; ⟨HC.out _ B9.now, B9⟩)
   clear hK K
   try simp only [Act.put, List.setIfInBounds_toArray, List.set_cons_zero, List.set_cons_succ]
   refine wpAnyH_ready (rs := [7]) (by kernel_rfl) (by simp) ?_
   refine AllReadyH.cons (o := ⟨none, Op.store 60 (Operand.tmp 8) (Operand.tmp 37), 0, _, _, none⟩) rfl (fun K hK => ?_) AllReadyH.nil
   have l0 := sA.cell
   have l1 := sA.cell1
   have l2 := sA.cell2
   have f0 := sA.free
   have f1 := sA.free1
   have f2 := sA.free2
   have B9s := HP.out _ _ sA (by omega) hH.2 a6 n6 c6 m6 a7 n7 c7
   have hr5 := RatAt.set3 hr5 sA (.slice a6 n6 c6) (.bool m6) (.slice a7 n7 c7)
   have sA := (sA.set2 (.slice a6 n6 c6) (.bool m6)).set1 (.slice a7 n7 c7)
   go_simp
   refine hK.out _ _ ?_ (fun hH => ?_)
   · exact ⟨HC.out _ B9s.now, B9s⟩
   clear hK K
   try simp only [Act.put, List.setIfInBounds_toArray, List.set_cons_zero, List.set_cons_succ]
   refine wpAnyH_done (by kernel_rfl) ?_ _
   refine NoPanic.normal ?_
   exact TL _ _ _ _ _ _ _ _ _ _ _ _ _ hH.2 sA hr5
 exact AllReadyH.nil
theorem of_none (b : Bool) (s t : ByteArray) (w : World) (hs : s.size <= 60) (ht : t.size <= 60) (hk : ofK s t = false) :
    Calls Tryz.prog 63 #[.agg #[.bool b, .string s, .string t]] w fun e w' => RatTold3 w w' e 0 1 false := by
 have B0 := (Bag.start w).box3 (.bool b) (.string s) (.string t) 53 |>.box3 (.slice none 0 0) (.bool false) (.slice none 0 0) 60
 simp only [World.size_alloc] at B0
 have RD : ∀ u : ByteArray, u.size <= 60 -> Hid (∀ wz, Calls Tryz.prog 117 #[.string u] wz fun e w' => SubOf3 wz w' e (if okB u.data.toList then numOf u.data.toList else 0) (okB u.data.toList)) := fun u hu wz => by
  cases h : okB u.data.toList with
  | true => exact ratRead_yes u wz (by omega) h
  | false => exact ratRead_no u wz (by omega) h
 have RS1 := RD s hs
 have RS2 := RD t ht
 unfold SubOf3 at RS1 RS2
 unfold ofK at hk
 have ZE := Lib.hid (fun a n c wz (h : NatIs wz (.agg #[.slice a n c]) (if okB t.data.toList then numOf t.data.toList else 0)) => zero_any _ _ wz h)
 have hz : ∀ g, okB t.data.toList = g -> g = true -> decide ((if okB t.data.toList then numOf t.data.toList else 0) = 0) = decide (numOf t.data.toList = 0) := fun g h1 h2 => by rw [h1, h2, if_pos rfl]
 obtain ⟨g1, hg1⟩ : ∃ g, okB s.data.toList = g := ⟨_, rfl⟩
 obtain ⟨g2, hg2⟩ : ∃ g, okB t.data.toList = g := ⟨_, rfl⟩
 have hz2 := hz g2 hg2
 clear hz RD
 obtain ⟨z, hz3⟩ : ∃ z, decide ((if okB t.data.toList then numOf t.data.toList else 0) = 0) = z := ⟨_, rfl⟩
 rw [hz3] at ZE hz2
 generalize (if okB t.data.toList then numOf t.data.toList else 0) = M at *
 generalize (if okB s.data.toList then numOf s.data.toList else 0) = N at *
 rw [hg1] at RS1 hk
 rw [hg2] at RS2 hk
 have hk2 : (g1 && (g2 && !z)) = false := by
  cases g2 with
  | false => simp
  | true => rw [← hz2 rfl] at hk; simpa using hk
 have BB := Lib.hid B0
 have q0 := B0.now.2.1.cell
 have q1 := B0.now.2.1.cell1
 have q2 := B0.now.2.1.cell2
 clear B0 hs ht hk hg1 hg2 hz2 hz3
 cases g1 <;> cases g2 <;> cases z
 all_goals
  first
   | (exact absurd hk2 (by decide))
   | skip
 all_goals
  clear hk2
  go_enter Tryz.func63, Tryz.ntmps63
  go_wp2_with fail
  go_at_call 117
  (with_reducible refine (RS1.out _).mono ?_)
  rintro e w2 ⟨a3, n3, c3, rfl, hn3, hb2⟩
  have BB := Lib.hid ((BB.out.go hb2).alloc (.cells #[.slice a3 n3 c3] 56))
  clear hb2 hn3
  have q0 := BB.out.now.2.1.cell
  have q1 := BB.out.now.2.1.cell1
  have q2 := BB.out.now.2.1.cell2
  go_wp2_with fail
  go_at_call 117
  (with_reducible refine (RS2.out _).mono ?_)
  rintro e w3 ⟨a4, n4, c4, rfl, hn4, hb3⟩
  have BB := Lib.hid (((BB.out.go hb3).nat hn4).box (.slice a4 n4 c4) 56)
  clear hb3 hn4
  have q3 := BB.out.now.1.cell
  have hs9 := BB.out.now.2.2.1
  have u0 := hs9.cell
  have u1 := hs9.cell1
  have u2 := hs9.cell2
  have g0 := hs9.free
  have g1 := hs9.free1
  have g2 := hs9.free2
  have HS := hs9.set (.slice none 0 0) (.bool false) (.slice none 0 0)
  have HE := Lib.hid (RatTold3.done false BB.out.below (show w.heap.size <= w.heap.size + 1 by omega) hs9 (RatAt.zero _))
  clear hs9
  go_wp2_with (first
   | (go_at_call 107; (with_reducible refine (ZE.out _ _ _ _ BB.out.now.2.1).mono ?_); rintro e w4 ⟨rfl, hb4⟩; have BB := Lib.hid (BB.out.go hb4); clear hb4; have hs9 := BB.out.now.2.2.1; have u0 := hs9.cell; have u1 := hs9.cell1; have u2 := hs9.cell2; have g0 := hs9.free; have g1 := hs9.free1; have g2 := hs9.free2; have HS := hs9.set (.slice none 0 0) (.bool false) (.slice none 0 0); have HE := Lib.hid (RatTold3.done false BB.out.below (show w.heap.size <= w.heap.size + 1 by omega) hs9 (RatAt.zero _)); clear hs9))
  exact bodyPost_ret (v := .tuple #[.agg #[.slice none 0 0, .bool false, .slice none 0 0], .bool false]) (by simp [results, Tryz.results63, go_sem, HS]) rfl HE.out
def ofO (b : Bool) (s t : ByteArray) : Bool := ofK s t && decide (rB (ofP b s t) = b /\ rS (ofP b s t) = s /\ str (dec (ofQ b s t)) = t)
theorem of_any' (b : Bool) (s t : ByteArray) (w : World) (hs : s.size <= 60) (ht : t.size <= 60) :
    Calls Tryz.prog 63 #[.agg #[.bool b, .string s, .string t]] w fun e w' => RatTold3 w w' e (if ofO b s t then ofP b s t else 0) (if ofO b s t then ofQ b s t else 1) (ofO b s t) := by
 cases hk : ofK s t with
 | false =>
  have e : ofO b s t = false := by unfold ofO; rw [hk]; rfl
  rw [e]; exact of_none b s t w hs ht hk
 | true =>
  have e : ofO b s t = decide (rB (ofP b s t) = b /\ rS (ofP b s t) = s /\ str (dec (ofQ b s t)) = t) := by unfold ofO; rw [hk, Bool.true_and]
  rw [e]; exact of_some b s t w hs ht hk _ rfl
end Go.Proofs.YtnpoakaffafdiaaGreatDoor
namespace Go.Proofs.YtnpoakaffafdiaaGreatDoor
open Go.RowKit
def okN (fB : Nat -> Bool) (fS fT : Nat -> ByteArray) : Nat -> Bool
 | 0 => true
 | k + 1 => okN fB fS fT k && ofO (fB k) (fS k) (fT k)
theorem okN_iff {fB : Nat -> Bool} {fS fT : Nat -> ByteArray} {n : Nat} : okN fB fS fT n = true ↔ ∀ j, j < n -> ofO (fB j) (fS j) (fT j) = true := by
 induction n with
 | zero => exact ⟨fun _ j h => absurd h (Nat.not_lt_zero _), fun _ => rfl⟩
 | succ n ih =>
  show (okN fB fS fT n && _) = true ↔ _
  rw [Bool.and_eq_true, ih]
  constructor
  · rintro ⟨h1, h2⟩ j hj
    rcases Nat.lt_or_ge j n with h | h
    · exact h1 j h
    · obtain rfl : j = n := by omega
      exact h2
  · intro h
    exact ⟨fun j hj => h j (by omega), h n (by omega)⟩
def Short (fS fT : Nat -> ByteArray) (n : Nat) : Prop := ∀ j, j < n -> (fS j).size <= 60 /\ (fT j).size <= 60
def RatsTold (b : Bool) (n : Nat) (fP : Nat -> Int) (fQ : Nat -> Nat) (w w' : World) (e : Ending) : Prop := ∃ a m c, e = .returned (.tuple #[.slice a m c, .bool b]) /\ (b = true -> m = n /\ RRow w' a n c fP fQ) /\ Below w.heap.size w w'
theorem rats_any (a : Option Addr) (n c : Nat) (fB : Nat -> Bool) (fS fT : Nat -> ByteArray) (w : World) (h : QRow w a n c fB fS fT) (hs : Short fS fT n) (hn : n <= 100000) :
    Calls Tryz.prog 98 #[.slice a n c] w fun e w' => RatsTold (okN fB fS fT n) n (fun j => ofP (fB j) (fS j) (fT j)) (fun j => ofQ (fB j) (fS j) (fT j)) w w' e := by
 obtain ⟨i0, hi, hz0, hz1, hz2⟩ := info_parts infoR
 have hmk := fun wz => run_make (P := Tryz.prog) wz 34 60 i0 _ Tryz.underlying34 hi hz0 .i64 .i64 n n (by omega) (by omega) (by rw [hz2]; omega) (by omega)
 simp only [Int.toNat_natCast, hz1] at hmk
 have HK := Lib.hid h
 have HS := Lib.hid hs
 have hl := h.len
 have OF := Lib.hid (fun b s t wz p q => of_any' b s t wz p q)
 unfold RatTold3 at OF
 have H0 : Hid (Below w.heap.size w (w.alloc (.cells (madeCells (Value.cells (.agg #[.slice none 0 0, .bool false, .slice none 0 0])) (n * 3)) 60)) /\ RatsTo (w.alloc (.cells (madeCells (Value.cells (.agg #[.slice none 0 0, .bool false, .slice none 0 0])) (n * 3)) 60)) w.heap.size n 0 (fun j => ofP (fB j) (fS j) (fT j)) (fun j => ofQ (fB j) (fS j) (fT j)) /\ okN fB fS fT 0 = true) :=
  ⟨(Below.refl _ _).alloc (Nat.le_refl _) _, RatsTo.made w n 60 _ _ rfl, rfl⟩
 clear h hs hi hz0 hz1 hz2
 go_enter Tryz.func98, Tryz.ntmps98
 go_wp2_with fail
 go_loopw [14] (fun i wr => ∃ k : Nat, k <= n /\ i = .int .i64 k /\ Hid (Below w.heap.size w wr /\ RatsTo wr w.heap.size n k (fun j => ofP (fB j) (fS j) (fT j)) (fun j => ofQ (fB j) (fS j) (fT j)) /\ okN fB fS fT k = true)) (fun i _ => n - (intOf i).toNat)
 case atStart => exact ⟨0, by omega, rfl, H0.out⟩
 case round =>
  obtain ⟨k, hk, rfl, hrel⟩ := hrel
  obtain ⟨hbl, hto, hok⟩ := hrel.out
  by_cases hlt : k < n
  · obtain ⟨b, off, rfl, hb, c1, c2, c3⟩ := (HK.out.below hbl).get hlt
    have BB := Lib.hid (((Bag.start wr).to hto).alloc (.cells #[.bool (fB k), .string (fS k), .string (fT k)] 53))
    have HBL := Lib.hid hbl
    have HOK := Lib.hid hok
    have HSZ := Lib.hid (HS.out k hlt)
    clear hbl hto hok
    cases ho : ofO (fB k) (fS k) (fT k) with
    | false =>
     have hno : okN fB fS fT n = false := by
      cases hx : okN fB fS fT n with
      | false => rfl
      | true => rw [okN_iff.1 hx k hlt] at ho; cases ho
     have HNO := Lib.hid hno
     have O1 := Lib.hid (fun wz => OF.out (fB k) (fS k) (fT k) wz HSZ.out.1 HSZ.out.2)
     simp only [ho, Bool.false_eq_true, if_false] at O1
     clear hno ho
     go_wp2_with fail
     go_at_call 63
     (with_reducible refine (O1.out _).mono ?_)
     rintro e w2 ⟨a2, n2, c2, m2, a3, n3, c3, rfl, hr2, hb2⟩
     have HE : Hid (RatsTold (okN fB fS fT n) n (fun j => ofP (fB j) (fS j) (fT j)) (fun j => ofQ (fB j) (fS j) (fT j)) w (w2.alloc (.cells #[.slice a2 n2 c2, .bool m2, .slice a3 n3 c3] 60)) (.returned (.tuple #[.slice none 0 0, .bool false]))) :=
      ⟨_, _, _, by rw [HNO.out], fun h => (by rw [HNO.out] at h; cases h), HBL.out.trans (((BB.out.go hb2).below.mono HBL.out.size).trans ((Below.refl _ _).alloc (Nat.le_trans HBL.out.size (BB.out.go hb2).below.size) _))⟩
     clear hr2 hb2
     go_wp2
     go_ret2
     exact HE.out
    | true =>
     have O1 := Lib.hid (fun wz => OF.out (fB k) (fS k) (fT k) wz HSZ.out.1 HSZ.out.2)
     simp only [ho, if_true] at O1
     have HO2 : Hid (okN fB fS fT (k + 1) = true) := by show (okN fB fS fT k && _) = true; rw [HOK.out, ho]; rfl
     clear ho
     go_wp2_with fail
     go_at_call 63
     (with_reducible refine (O1.out _).mono ?_)
     rintro e w2 ⟨a2, n2, c2, m2, a3, n3, c3, rfl, hr2, hb2⟩
     have B2 := ((BB.out.go hb2).rat hr2)
     have hto := B2.now.2.1
     have hr3 := B2.now.1
     obtain ⟨⟨b1, l1, d1, v1, b2, l2, d2, x1, x2, x3⟩, y1, y2, y3⟩ := hto.place hlt
     have hbb := HBL.out.trans (B2.below.mono HBL.out.size)
     have HN : Hid (Below w.heap.size w ((((w2.setCell ⟨w.heap.size, k * 3, none⟩ (.slice a2 n2 c2)).setCell ⟨w.heap.size, k * 3 + 1, none⟩ (.bool m2)).setCell ⟨w.heap.size, k * 3 + 2, none⟩ (.slice a3 n3 c3)).alloc (.cells #[.slice a2 n2 c2, .bool m2, .slice a3 n3 c3] 60)) /\ RatsTo ((((w2.setCell ⟨w.heap.size, k * 3, none⟩ (.slice a2 n2 c2)).setCell ⟨w.heap.size, k * 3 + 1, none⟩ (.bool m2)).setCell ⟨w.heap.size, k * 3 + 2, none⟩ (.slice a3 n3 c3)).alloc (.cells #[.slice a2 n2 c2, .bool m2, .slice a3 n3 c3] 60)) w.heap.size n (k + 1) (fun j => ofP (fB j) (fS j) (fT j)) (fun j => ofQ (fB j) (fS j) (fT j)) /\ okN fB fS fT (k + 1) = true) :=
      ⟨(((hbb.setCell (p := ⟨w.heap.size, _, none⟩) (Nat.le_refl _) _).setCell (p := ⟨w.heap.size, _, none⟩) (Nat.le_refl _) _).setCell (p := ⟨w.heap.size, _, none⟩) (Nat.le_refl _) _).alloc (by simpa using hbb.size) _, (hto.step hlt hr3).below ((Below.refl _ _).alloc (Nat.le_refl _) _), HO2.out⟩
     have hks : w.heap.size < w2.heap.size := by have := (BB.out.go hb2).now.1; exact this.1
     clear hto hr2 hb2 B2 hbb hr3
     go_wp2
     go_roundw
     case rel => exact ⟨k + 1, by omega, by go_num, HN.out⟩
     case measure => simp [intOf]; omega
  · obtain rfl : k = n := by omega
    have HE : Hid (RatsTold (okN fB fS fT k) k (fun j => ofP (fB j) (fS j) (fT j)) (fun j => ofQ (fB j) (fS j) (fT j)) w wr (.returned (.tuple #[.slice (some ⟨w.heap.size, 0, none⟩) k k, .bool true]))) := by
     rw [hok]
     exact ⟨_, _, _, rfl, fun _ => ⟨rfl, hto.done (by unfold maxLen; omega)⟩, hbl⟩
    clear hbl hto hok
    go_wp2
    go_ret2
    exact HE.out
def AArr (w : World) (cs : Array Value) (S : Nat -> Int) (r : Nat) (ch : Bool) (g : Nat -> Int) (tn : Nat) (fP : Nat -> Int) (fQ : Nat -> Nat) (nn : Nat) : Prop :=
 ∃ na nc ta tc, cs = arrC ch ((r : Int) - 1) (dm S r) na nn nc ta tn tc /\ RRow w na nn nc fP fQ /\ KRow w .i32 ta tn tc g /\ (ch = false -> ta = none /\ tc = 0) /\ (ch = true -> na = none /\ nc = 0)
theorem AArr.below {w w' : World} {cs : Array Value} {S : Nat -> Int} {r : Nat} {ch : Bool} {g : Nat -> Int} {tn : Nat} {fP : Nat -> Int} {fQ : Nat -> Nat} {nn : Nat} (h : AArr w cs S r ch g tn fP fQ nn) (hb : Below w.heap.size w w') : AArr w' cs S r ch g tn fP fQ nn := by
 obtain ⟨na, nc, ta, tc, e, h1, h2, h3⟩ := h
 exact ⟨na, nc, ta, tc, e, h1.below hb, h2.below hb, h3⟩
theorem AArr.put {w : World} {cs : Array Value} {S : Nat -> Int} {r : Nat} {ch : Bool} {g : Nat -> Int} {tn : Nat} {fP : Nat -> Int} {fQ : Nat -> Nat} {nn : Nat} (h : AArr w cs S r ch g tn fP fQ nn) {k : Nat} {t : TypeId} {c1 : Bool} {more : Int} {d : Nat -> Int} {na : Option Addr} {n1 nc : Nat} {ta : Option Addr} {t1 tc : Nat} (hr : Row w k t (arrC c1 more d na n1 nc ta t1 tc)) (cs' : Array Value) : AArr (w.setRow k cs') cs S r ch g tn fP fQ nn := by
 obtain ⟨na, nc, ta, tc, e, h1, h2, h3⟩ := h
 exact ⟨na, nc, ta, tc, e, h1.away (Row.noLimb hr) (RRow.ne h1 hr) (Far.setRow _ _ _), h2.away (KRow.ne h2 (by decide) hr) (Far.setRow _ _ _), h3⟩
def ofB (S : Nat -> Int) (r : Nat) (ch : Bool) (tn : Nat) (fB : Nat -> Bool) (fS fT : Nat -> ByteArray) (nn : Nat) : Bool :=
 if ch then decide (nn = 0) && (shB S r && decide (itm S r = tn)) else decide (tn = 0) && (okN fB fS fT nn && (shB S r && decide (itm S r = nn)))
def OfTold (b : Bool) (S : Nat -> Int) (r : Nat) (ch : Bool) (g : Nat -> Int) (tn : Nat) (fP : Nat -> Int) (fQ : Nat -> Nat) (nn : Nat) (w w' : World) (e : Ending) : Prop :=
 ∃ cs, e = .returned (.tuple #[.agg cs, .bool b]) /\ (if b then AArr w' cs S r ch g tn fP fQ nn else cs = zerC) /\ Below w.heap.size w w'
theorem numF {b : Bool} {w : World} {cs : Array Value} {f : Nat -> Int} {r n : Nat} {fP : Nat -> Int} {fQ : Nat -> Nat} (h : if b then NumArr w cs f r n fP fQ else cs = zerC) :
    ∃ more d na nn nc, cs = arrC false more d na nn nc none 0 0 /\ (if b then AArr w cs f r false (fun _ => 0) 0 fP fQ n else cs = zerC) := by
 cases b with
 | true =>
  rw [if_pos rfl] at h
  obtain ⟨na, nc, e, h2⟩ := h
  exact ⟨_, _, na, n, nc, e, by rw [if_pos rfl]; exact ⟨na, nc, none, 0, e, h2, KRow.nought _ _ _ _ (Nat.zero_le _) _, fun _ => ⟨rfl, rfl⟩, fun h => by cases h⟩⟩
 | false =>
  rw [if_neg (by decide)] at h
  exact ⟨_, _, none, 0, 0, h, by rw [if_neg (by decide)]; exact h⟩
theorem chrF {b : Bool} {w : World} {cs : Array Value} {f : Nat -> Int} {r n : Nat} {g : Nat -> Int} (h : if b then ChrArr w cs f r n g else cs = zerC) (fP : Nat -> Int) (fQ : Nat -> Nat) :
    ∃ ch more d ta tn tc, cs = arrC ch more d none 0 0 ta tn tc /\ (if b then AArr w cs f r true g n fP fQ 0 else cs = zerC) := by
 cases b with
 | true =>
  rw [if_pos rfl] at h
  obtain ⟨na, nc, e, h2⟩ := h
  exact ⟨true, _, _, na, n, nc, e, by rw [if_pos rfl]; exact ⟨none, 0, na, nc, e, RRow.nought _ _ _ (Nat.zero_le _) _ _, h2, fun h => (by cases h), fun _ => ⟨rfl, rfl⟩⟩⟩
 | false =>
  rw [if_neg (by decide)] at h
  exact ⟨false, _, _, none, 0, 0, h, by rw [if_neg (by decide)]; exact h⟩
theorem AArr.txt {w : World} {cs : Array Value} {S : Nat -> Int} {r : Nat} {ch : Bool} {g : Nat -> Int} {fP : Nat -> Int} {fQ : Nat -> Nat} {nn : Nat} (h : AArr w cs S r ch g 0 fP fQ nn) (g' : Nat -> Int) : AArr w cs S r ch g' 0 fP fQ nn := by
 obtain ⟨na, nc, ta, tc, e, h1, h2, h3⟩ := h
 exact ⟨na, nc, ta, tc, e, h1, ⟨h2.1, h2.2.1, .inl rfl⟩, h3⟩
theorem zerC_eq : zerC = arrC false 0 (fun _ => 0) none 0 0 none 0 0 := rfl
theorem ofT_put {b : Bool} {S : Nat -> Int} {r : Nat} {ch : Bool} {g : Nat -> Int} {tn : Nat} {fP : Nat -> Int} {fQ : Nat -> Nat} {nn : Nat} {w w3 : World} {cs : Array Value} (h : if b then AArr w3 cs S r ch g tn fP fQ nn else cs = zerC) (hb : Below w.heap.size w w3) {k : Nat} {t : TypeId} {c1 : Bool} {more : Int} {d : Nat -> Int} {na : Option Addr} {n1 nc : Nat} {ta : Option Addr} {t1 tc : Nat} (hr : Row w3 k t (arrC c1 more d na n1 nc ta t1 tc)) (hk : w.heap.size <= k) :
    OfTold b S r ch g tn fP fQ nn w (w3.setRow k cs) (.returned (.tuple #[.agg cs, .bool b])) := by
 refine ⟨cs, rfl, ?_, below_put hb hk _⟩
 cases b with
 | true => rw [if_pos rfl] at h ⊢; exact h.put hr cs
 | false => rw [if_neg (by decide)] at h ⊢; exact h
theorem ofT_put' {b : Bool} {S : Nat -> Int} {r : Nat} {ch : Bool} {g : Nat -> Int} (g' : Nat -> Int) {fP : Nat -> Int} {fQ : Nat -> Nat} {nn : Nat} {w w3 : World} {cs : Array Value} (h : if b then AArr w3 cs S r ch g 0 fP fQ nn else cs = zerC) (hb : Below w.heap.size w w3) {k : Nat} {t : TypeId} {c1 : Bool} {more : Int} {d : Nat -> Int} {na : Option Addr} {n1 nc : Nat} {ta : Option Addr} {t1 tc : Nat} (hr : Row w3 k t (arrC c1 more d na n1 nc ta t1 tc)) (hk : w.heap.size <= k) :
    OfTold b S r ch g' 0 fP fQ nn w (w3.setRow k cs) (.returned (.tuple #[.agg cs, .bool b])) := by
 refine ofT_put ?_ hb hr hk
 cases b with
 | true => rw [if_pos rfl] at h ⊢; exact h.txt _
 | false => rw [if_neg (by decide)] at h ⊢; exact h
theorem ofT_none (S : Nat -> Int) (r : Nat) (ch : Bool) (g : Nat -> Int) (tn : Nat) (fP : Nat -> Int) (fQ : Nat -> Nat) (nn : Nat) {w w3 : World} (hb : Below w.heap.size w w3) : OfTold false S r ch g tn fP fQ nn w w3 (.returned (.tuple #[.agg zerC, .bool false])) :=
 ⟨_, rfl, by rw [if_neg (by decide)], hb⟩
theorem ofT_nput (S : Nat -> Int) (r : Nat) (ch : Bool) (g : Nat -> Int) (tn : Nat) (fP : Nat -> Int) (fQ : Nat -> Nat) (nn : Nat) {w w3 : World} (hb : Below w.heap.size w w3) {k : Nat} {t : TypeId} {c1 : Bool} {more : Int} {d : Nat -> Int} {na : Option Addr} {n1 nc : Nat} {ta : Option Addr} {t1 tc : Nat} (_ : Row w3 k t (arrC c1 more d na n1 nc ta t1 tc)) (hk : w.heap.size <= k) : OfTold false S r ch g tn fP fQ nn w (w3.setRow k zerC) (.returned (.tuple #[.agg zerC, .bool false])) :=
 ⟨_, rfl, by rw [if_neg (by decide)], below_put hb hk _⟩
theorem of6_any (cs : Array Value) (S : Nat -> Int) (r : Nat) (ch : Bool) (g : Nat -> Int) (tn : Nat) (fB : Nat -> Bool) (fS fT : Nat -> ByteArray) (nn : Nat) (w : World) (h : PlnAt w cs S r ch g tn fB fS fT nn) (hS : In64 S r) (hs : Short fS fT nn) (hn : nn <= 100000) (htn : tn <= 100000) :
    Calls Tryz.prog 42 #[.agg cs] w fun e w' => OfTold (ofB S r ch tn fB fS fT nn) S r ch g tn (fun j => ofP (fB j) (fS j) (fT j)) (fun j => ofQ (fB j) (fS j) (fT j)) nn w w' e := by
 obtain ⟨sa, sc, ta, tc, na, nc, rfl, h1, h2, h3⟩ := h
 have hl1 := h1.len
 have hl2 := h2.len
 have hl3 := h3.len
 have BB := Lib.hid (((((Bag.start w).krow h1).krow h2).qrow h3).newRow (plC sa r sc ch ta tn tc na nn nc) 26 |>.newRow zerC 36)
 simp only [World.size_alloc] at BB
 unfold plC at BB
 unfold plC
 cases ch with
 | true =>
  have e0 : ofB S r true tn fB fS fT nn = (decide (nn = 0) && (shB S r && decide (itm S r = tn))) := by unfold ofB; rw [if_pos rfl]
  rw [e0]
  by_cases h0 : nn = 0
  · subst h0
    rw [decide_eq_true rfl, Bool.true_and]
    have CH := Lib.hid (fun wz p q => chars_any sa r sc S ta tn tc g wz p hS q (by omega))
    unfold CharsTold at CH
    generalize (shB S r && decide (itm S r = (tn : Int))) = b at *
    clear h1 h2 h3 hS hs e0
    go_enter Tryz.func42, Tryz.ntmps42
    go_wp2_with fail
    go_at_call 50
    (with_reducible refine (CH.out _ ?_ ?_).mono ?_)
    · exact BB.out.now.2.2.2.2.1
    · exact BB.out.now.2.2.2.1
    rintro e w3 ⟨cs3, rfl, hc3, hb3⟩
    obtain ⟨c4, more4, d4, ta4, tn4, tc4, rfl, hc4⟩ := chrF hc3 (fun j => ofP (fB j) (fS j) (fT j)) (fun j => ofQ (fB j) (fS j) (fT j))
    have B3 := BB.out.go hb3
    have HZ := Lib.hid B3.now.1
    have HE := Lib.hid (ofT_put (k := w.heap.size + 1) hc4 B3.below (zerC_eq ▸ B3.now.1) (Nat.le_succ _))
    clear hb3 hc3 hc4 B3
    unfold arrC
    go_wp2_with (refine st_arr rfl (.tmp 2) (.tmp 18) rfl (w.heap.size + 1) rfl _ _ _ _ _ _ _ _ _ rfl HZ.out rfl ?_)
    exact bodyPost_ret (res_arr2 Tryz.results42 rfl rfl (HZ.out.put _) rfl) rfl HE.out
  · rw [decide_eq_false h0, Bool.false_and]
    have dn : (0 : Int) < nn := by omega
    have HE := Lib.hid (ofT_none S r true g tn (fun j => ofP (fB j) (fS j) (fT j)) (fun j => ofQ (fB j) (fS j) (fT j)) nn BB.out.below)
    have HZ := Lib.hid BB.out.now.1
    clear h1 h2 h3 hS hs e0 h0
    unfold zerC arrC at HE HZ
    go_enter Tryz.func42, Tryz.ntmps42
    go_wp2
    exact bodyPost_ret (res_arr2 Tryz.results42 rfl rfl HZ.out rfl) rfl HE.out
 | false =>
  have e0 : ofB S r false tn fB fS fT nn = (decide (tn = 0) && (okN fB fS fT nn && (shB S r && decide (itm S r = nn)))) := by unfold ofB; rw [if_neg (by decide)]
  rw [e0]
  by_cases h0 : tn = 0
  · subst h0
    rw [decide_eq_true rfl, Bool.true_and]
    have RT := Lib.hid (fun wz p => rats_any na nn nc fB fS fT wz p hs hn)
    unfold RatsTold at RT
    have NU := Lib.hid (fun la lc wz p q => nums_any sa r sc S la nn lc (fun j => ofP (fB j) (fS j) (fT j)) (fun j => ofQ (fB j) (fS j) (fT j)) wz p hS q (by omega))
    unfold NumsTold at NU
    generalize (shB S r && decide (itm S r = (nn : Int))) = b at *
    clear h1 h2 h3 hS hs e0
    cases ho : okN fB fS fT nn with
    | false =>
     rw [Bool.false_and]
     rw [ho] at RT
     clear ho
     go_enter Tryz.func42, Tryz.ntmps42
     go_wp2_with fail
     go_at_call 98
     (with_reducible refine (RT.out _ ?_).mono ?_)
     · exact BB.out.now.2.2.1
     rintro e w3 ⟨a3, m3, c3, rfl, _, hb3⟩
     have B3 := BB.out.go hb3
     have HE := Lib.hid (ofT_nput (k := w.heap.size + 1) S r false g 0 (fun j => ofP (fB j) (fS j) (fT j)) (fun j => ofQ (fB j) (fS j) (fT j)) nn B3.below (zerC_eq ▸ B3.now.1) (Nat.le_succ _))
     have HZ := Lib.hid B3.now.1
     clear hb3 B3
     go_wp2_with (refine st_arr rfl (.tmp 2) (.tmp 33) rfl (w.heap.size + 1) rfl false 0 (fun _ => 0) none 0 0 none 0 0 rfl HZ.out rfl ?_)
     exact bodyPost_ret (res_arr2 Tryz.results42 rfl rfl (HZ.out.put _) rfl) rfl HE.out
    | true =>
     rw [Bool.true_and]
     rw [ho] at RT
     clear ho
     go_enter Tryz.func42, Tryz.ntmps42
     go_wp2_with fail
     go_at_call 98
     (with_reducible refine (RT.out _ ?_).mono ?_)
     · exact BB.out.now.2.2.1
     rintro e w3 ⟨a3, m3, c3, rfl, hr, hb3⟩
     obtain ⟨rfl, hr3⟩ := hr trivial
     have BB := Lib.hid ((BB.out.go hb3).rrow hr3)
     obtain ⟨q0, q1, q2, q3⟩ := pl_cells BB.out.now.2.2.1
     clear hb3 hr hr3
     go_wp2_with fail
     go_at_call 53
     (with_reducible refine (NU.out _ _ _ ?_ ?_).mono ?_)
     · exact BB.out.now.2.2.2.2.2.1
     · exact BB.out.now.1
     rintro e w4 ⟨cs3, rfl, hc3, hb4⟩
     obtain ⟨more4, d4, na4, nn4, nc4, rfl, hc4⟩ := numF hc3
     have B3 := BB.out.go hb4
     have HZ := Lib.hid B3.now.2.1
     have HE := Lib.hid (ofT_put' (k := w.heap.size + 1) g hc4 B3.below (zerC_eq ▸ B3.now.2.1) (Nat.le_succ _))
     clear hb4 hc3 hc4 B3
     unfold arrC
     go_wp2_with (refine st_arr rfl (.tmp 2) (.tmp 38) rfl (w.heap.size + 1) rfl _ _ _ _ _ _ _ _ _ rfl HZ.out rfl ?_)
     exact bodyPost_ret (res_arr2 Tryz.results42 rfl rfl (HZ.out.put _) rfl) rfl HE.out
  · rw [decide_eq_false h0, Bool.false_and]
    have dn : (0 : Int) < tn := by omega
    have HE := Lib.hid (ofT_none S r false g tn (fun j => ofP (fB j) (fS j) (fT j)) (fun j => ofQ (fB j) (fS j) (fT j)) nn BB.out.below)
    have HZ := Lib.hid BB.out.now.1
    clear h1 h2 h3 hS hs e0 h0
    unfold zerC arrC at HE HZ
    go_enter Tryz.func42, Tryz.ntmps42
    go_wp2
    exact bodyPost_ret (res_arr2 Tryz.results42 rfl rfl HZ.out rfl) rfl HE.out
theorem isChar_any (ch : Bool) (more : Int) (d : Nat -> Int) (na : Option Addr) (nn nc : Nat) (ta : Option Addr) (tn tc : Nat) (w : World) :
    Calls Tryz.prog 49 #[.agg (arrC ch more d na nn nc ta tn tc)] w fun e w' => e = .returned (.bool ch) /\ Below w.heap.size w w' := by
 have HB : Hid (Below w.heap.size w (w.alloc (.cells (arrC ch more d na nn nc ta tn tc) 36))) := (Below.refl _ _).alloc (Nat.le_refl _) _
 unfold arrC at HB
 unfold arrC
 go_enter Tryz.func49, Tryz.ntmps49
 go_wp2
 go_ret
 exact ⟨rfl, HB.out⟩
def elC (n : Nat) (g : Nat -> Int) (z i : Int) : Int := if 0 <= i /\ i < n then g i.toNat else z
theorem rune_any (ch : Bool) (more : Int) (d : Nat -> Int) (na : Option Addr) (nn nc : Nat) (ta : Option Addr) (tn tc : Nat) (g : Nat -> Int) (i : Int) (w : World) (h : KRow w .i32 ta tn tc g) :
    Calls Tryz.prog 20 #[.agg (arrC ch more d na nn nc ta tn tc), .int .i64 i] w fun e w' => e = .returned (.int .i32 (elC tn g 0 i)) /\ Below w.heap.size w w' := by
 have hl := h.len
 have HB : Hid (Below w.heap.size w (w.alloc (.cells (arrC ch more d na nn nc ta tn tc) 36))) := (Below.refl _ _).alloc (Nat.le_refl _) _
 unfold elC
 by_cases hin : 0 <= i /\ i < tn
 · rw [if_pos hin]
   obtain ⟨h0, h1⟩ := hin
   obtain ⟨k, rfl⟩ : ∃ k : Nat, i = k := ⟨i.toNat, by omega⟩
   have hk : k < tn := by omega
   rw [show ((k : Int)).toNat = k from rfl]
   obtain ⟨b, off, rfl, hb, hc⟩ := h.get hk
   have d1 : ¬ ((k : Int) < 0) := by omega
   have d2 : ¬ ((tn : Int) <= k) := by omega
   clear h
   generalize g k = x at *
   unfold arrC at HB
   unfold arrC
   go_enter Tryz.func20, Tryz.ntmps20
   go_wp2
   go_ret
   exact ⟨rfl, HB.out⟩
 · rw [if_neg hin]
   clear h
   unfold arrC at HB
   unfold arrC
   by_cases h0 : i < 0
   · clear hin
     go_enter Tryz.func20, Tryz.ntmps20
     go_wp2
     go_ret
     exact ⟨rfl, HB.out⟩
   · have d2 : (tn : Int) <= i := by omega
     clear hin
     go_enter Tryz.func20, Tryz.ntmps20
     go_wp2
     go_ret
     exact ⟨rfl, HB.out⟩
theorem elemG_any (ch : Bool) (more : Int) (d : Nat -> Int) (na : Option Addr) (n nc : Nat) (ta : Option Addr) (tn tc : Nat) (fP : Nat -> Int) (fQ : Nat -> Nat) (i : Int) (w : World) (hr : RRow w na n nc fP fQ) :
    Calls Tryz.prog 21 #[.agg (arrC ch more d na n nc ta tn tc), .int .i64 i] w fun e w' => RatTold w w' e (elP n fP i) (elQ n fQ i) := by
 have hl := hr.len
 by_cases hin : 0 <= i /\ i < n
 · unfold elP elQ
   rw [if_pos hin, if_pos hin]
   obtain ⟨h0, h1⟩ := hin
   obtain ⟨k, rfl⟩ : ∃ k : Nat, i = k := ⟨i.toNat, by omega⟩
   have hk : k < n := by omega
   rw [show ((k : Int)).toNat = k from rfl]
   obtain ⟨b, off, a', n', c', m', a2', n2', c2', rfl, hb, e1, e2, e3, hq⟩ := hr.get hk
   have d1 : ¬ ((k : Int) < 0) := by omega
   have d2 : ¬ ((n : Int) <= k) := by omega
   have B0 := ((((Bag.start w).rat hq).alloc (.cells (arrC ch more d (some ⟨b, off, none⟩) n nc ta tn tc) 36)).alloc (.cells #[.slice a' n' c', .bool m', .slice a2' n2' c2'] 60))
   have HE : Hid (RatTold w ((w.alloc (.cells (arrC ch more d (some ⟨b, off, none⟩) n nc ta tn tc) 36)).alloc (.cells #[.slice a' n' c', .bool m', .slice a2' n2' c2'] 60)) (.returned (.agg #[.slice a' n' c', .bool m', .slice a2' n2' c2'])) (fP k) (fQ k)) :=
    ⟨a', n', c', m', a2', n2', c2', rfl, B0.now.1, B0.below⟩
   unfold arrC at HE
   unfold arrC
   clear hr hq B0
   go_enter Tryz.func21, Tryz.ntmps21
   go_wp2
   exact bodyPost_ret (v := .agg #[.slice a' n' c', .bool m', .slice a2' n2' c2']) (by simp [results, Tryz.results21, go_sem]) rfl HE.out
 · unfold elP elQ
   rw [if_neg hin, if_neg hin]
   have B0 := (((Bag.start w).alloc (.cells (arrC ch more d na n nc ta tn tc) 36)).alloc (.cells #[.slice none 0 0, .bool false, .slice none 0 0] 60))
   have HE : Hid (RatTold w ((w.alloc (.cells (arrC ch more d na n nc ta tn tc) 36)).alloc (.cells #[.slice none 0 0, .bool false, .slice none 0 0] 60)) (.returned (.agg #[.slice none 0 0, .bool false, .slice none 0 0])) 0 1) :=
    ⟨_, _, _, _, _, _, _, rfl, RatAt.nought _, B0.below⟩
   unfold arrC at HE
   unfold arrC
   clear hr B0
   by_cases h0 : i < 0
   · clear hin
     go_enter Tryz.func21, Tryz.ntmps21
     go_wp2
     exact bodyPost_ret (v := .agg #[.slice none 0 0, .bool false, .slice none 0 0]) (by simp [results, Tryz.results21, go_sem]) rfl HE.out
   · have d2 : (n : Int) <= i := by omega
     clear hin
     go_enter Tryz.func21, Tryz.ntmps21
     go_wp2
     exact bodyPost_ret (v := .agg #[.slice none 0 0, .bool false, .slice none 0 0]) (by simp [results, Tryz.results21, go_sem]) rfl HE.out
def CTo (w : World) (g n k : Nat) (f : Nat -> Int) : Prop := g < w.heap.size /\ Free w g /\ ∀ j, j < n -> ∃ z, w.cell? ⟨g, j, none⟩ = some (.int .i32 z) /\ (j < k -> z = f j)
theorem CTo.below {w w' : World} {g n k : Nat} {f : Nat -> Int} (h : CTo w g n k f) (hb : Below w.heap.size w w') : CTo w' g n k f := by
 obtain ⟨h1, h2, h3⟩ := h
 refine ⟨Nat.lt_of_lt_of_le h1 hb.size, h2.below hb h1, fun j hj => ?_⟩
 obtain ⟨z, e1, e2⟩ := h3 j hj
 exact ⟨z, (hb.cell (p := ⟨g, _, none⟩) h1).trans e1, e2⟩
theorem CTo.over {w : World} {g n k : Nat} {f : Nat -> Int} (h : CTo w g n k f) (x : Int) : CTo (w.setCell ⟨g, k, none⟩ (.int .i32 x)) g n k f := by
 obtain ⟨h1, h2, h3⟩ := h
 refine ⟨by simpa using h1, h2.set _ _, fun j hj => ?_⟩
 by_cases e : j = k
 · subst e
   obtain ⟨z, e1, _⟩ := h3 j hj
   exact ⟨x, World.cell?_setCell_same _ _ _ e1, fun h => absurd h (Nat.lt_irrefl _)⟩
 · obtain ⟨z, e1, e2⟩ := h3 j hj
   exact ⟨z, by rw [World.cell?_setCell_other _ _ _ _ (fun h => by injection h with _ h; omega)]; exact e1, e2⟩
theorem CTo.step {w : World} {g n k : Nat} {f : Nat -> Int} (h : CTo w g n k f) (hk : k < n) {x : Int} (hx : x = f k) : CTo (w.setCell ⟨g, k, none⟩ (.int .i32 x)) g n (k + 1) f := by
 subst hx
 obtain ⟨h1, h2, h3⟩ := h
 refine ⟨by simpa using h1, h2.set _ _, fun j hj => ?_⟩
 by_cases e : j = k
 · subst e
   obtain ⟨z, e1, _⟩ := h3 j hj
   exact ⟨f j, World.cell?_setCell_same _ _ _ e1, fun _ => rfl⟩
 · obtain ⟨z, e1, e2⟩ := h3 j hj
   exact ⟨z, by rw [World.cell?_setCell_other _ _ _ _ (fun h => by injection h with _ h; omega)]; exact e1, fun h => e2 (by omega)⟩
theorem CTo.done {w : World} {g n : Nat} {f : Nat -> Int} (h : CTo w g n n f) (hn : n <= maxLen) : KRow w .i32 (some ⟨g, 0, none⟩) n n f := by
 refine ⟨Nat.le_refl _, hn, .inr ⟨g, 0, rfl, h.1, fun j hj => ?_⟩⟩
 obtain ⟨z, e1, e2⟩ := h.2.2 j hj
 rw [Nat.zero_add, e1, e2 hj]
theorem CTo.made (w : World) (n : Nat) (t : TypeId) (f : Nat -> Int) {mc : Array Value} (hmc : mc = madeCells (Value.cells (.int .i32 0)) n) : CTo (w.alloc (.cells mc t)) w.heap.size n 0 f := by
 subst hmc
 have hR := Row.new w t (madeCells (Value.cells (.int .i32 0)) n)
 refine ⟨hR.lt, fun o => hR.free o, fun j hj => ⟨0, ?_, fun h => absurd h (Nat.not_lt_zero _)⟩⟩
 rw [hR.cell]
 unfold madeCells
 rw [Array.getElem?_map, Array.getElem?_range, if_pos (by omega), Option.map_some]
 simp [Value.cells, Nat.mod_one]
theorem CTo.place {w : World} {g n k : Nat} {f : Nat -> Int} (h : CTo w g n k f) {j : Nat} (hj : j < n) : (∃ z, w.cell? ⟨g, j, none⟩ = some (.int .i32 z)) /\ w.frozen? ⟨g, j, none⟩ = false := by
 obtain ⟨z, e1, _⟩ := h.2.2 j hj
 exact ⟨⟨z, e1⟩, h.2.1 _⟩
theorem pickRunes_any (cs : Array Value) (f : Nat -> Int) (r n : Nat) (T : Nat -> Int) (sa : Option Addr) (sn sc : Nat) (g : Nat -> Int) (w : World) (h : ChrArr w cs f r n T) (hs : KRow w .i64 sa sn sc g) (hg : In64 g sn) (hn : sn <= 1000000) :
    Calls Tryz.prog 96 #[.agg cs, .slice sa sn sc] w fun e w' => ∃ a c, e = .returned (.slice a sn c) /\ KRow w' .i32 a sn c (fun j => elC n T 32 (g j)) /\ Below w.heap.size w w' := by
 obtain ⟨i0, hi, hz0, hz1, hz2⟩ := info_parts infoC
 have hmk := fun wz => run_make (P := Tryz.prog) wz 23 21 i0 _ Tryz.underlying23 hi hz0 .i64 .i64 sn sn (by omega) (by omega) (by rw [hz2]; omega) (by omega)
 simp only [Int.toNat_natCast, hz1, Nat.mul_one] at hmk
 have HK := Lib.hid hs
 have HG := Lib.hid hg
 have hl := hs.len
 obtain ⟨ta, tc, rfl, ht⟩ := h
 have HT := Lib.hid ht
 have hlt0 := ht.len
 have hR0 : Row (w.alloc (.cells (arrC true ((r : Int) - 1) (dm f r) none 0 0 ta n tc) 36)) w.heap.size 36 _ := Row.new _ _ _
 have H0 : Hid (Below w.heap.size w ((w.alloc (.cells (arrC true ((r : Int) - 1) (dm f r) none 0 0 ta n tc) 36)).alloc (.cells (madeCells (Value.cells (.int .i32 0)) sn) 21)) /\ Row ((w.alloc (.cells (arrC true ((r : Int) - 1) (dm f r) none 0 0 ta n tc) 36)).alloc (.cells (madeCells (Value.cells (.int .i32 0)) sn) 21)) w.heap.size 36 (arrC true ((r : Int) - 1) (dm f r) none 0 0 ta n tc) /\ CTo ((w.alloc (.cells (arrC true ((r : Int) - 1) (dm f r) none 0 0 ta n tc) 36)).alloc (.cells (madeCells (Value.cells (.int .i32 0)) sn) 21)) (w.heap.size + 1) sn 0 (fun j => elC n T 32 (g j))) :=
  ⟨((Below.refl _ _).alloc (Nat.le_refl _) _).alloc (by simp) _, hR0.below ((Below.refl _ _).alloc (Nat.le_refl _) _), by have := CTo.made (w.alloc (.cells (arrC true ((r : Int) - 1) (dm f r) none 0 0 ta n tc) 36)) sn 21 (fun j => elC n T 32 (g j)) rfl; rwa [World.size_alloc] at this⟩
 generalize hsh : (r : Int) - 1 = more at *
 generalize dm f r = d at *
 unfold arrC at H0
 unfold arrC
 clear ht hs hg hi hz0 hz1 hz2 hR0 hsh
 go_enter Tryz.func96, Tryz.ntmps96
 go_wp2_with fail
 go_loopw [13] (fun i wr => ∃ k : Nat, k <= sn /\ i = .int .i64 k /\ Hid (Below w.heap.size w wr /\ Row wr w.heap.size 36 (arrC true more d none 0 0 ta n tc) /\ CTo wr (w.heap.size + 1) sn k (fun j => elC n T 32 (g j)))) (fun i _ => sn - (intOf i).toNat)
 case atStart => exact ⟨0, by omega, rfl, H0.out⟩
 case round =>
  obtain ⟨k, hk, rfl, hrel⟩ := hrel
  obtain ⟨hbl, hrow, hto⟩ := hrel.out
  have hwr := hbl.size
  by_cases hlt : k < sn
  · obtain ⟨b, off, rfl, hb, hc⟩ := (HK.out.below hbl).get hlt
    obtain ⟨⟨z0, x1⟩, y1⟩ := hto.place hlt
    have q11 : wr.cell? ⟨w.heap.size, 11, none⟩ = some (.slice ta n tc) := hrow.cell 11
    have ne0 : w.heap.size ≠ w.heap.size + 1 := by omega
    by_cases hin : 0 <= g k /\ g k < n
    · obtain ⟨h0, h1⟩ := hin
      obtain ⟨q, hq⟩ : ∃ q : Nat, g k = q := ⟨(g k).toNat, by omega⟩
      have hqn : q < n := by omega
      have hv : elC n T 32 (g k) = T q := by unfold elC; rw [if_pos ⟨h0, h1⟩, hq]; rfl
      obtain ⟨b2, off2, rfl, hb2, hc2⟩ := (HT.out.below hbl).get hqn
      rw [hq] at hc h0 h1
      have nb : b2 ≠ w.heap.size + 1 := by
       have := HT.out.get hqn
       obtain ⟨b3, o3, e3, hb3, _⟩ := this
       injection e3 with e3; injection e3 with e3 _ _
       omega
      have HN : Hid (Below w.heap.size w ((wr.setCell ⟨w.heap.size + 1, k, none⟩ (.int .i32 32)).setCell ⟨w.heap.size + 1, k, none⟩ (.int .i32 (T q))) /\
          Row ((wr.setCell ⟨w.heap.size + 1, k, none⟩ (.int .i32 32)).setCell ⟨w.heap.size + 1, k, none⟩ (.int .i32 (T q))) w.heap.size 36 (arrC true more d none 0 0 (some ⟨b2, off2, none⟩) n tc) /\
          CTo ((wr.setCell ⟨w.heap.size + 1, k, none⟩ (.int .i32 32)).setCell ⟨w.heap.size + 1, k, none⟩ (.int .i32 (T q))) (w.heap.size + 1) sn (k + 1) (fun j => elC n T 32 (g j))) :=
       ⟨(hbl.setCell (p := ⟨w.heap.size + 1, _, none⟩) (Nat.le_succ _) _).setCell (p := ⟨w.heap.size + 1, _, none⟩) (Nat.le_succ _) _,
         (hrow.far (a := ⟨w.heap.size + 1, _, none⟩) ne0 _).far (a := ⟨w.heap.size + 1, _, none⟩) ne0 _, (hto.over 32).step hlt hv.symm⟩
      clear hbl hrow hto hq hv
      generalize T q = y at *
      go_wp2
      go_roundw
      case rel => exact ⟨k + 1, by omega, by go_num, HN.out⟩
      case measure => simp [intOf]; omega
    · have hv : elC n T 32 (g k) = 32 := by unfold elC; rw [if_neg hin]
      have HN : Hid (Below w.heap.size w (wr.setCell ⟨w.heap.size + 1, k, none⟩ (.int .i32 32)) /\ Row (wr.setCell ⟨w.heap.size + 1, k, none⟩ (.int .i32 32)) w.heap.size 36 (arrC true more d none 0 0 ta n tc) /\ CTo (wr.setCell ⟨w.heap.size + 1, k, none⟩ (.int .i32 32)) (w.heap.size + 1) sn (k + 1) (fun j => elC n T 32 (g j))) :=
       ⟨hbl.setCell (p := ⟨w.heap.size + 1, _, none⟩) (Nat.le_succ _) _, hrow.far (a := ⟨w.heap.size + 1, _, none⟩) ne0 _, hto.step hlt hv.symm⟩
      clear hbl hrow hto hv
      generalize g k = x at *
      by_cases h0 : 0 <= x
      · have h1 : ¬ x < (n : Int) := by omega
        clear hin
        go_wp2
        go_roundw
        case rel => exact ⟨k + 1, by omega, by go_num, HN.out⟩
        case measure => simp [intOf]; omega
      · clear hin
        go_wp2
        go_roundw
        case rel => exact ⟨k + 1, by omega, by go_num, HN.out⟩
        case measure => simp [intOf]; omega
  · obtain rfl : k = sn := by omega
    have HE : Hid (KRow wr .i32 (some ⟨w.heap.size + 1, 0, none⟩) k k (fun j => elC n T 32 (g j)) /\ Below w.heap.size w wr) := ⟨hto.done (by unfold maxLen; omega), hbl⟩
    clear hbl hrow hto
    go_wp2
    go_ret
    exact ⟨_, _, rfl, HE.out⟩
theorem pickC_any (cs : Array Value) (f : Nat -> Int) (r n : Nat) (T : Nat -> Int) (sa : Option Addr) (sr sc : Nat) (S : Nat -> Int) (ta : Option Addr) (tn tc : Nat) (g : Nat -> Int) (w : World) (h : ChrArr w cs f r n T)
    (hs : KRow w .i64 sa sr sc S) (hS : In64 S sr) (ht : KRow w .i64 ta tn tc g) (hg : In64 g tn) (hn : tn <= 1000000) :
    Calls Tryz.prog 41 #[.agg cs, .slice sa sr sc, .slice ta tn tc] w fun e w' => CharsTold (shB S sr && decide (itm S sr = tn)) S sr tn (fun j => elC n T 32 (g j)) w w' e := by
 have HA := Lib.hid h
 obtain ⟨na, nc, rfl, hr⟩ := h
 have PR := Lib.hid (fun wz h h2 => pickRunes_any (arrC true ((r : Int) - 1) (dm f r) none 0 0 na n nc) f r n T ta tn tc g wz h h2 hg hn)
 have NU := Lib.hid (fun la lc wz (h : KRow wz .i64 sa sr sc S) h2 => chars_any sa sr sc S la tn lc (fun j => elC n T 32 (g j)) wz h hS h2 hn)
 unfold CharsTold at NU
 have HS := Lib.hid hs
 have HT := Lib.hid ht
 have BB := Lib.hid (((Bag.start w).newRow (arrC true ((r : Int) - 1) (dm f r) none 0 0 na n nc) 36).newRow zerC 36)
 simp only [World.size_alloc] at BB
 generalize hb : (shB S sr && decide (itm S sr = tn)) = b at *
 have HR1 := Lib.hid BB.out.now.2.1
 clear hr hs hS ht hg hb
 unfold arrC
 go_enter Tryz.func41, Tryz.ntmps41
 go_wp2_with (refine ld_arr rfl (.tmp 3) rfl w.heap.size rfl HR1.out ?_)
 go_at_call 96
 (with_reducible refine (PR.out _ ?_ ?_).mono ?_)
 · exact HA.out.below BB.out.below
 · exact HT.out.below BB.out.below
 rintro e w2 ⟨a2, c2, rfl, hr2, hb2⟩
 have BB := Lib.hid ((BB.out.go hb2).krow hr2)
 clear hr2 hb2
 go_wp2_with fail
 go_at_call 50
 (with_reducible refine (NU.out _ _ _ ?_ ?_).mono ?_)
 · exact HS.out.below BB.out.below
 · exact BB.out.now.1
 rintro e w3 ⟨cs3, rfl, hcs, hb3⟩
 have B3 := BB.out.go hb3
 have hr0 := B3.now.2.1
 have HR0 := Lib.hid hr0
 have HBL := Lib.hid B3.below
 have HE : Hid (∃ ch more d na nn nc ta tn' tc, cs3 = arrC ch more d na nn nc ta tn' tc /\ CharsTold b S sr tn (fun j => elC n T 32 (g j)) w (w3.setRow (w.heap.size + 1) cs3) (.returned (.tuple #[.agg cs3, .bool b]))) := by
  cases b with
  | false =>
   rw [if_neg (by decide)] at hcs
   subst hcs
   exact ⟨false, 0, fun _ => 0, none, 0, 0, none, 0, 0, rfl, zerC, rfl, by rw [if_neg (by decide)], below_put HBL.out (Nat.le_succ _) _⟩
  | true =>
   rw [if_pos rfl] at hcs
   obtain ⟨na3, nc3, rfl, hr3⟩ := hcs
   exact ⟨_, _, _, _, _, _, _, _, _, rfl, _, rfl, by rw [if_pos rfl]; exact ⟨na3, nc3, rfl, hr3.away (KRow.ne hr3 (by decide) (zerC_row ▸ hr0)) (Far.setRow _ _ _)⟩, below_put HBL.out (Nat.le_succ _) _⟩
 clear hcs hb3 B3 hr0
 obtain ⟨ch, more, d, na3, nn3, nc3, ta3, tn3, tc3, rfl, HE⟩ := HE.out
 have HE := Lib.hid HE
 go_wp2_with (refine st_arr rfl (.tmp 6) (.tmp 15) rfl (w.heap.size + 1) rfl _ _ _ _ _ _ _ _ _ rfl HR0.out rfl ?_)
 exact bodyPost_ret (res_arr2 Tryz.results41 rfl rfl (HR0.out.put _) rfl) rfl HE.out
theorem wholeC_any (cs : Array Value) (f : Nat -> Int) (r n : Nat) (T : Nat -> Int) (w : World) (h : ChrArr w cs f r n T) (hn : n <= 1000000) :
    Calls Tryz.prog 140 #[.agg cs] w fun e w' => WhTold (decide (n = 0)) 0 (fun _ => 0) w w' e := by
 obtain ⟨i0, hi, hz0, hz1, hz2⟩ := info_parts infoI
 have hmk := fun wz => run_make (P := Tryz.prog) wz 22 3 i0 _ Tryz.underlying22 hi hz0 .i64 .i64 0 0 (by omega) (by omega) (by rw [hz2]; omega) (by omega)
 simp only [hz1, Nat.mul_one] at hmk
 obtain ⟨ta, tc, rfl, ht⟩ := h
 by_cases h0 : n = 0
 · subst h0
   rw [decide_eq_true rfl]
   have H0 : Hid (WhTold true 0 (fun _ => 0) w ((w.alloc (.cells (arrC true ((r : Int) - 1) (dm f r) none 0 0 ta 0 tc) 36)).alloc (.cells (madeCells (Value.cells (.int .i64 0)) 0) 3)) (.returned (.tuple #[.slice (some ⟨w.heap.size + 1, 0, none⟩) 0 0, .bool true]))) :=
    Lib.hid ⟨_, _, _, rfl, by rw [if_pos rfl]; exact ⟨rfl, KRow.nought _ _ _ _ (Nat.zero_le _) _⟩, ((Below.refl _ _).alloc (Nat.le_refl _) _).alloc (by simp) _⟩
   unfold arrC at H0
   unfold arrC
   clear ht hi hz0 hz1 hz2
   go_enter Tryz.func140, Tryz.ntmps140
   go_wp2_with fail
   go_loopw [20] (fun i wr => i = .int .i64 0 /\ Hid (wr = (w.alloc (.cells #[.bool true, .int .i64 ((r : Int) - 1), .int .i64 (dm f r 0), .int .i64 (dm f r 1), .int .i64 (dm f r 2), .int .i64 (dm f r 3), .int .i64 (dm f r 4), .int .i64 (dm f r 5), .int .i64 (dm f r 6), .int .i64 (dm f r 7), .slice none 0 0, .slice ta 0 tc] 36)).alloc (.cells (madeCells (Value.cells (.int .i64 0)) 0) 3))) (fun _ _ => 0)
   case atStart => exact ⟨rfl, rfl⟩
   case round =>
    obtain ⟨rfl, hrel⟩ := hrel
    obtain rfl := hrel.out
    go_wp2
    go_ret2
    exact H0.out
 · rw [decide_eq_false h0]
   have d1 : (0 : Int) < n := by omega
   have H0 : Hid (WhTold false 0 (fun _ => 0) w (w.alloc (.cells (arrC true ((r : Int) - 1) (dm f r) none 0 0 ta n tc) 36)) (.returned (.tuple #[.slice none 0 0, .bool false]))) :=
    Lib.hid ⟨_, _, _, rfl, by rw [if_neg (by decide)]; exact ⟨rfl, rfl, rfl⟩, (Below.refl _ _).alloc (Nat.le_refl _) _⟩
   unfold arrC at H0
   unfold arrC
   clear ht hi hz0 hz1 hz2 h0 hmk
   go_enter Tryz.func140, Tryz.ntmps140
   go_wp2
   go_ret2
   exact H0.out
theorem eqRunes_any (a : Option Addr) (n c : Nat) (f : Nat -> Int) (a2 : Option Addr) (n2 c2 : Nat) (g : Nat -> Int) (w : World) (h : KRow w .i32 a n c f) (h2 : KRow w .i32 a2 n2 c2 g) :
    Calls Tryz.prog 57 #[.slice a n c, .slice a2 n2 c2] w fun e w' => SameTold (decide (n = n2) && sameB f g n) w w' e := by
 have hl := h.len
 have hl2 := h2.len
 have H1 := Lib.hid h
 have H2 := Lib.hid h2
 clear h h2
 by_cases hn : n = n2
 · subst hn
   rw [decide_eq_true rfl, Bool.true_and]
   have dn : ((n : Int) != n) = false := bne_self_eq_false _
   go_enter Tryz.func57, Tryz.ntmps57
   go_wp2
   go_loopw [13] (fun i wr => ∃ k : Nat, k <= n /\ i = .int .i64 k /\ Hid (Below w.heap.size w wr /\ sameB f g k = true)) (fun i _ => n - (intOf i).toNat)
   case atStart => exact ⟨0, by omega, rfl, Below.refl _ _, rfl⟩
   case round =>
    obtain ⟨k, hk, rfl, hrel⟩ := hrel
    obtain ⟨hbl, hsm⟩ := hrel.out
    by_cases hlt : k < n
    · obtain ⟨b, off, rfl, hb, hc⟩ := (H1.out.below hbl).get hlt
      obtain ⟨b2, off2, rfl, hb2, hc2⟩ := (H2.out.below hbl).get hlt
      have HBL := Lib.hid hbl
      have hk0 : (0 : Int) <= k := by omega
      have hk1 : (k : Int) < n := by omega
      have hk2 : (k : Int) <= n := by omega
      by_cases hq : f k = g k
      · have hsm2 : Hid (sameB f g (k + 1) = true) := by show (sameB f g k && _) = true; rw [hsm, decide_eq_true hq]; rfl
        clear hbl hsm
        rw [← hq] at hc2
        have hne : (f k != f k) = false := bne_self_eq_false _
        generalize f k = x at *
        clear hq
        go_wp2_with fail
        go_quiet (fail)
        have HBE : Hid (Below w.heap.size w (wr.drewN nq) /\ sameB f g (k + 1) = true) := ⟨below_drewN HBL.out nq, hsm2.out⟩
        go_wp2
        go_roundw
        case rel => exact ⟨k + 1, by omega, by go_num, HBE.out⟩
        case measure => simp [intOf]; omega
      · have hno : sameB f g n = false := by
          cases hx : sameB f g n with
          | false => rfl
          | true => exact absurd ((sameB_iff.1 hx) k hlt) hq
        have HN := Lib.hid hno
        have hne : (f k != g k) = true := bne_iff_ne.2 hq
        clear hbl hsm hno
        generalize f k = x at *
        generalize g k = y at *
        clear hq
        go_wp2_with fail
        go_quiet (fail)
        have HBE : Hid (SameTold (sameB f g n) w (wr.drewN nq) (.returned (.bool false))) := ⟨by rw [HN.out], below_drewN HBL.out nq⟩
        go_wp2
        go_ret
        exact HBE.out
    · obtain rfl : k = n := by omega
      have HE : Hid (SameTold (sameB f g k) w wr (.returned (.bool true))) := ⟨by rw [hsm], hbl⟩
      clear hbl hsm
      go_wp2
      go_ret
      exact HE.out
 · rw [decide_eq_false hn, Bool.false_and]
   have dn : ((n : Int) != n2) = true := bne_iff_ne.2 (by omega)
   have HE : Hid (SameTold false w w (.returned (.bool false))) := ⟨rfl, Below.refl _ _⟩
   clear hn
   go_enter Tryz.func57, Tryz.ntmps57
   go_wp2
   go_ret
   exact HE.out
theorem cmp_eq0 (Z Y : Int) : (cmpZ Z Y == 0) = decide (Z = Y) := by
 unfold cmpZ
 by_cases h1 : Z < Y
 · rw [if_pos h1, decide_eq_false (by omega)]; rfl
 · rw [if_neg h1]
   by_cases h2 : Z = Y
   · rw [if_pos h2, decide_eq_true h2]; rfl
   · rw [if_neg h2, decide_eq_false h2]; rfl
theorem equal_any (a : Option Addr) (n c : Nat) (m : Bool) (a2 : Option Addr) (n2 c2 : Nat) (P : Int) (Q : Nat) (b : Option Addr) (k l : Nat) (v : Bool) (b2 : Option Addr) (k2 l2 : Nat) (P' : Int) (Q' : Nat) (w : World)
    (h : RatAt w a n c m a2 n2 c2 P Q) (g : RatAt w b k l v b2 k2 l2 P' Q') (hQ : 0 < Q) (hQ' : 0 < Q') (K : Nat) (hK : K <= 400000) (h1 : P.natAbs < 4294967296 ^ K) (h2 : Q < 4294967296 ^ K) (h3 : P'.natAbs < 4294967296 ^ K) (h4 : Q' < 4294967296 ^ K) :
    Calls Tryz.prog 59 #[.agg #[.slice a n c, .bool m, .slice a2 n2 c2], .agg #[.slice b k l, .bool v, .slice b2 k2 l2]] w fun e w' => e = .returned (.bool (decide (P * Q' = P' * Q))) /\ Below w.heap.size w w' := by
 have BB := Lib.hid (((((Bag.start w).rat h).rat g).box3 (.slice a n c) (.bool m) (.slice a2 n2 c2) 60).box3 (.slice b k l) (.bool v) (.slice b2 k2 l2) 60)
 simp only [World.size_alloc] at BB
 have CM := Lib.hid (fun wz p q => ratCmp_any a n c m a2 n2 c2 P Q b k l v b2 k2 l2 P' Q' wz p q hQ hQ' K hK h1 h2 h3 h4)
 rw [← cmp_eq0]
 generalize cmpZ (P * Q') (P' * Q) = z at *
 clear h g hQ hQ' h1 h2 h3 h4
 go_enter Tryz.func59, Tryz.ntmps59
 go_wp2_with fail
 go_at_call 32
 (with_reducible refine (CM.out _ BB.out.now.2.2.2.1 BB.out.now.2.2.1).mono ?_)
 rintro e w2 ⟨rfl, hb2⟩
 have HE := Lib.hid (BB.out.go hb2).below
 clear hb2
 go_wp2
 go_ret
 exact ⟨rfl, HE.out⟩
def rsB (fP : Nat -> Int) (fQ : Nat -> Nat) (gP : Nat -> Int) (gQ : Nat -> Nat) : Nat -> Bool
 | 0 => true
 | k + 1 => rsB fP fQ gP gQ k && decide (fP k * gQ k = gP k * fQ k)
theorem rsB_iff {fP : Nat -> Int} {fQ : Nat -> Nat} {gP : Nat -> Int} {gQ : Nat -> Nat} {n : Nat} : rsB fP fQ gP gQ n = true ↔ ∀ j, j < n -> fP j * gQ j = gP j * fQ j := by
 induction n with
 | zero => exact ⟨fun _ j h => absurd h (Nat.not_lt_zero _), fun _ => rfl⟩
 | succ n ih =>
  show (rsB fP fQ gP gQ n && _) = true ↔ _
  rw [Bool.and_eq_true, ih, decide_eq_true_eq]
  constructor
  · rintro ⟨h1, h2⟩ j hj
    rcases Nat.lt_or_ge j n with h | h
    · exact h1 j h
    · obtain rfl : j = n := by omega
      exact h2
  · exact fun h => ⟨fun j hj => h j (by omega), h n (by omega)⟩
def CmpOk (K : Nat) (fP : Nat -> Int) (fQ : Nat -> Nat) (n : Nat) : Prop := ∀ j, j < n -> 0 < fQ j /\ (fP j).natAbs < 4294967296 ^ K /\ fQ j < 4294967296 ^ K
theorem eqFunc_any (a : Option Addr) (n c : Nat) (fP : Nat -> Int) (fQ : Nat -> Nat) (a2 : Option Addr) (n2 c2 : Nat) (gP : Nat -> Int) (gQ : Nat -> Nat) (w : World) (h : RRow w a n c fP fQ) (h2 : RRow w a2 n2 c2 gP gQ) (K : Nat) (hK : K <= 400000) (q1 : CmpOk K fP fQ n) (q2 : CmpOk K gP gQ n2) :
    Calls Tryz.prog 58 #[.slice a n c, .slice a2 n2 c2, .func (.func 59) #[] #[]] w fun e w' => SameTold (decide (n = n2) && rsB fP fQ gP gQ n) w w' e := by
 have hl := h.len
 have hl2 := h2.len
 have H1 := Lib.hid h
 have H2 := Lib.hid h2
 clear h h2
 by_cases hn : n = n2
 · subst hn
   have EQ := Lib.hid (fun a n' c m a2 n2 c2 b k l v b2 k2 l2 j (hj : j < n) wz p q => equal_any a n' c m a2 n2 c2 (fP j) (fQ j) b k l v b2 k2 l2 (gP j) (gQ j) wz p q (q1 j hj).1 (q2 j hj).1 K hK (q1 j hj).2.1 (q1 j hj).2.2 (q2 j hj).2.1 (q2 j hj).2.2)
   rw [decide_eq_true rfl, Bool.true_and]
   have dn : ((n : Int) != n) = false := bne_self_eq_false _
   clear q1 q2
   go_enter Tryz.func58, Tryz.ntmps58
   go_wp2
   go_loopw [17] (fun i wr => ∃ k : Nat, k <= n /\ i = .int .i64 k /\ Hid (Below w.heap.size w wr /\ rsB fP fQ gP gQ k = true)) (fun i _ => n - (intOf i).toNat)
   case atStart => exact ⟨0, by omega, rfl, Below.refl _ _, rfl⟩
   case round =>
    obtain ⟨k, hk, rfl, hrel⟩ := hrel
    obtain ⟨hbl, hsm⟩ := hrel.out
    by_cases hlt : k < n
    · obtain ⟨b, off, a', n', c', m', a2', n2', c2', rfl, hlb, e1, e2, e3, hi⟩ := (H1.out.below hbl).get hlt
      obtain ⟨b2, off2, x', k', l', v', x2', k2', l2', rfl, hlb2, d1, d2, d3, hj⟩ := (H2.out.below hbl).get hlt
      have HBL := Lib.hid hbl
      have BB := Lib.hid (((((Bag.start wr).rat hi).rat hj).box3 (.slice a' n' c') (.bool m') (.slice a2' n2' c2') 60).box3 (.slice x' k' l') (.bool v') (.slice x2' k2' l2') 60)
      simp only [World.size_alloc] at BB
      have EK := Lib.hid (EQ.out a' n' c' m' a2' n2' c2' x' k' l' v' x2' k2' l2' k hlt)
      have hwr := hbl.size
      by_cases hq : fP k * gQ k = gP k * fQ k
      · have hsm2 : Hid (rsB fP fQ gP gQ (k + 1) = true) := by show (rsB fP fQ gP gQ k && _) = true; rw [hsm, decide_eq_true hq]; rfl
        rw [decide_eq_true hq] at EK
        clear hbl hsm hq hi hj
        go_wp2_with fail
        go_at_call 59
        (with_reducible refine (EK.out _ BB.out.now.2.2.2.1 BB.out.now.2.2.1).mono ?_)
        rintro e w3 ⟨rfl, hb3⟩
        have HBE : Hid (Below w.heap.size w w3 /\ rsB fP fQ gP gQ (k + 1) = true) := ⟨HBL.out.trans ((BB.out.go hb3).below.mono hwr), hsm2.out⟩
        clear hb3
        go_wp2
        go_roundw
        case rel => exact ⟨k + 1, by omega, by go_num, HBE.out⟩
        case measure => simp [intOf]; omega
      · have hno : rsB fP fQ gP gQ n = false := by
          cases hx : rsB fP fQ gP gQ n with
          | false => rfl
          | true => exact absurd ((rsB_iff.1 hx) k hlt) hq
        have HN := Lib.hid hno
        rw [decide_eq_false hq] at EK
        clear hbl hsm hno hq hi hj
        go_wp2_with fail
        go_at_call 59
        (with_reducible refine (EK.out _ BB.out.now.2.2.2.1 BB.out.now.2.2.1).mono ?_)
        rintro e w3 ⟨rfl, hb3⟩
        have HBE : Hid (SameTold (rsB fP fQ gP gQ n) w w3 (.returned (.bool false))) := ⟨by rw [HN.out], HBL.out.trans ((BB.out.go hb3).below.mono hwr)⟩
        clear hb3
        go_wp2
        go_ret
        exact HBE.out
    · obtain rfl : k = n := by omega
      have HE : Hid (SameTold (rsB fP fQ gP gQ k) w wr (.returned (.bool true))) := ⟨by rw [hsm], hbl⟩
      clear hbl hsm
      go_wp2
      go_ret
      exact HE.out
 · rw [decide_eq_false hn, Bool.false_and]
   have dn : ((n : Int) != n2) = true := bne_iff_ne.2 (by omega)
   have HE : Hid (SameTold false w w (.returned (.bool false))) := ⟨rfl, Below.refl _ _⟩
   clear hn q1 q2
   go_enter Tryz.func58, Tryz.ntmps58
   go_wp2
   go_ret
   exact HE.out
def eus (A B : Nat) : Nat := if h : B = 0 then 0 else eus B (A % B) + 1
termination_by B
decreasing_by exact Nat.mod_lt _ (Nat.pos_of_ne_zero h)
theorem eus_zero (A : Nat) : eus A 0 = 0 := by unfold eus; rw [dif_pos rfl]
theorem eus_step (A : Nat) {B : Nat} (h : B ≠ 0) : eus A B = eus B (A % B) + 1 := by rw [eus, dif_neg h]
theorem eus_le : ∀ k A B, B < 2 ^ k -> eus A B <= 2 * k + 1 := by
 intro k
 induction k with
 | zero =>
  intro A B h
  obtain rfl : B = 0 := by simpa using h
  rw [eus_zero]; omega
 | succ k ih =>
  intro A B h
  by_cases h0 : B = 0
  · subst h0; rw [eus_zero]; omega
  · rw [eus_step A h0]
    have h1 := Nat.mod_lt A (Nat.pos_of_ne_zero h0)
    obtain ⟨C, hC⟩ : ∃ C, A % B = C := ⟨_, rfl⟩
    rw [hC] at h1 ⊢
    by_cases hc0 : C = 0
    · subst hc0; rw [eus_zero]; omega
    · rw [eus_step B hc0]
      have h2 := Nat.mod_lt B (Nat.pos_of_ne_zero hc0)
      have h3 := Nat.div_add_mod B C
      have h4 : 1 <= B / C := Nat.div_pos (by omega) (Nat.pos_of_ne_zero hc0)
      have h5 : C * 1 <= C * (B / C) := Nat.mul_le_mul_left _ h4
      have h6 : B % C < 2 ^ k := by rw [Nat.pow_succ] at h; omega
      have := ih C (B % C) h6
      omega
theorem gcd_step (A B : Nat) : Nat.gcd B (A % B) = Nat.gcd A B := by
 rw [Nat.gcd_comm A B, Nat.gcd_rec B A, Nat.gcd_comm]
theorem dec_isnt0 (N : Nat) : ((str (dec N)).toList == [48]) = decide (N = 0) := by
 have e : (str (dec N)).toList = dec N := by rw [ByteArray.toList_eq]; rfl
 rw [e, Bool.eq_iff_iff, beq_iff_eq, decide_eq_true_eq]
 constructor
 · intro h
   have := congrArg numOf h
   unfold dec at this
   rw [numOf_sdig, Nat.mod_eq_of_lt (dl_lt N)] at this
   simpa [numOf] using this
 · intro h; rw [h, dec_zero]
theorem dl_mod {A B : Nat} (h : 0 < B) : dl (A % B) <= dl B := dl_le _ _ (dl_pos B) (Nat.lt_trans (Nat.mod_lt _ h) (dl_lt B))
theorem rgcd_any (x y : Nat) (w : World) (hx : dl x <= 900) (hy : dl y <= 900) (k0 : Nat) (hk0 : k0 <= 4000) (hy2 : y < 2 ^ k0) :
    Calls Tryz.prog 116 #[.string (str (dec x)), .string (str (dec y))] w fun e w' => e = .returned (.string (str (dec (Nat.gcd x y)))) /\ Below w.heap.size w w' := by
 have hst : 0 + eus x y <= 10000 := by have := eus_le k0 x y hy2; omega
 obtain ⟨a0, ha0⟩ : ∃ a0, str (dec x) = a0 := ⟨_, rfl⟩
 obtain ⟨b0, hb0⟩ : ∃ b0, str (dec y) = b0 := ⟨_, rfl⟩
 rw [ha0, hb0]
 have H0 : Hid (a0 = str (dec x) /\ b0 = str (dec y) /\ dl x <= 900 /\ dl y <= 900 /\ 0 + eus x y <= 10000) := ⟨ha0.symm, hb0.symm, hx, hy, hst⟩
 clear hst ha0 hb0 hx hy hy2 hk0
 go_enter Tryz.func116, Tryz.ntmps116
 go_wp2
 go_loopw [0, 1, 5] (fun a b i wr => ∃ (k A B : Nat) (s t : ByteArray), a = .string s /\ b = .string t /\ i = .int .i64 k /\ k <= 10000 /\ Hid (s = str (dec A) /\ t = str (dec B) /\ dl A <= 900 /\ dl B <= 900 /\ k + eus A B <= 10000 /\ Nat.gcd A B = Nat.gcd x y) /\ Below w.heap.size w wr)
  (fun _ _ i _ => 20000 - (intOf i).toNat)
 case atStart => exact ⟨0, x, y, _, _, rfl, rfl, rfl, by omega, ⟨H0.out.1, H0.out.2.1, H0.out.2.2.1, H0.out.2.2.2.1, H0.out.2.2.2.2, rfl⟩, Below.refl _ _⟩
 case round =>
  obtain ⟨k, A, B, s, t, rfl, rfl, rfl, hk, hr, hbl⟩ := hrel
  have hz := dec_isnt0 B
  rw [← hr.out.2.1] at hz
  have d1 : decide ((k : Int) < 20000) = true := decide_eq_true (by omega)
  by_cases h0 : B = 0
  · rw [decide_eq_true h0] at hz
    have HE : Hid (s = str (dec (Nat.gcd x y))) := by
     show _ = _
     rw [hr.out.1, ← hr.out.2.2.2.2.2, h0, Nat.gcd_zero_right]
    have HBL := Lib.hid hbl
    clear hr hbl h0
    go_wp2
    go_ret
    exact ⟨ret_str HE.out, HBL.out⟩
  · rw [decide_eq_false h0] at hz
    have hB0 : 0 < B := Nat.pos_of_ne_zero h0
    have DM := fun wz => rdivMod_any A B wz hr.out.2.2.1 hr.out.2.2.2.1 hB0
    rw [← hr.out.1, ← hr.out.2.1] at DM
    obtain ⟨u, hu⟩ : ∃ u, str (dec (A / B)) = u := ⟨_, rfl⟩
    obtain ⟨v, hv⟩ : ∃ v, str (dec (A % B)) = v := ⟨_, rfl⟩
    rw [hu, hv] at DM
    have hes := eus_step A h0
    have hkk : k + 1 <= 10000 := by have := hr.out.2.2.2.2.1; omega
    have HN : Hid (t = str (dec B) /\ v = str (dec (A % B)) /\ dl B <= 900 /\ dl (A % B) <= 900 /\ (k + 1) + eus B (A % B) <= 10000 /\ Nat.gcd B (A % B) = Nat.gcd x y) :=
     ⟨hr.out.2.1, hv.symm, hr.out.2.2.2.1, Nat.le_trans (dl_mod hB0) hr.out.2.2.2.1, by have := hr.out.2.2.2.2.1; omega, by rw [gcd_step]; exact hr.out.2.2.2.2.2⟩
    have HD := Lib.hid DM
    have HBL := Lib.hid hbl
    clear DM hu hv hes hr hbl h0 hB0
    go_wp2_with fail
    go_at_call 150
    (with_reducible refine (HD.out _).mono ?_)
    rintro e w2 ⟨rfl, hb2⟩
    have HB2 := Lib.hid (HBL.out.trans (hb2.mono HBL.out.size))
    clear hb2
    go_wp2
    go_roundw
    case rel => exact ⟨k + 1, B, A % B, _, _, rfl, rfl, by go_num, hkk, HN.out, HB2.out⟩
    case measure => simp [intOf]; omega
end Go.Proofs.YtnpoakaffafdiaaGreatDoor
namespace Go.Proofs.YtnpoakaffafdiaaGreatDoor
open Go.RowKit
attribute [local go_sem ↓] Go.wp_at_zero Go.wp_at_succ
theorem dec1 : str (dec 1) = ⟨#[49]⟩ := by rw [dec_small (by omega)]; rfl
theorem dec_is1 (N : Nat) : ((str (dec N)).toList == [49]) = decide (N = 1) := dec_eq_digit N 1 (by omega)
theorem r3From_any (X : Int) (w : World) (h : -9223372036854775808 <= X /\ X <= 9223372036854775807) : Calls Tryz.prog 64 #[.int .i64 X] w fun e w' => NumTold w w' e X 1 := by
 have FR := Lib.hid (fun wz => rFrom_any X wz h)
 unfold RTold at FR
 have BB := Lib.hid ((Bag.start w).box3 (.bool false) (.string ⟨#[]⟩) (.string ⟨#[]⟩) 53)
 have HF := Lib.hid (fun w2 b x y (hb : Below w.heap.size w w2) (h1 : rB X = b) (h2 : rS X = x) (h3 : str (dec 1) = y) => NumTold.done (k := w.heap.size) X 1 hb (Nat.le_refl _) h1 h2 h3)
 obtain ⟨b, hb⟩ : ∃ b, rB X = b := ⟨_, rfl⟩
 obtain ⟨s, hs⟩ : ∃ s, rS X = s := ⟨_, rfl⟩
 have HB := Lib.hid hb
 have HS2 := Lib.hid hs
 rw [hb, hs] at FR
 clear hb hs h
 go_enter Tryz.func64, Tryz.ntmps64
 go_wp2_with fail
 go_at_call 120
 (with_reducible refine (FR.out _).mono ?_)
 rintro e w2 ⟨rfl, hb2⟩
 have BB := Lib.hid ((BB.out.go hb2).box2 (.bool b) (.string s) 116)
 have q0 := BB.out.now.1.cell
 have q1 := BB.out.now.1.cell1
 have hs := BB.out.now.2.1
 have u0 := hs.cell
 have u1 := hs.cell1
 have u2 := hs.cell2
 have g0 := hs.free
 have g1 := hs.free1
 have g2 := hs.free2
 have HS := hs.set (.bool b) (.string s) (.string ⟨#[49]⟩)
 have HE := Lib.hid (HF.out _ b s ⟨#[49]⟩ BB.out.below HB.out HS2.out dec1)
 clear hs hb2
 go_wp2
 exact bodyPost_ret (v := .agg #[.bool b, .string s, .string ⟨#[49]⟩]) (by simp [results, Tryz.results64, go_sem, HS]) rfl HE.out
end Go.Proofs.YtnpoakaffafdiaaGreatDoor
namespace Go.Proofs.YtnpoakaffafdiaaGreatDoor
open Go.RowKit
def PlnTold (S : Nat -> Int) (r : Nat) (ch : Bool) (g : Nat -> Int) (tn : Nat) (fB : Nat -> Bool) (fS fT : Nat -> ByteArray) (nn : Nat) (w w' : World) (e : Ending) : Prop := ∃ cs, e = .returned (.agg cs) /\ PlnAt w' cs S r ch g tn fB fS fT nn /\ Below w.heap.size w w'
theorem res_pln {fn : Func} {p : Tmp} {tmps : Array Value} {w : World} {g : Nat} {cs : Array Value} (h : fn.results = #[.cell p 26]) (hp : tmps.getD p undef = .pointer (some ⟨g, 0, none⟩)) (hg : Row w g 26 cs) (hs : cs.size = 4) :
    (results fn tmps).run Tryz.prog w = .ok (.agg cs) w :=
 results_cell_row h tmps w g _ cs (0, 0) _ hp hg Tryz.underlying26 rfl (by rw [show (Tryz.prog.info? 26).map (·.size) = some 4 by kernel_rfl, hs])
theorem QRow.one (w : World) (b : Bool) (s t : ByteArray) (T : TypeId) : QRow (w.alloc (.cells #[.bool b, .string s, .string t] T)) (some ⟨w.heap.size, 0, none⟩) 1 1 (fun _ => b) (fun _ => s) (fun _ => t) := by
 have hR := Row.new w T #[.bool b, .string s, .string t]
 refine ⟨Nat.le_refl _, by unfold maxLen; omega, .inr ⟨_, 0, rfl, by simp, fun j hj => ?_⟩⟩
 obtain rfl : j = 0 := by omega
 exact ⟨hR.cell 0, hR.cell 1, hR.cell 2⟩
theorem pln4 : (Tryz.prog.info? 26).map (·.size) = some 4 := by kernel_rfl
theorem ld_pln {ops : Array Oper} {rest : List Oper} {o : Oper} {a : Act} {w : World} {Q : Exit -> Act -> World -> Prop} (hgd : o.guard = none) (x : Operand) (ho : o.op = .load 26 x) (g : Nat) (hx : a.eval x = .pointer (some ⟨g, 0, none⟩))
    {sa : Option Addr} {sn sc : Nat} {ch : Bool} {ta : Option Addr} {tn tc : Nat} {na : Option Addr} {nn nc : Nat} (hg : Row w g 26 (plC sa sn sc ch ta tn tc na nn nc))
    (h : wpList Tryz.prog ops Q rest (a.put o.dst (.agg (plC sa sn sc ch ta tn tc na nn nc))) w) : wpList Tryz.prog ops Q (o :: rest) a w :=
 wpList_load_row hgd _ x ho g hx _ _ (0, 0) _ hg Tryz.underlying26 rfl pln4 h
theorem plC_one (sa : Option Addr) (sn sc : Nat) (ch : Bool) (ta : Option Addr) (tn tc : Nat) (na : Option Addr) (nn nc : Nat) : (plC sa sn sc ch ta tn tc na nn nc).all (·.oneCell') = true := by simp [plC, Value.oneCell']
theorem st_pln {ops : Array Oper} {rest : List Oper} {o : Oper} {a : Act} {w : World} {Q : Exit -> Act -> World -> Prop} (hgd : o.guard = none) (x y : Operand) (ho : o.op = .store 26 x y) (g : Nat) (hx : a.eval x = .pointer (some ⟨g, 0, none⟩))
    (sa : Option Addr) (sn sc : Nat) (ch : Bool) (ta : Option Addr) (tn tc : Nat) (na : Option Addr) (nn nc : Nat) (hy : a.eval y = .agg (plC sa sn sc ch ta tn tc na nn nc)) {old : Array Value} (hg : Row w g 26 old) (ho2 : old.size = 4)
    (h : wpList Tryz.prog ops Q rest (a.put o.dst undef) (w.setRow g (plC sa sn sc ch ta tn tc na nn nc))) : wpList Tryz.prog ops Q (o :: rest) a w :=
 wpList_store_row hgd _ x y ho g _ hx hy _ old hg pln4 ho2 (plC_one _ _ _ _ _ _ _ _ _ _) h
def NoStr (cs : Array Value) : Prop := ∀ (o : Nat) (z : ByteArray), cs[o]? ≠ some (.string z)
theorem noStr_pl (sa : Option Addr) (sn sc : Nat) (ch : Bool) (ta : Option Addr) (tn tc : Nat) (na : Option Addr) (nn nc : Nat) : NoStr (plC sa sn sc ch ta tn tc na nn nc) := by
 intro o z h
 unfold plC at h
 rcases o with _ | _ | _ | _ | o
 all_goals first | (simp at h; done) | (cases h)
theorem QRow.apart {w : World} {a : Option Addr} {n c : Nat} {fB : Nat -> Bool} {fS fT : Nat -> ByteArray} {g : Nat} {t : TypeId} {cs : Array Value} (h : QRow w a n c fB fS fT) (hr : Row w g t cs) (hn : NoStr cs) : n = 0 ∨ ∀ x, a = some x -> x.block ≠ g := by
 rcases Nat.eq_zero_or_pos n with h0 | h0
 · exact .inl h0
 · obtain ⟨b, off, rfl, _, hc⟩ := h.2.2.resolve_left (by omega)
   refine .inr fun x hx e => ?_
   obtain rfl := Option.some.inj hx
   have e : b = g := e
   subst e
   have := (hc 0 h0).2.1
   rw [hr.cell] at this
   exact hn _ _ this
theorem PlnAt.away {w w' : World} {cs : Array Value} {S : Nat -> Int} {r : Nat} {ch : Bool} {g : Nat -> Int} {tn : Nat} {fB : Nat -> Bool} {fS fT : Nat -> ByteArray} {nn : Nat} (h : PlnAt w cs S r ch g tn fB fS fT nn) {k : Nat} {t : TypeId} {cs0 : Array Value} (hr : Row w k t cs0) (h1 : NoInt cs0) (h2 : NoStr cs0) (hf : Far k w w') : PlnAt w' cs S r ch g tn fB fS fT nn := by
 obtain ⟨sa, sc, ta, tc, na, nc, e, a1, a2, a3⟩ := h
 exact ⟨sa, sc, ta, tc, na, nc, e, a1.away (a1.apart hr h1) hf, a2.away (a2.apart hr h1) hf, a3.away (a3.apart hr h2) hf⟩
def plZer : Array Value := plC none 0 0 false none 0 0 none 0 0
theorem ans_pln {w w3 : World} {cs : Array Value} {S : Nat -> Int} {r : Nat} {ch : Bool} {g : Nat -> Int} {tn : Nat} {fB : Nat -> Bool} {fS fT : Nat -> ByteArray} {nn : Nat} (h : PlnAt w3 cs S r ch g tn fB fS fT nn) (hb : Below w.heap.size w w3) {k : Nat} {t : TypeId} (hr0 : Row w3 k t plZer) (hk : w.heap.size <= k) :
    PlnTold S r ch g tn fB fS fT nn w (w3.setRow k cs) (.returned (.agg cs)) :=
 ⟨cs, rfl, h.away hr0 (noInt_pl _ _ _ _ _ _ _ _ _ _) (noStr_pl _ _ _ _ _ _ _ _ _ _) (Far.setRow _ _ _), below_put hb hk _⟩
theorem r6Ints_any (a : Option Addr) (n c : Nat) (g : Nat -> Int) (w : World) (h : KRow w .i64 a n c g) (hg : In64 g n) (hn : n <= 1000000) :
    Calls Tryz.prog 38 #[.slice a n c] w fun e w' => ∀ T, PlnTold (fun _ => (n : Int)) 1 false T 0 (fun j => rB (g j)) (fun j => rS (g j)) (fun _ => str (dec 1)) n w w' e := by
 have hl := h.len
 obtain ⟨i0, hi, hz0, hz1, hz2⟩ := info_parts infoN
 have FR := Lib.hid (fun X wz hx => r3From_any X wz hx)
 unfold NumTold at FR
 have HG := Lib.hid hg
 have KR := KRow.one (w.alloc (.cells plZer 26)) n 3
 have BB := Lib.hid ((((((Bag.start w).krow h).newRow plZer 26).alloc (.cells #[.int .i64 n] 3)).krow KR).newRow (plC (some ⟨w.heap.size + 1, 0, none⟩) 1 1 false none 0 0 none 0 0) 26)
 simp only [World.size_alloc] at BB
 clear h hg KR
 unfold plZer plC at BB
 go_enter Tryz.func38, Tryz.ntmps38
 go_wp2_with fail
 generalize ((w.alloc (.cells #[.slice none 0 0, .bool false, .slice none 0 0, .slice none 0 0] 26)).alloc (.cells #[.int .i64 n] 3)).alloc (.cells #[.slice (some ⟨w.heap.size + 1, 0, none⟩) 1 1, .bool false, .slice none 0 0, .slice none 0 0] 26) = y0 at *
 go_loopw [4] (fun i wr => ∃ (k : Nat) (a1 : Option Addr) (c1 : Nat), k <= n /\ i = .int .i64 k /\ Hid (Below w.heap.size w wr /\ Far (w.heap.size + 1 + 1) y0 wr /\ Row wr (w.heap.size + 1 + 1) 26 (plC (some ⟨w.heap.size + 1, 0, none⟩) 1 1 false none 0 0 a1 k c1) /\ wr.ownsRow y0.heap.size 53 3 (.slice a1 k c1) k (qcs (fun j => rB (g j)) (fun j => rS (g j)) (fun _ => str (dec 1)) k))) (fun i _ => n - (intOf i).toNat)
 case atStart => exact ⟨0, none, 0, by omega, rfl, BB.out.below, Far.refl _ _, BB.out.now.1, World.ownsRow_nil _ _ _ _⟩
 case round =>
  obtain ⟨k, a1, c1, hk, rfl, hrel⟩ := hrel
  obtain ⟨hbl, hfar, hrp, hown⟩ := hrel.out
  have hni := noInt_pl (some ⟨w.heap.size + 1, 0, none⟩) 1 1 false none 0 0 none 0 0
  have hsz := BB.out.now.1.lt
  by_cases hlt : k < n
  · have hkr := BB.out.now.2.2.2.1.away (BB.out.now.2.2.2.1.apart BB.out.now.1 hni) hfar
    obtain ⟨b, off, rfl, hb, hc⟩ := hkr.get hlt
    have HX := Lib.hid (HG.out k hlt)
    have B1 := Lib.hid (((Bag.start wr).own hown).row hrp)
    have HBL := Lib.hid hbl
    have HF := Lib.hid hfar
    have qp : wr.cell? ⟨w.heap.size + 1 + 1, 3, none⟩ = some (.slice a1 k c1) := hrp.cell 3
    have HMX := Lib.hid (show k + 1 <= maxLen by unfold maxLen; omega)
    have HMY := Lib.hid (show (k + 1) * 40 <= 140737488355328 by omega)
    have HONE := Lib.hid (show ∀ u ∈ ([.bool (rB (g k)), .string (rS (g k)), .string (str (dec 1))] : List Value), u.oneCell' = true by intro u hu; simp at hu; rcases hu with rfl | rfl | rfl <;> rfl)
    have hk0 : (0 : Int) <= k := by omega
    have hk1 : (k : Int) < n := by omega
    have hk2 : (k : Int) <= n := by omega
    clear hbl hfar hrp hown hkr hni
    go_wp2_with fail
    go_region_law (first
     | (go_simp; go_at_call 64; (with_reducible refine (FR.out _ _ HX.out).mono ?_); rintro e w2 ⟨rfl, hb2⟩;
         have B2 := Lib.hid ((B1.out.drew.go hb2).newRow #[.bool (rB (g k)), .string (rS (g k)), .string (str (dec 1))] 53);
         have qp2 : w2.cell? ⟨w.heap.size + 1 + 1, 3, none⟩ = some (.slice a1 k c1) := (B1.out.drew.go hb2).now.1.cell 3;
         have qp3 : (w2.alloc (.cells #[.bool (rB (g k)), .string (rS (g k)), .string (str (dec 1))] 53)).cell? ⟨w.heap.size + 1 + 1, 3, none⟩ = some (.slice a1 k c1) := B2.out.now.2.1.cell 3;
         have HROW := Lib.hid B2.out.now.2.1;
         have HOWN := Lib.hid B2.out.now.2.2.1;
         have HNEW := Lib.hid (World.news_of_block B2.out.now.1);
         have HBA := Lib.hid (Nat.le_trans HF.out.size B2.out.below.size);
         have HNX := Lib.hid (pl_step HBL.out HF.out B2.out.below HROW.out HOWN.out (by decide) (by omega) BB.out.below.size);
         clear hb2)
     | (refine step_append_lies _ rfl (.tmp 16) (.tmp 22) 24 rfl y0.heap.size 53 i0 _ 3 40 Tryz.underlying24 hi hz0 hz1 hz2 rfl (by omega) (.slice a1 k c1) k _ rfl HOWN.out ⟨w2.heap.size, 0, none⟩ 1 1 [.bool (rB (g k)), .string (rS (g k)), .string (str (dec 1))] rfl rfl HNEW.out HONE.out (by omega) HMX.out HMY.out HBA.out _ rfl ?_; intro g9 cap9 w3 hown3 hgrow hor hlt3;
         have hr3 := HROW.out.grown hgrow (HROW.out.apart HOWN.out (by decide)); have qp : w3.cell? ⟨w.heap.size + 1 + 1, 3, none⟩ = some (.slice a1 k c1) := hr3.cell 3; have fp := hr3.free 3; have HN := Lib.hid (HNX.out g9 cap9 w3 hown3 hgrow); clear hown3 hgrow hor hlt3 hr3))
    all_goals
     go_wp2
     go_roundw
     case rel => exact ⟨k + 1, _, cap9, by omega, by go_num, HN.out⟩
     case measure => simp [intOf]; omega
  · obtain rfl : k = n := by omega
    have hr0 : Row wr w.heap.size 26 plZer := (hfar.block _ (by omega) BB.out.now.2.2.1.lt).trans BB.out.now.2.2.1
    have hks := BB.out.now.2.1.away (BB.out.now.2.1.apart BB.out.now.1 hni) hfar
    obtain ⟨a9, c9, he, hq⟩ := QRow.of_own hown
    injection he with he1 _ he2
    subst he1 he2
    have HE : Hid (∀ T, PlnTold (fun _ => (k : Int)) 1 false T 0 (fun j => rB (g j)) (fun j => rS (g j)) (fun _ => str (dec 1)) k w (wr.setRow w.heap.size (plC (some ⟨w.heap.size + 1, 0, none⟩) 1 1 false none 0 0 a1 k c1)) (.returned (.agg (plC (some ⟨w.heap.size + 1, 0, none⟩) 1 1 false none 0 0 a1 k c1)))) :=
     Lib.hid fun T => ans_pln ⟨_, _, _, _, _, _, rfl, hks, KRow.nought _ _ _ _ (Nat.zero_le _) _, hq⟩ hbl hr0 (Nat.le_refl _)
    have HR0 := Lib.hid hr0
    have HRP := Lib.hid hrp
    clear hbl hfar hrp hown hks hq hr0 hni
    go_wp2_with (first
     | (refine ld_pln rfl (.tmp 3) rfl (w.heap.size + 1 + 1) rfl HRP.out ?_)
     | (refine st_pln rfl (.tmp 2) (.tmp 25) rfl w.heap.size rfl _ _ _ _ _ _ _ _ _ _ rfl HR0.out rfl ?_))
    exact bodyPost_ret (res_pln Tryz.results38 rfl (HR0.out.put _) rfl) rfl HE.out
end Go.Proofs.YtnpoakaffafdiaaGreatDoor
namespace Go.Proofs.YtnpoakaffafdiaaGreatDoor
open Go.RowKit
attribute [local go_sem ↓] Go.wp_at_zero Go.wp_at_succ
theorem ofO_all (b : Bool) (s t : ByteArray) : ofO b s t = (okB s.data.toList && (okB t.data.toList && (decide (str (dec (numOf s.data.toList)) = s) && (decide (str (dec (numOf t.data.toList)) = t) && (!decide (numOf t.data.toList = 0) && (decide (Nat.gcd (numOf s.data.toList) (numOf t.data.toList) = 1) && !(b && decide (numOf s.data.toList = 0)))))))) := by
 unfold ofO ofK ofP ofQ
 by_cases h0 : numOf t.data.toList = 0
 · rw [decide_eq_true h0]; simp
 · rw [of_right b s t (by omega), decide_eq_false h0]
   cases okB s.data.toList <;> cases okB t.data.toList <;> simp
theorem str_beq (s t : ByteArray) : (s.toList == t.toList) = decide (s = t) := by
 rw [Bool.eq_iff_iff, beq_iff_eq, decide_eq_true_eq]
 constructor
 · intro h
   rw [ByteArray.toList_eq, ByteArray.toList_eq] at h
   exact ByteArray.ext (Array.toList_inj.1 h)
 · intro h; rw [h]
theorem r3Right_any (b : Bool) (s t : ByteArray) (w : World) (hs : s.size <= 60) (ht : t.size <= 60) :
    Calls Tryz.prog 62 #[.agg #[.bool b, .string s, .string t]] w fun e w' => e = .returned (.bool (ofO b s t)) /\ Below w.heap.size w w' := by
 rw [ofO_all]
 have BB := Lib.hid ((Bag.start w).box3 (.bool b) (.string s) (.string t) 53)
 have R1 := Lib.hid (fun wz => right_any s wz (by unfold maxLen; omega))
 have R2 := Lib.hid (fun wz => right_any t wz (by unfold maxLen; omega))
 have TR : ∀ (u : ByteArray) (hu : u.size <= 60) (h : okB u.data.toList = true) wz, Calls Tryz.prog 115 #[.string u] wz fun e w' => e = .returned (.string (str (dec (numOf u.data.toList)))) /\ wz = w' := by
  intro u hu h wz
  obtain ⟨g1, g2, g3⟩ := okB_digs h
  have hl : u.data.toList.length = u.size := rfl
  have := trim_any (numOf u.data.toList) u.data.toList.length wz g1 (numOf_lt _ g3) (by omega)
  rw [sdig_numOf _ g3] at this
  exact this
 have T1 := Lib.hid (fun wz h => TR s hs h wz)
 have T2 := Lib.hid (fun wz h => TR t ht h wz)
 have hl1 : dl (numOf s.data.toList) <= 900 ∨ okB s.data.toList = false := by
  cases h : okB s.data.toList with
  | false => exact .inr rfl
  | true =>
   obtain ⟨g1, g2, g3⟩ := okB_digs h
   exact .inl (Nat.le_trans (dl_le _ _ g1 (numOf_lt _ g3)) (by have : s.data.toList.length = s.size := rfl; omega))
 obtain ⟨E, hE⟩ : ∃ E, E = 1000 := ⟨_, rfl⟩
 have hl2 : (dl (numOf t.data.toList) <= 900 /\ numOf t.data.toList < 2 ^ E) ∨ okB t.data.toList = false := by
  cases h : okB t.data.toList with
  | false => exact .inr rfl
  | true =>
   obtain ⟨g1, g2, g3⟩ := okB_digs h
   have hl : t.data.toList.length = t.size := rfl
   refine .inl ⟨Nat.le_trans (dl_le _ _ g1 (numOf_lt _ g3)) (by omega), Nat.lt_of_lt_of_le (numOf_lt _ g3) (Nat.le_trans (Nat.pow_le_pow_right (by omega) (show t.data.toList.length <= 60 by omega)) ?_)⟩
   exact Nat.le_trans (Nat.pow_le_pow_left (show 10 <= 2 ^ 4 by decide) 60) (by rw [← Nat.pow_mul]; exact Nat.pow_le_pow_right (by omega) (by omega))
 generalize hN : numOf s.data.toList = N at *
 generalize hM : numOf t.data.toList = M at *
 have GC : ∀ wz, okB s.data.toList = true -> okB t.data.toList = true -> str (dec N) = s -> str (dec M) = t -> Calls Tryz.prog 116 #[.string s, .string t] wz fun e w' => e = .returned (.string (str (dec (Nat.gcd N M)))) /\ Below wz.heap.size wz w' := by
  intro wz h1 h2 h3 h4
  have := rgcd_any N M wz (by rcases hl1 with h | h; exact h; rw [h1] at h; cases h) (by rcases hl2 with h | h; exact h.1; rw [h2] at h; cases h) E (by omega) (by rcases hl2 with h | h; exact h.2; rw [h2] at h; cases h)
  rw [h3, h4] at this
  exact this
 have hz1 : decide (M = 0) = ((str (dec M)).toList == [48]) := (dec_isnt0 M).symm
 have hz0 : decide (N = 0) = ((str (dec N)).toList == [48]) := (dec_isnt0 N).symm
 have hg1 : decide (Nat.gcd N M = 1) = ((str (dec (Nat.gcd N M))).toList == [49]) := (dec_is1 _).symm
 generalize okB s.data.toList = r1 at *
 generalize okB t.data.toList = r2 at *
 have d1 := str_beq (str (dec N)) s
 have d2 := str_beq (str (dec M)) t
 rw [← d1, ← d2, hz1, hz0, hg1]
 have GC := Lib.hid GC
 generalize str (dec (Nat.gcd N M)) = gg at *
 generalize str (dec N) = s1 at *
 generalize str (dec M) = t1 at *
 have D1 : Hid ((s1.toList == s.toList) = true -> s1 = s) := fun h => of_decide_eq_true (d1.symm.trans h)
 have D2 : Hid ((t1.toList == t.toList) = true -> t1 = t) := fun h => of_decide_eq_true (d2.symm.trans h)
 clear TR hl1 hl2 hN hM hs ht hz1 hz0 hg1 d1 d2
 obtain ⟨e1, he1⟩ : ∃ e, (s1.toList == s.toList) = e := ⟨_, rfl⟩
 obtain ⟨e2, he2⟩ : ∃ e, (t1.toList == t.toList) = e := ⟨_, rfl⟩
 obtain ⟨z, hz⟩ : ∃ e, (t.toList == [48]) = e := ⟨_, rfl⟩
 obtain ⟨x13, h13⟩ : ∃ x, x = (!r1 || !r2) := ⟨_, rfl⟩
 obtain ⟨x21, h21⟩ : ∃ x, x = (x13 || !e1) := ⟨_, rfl⟩
 obtain ⟨x29, h29⟩ : ∃ x, x = (x21 || !e2) := ⟨_, rfl⟩
 obtain ⟨x33, h33⟩ : ∃ x, x = (x29 || z) := ⟨_, rfl⟩
 have OR : ∀ x y z : Bool, z = (x || y) -> ((x = true -> z = true) /\ (x = false -> z = y)) := by intro x y z h; subst h; cases x <;> simp
 have P1 : Hid ((!r1) = true -> x13 = true) := (OR _ _ _ h13).1
 have Q1 : Hid ((!r1) = false -> x13 = !r2) := (OR _ _ _ h13).2
 have P2 : Hid (x13 = true -> x21 = true) := (OR _ _ _ h21).1
 have Q2 : Hid (x13 = false -> x21 = !e1) := (OR _ _ _ h21).2
 have P3 : Hid (x21 = true -> x29 = true) := (OR _ _ _ h29).1
 have Q3 : Hid (x21 = false -> x29 = !e2) := (OR _ _ _ h29).2
 have P4 : Hid (x29 = true -> x33 = true) := (OR _ _ _ h33).1
 have Q4 : Hid (x29 = false -> x33 = z) := (OR _ _ _ h33).2
 have N1 : Hid (x13 = false -> r1 = true) := by intro h; rw [h] at h13; cases r1; cases h13; rfl
 have N2 : Hid (x21 = false -> r2 = true) := by intro h; rw [h] at h21; cases hx : x13; rw [hx] at h13; cases r2; cases r1 <;> cases h13; rfl; rw [hx] at h21; cases h21
 have LAST0 : (x33 = true -> ∀ G, (r1 && (r2 && (e1 && (e2 && (!(t1.toList == [48]) && G))))) = false) /\ (x33 = false -> r1 = true /\ r2 = true /\ e1 = true /\ e2 = true /\ z = false) := by
  rw [h33, h29, h21, h13]
  refine ⟨fun h G => ?_, fun h => ?_⟩
  · cases hh : e2 with
    | false => simp
    | true =>
     have h4 := D2.out (he2.trans hh)
     rw [h4, hz]
     rw [hh] at h
     cases r1 <;> cases r2 <;> cases e1 <;> cases z <;> first | rfl | cases h
  · cases r1 <;> cases r2 <;> cases e1 <;> cases e2 <;> cases z <;> first | exact ⟨rfl, rfl, rfl, rfl, rfl⟩ | cases h
 have LAST := Lib.hid LAST0
 rw [he1, he2]
 clear LAST0 hE OR h13 h21 h29 h33
 go_enter Tryz.func62, Tryz.ntmps62
 go_wp2_with fail
 refine wp_region_inv ⟨(fun j => ([[3], [4], [5], [6], [7], [8], [9], [10], [11], [12], [13], [14], [15], [16], [17], [18], [19], [20], [21], [22], [23], [24], [25], [26], [27], [28], [29], [30], [31], [32], [33]] : List (List Nat)).getD j []), (fun j => ([[], [0], [0, 1], [0, 1, 2], [0, 1, 2, 3], [0, 1, 2, 3, 4], [0, 1, 2, 3, 4, 5], [0, 1, 2, 3, 4, 5, 6], [0, 1, 2, 3, 4, 5, 6, 7], [0, 1, 2, 3, 4, 5, 6, 7, 8], [0, 1, 2, 3, 4, 5, 6, 7, 8, 9], [0, 1, 2, 3, 4, 5, 6, 7, 8, 9, 10], [0, 1, 2, 3, 4, 5, 6, 7, 8, 9, 10, 11], [0, 1, 2, 3, 4, 5, 6, 7, 8, 9, 10, 11, 12], [0, 1, 2, 3, 4, 5, 6, 7, 8, 9, 10], [0, 1, 2, 3, 4, 5, 6, 7, 8, 9, 10, 14], [0, 1, 2, 3, 4, 5, 6, 7, 8, 9, 10, 11, 12, 13, 14, 15], [0, 1, 2, 3, 4, 5, 6, 7, 8, 9, 10, 11, 12, 13, 14, 15, 16], [0, 1, 2, 3, 4, 5, 6, 7, 8, 9, 10, 11, 12, 13, 14, 15, 16, 17], [0, 1, 2, 3, 4, 5, 6, 7, 8, 9, 10, 11, 12, 13, 14, 15, 16, 17, 18], [0, 1, 2, 3, 4, 5, 6, 7, 8, 9, 10, 11, 12, 13, 14, 15, 16, 17, 18, 19], [0, 1, 2, 3, 4, 5, 6, 7, 8, 9, 10, 11, 12, 13, 14, 15, 16, 17, 18, 19, 20], [0, 1, 2, 3, 4, 5, 6, 7, 8, 9, 10, 11, 12, 13, 14, 15, 16, 17, 18], [0, 1, 2, 3, 4, 5, 6, 7, 8, 9, 10, 11, 12, 13, 14, 15, 16, 17, 18, 22], [0, 1, 2, 3, 4, 5, 6, 7, 8, 9, 10, 11, 12, 13, 14, 15, 16, 17, 18, 19, 20, 21, 22, 23], [0, 1, 2, 3, 4, 5, 6, 7, 8, 9, 10, 11, 12, 13, 14, 15, 16, 17, 18, 19, 20, 21, 22, 23, 24], [0, 1, 2, 3, 4, 5, 6, 7, 8, 9, 10, 11, 12, 13, 14, 15, 16, 17, 18, 19, 20, 21, 22, 23, 24, 25], [0, 1, 2, 3, 4, 5, 6, 7, 8, 9, 10, 11, 12, 13, 14, 15, 16, 17, 18, 19, 20, 21, 22, 23, 24, 25, 26], [0, 1, 2, 3, 4, 5, 6, 7, 8, 9, 10, 11, 12, 13, 14, 15, 16, 17, 18, 19, 20, 21, 22, 23, 24, 25, 26, 27], [0, 1, 2, 3, 4, 5, 6, 7, 8, 9, 10, 11, 12, 13, 14, 15, 16, 17, 18, 19, 20, 21, 22, 23, 24, 25, 26, 27, 28], [0, 1, 2, 3, 4, 5, 6, 7, 8, 9, 10, 11, 12, 13, 14, 15, 16, 17, 18, 19, 20, 21, 22, 23, 24, 25, 26, 27, 28, 29]] : List (List Nat)).getD j []), []⟩ (fun jj vv yy => match jj with | 0 => vv = [some (.pointer (some ⟨w.heap.size, 1, none⟩))] | 1 => vv = [some (.string s)] | 2 => vv = [some (.bool r1)] | 3 => vv = [some (.bool (!r1))] | 4 => vv = [some (.bool (!r1))] | 5 => ((!r1) = false) -> (vv = [some (.pointer (some ⟨w.heap.size, 2, none⟩))]) | 6 => ((!r1) = false) -> (vv = [some (.string t)]) | 7 => ((!r1) = false) -> (vv = [some (.bool r2)]) | 8 => ((!r1) = false) -> (vv = [some (.bool (!r2))]) | 9 => vv = [some (.bool x13)] | 10 => vv = [some (.bool x13)] | 11 => (x13 = false) -> (vv = [some (.pointer (some ⟨w.heap.size, 1, none⟩))]) | 12 => (x13 = false) -> (vv = [some (.string s)]) | 13 => (x13 = false) -> (vv = [some (.string s1)]) | 14 => (x13 = false) -> (vv = [some (.pointer (some ⟨w.heap.size, 1, none⟩))]) | 15 => (x13 = false) -> (vv = [some (.string s)]) | 16 => (x13 = false) -> (vv = [some (.bool (!e1))]) | 17 => vv = [some (.bool x21)] | 18 => vv = [some (.bool x21)] | 19 => (x21 = false) -> (vv = [some (.pointer (some ⟨w.heap.size, 2, none⟩))]) | 20 => (x21 = false) -> (vv = [some (.string t)]) | 21 => (x21 = false) -> (vv = [some (.string t1)]) | 22 => (x21 = false) -> (vv = [some (.pointer (some ⟨w.heap.size, 2, none⟩))]) | 23 => (x21 = false) -> (vv = [some (.string t)]) | 24 => (x21 = false) -> (vv = [some (.bool (!e2))]) | 25 => vv = [some (.bool x29)] | 26 => vv = [some (.bool x29)] | 27 => (x29 = false) -> (vv = [some (.pointer (some ⟨w.heap.size, 2, none⟩))]) | 28 => (x29 = false) -> (vv = [some (.string t)]) | 29 => (x29 = false) -> (vv = [some (.bool z)]) | 30 => vv = [some (.bool x33)] | _ => True) (Bag w (fun y => Slot3 y w.heap.size (.bool b) (.string s) (.string t) /\ True)) (by kernel_rfl) (by kernel_rfl) (by kernel_rfl) BB.out.drew ?_ ?_ ?_
 · intro jj vv yw yw2 hb h
   match jj, h with
   | 0, h => exact h
   | 1, h => exact h
   | 2, h => exact h
   | 3, h => exact h
   | 4, h => exact h
   | 5, h => exact h
   | 6, h => exact h
   | 7, h => exact h
   | 8, h => exact h
   | 9, h => exact h
   | 10, h => exact h
   | 11, h => exact h
   | 12, h => exact h
   | 13, h => exact h
   | 14, h => exact h
   | 15, h => exact h
   | 16, h => exact h
   | 17, h => exact h
   | 18, h => exact h
   | 19, h => exact h
   | 20, h => exact h
   | 21, h => exact h
   | 22, h => exact h
   | 23, h => exact h
   | 24, h => exact h
   | 25, h => exact h
   | 26, h => exact h
   | 27, h => exact h
   | 28, h => exact h
   | 29, h => exact h
   | 30, h => exact h
   | _ + 31, h => exact h
 · intro ac yw hsz hdf hold hB hp
   have t33 : ac.tmps[33]? = some (.bool x33) := (List.cons.inj (hp 30 (by decide))).1
   have t1' : ac.tmps[1]? = some (.pointer (some ⟨w.heap.size, 0, none⟩)) := hold 1 (by kernel_rfl)
   clear hold hp
   have q0 := hB.now.1.cell
   have q1 := hB.now.1.cell1
   have q2 := hB.now.1.cell2
   obtain ⟨F, hF⟩ : ∃ F : Nat -> Value, ∀ i, (ac.tmps[i]?).getD undef = F i := ⟨_, fun _ => rfl⟩
   have f33 := (hF 33).symm.trans (congrArg (fun x => Option.getD x undef) t33)
   have f1 := (hF 1).symm.trans (congrArg (fun x => Option.getD x undef) t1')
   have hac := act_eq (n := 50) hsz F hF
   rw [show ((List.range 50).map F).toArray = #[F 0, F 1, F 2, F 3, F 4, F 5, F 6, F 7, F 8, F 9, F 10, F 11, F 12, F 13, F 14, F 15, F 16, F 17, F 18, F 19, F 20, F 21, F 22, F 23, F 24, F 25, F 26, F 27, F 28, F 29, F 30, F 31, F 32, F 33, F 34, F 35, F 36, F 37, F 38, F 39, F 40, F 41, F 42, F 43, F 44, F 45, F 46, F 47, F 48, F 49] from rfl, f33, f1, hdf] at hac
   simp only [Option.getD_some] at hac
   subst hac
   clear hF f33 f1
   obtain ⟨L1, L2⟩ := LAST.out
   have BB := Lib.hid hB
   clear LAST P1 Q1 P2 Q2 P3 Q3 P4 Q4 N1 N2 R1 R2 T1 T2 hB
   cases x33 with
   | true =>
    have L3 := Lib.hid (L1 rfl)
    clear L1 L2 GC he1 he2 hz D1 D2
    go_wp2
    go_ret
    exact ⟨congrArg (fun b => Ending.returned (.bool b)) (L3.out _).symm, BB.out.below⟩
   | false =>
    obtain ⟨rfl, rfl, rfl, rfl, rfl⟩ := L2 rfl
    obtain rfl := D1.out he1
    obtain rfl := D2.out he2
    have GC2 := Lib.hid (fun wz => GC.out wz rfl rfl rfl rfl)
    clear GC
    obtain ⟨g, hg⟩ : ∃ g, (gg.toList == [49]) = g := ⟨_, rfl⟩
    obtain ⟨z0, hz0⟩ : ∃ g, (s1.toList == [48]) = g := ⟨_, rfl⟩
    have HZ := Lib.hid (And.intro hz (And.intro hg hz0))
    clear L1 L2 he1 he2 D1 D2
    cases g <;> cases b <;> cases z0
    all_goals
     go_wp2_with fail
     go_at_call 116
     (with_reducible refine (GC2.out _).mono ?_)
     rintro e w2 ⟨rfl, hb2⟩
     have BB := Lib.hid (BB.out.go hb2)
     have q0 := BB.out.now.1.cell
     have q1 := BB.out.now.1.cell1
     have q2 := BB.out.now.1.cell2
     go_wp2
     go_ret
     exact ⟨congrArg (fun b => Ending.returned (.bool b)) (by rw [HZ.out.1, HZ.out.2.1, HZ.out.2.2]; rfl), BB.out.below⟩
 refine Stps.cons (o := _) ?_ ?_
 · intro ac yw hsz hold hB hp K hK
   have t1 : ac.tmps[1]? = some (.pointer (some ⟨w.heap.size, 0, none⟩)) := hold 1 (by kernel_rfl)
   clear hold hp hsz
   go_simp
   exact hK.out _ _ ⟨hB, rfl, Nat.le_refl _, .inl (Below.refl _ _), fun h => absurd h (by decide)⟩
 refine Stps.cons (o := _) ?_ ?_
 · intro ac yw hsz hold hB hp K hK
   have e0 := hp 0 (by decide)
   have t3 : ac.tmps[3]? = some (.pointer (some ⟨w.heap.size, 1, none⟩)) := (List.cons.inj e0).1
   clear hold hp hsz e0
   have q0 := hB.now.1.cell
   have q1 := hB.now.1.cell1
   have q2 := hB.now.1.cell2
   go_simp
   exact hK.out _ _ ⟨hB, rfl, Nat.le_refl _, .inl (Below.refl _ _), fun h => absurd h (by decide)⟩
 refine Stps.cons (o := _) ?_ ?_
 · intro ac yw hsz hold hB hp K hK
   have e1 := hp 1 (by decide)
   have t4 : ac.tmps[4]? = some (.string s) := (List.cons.inj e1).1
   clear hold hp hsz e1
   go_simp
   (go_at_call 114; (with_reducible refine (R1.out _).mono ?_); rintro e wz ⟨rfl, rfl⟩; have hbz := Below.refl yw.heap.size yw)
   exact hK.out _ _ ⟨hB.go hbz, rfl, hbz.size, .inl hbz, fun h => absurd h (by decide)⟩
 refine Stps.cons (o := _) ?_ ?_
 · intro ac yw hsz hold hB hp K hK
   have e2 := hp 2 (by decide)
   have t5 : ac.tmps[5]? = some (.bool r1) := (List.cons.inj e2).1
   clear hold hp hsz e2
   go_simp
   exact hK.out _ _ ⟨hB, rfl, Nat.le_refl _, .inl (Below.refl _ _), fun h => absurd h (by decide)⟩
 refine Stps.cons (o := _) ?_ ?_
 · intro ac yw hsz hold hB hp K hK
   have e3 := hp 3 (by decide)
   have t6 : ac.tmps[6]? = some (.bool (!r1)) := (List.cons.inj e3).1
   clear hold hp hsz e3
   go_simp
   exact hK.out _ _ ⟨hB, rfl, Nat.le_refl _, .inl (Below.refl _ _), fun h => absurd h (by decide)⟩
 refine Stps.cons (o := _) ?_ ?_
 · intro ac yw hsz hold hB hp K hK
   have t7 : ac.tmps[7]? = some (.bool (!r1)) := (List.cons.inj (hp 4 (by decide))).1
   by_cases hc : ((!r1)) = false
   · rw [hc] at t7
     rw [if_pos (wanted_pos rfl rfl t7)]
     have t1 : ac.tmps[1]? = some (.pointer (some ⟨w.heap.size, 0, none⟩)) := hold 1 (by kernel_rfl)
     clear hold hp hsz
     go_simp
     exact hK.out _ _ ⟨hB, fun _ => rfl, Nat.le_refl _, .inl (Below.refl _ _), fun h => absurd h (by decide)⟩
   · rw [if_neg (by rw [wanted_neg rfl rfl t7 (fun e => hc (by injection e))]; decide)]
     exact hK.out _ _ ⟨hB, fun h => absurd h hc, Nat.le_refl _, .inl (Below.refl _ _), fun h => absurd h (by decide)⟩
 refine Stps.cons (o := _) ?_ ?_
 · intro ac yw hsz hold hB hp K hK
   have t7 : ac.tmps[7]? = some (.bool (!r1)) := (List.cons.inj (hp 4 (by decide))).1
   by_cases hc : ((!r1)) = false
   · rw [hc] at t7
     rw [if_pos (wanted_pos rfl rfl t7)]
     have e5 := hp 5 (by decide) hc
     have t8 : ac.tmps[8]? = some (.pointer (some ⟨w.heap.size, 2, none⟩)) := (List.cons.inj e5).1
     clear hold hp hsz e5
     have q0 := hB.now.1.cell
     have q1 := hB.now.1.cell1
     have q2 := hB.now.1.cell2
     go_simp
     exact hK.out _ _ ⟨hB, fun _ => rfl, Nat.le_refl _, .inl (Below.refl _ _), fun h => absurd h (by decide)⟩
   · rw [if_neg (by rw [wanted_neg rfl rfl t7 (fun e => hc (by injection e))]; decide)]
     exact hK.out _ _ ⟨hB, fun h => absurd h hc, Nat.le_refl _, .inl (Below.refl _ _), fun h => absurd h (by decide)⟩
 refine Stps.cons (o := _) ?_ ?_
 · intro ac yw hsz hold hB hp K hK
   have t7 : ac.tmps[7]? = some (.bool (!r1)) := (List.cons.inj (hp 4 (by decide))).1
   by_cases hc : ((!r1)) = false
   · rw [hc] at t7
     rw [if_pos (wanted_pos rfl rfl t7)]
     have e6 := hp 6 (by decide) hc
     have t9 : ac.tmps[9]? = some (.string t) := (List.cons.inj e6).1
     clear hold hp hsz e6
     go_simp
     (go_at_call 114; (with_reducible refine (R2.out _).mono ?_); rintro e wz ⟨rfl, rfl⟩; have hbz := Below.refl yw.heap.size yw)
     exact hK.out _ _ ⟨hB.go hbz, fun _ => rfl, hbz.size, .inl hbz, fun h => absurd h (by decide)⟩
   · rw [if_neg (by rw [wanted_neg rfl rfl t7 (fun e => hc (by injection e))]; decide)]
     exact hK.out _ _ ⟨hB, fun h => absurd h hc, Nat.le_refl _, .inl (Below.refl _ _), fun h => absurd h (by decide)⟩
 refine Stps.cons (o := _) ?_ ?_
 · intro ac yw hsz hold hB hp K hK
   have t7 : ac.tmps[7]? = some (.bool (!r1)) := (List.cons.inj (hp 4 (by decide))).1
   by_cases hc : ((!r1)) = false
   · rw [hc] at t7
     rw [if_pos (wanted_pos rfl rfl t7)]
     have e7 := hp 7 (by decide) hc
     have t10 : ac.tmps[10]? = some (.bool r2) := (List.cons.inj e7).1
     clear hold hp hsz e7
     go_simp
     exact hK.out _ _ ⟨hB, fun _ => rfl, Nat.le_refl _, .inl (Below.refl _ _), fun h => absurd h (by decide)⟩
   · rw [if_neg (by rw [wanted_neg rfl rfl t7 (fun e => hc (by injection e))]; decide)]
     exact hK.out _ _ ⟨hB, fun h => absurd h hc, Nat.le_refl _, .inl (Below.refl _ _), fun h => absurd h (by decide)⟩
 refine Stps.cons (o := _) ?_ ?_
 · intro ac yw hsz hold hB hp K hK
   have t7 : ac.tmps[7]? = some (.bool (!r1)) := (List.cons.inj (hp 4 (by decide))).1
   by_cases hc : ((!r1)) = true
   · rw [hc] at t7
     clear hold hp hsz
     go_simp
     exact hK.out _ _ ⟨hB, congrArg (fun b => [some (Value.bool b)]) (P1.out hc).symm, Nat.le_refl _, .inl (Below.refl _ _), fun h => absurd h (by decide)⟩
   · have hc : ((!r1)) = false := by simpa using hc
     rw [hc] at t7
     have t11 : ac.tmps[11]? = some (.bool (!r2)) := (List.cons.inj (hp 8 (by decide) hc)).1
     clear hold hp hsz
     go_simp
     exact hK.out _ _ ⟨hB, congrArg (fun b => [some (Value.bool b)]) (Q1.out hc).symm, Nat.le_refl _, .inl (Below.refl _ _), fun h => absurd h (by decide)⟩
 refine Stps.cons (o := _) ?_ ?_
 · intro ac yw hsz hold hB hp K hK
   have e9 := hp 9 (by decide)
   have t12 : ac.tmps[12]? = some (.bool x13) := (List.cons.inj e9).1
   clear hold hp hsz e9
   go_simp
   exact hK.out _ _ ⟨hB, rfl, Nat.le_refl _, .inl (Below.refl _ _), fun h => absurd h (by decide)⟩
 refine Stps.cons (o := _) ?_ ?_
 · intro ac yw hsz hold hB hp K hK
   have t13 : ac.tmps[13]? = some (.bool x13) := (List.cons.inj (hp 10 (by decide))).1
   by_cases hc : (x13) = false
   · rw [hc] at t13
     rw [if_pos (wanted_pos rfl rfl t13)]
     have t1 : ac.tmps[1]? = some (.pointer (some ⟨w.heap.size, 0, none⟩)) := hold 1 (by kernel_rfl)
     clear hold hp hsz
     go_simp
     exact hK.out _ _ ⟨hB, fun _ => rfl, Nat.le_refl _, .inl (Below.refl _ _), fun h => absurd h (by decide)⟩
   · rw [if_neg (by rw [wanted_neg rfl rfl t13 (fun e => hc (by injection e))]; decide)]
     exact hK.out _ _ ⟨hB, fun h => absurd h hc, Nat.le_refl _, .inl (Below.refl _ _), fun h => absurd h (by decide)⟩
 refine Stps.cons (o := _) ?_ ?_
 · intro ac yw hsz hold hB hp K hK
   have t13 : ac.tmps[13]? = some (.bool x13) := (List.cons.inj (hp 10 (by decide))).1
   by_cases hc : (x13) = false
   · rw [hc] at t13
     rw [if_pos (wanted_pos rfl rfl t13)]
     have e11 := hp 11 (by decide) hc
     have t14 : ac.tmps[14]? = some (.pointer (some ⟨w.heap.size, 1, none⟩)) := (List.cons.inj e11).1
     clear hold hp hsz e11
     have q0 := hB.now.1.cell
     have q1 := hB.now.1.cell1
     have q2 := hB.now.1.cell2
     go_simp
     exact hK.out _ _ ⟨hB, fun _ => rfl, Nat.le_refl _, .inl (Below.refl _ _), fun h => absurd h (by decide)⟩
   · rw [if_neg (by rw [wanted_neg rfl rfl t13 (fun e => hc (by injection e))]; decide)]
     exact hK.out _ _ ⟨hB, fun h => absurd h hc, Nat.le_refl _, .inl (Below.refl _ _), fun h => absurd h (by decide)⟩
 refine Stps.cons (o := _) ?_ ?_
 · intro ac yw hsz hold hB hp K hK
   have t13 : ac.tmps[13]? = some (.bool x13) := (List.cons.inj (hp 10 (by decide))).1
   by_cases hc : (x13) = false
   · rw [hc] at t13
     rw [if_pos (wanted_pos rfl rfl t13)]
     have e12 := hp 12 (by decide) hc
     have t15 : ac.tmps[15]? = some (.string s) := (List.cons.inj e12).1
     clear hold hp hsz e12
     go_simp
     (go_at_call 115; (with_reducible refine (T1.out _ (N1.out hc)).mono ?_); rintro e wz ⟨rfl, rfl⟩; have hbz := Below.refl yw.heap.size yw)
     exact hK.out _ _ ⟨hB.go hbz, fun _ => rfl, hbz.size, .inl hbz, fun h => absurd h (by decide)⟩
   · rw [if_neg (by rw [wanted_neg rfl rfl t13 (fun e => hc (by injection e))]; decide)]
     exact hK.out _ _ ⟨hB, fun h => absurd h hc, Nat.le_refl _, .inl (Below.refl _ _), fun h => absurd h (by decide)⟩
 refine Stps.cons (o := _) ?_ ?_
 · intro ac yw hsz hold hB hp K hK
   have t13 : ac.tmps[13]? = some (.bool x13) := (List.cons.inj (hp 10 (by decide))).1
   by_cases hc : (x13) = false
   · rw [hc] at t13
     rw [if_pos (wanted_pos rfl rfl t13)]
     have t1 : ac.tmps[1]? = some (.pointer (some ⟨w.heap.size, 0, none⟩)) := hold 1 (by kernel_rfl)
     clear hold hp hsz
     go_simp
     exact hK.out _ _ ⟨hB, fun _ => rfl, Nat.le_refl _, .inl (Below.refl _ _), fun h => absurd h (by decide)⟩
   · rw [if_neg (by rw [wanted_neg rfl rfl t13 (fun e => hc (by injection e))]; decide)]
     exact hK.out _ _ ⟨hB, fun h => absurd h hc, Nat.le_refl _, .inl (Below.refl _ _), fun h => absurd h (by decide)⟩
 refine Stps.cons (o := _) ?_ ?_
 · intro ac yw hsz hold hB hp K hK
   have t13 : ac.tmps[13]? = some (.bool x13) := (List.cons.inj (hp 10 (by decide))).1
   by_cases hc : (x13) = false
   · rw [hc] at t13
     rw [if_pos (wanted_pos rfl rfl t13)]
     have e14 := hp 14 (by decide) hc
     have t17 : ac.tmps[17]? = some (.pointer (some ⟨w.heap.size, 1, none⟩)) := (List.cons.inj e14).1
     clear hold hp hsz e14
     have q0 := hB.now.1.cell
     have q1 := hB.now.1.cell1
     have q2 := hB.now.1.cell2
     go_simp
     exact hK.out _ _ ⟨hB, fun _ => rfl, Nat.le_refl _, .inl (Below.refl _ _), fun h => absurd h (by decide)⟩
   · rw [if_neg (by rw [wanted_neg rfl rfl t13 (fun e => hc (by injection e))]; decide)]
     exact hK.out _ _ ⟨hB, fun h => absurd h hc, Nat.le_refl _, .inl (Below.refl _ _), fun h => absurd h (by decide)⟩
 refine Stps.cons (o := _) ?_ ?_
 · intro ac yw hsz hold hB hp K hK
   have t13 : ac.tmps[13]? = some (.bool x13) := (List.cons.inj (hp 10 (by decide))).1
   by_cases hc : (x13) = false
   · rw [hc] at t13
     rw [if_pos (wanted_pos rfl rfl t13)]
     have e13 := hp 13 (by decide) hc
     have t16 : ac.tmps[16]? = some (.string s1) := (List.cons.inj e13).1
     have e15 := hp 15 (by decide) hc
     have t18 : ac.tmps[18]? = some (.string s) := (List.cons.inj e15).1
     clear hold hp hsz e13 e15
     go_simp
     exact hK.out _ _ ⟨hB, fun _ => rfl, Nat.le_refl _, .inl (Below.refl _ _), fun h => absurd h (by decide)⟩
   · rw [if_neg (by rw [wanted_neg rfl rfl t13 (fun e => hc (by injection e))]; decide)]
     exact hK.out _ _ ⟨hB, fun h => absurd h hc, Nat.le_refl _, .inl (Below.refl _ _), fun h => absurd h (by decide)⟩
 refine Stps.cons (o := _) ?_ ?_
 · intro ac yw hsz hold hB hp K hK
   have t13 : ac.tmps[13]? = some (.bool x13) := (List.cons.inj (hp 10 (by decide))).1
   by_cases hc : (x13) = true
   · rw [hc] at t13
     clear hold hp hsz
     go_simp
     exact hK.out _ _ ⟨hB, congrArg (fun b => [some (Value.bool b)]) (P2.out hc).symm, Nat.le_refl _, .inl (Below.refl _ _), fun h => absurd h (by decide)⟩
   · have hc : (x13) = false := by simpa using hc
     rw [hc] at t13
     have t19 : ac.tmps[19]? = some (.bool (!e1)) := (List.cons.inj (hp 16 (by decide) hc)).1
     clear hold hp hsz
     go_simp
     exact hK.out _ _ ⟨hB, congrArg (fun b => [some (Value.bool b)]) (Q2.out hc).symm, Nat.le_refl _, .inl (Below.refl _ _), fun h => absurd h (by decide)⟩
 refine Stps.cons (o := _) ?_ ?_
 · intro ac yw hsz hold hB hp K hK
   have e17 := hp 17 (by decide)
   have t20 : ac.tmps[20]? = some (.bool x21) := (List.cons.inj e17).1
   clear hold hp hsz e17
   go_simp
   exact hK.out _ _ ⟨hB, rfl, Nat.le_refl _, .inl (Below.refl _ _), fun h => absurd h (by decide)⟩
 refine Stps.cons (o := _) ?_ ?_
 · intro ac yw hsz hold hB hp K hK
   have t21 : ac.tmps[21]? = some (.bool x21) := (List.cons.inj (hp 18 (by decide))).1
   by_cases hc : (x21) = false
   · rw [hc] at t21
     rw [if_pos (wanted_pos rfl rfl t21)]
     have t1 : ac.tmps[1]? = some (.pointer (some ⟨w.heap.size, 0, none⟩)) := hold 1 (by kernel_rfl)
     clear hold hp hsz
     go_simp
     exact hK.out _ _ ⟨hB, fun _ => rfl, Nat.le_refl _, .inl (Below.refl _ _), fun h => absurd h (by decide)⟩
   · rw [if_neg (by rw [wanted_neg rfl rfl t21 (fun e => hc (by injection e))]; decide)]
     exact hK.out _ _ ⟨hB, fun h => absurd h hc, Nat.le_refl _, .inl (Below.refl _ _), fun h => absurd h (by decide)⟩
 refine Stps.cons (o := _) ?_ ?_
 · intro ac yw hsz hold hB hp K hK
   have t21 : ac.tmps[21]? = some (.bool x21) := (List.cons.inj (hp 18 (by decide))).1
   by_cases hc : (x21) = false
   · rw [hc] at t21
     rw [if_pos (wanted_pos rfl rfl t21)]
     have e19 := hp 19 (by decide) hc
     have t22 : ac.tmps[22]? = some (.pointer (some ⟨w.heap.size, 2, none⟩)) := (List.cons.inj e19).1
     clear hold hp hsz e19
     have q0 := hB.now.1.cell
     have q1 := hB.now.1.cell1
     have q2 := hB.now.1.cell2
     go_simp
     exact hK.out _ _ ⟨hB, fun _ => rfl, Nat.le_refl _, .inl (Below.refl _ _), fun h => absurd h (by decide)⟩
   · rw [if_neg (by rw [wanted_neg rfl rfl t21 (fun e => hc (by injection e))]; decide)]
     exact hK.out _ _ ⟨hB, fun h => absurd h hc, Nat.le_refl _, .inl (Below.refl _ _), fun h => absurd h (by decide)⟩
 refine Stps.cons (o := _) ?_ ?_
 · intro ac yw hsz hold hB hp K hK
   have t21 : ac.tmps[21]? = some (.bool x21) := (List.cons.inj (hp 18 (by decide))).1
   by_cases hc : (x21) = false
   · rw [hc] at t21
     rw [if_pos (wanted_pos rfl rfl t21)]
     have e20 := hp 20 (by decide) hc
     have t23 : ac.tmps[23]? = some (.string t) := (List.cons.inj e20).1
     clear hold hp hsz e20
     go_simp
     (go_at_call 115; (with_reducible refine (T2.out _ (N2.out hc)).mono ?_); rintro e wz ⟨rfl, rfl⟩; have hbz := Below.refl yw.heap.size yw)
     exact hK.out _ _ ⟨hB.go hbz, fun _ => rfl, hbz.size, .inl hbz, fun h => absurd h (by decide)⟩
   · rw [if_neg (by rw [wanted_neg rfl rfl t21 (fun e => hc (by injection e))]; decide)]
     exact hK.out _ _ ⟨hB, fun h => absurd h hc, Nat.le_refl _, .inl (Below.refl _ _), fun h => absurd h (by decide)⟩
 refine Stps.cons (o := _) ?_ ?_
 · intro ac yw hsz hold hB hp K hK
   have t21 : ac.tmps[21]? = some (.bool x21) := (List.cons.inj (hp 18 (by decide))).1
   by_cases hc : (x21) = false
   · rw [hc] at t21
     rw [if_pos (wanted_pos rfl rfl t21)]
     have t1 : ac.tmps[1]? = some (.pointer (some ⟨w.heap.size, 0, none⟩)) := hold 1 (by kernel_rfl)
     clear hold hp hsz
     go_simp
     exact hK.out _ _ ⟨hB, fun _ => rfl, Nat.le_refl _, .inl (Below.refl _ _), fun h => absurd h (by decide)⟩
   · rw [if_neg (by rw [wanted_neg rfl rfl t21 (fun e => hc (by injection e))]; decide)]
     exact hK.out _ _ ⟨hB, fun h => absurd h hc, Nat.le_refl _, .inl (Below.refl _ _), fun h => absurd h (by decide)⟩
 refine Stps.cons (o := _) ?_ ?_
 · intro ac yw hsz hold hB hp K hK
   have t21 : ac.tmps[21]? = some (.bool x21) := (List.cons.inj (hp 18 (by decide))).1
   by_cases hc : (x21) = false
   · rw [hc] at t21
     rw [if_pos (wanted_pos rfl rfl t21)]
     have e22 := hp 22 (by decide) hc
     have t25 : ac.tmps[25]? = some (.pointer (some ⟨w.heap.size, 2, none⟩)) := (List.cons.inj e22).1
     clear hold hp hsz e22
     have q0 := hB.now.1.cell
     have q1 := hB.now.1.cell1
     have q2 := hB.now.1.cell2
     go_simp
     exact hK.out _ _ ⟨hB, fun _ => rfl, Nat.le_refl _, .inl (Below.refl _ _), fun h => absurd h (by decide)⟩
   · rw [if_neg (by rw [wanted_neg rfl rfl t21 (fun e => hc (by injection e))]; decide)]
     exact hK.out _ _ ⟨hB, fun h => absurd h hc, Nat.le_refl _, .inl (Below.refl _ _), fun h => absurd h (by decide)⟩
 refine Stps.cons (o := _) ?_ ?_
 · intro ac yw hsz hold hB hp K hK
   have t21 : ac.tmps[21]? = some (.bool x21) := (List.cons.inj (hp 18 (by decide))).1
   by_cases hc : (x21) = false
   · rw [hc] at t21
     rw [if_pos (wanted_pos rfl rfl t21)]
     have e21 := hp 21 (by decide) hc
     have t24 : ac.tmps[24]? = some (.string t1) := (List.cons.inj e21).1
     have e23 := hp 23 (by decide) hc
     have t26 : ac.tmps[26]? = some (.string t) := (List.cons.inj e23).1
     clear hold hp hsz e21 e23
     go_simp
     exact hK.out _ _ ⟨hB, fun _ => rfl, Nat.le_refl _, .inl (Below.refl _ _), fun h => absurd h (by decide)⟩
   · rw [if_neg (by rw [wanted_neg rfl rfl t21 (fun e => hc (by injection e))]; decide)]
     exact hK.out _ _ ⟨hB, fun h => absurd h hc, Nat.le_refl _, .inl (Below.refl _ _), fun h => absurd h (by decide)⟩
 refine Stps.cons (o := _) ?_ ?_
 · intro ac yw hsz hold hB hp K hK
   have t21 : ac.tmps[21]? = some (.bool x21) := (List.cons.inj (hp 18 (by decide))).1
   by_cases hc : (x21) = true
   · rw [hc] at t21
     clear hold hp hsz
     go_simp
     exact hK.out _ _ ⟨hB, congrArg (fun b => [some (Value.bool b)]) (P3.out hc).symm, Nat.le_refl _, .inl (Below.refl _ _), fun h => absurd h (by decide)⟩
   · have hc : (x21) = false := by simpa using hc
     rw [hc] at t21
     have t27 : ac.tmps[27]? = some (.bool (!e2)) := (List.cons.inj (hp 24 (by decide) hc)).1
     clear hold hp hsz
     go_simp
     exact hK.out _ _ ⟨hB, congrArg (fun b => [some (Value.bool b)]) (Q3.out hc).symm, Nat.le_refl _, .inl (Below.refl _ _), fun h => absurd h (by decide)⟩
 refine Stps.cons (o := _) ?_ ?_
 · intro ac yw hsz hold hB hp K hK
   have e25 := hp 25 (by decide)
   have t28 : ac.tmps[28]? = some (.bool x29) := (List.cons.inj e25).1
   clear hold hp hsz e25
   go_simp
   exact hK.out _ _ ⟨hB, rfl, Nat.le_refl _, .inl (Below.refl _ _), fun h => absurd h (by decide)⟩
 refine Stps.cons (o := _) ?_ ?_
 · intro ac yw hsz hold hB hp K hK
   have t29 : ac.tmps[29]? = some (.bool x29) := (List.cons.inj (hp 26 (by decide))).1
   by_cases hc : (x29) = false
   · rw [hc] at t29
     rw [if_pos (wanted_pos rfl rfl t29)]
     have t1 : ac.tmps[1]? = some (.pointer (some ⟨w.heap.size, 0, none⟩)) := hold 1 (by kernel_rfl)
     clear hold hp hsz
     go_simp
     exact hK.out _ _ ⟨hB, fun _ => rfl, Nat.le_refl _, .inl (Below.refl _ _), fun h => absurd h (by decide)⟩
   · rw [if_neg (by rw [wanted_neg rfl rfl t29 (fun e => hc (by injection e))]; decide)]
     exact hK.out _ _ ⟨hB, fun h => absurd h hc, Nat.le_refl _, .inl (Below.refl _ _), fun h => absurd h (by decide)⟩
 refine Stps.cons (o := _) ?_ ?_
 · intro ac yw hsz hold hB hp K hK
   have t29 : ac.tmps[29]? = some (.bool x29) := (List.cons.inj (hp 26 (by decide))).1
   by_cases hc : (x29) = false
   · rw [hc] at t29
     rw [if_pos (wanted_pos rfl rfl t29)]
     have e27 := hp 27 (by decide) hc
     have t30 : ac.tmps[30]? = some (.pointer (some ⟨w.heap.size, 2, none⟩)) := (List.cons.inj e27).1
     clear hold hp hsz e27
     have q0 := hB.now.1.cell
     have q1 := hB.now.1.cell1
     have q2 := hB.now.1.cell2
     go_simp
     exact hK.out _ _ ⟨hB, fun _ => rfl, Nat.le_refl _, .inl (Below.refl _ _), fun h => absurd h (by decide)⟩
   · rw [if_neg (by rw [wanted_neg rfl rfl t29 (fun e => hc (by injection e))]; decide)]
     exact hK.out _ _ ⟨hB, fun h => absurd h hc, Nat.le_refl _, .inl (Below.refl _ _), fun h => absurd h (by decide)⟩
 refine Stps.cons (o := _) ?_ ?_
 · intro ac yw hsz hold hB hp K hK
   have t29 : ac.tmps[29]? = some (.bool x29) := (List.cons.inj (hp 26 (by decide))).1
   by_cases hc : (x29) = false
   · rw [hc] at t29
     rw [if_pos (wanted_pos rfl rfl t29)]
     have e28 := hp 28 (by decide) hc
     have t31 : ac.tmps[31]? = some (.string t) := (List.cons.inj e28).1
     clear hold hp hsz e28
     go_simp
     exact hK.out _ _ ⟨hB, fun _ => rfl, Nat.le_refl _, .inl (Below.refl _ _), fun h => absurd h (by decide)⟩
   · rw [if_neg (by rw [wanted_neg rfl rfl t29 (fun e => hc (by injection e))]; decide)]
     exact hK.out _ _ ⟨hB, fun h => absurd h hc, Nat.le_refl _, .inl (Below.refl _ _), fun h => absurd h (by decide)⟩
 refine Stps.cons (o := _) ?_ ?_
 · intro ac yw hsz hold hB hp K hK
   have t29 : ac.tmps[29]? = some (.bool x29) := (List.cons.inj (hp 26 (by decide))).1
   by_cases hc : (x29) = true
   · rw [hc] at t29
     clear hold hp hsz
     go_simp
     exact hK.out _ _ ⟨hB, congrArg (fun b => [some (Value.bool b)]) (P4.out hc).symm, Nat.le_refl _, .inl (Below.refl _ _), fun h => absurd h (by decide)⟩
   · have hc : (x29) = false := by simpa using hc
     rw [hc] at t29
     have t32 : ac.tmps[32]? = some (.bool z) := (List.cons.inj (hp 29 (by decide) hc)).1
     clear hold hp hsz
     go_simp
     exact hK.out _ _ ⟨hB, congrArg (fun b => [some (Value.bool b)]) (Q4.out hc).symm, Nat.le_refl _, .inl (Below.refl _ _), fun h => absurd h (by decide)⟩
 exact Stps.nil _
end Go.Proofs.YtnpoakaffafdiaaGreatDoor
