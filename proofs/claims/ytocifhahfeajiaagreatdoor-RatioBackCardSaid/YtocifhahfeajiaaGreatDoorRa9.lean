/-
  Package ratio: Times, by contract.
-/
import Derived.Test.YtocifhahfeajiaaGreatDoorRa8
namespace Go.Proofs.YtocifhahfeajiaaGreatDoor
open Go.RowKit
attribute [local go_sem ↓] Go.wp_at_zero Go.wp_at_succ

/-- The product. -/
def tmP (P : Int) (Q : Nat) (P' : Int) (Q' : Nat) : Int := loP (P * P') (Q * Q')
def tmQ (P : Int) (Q : Nat) (P' : Int) (Q' : Nat) : Nat := loQ (P * P') (Q * Q')
/-- The product of the first ones. -/
def mulS (P : Int) (Q : Nat) (fP : Nat → Int) (fQ : Nat → Nat) : Nat → Int × Nat
  | 0 => (P, Q)
  | k + 1 => (tmP (mulS P Q fP fQ k).1 (mulS P Q fP fQ k).2 (fP k) (fQ k), tmQ (mulS P Q fP fQ k).1 (mulS P Q fP fQ k).2 (fP k) (fQ k))
theorem mulS_pos {P : Int} {Q : Nat} {fP : Nat → Int} {fQ : Nat → Nat} (hQ : 0 < Q) : ∀ k, (∀ j, j < k → 0 < fQ j) → 0 < (mulS P Q fP fQ k).2
  | 0, _ => hQ
  | k + 1, h => loQ_pos _ (Nat.mul_pos (mulS_pos hQ k fun j hj => h j (by omega)) (h k (by omega)))
theorem mulI_lt32 {X Y : Int} {K : Nat} (h : X.natAbs < 4294967296 ^ K) (g : Y.natAbs < 4294967296 ^ K) : (X * Y).natAbs < 4294967296 ^ (K + K) := by
  rw [Int.natAbs_mul]; exact mul_lt32 h g

set_option linter.unusedSimpArgs false in
set_option maxHeartbeats 12800000 in
set_option maxRecDepth 100000 in
theorem ratTimes_any (a : Option Addr) (n c : Nat) (m : Bool) (a2 : Option Addr) (n2 c2 : Nat) (P : Int) (Q : Nat) (sa : Option Addr) (ln lc : Nat) (fP : Nat → Int) (fQ : Nat → Nat) (w : World) (h : RatAt w a n c m a2 n2 c2 P Q) (g : RatsAt w sa ln lc fP fQ)
    (hQ : 0 < Q) (hfQ : ∀ j, j < ln → 0 < fQ j) (K : Nat) (hK : K ≤ 200000)
    (hb : ∀ k, k < ln → (mulS P Q fP fQ k).1.natAbs < 4294967296 ^ K ∧ (mulS P Q fP fQ k).2 < 4294967296 ^ K ∧ (fP k).natAbs < 4294967296 ^ K ∧ fQ k < 4294967296 ^ K) :
    Calls Tryz.prog 9 #[.agg #[.slice a n c, .bool m, .slice a2 n2 c2], .slice sa ln lc] w fun e w' => RatTold w w' e (mulS P Q fP fQ ln).1 (mulS P Q fP fQ ln).2 := by
  have B0 := (((((Bag.start w).rat h).box3 (.slice a n c) (.bool m) (.slice a2 n2 c2) 30).box3 (.slice none 0 0) (.bool false) (.slice none 0 0) 30)).box3 (.slice a n c) (.bool m) (.slice a2 n2 c2) 30
  simp only [World.size_alloc] at B0
  have H0 : Hid (RPL w _ (mulS P Q fP fQ 0)) := ⟨B0.below, B0.now.2.1, a, n, c, m, a2, n2, c2, B0.now.1, B0.now.2.2.2.1⟩
  have q0 := B0.now.2.2.1.cell
  have q1 := B0.now.2.2.1.cell1
  have q2 := B0.now.2.2.1.cell2
  have HG := Lib.hid g
  have hln : ln ≤ 1000 ∧ ln ≤ lc := ⟨g.2.1, g.1⟩
  have HB := Lib.hid hb
  have HPs : Hid (∀ k, k ≤ ln → 0 < (mulS P Q fP fQ k).2) := fun k hk => mulS_pos hQ k fun j hj => hfQ j (by omega)
  have HF := Lib.hid hfQ
  clear B0 h g hb hQ hfQ
  go_enter Tryz.func9, Tryz.ntmps9
  go_wp2
  go_loopw [11] (fun i wr => ∃ k : Nat, k ≤ ln ∧ i = .int .i64 k ∧ RPL w wr (mulS P Q fP fQ k)) (fun i _ => ln - (intOf i).toNat)
  case atStart => exact ⟨0, by omega, rfl, H0.out⟩
  case round =>
    obtain ⟨k, hk, rfl, hr⟩ := hrel
    by_cases hlt : k < ln
    · obtain ⟨hbl, hrs, a3, n3, c3, m3, a4, n4, c4, hs3, hi3⟩ := hr
      obtain ⟨b, off, a1, n1, c1, m1, a2', n2', c2', rfl, hlb, e1, e2, e3, hi'⟩ := (HG.out.below hbl).get hlt
      have B1 := ((((Bag.start w).go hbl).rat hi3).rat hi').slot3 hrs |>.box3 (.slice a1 n1 c1) (.bool m1) (.slice a2' n2' c2') 30
      have HBK := HB.out k hlt
      have hp1 := HPs.out k (by omega)
      have hp2 := HF.out k hlt
      have BT := Lib.hid (fun wz (h : RatAt wz a3 n3 c3 m3 a4 n4 c4 (mulS P Q fP fQ k).1 (mulS P Q fP fQ k).2) => bot_any a3 n3 c3 m3 a4 n4 c4 _ _ wz h hp1)
      have BT' := Lib.hid (fun wz (h : RatAt wz a1 n1 c1 m1 a2' n2' c2' (fP k) (fQ k)) => bot_any a1 n1 c1 m1 a2' n2' c2' _ _ wz h hp2)
      have T1 := Lib.hid (fun sa wz (h : IntAt wz a3 n3 c3 m3 (mulS P Q fP fQ k).1) (g : IntsAt wz sa 1 1 (fun _ => fP k)) => times1_any a3 n3 c3 m3 _ sa (fP k) wz h g K (by omega) HBK.1 HBK.2.2.1)
      have ML : Hid (∀ a n c b k' l wz, NatIs wz (.agg #[.slice a n c]) (mulS P Q fP fQ k).2 → NatIs wz (.agg #[.slice b k' l]) (fQ k) → Calls Tryz.prog 35 #[.agg #[.slice a n c], .agg #[.slice b k' l]] wz fun e w' => NatTold wz w' e ((mulS P Q fP fQ k).2 * fQ k)) := fun a n c b k' l wz h g => (mul_any _ _ _ _ wz h g K (by omega) HBK.2.1 HBK.2.2.2).mono fun _ _ h => h.told
      have LW := Lib.hid (fun a n c m a2 n2 c2 wz (h : IntAt wz a n c m ((mulS P Q fP fQ k).1 * fP k)) (g : NatIs wz (.agg #[.slice a2 n2 c2]) ((mulS P Q fP fQ k).2 * fQ k)) => lowest_any a n c m _ a2 n2 c2 _ wz h g (Nat.mul_pos hp1 hp2) (K + K) (by omega) (mulI_lt32 HBK.1 HBK.2.2.1) (mul_lt32 HBK.2.1 HBK.2.2.2))
      rw [show loP ((mulS P Q fP fQ k).1 * fP k) ((mulS P Q fP fQ k).2 * fQ k) = (mulS P Q fP fQ (k + 1)).1 from rfl, show loQ ((mulS P Q fP fQ k).1 * fP k) ((mulS P Q fP fQ k).2 * fQ k) = (mulS P Q fP fQ (k + 1)).2 from rfl] at LW
      have HBL := Lib.hid hbl
      have BB := Lib.hid B1
      have sT0 := hs3.below ((Below.refl _ _).alloc (Nat.le_refl _) (.cells #[.slice a1 n1 c1, .bool m1, .slice a2' n2' c2'] 30))
      have hwr : w.heap.size + 1 + 1 < wr.heap.size := hs3.lt
      have hne : w.heap.size + 1 + 1 ≠ wr.heap.size := by omega
      generalize hV1 : (mulS P Q fP fQ k).1 = V1 at *
      generalize hV2 : (mulS P Q fP fQ k).2 = V2 at *
      generalize fP k = P' at *
      generalize fQ k = Q' at *
      generalize V1 * P' = X at *
      generalize V2 * Q' = Y at *
      generalize hW : mulS P Q fP fQ (k + 1) = W at *
      clear hbl hrs hi3 hi' B1 HBK hs3 q0 q1 q2 hp1 hp2 hV1 hV2
      go_wp2_with fail
      have HP : Hid (∀ (y : World) (x0 : Option Addr) (y0 z0 : Nat) (b0 : Bool) (x1 : Option Addr) (y1 z1 : Nat), Slot3 y (w.heap.size + 1 + 1) (.slice x0 y0 z0) (.bool b0) (.slice x1 y1 z1) → Bag w (fun y => Slot3 y wr.heap.size (.slice a1 n1 c1) (.bool m1) (.slice a2' n2' c2') ∧ Slot3 y (w.heap.size + 1) (.slice none 0 0) (.bool false) (.slice none 0 0) ∧ RatAt y a1 n1 c1 m1 a2' n2' c2' P' Q' ∧ RatAt y a3 n3 c3 m3 a4 n4 c4 V1 V2 ∧ True) y → ∀ (a9 : Option Addr) (n9 c9 : Nat) (m9 : Bool) (a10 : Option Addr) (n10 c10 : Nat),
          Bag w (fun y => Slot3 y wr.heap.size (.slice a1 n1 c1) (.bool m1) (.slice a2' n2' c2') ∧ Slot3 y (w.heap.size + 1) (.slice none 0 0) (.bool false) (.slice none 0 0) ∧ RatAt y a1 n1 c1 m1 a2' n2' c2' P' Q' ∧ RatAt y a3 n3 c3 m3 a4 n4 c4 V1 V2 ∧ True) (((y.setCell ⟨w.heap.size + 1 + 1, 0, none⟩ (.slice a9 n9 c9)).setCell ⟨w.heap.size + 1 + 1, 1, none⟩ (.bool m9)).setCell ⟨w.heap.size + 1 + 1, 2, none⟩ (.slice a10 n10 c10))) := by
        intro y x0 y0 z0 b0 x1 y1 z1 s B a9 n9 c9 m9 a10 n10 c10
        have hx : ∀ (x : Option Addr) (y z : Nat) (ki : IntKind) (i : Int), (Value.slice x y z) ≠ .int ki i := fun _ _ _ _ _ h => by cases h
        have hb : ∀ (x : Bool) (ki : IntKind) (i : Int), (Value.bool x) ≠ .int ki i := fun _ _ _ h => by cases h
        have q := B.now
        exact ⟨((B.below.setCell (p := ⟨w.heap.size + 1 + 1, 0, none⟩) (show w.heap.size ≤ w.heap.size + 1 + 1 by omega) _).setCell (p := ⟨w.heap.size + 1 + 1, 1, none⟩) (show w.heap.size ≤ w.heap.size + 1 + 1 by omega) _).setCell (p := ⟨w.heap.size + 1 + 1, 2, none⟩) (show w.heap.size ≤ w.heap.size + 1 + 1 by omega) _, B.stay,
          q.1.set3o (by omega) _ _ _, q.2.1.set3o (by omega) _ _ _,
          ⟨⟨q.2.2.1.int.1, q.2.2.1.int.nt.set3 s (hx _ _ _) (hb _) (hx _ _ _) _ _ _⟩, q.2.2.1.low.set3 s (hx _ _ _) (hb _) (hx _ _ _) _ _ _⟩,
          ⟨⟨q.2.2.2.1.int.1, q.2.2.2.1.int.nt.set3 s (hx _ _ _) (hb _) (hx _ _ _) _ _ _⟩, q.2.2.2.1.low.set3 s (hx _ _ _) (hb _) (hx _ _ _) _ _ _⟩, trivial⟩
      have HQ : Hid (∀ (y : World) (x0 : Option Addr) (y0 z0 : Nat) (b0 : Bool) (x1 : Option Addr) (y1 z1 : Nat), Slot3 y (w.heap.size + 1 + 1) (.slice x0 y0 z0) (.bool b0) (.slice x1 y1 z1) → Bag w (fun y => Slot3 y wr.heap.size (.slice a1 n1 c1) (.bool m1) (.slice a2' n2' c2') ∧ Slot3 y (w.heap.size + 1) (.slice none 0 0) (.bool false) (.slice none 0 0) ∧ RatAt y a1 n1 c1 m1 a2' n2' c2' P' Q' ∧ RatAt y a3 n3 c3 m3 a4 n4 c4 V1 V2 ∧ True) y → ∀ (a9 : Option Addr) (n9 c9 : Nat) (m9 : Bool) (a10 : Option Addr) (n10 c10 : Nat), RatAt y a9 n9 c9 m9 a10 n10 c10 W.1 W.2 →
          RPL w (((y.setCell ⟨w.heap.size + 1 + 1, 0, none⟩ (.slice a9 n9 c9)).setCell ⟨w.heap.size + 1 + 1, 1, none⟩ (.bool m9)).setCell ⟨w.heap.size + 1 + 1, 2, none⟩ (.slice a10 n10 c10)) W) := by
        intro y x0 y0 z0 b0 x1 y1 z1 s B a9 n9 c9 m9 a10 n10 c10 hr
        have hd := RatTold.done (w := w) (k := w.heap.size + 1 + 1) B.below (by omega) s hr
        obtain ⟨z1, z2, z3, z4, z5, z6, z7, he, hr2, hbx⟩ := hd
        cases he
        exact ⟨hbx, B.now.2.1.set3o (by omega) _ _ _, a9, n9, c9, m9, a10, n10, c10, (s.set2 (.slice a9 n9 c9) (.bool m9)).set1 (.slice a10 n10 c10), hr2⟩
      have HC : Hid (∀ y, (fun y => Slot3 y wr.heap.size (.slice a1 n1 c1) (.bool m1) (.slice a2' n2' c2') ∧ Slot3 y (w.heap.size + 1) (.slice none 0 0) (.bool false) (.slice none 0 0) ∧ RatAt y a1 n1 c1 m1 a2' n2' c2' P' Q' ∧ RatAt y a3 n3 c3 m3 a4 n4 c4 V1 V2 ∧ True) y → (y.cell? ⟨wr.heap.size, 0, none⟩ = some (.slice a1 n1 c1) ∧ y.cell? ⟨wr.heap.size, 1, none⟩ = some (.bool m1) ∧ y.cell? ⟨wr.heap.size, 2, none⟩ = some (.slice a2' n2' c2'))) := fun y h => ⟨h.1.cell, h.1.cell1, h.1.cell2⟩
      refine wp_capture (fun R hR => ?_)
      have TL : ∀ (p4 : Nat) (a5 : Option Addr) (n5 c5 : Nat) (m5 : Bool) (a6 : Option Addr) (n6 c6 : Nat) (a7 : Option Addr) (n7 c7 : Nat) (a8 : Option Addr) (n8 c8 : Nat) (a9 : Option Addr) (n9 c9 : Nat) (m9 : Bool) (a10 : Option Addr) (n10 c10 : Nat) (wy : World), RPL w wy W → R .normal { tmps := #[Value.agg #[Value.slice a n c, Value.bool m, Value.slice a2 n2 c2], Value.slice (some { block := b, off := off }) ln lc, Value.pointer (some { block := w.heap.size, off := 0 }), undef, Value.pointer (some { block := w.heap.size + 1, off := 0 }), Value.pointer (some { block := w.heap.size + 1 + 1, off := 0 }), undef, Value.pointer (some { block := wr.heap.size, off := 0 }), Value.agg #[Value.slice a n c, Value.bool m, Value.slice a2 n2 c2], Value.slice (some { block := b, off := off }) ln lc, Value.int IntKind.i64 ↑ln, Value.int IntKind.i64 ↑k, Value.bool true, Value.pointer (some { block := b, off := off + k * 3 }), Value.agg #[Value.slice a1 n1 c1, Value.bool m1, Value.slice a2' n2' c2'], Value.pointer (some { block := w.heap.size + 1 + 1, off := 0 }), Value.agg #[Value.slice a3 n3 c3, Value.bool m3], Value.pointer (some { block := wr.heap.size, off := 0 }), Value.agg #[Value.slice a1 n1 c1, Value.bool m1], Value.slice (some { block := p4, off := 0 }) 1 1, Value.agg #[Value.slice a5 n5 c5, Value.bool m5], Value.agg #[Value.slice a3 n3 c3, Value.bool m3, Value.slice a4 n4 c4], Value.agg #[Value.slice a6 n6 c6], Value.agg #[Value.slice a1 n1 c1, Value.bool m1, Value.slice a2' n2' c2'], Value.agg #[Value.slice a7 n7 c7], Value.agg #[Value.slice a8 n8 c8], Value.agg #[Value.slice a9 n9 c9, Value.bool m9, Value.slice a10 n10 c10], u27, undef], defers := [] } wy := by
        intro p4 a5 n5 c5 m5 a6 n6 c6 a7 n7 c7 a8 n8 c8 a9 n9 c9 m9 a10 n10 c10 wy hRP
        rw [hR]
        have HN := Lib.hid hRP
        clear hRP
        go_wp2
        go_roundw
        case rel => exact ⟨k + 1, by omega, by go_num, hW ▸ HN.out⟩
        case measure => simp [intOf]; omega
      have sT := sT0.below (Below.refl _ _).drew
      refine wp_region_noPanic ?_
      refine wp_region_held_drew (S := (fun y => (y.cell? ⟨wr.heap.size, 0, none⟩ = some (.slice a1 n1 c1) ∧ y.cell? ⟨wr.heap.size, 1, none⟩ = some (.bool m1) ∧ y.cell? ⟨wr.heap.size, 2, none⟩ = some (.slice a2' n2' c2')) ∧ Bag w (fun y => Slot3 y wr.heap.size (.slice a1 n1 c1) (.bool m1) (.slice a2' n2' c2') ∧ Slot3 y (w.heap.size + 1) (.slice none 0 0) (.bool false) (.slice none 0 0) ∧ RatAt y a1 n1 c1 m1 a2' n2' c2' P' Q' ∧ RatAt y a3 n3 c3 m3 a4 n4 c4 V1 V2 ∧ True) y)) (by kernel_rfl) ?_ (fun hH => ?_)
      · exact (have B9 := BB.out.drew; ⟨HC.out _ B9.now, B9⟩)
      refine wpAnyH_take (i := 0) (oi := ⟨some 15, Op.fieldAddr 30 (Operand.tmp 5) 0, 0, _, _, none⟩) (v := ?v1) rfl (by kernel_rfl) (by kernel_rfl) (by kernel_rfl) (fun _ _ _ h => h) (Or.inl ⟨by rfl, ?hy1⟩) hH ?_
      case hy1 =>
        intro y hy
        (try dsimp only at hy)
        go_simp
        try with_reducible rfl
      try simp only [Act.put, List.setIfInBounds_toArray, List.set_cons_zero, List.set_cons_succ]
      refine wpAnyH_take (i := 2) (oi := ⟨some 17, Op.fieldAddr 30 (Operand.tmp 7) 0, 0, _, _, none⟩) (v := ?v2) rfl (by kernel_rfl) (by kernel_rfl) (by kernel_rfl) (fun _ _ _ h => h) (Or.inl ⟨by rfl, ?hy2⟩) hH ?_
      case hy2 =>
        intro y hy
        (try dsimp only at hy)
        go_simp
        try with_reducible rfl
      try simp only [Act.put, List.setIfInBounds_toArray, List.set_cons_zero, List.set_cons_succ]
      refine wpAnyH_take (i := 3) (oi := ⟨some 18, Op.load 28 (Operand.tmp 17), 28, _, _, none⟩) (v := ?v3) rfl (by kernel_rfl) (by kernel_rfl) (by kernel_rfl) (fun _ _ _ h => h) (Or.inl ⟨by rfl, ?hy3⟩) hH ?_
      case hy3 =>
        intro y hy
        (try dsimp only at hy)
        go_simp
        try with_reducible rfl
      try simp only [Act.put, List.setIfInBounds_toArray, List.set_cons_zero, List.set_cons_succ]
      refine wpAnyH_take (i := 8) (oi := ⟨some 23, Op.load 30 (Operand.tmp 7), 30, _, _, none⟩) (v := ?v4) rfl (by kernel_rfl) (by kernel_rfl) (by kernel_rfl) (fun _ _ _ h => h) (Or.inl ⟨by rfl, ?hy4⟩) hH ?_
      case hy4 =>
        intro y hy
        (try dsimp only at hy)
        go_simp
        try with_reducible rfl
      try simp only [Act.put, List.setIfInBounds_toArray, List.set_cons_zero, List.set_cons_succ]
      refine wpAnyH_ready (rs := [1, 4, 6]) (by kernel_rfl) (by simp) ?_
      refine AllReadyH.cons (o := ⟨some 16, Op.load 28 (Operand.tmp 15), 28, _, _, none⟩) rfl (fun K hK => ?_) ?_
      · have l0 := sT.cell
        have l1 := sT.cell1
        have l2 := sT.cell2
        go_simp
        refine hK.out _ _ ?_ (fun hH => ?_)
        · exact hH
        clear hK K
        try simp only [Act.put, List.setIfInBounds_toArray, List.set_cons_zero, List.set_cons_succ]
        refine wpAnyH_ready (rs := [4, 6]) (by kernel_rfl) (by simp) ?_
        refine AllReadyH.cons (o := ⟨some 19, Op.buildSlice 99 1 #[(0, Operand.tmp 18)], 99, _, _, none⟩) rfl (fun K hK => ?_) ?_
        · go_simp
          refine hK.out _ _ ?_ (fun hH => ?_)
          · exact (have B9 := (Bag.alloc BB.out _).drew; ⟨HC.out _ B9.now, B9⟩)
          clear hK K
          try simp only [Act.put, List.setIfInBounds_toArray, List.set_cons_zero, List.set_cons_succ]
          have sT := (sT0.below (Below.more (Below.refl _ _) (.cells #[.slice a1 n1 c1, .bool m1] 28))).below (Below.refl _ _).drew
          refine wpAnyH_ready (rs := [5, 6]) (by kernel_rfl) (by simp) ?_
          refine AllReadyH.cons (o := ⟨some 20, Op.call { callee := Callee.value (Operand.func 33), args := #[Operand.tmp 16, Operand.tmp 19], argTypes := #[28, 99] }, 28, _, _, none⟩) rfl (fun K hK => ?_) ?_
          · go_simp
            (go_at_call 33; (with_reducible refine (T1.out _ _ ?_ ?_).mono ?_); exact hH.2.now.2.2.2.1.int; (apply IntsAt.old1; (exact (Below.refl _ _).drew); (first | rfl | focus (simp; done)); exact hH.2.now.2.2.1.int); rintro e wy5 ⟨a5, n5, c5, m5, rfl, hi5, hbz⟩); have sT := sT.below hbz
            refine hK.out _ _ ?_ (fun hH => ?_)
            · exact (have B9 := Bag.go hH.2 hbz; ⟨HC.out _ B9.now, B9⟩)
            clear hK K
            try simp only [Act.put, List.setIfInBounds_toArray, List.set_cons_zero, List.set_cons_succ]
            refine wpAnyH_ready (rs := [6]) (by kernel_rfl) (by simp) ?_
            refine AllReadyH.cons (o := ⟨some 21, Op.load 30 (Operand.tmp 5), 30, _, _, none⟩) rfl (fun K hK => ?_) AllReadyH.nil
            have l0 := sT.cell
            have l1 := sT.cell1
            have l2 := sT.cell2
            go_simp
            refine hK.out _ _ ?_ (fun hH => ?_)
            · exact hH
            clear hK K
            try simp only [Act.put, List.setIfInBounds_toArray, List.set_cons_zero, List.set_cons_succ]
            refine wpAnyH_ready (rs := [7]) (by kernel_rfl) (by simp) ?_
            refine AllReadyH.cons (o := ⟨some 22, Op.call { callee := Callee.value (Operand.func 34), args := #[Operand.tmp 21], argTypes := #[30] }, 26, _, _, none⟩) rfl (fun K hK => ?_) AllReadyH.nil
            go_simp
            (go_at_call 34; (with_reducible refine (BT.out _ hH.2.now.2.2.2.1).mono ?_); rintro e wy7 ⟨a6, n6, c6, rfl, hn6, hbz⟩); have sT := sT.below hbz
            refine hK.out _ _ ?_ (fun hH => ?_)
            · exact (have B9 := Bag.go hH.2 hbz; ⟨HC.out _ B9.now, B9⟩)
            clear hK K
            try simp only [Act.put, List.setIfInBounds_toArray, List.set_cons_zero, List.set_cons_succ]
            refine wpAnyH_ready (rs := [9]) (by kernel_rfl) (by simp) ?_
            refine AllReadyH.cons (o := ⟨some 24, Op.call { callee := Callee.value (Operand.func 34), args := #[Operand.tmp 23], argTypes := #[30] }, 26, _, _, none⟩) rfl (fun K hK => ?_) AllReadyH.nil
            go_simp
            (go_at_call 34; (with_reducible refine (BT'.out _ hH.2.now.2.2.1).mono ?_); rintro e wy9 ⟨a7, n7, c7, rfl, hn7, hbz⟩); have sT := sT.below hbz; have hb9 := hbz
            refine hK.out _ _ ?_ (fun hH => ?_)
            · exact (have B9 := Bag.go hH.2 hbz; ⟨HC.out _ B9.now, B9⟩)
            clear hK K
            try simp only [Act.put, List.setIfInBounds_toArray, List.set_cons_zero, List.set_cons_succ]
            refine wpAnyH_ready (rs := [10]) (by kernel_rfl) (by simp) ?_
            refine AllReadyH.cons (o := ⟨some 25, Op.call { callee := Callee.value (Operand.func 35), args := #[Operand.tmp 22, Operand.tmp 24], argTypes := #[26, 26] }, 26, _, _, none⟩) rfl (fun K hK => ?_) AllReadyH.nil
            go_simp
            (go_at_call 35; (with_reducible refine (ML.out _ _ _ _ _ _ _ (hn6.below hb9) hn7).mono ?_); rintro e wy10 ⟨a8, n8, c8, rfl, hn8, hbz⟩); have sT := sT.below hbz
            refine hK.out _ _ ?_ (fun hH => ?_)
            · exact (have B9 := Bag.go hH.2 hbz; ⟨HC.out _ B9.now, B9⟩)
            clear hK K
            try simp only [Act.put, List.setIfInBounds_toArray, List.set_cons_zero, List.set_cons_succ]
            refine wpAnyH_ready (rs := [11]) (by kernel_rfl) (by simp) ?_
            refine AllReadyH.cons (o := ⟨some 26, Op.call { callee := Callee.value (Operand.func 32), args := #[Operand.tmp 20, Operand.tmp 25], argTypes := #[28, 26] }, 30, _, _, none⟩) rfl (fun K hK => ?_) AllReadyH.nil
            go_simp
            (go_at_call 32; (with_reducible refine (LW.out _ _ _ _ _ _ _ _ (IntAt.below hi5 (by refine Below.step (by assumption) ?_; refine Below.step (by assumption) ?_; refine Below.step (by assumption) ?_; exact Below.refl _ _)) hn8).mono ?_); rintro e wy11 ⟨a9, n9, c9, m9, a10, n10, c10, rfl, hr, hbz⟩); have sT := sT.below hbz
            refine hK.out _ _ ?_ (fun hH => ?_)
            · exact (have B9 := Bag.go hH.2 hbz; ⟨HC.out _ B9.now, B9⟩)
            clear hK K
            try simp only [Act.put, List.setIfInBounds_toArray, List.set_cons_zero, List.set_cons_succ]
            refine wpAnyH_ready (rs := [12]) (by kernel_rfl) (by simp) ?_
            refine AllReadyH.cons (o := ⟨none, Op.store 30 (Operand.tmp 5) (Operand.tmp 26), 0, _, _, none⟩) rfl (fun K hK => ?_) AllReadyH.nil
            have l0 := sT.cell
            have l1 := sT.cell1
            have l2 := sT.cell2
            have f0 := sT.free
            have f1 := sT.free1
            have f2 := sT.free2
            have B9s := HP.out _ _ _ _ _ _ _ _ sT hH.2 a9 n9 c9 m9 a10 n10 c10
            have hRP : RPL w _ W := HQ.out _ _ _ _ _ _ _ _ sT hH.2 a9 n9 c9 m9 a10 n10 c10 hr
            go_simp
            refine hK.out _ _ ?_ (fun hH => ?_)
            · exact ⟨HC.out _ B9s.now, B9s⟩
            clear hK K
            try simp only [Act.put, List.setIfInBounds_toArray, List.set_cons_zero, List.set_cons_succ]
            refine wpAnyH_done (by kernel_rfl) ?_ _
            refine NoPanic.normal ?_
            exact TL _ _ _ _ _ _ _ _ _ _ _ _ _ _ _ _ _ _ _ _ _ _ hRP
          refine AllReadyH.cons (o := ⟨some 21, Op.load 30 (Operand.tmp 5), 30, _, _, none⟩) rfl (fun K hK => ?_) ?_
          · have l0 := sT.cell
            have l1 := sT.cell1
            have l2 := sT.cell2
            go_simp
            refine hK.out _ _ ?_ (fun hH => ?_)
            · exact hH
            clear hK K
            try simp only [Act.put, List.setIfInBounds_toArray, List.set_cons_zero, List.set_cons_succ]
            refine wpAnyH_ready (rs := [5]) (by kernel_rfl) (by simp) ?_
            refine AllReadyH.cons (o := ⟨some 20, Op.call { callee := Callee.value (Operand.func 33), args := #[Operand.tmp 16, Operand.tmp 19], argTypes := #[28, 99] }, 28, _, _, none⟩) rfl (fun K hK => ?_) AllReadyH.nil
            go_simp
            (go_at_call 33; (with_reducible refine (T1.out _ _ ?_ ?_).mono ?_); exact hH.2.now.2.2.2.1.int; (apply IntsAt.old1; (exact (Below.refl _ _).drew); (first | rfl | focus (simp; done)); exact hH.2.now.2.2.1.int); rintro e wy5 ⟨a5, n5, c5, m5, rfl, hi5, hbz⟩); have sT := sT.below hbz
            refine hK.out _ _ ?_ (fun hH => ?_)
            · exact (have B9 := Bag.go hH.2 hbz; ⟨HC.out _ B9.now, B9⟩)
            clear hK K
            try simp only [Act.put, List.setIfInBounds_toArray, List.set_cons_zero, List.set_cons_succ]
            refine wpAnyH_ready (rs := [7]) (by kernel_rfl) (by simp) ?_
            refine AllReadyH.cons (o := ⟨some 22, Op.call { callee := Callee.value (Operand.func 34), args := #[Operand.tmp 21], argTypes := #[30] }, 26, _, _, none⟩) rfl (fun K hK => ?_) AllReadyH.nil
            go_simp
            (go_at_call 34; (with_reducible refine (BT.out _ hH.2.now.2.2.2.1).mono ?_); rintro e wy7 ⟨a6, n6, c6, rfl, hn6, hbz⟩); have sT := sT.below hbz
            refine hK.out _ _ ?_ (fun hH => ?_)
            · exact (have B9 := Bag.go hH.2 hbz; ⟨HC.out _ B9.now, B9⟩)
            clear hK K
            try simp only [Act.put, List.setIfInBounds_toArray, List.set_cons_zero, List.set_cons_succ]
            refine wpAnyH_ready (rs := [9]) (by kernel_rfl) (by simp) ?_
            refine AllReadyH.cons (o := ⟨some 24, Op.call { callee := Callee.value (Operand.func 34), args := #[Operand.tmp 23], argTypes := #[30] }, 26, _, _, none⟩) rfl (fun K hK => ?_) AllReadyH.nil
            go_simp
            (go_at_call 34; (with_reducible refine (BT'.out _ hH.2.now.2.2.1).mono ?_); rintro e wy9 ⟨a7, n7, c7, rfl, hn7, hbz⟩); have sT := sT.below hbz; have hb9 := hbz
            refine hK.out _ _ ?_ (fun hH => ?_)
            · exact (have B9 := Bag.go hH.2 hbz; ⟨HC.out _ B9.now, B9⟩)
            clear hK K
            try simp only [Act.put, List.setIfInBounds_toArray, List.set_cons_zero, List.set_cons_succ]
            refine wpAnyH_ready (rs := [10]) (by kernel_rfl) (by simp) ?_
            refine AllReadyH.cons (o := ⟨some 25, Op.call { callee := Callee.value (Operand.func 35), args := #[Operand.tmp 22, Operand.tmp 24], argTypes := #[26, 26] }, 26, _, _, none⟩) rfl (fun K hK => ?_) AllReadyH.nil
            go_simp
            (go_at_call 35; (with_reducible refine (ML.out _ _ _ _ _ _ _ (hn6.below hb9) hn7).mono ?_); rintro e wy10 ⟨a8, n8, c8, rfl, hn8, hbz⟩); have sT := sT.below hbz
            refine hK.out _ _ ?_ (fun hH => ?_)
            · exact (have B9 := Bag.go hH.2 hbz; ⟨HC.out _ B9.now, B9⟩)
            clear hK K
            try simp only [Act.put, List.setIfInBounds_toArray, List.set_cons_zero, List.set_cons_succ]
            refine wpAnyH_ready (rs := [11]) (by kernel_rfl) (by simp) ?_
            refine AllReadyH.cons (o := ⟨some 26, Op.call { callee := Callee.value (Operand.func 32), args := #[Operand.tmp 20, Operand.tmp 25], argTypes := #[28, 26] }, 30, _, _, none⟩) rfl (fun K hK => ?_) AllReadyH.nil
            go_simp
            (go_at_call 32; (with_reducible refine (LW.out _ _ _ _ _ _ _ _ (IntAt.below hi5 (by refine Below.step (by assumption) ?_; refine Below.step (by assumption) ?_; refine Below.step (by assumption) ?_; exact Below.refl _ _)) hn8).mono ?_); rintro e wy11 ⟨a9, n9, c9, m9, a10, n10, c10, rfl, hr, hbz⟩); have sT := sT.below hbz
            refine hK.out _ _ ?_ (fun hH => ?_)
            · exact (have B9 := Bag.go hH.2 hbz; ⟨HC.out _ B9.now, B9⟩)
            clear hK K
            try simp only [Act.put, List.setIfInBounds_toArray, List.set_cons_zero, List.set_cons_succ]
            refine wpAnyH_ready (rs := [12]) (by kernel_rfl) (by simp) ?_
            refine AllReadyH.cons (o := ⟨none, Op.store 30 (Operand.tmp 5) (Operand.tmp 26), 0, _, _, none⟩) rfl (fun K hK => ?_) AllReadyH.nil
            have l0 := sT.cell
            have l1 := sT.cell1
            have l2 := sT.cell2
            have f0 := sT.free
            have f1 := sT.free1
            have f2 := sT.free2
            have B9s := HP.out _ _ _ _ _ _ _ _ sT hH.2 a9 n9 c9 m9 a10 n10 c10
            have hRP : RPL w _ W := HQ.out _ _ _ _ _ _ _ _ sT hH.2 a9 n9 c9 m9 a10 n10 c10 hr
            go_simp
            refine hK.out _ _ ?_ (fun hH => ?_)
            · exact ⟨HC.out _ B9s.now, B9s⟩
            clear hK K
            try simp only [Act.put, List.setIfInBounds_toArray, List.set_cons_zero, List.set_cons_succ]
            refine wpAnyH_done (by kernel_rfl) ?_ _
            refine NoPanic.normal ?_
            exact TL _ _ _ _ _ _ _ _ _ _ _ _ _ _ _ _ _ _ _ _ _ _ hRP
          exact AllReadyH.nil
        refine AllReadyH.cons (o := ⟨some 21, Op.load 30 (Operand.tmp 5), 30, _, _, none⟩) rfl (fun K hK => ?_) ?_
        · have l0 := sT.cell
          have l1 := sT.cell1
          have l2 := sT.cell2
          go_simp
          refine hK.out _ _ ?_ (fun hH => ?_)
          · exact hH
          clear hK K
          try simp only [Act.put, List.setIfInBounds_toArray, List.set_cons_zero, List.set_cons_succ]
          refine wpAnyH_ready (rs := [4]) (by kernel_rfl) (by simp) ?_
          refine AllReadyH.cons (o := ⟨some 19, Op.buildSlice 99 1 #[(0, Operand.tmp 18)], 99, _, _, none⟩) rfl (fun K hK => ?_) AllReadyH.nil
          go_simp
          refine hK.out _ _ ?_ (fun hH => ?_)
          · exact (have B9 := (Bag.alloc BB.out _).drew; ⟨HC.out _ B9.now, B9⟩)
          clear hK K
          try simp only [Act.put, List.setIfInBounds_toArray, List.set_cons_zero, List.set_cons_succ]
          have sT := (sT0.below (Below.more (Below.refl _ _) (.cells #[.slice a1 n1 c1, .bool m1] 28))).below (Below.refl _ _).drew
          refine wpAnyH_ready (rs := [5]) (by kernel_rfl) (by simp) ?_
          refine AllReadyH.cons (o := ⟨some 20, Op.call { callee := Callee.value (Operand.func 33), args := #[Operand.tmp 16, Operand.tmp 19], argTypes := #[28, 99] }, 28, _, _, none⟩) rfl (fun K hK => ?_) AllReadyH.nil
          go_simp
          (go_at_call 33; (with_reducible refine (T1.out _ _ ?_ ?_).mono ?_); exact hH.2.now.2.2.2.1.int; (apply IntsAt.old1; (exact (Below.refl _ _).drew); (first | rfl | focus (simp; done)); exact hH.2.now.2.2.1.int); rintro e wy5 ⟨a5, n5, c5, m5, rfl, hi5, hbz⟩); have sT := sT.below hbz
          refine hK.out _ _ ?_ (fun hH => ?_)
          · exact (have B9 := Bag.go hH.2 hbz; ⟨HC.out _ B9.now, B9⟩)
          clear hK K
          try simp only [Act.put, List.setIfInBounds_toArray, List.set_cons_zero, List.set_cons_succ]
          refine wpAnyH_ready (rs := [7]) (by kernel_rfl) (by simp) ?_
          refine AllReadyH.cons (o := ⟨some 22, Op.call { callee := Callee.value (Operand.func 34), args := #[Operand.tmp 21], argTypes := #[30] }, 26, _, _, none⟩) rfl (fun K hK => ?_) AllReadyH.nil
          go_simp
          (go_at_call 34; (with_reducible refine (BT.out _ hH.2.now.2.2.2.1).mono ?_); rintro e wy7 ⟨a6, n6, c6, rfl, hn6, hbz⟩); have sT := sT.below hbz
          refine hK.out _ _ ?_ (fun hH => ?_)
          · exact (have B9 := Bag.go hH.2 hbz; ⟨HC.out _ B9.now, B9⟩)
          clear hK K
          try simp only [Act.put, List.setIfInBounds_toArray, List.set_cons_zero, List.set_cons_succ]
          refine wpAnyH_ready (rs := [9]) (by kernel_rfl) (by simp) ?_
          refine AllReadyH.cons (o := ⟨some 24, Op.call { callee := Callee.value (Operand.func 34), args := #[Operand.tmp 23], argTypes := #[30] }, 26, _, _, none⟩) rfl (fun K hK => ?_) AllReadyH.nil
          go_simp
          (go_at_call 34; (with_reducible refine (BT'.out _ hH.2.now.2.2.1).mono ?_); rintro e wy9 ⟨a7, n7, c7, rfl, hn7, hbz⟩); have sT := sT.below hbz; have hb9 := hbz
          refine hK.out _ _ ?_ (fun hH => ?_)
          · exact (have B9 := Bag.go hH.2 hbz; ⟨HC.out _ B9.now, B9⟩)
          clear hK K
          try simp only [Act.put, List.setIfInBounds_toArray, List.set_cons_zero, List.set_cons_succ]
          refine wpAnyH_ready (rs := [10]) (by kernel_rfl) (by simp) ?_
          refine AllReadyH.cons (o := ⟨some 25, Op.call { callee := Callee.value (Operand.func 35), args := #[Operand.tmp 22, Operand.tmp 24], argTypes := #[26, 26] }, 26, _, _, none⟩) rfl (fun K hK => ?_) AllReadyH.nil
          go_simp
          (go_at_call 35; (with_reducible refine (ML.out _ _ _ _ _ _ _ (hn6.below hb9) hn7).mono ?_); rintro e wy10 ⟨a8, n8, c8, rfl, hn8, hbz⟩); have sT := sT.below hbz
          refine hK.out _ _ ?_ (fun hH => ?_)
          · exact (have B9 := Bag.go hH.2 hbz; ⟨HC.out _ B9.now, B9⟩)
          clear hK K
          try simp only [Act.put, List.setIfInBounds_toArray, List.set_cons_zero, List.set_cons_succ]
          refine wpAnyH_ready (rs := [11]) (by kernel_rfl) (by simp) ?_
          refine AllReadyH.cons (o := ⟨some 26, Op.call { callee := Callee.value (Operand.func 32), args := #[Operand.tmp 20, Operand.tmp 25], argTypes := #[28, 26] }, 30, _, _, none⟩) rfl (fun K hK => ?_) AllReadyH.nil
          go_simp
          (go_at_call 32; (with_reducible refine (LW.out _ _ _ _ _ _ _ _ (IntAt.below hi5 (by refine Below.step (by assumption) ?_; refine Below.step (by assumption) ?_; refine Below.step (by assumption) ?_; exact Below.refl _ _)) hn8).mono ?_); rintro e wy11 ⟨a9, n9, c9, m9, a10, n10, c10, rfl, hr, hbz⟩); have sT := sT.below hbz
          refine hK.out _ _ ?_ (fun hH => ?_)
          · exact (have B9 := Bag.go hH.2 hbz; ⟨HC.out _ B9.now, B9⟩)
          clear hK K
          try simp only [Act.put, List.setIfInBounds_toArray, List.set_cons_zero, List.set_cons_succ]
          refine wpAnyH_ready (rs := [12]) (by kernel_rfl) (by simp) ?_
          refine AllReadyH.cons (o := ⟨none, Op.store 30 (Operand.tmp 5) (Operand.tmp 26), 0, _, _, none⟩) rfl (fun K hK => ?_) AllReadyH.nil
          have l0 := sT.cell
          have l1 := sT.cell1
          have l2 := sT.cell2
          have f0 := sT.free
          have f1 := sT.free1
          have f2 := sT.free2
          have B9s := HP.out _ _ _ _ _ _ _ _ sT hH.2 a9 n9 c9 m9 a10 n10 c10
          have hRP : RPL w _ W := HQ.out _ _ _ _ _ _ _ _ sT hH.2 a9 n9 c9 m9 a10 n10 c10 hr
          go_simp
          refine hK.out _ _ ?_ (fun hH => ?_)
          · exact ⟨HC.out _ B9s.now, B9s⟩
          clear hK K
          try simp only [Act.put, List.setIfInBounds_toArray, List.set_cons_zero, List.set_cons_succ]
          refine wpAnyH_done (by kernel_rfl) ?_ _
          refine NoPanic.normal ?_
          exact TL _ _ _ _ _ _ _ _ _ _ _ _ _ _ _ _ _ _ _ _ _ _ hRP
        exact AllReadyH.nil
      refine AllReadyH.cons (o := ⟨some 19, Op.buildSlice 99 1 #[(0, Operand.tmp 18)], 99, _, _, none⟩) rfl (fun K hK => ?_) ?_
      · go_simp
        refine hK.out _ _ ?_ (fun hH => ?_)
        · exact (have B9 := (Bag.alloc BB.out _).drew; ⟨HC.out _ B9.now, B9⟩)
        clear hK K
        try simp only [Act.put, List.setIfInBounds_toArray, List.set_cons_zero, List.set_cons_succ]
        have sT := (sT0.below (Below.more (Below.refl _ _) (.cells #[.slice a1 n1 c1, .bool m1] 28))).below (Below.refl _ _).drew
        refine wpAnyH_ready (rs := [1, 6]) (by kernel_rfl) (by simp) ?_
        refine AllReadyH.cons (o := ⟨some 16, Op.load 28 (Operand.tmp 15), 28, _, _, none⟩) rfl (fun K hK => ?_) ?_
        · have l0 := sT.cell
          have l1 := sT.cell1
          have l2 := sT.cell2
          go_simp
          refine hK.out _ _ ?_ (fun hH => ?_)
          · exact hH
          clear hK K
          try simp only [Act.put, List.setIfInBounds_toArray, List.set_cons_zero, List.set_cons_succ]
          refine wpAnyH_ready (rs := [5, 6]) (by kernel_rfl) (by simp) ?_
          refine AllReadyH.cons (o := ⟨some 20, Op.call { callee := Callee.value (Operand.func 33), args := #[Operand.tmp 16, Operand.tmp 19], argTypes := #[28, 99] }, 28, _, _, none⟩) rfl (fun K hK => ?_) ?_
          · go_simp
            (go_at_call 33; (with_reducible refine (T1.out _ _ ?_ ?_).mono ?_); exact hH.2.now.2.2.2.1.int; (apply IntsAt.old1; (exact (Below.refl _ _).drew); (first | rfl | focus (simp; done)); exact hH.2.now.2.2.1.int); rintro e wy5 ⟨a5, n5, c5, m5, rfl, hi5, hbz⟩); have sT := sT.below hbz
            refine hK.out _ _ ?_ (fun hH => ?_)
            · exact (have B9 := Bag.go hH.2 hbz; ⟨HC.out _ B9.now, B9⟩)
            clear hK K
            try simp only [Act.put, List.setIfInBounds_toArray, List.set_cons_zero, List.set_cons_succ]
            refine wpAnyH_ready (rs := [6]) (by kernel_rfl) (by simp) ?_
            refine AllReadyH.cons (o := ⟨some 21, Op.load 30 (Operand.tmp 5), 30, _, _, none⟩) rfl (fun K hK => ?_) AllReadyH.nil
            have l0 := sT.cell
            have l1 := sT.cell1
            have l2 := sT.cell2
            go_simp
            refine hK.out _ _ ?_ (fun hH => ?_)
            · exact hH
            clear hK K
            try simp only [Act.put, List.setIfInBounds_toArray, List.set_cons_zero, List.set_cons_succ]
            refine wpAnyH_ready (rs := [7]) (by kernel_rfl) (by simp) ?_
            refine AllReadyH.cons (o := ⟨some 22, Op.call { callee := Callee.value (Operand.func 34), args := #[Operand.tmp 21], argTypes := #[30] }, 26, _, _, none⟩) rfl (fun K hK => ?_) AllReadyH.nil
            go_simp
            (go_at_call 34; (with_reducible refine (BT.out _ hH.2.now.2.2.2.1).mono ?_); rintro e wy7 ⟨a6, n6, c6, rfl, hn6, hbz⟩); have sT := sT.below hbz
            refine hK.out _ _ ?_ (fun hH => ?_)
            · exact (have B9 := Bag.go hH.2 hbz; ⟨HC.out _ B9.now, B9⟩)
            clear hK K
            try simp only [Act.put, List.setIfInBounds_toArray, List.set_cons_zero, List.set_cons_succ]
            refine wpAnyH_ready (rs := [9]) (by kernel_rfl) (by simp) ?_
            refine AllReadyH.cons (o := ⟨some 24, Op.call { callee := Callee.value (Operand.func 34), args := #[Operand.tmp 23], argTypes := #[30] }, 26, _, _, none⟩) rfl (fun K hK => ?_) AllReadyH.nil
            go_simp
            (go_at_call 34; (with_reducible refine (BT'.out _ hH.2.now.2.2.1).mono ?_); rintro e wy9 ⟨a7, n7, c7, rfl, hn7, hbz⟩); have sT := sT.below hbz; have hb9 := hbz
            refine hK.out _ _ ?_ (fun hH => ?_)
            · exact (have B9 := Bag.go hH.2 hbz; ⟨HC.out _ B9.now, B9⟩)
            clear hK K
            try simp only [Act.put, List.setIfInBounds_toArray, List.set_cons_zero, List.set_cons_succ]
            refine wpAnyH_ready (rs := [10]) (by kernel_rfl) (by simp) ?_
            refine AllReadyH.cons (o := ⟨some 25, Op.call { callee := Callee.value (Operand.func 35), args := #[Operand.tmp 22, Operand.tmp 24], argTypes := #[26, 26] }, 26, _, _, none⟩) rfl (fun K hK => ?_) AllReadyH.nil
            go_simp
            (go_at_call 35; (with_reducible refine (ML.out _ _ _ _ _ _ _ (hn6.below hb9) hn7).mono ?_); rintro e wy10 ⟨a8, n8, c8, rfl, hn8, hbz⟩); have sT := sT.below hbz
            refine hK.out _ _ ?_ (fun hH => ?_)
            · exact (have B9 := Bag.go hH.2 hbz; ⟨HC.out _ B9.now, B9⟩)
            clear hK K
            try simp only [Act.put, List.setIfInBounds_toArray, List.set_cons_zero, List.set_cons_succ]
            refine wpAnyH_ready (rs := [11]) (by kernel_rfl) (by simp) ?_
            refine AllReadyH.cons (o := ⟨some 26, Op.call { callee := Callee.value (Operand.func 32), args := #[Operand.tmp 20, Operand.tmp 25], argTypes := #[28, 26] }, 30, _, _, none⟩) rfl (fun K hK => ?_) AllReadyH.nil
            go_simp
            (go_at_call 32; (with_reducible refine (LW.out _ _ _ _ _ _ _ _ (IntAt.below hi5 (by refine Below.step (by assumption) ?_; refine Below.step (by assumption) ?_; refine Below.step (by assumption) ?_; exact Below.refl _ _)) hn8).mono ?_); rintro e wy11 ⟨a9, n9, c9, m9, a10, n10, c10, rfl, hr, hbz⟩); have sT := sT.below hbz
            refine hK.out _ _ ?_ (fun hH => ?_)
            · exact (have B9 := Bag.go hH.2 hbz; ⟨HC.out _ B9.now, B9⟩)
            clear hK K
            try simp only [Act.put, List.setIfInBounds_toArray, List.set_cons_zero, List.set_cons_succ]
            refine wpAnyH_ready (rs := [12]) (by kernel_rfl) (by simp) ?_
            refine AllReadyH.cons (o := ⟨none, Op.store 30 (Operand.tmp 5) (Operand.tmp 26), 0, _, _, none⟩) rfl (fun K hK => ?_) AllReadyH.nil
            have l0 := sT.cell
            have l1 := sT.cell1
            have l2 := sT.cell2
            have f0 := sT.free
            have f1 := sT.free1
            have f2 := sT.free2
            have B9s := HP.out _ _ _ _ _ _ _ _ sT hH.2 a9 n9 c9 m9 a10 n10 c10
            have hRP : RPL w _ W := HQ.out _ _ _ _ _ _ _ _ sT hH.2 a9 n9 c9 m9 a10 n10 c10 hr
            go_simp
            refine hK.out _ _ ?_ (fun hH => ?_)
            · exact ⟨HC.out _ B9s.now, B9s⟩
            clear hK K
            try simp only [Act.put, List.setIfInBounds_toArray, List.set_cons_zero, List.set_cons_succ]
            refine wpAnyH_done (by kernel_rfl) ?_ _
            refine NoPanic.normal ?_
            exact TL _ _ _ _ _ _ _ _ _ _ _ _ _ _ _ _ _ _ _ _ _ _ hRP
          refine AllReadyH.cons (o := ⟨some 21, Op.load 30 (Operand.tmp 5), 30, _, _, none⟩) rfl (fun K hK => ?_) ?_
          · have l0 := sT.cell
            have l1 := sT.cell1
            have l2 := sT.cell2
            go_simp
            refine hK.out _ _ ?_ (fun hH => ?_)
            · exact hH
            clear hK K
            try simp only [Act.put, List.setIfInBounds_toArray, List.set_cons_zero, List.set_cons_succ]
            refine wpAnyH_ready (rs := [5]) (by kernel_rfl) (by simp) ?_
            refine AllReadyH.cons (o := ⟨some 20, Op.call { callee := Callee.value (Operand.func 33), args := #[Operand.tmp 16, Operand.tmp 19], argTypes := #[28, 99] }, 28, _, _, none⟩) rfl (fun K hK => ?_) AllReadyH.nil
            go_simp
            (go_at_call 33; (with_reducible refine (T1.out _ _ ?_ ?_).mono ?_); exact hH.2.now.2.2.2.1.int; (apply IntsAt.old1; (exact (Below.refl _ _).drew); (first | rfl | focus (simp; done)); exact hH.2.now.2.2.1.int); rintro e wy5 ⟨a5, n5, c5, m5, rfl, hi5, hbz⟩); have sT := sT.below hbz
            refine hK.out _ _ ?_ (fun hH => ?_)
            · exact (have B9 := Bag.go hH.2 hbz; ⟨HC.out _ B9.now, B9⟩)
            clear hK K
            try simp only [Act.put, List.setIfInBounds_toArray, List.set_cons_zero, List.set_cons_succ]
            refine wpAnyH_ready (rs := [7]) (by kernel_rfl) (by simp) ?_
            refine AllReadyH.cons (o := ⟨some 22, Op.call { callee := Callee.value (Operand.func 34), args := #[Operand.tmp 21], argTypes := #[30] }, 26, _, _, none⟩) rfl (fun K hK => ?_) AllReadyH.nil
            go_simp
            (go_at_call 34; (with_reducible refine (BT.out _ hH.2.now.2.2.2.1).mono ?_); rintro e wy7 ⟨a6, n6, c6, rfl, hn6, hbz⟩); have sT := sT.below hbz
            refine hK.out _ _ ?_ (fun hH => ?_)
            · exact (have B9 := Bag.go hH.2 hbz; ⟨HC.out _ B9.now, B9⟩)
            clear hK K
            try simp only [Act.put, List.setIfInBounds_toArray, List.set_cons_zero, List.set_cons_succ]
            refine wpAnyH_ready (rs := [9]) (by kernel_rfl) (by simp) ?_
            refine AllReadyH.cons (o := ⟨some 24, Op.call { callee := Callee.value (Operand.func 34), args := #[Operand.tmp 23], argTypes := #[30] }, 26, _, _, none⟩) rfl (fun K hK => ?_) AllReadyH.nil
            go_simp
            (go_at_call 34; (with_reducible refine (BT'.out _ hH.2.now.2.2.1).mono ?_); rintro e wy9 ⟨a7, n7, c7, rfl, hn7, hbz⟩); have sT := sT.below hbz; have hb9 := hbz
            refine hK.out _ _ ?_ (fun hH => ?_)
            · exact (have B9 := Bag.go hH.2 hbz; ⟨HC.out _ B9.now, B9⟩)
            clear hK K
            try simp only [Act.put, List.setIfInBounds_toArray, List.set_cons_zero, List.set_cons_succ]
            refine wpAnyH_ready (rs := [10]) (by kernel_rfl) (by simp) ?_
            refine AllReadyH.cons (o := ⟨some 25, Op.call { callee := Callee.value (Operand.func 35), args := #[Operand.tmp 22, Operand.tmp 24], argTypes := #[26, 26] }, 26, _, _, none⟩) rfl (fun K hK => ?_) AllReadyH.nil
            go_simp
            (go_at_call 35; (with_reducible refine (ML.out _ _ _ _ _ _ _ (hn6.below hb9) hn7).mono ?_); rintro e wy10 ⟨a8, n8, c8, rfl, hn8, hbz⟩); have sT := sT.below hbz
            refine hK.out _ _ ?_ (fun hH => ?_)
            · exact (have B9 := Bag.go hH.2 hbz; ⟨HC.out _ B9.now, B9⟩)
            clear hK K
            try simp only [Act.put, List.setIfInBounds_toArray, List.set_cons_zero, List.set_cons_succ]
            refine wpAnyH_ready (rs := [11]) (by kernel_rfl) (by simp) ?_
            refine AllReadyH.cons (o := ⟨some 26, Op.call { callee := Callee.value (Operand.func 32), args := #[Operand.tmp 20, Operand.tmp 25], argTypes := #[28, 26] }, 30, _, _, none⟩) rfl (fun K hK => ?_) AllReadyH.nil
            go_simp
            (go_at_call 32; (with_reducible refine (LW.out _ _ _ _ _ _ _ _ (IntAt.below hi5 (by refine Below.step (by assumption) ?_; refine Below.step (by assumption) ?_; refine Below.step (by assumption) ?_; exact Below.refl _ _)) hn8).mono ?_); rintro e wy11 ⟨a9, n9, c9, m9, a10, n10, c10, rfl, hr, hbz⟩); have sT := sT.below hbz
            refine hK.out _ _ ?_ (fun hH => ?_)
            · exact (have B9 := Bag.go hH.2 hbz; ⟨HC.out _ B9.now, B9⟩)
            clear hK K
            try simp only [Act.put, List.setIfInBounds_toArray, List.set_cons_zero, List.set_cons_succ]
            refine wpAnyH_ready (rs := [12]) (by kernel_rfl) (by simp) ?_
            refine AllReadyH.cons (o := ⟨none, Op.store 30 (Operand.tmp 5) (Operand.tmp 26), 0, _, _, none⟩) rfl (fun K hK => ?_) AllReadyH.nil
            have l0 := sT.cell
            have l1 := sT.cell1
            have l2 := sT.cell2
            have f0 := sT.free
            have f1 := sT.free1
            have f2 := sT.free2
            have B9s := HP.out _ _ _ _ _ _ _ _ sT hH.2 a9 n9 c9 m9 a10 n10 c10
            have hRP : RPL w _ W := HQ.out _ _ _ _ _ _ _ _ sT hH.2 a9 n9 c9 m9 a10 n10 c10 hr
            go_simp
            refine hK.out _ _ ?_ (fun hH => ?_)
            · exact ⟨HC.out _ B9s.now, B9s⟩
            clear hK K
            try simp only [Act.put, List.setIfInBounds_toArray, List.set_cons_zero, List.set_cons_succ]
            refine wpAnyH_done (by kernel_rfl) ?_ _
            refine NoPanic.normal ?_
            exact TL _ _ _ _ _ _ _ _ _ _ _ _ _ _ _ _ _ _ _ _ _ _ hRP
          exact AllReadyH.nil
        refine AllReadyH.cons (o := ⟨some 21, Op.load 30 (Operand.tmp 5), 30, _, _, none⟩) rfl (fun K hK => ?_) ?_
        · have l0 := sT.cell
          have l1 := sT.cell1
          have l2 := sT.cell2
          go_simp
          refine hK.out _ _ ?_ (fun hH => ?_)
          · exact hH
          clear hK K
          try simp only [Act.put, List.setIfInBounds_toArray, List.set_cons_zero, List.set_cons_succ]
          refine wpAnyH_ready (rs := [1]) (by kernel_rfl) (by simp) ?_
          refine AllReadyH.cons (o := ⟨some 16, Op.load 28 (Operand.tmp 15), 28, _, _, none⟩) rfl (fun K hK => ?_) AllReadyH.nil
          have l0 := sT.cell
          have l1 := sT.cell1
          have l2 := sT.cell2
          go_simp
          refine hK.out _ _ ?_ (fun hH => ?_)
          · exact hH
          clear hK K
          try simp only [Act.put, List.setIfInBounds_toArray, List.set_cons_zero, List.set_cons_succ]
          refine wpAnyH_ready (rs := [5]) (by kernel_rfl) (by simp) ?_
          refine AllReadyH.cons (o := ⟨some 20, Op.call { callee := Callee.value (Operand.func 33), args := #[Operand.tmp 16, Operand.tmp 19], argTypes := #[28, 99] }, 28, _, _, none⟩) rfl (fun K hK => ?_) AllReadyH.nil
          go_simp
          (go_at_call 33; (with_reducible refine (T1.out _ _ ?_ ?_).mono ?_); exact hH.2.now.2.2.2.1.int; (apply IntsAt.old1; (exact (Below.refl _ _).drew); (first | rfl | focus (simp; done)); exact hH.2.now.2.2.1.int); rintro e wy5 ⟨a5, n5, c5, m5, rfl, hi5, hbz⟩); have sT := sT.below hbz
          refine hK.out _ _ ?_ (fun hH => ?_)
          · exact (have B9 := Bag.go hH.2 hbz; ⟨HC.out _ B9.now, B9⟩)
          clear hK K
          try simp only [Act.put, List.setIfInBounds_toArray, List.set_cons_zero, List.set_cons_succ]
          refine wpAnyH_ready (rs := [7]) (by kernel_rfl) (by simp) ?_
          refine AllReadyH.cons (o := ⟨some 22, Op.call { callee := Callee.value (Operand.func 34), args := #[Operand.tmp 21], argTypes := #[30] }, 26, _, _, none⟩) rfl (fun K hK => ?_) AllReadyH.nil
          go_simp
          (go_at_call 34; (with_reducible refine (BT.out _ hH.2.now.2.2.2.1).mono ?_); rintro e wy7 ⟨a6, n6, c6, rfl, hn6, hbz⟩); have sT := sT.below hbz
          refine hK.out _ _ ?_ (fun hH => ?_)
          · exact (have B9 := Bag.go hH.2 hbz; ⟨HC.out _ B9.now, B9⟩)
          clear hK K
          try simp only [Act.put, List.setIfInBounds_toArray, List.set_cons_zero, List.set_cons_succ]
          refine wpAnyH_ready (rs := [9]) (by kernel_rfl) (by simp) ?_
          refine AllReadyH.cons (o := ⟨some 24, Op.call { callee := Callee.value (Operand.func 34), args := #[Operand.tmp 23], argTypes := #[30] }, 26, _, _, none⟩) rfl (fun K hK => ?_) AllReadyH.nil
          go_simp
          (go_at_call 34; (with_reducible refine (BT'.out _ hH.2.now.2.2.1).mono ?_); rintro e wy9 ⟨a7, n7, c7, rfl, hn7, hbz⟩); have sT := sT.below hbz; have hb9 := hbz
          refine hK.out _ _ ?_ (fun hH => ?_)
          · exact (have B9 := Bag.go hH.2 hbz; ⟨HC.out _ B9.now, B9⟩)
          clear hK K
          try simp only [Act.put, List.setIfInBounds_toArray, List.set_cons_zero, List.set_cons_succ]
          refine wpAnyH_ready (rs := [10]) (by kernel_rfl) (by simp) ?_
          refine AllReadyH.cons (o := ⟨some 25, Op.call { callee := Callee.value (Operand.func 35), args := #[Operand.tmp 22, Operand.tmp 24], argTypes := #[26, 26] }, 26, _, _, none⟩) rfl (fun K hK => ?_) AllReadyH.nil
          go_simp
          (go_at_call 35; (with_reducible refine (ML.out _ _ _ _ _ _ _ (hn6.below hb9) hn7).mono ?_); rintro e wy10 ⟨a8, n8, c8, rfl, hn8, hbz⟩); have sT := sT.below hbz
          refine hK.out _ _ ?_ (fun hH => ?_)
          · exact (have B9 := Bag.go hH.2 hbz; ⟨HC.out _ B9.now, B9⟩)
          clear hK K
          try simp only [Act.put, List.setIfInBounds_toArray, List.set_cons_zero, List.set_cons_succ]
          refine wpAnyH_ready (rs := [11]) (by kernel_rfl) (by simp) ?_
          refine AllReadyH.cons (o := ⟨some 26, Op.call { callee := Callee.value (Operand.func 32), args := #[Operand.tmp 20, Operand.tmp 25], argTypes := #[28, 26] }, 30, _, _, none⟩) rfl (fun K hK => ?_) AllReadyH.nil
          go_simp
          (go_at_call 32; (with_reducible refine (LW.out _ _ _ _ _ _ _ _ (IntAt.below hi5 (by refine Below.step (by assumption) ?_; refine Below.step (by assumption) ?_; refine Below.step (by assumption) ?_; exact Below.refl _ _)) hn8).mono ?_); rintro e wy11 ⟨a9, n9, c9, m9, a10, n10, c10, rfl, hr, hbz⟩); have sT := sT.below hbz
          refine hK.out _ _ ?_ (fun hH => ?_)
          · exact (have B9 := Bag.go hH.2 hbz; ⟨HC.out _ B9.now, B9⟩)
          clear hK K
          try simp only [Act.put, List.setIfInBounds_toArray, List.set_cons_zero, List.set_cons_succ]
          refine wpAnyH_ready (rs := [12]) (by kernel_rfl) (by simp) ?_
          refine AllReadyH.cons (o := ⟨none, Op.store 30 (Operand.tmp 5) (Operand.tmp 26), 0, _, _, none⟩) rfl (fun K hK => ?_) AllReadyH.nil
          have l0 := sT.cell
          have l1 := sT.cell1
          have l2 := sT.cell2
          have f0 := sT.free
          have f1 := sT.free1
          have f2 := sT.free2
          have B9s := HP.out _ _ _ _ _ _ _ _ sT hH.2 a9 n9 c9 m9 a10 n10 c10
          have hRP : RPL w _ W := HQ.out _ _ _ _ _ _ _ _ sT hH.2 a9 n9 c9 m9 a10 n10 c10 hr
          go_simp
          refine hK.out _ _ ?_ (fun hH => ?_)
          · exact ⟨HC.out _ B9s.now, B9s⟩
          clear hK K
          try simp only [Act.put, List.setIfInBounds_toArray, List.set_cons_zero, List.set_cons_succ]
          refine wpAnyH_done (by kernel_rfl) ?_ _
          refine NoPanic.normal ?_
          exact TL _ _ _ _ _ _ _ _ _ _ _ _ _ _ _ _ _ _ _ _ _ _ hRP
        exact AllReadyH.nil
      refine AllReadyH.cons (o := ⟨some 21, Op.load 30 (Operand.tmp 5), 30, _, _, none⟩) rfl (fun K hK => ?_) ?_
      · have l0 := sT.cell
        have l1 := sT.cell1
        have l2 := sT.cell2
        go_simp
        refine hK.out _ _ ?_ (fun hH => ?_)
        · exact hH
        clear hK K
        try simp only [Act.put, List.setIfInBounds_toArray, List.set_cons_zero, List.set_cons_succ]
        refine wpAnyH_ready (rs := [1, 4]) (by kernel_rfl) (by simp) ?_
        refine AllReadyH.cons (o := ⟨some 16, Op.load 28 (Operand.tmp 15), 28, _, _, none⟩) rfl (fun K hK => ?_) ?_
        · have l0 := sT.cell
          have l1 := sT.cell1
          have l2 := sT.cell2
          go_simp
          refine hK.out _ _ ?_ (fun hH => ?_)
          · exact hH
          clear hK K
          try simp only [Act.put, List.setIfInBounds_toArray, List.set_cons_zero, List.set_cons_succ]
          refine wpAnyH_ready (rs := [4]) (by kernel_rfl) (by simp) ?_
          refine AllReadyH.cons (o := ⟨some 19, Op.buildSlice 99 1 #[(0, Operand.tmp 18)], 99, _, _, none⟩) rfl (fun K hK => ?_) AllReadyH.nil
          go_simp
          refine hK.out _ _ ?_ (fun hH => ?_)
          · exact (have B9 := (Bag.alloc BB.out _).drew; ⟨HC.out _ B9.now, B9⟩)
          clear hK K
          try simp only [Act.put, List.setIfInBounds_toArray, List.set_cons_zero, List.set_cons_succ]
          have sT := (sT0.below (Below.more (Below.refl _ _) (.cells #[.slice a1 n1 c1, .bool m1] 28))).below (Below.refl _ _).drew
          refine wpAnyH_ready (rs := [5]) (by kernel_rfl) (by simp) ?_
          refine AllReadyH.cons (o := ⟨some 20, Op.call { callee := Callee.value (Operand.func 33), args := #[Operand.tmp 16, Operand.tmp 19], argTypes := #[28, 99] }, 28, _, _, none⟩) rfl (fun K hK => ?_) AllReadyH.nil
          go_simp
          (go_at_call 33; (with_reducible refine (T1.out _ _ ?_ ?_).mono ?_); exact hH.2.now.2.2.2.1.int; (apply IntsAt.old1; (exact (Below.refl _ _).drew); (first | rfl | focus (simp; done)); exact hH.2.now.2.2.1.int); rintro e wy5 ⟨a5, n5, c5, m5, rfl, hi5, hbz⟩); have sT := sT.below hbz
          refine hK.out _ _ ?_ (fun hH => ?_)
          · exact (have B9 := Bag.go hH.2 hbz; ⟨HC.out _ B9.now, B9⟩)
          clear hK K
          try simp only [Act.put, List.setIfInBounds_toArray, List.set_cons_zero, List.set_cons_succ]
          refine wpAnyH_ready (rs := [7]) (by kernel_rfl) (by simp) ?_
          refine AllReadyH.cons (o := ⟨some 22, Op.call { callee := Callee.value (Operand.func 34), args := #[Operand.tmp 21], argTypes := #[30] }, 26, _, _, none⟩) rfl (fun K hK => ?_) AllReadyH.nil
          go_simp
          (go_at_call 34; (with_reducible refine (BT.out _ hH.2.now.2.2.2.1).mono ?_); rintro e wy7 ⟨a6, n6, c6, rfl, hn6, hbz⟩); have sT := sT.below hbz
          refine hK.out _ _ ?_ (fun hH => ?_)
          · exact (have B9 := Bag.go hH.2 hbz; ⟨HC.out _ B9.now, B9⟩)
          clear hK K
          try simp only [Act.put, List.setIfInBounds_toArray, List.set_cons_zero, List.set_cons_succ]
          refine wpAnyH_ready (rs := [9]) (by kernel_rfl) (by simp) ?_
          refine AllReadyH.cons (o := ⟨some 24, Op.call { callee := Callee.value (Operand.func 34), args := #[Operand.tmp 23], argTypes := #[30] }, 26, _, _, none⟩) rfl (fun K hK => ?_) AllReadyH.nil
          go_simp
          (go_at_call 34; (with_reducible refine (BT'.out _ hH.2.now.2.2.1).mono ?_); rintro e wy9 ⟨a7, n7, c7, rfl, hn7, hbz⟩); have sT := sT.below hbz; have hb9 := hbz
          refine hK.out _ _ ?_ (fun hH => ?_)
          · exact (have B9 := Bag.go hH.2 hbz; ⟨HC.out _ B9.now, B9⟩)
          clear hK K
          try simp only [Act.put, List.setIfInBounds_toArray, List.set_cons_zero, List.set_cons_succ]
          refine wpAnyH_ready (rs := [10]) (by kernel_rfl) (by simp) ?_
          refine AllReadyH.cons (o := ⟨some 25, Op.call { callee := Callee.value (Operand.func 35), args := #[Operand.tmp 22, Operand.tmp 24], argTypes := #[26, 26] }, 26, _, _, none⟩) rfl (fun K hK => ?_) AllReadyH.nil
          go_simp
          (go_at_call 35; (with_reducible refine (ML.out _ _ _ _ _ _ _ (hn6.below hb9) hn7).mono ?_); rintro e wy10 ⟨a8, n8, c8, rfl, hn8, hbz⟩); have sT := sT.below hbz
          refine hK.out _ _ ?_ (fun hH => ?_)
          · exact (have B9 := Bag.go hH.2 hbz; ⟨HC.out _ B9.now, B9⟩)
          clear hK K
          try simp only [Act.put, List.setIfInBounds_toArray, List.set_cons_zero, List.set_cons_succ]
          refine wpAnyH_ready (rs := [11]) (by kernel_rfl) (by simp) ?_
          refine AllReadyH.cons (o := ⟨some 26, Op.call { callee := Callee.value (Operand.func 32), args := #[Operand.tmp 20, Operand.tmp 25], argTypes := #[28, 26] }, 30, _, _, none⟩) rfl (fun K hK => ?_) AllReadyH.nil
          go_simp
          (go_at_call 32; (with_reducible refine (LW.out _ _ _ _ _ _ _ _ (IntAt.below hi5 (by refine Below.step (by assumption) ?_; refine Below.step (by assumption) ?_; refine Below.step (by assumption) ?_; exact Below.refl _ _)) hn8).mono ?_); rintro e wy11 ⟨a9, n9, c9, m9, a10, n10, c10, rfl, hr, hbz⟩); have sT := sT.below hbz
          refine hK.out _ _ ?_ (fun hH => ?_)
          · exact (have B9 := Bag.go hH.2 hbz; ⟨HC.out _ B9.now, B9⟩)
          clear hK K
          try simp only [Act.put, List.setIfInBounds_toArray, List.set_cons_zero, List.set_cons_succ]
          refine wpAnyH_ready (rs := [12]) (by kernel_rfl) (by simp) ?_
          refine AllReadyH.cons (o := ⟨none, Op.store 30 (Operand.tmp 5) (Operand.tmp 26), 0, _, _, none⟩) rfl (fun K hK => ?_) AllReadyH.nil
          have l0 := sT.cell
          have l1 := sT.cell1
          have l2 := sT.cell2
          have f0 := sT.free
          have f1 := sT.free1
          have f2 := sT.free2
          have B9s := HP.out _ _ _ _ _ _ _ _ sT hH.2 a9 n9 c9 m9 a10 n10 c10
          have hRP : RPL w _ W := HQ.out _ _ _ _ _ _ _ _ sT hH.2 a9 n9 c9 m9 a10 n10 c10 hr
          go_simp
          refine hK.out _ _ ?_ (fun hH => ?_)
          · exact ⟨HC.out _ B9s.now, B9s⟩
          clear hK K
          try simp only [Act.put, List.setIfInBounds_toArray, List.set_cons_zero, List.set_cons_succ]
          refine wpAnyH_done (by kernel_rfl) ?_ _
          refine NoPanic.normal ?_
          exact TL _ _ _ _ _ _ _ _ _ _ _ _ _ _ _ _ _ _ _ _ _ _ hRP
        refine AllReadyH.cons (o := ⟨some 19, Op.buildSlice 99 1 #[(0, Operand.tmp 18)], 99, _, _, none⟩) rfl (fun K hK => ?_) ?_
        · go_simp
          refine hK.out _ _ ?_ (fun hH => ?_)
          · exact (have B9 := (Bag.alloc BB.out _).drew; ⟨HC.out _ B9.now, B9⟩)
          clear hK K
          try simp only [Act.put, List.setIfInBounds_toArray, List.set_cons_zero, List.set_cons_succ]
          have sT := (sT0.below (Below.more (Below.refl _ _) (.cells #[.slice a1 n1 c1, .bool m1] 28))).below (Below.refl _ _).drew
          refine wpAnyH_ready (rs := [1]) (by kernel_rfl) (by simp) ?_
          refine AllReadyH.cons (o := ⟨some 16, Op.load 28 (Operand.tmp 15), 28, _, _, none⟩) rfl (fun K hK => ?_) AllReadyH.nil
          have l0 := sT.cell
          have l1 := sT.cell1
          have l2 := sT.cell2
          go_simp
          refine hK.out _ _ ?_ (fun hH => ?_)
          · exact hH
          clear hK K
          try simp only [Act.put, List.setIfInBounds_toArray, List.set_cons_zero, List.set_cons_succ]
          refine wpAnyH_ready (rs := [5]) (by kernel_rfl) (by simp) ?_
          refine AllReadyH.cons (o := ⟨some 20, Op.call { callee := Callee.value (Operand.func 33), args := #[Operand.tmp 16, Operand.tmp 19], argTypes := #[28, 99] }, 28, _, _, none⟩) rfl (fun K hK => ?_) AllReadyH.nil
          go_simp
          (go_at_call 33; (with_reducible refine (T1.out _ _ ?_ ?_).mono ?_); exact hH.2.now.2.2.2.1.int; (apply IntsAt.old1; (exact (Below.refl _ _).drew); (first | rfl | focus (simp; done)); exact hH.2.now.2.2.1.int); rintro e wy5 ⟨a5, n5, c5, m5, rfl, hi5, hbz⟩); have sT := sT.below hbz
          refine hK.out _ _ ?_ (fun hH => ?_)
          · exact (have B9 := Bag.go hH.2 hbz; ⟨HC.out _ B9.now, B9⟩)
          clear hK K
          try simp only [Act.put, List.setIfInBounds_toArray, List.set_cons_zero, List.set_cons_succ]
          refine wpAnyH_ready (rs := [7]) (by kernel_rfl) (by simp) ?_
          refine AllReadyH.cons (o := ⟨some 22, Op.call { callee := Callee.value (Operand.func 34), args := #[Operand.tmp 21], argTypes := #[30] }, 26, _, _, none⟩) rfl (fun K hK => ?_) AllReadyH.nil
          go_simp
          (go_at_call 34; (with_reducible refine (BT.out _ hH.2.now.2.2.2.1).mono ?_); rintro e wy7 ⟨a6, n6, c6, rfl, hn6, hbz⟩); have sT := sT.below hbz
          refine hK.out _ _ ?_ (fun hH => ?_)
          · exact (have B9 := Bag.go hH.2 hbz; ⟨HC.out _ B9.now, B9⟩)
          clear hK K
          try simp only [Act.put, List.setIfInBounds_toArray, List.set_cons_zero, List.set_cons_succ]
          refine wpAnyH_ready (rs := [9]) (by kernel_rfl) (by simp) ?_
          refine AllReadyH.cons (o := ⟨some 24, Op.call { callee := Callee.value (Operand.func 34), args := #[Operand.tmp 23], argTypes := #[30] }, 26, _, _, none⟩) rfl (fun K hK => ?_) AllReadyH.nil
          go_simp
          (go_at_call 34; (with_reducible refine (BT'.out _ hH.2.now.2.2.1).mono ?_); rintro e wy9 ⟨a7, n7, c7, rfl, hn7, hbz⟩); have sT := sT.below hbz; have hb9 := hbz
          refine hK.out _ _ ?_ (fun hH => ?_)
          · exact (have B9 := Bag.go hH.2 hbz; ⟨HC.out _ B9.now, B9⟩)
          clear hK K
          try simp only [Act.put, List.setIfInBounds_toArray, List.set_cons_zero, List.set_cons_succ]
          refine wpAnyH_ready (rs := [10]) (by kernel_rfl) (by simp) ?_
          refine AllReadyH.cons (o := ⟨some 25, Op.call { callee := Callee.value (Operand.func 35), args := #[Operand.tmp 22, Operand.tmp 24], argTypes := #[26, 26] }, 26, _, _, none⟩) rfl (fun K hK => ?_) AllReadyH.nil
          go_simp
          (go_at_call 35; (with_reducible refine (ML.out _ _ _ _ _ _ _ (hn6.below hb9) hn7).mono ?_); rintro e wy10 ⟨a8, n8, c8, rfl, hn8, hbz⟩); have sT := sT.below hbz
          refine hK.out _ _ ?_ (fun hH => ?_)
          · exact (have B9 := Bag.go hH.2 hbz; ⟨HC.out _ B9.now, B9⟩)
          clear hK K
          try simp only [Act.put, List.setIfInBounds_toArray, List.set_cons_zero, List.set_cons_succ]
          refine wpAnyH_ready (rs := [11]) (by kernel_rfl) (by simp) ?_
          refine AllReadyH.cons (o := ⟨some 26, Op.call { callee := Callee.value (Operand.func 32), args := #[Operand.tmp 20, Operand.tmp 25], argTypes := #[28, 26] }, 30, _, _, none⟩) rfl (fun K hK => ?_) AllReadyH.nil
          go_simp
          (go_at_call 32; (with_reducible refine (LW.out _ _ _ _ _ _ _ _ (IntAt.below hi5 (by refine Below.step (by assumption) ?_; refine Below.step (by assumption) ?_; refine Below.step (by assumption) ?_; exact Below.refl _ _)) hn8).mono ?_); rintro e wy11 ⟨a9, n9, c9, m9, a10, n10, c10, rfl, hr, hbz⟩); have sT := sT.below hbz
          refine hK.out _ _ ?_ (fun hH => ?_)
          · exact (have B9 := Bag.go hH.2 hbz; ⟨HC.out _ B9.now, B9⟩)
          clear hK K
          try simp only [Act.put, List.setIfInBounds_toArray, List.set_cons_zero, List.set_cons_succ]
          refine wpAnyH_ready (rs := [12]) (by kernel_rfl) (by simp) ?_
          refine AllReadyH.cons (o := ⟨none, Op.store 30 (Operand.tmp 5) (Operand.tmp 26), 0, _, _, none⟩) rfl (fun K hK => ?_) AllReadyH.nil
          have l0 := sT.cell
          have l1 := sT.cell1
          have l2 := sT.cell2
          have f0 := sT.free
          have f1 := sT.free1
          have f2 := sT.free2
          have B9s := HP.out _ _ _ _ _ _ _ _ sT hH.2 a9 n9 c9 m9 a10 n10 c10
          have hRP : RPL w _ W := HQ.out _ _ _ _ _ _ _ _ sT hH.2 a9 n9 c9 m9 a10 n10 c10 hr
          go_simp
          refine hK.out _ _ ?_ (fun hH => ?_)
          · exact ⟨HC.out _ B9s.now, B9s⟩
          clear hK K
          try simp only [Act.put, List.setIfInBounds_toArray, List.set_cons_zero, List.set_cons_succ]
          refine wpAnyH_done (by kernel_rfl) ?_ _
          refine NoPanic.normal ?_
          exact TL _ _ _ _ _ _ _ _ _ _ _ _ _ _ _ _ _ _ _ _ _ _ hRP
        exact AllReadyH.nil
      exact AllReadyH.nil
    · obtain rfl : k = ln := by omega
      obtain ⟨hbl, hrs, a3, n3, c3, m3, a4, n4, c4, hs3, hi3⟩ := hr
      have p0 := hs3.cell
      have p1 := hs3.cell1
      have p2 := hs3.cell2
      have r0 := hrs.cell
      have r1 := hrs.cell1
      have r2 := hrs.cell2
      have g0 := hrs.free
      have g1 := hrs.free1
      have g2 := hrs.free2
      have HS := hrs.set (.slice a3 n3 c3) (.bool m3) (.slice a4 n4 c4)
      have HE := Lib.hid (RatTold.done hbl (by omega) hrs hi3)
      clear hbl hrs hi3 hs3 q0 q1 q2
      go_wp2
      exact bodyPost_ret (v := .agg #[.slice a3 n3 c3, .bool m3, .slice a4 n4 c4]) (by simp [results, Tryz.results9, go_sem, HS]) rfl HE.out

end Go.Proofs.YtocifhahfeajiaaGreatDoor
