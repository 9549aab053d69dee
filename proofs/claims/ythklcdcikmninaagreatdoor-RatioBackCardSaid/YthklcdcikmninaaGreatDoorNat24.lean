/-
  Package nat: Gcd, by contract.
-/
import Derived.Test.YthklcdcikmninaaGreatDoorK7
import Derived.Test.YthklcdcikmninaaGreatDoorWh10
namespace Go.Proofs.YthklcdcikmninaaGreatDoor
open Go.RowKit

/-- The number whose limbs a cell leads to. -/
def readN (w : World) (k : Nat) : Nat :=
  match w.cell? ⟨k, 0, none⟩ with
  | some (.slice (some ad) n _) => val (fun j => match w.cell? ⟨ad.block, ad.off + j, none⟩ with
    | some (.int _ x) => x.toNat
    | _ => 0) n
  | _ => 0
theorem readN_is {w : World} {k : Nat} {a : Option Addr} {n c N : Nat} (hs : Slot w k (.slice a n c)) (h : NatIs w (.agg #[.slice a n c]) N) : readN w k = N := by
  obtain ⟨a', n', c', f, e, ⟨h1, h2, h3, h4⟩, hv, ht⟩ := h
  cases e
  unfold readN
  rw [hs.cell]
  rcases h4 with ⟨rfl, hc⟩ | ⟨b, off, rfl, hb, hcc⟩
  · have hn : n = 0 := by omega
    subst hn
    simp only []
    rw [← hv]; rfl
  · simp only []
    rw [← hv]
    refine val_congr n (fun j hj => ?_)
    rw [hcc j hj]
    simp

/-- At the head of Gcd's loop. -/
def GI (w wr : World) (A B : Nat) : Prop := Below w.heap.size w wr ∧ ∃ a n c a2 n2 c2, Slot wr w.heap.size (.slice a n c) ∧ NatIs wr (.agg #[.slice a n c]) A ∧ Slot wr (w.heap.size + 1) (.slice a2 n2 c2) ∧ NatIs wr (.agg #[.slice a2 n2 c2]) B ∧ Slot wr (w.heap.size + 1 + 1) (.slice none 0 0)

set_option maxHeartbeats 1600000 in
set_option maxRecDepth 100000 in
theorem gcd_any (a0 : Option Addr) (n0 c0 : Nat) (b0 : Option Addr) (m0 d0 : Nat) (X Y : Nat) (w : World) (h : NatIs w (.agg #[.slice a0 n0 c0]) X) (g : NatIs w (.agg #[.slice b0 m0 d0]) Y)
    (K : Nat) (hK : K ≤ 900000) (hX : X < 4294967296 ^ K) (hY : Y < 4294967296 ^ K) :
    Calls Tryz.prog 44 #[.agg #[.slice a0 n0 c0], .agg #[.slice b0 m0 d0]] w fun e w' => NatOf3 w w' e (Nat.gcd X Y) := by
  have B0 := ((((Bag.start w).nat h).nat g).box (.slice a0 n0 c0) 26).box (.slice b0 m0 d0) 26 |>.box (.slice none 0 0) 26
  simp only [World.size_alloc] at B0
  have H0 : Hid (GI w _ X Y) := ⟨B0.below, a0, n0, c0, b0, m0, d0, B0.now.2.2.1, B0.now.2.2.2.2.1, B0.now.2.1, B0.now.2.2.2.1, B0.now.1⟩
  have HXY : Hid (X < 4294967296 ^ K ∧ Y < 4294967296 ^ K) := ⟨hX, hY⟩
  clear B0 h g hX hY
  go_enter Tryz.func44, Tryz.ntmps44
  go_wp2
  go_loopw [] (fun wr => ∃ A B : Nat, GI w wr A B ∧ Hid (Nat.gcd A B = Nat.gcd X Y ∧ A < 4294967296 ^ K ∧ B < 4294967296 ^ K)) (fun wr => readN wr (w.heap.size + 1))
  case atStart => exact ⟨X, Y, H0.out, rfl, HXY.out.1, HXY.out.2⟩
  case round =>
    obtain ⟨A, B, ⟨hbl, a, n, c, a2, n2, c2, s1, i1, s2, i2, s3⟩, hh⟩ := hrel
    by_cases h0 : B = 0
    · have HZ := Lib.hid (zero_any _ B wr i2)
      rw [decide_eq_true h0] at HZ
      have hAg : A = Nat.gcd X Y := by have := hh.out.1; rw [h0, Nat.gcd_zero_right] at this; exact this
      subst hAg
      have BB := Lib.hid ((((((⟨hbl, fun _ _ _ _ => trivial, trivial⟩ : Bag w (fun _ => True) wr).slot s3).slot s2).slot s1).nat i1))
      have q2 := s2.cell
      clear h0 s1 s2 s3 i1 i2 hbl hh
      go_wp2_with fail
      go_at_call 35
      (with_reducible refine HZ.out.mono ?_)
      rintro e w1 ⟨rfl, hb1⟩
      have B1 := BB.out.go hb1
      have BB := Lib.hid B1
      obtain ⟨_, _, _, f, he, hs, hv, ht⟩ := B1.now.1
      cases he
      have hnl := NatIs.len hs
      have HS := Lib.hid hs
      have HV := Lib.hid hv
      clear hb1 B1 hs hv ht q2
      have q1 := BB.out.now.2.1.cell
      go_wp2_with fail
      go_at_call 51
      refine (copied_own a n c f n w1 HS.out (Nat.le_refl _) hnl).mono ?_
      rintro e w2 ⟨b, rfl, ho, hb2⟩
      have hbb : w.heap.size + 1 + 1 < b := Nat.lt_of_lt_of_le BB.out.now.2.2.2.1.lt ho.ge
      have BB := Lib.hid (BB.out.go hb2)
      obtain ⟨gg, hg, hgv⟩ := ho.slAt hnl
      have HG := Lib.hid hg
      have HGV := Lib.hid (hgv.trans HV.out)
      clear ho hb2 hg hgv q1
      go_wp2_with fail
      go_at_call 48
      refine (trimmed_pl _ n n gg w2 HG.out).mono ?_
      rintro e w3 ⟨a3, n3, c3, f3, rfl, hs3, hv3, ht3, hp3, hb3⟩
      have B3 := BB.out.go hb3
      have hc4 := B3.now.2.2.2.1.cell
      have hf4 := B3.now.2.2.2.1.free
      have HE := Lib.hid (natOut_store (u := .slice a3 n3 c3) (k := w.heap.size + 1 + 1) B3.below (by omega) hs3 (hv3.trans HGV.out) ht3 (by rintro x rfl; rcases hp3 with h | h <;> cases h; simp; omega)).three
      clear hs3 hv3 ht3 hb3 hp3 B3
      go_wp2
      exact bodyPost_ret (v := .agg #[.slice a3 n3 c3]) (by simp [results, Tryz.results44, go_sem, hc4]) rfl HE.out
    · have HZ := Lib.hid (zero_any _ B wr i2)
      rw [decide_eq_false h0] at HZ
      have DM : Hid (∀ wz, NatIs wz (.agg #[.slice a n c]) A → NatIs wz (.agg #[.slice a2 n2 c2]) B → Calls Tryz.prog 45 #[.agg #[.slice a n c], .agg #[.slice a2 n2 c2]] wz fun e w' => DivOf3 wz w' e (A / B) (A % B) true) := fun wz h g => (divMod_any _ _ _ _ wz h g K hK hh.out.2.1).mono fun _ _ h => by
        have := h.three (b := true) (by simp; exact h0)
        unfold modz at this
        rw [if_neg h0] at this
        exact this
      have hlt : A % B < B := Nat.mod_lt _ (Nat.pos_of_ne_zero h0)
      have HH : Hid (Nat.gcd B (A % B) = Nat.gcd X Y ∧ B < 4294967296 ^ K ∧ A % B < 4294967296 ^ K) := ⟨by rw [Nat.gcd_comm B, ← Nat.gcd_rec, Nat.gcd_comm]; exact hh.out.1, hh.out.2.2, by have := hh.out.2.2; omega⟩
      have HR : Hid (readN wr (w.heap.size + 1) = B) := readN_is s2 i2
      have HL := Lib.hid hlt
      have BB := Lib.hid ((((((⟨hbl, fun _ _ _ _ => trivial, trivial⟩ : Bag w (fun _ => True) wr).slot s3).slot s2).slot s1).nat i2).nat i1)
      have q2 := s2.cell
      clear h0 s1 s2 s3 i1 i2 hbl hh hlt
      go_wp2_with fail
      go_at_call 35
      (with_reducible refine HZ.out.mono ?_)
      rintro e w1 ⟨rfl, hb1⟩
      have BB := Lib.hid (BB.out.go hb1)
      clear hb1 q2
      have q1 := BB.out.now.2.2.1.cell
      have q2 := BB.out.now.2.2.2.1.cell
      go_wp2_with fail
      go_at_call 45
      (with_reducible refine (DM.out _ BB.out.now.1 BB.out.now.2.1).mono ?_)
      rintro e w2 ⟨aq, nq, cq, ar, nr, cr, rfl, hiq, hir, hb2⟩
      have hks : w.heap.size + 1 + 1 < w2.heap.size := (BB.out.go hb2).now.2.2.2.2.1.lt
      have B2 := (((BB.out.go hb2).nat hir).box (.slice aq nq cq) 26).box (.slice ar nr cr) 26
      rw [World.size_alloc] at B2
      clear hiq hir hb2 q1 q2
      obtain ⟨t6, t5, ir, ia, ib, t1, t2, t3, _⟩ := B2.now
      have c1 := t1.cell
      have f1 := t1.free
      have c2' := t2.cell
      have f2 := t2.free
      have c6 := t6.cell
      have HN : Hid (GI w (((((w2.alloc (.cells #[.slice aq nq cq] 26)).alloc (.cells #[.slice ar nr cr] 26)).setCell ⟨w.heap.size, 0, none⟩ (.slice a2 n2 c2)).setCell ⟨w.heap.size + 1, 0, none⟩ (.slice ar nr cr)).drew) B (A % B)) := by
        have u1 := t1.set1 (.slice a2 n2 c2)
        have u2 := t2.other (k := w.heap.size) (.slice a2 n2 c2) (by omega)
        have u3 := t3.other (k := w.heap.size) (.slice a2 n2 c2) (by omega)
        have jb := ib.storeAt t1.cell (fun _ _ h => by cases h) (.slice a2 n2 c2)
        have jr := ir.storeAt t1.cell (fun _ _ h => by cases h) (.slice a2 n2 c2)
        exact ⟨((B2.below.setCell (Nat.le_refl _) _).setCell (show w.heap.size ≤ w.heap.size + 1 by omega) _).drew, a2, n2, c2, ar, nr, cr, (u1.other (k := w.heap.size + 1) (.slice ar nr cr) (by omega)).below (Below.refl _ _).drew, (jb.storeAt u2.cell (fun _ _ h => by cases h) _).below (Below.refl _ _).drew, (u2.set1 (.slice ar nr cr)).below (Below.refl _ _).drew, (jr.storeAt u2.cell (fun _ _ h => by cases h) _).below (Below.refl _ _).drew, (u3.other (k := w.heap.size + 1) (.slice ar nr cr) (by omega)).below (Below.refl _ _).drew⟩
      have HM : Hid (readN (((((w2.alloc (.cells #[.slice aq nq cq] 26)).alloc (.cells #[.slice ar nr cr] 26)).setCell ⟨w.heap.size, 0, none⟩ (.slice a2 n2 c2)).setCell ⟨w.heap.size + 1, 0, none⟩ (.slice ar nr cr)).drew) (w.heap.size + 1) < readN wr (w.heap.size + 1)) := by
        show _ < _
        obtain ⟨_, x1, x2, x3, y1, y2, y3, _, _, v1, v2, _⟩ := HN.out
        rw [HR.out, readN_is v1 v2]; exact HL.out
      clear t6 t5 ir ia ib t1 t2 t3 B2
      go_wp2_with fail
      go_region
      all_goals
        go_wp2
        go_roundw
        case rel => exact ⟨B, A % B, HN.out, HH.out⟩
        case measure => exact HM.out

end Go.Proofs.YthklcdcikmninaaGreatDoor
