/-
  Package ratio: Plus, by contract.
-/
import Derived.Test.YtocifhahfeajiaaGreatDoorRa6
namespace Go.Proofs.YtocifhahfeajiaaGreatDoor
open Go.RowKit
attribute [local go_sem ↓] Go.wp_at_zero Go.wp_at_succ

/-- A row of numbers. -/
def RatsAt (w : World) (sa : Option Addr) (n c : Nat) (fP : Nat → Int) (fQ : Nat → Nat) : Prop := n ≤ c ∧ n ≤ 1000 ∧ (n = 0 ∨ ∃ b off, sa = some ⟨b, off, none⟩ ∧ b < w.heap.size ∧
  ∀ j, j < n → ∃ a' n' c' m' a2' n2' c2', w.cell? ⟨b, off + j * 3, none⟩ = some (.slice a' n' c') ∧ w.cell? ⟨b, off + j * 3 + 1, none⟩ = some (.bool m') ∧ w.cell? ⟨b, off + j * 3 + 2, none⟩ = some (.slice a2' n2' c2') ∧ RatAt w a' n' c' m' a2' n2' c2' (fP j) (fQ j))
theorem RatsAt.below {w w' : World} {sa : Option Addr} {n c : Nat} {fP : Nat → Int} {fQ : Nat → Nat} (h : RatsAt w sa n c fP fQ) (hb : Below w.heap.size w w') : RatsAt w' sa n c fP fQ := by
  obtain ⟨h0, h1, h2⟩ := h
  refine ⟨h0, h1, ?_⟩
  rcases h2 with h2 | ⟨b, off, rfl, hl, hc⟩
  · exact .inl h2
  · refine .inr ⟨b, off, rfl, Nat.lt_of_lt_of_le hl hb.size, fun j hj => ?_⟩
    obtain ⟨a', n', c', m', a2', n2', c2', e1, e2, e3, hr⟩ := hc j hj
    exact ⟨a', n', c', m', a2', n2', c2', (hb.cell (p := ⟨b, _, none⟩) hl).trans e1, (hb.cell (p := ⟨b, _, none⟩) hl).trans e2, (hb.cell (p := ⟨b, _, none⟩) hl).trans e3, hr.below hb⟩
theorem RatsAt.get {w : World} {sa : Option Addr} {n c : Nat} {fP : Nat → Int} {fQ : Nat → Nat} (h : RatsAt w sa n c fP fQ) {j : Nat} (hj : j < n) :
    ∃ b off a' n' c' m' a2' n2' c2', sa = some ⟨b, off, none⟩ ∧ b < w.heap.size ∧ w.cell? ⟨b, off + j * 3, none⟩ = some (.slice a' n' c') ∧ w.cell? ⟨b, off + j * 3 + 1, none⟩ = some (.bool m') ∧ w.cell? ⟨b, off + j * 3 + 2, none⟩ = some (.slice a2' n2' c2') ∧ RatAt w a' n' c' m' a2' n2' c2' (fP j) (fQ j) := by
  obtain ⟨h0, h1, h2⟩ := h
  rcases h2 with h2 | ⟨b, off, rfl, hl, hc⟩
  · omega
  · obtain ⟨a', n', c', m', a2', n2', c2', e⟩ := hc j hj
    exact ⟨b, off, a', n', c', m', a2', n2', c2', rfl, hl, e⟩
theorem RatsAt.nought (w : World) (fP : Nat → Int) (fQ : Nat → Nat) : RatsAt w none 0 0 fP fQ := ⟨Nat.le_refl _, by omega, .inl rfl⟩
/-- A row of one number, made some steps ago. -/
theorem RatsAt.old1 {wk w : World} {k : Nat} {a : Option Addr} {n c : Nat} {m : Bool} {a2 : Option Addr} {n2 c2 : Nat} {P : Int} {Q : Nat} {t : TypeId}
    (hb : Below (wk.alloc (.cells #[.slice a n c, .bool m, .slice a2 n2 c2] t)).heap.size (wk.alloc (.cells #[.slice a n c, .bool m, .slice a2 n2 c2] t)) w)
    (hk : wk.heap.size = k) (h : RatAt w a n c m a2 n2 c2 P Q) : RatsAt w (some ⟨k, 0, none⟩) 1 1 (fun _ => P) (fun _ => Q) := by
  subst hk
  have hs := (Slot3.new wk (.slice a n c) (.bool m) (.slice a2 n2 c2) t).below hb
  refine ⟨Nat.le_refl _, by omega, .inr ⟨_, 0, rfl, hs.lt, fun j hj => ?_⟩⟩
  obtain rfl : j = 0 := by omega
  exact ⟨a, n, c, m, a2, n2, c2, hs.cell, hs.cell1, hs.cell2, h⟩

/-- The sum of the first ones. -/
def sumS (P : Int) (Q : Nat) (fP : Nat → Int) (fQ : Nat → Nat) : Nat → Int × Nat
  | 0 => (P, Q)
  | k + 1 => (plP (sumS P Q fP fQ k).1 (sumS P Q fP fQ k).2 (fP k) (fQ k), plQ (sumS P Q fP fQ k).1 (sumS P Q fP fQ k).2 (fP k) (fQ k))
theorem sumS_pos {P : Int} {Q : Nat} {fP : Nat → Int} {fQ : Nat → Nat} (hQ : 0 < Q) : ∀ k, (∀ j, j < k → 0 < fQ j) → 0 < (sumS P Q fP fQ k).2
  | 0, _ => hQ
  | k + 1, h => loQ_pos _ (Nat.mul_pos (sumS_pos hQ k fun j hj => h j (by omega)) (h k (by omega)))

def RPL (w wr : World) (V : Int × Nat) : Prop := Below w.heap.size w wr ∧ Slot3 wr (w.heap.size + 1) (.slice none 0 0) (.bool false) (.slice none 0 0) ∧ ∃ a n c m a2 n2 c2, Slot3 wr (w.heap.size + 1 + 1) (.slice a n c) (.bool m) (.slice a2 n2 c2) ∧ RatAt wr a n c m a2 n2 c2 V.1 V.2

set_option maxHeartbeats 3200000 in
set_option maxRecDepth 100000 in
theorem ratPlus_any (a : Option Addr) (n c : Nat) (m : Bool) (a2 : Option Addr) (n2 c2 : Nat) (P : Int) (Q : Nat) (sa : Option Addr) (ln lc : Nat) (fP : Nat → Int) (fQ : Nat → Nat) (w : World) (h : RatAt w a n c m a2 n2 c2 P Q) (g : RatsAt w sa ln lc fP fQ)
    (hQ : 0 < Q) (hfQ : ∀ j, j < ln → 0 < fQ j) (K : Nat) (hK : K ≤ 200000)
    (hb : ∀ k, k < ln → (sumS P Q fP fQ k).1.natAbs < 4294967296 ^ K ∧ (sumS P Q fP fQ k).2 < 4294967296 ^ K ∧ (fP k).natAbs < 4294967296 ^ K ∧ fQ k < 4294967296 ^ K) :
    Calls Tryz.prog 11 #[.agg #[.slice a n c, .bool m, .slice a2 n2 c2], .slice sa ln lc] w fun e w' => RatTold w w' e (sumS P Q fP fQ ln).1 (sumS P Q fP fQ ln).2 := by
  have B0 := (((((Bag.start w).rat h).box3 (.slice a n c) (.bool m) (.slice a2 n2 c2) 30).box3 (.slice none 0 0) (.bool false) (.slice none 0 0) 30)).box3 (.slice a n c) (.bool m) (.slice a2 n2 c2) 30
  simp only [World.size_alloc] at B0
  have H0 : Hid (RPL w _ (sumS P Q fP fQ 0)) := ⟨B0.below, B0.now.2.1, a, n, c, m, a2, n2, c2, B0.now.1, B0.now.2.2.2.1⟩
  have q0 := B0.now.2.2.1.cell
  have q1 := B0.now.2.2.1.cell1
  have q2 := B0.now.2.2.1.cell2
  have HG := Lib.hid g
  have hln : ln ≤ 1000 ∧ ln ≤ lc := ⟨g.2.1, g.1⟩
  have HB := Lib.hid hb
  have HP : Hid (∀ k, k ≤ ln → 0 < (sumS P Q fP fQ k).2) := fun k hk => sumS_pos hQ k fun j hj => hfQ j (by omega)
  have HF := Lib.hid hfQ
  clear B0 h g hb hQ hfQ
  go_enter Tryz.func11, Tryz.ntmps11
  go_wp2
  go_loopw [11] (fun i wr => ∃ k : Nat, k ≤ ln ∧ i = .int .i64 k ∧ RPL w wr (sumS P Q fP fQ k)) (fun i _ => ln - (intOf i).toNat)
  case atStart => exact ⟨0, by omega, rfl, H0.out⟩
  case round =>
    obtain ⟨k, hk, rfl, hr⟩ := hrel
    by_cases hlt : k < ln
    · obtain ⟨hbl, hrs, a3, n3, c3, m3, a4, n4, c4, hs3, hi3⟩ := hr
      obtain ⟨b, off, a', n', c', m', a2', n2', c2', rfl, hlb, e1, e2, e3, hi'⟩ := (HG.out.below hbl).get hlt
      have B1 := (((((Bag.start wr).rat hi3).rat hi').slot3 hrs).slot3 hs3).box3 (.slice a' n' c') (.bool m') (.slice a2' n2' c2') 30
      have HBK := HB.out k hlt
      have PO1 := Lib.hid (ratPlusOne_any a3 n3 c3 m3 a4 n4 c4 (sumS P Q fP fQ k).1 (sumS P Q fP fQ k).2 a' n' c' m' a2' n2' c2' (fP k) (fQ k) _ B1.now.2.2.2.2.1 B1.now.2.2.2.1 (HP.out k (by omega)) (HF.out k hlt) K hK HBK.1 HBK.2.1 HBK.2.2.1 HBK.2.2.2)
      have HBL := Lib.hid hbl
      have p0 := B1.now.2.1.cell
      have p1 := B1.now.2.1.cell1
      have p2 := B1.now.2.1.cell2
      have BB := Lib.hid B1
      have hwr : w.heap.size ≤ wr.heap.size := hbl.size
      clear hbl hrs hi3 hi' B1 HBK hs3 q0 q1 q2
      go_wp2_with fail
      go_at_call 37
      (with_reducible refine PO1.out.mono ?_)
      rintro e w4 ⟨a5, n5, c5, m5, a6, n6, c6, rfl, hi5, hb5⟩
      have B5 := BB.out.go hb5
      have hs5 := B5.now.2.1
      have hc1 := hs5.cell
      have hc2 := hs5.cell1
      have hc3 := hs5.cell2
      have hf1 := hs5.free
      have hf2 := hs5.free1
      have hf3 := hs5.free2
      have hb6 := HBL.out.trans (B5.below.mono hwr)
      have HN : Hid (RPL w (((w4.setCell ⟨w.heap.size + 1 + 1, 0, none⟩ (.slice a5 n5 c5)).setCell ⟨w.heap.size + 1 + 1, 1, none⟩ (.bool m5)).setCell ⟨w.heap.size + 1 + 1, 2, none⟩ (.slice a6 n6 c6)) (sumS P Q fP fQ (k + 1))) := by
        have hd := RatTold.done (w := w) (k := w.heap.size + 1 + 1) hb6 (by omega) hs5 hi5
        obtain ⟨x1, x2, x3, x4, x5, x6, x7, he, hr, hbx⟩ := hd
        cases he
        exact ⟨hbx, B5.now.2.2.1.set3o (by omega) _ _ _, a5, n5, c5, m5, a6, n6, c6, (hs5.set2 (.slice a5 n5 c5) (.bool m5)).set1 (.slice a6 n6 c6), hr⟩
      clear hb5 hi5 B5 hs5 hb6 p0 p1 p2
      go_wp2
      go_roundw
      case rel => exact ⟨k + 1, by omega, by go_num, HN.out⟩
      case measure => simp [intOf]; omega
    · obtain rfl : k = ln := by omega
      obtain ⟨hbl, hrs, a3, n3, c3, m3, a4, n4, c4, hs3, hi3⟩ := hr
      have p0 := hs3.cell
      have p1 := hs3.cell1
      have p2 := hs3.cell2
      have r0 := hrs.cell
      have r1 := hrs.cell1
      have r2 := hrs.cell2
      have g0 := hrs.free
      have g1 := hrs.free1
      have g2 := hrs.free2
      have HS := hrs.set (.slice a3 n3 c3) (.bool m3) (.slice a4 n4 c4)
      have HE := Lib.hid (RatTold.done hbl (by omega) hrs hi3)
      clear hbl hrs hi3 hs3 q0 q1 q2
      go_wp2
      exact bodyPost_ret (v := .agg #[.slice a3 n3 c3, .bool m3, .slice a4 n4 c4]) (by simp [results, Tryz.results11, go_sem, HS]) rfl HE.out

end Go.Proofs.YtocifhahfeajiaaGreatDoor
