/-
  Package nat: Mul, by contract, over the numbers that they are.
-/
import Derived.Test.YtkjdoknmmiaapaaDoorNat15
namespace Go.Proofs.YtkjdoknmmiaapaaDoor
open Go.RowKit

structure MulInv (w wr : World) (x y : Value) (pb m na : Nat) (A : Nat) (g : Nat → Nat) (i : Nat) : Prop where
  below : Below w.heap.size w wr
  s1 : Slot wr w.heap.size x
  s2 : Slot wr (w.heap.size + 1) y
  s3 : Slot wr (w.heap.size + 1 + 1) (.slice none 0 0)
  lt : pb < wr.heap.size
  free : Free wr pb
  row : ∃ d, Cells wr .u32 pb 0 m d ∧ (∀ j, j < m → d j < 4294967296) ∧ val d (i + na) = A * val g i ∧ ∀ j, i + na ≤ j → d j = 0

theorem MulInv.next {w wr w2 : World} {x y : Value} {pb m na A : Nat} {f g : Nat → Nat} {i : Nat} {d : Nat → Nat} (h : MulInv w wr x y pb m na A g i) (hpb : w.heap.size + 3 ≤ pb) (hA : val f na = A) (hm : i + (na + 1) ≤ m)
    (hd : Cells wr .u32 pb 0 m d) (hdv : val d (i + na) = A * val g i) (hd0 : ∀ j, i + na ≤ j → d j = 0) (hdb : ∀ j, j < m → d j < 4294967296)
    (hr : RowU pb i (m - i) (fun j => d (i + j)) wr w2 (fun j => na < j) (MulEnd (fun j => d (i + j)) f (g i) na)) : MulInv w w2 x y pb m na A g (i + 1) := by
  obtain ⟨hw, hf, e, he, heb, heu, hev⟩ := hr
  have hne : ∀ k, k < w.heap.size + 3 → k ≠ pb := fun k hk => by omega
  obtain ⟨d2, hda, hdn⟩ : ∃ d2 : Nat → Nat, (∀ j, i ≤ j ∧ j < m → d2 j = e (j - i)) ∧ (∀ j, ¬ (i ≤ j ∧ j < m) → d2 j = d j) := ⟨fun j => if i ≤ j ∧ j < m then e (j - i) else d j, fun j hj => if_pos hj, fun j hj => if_neg hj⟩
  refine ⟨hw.below h.below (by omega) h.below.size, h.s1.wrote hw (hne _ (by omega)), h.s2.wrote hw (hne _ (by omega)), h.s3.wrote hw (hne _ (by omega)), Nat.lt_of_lt_of_le h.lt hw.size, hf, d2, ?_, ?_, ?_, ?_⟩
  · intro j hj
    rw [Nat.zero_add]
    by_cases c : i ≤ j ∧ j < m
    · rw [hda j c]
      have := he (j - i) (by omega)
      rw [show i + (j - i) = j by omega] at this
      exact this
    · rw [hdn j c, hw.cell j (by omega)]
      have := hd j hj
      rw [Nat.zero_add] at this
      exact this
  · intro j hj
    by_cases c : i ≤ j ∧ j < m
    · rw [hda j c]; exact heb _ (by omega)
    · rw [hdn j c]; exact hdb j hj
  · unfold MulEnd at hev
    rw [show i + 1 + na = i + (na + 1) by omega, val_shift, val_congr i (f := d2) (g := d) (fun j hj => hdn j (by omega)),
      val_congr (na + 1) (f := fun j => d2 (i + j)) (g := e) (fun j hj => by show d2 (i + j) = _; rw [hda _ (by omega), Nat.add_sub_cancel_left]), hev, hA, val]
    rw [val_shift] at hdv
    rw [Nat.mul_add, Nat.mul_add]
    have e1 : A * (g i * 4294967296 ^ i) = 4294967296 ^ i * (g i * A) := by rw [Nat.mul_comm A, Nat.mul_comm (4294967296 ^ i), Nat.mul_right_comm]
    omega
  · intro j hj
    by_cases c : i ≤ j ∧ j < m
    · rw [hda j c]
      have := heu (j - i) (by omega)
      rw [this]
      show d (i + (j - i)) = 0
      exact hd0 _ (by omega)
    · rw [hdn j c]; exact hd0 j (by omega)

set_option maxHeartbeats 1600000 in
set_option maxRecDepth 100000 in
theorem mul_core (a : Option Addr) (n c : Nat) (f : Nat → Nat) (a2 : Option Addr) (n2 c2 : Nat) (g : Nat → Nat) (w : World) (hs : SlAt w .u32 4294967296 a n c f) (hs2 : SlAt w .u32 4294967296 a2 n2 c2 g) (hl : n + n2 ≤ 1000000) :
    Calls Tryd.prog 39 #[.agg #[.slice a n c], .agg #[.slice a2 n2 c2]] w fun e w' => NatOut w w' e (val f n * val g n2) := by
  obtain ⟨m, hm⟩ : ∃ m, n + n2 = m := ⟨_, rfl⟩
  have e1 : (n : Int) + (n2 : Int) = (m : Int) := by omega
  obtain ⟨z, hz1, hz2, hmk⟩ := make_u32 m (by omega)
  obtain ⟨s1, s2, s3, hB⟩ := slot3 w (.slice a n c) (.slice a2 n2 c2) (.slice none 0 0) 25
  have hst : MulInv w ((((w.alloc (.cells #[.slice a n c] 25)).alloc (.cells #[.slice a2 n2 c2] 25)).alloc (.cells #[.slice none 0 0] 25)).alloc (.cells z.toArray 86)) (.slice a n c) (.slice a2 n2 c2) (w.heap.size + 1 + 1 + 1) m n (val f n) g 0 := by
    have hn := heap_new (((w.alloc (.cells #[.slice a n c] 25)).alloc (.cells #[.slice a2 n2 c2] 25)).alloc (.cells #[.slice none 0 0] 25)) (.cells z.toArray 86)
    rw [World.size_alloc, World.size_alloc, World.size_alloc] at hn
    refine ⟨hB.alloc hB.size _, s1.alloc _, s2.alloc _, s3.alloc _, by rw [World.size_alloc, World.size_alloc, World.size_alloc, World.size_alloc]; omega, Free.of_block hn, fun _ => 0, Cells.of_block hn hz2, fun _ _ => by show 0 < _; omega, ?_, fun _ _ => rfl⟩
    have : ∀ k, val (fun _ => 0) k = 0 := fun k => by induction k with
      | zero => rfl
      | succ k ih => rw [val, ih]; omega
    rw [this]; simp [val]
  have hml : m ≤ 1000000 := by omega
  have HST := Lib.hid hst
  have HS := Lib.hid hs
  have HS2 := Lib.hid hs2
  have HM := Lib.hid hm
  clear hst hs hs2 hm hz1 hz2 s1 s2 s3 hB hl
  obtain ⟨A, hA⟩ : ∃ A, val f n = A := ⟨_, rfl⟩
  rw [hA] at HST ⊢
  have HA := Lib.hid hA
  clear hA
  go_enter Tryd.func39, Tryd.ntmps39
  go_wp2
  go_loopw [18] (fun i wr => ∃ k : Nat, k ≤ n2 ∧ i = .int .i64 k ∧ MulInv w wr (.slice a n c) (.slice a2 n2 c2) (w.heap.size + 1 + 1 + 1) m n A g k)
    (fun i _ => n2 - (intOf i).toNat)
  case atStart => exact ⟨0, by omega, rfl, HST.out⟩
  case round =>
    obtain ⟨k, hk, rfl, hr⟩ := hrel
    by_cases hlt : k < n2
    · obtain ⟨d, hd, hdb, hdv, hd0⟩ := hr.row
      obtain ⟨b2, off2, rfl, _, hg1, hgl⟩ := (HS2.out.below hr.below).limb hlt
      have hc1 := hr.s1.cell
      have hc2 := hr.s2.cell
      have hmm := HM.out
      have hcd : Cells wr.drew .u32 (w.heap.size + 1 + 1 + 1) k (m - k) (fun j => d (k + j)) := fun j hj => by
        have := hd (k + j) (by omega)
        rw [Nat.zero_add] at this
        exact this
      have hcall := addTimes_any (w.heap.size + 1 + 1 + 1) k (m - k) (m - k) (fun j => d (k + j)) a n c f (g k) wr.drew hr.free hcd (fun j hj => hdb _ (by omega)) (by omega) (HS.out.below hr.below.drew) (fun x hx => by have := HS.out.old x hx; omega) hgl (by omega)
      have HCALL := Lib.hid hcall
      have hnx : ∀ w2, RowU (w.heap.size + 1 + 1 + 1) k (m - k) (fun j => d (k + j)) wr.drew w2 (fun j => n < j) (MulEnd (fun j => d (k + j)) f (g k) n) → MulInv w w2 (.slice a n c) (.slice (some ⟨b2, off2, none⟩) n2 c2) (w.heap.size + 1 + 1 + 1) m n A g (k + 1) := fun w2 h =>
        MulInv.next (wr := wr) (d := d) hr (by omega) HA.out (by omega) hd hdv hd0 hdb ⟨(Wrote.refl _ _ _ _).drew.trans h.1, h.2⟩
      have HNX := Lib.hid hnx
      have t2 : (k : Int) ≤ (m : Int) := by omega
      have t3 : (k : Int) < (n2 : Int) := by omega
      have t0 : (0 : Int) ≤ (k : Int) := by omega
      clear hcall hnx hcd hd hdb hdv hd0 hr
      go_wp2_with fail
      refine wp_region_still_tail 10 (by kernel_rfl) (by kernel_rfl) ?_
      simp only [List.take_succ_cons, List.take_zero, List.drop_succ_cons, List.drop_zero]
      repeat still_step
      refine wpStill_nil ?_
      change wpList _ _ _ _ _ wr.drew
      go_wp2_with fail
      go_at_call 85
      refine HCALL.out.mono ?_
      rintro e w2 ⟨rfl, hrow⟩
      have HN2 := Lib.hid (HNX.out w2 hrow)
      clear hrow hc1 hc2 hg1
      go_wp2
      go_roundw
      case rel => exact ⟨k + 1, by omega, by go_num, HN2.out⟩
      case measure => simp [intOf]; omega
    · obtain rfl : k = n2 := by omega
      obtain ⟨d, hd, hdb, hdv, _⟩ := hr.row
      have hmm := HM.out
      rw [Nat.add_comm, hmm] at hdv
      have HSL : Hid (SlAt wr .u32 4294967296 (some ⟨w.heap.size + 1 + 1 + 1, 0, none⟩) m m d) := ⟨Nat.le_refl _, hml, hdb, .inr ⟨_, 0, rfl, hr.lt, hd⟩⟩
      have HDV := Lib.hid hdv
      have HB := Lib.hid hr.below
      have S3 := Lib.hid hr.s3
      clear hr hd hdb hdv hmm
      go_wp2_with fail
      go_at_call 72
      refine (trimmed_pl _ m m d wr HSL.out).mono ?_
      rintro e w4 ⟨a3, n3, c3, f3, rfl, hs3, hv3, ht3, hp3, hb4⟩
      have X3 := S3.out.below hb4
      have HEND := natOut_store (u := .slice a3 n3 c3) (k := w.heap.size + 1 + 1) (HB.out.trans (hb4.mono HB.out.size)) (by omega) hs3 (hv3.trans HDV.out) ht3 (by rintro x rfl; rcases hp3 with h | h <;> cases h; simp)
      have hc4 := X3.cell
      have hf4 := X3.free
      have HE := Lib.hid HEND
      clear hs3 hv3 ht3 hb4 hp3 X3 HEND
      go_wp2
      exact bodyPost_ret (v := .agg #[.slice a3 n3 c3]) (by simp [results, Tryd.results39, go_sem, hc4]) rfl HE.out

theorem mul_any (v u : Value) (N M : Nat) (w : World) (h : NatIs w v N) (g : NatIs w u M) (k : Nat) (hk : k ≤ 400000) (hN : N < 4294967296 ^ k) (hM : M < 4294967296 ^ k) : Calls Tryd.prog 39 #[v, u] w fun e w' => NatOut w w' e (N * M) := by
  obtain ⟨a, n, c, f, rfl, hs, hv, ht⟩ := h
  obtain ⟨a2, n2, c2, f2, rfl, hs2, hv2, ht2⟩ := g
  have hl := NatIs.short hv ht hN
  have hl2 := NatIs.short hv2 ht2 hM
  rw [← hv, ← hv2]
  exact mul_core a n c f a2 n2 c2 f2 w hs hs2 (by omega)

end Go.Proofs.YtkjdoknmmiaapaaDoor
