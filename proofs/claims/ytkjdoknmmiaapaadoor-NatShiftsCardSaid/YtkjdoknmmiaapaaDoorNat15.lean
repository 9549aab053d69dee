/-
  Package nat: Add, Sub, Mul, by contract, over the numbers that they are.
-/
import Derived.Test.YtkjdoknmmiaapaaDoorNat14
namespace Go.Proofs.YtkjdoknmmiaapaaDoor
open Go.RowKit

theorem val_pad' {p : Nat → Nat} {pn n : Nat} (h : pn ≤ n) : val (fun j => if j < pn then p j else 0) n = val p pn := by rw [val_pad, Nat.min_eq_right h]

theorem addTo_own (w0 : World) (b n cs N : Nat) (pa : Option Addr) (pn pc : Nat) (p : Nat → Nat) (w : World) (h : Own w0 w b n N) (hn : n ≤ 1000000) (hp : SlAt w .u32 4294967296 pa pn pc p) (hne : ∀ x, pa = some x → x.block < w0.heap.size) (hpn : pn ≤ n)
    (hfit : N + val p pn < 4294967296 ^ n) :
    Calls Tryd.prog 82 #[.slice (some ⟨b, 0, none⟩) n cs, .slice pa pn pc] w fun e w' => e = .returned (.tuple #[]) ∧ Own w0 w' b n (N + val p pn) ∧ Wrote b 0 n w w' := by
  obtain ⟨f, h1, h2, h3⟩ := h.row
  refine (addTo_any b 0 n cs f pa pn pc p w h.free h1 h2 hn hp (fun x hx => by have := hne x hx; have := h.ge; omega)).mono ?_
  rintro e w' ⟨rfl, c, hw, hf, d, hd, hb, _, hc, hR⟩
  rw [Nat.zero_add] at hw
  rw [val_pad' hpn, h3] at hR
  refine ⟨rfl, ⟨h.ge, Nat.lt_of_lt_of_le h.lt hw.size, hf, d, hd, hb, ?_⟩, hw⟩
  rcases Nat.eq_zero_or_pos c with h0 | h0
  · subst h0; omega
  · have : 1 * 4294967296 ^ n ≤ c * 4294967296 ^ n := Nat.mul_le_mul_right _ h0
    omega

theorem take_own (w0 : World) (b n cs N : Nat) (pa : Option Addr) (pn pc : Nat) (p : Nat → Nat) (w : World) (h : Own w0 w b n N) (hn : n ≤ 1000000) (hp : SlAt w .u32 4294967296 pa pn pc p) (hne : ∀ x, pa = some x → x.block < w0.heap.size) (hpn : pn ≤ n)
    (hfit : val p pn ≤ N) :
    Calls Tryd.prog 80 #[.slice (some ⟨b, 0, none⟩) n cs, .slice pa pn pc, .int .u32 1] w fun e w' => (∃ t, e = .returned (.bool t)) ∧ Own w0 w' b n (N - val p pn) ∧ Wrote b 0 n w w' := by
  obtain ⟨f, h1, h2, h3⟩ := h.row
  refine (takeTimes_any b 0 n cs f pa pn pc p 1 w h.free h1 h2 hn hp (fun x hx => by have := hne x hx; have := h.ge; omega) (by omega)).mono ?_
  rintro e w' ⟨c, hi, rfl, hw, hf, d, hd, hb, _, hc, hle, hR⟩
  rw [Nat.zero_add] at hw
  rw [val_pad' hpn, h3] at hR
  have := take_fits hR (val_lt d n hb) (by omega)
  exact ⟨⟨_, rfl⟩, ⟨h.ge, Nat.lt_of_lt_of_le h.lt hw.size, hf, d, hd, hb, by omega⟩, hw⟩

theorem NatIs.len {w : World} {a : Option Addr} {n c : Nat} {f : Nat → Nat} (hs : SlAt w .u32 4294967296 a n c f) : n ≤ 1000000 := by have := hs.1; have := hs.2.1; omega

theorem SlAt.old {w : World} {ki : IntKind} {m : Nat} {a : Option Addr} {n c : Nat} {f : Nat → Nat} (h : SlAt w ki m a n c f) : ∀ x, a = some x → x.block < w.heap.size := by
  intro x hx
  rcases h.2.2.2 with ⟨h4, _⟩ | ⟨b, off, h4, h5, _⟩
  · rw [h4] at hx; cases hx
  · rw [h4] at hx; cases hx; exact h5

/-- A number of the call's own, as one is told. -/
def NatOut (w w' : World) (e : Ending) (N : Nat) : Prop := ∃ v, e = .returned v ∧ NatIs w' v N ∧ Below w.heap.size w w'

/-- A cell of the call's own: what it holds, and that it may be written. -/
structure Slot (w : World) (k : Nat) (v : Value) : Prop where
  cell : w.cell? ⟨k, 0, none⟩ = some v
  free : w.frozen? ⟨k, 0, none⟩ = false
  lt : k < w.heap.size
theorem Slot.below {w w' : World} {k : Nat} {v : Value} (h : Slot w k v) (hb : Below w.heap.size w w') : Slot w' k v :=
  ⟨(hb.cell (p := ⟨k, 0, none⟩) h.lt).trans h.cell, (hb.frozen (p := ⟨k, 0, none⟩) h.lt).trans h.free, Nat.lt_of_lt_of_le h.lt hb.size⟩
theorem Slot.wrote {w w' : World} {k b lo hi : Nat} {v : Value} (h : Slot w k v) (hb : Wrote b lo hi w w') (hne : k ≠ b) : Slot w' k v := by
  have e := hb.block k h.lt hne
  exact ⟨(World.cell?_of_block (w := w) (w' := w') (a := ⟨k, 0, none⟩) e).trans h.cell, (World.frozen?_of_block (w := w) (w' := w') (a := ⟨k, 0, none⟩) e).trans h.free, Nat.lt_of_lt_of_le h.lt hb.size⟩

theorem trimmed_pl (a : Option Addr) (n c : Nat) (f : Nat → Nat) (w : World) (h : SlAt w .u32 4294967296 a n c f) :
    Calls Tryd.prog 72 #[.slice a n c] w fun e w' => ∃ a' n' c' f', e = .returned (.agg #[.slice a' n' c']) ∧ SlAt w' .u32 4294967296 a' n' c' f' ∧ val f' n' = val f n ∧ (n' = 0 ∨ f' (n' - 1) ≠ 0) ∧ (a' = none ∨ a' = a) ∧ Below w.heap.size w w' := by
  refine (trimmed_any a n c f w h).mono ?_
  rintro e w' ⟨rfl, hb⟩
  unfold trimV
  by_cases h0 : tl f n = 0
  · rw [if_pos h0]
    exact ⟨none, 0, 0, f, rfl, SlAt.nil _ _ _ _, by rw [← tl_val f n, h0], .inl rfl, .inl rfl, hb⟩
  · rw [if_neg h0]
    exact ⟨a, tl f n, c, f, rfl, (h.take (tl_le f n)).below hb, tl_val f n, tl_last f n, .inr rfl, hb⟩

theorem natOut_store {w w3 : World} {k : Nat} {a : Option Addr} {n c : Nat} {f : Nat → Nat} {N : Nat} (hb : Below w.heap.size w w3) (hk : w.heap.size ≤ k) (hs : SlAt w3 .u32 4294967296 a n c f) (hv : val f n = N) (ht : n = 0 ∨ f (n - 1) ≠ 0)
    (hd : ∀ x, a = some x → x.block ≠ k) (u : Value) : NatOut w (w3.setCell ⟨k, 0, none⟩ u) (.returned (.agg #[.slice a n c])) N :=
  ⟨_, rfl, ⟨a, n, c, f, rfl, hs.wrote ((Wrote.refl k 0 1 w3).setCell (Nat.le_refl _) (by omega) u) hd, hv, ht⟩, hb.setCell hk u⟩

theorem Slot.new (w : World) (x : Value) (t : TypeId) : Slot (w.alloc (.cells #[x] t)) w.heap.size x :=
  ⟨by rw [World.cell?_alloc_new]; rfl, World.frozen?_alloc_new _ _ _ _, by rw [World.size_alloc]; omega⟩
theorem Slot.alloc {w : World} {k : Nat} {v : Value} (h : Slot w k v) (o : Obj) : Slot (w.alloc o) k v := h.below ((Below.refl _ _).alloc (Nat.le_refl _) _)
theorem Slot.new1 (w : World) (o : Obj) (x : Value) (t : TypeId) : Slot ((w.alloc o).alloc (.cells #[x] t)) (w.heap.size + 1) x := by
  have := Slot.new (w.alloc o) x t; rw [World.size_alloc] at this; exact this
theorem Slot.new2 (w : World) (o o' : Obj) (x : Value) (t : TypeId) : Slot (((w.alloc o).alloc o').alloc (.cells #[x] t)) (w.heap.size + 1 + 1) x := by
  have := Slot.new ((w.alloc o).alloc o') x t; rw [World.size_alloc, World.size_alloc] at this; exact this
theorem below2 (w : World) (o o' : Obj) : Below w.heap.size w ((w.alloc o).alloc o') := ((Below.refl _ _).alloc (Nat.le_refl _) _).alloc (by rw [World.size_alloc]; omega) _
theorem below3 (w : World) (o o' o2 : Obj) : Below w.heap.size w (((w.alloc o).alloc o').alloc o2) := (below2 w o o').alloc (by rw [World.size_alloc, World.size_alloc]; omega) _

theorem slot3 (w : World) (x y z : Value) (t : TypeId) : Slot (((w.alloc (.cells #[x] t)).alloc (.cells #[y] t)).alloc (.cells #[z] t)) w.heap.size x ∧ Slot (((w.alloc (.cells #[x] t)).alloc (.cells #[y] t)).alloc (.cells #[z] t)) (w.heap.size + 1) y ∧
    Slot (((w.alloc (.cells #[x] t)).alloc (.cells #[y] t)).alloc (.cells #[z] t)) (w.heap.size + 1 + 1) z ∧ Below w.heap.size w (((w.alloc (.cells #[x] t)).alloc (.cells #[y] t)).alloc (.cells #[z] t)) :=
  ⟨((Slot.new w x t).alloc _).alloc _, (Slot.new1 w _ y t).alloc _, Slot.new2 w _ _ z t, below3 w _ _ _⟩

theorem NatIs.short {n : Nat} {f : Nat → Nat} {N k : Nat} (hv : val f n = N) (ht : n = 0 ∨ f (n - 1) ≠ 0) (hN : N < 4294967296 ^ k) : n ≤ k := by
  rcases Nat.lt_or_ge k n with h | h
  · have h1 := val_top f n (by omega) (ht.resolve_left (by omega))
    have h2 := pow_mono32 (show k ≤ n - 1 by omega)
    omega
  · exact h

set_option maxHeartbeats 800000 in
set_option maxRecDepth 100000 in
theorem add_core (a : Option Addr) (n c : Nat) (f : Nat → Nat) (a2 : Option Addr) (n2 c2 : Nat) (f2 : Nat → Nat) (w : World) (hs : SlAt w .u32 4294967296 a n c f) (hs2 : SlAt w .u32 4294967296 a2 n2 c2 f2) (hl : n + 1 ≤ 1000000) (hl2 : n2 + 1 ≤ 1000000) :
    Calls Tryd.prog 35 #[.agg #[.slice a n c], .agg #[.slice a2 n2 c2]] w fun e w' => NatOut w w' e (val f n + val f2 n2) := by
  by_cases hlt : n < n2
  · obtain ⟨m, hm⟩ : ∃ m, n2 + 1 = m := ⟨_, rfl⟩
    have e1 : (n2 : Int) + 1 = (m : Int) := by omega
    have hfit : val f2 n2 + val f n < 4294967296 ^ m := by
      have h1 := val_lt f n hs.2.2.1
      have h2 := val_lt f2 n2 hs2.2.2.1
      have h3 := pow_mono32 (show n ≤ n2 by omega)
      rw [← hm, pow_succ32]; omega
    have hmm : m ≤ 1000000 ∧ n2 ≤ m ∧ n ≤ m := by omega
    have HS := Lib.hid hs
    have HS2 := Lib.hid hs2
    have HF := Lib.hid hfit
    have HM := Lib.hid hmm
    clear hs hs2 hfit hm hmm
    go_enter Tryd.func35, Tryd.ntmps35
    go_wp2_with fail
    go_at_call 73
    obtain ⟨s1, s2, s3, hB⟩ := slot3 w (.slice a2 n2 c2) (.slice a n c) (.slice none 0 0) 25
    refine (copied_own a2 n2 c2 f2 m _ (HS2.out.below hB) HM.out.2.1 HM.out.1).mono ?_
    rintro e w1 ⟨b, rfl, ho, hb⟩
    have S2 := Lib.hid (s2.below hb)
    have S3 := Lib.hid (s3.below hb)
    have HB := Lib.hid (hB.trans (hb.mono hB.size))
    have hbn : w.heap.size + 3 ≤ b := by have := ho.ge; simp at this; omega
    have HO : Hid (Own w w1 b m (val f2 n2)) := ⟨by omega, ho.lt, ho.free, ho.row⟩
    have hc1 := S2.out.cell
    clear ho hb s1 s2 s3 hB
    go_wp2_with fail
    go_at_call 82
    refine (addTo_own w b m m (val f2 n2) a n c f w1 HO.out HM.out.1 (HS.out.below HB.out) HS.out.old HM.out.2.2 HF.out).mono ?_
    rintro e w2 ⟨rfl, ho2, hw2⟩
    obtain ⟨g, hg, hgv⟩ := ho2.slAt HM.out.1
    have HG := Lib.hid hg
    have HGV := Lib.hid hgv
    have T3 := Lib.hid (S3.out.wrote hw2 (by omega))
    have HB2 : Hid (Below w.heap.size w w2) := hw2.below HB.out HO.out.ge HB.out.size
    clear hg hgv ho2 hw2 hc1
    go_wp2_with fail
    go_at_call 72
    refine (trimmed_pl _ m m g w2 HG.out).mono ?_
    rintro e w3 ⟨a3, n3, c3, f3, rfl, hs3, hv3, ht3, hp3, hb3⟩
    have U3 := T3.out.below hb3
    have HEND := natOut_store (u := .slice a3 n3 c3) (k := w.heap.size + 1 + 1) (HB2.out.trans (hb3.mono HB2.out.size)) (by omega) hs3 (hv3.trans HGV.out) ht3 (by rintro x rfl; rcases hp3 with h | h <;> cases h; simp; omega)
    have hc4 := U3.cell
    have hf4 := U3.free
    rw [Nat.add_comm (val f2 n2)] at HEND
    have HE := Lib.hid HEND
    clear hs3 hv3 ht3 hb3 hp3 U3 HEND
    go_wp2
    exact bodyPost_ret (v := .agg #[.slice a3 n3 c3]) (by simp [results, Tryd.results35, go_sem, hc4]) rfl HE.out
  · obtain ⟨m, hm⟩ : ∃ m, n + 1 = m := ⟨_, rfl⟩
    have e1 : (n : Int) + 1 = (m : Int) := by omega
    have hfit : val f n + val f2 n2 < 4294967296 ^ m := by
      have h1 := val_lt f n hs.2.2.1
      have h2 := val_lt f2 n2 hs2.2.2.1
      have h3 := pow_mono32 (show n2 ≤ n by omega)
      rw [← hm, pow_succ32]; omega
    have hmm : m ≤ 1000000 ∧ n ≤ m ∧ n2 ≤ m := by omega
    have HS := Lib.hid hs
    have HS2 := Lib.hid hs2
    have HF := Lib.hid hfit
    have HM := Lib.hid hmm
    clear hs hs2 hfit hm hmm
    go_enter Tryd.func35, Tryd.ntmps35
    go_wp2_with fail
    go_at_call 73
    obtain ⟨s1, s2, s3, hB⟩ := slot3 w (.slice a n c) (.slice a2 n2 c2) (.slice none 0 0) 25
    refine (copied_own a n c f m _ (HS.out.below hB) HM.out.2.1 HM.out.1).mono ?_
    rintro e w1 ⟨b, rfl, ho, hb⟩
    have S2 := Lib.hid (s2.below hb)
    have S3 := Lib.hid (s3.below hb)
    have HB := Lib.hid (hB.trans (hb.mono hB.size))
    have hbn : w.heap.size + 3 ≤ b := by have := ho.ge; simp at this; omega
    have HO : Hid (Own w w1 b m (val f n)) := ⟨by omega, ho.lt, ho.free, ho.row⟩
    have hc1 := S2.out.cell
    clear ho hb s1 s2 s3 hB
    go_wp2_with fail
    go_at_call 82
    refine (addTo_own w b m m (val f n) a2 n2 c2 f2 w1 HO.out HM.out.1 (HS2.out.below HB.out) HS2.out.old HM.out.2.2 HF.out).mono ?_
    rintro e w2 ⟨rfl, ho2, hw2⟩
    obtain ⟨g, hg, hgv⟩ := ho2.slAt HM.out.1
    have HG := Lib.hid hg
    have HGV := Lib.hid hgv
    have T3 := Lib.hid (S3.out.wrote hw2 (by omega))
    have HB2 : Hid (Below w.heap.size w w2) := hw2.below HB.out HO.out.ge HB.out.size
    clear hg hgv ho2 hw2 hc1
    go_wp2_with fail
    go_at_call 72
    refine (trimmed_pl _ m m g w2 HG.out).mono ?_
    rintro e w3 ⟨a3, n3, c3, f3, rfl, hs3, hv3, ht3, hp3, hb3⟩
    have U3 := T3.out.below hb3
    have HEND := natOut_store (u := .slice a3 n3 c3) (k := w.heap.size + 1 + 1) (HB2.out.trans (hb3.mono HB2.out.size)) (by omega) hs3 (hv3.trans HGV.out) ht3 (by rintro x rfl; rcases hp3 with h | h <;> cases h; simp; omega)
    have hc4 := U3.cell
    have hf4 := U3.free
    skip
    have HE := Lib.hid HEND
    clear hs3 hv3 ht3 hb3 hp3 U3 HEND
    go_wp2
    exact bodyPost_ret (v := .agg #[.slice a3 n3 c3]) (by simp [results, Tryd.results35, go_sem, hc4]) rfl HE.out

theorem add_any (v u : Value) (N M : Nat) (w : World) (h : NatIs w v N) (g : NatIs w u M) (k : Nat) (hk : k ≤ 900000) (hN : N < 4294967296 ^ k) (hM : M < 4294967296 ^ k) : Calls Tryd.prog 35 #[v, u] w fun e w' => NatOut w w' e (N + M) := by
  obtain ⟨a, n, c, f, rfl, hs, hv, ht⟩ := h
  obtain ⟨a2, n2, c2, f2, rfl, hs2, hv2, ht2⟩ := g
  have hl := NatIs.short hv ht hN
  have hl2 := NatIs.short hv2 ht2 hM
  rw [← hv, ← hv2]
  exact add_core a n c f a2 n2 c2 f2 w hs hs2 (by omega) (by omega)

/-- A difference, or none. -/
def SubOut (w w' : World) (e : Ending) (N M : Nat) : Prop := ∃ v, e = .returned (.tuple #[v, .bool (decide (M ≤ N))]) ∧ NatIs w' v (N - M) ∧ Below w.heap.size w w'

theorem cmp_neg {N M : Nat} (h : N < M) : cmpI N M = -1 := by unfold cmpI; rw [if_pos h]
theorem cmp_pos {N M : Nat} (h : M ≤ N) : ∃ k : Nat, cmpI N M = (k : Int) := by
  unfold cmpI; rw [if_neg (by omega)]; split
  · exact ⟨0, rfl⟩
  · exact ⟨1, rfl⟩

set_option maxHeartbeats 800000 in
set_option maxRecDepth 100000 in
theorem sub_any (v u : Value) (N M : Nat) (w : World) (h : NatIs w v N) (g : NatIs w u M) : Calls Tryd.prog 32 #[v, u] w fun e w' => SubOut w w' e N M := by
  have HC := fun w1 (hb : Below w.heap.size w w1) => cmp_any v u N M w1 (h.below hb) (g.below hb)
  obtain ⟨a, n, c, f, rfl, hs, hv, ht⟩ := h
  obtain ⟨a2, n2, c2, f2, rfl, hs2, hv2, ht2⟩ := g
  obtain ⟨s1, s2, s3, hB⟩ := slot3 w (.slice a n c) (.slice a2 n2 c2) (.slice none 0 0) 25
  by_cases hlt : N < M
  · have hcm := cmp_neg hlt
    rw [hcm] at HC
    have HC2 := Lib.hid HC
    have HB := Lib.hid hB
    have S3 := Lib.hid s3
    have HLT := Lib.hid hlt
    clear HC hcm hs hs2 hv hv2 ht ht2 s1 s2 s3 hB hlt
    go_enter Tryd.func32, Tryd.ntmps32
    go_wp2_with fail
    go_at_call 37
    refine (HC2.out _ HB.out).mono ?_
    rintro e w1 ⟨rfl, hb1⟩
    have t3 := S3.out.below hb1
    have hc3 := t3.cell
    have hf3 := t3.free
    have HEND : SubOut w (w1.setCell ⟨w.heap.size + 1 + 1, 0, none⟩ (.slice none 0 0)) (.returned (.tuple #[.agg #[.slice none 0 0], .bool false])) N M := by
      have h0 : N - M = 0 := by have := HLT.out; omega
      have h1 : decide (M ≤ N) = false := by have := HLT.out; simp; omega
      refine ⟨_, by rw [h1], by rw [h0]; exact NatIs.zero _, (HB.out.trans (hb1.mono HB.out.size)).setCell (by simp; omega) _⟩
    have HE := Lib.hid HEND
    clear hb1 t3 HEND
    go_wp2
    exact bodyPost_ret (v := .tuple #[.agg #[.slice none 0 0], .bool false]) (by simp [results, Tryd.results32, go_sem, hc3]) rfl HE.out
  · obtain ⟨k, hk⟩ := cmp_pos (show M ≤ N by omega)
    rw [hk] at HC
    have hlen : n2 ≤ n := by
      rcases Nat.lt_or_ge n n2 with h | h
      · have := nat_len_lt hs.2.2.1 ht2 h; omega
      · exact h
    have hnl := NatIs.len hs
    have HC2 := Lib.hid HC
    have HB := Lib.hid hB
    have S1 := Lib.hid s1
    have S2 := Lib.hid s2
    have S3 := Lib.hid s3
    have HLT := Lib.hid hlt
    have HS := Lib.hid hs
    have HS2 := Lib.hid hs2
    have HV := Lib.hid hv
    have HV2 := Lib.hid hv2
    clear HC hk hs hs2 hv hv2 ht ht2 s1 s2 s3 hB hlt
    go_enter Tryd.func32, Tryd.ntmps32
    go_wp2_with fail
    go_at_call 37
    refine (HC2.out _ HB.out).mono ?_
    rintro e w1 ⟨rfl, hb1⟩
    have HB1 := Lib.hid (HB.out.trans (hb1.mono HB.out.size))
    have T1 := Lib.hid (S1.out.below hb1)
    have T2 := Lib.hid (S2.out.below hb1)
    have T3 := Lib.hid (S3.out.below hb1)
    have hc1 := T1.out.cell
    clear hb1
    go_wp2_with fail
    go_at_call 73
    refine (copied_own a n c f n w1 (HS.out.below HB1.out) (Nat.le_refl _) hnl).mono ?_
    rintro e w2 ⟨b, rfl, ho, hb2⟩
    have U2 := Lib.hid (T2.out.below hb2)
    have U3 := Lib.hid (T3.out.below hb2)
    have HB2 := Lib.hid (HB1.out.trans (hb2.mono HB1.out.size))
    have hbn : w.heap.size + 3 ≤ b := by have := ho.ge; have := T3.out.lt; omega
    have HO : Hid (Own w w2 b n N) := ⟨by omega, ho.lt, ho.free, by rw [← HV.out]; exact ho.row⟩
    have hc2 := U2.out.cell
    clear hb2 ho hc1
    go_wp2_with fail
    go_at_call 80
    refine (take_own w b n n N a2 n2 c2 f2 w2 HO.out hnl (HS2.out.below HB2.out) HS2.out.old hlen (by rw [HV2.out]; have := HLT.out; omega)).mono ?_
    rintro e w3 ⟨⟨t, rfl⟩, ho3, hw3⟩
    obtain ⟨q, hq, hqv⟩ := ho3.slAt hnl
    have HQ := Lib.hid hq
    have HQV := Lib.hid hqv
    have V3 := Lib.hid (U3.out.wrote hw3 (by omega))
    have HB3 : Hid (Below w.heap.size w w3) := hw3.below HB2.out HO.out.ge HB2.out.size
    clear hq hqv ho3 hw3 hc2
    go_wp2_with fail
    go_at_call 72
    refine (trimmed_pl _ n n q w3 HQ.out).mono ?_
    rintro e w4 ⟨a3, n3, c3, f3, rfl, hs3, hv3, ht3, hp3, hb4⟩
    have X3 := V3.out.below hb4
    obtain ⟨v', hv', hn', hbe⟩ := natOut_store (u := .slice a3 n3 c3) (k := w.heap.size + 1 + 1) (HB3.out.trans (hb4.mono HB3.out.size)) (by omega) hs3 (hv3.trans HQV.out) ht3 (by rintro x rfl; rcases hp3 with h | h <;> cases h; simp; omega)
    have hc4 := X3.cell
    have hf4 := X3.free
    have HEND : SubOut w (w4.setCell ⟨w.heap.size + 1 + 1, 0, none⟩ (.slice a3 n3 c3)) (.returned (.tuple #[.agg #[.slice a3 n3 c3], .bool true])) N M := by
      cases hv'
      have h1 : decide (M ≤ N) = true := by have := HLT.out; simp; omega
      refine ⟨_, by rw [h1], by rw [← HV2.out]; exact hn', hbe⟩
    have HE := Lib.hid HEND
    clear hs3 hv3 ht3 hb4 hp3 X3 hv' hn' hbe HEND
    go_wp2
    exact bodyPost_ret (v := .tuple #[.agg #[.slice a3 n3 c3], .bool true]) (by simp [results, Tryd.results32, go_sem, hc4]) rfl HE.out

end Go.Proofs.YtkjdoknmmiaapaaDoor
