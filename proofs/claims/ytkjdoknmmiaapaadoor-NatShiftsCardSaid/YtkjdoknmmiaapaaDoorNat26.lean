/-
  Package nat: Shl, by contract.
-/
import Derived.Test.YtkjdoknmmiaapaaDoorNat25
import Derived.Deep.RegionLaw
import Derived.Laws.CopyOwn
namespace Go.Proofs.YtkjdoknmmiaapaaDoor
open Go.RowKit

theorem shl_split (N n : Nat) : N * 2 ^ n = 4294967296 ^ (n / 32) * (N * 2 ^ (n % 32)) := by
  rw [show (4294967296 : Nat) = 2 ^ 32 by decide, ← Nat.pow_mul, Nat.mul_left_comm, ← Nat.pow_add, Nat.div_add_mod]

theorem splice_get {z : List Value} {L len q : Nat} {g : Nat → Value} {v0 : Value} (hz : z.length = L) (hzj : ∀ j, j < L → z[j]? = some v0) (hq : q + len < L) :
    (∀ i, i < q → (splice z q ((List.range len).map g))[i]? = some v0) ∧ (∀ j, j < len → (splice z q ((List.range len).map g))[q + j]? = some (g j)) ∧ ∀ i, q + len ≤ i → i < L → (splice z q ((List.range len).map g))[i]? = some v0 := by
  have hlt : (z.take q).length = q := by rw [List.length_take]; omega
  refine ⟨fun i hi => ?_, fun j hj => ?_, fun i h1 h2 => ?_⟩
  · unfold splice
    rw [List.getElem?_append_left (by omega), List.getElem?_take_of_lt hi]
    exact hzj i (by omega)
  · unfold splice
    rw [List.getElem?_append_right (by omega), hlt, Nat.add_sub_cancel_left, List.getElem?_append_left (by simp; exact hj)]
    simp [hj]
  · unfold splice
    rw [List.getElem?_append_right (by omega), hlt, List.getElem?_append_right (by simp; omega)]
    simp only [List.length_map, List.length_range, List.getElem?_drop]
    rw [show q + len + (i - q - len) = i by omega]
    exact hzj i h2

set_option maxHeartbeats 3200000 in
set_option maxRecDepth 100000 in
theorem shl_pos (a : Option Addr) (len c N : Nat) (n : Int) (w : World) (h : NatIs w (.agg #[.slice a len c]) N) (hn : -9223372036854775808 ≤ n ∧ n ≤ 1000) (hN0 : N ≠ 0) (hlen : len ≤ 900000) :
    Calls Tryd.prog 45 #[.agg #[.slice a len c], .int .i64 n] w fun e w' => NatOf3 w w' e (N * 2 ^ shN n) := by
  have SH := Lib.hid (fun wz => shift_any n wz (by omega))
  have hsp := shl_split N (shN n)
  have hb0 : shN n ≤ 1000 := by unfold shN; omega
  obtain ⟨q, hq⟩ : ∃ q, shN n / 32 = q := ⟨_, rfl⟩
  obtain ⟨u, hu⟩ : ∃ u, shN n % 32 = u := ⟨_, rfl⟩
  rw [hq, hu] at SH hsp
  have hu32 : u < 32 := by omega
  have hql : q ≤ 32 := by omega
  have B0 := (((Bag.start w).nat h).box (.slice a len c) 25).box (.slice none 0 0) 25
  rw [World.size_alloc] at B0
  have BB := Lib.hid B0
  have HZ := Lib.hid (zero_any _ N _ B0.now.2.2.1)
  rw [decide_eq_false hN0] at HZ
  have q0 := B0.now.2.1.cell
  obtain ⟨_, _, _, f, he, hs, hv, ht⟩ := h
  cases he
  have hl0 : 0 < len := by
    rcases Nat.eq_zero_or_pos len with h0 | h0
    · subst h0; simp [val] at hv; omega
    · exact h0
  obtain ⟨b, off, rfl, hbl, hcc⟩ := hs.at hl0
  obtain ⟨L1, hL1⟩ : ∃ L1, q + len = L1 := ⟨_, rfl⟩
  obtain ⟨L, hL⟩ : ∃ L, L1 + 1 = L := ⟨_, rfl⟩
  obtain ⟨len1, hlen1⟩ : ∃ len1, L - q = len1 := ⟨_, rfl⟩
  have hl1 : len1 = len + 1 := by omega
  have e1 : (q : Int) + (len : Int) = (L1 : Int) := by omega
  have e2 : (L1 : Int) + 1 = (L : Int) := by omega
  have d1 : decide ((536870912 : Int) - (len : Int) < (q : Int)) = false := decide_eq_false (by omega)
  have nq : ¬ L = q := by omega
  have i0 : (0 : Int) ≤ (q : Int) := by omega
  have i1 : (q : Int) ≤ (L : Int) := by omega
  obtain ⟨z, hz, hzj, hmk⟩ := make_u32 L (by omega)
  have HS := Lib.hid hs
  have HV := Lib.hid hv
  have HSP := Lib.hid hsp
  have HZL := Lib.hid hz
  have HZJ := Lib.hid hzj
  have HL1 := Lib.hid hl1
  have hLb : L ≤ 1000000 := by omega
  have hqL : q + len < L := by omega
  clear hs hv ht hsp hz hzj hl1 hcc B0 hN0 hq hu
  go_enter Tryd.func45, Tryd.ntmps45
  go_wp2_with (go_at_call 86; (with_reducible refine (SH.out _).mono ?_); rintro e w2 ⟨rfl, rfl⟩)
  go_at_call 22
  (with_reducible refine HZ.out.mono ?_)
  rintro e w1 ⟨rfl, hb1⟩
  have BB := Lib.hid (BB.out.go hb1)
  clear hb1 q0
  have q0 := BB.out.now.2.1.cell
  go_wp2_with fail
  have hkk : w.heap.size + 1 < w1.heap.size := BB.out.now.1.lt
  have HG0 : Hid ((w1.alloc (.cells z.toArray 86)).drew.heap[w1.heap.size]? = some (.cells z.toArray 86 (0, 0))) := heap_new w1 _
  have HBW : Hid (Below w1.heap.size w1 (w1.alloc (.cells z.toArray 86)).drew) := ((Below.refl _ _).alloc (Nat.le_refl _) _).drew
  have hS1 := HS.out.below BB.out.below
  have HLN : Hid (((List.range len).map fun j => Value.int .u32 (f j)).length = Nat.min len len1) := by
    show _ = _
    rw [List.length_map, List.length_range]; exact (Nat.min_eq_left (by have := HL1.out; omega)).symm
  have HPOS : Hid (0 < ((List.range len).map fun j => Value.int .u32 (f j)).length → some (⟨w1.heap.size, q, none⟩ : Addr) = some ⟨w1.heap.size, q, none⟩ ∧ ∃ ad, some (⟨b, off, none⟩ : Addr) = some ad ∧ ∀ j v, ((List.range len).map fun j => Value.int .u32 (f j))[j]? = some v → (w1.alloc (.cells z.toArray 86)).drew.cell? (ad.add j) = some v) := by
    intro _
    refine ⟨rfl, _, rfl, fun j x hj => ?_⟩
    simp only [List.getElem?_eq_some_iff, List.length_map, List.length_range, List.getElem_map, List.getElem_range] at hj
    obtain ⟨hj1, rfl⟩ := hj
    obtain ⟨b', off', he, hb', hc'⟩ := hS1.at hl0
    cases he
    rw [← hc' j hj1]
    rw [show (⟨b, off, none⟩ : Addr).add j = ⟨b, off + j, none⟩ by simp [Addr.add]]
    exact World.cell?_alloc_lt w1 _ ⟨b, off + j, none⟩ hb'
  have HFIT : Hid (q + ((List.range len).map fun j => Value.int .u32 (f j)).length ≤ z.length) := by
    show _ ≤ _
    have := HZL.out; rw [List.length_map, List.length_range]; omega
  have HONE : Hid (∀ v ∈ ((List.range len).map fun j => Value.int .u32 (f j)), v.oneCell' = true) := by
    intro v hv
    simp at hv
    obtain ⟨_, _, rfl⟩ := hv
    rfl
  have q5 := (BB.out.alloc (.cells z.toArray 86)).now.2.1.cell
  clear hS1
  go_region_law (refine step_copy_splice (by rfl) (.tmp 33) (.tmp 35) 23 23 (by rfl) 86 Tryd.underlying23 (by kernel_rfl) (some ⟨w1.heap.size, q, none⟩) (some ⟨b, off, none⟩) len1 len1 len c (by simp [Act.eval]) (by simp [Act.eval]) w1.heap.size q z 86 HG0.out ((List.range len).map fun j => .int .u32 (f j)) HLN.out HPOS.out HFIT.out HONE.out w1.heap.size w1 HBW.out (Nat.le_refl _) ?_; intro w4 hg4 hb4)
  have B4 := BB.out.go hb4
  obtain ⟨p1, p2, p3⟩ := splice_get (g := fun j => Value.int .u32 (f j)) HZL.out HZJ.out hqL
  have hfree : Free w4 w1.heap.size := Free.of_block hg4.out
  have hg4l : w1.heap.size < w4.heap.size := by
    have := hg4.out
    rcases Nat.lt_or_ge w1.heap.size w4.heap.size with h | h
    · exact h
    · rw [Array.getElem?_eq_none h] at this; cases this
  have hcellq : Cells w4 .u32 w1.heap.size q len1 (fun j => if j < len then f j else 0) := by
    intro j hj
    have hl := HL1.out
    have e : w4.cell? ⟨w1.heap.size, q + j, none⟩ = (splice z q ((List.range len).map fun j => Value.int .u32 (f j)))[q + j]? := by simp [World.cell?, hg4.out]
    rw [e]
    by_cases h : j < len
    · rw [p2 j h]; simp [h]
    · rw [p3 (q + j) (by omega) (by omega)]; simp [h]
  have hcell0 : ∀ i, i < q → w4.cell? ⟨w1.heap.size, i, none⟩ = some (.int .u32 0) := by
    intro i hi
    have e : w4.cell? ⟨w1.heap.size, i, none⟩ = (splice z q ((List.range len).map fun j => Value.int .u32 (f j)))[i]? := by simp [World.cell?, hg4.out]
    rw [e]; exact p1 i hi
  have hfb : ∀ j, j < len1 → (if j < len then f j else 0) < 4294967296 := by
    intro j hj
    split
    · exact HS.out.2.2.1 j (by assumption)
    · omega
  have hl1 := HL1.out
  have SU := Lib.hid (shiftUp_any w1.heap.size q len1 len1 (fun j => if j < len then f j else 0) u w4 hfree hcellq hfb (by omega) hu32)
  have hvp : val (fun j => if j < len then f j else 0) len1 = N := by rw [val_pad, Nat.min_eq_right (by omega)]; exact HV.out
  have hfit : val (fun j => if j < len then f j else 0) len1 * 2 ^ u < 4294967296 ^ len1 := by
    rw [hvp, hl1, Nat.pow_succ]
    have h1 := val_lt f len HS.out.2.2.1
    rw [HV.out] at h1
    have h2 : (2 : Nat) ^ u < 4294967296 := by
      have := Nat.pow_le_pow_right (show 0 < 2 by omega) (show u ≤ 31 by omega)
      have e : (2 : Nat) ^ 31 = 2147483648 := by decide
      omega
    exact Nat.mul_lt_mul_of_lt_of_lt h1 h2
  have HVP := Lib.hid hvp
  have HFT := Lib.hid hfit
  have HC0 := Lib.hid hcell0
  have BB := Lib.hid B4
  have HG := Lib.hid hg4l
  clear hg4 hb4 B4 p1 p2 p3 hfree hcellq hcell0 hfb hvp hfit q0 q5 hl1
  go_wp2_with fail
  go_at_call 87
  refine SU.out.mono ?_
  rintro e w5 ⟨rfl, cc, _, hw5, hf5, d, hd, hdb, _, hR⟩
  have hvd : val d len1 = N * 2 ^ u := by rw [(up_fits hR HFT.out).2, HVP.out]
  obtain ⟨F, hF0, hF1⟩ : ∃ F : Nat → Nat, (∀ j, j < q → F j = 0) ∧ ∀ j, F (q + j) = d j :=
    ⟨fun j => if j < q then 0 else d (j - q), fun j h => if_pos h, fun j => by show (if q + j < q then 0 else d (q + j - q)) = d j; rw [if_neg (by omega), Nat.add_sub_cancel_left]⟩
  have hsl5 : SlAt w5 .u32 4294967296 (some ⟨w1.heap.size, 0, none⟩) L L F := by
    refine ⟨Nat.le_refl _, hLb, fun j hj => ?_, .inr ⟨_, 0, rfl, Nat.lt_of_lt_of_le HG.out hw5.size, fun j hj => ?_⟩⟩
    · rcases Nat.lt_or_ge j q with h | h
      · rw [hF0 j h]; omega
      · obtain ⟨k, rfl⟩ : ∃ k, j = q + k := ⟨j - q, by omega⟩
        rw [hF1]; exact hdb _ (by omega)
    · rw [Nat.zero_add]
      rcases Nat.lt_or_ge j q with h | h
      · rw [hw5.cell j (.inl h), HC0.out j h, hF0 j h]; rfl
      · obtain ⟨k, rfl⟩ : ∃ k, j = q + k := ⟨j - q, by omega⟩
        rw [hF1]; exact hd k (by omega)
  have hv5 : val F L = N * 2 ^ shN n := by
    have h1 := val_shift F q len1
    have h2 : val F q = 0 := by
      have h3 : ∀ k, k ≤ q → val F k = 0 := by
        intro k
        induction k with
        | zero => intro _; rfl
        | succ k ih => intro hk; rw [val, ih (by omega), hF0 k (by omega)]; simp
      exact h3 q (Nat.le_refl _)
    have h4 : val (fun j => F (q + j)) len1 = val d len1 := val_congr len1 (fun j _ => hF1 j)
    rw [h2, h4, hvd, Nat.zero_add, show q + len1 = L by omega] at h1
    rw [h1, HSP.out]
  have HG5 := Lib.hid hsl5
  have HV5 := Lib.hid hv5
  have T3 := Lib.hid (BB.out.now.1.wrote hw5 (by omega))
  have HB5 : Hid (Below w.heap.size w w5) := hw5.below BB.out.below (by omega) BB.out.below.size
  clear hw5 hf5 hd hdb hR hvd hsl5 hv5 hF0 hF1
  go_wp2_with fail
  go_at_call 72
  refine (trimmed_pl _ L L _ w5 HG5.out).mono ?_
  rintro e w6 ⟨a3, n3, c3, f3, rfl, hs3, hv3, ht3, hp3, hb3⟩
  have U3 := T3.out.below hb3
  have hc4 := U3.cell
  have hf4 := U3.free
  have HE := Lib.hid (natOut_store (u := .slice a3 n3 c3) (k := w.heap.size + 1) (HB5.out.trans (hb3.mono HB5.out.size)) (by omega) hs3 (hv3.trans HV5.out) ht3 (by rintro x rfl; rcases hp3 with h | h <;> cases h; simp; omega)).three
  clear hs3 hv3 ht3 hb3 hp3 U3
  go_wp2
  exact bodyPost_ret (v := .agg #[.slice a3 n3 c3]) (by simp [results, Tryd.results45, go_sem, hc4]) rfl HE.out

set_option maxRecDepth 100000 in
theorem shl_any (a : Option Addr) (len c N : Nat) (n : Int) (w : World) (h : NatIs w (.agg #[.slice a len c]) N) (hn : -9223372036854775808 ≤ n ∧ n ≤ 1000) (K : Nat) (hK : K ≤ 900000) (hN : N < 4294967296 ^ K) :
    Calls Tryd.prog 45 #[.agg #[.slice a len c], .int .i64 n] w fun e w' => NatOf3 w w' e (N * 2 ^ shN n) := by
  by_cases h0 : N = 0
  · subst h0
    have SH := Lib.hid (fun wz => shift_any n wz (by omega))
    obtain ⟨q, hq⟩ : ∃ q, shN n / 32 = q := ⟨_, rfl⟩
    obtain ⟨u, hu⟩ : ∃ u, shN n % 32 = u := ⟨_, rfl⟩
    rw [hq, hu] at SH
    have B0 := (((Bag.start w).nat h).box (.slice a len c) 25).box (.slice none 0 0) 25
    rw [World.size_alloc] at B0
    have BB := Lib.hid B0
    have HZ := Lib.hid (zero_any _ 0 _ B0.now.2.2.1)
    rw [decide_eq_true rfl] at HZ
    have q0 := B0.now.2.1.cell
    rw [Nat.zero_mul]
    clear B0 hq hu h
    go_enter Tryd.func45, Tryd.ntmps45
    go_wp2_with (go_at_call 86; (with_reducible refine (SH.out _).mono ?_); rintro e w2 ⟨rfl, rfl⟩)
    go_at_call 22
    (with_reducible refine HZ.out.mono ?_)
    rintro e w1 ⟨rfl, hb1⟩
    have B1 := BB.out.go hb1
    have hc1 := B1.now.1.cell
    have hf1 := B1.now.1.free
    have HE : Hid (NatOf3 w (w1.setCell ⟨w.heap.size + 1, 0, none⟩ (.slice none 0 0)) (.returned (.agg #[.slice none 0 0])) 0) := ⟨none, 0, 0, rfl, NatIs.zero _, B1.below.setCell (show w.heap.size ≤ w.heap.size + 1 by omega) _⟩
    clear B1 hb1 q0
    go_wp2
    exact bodyPost_ret (v := .agg #[.slice none 0 0]) (by simp [results, Tryd.results45, go_sem, hc1]) rfl HE.out
  · have hlen : len ≤ 900000 := by
      obtain ⟨_, _, _, f, he, hs, hv, ht⟩ := h
      cases he
      have := NatIs.short hv ht hN
      omega
    exact shl_pos a len c N n w h hn h0 hlen

end Go.Proofs.YtkjdoknmmiaapaaDoor
