/-
  Facts of a number's limbs and digits, for the laws and the document's answers.
  The document's answers (package typeballref01): Pow, by contract.
  Package nat: surelyLonger, by contract.
  Package nat: Pow, by contract: pieces.
  Package nat: Pow, by contract: the loop.
-/
import Derived.Test.YthklcdcikmninaaGreatDoorK6
import Derived.Test.YthklcdcikmninaaGreatDoorK4
import Derived.Test.YthklcdcikmninaaGreatDoorK5
import Derived.Test.YthklcdcikmninaaGreatDoorK3
import Derived.Test.YthklcdcikmninaaGreatDoorShelf
namespace Go.Proofs.YthklcdcikmninaaGreatDoor
open Go.RowKit Go.WideMaps Go.WideElems

theorem limbs_of_bits {N n : Nat} (h1 : N < 4294967296 ^ n) (h2 : 0 < n → 4294967296 ^ (n - 1) ≤ N) : (nbits N + 31) / 32 = n := by
  have e : ∀ k, (4294967296 : Nat) ^ k = 2 ^ (32 * k) := fun k => by rw [Nat.pow_mul]
  have h3 : nbits N ≤ 32 * n := nbits_le.2 (by rw [← e]; exact h1)
  rcases Nat.eq_zero_or_pos n with h0 | h0
  · omega
  · have h4 := h2 h0
    have h5 : ¬ nbits N ≤ 32 * (n - 1) := fun h => by
      have := nbits_le.1 h
      rw [← e] at this; omega
    omega

def LimbsOut (w w' : World) (e : Ending) (N : Nat) : Prop := e = .returned (.int .i64 ((nbits N + 31) / 32 : Nat)) ∧ Below w.heap.size w w'
theorem limbs_bits (v : Value) (N : Nat) (w : World) (h : NatIs w v N) : Calls Tryz.prog 75 #[v] w fun e w' => LimbsOut w w' e N := by
  refine (limbs_any v N w h).mono ?_
  rintro e w' ⟨n, rfl, _, _, h1, hb⟩
  exact ⟨by rw [limbs_of_bits h1.out.1 h1.out.2], hb⟩

theorem dec_eq_digit (N d : Nat) (hd : d < 10) : ((str (dec N)).toList == [UInt8.ofNat (48 + d)]) = decide (N = d) := by
  rw [Bool.eq_iff_iff, beq_iff_eq, decide_eq_true_eq, ByteArray.toList_eq, str_toList, ← dec_small hd]
  constructor
  · intro h
    have := congrArg numOf h
    rw [numOf_dec, numOf_dec] at this
    exact this
  · intro h; rw [h]

theorem last_digit (N : Nat) {k : Nat} (hk : dl N = k + 1) (h : k < (str (dec N)).size) : ((str (dec N))[k]).toNat = 48 + N % 10 := by
  have h1 := sdig_get N (dl N) k (by omega)
  have h2 : (dec N)[k]? = some ((str (dec N))[k]) := by
    rw [List.getElem?_eq_getElem (by have : (dec N).length = dl N := sdig_length _ _; omega)]; rfl
  have h3 : (str (dec N))[k] = dgt N (dl N - 1 - k) := by
    have : (dec N)[k]? = some (dgt N (dl N - 1 - k)) := h1
    rw [h2] at this
    exact Option.some.inj this
  rw [h3, dgt_toNat, show dl N - 1 - k = 0 by omega, Nat.pow_zero, Nat.div_one]

end Go.Proofs.YthklcdcikmninaaGreatDoor

namespace Go.Proofs.YthklcdcikmninaaGreatDoor
open Go.RowKit

/-- How many limbs a number has. -/
def lb (N : Nat) : Nat := (nbits N + 31) / 32
theorem lb_le {N m : Nat} : lb N ≤ m ↔ N < 2 ^ (32 * m) := by
  rw [← nbits_le]; unfold lb; omega
theorem lb_mono {N M : Nat} (h : N ≤ M) : lb N ≤ lb M := by
  rw [lb_le]; exact Nat.lt_of_le_of_lt h (lb_le.1 (Nat.le_refl _))
theorem pow_mono {X a b : Nat} (hX : 0 < X) (h : a ≤ b) : X ^ a ≤ X ^ b := Nat.pow_le_pow_right hX h

/-- The power, and whether it is one. -/
def powN (X : Nat) (n most : Int) : Nat × Bool :=
  if n ≤ 0 ∨ X = 1 then (1, true) else if X = 0 then (0, true) else if (lb (X ^ n.toNat) : Int) ≤ most then (X ^ n.toNat, true) else (0, false)

theorem two_ten (e : Nat) : 2 ^ e ≤ 10 ^ e := Nat.pow_le_pow_left (by omega) e
theorem dl_bits {N e : Nat} (h0 : 0 < e) (h : N < 2 ^ e) : dl N ≤ e := dl_le N e h0 (Nat.lt_of_lt_of_le h (two_ten e))
theorem ten_two (e : Nat) : 10 ^ e ≤ 2 ^ (4 * e) := by rw [Nat.pow_mul]; exact Nat.pow_le_pow_left (by omega) e
theorem two_words (e E : Nat) (h : e ≤ 16 * E) : 2 ^ e ≤ 65536 ^ E := by
  have h3 : (65536 : Nat) ^ E = 2 ^ (16 * E) := by rw [Nat.pow_mul]
  rw [h3]; exact Nat.pow_le_pow_right (by omega) h

theorem str_sdig_dec (N : Nat) : str (dec N) = str (sdig N (dl N)) := rfl

theorem powN_long {X k : Nat} {n most : Int} (hX : 2 ≤ X) (hn : 0 < n) (hk : (k : Int) ≤ n) (h : most < (lb (X ^ k) : Int)) : powN X n most = (0, false) := by
  have h1 : lb (X ^ k) ≤ lb (X ^ n.toNat) := lb_mono (pow_mono (by omega) (by omega))
  unfold powN
  rw [if_neg (by omega), if_neg (by omega), if_neg (by omega)]
theorem powN_full {X k : Nat} {n most : Int} (hX : 2 ≤ X) (hn : 0 < n) (hk : (k : Int) = n) (h : (lb (X ^ k) : Int) ≤ most) : powN X n most = (X ^ k, true) := by
  obtain rfl : k = n.toNat := by omega
  unfold powN
  rw [if_neg (by omega), if_neg (by omega), if_pos h]

theorem ret_pow {A B : Nat} {c d : Bool} (h : (A, c) = (B, d)) : Ending.returned (.tuple #[.string (str (dec A)), .bool c]) = .returned (.tuple #[.string (str (dec B)), .bool d]) := by
  cases h; rfl

end Go.Proofs.YthklcdcikmninaaGreatDoor

namespace Go.Proofs.YthklcdcikmninaaGreatDoor
open Go.RowKit

set_option maxRecDepth 100000 in
theorem slong_any (v : Value) (X n B : Nat) (most : Int) (w : World) (h : NatIs w v X) (hB : nbits X = B + 1) (hBl : B ≤ 1000) (hn : n ≤ 9223372036854775807) (hm : most ≤ 536870912) (hm0 : -9223372036854775808 ≤ most) :
    Calls Tryz.prog 73 #[v, .int .i64 n, .int .i64 most] w fun e w' => e = .returned (.bool (decide (most < 1 ∨ 32 * most ≤ ((n * B : Nat) : Int)))) ∧ Below w.heap.size w w' := by
  obtain ⟨P, hP⟩ : ∃ P, n * B = P := ⟨_, rfl⟩
  have hM := Lib.hid (fun wz => Tryz.bits_Mul64 n B (by omega) (by omega) wz)
  rw [hP] at hM ⊢
  obtain ⟨H, hH⟩ : ∃ H, P / 18446744073709551616 = H := ⟨_, rfl⟩
  obtain ⟨L, hL⟩ : ∃ L, P % 18446744073709551616 = L := ⟨_, rfl⟩
  obtain ⟨q, hq⟩ : ∃ q, L / 32 = q := ⟨_, rfl⟩
  rw [hH, hL] at hM
  have hLl : L < 18446744073709551616 := by omega
  have hHl : H < 18446744073709551616 := by
    have : n * B ≤ 9223372036854775807 * 1000 := Nat.mul_le_mul hn hBl
    omega
  have hbb0 := fun w1 (hb : Below w.heap.size w w1) => bits_any v X w1 (h.below hb)
  obtain ⟨a, k, c, f, rfl, hs, hv, ht⟩ := h
  have hbb := hbb0 (w.alloc (.cells #[.slice a k c] 26)) ((Below.refl _ _).alloc (Nat.le_refl _) _)
  clear hbb0
  obtain ⟨B1, hB1⟩ : ∃ B1, nbits X = B1 := ⟨_, rfl⟩
  rw [hB1] at hbb
  have e0 : (B1 : Int) - 1 = (B : Int) := by omega
  have e1 : (n : Int) % 18446744073709551616 = (n : Int) := by omega
  have e2 : (B : Int) % 18446744073709551616 = (B : Int) := by omega
  have e3 : (L : Int) / 32 = (q : Int) := by omega
  have hB1l : B1 ≤ 1001 := by omega
  have hsum : P = H * 18446744073709551616 + L := by omega
  have HBB := Lib.hid hbb
  have hql : q < 18446744073709551616 := by omega
  have hfin : H = 0 → (32 * most ≤ (P : Int) ↔ most ≤ (q : Int)) := by omega
  have hover : 0 < H → 32 * most ≤ (P : Int) := by omega
  have HFIN := Lib.hid hfin
  have HOV := Lib.hid hover
  clear hs hv ht hP hH hL hq hbb hsum hB1 hB hfin hover
  by_cases c0 : most < 1
  · have d0 : decide (most < 1) = true := decide_eq_true c0
    have hE : decide (most < 1 ∨ 32 * most ≤ (P : Int)) = true := decide_eq_true (.inl c0)
    rw [hE]
    clear hE
    go_enter Tryz.func73, Tryz.ntmps73
    go_wp2_with fail
    go_at_call 89
    refine HBB.out.mono ?_
    rintro e w1 ⟨rfl, hb1⟩
    go_wp2_with fail
    go_at_call 88
    refine (hM.out w1).mono ?_
    rintro e w2 ⟨rfl, hw⟩
    subst hw
    go_wp2
    go_ret
    exact ⟨rfl, below_alloc hb1⟩
  · have d0 : decide (most < 1) = false := decide_eq_false c0
    obtain ⟨m, hm1⟩ : ∃ m : Nat, most = (m : Int) := ⟨most.toNat, by omega⟩
    subst hm1
    have e4 : (m : Int) % 18446744073709551616 = (m : Int) := by omega
    by_cases c1 : 0 < H
    · have d1 : decide ((0 : Int) < (H : Int)) = true := decide_eq_true (by omega)
      have hE : decide ((m : Int) < 1 ∨ 32 * (m : Int) ≤ (P : Int)) = true := decide_eq_true (.inr (HOV.out c1))
      rw [hE]
      clear hE
      go_enter Tryz.func73, Tryz.ntmps73
      go_wp2_with fail
      go_at_call 89
      refine HBB.out.mono ?_
      rintro e w1 ⟨rfl, hb1⟩
      go_wp2_with fail
      go_at_call 88
      refine (hM.out w1).mono ?_
      rintro e w2 ⟨rfl, hw⟩
      subst hw
      go_wp2
      go_ret
      exact ⟨rfl, below_alloc hb1⟩
    · obtain rfl : H = 0 := by omega
      have d1 : decide ((0 : Int) < ((0 : Nat) : Int)) = false := rfl
      have hE : decide ((m : Int) < 1 ∨ 32 * (m : Int) ≤ (P : Int)) = decide ((m : Int) ≤ (q : Int)) := by
        have := HFIN.out rfl
        rw [Bool.eq_iff_iff, decide_eq_true_eq, decide_eq_true_eq]; omega
      rw [hE]
      clear hE
      go_enter Tryz.func73, Tryz.ntmps73
      go_wp2_with fail
      go_at_call 89
      refine HBB.out.mono ?_
      rintro e w1 ⟨rfl, hb1⟩
      go_wp2_with fail
      go_at_call 88
      refine (hM.out w1).mono ?_
      rintro e w2 ⟨rfl, hw⟩
      subst hw
      go_wp2
      go_ret
      exact ⟨by simp, below_alloc hb1⟩

end Go.Proofs.YthklcdcikmninaaGreatDoor

namespace Go.Proofs.YthklcdcikmninaaGreatDoor
open Go.RowKit

theorem NatIs.store {w : World} {v : Value} {N k : Nat} {x : Value} (h : NatIs w v N) (hs : w.cell? ⟨k, 0, none⟩ = some x) (hx : ∀ ki z, x ≠ .int ki z) (u : Value) : NatIs (w.setCell ⟨k, 0, none⟩ u) v N := by
  obtain ⟨a, n, c, f, rfl, ⟨h1, h2, h3, h4⟩, hv, ht⟩ := h
  refine ⟨a, n, c, f, rfl, ⟨h1, h2, h3, ?_⟩, hv, ht⟩
  rcases h4 with h4 | ⟨b, off, rfl, hb, hc⟩
  · exact .inl h4
  · refine .inr ⟨b, off, rfl, by simpa using hb, fun j hj => ?_⟩
    rw [World.cell?_setCell_other _ _ _ _ (fun e' => ?_)]
    · exact hc j hj
    · have h5 := hc j hj
      rw [show (⟨b, off + j, none⟩ : Addr) = ⟨k, 0, none⟩ from by first | exact e' | exact e'.symm, hs] at h5
      exact hx _ _ (Option.some.inj h5)

def PowTold (w w' : World) (e : Ending) (N : Nat) (b : Bool) : Prop := ∃ a n c, e = .returned (.tuple #[.agg #[.slice a n c], .bool b]) ∧ NatIs w' (.agg #[.slice a n c]) N ∧ Below w.heap.size w w'

/-- Within Pow: the base in its cell, and the answer's cell still empty. -/
structure PI (w wr : World) (x : Value) (X : Nat) : Prop where
  below : Below w.heap.size w wr
  s1 : Slot wr w.heap.size x
  s2 : Slot wr (w.heap.size + 1) (.slice none 0 0)
  xs : NatIs wr (.agg #[x]) X
theorem PI.go {w wr w2 : World} {x : Value} {X : Nat} (h : PI w wr x X) (hb : Below wr.heap.size wr w2) : PI w w2 x X :=
  ⟨h.below.trans (hb.mono h.below.size), h.s1.below hb, h.s2.below hb, h.xs.below hb⟩
theorem PI.done {w wr : World} {x : Value} {X : Nat} (h : PI w wr x X) {a : Option Addr} {n c N : Nat} (hv : NatIs wr (.agg #[.slice a n c]) N) (b : Bool) :
    PowTold w (wr.setCell ⟨w.heap.size + 1, 0, none⟩ (.slice a n c)) (.returned (.tuple #[.agg #[.slice a n c], .bool b])) N b :=
  ⟨a, n, c, rfl, hv.store h.s2.cell (fun _ _ h => by cases h) _, h.below.setCell (show w.heap.size ≤ w.heap.size + 1 by omega) _⟩
theorem PI.start {w : World} {a : Option Addr} {n c X : Nat} (h : NatIs w (.agg #[.slice a n c]) X) : PI w ((w.alloc (.cells #[.slice a n c] 26)).alloc (.cells #[.slice none 0 0] 26)) (.slice a n c) X :=
  have hb : Below w.heap.size w ((w.alloc (.cells #[.slice a n c] 26)).alloc (.cells #[.slice none 0 0] 26)) := ((Below.refl _ _).alloc (Nat.le_refl _) _).alloc (by rw [World.size_alloc]; omega) _
  ⟨hb, (Slot.new w _ _).alloc _, Slot.new1 w _ _ _, h.below hb⟩

set_option maxRecDepth 100000 in
theorem pow_one (v : Value) (X : Nat) (n most : Int) (w : World) (h : NatIs w v X) (hn : n ≤ 0 ∨ X = 1) :
    Calls Tryz.prog 59 #[v, .int .i64 n, .int .i64 most] w fun e w' => PowTold w w' e 1 true := by
  obtain ⟨a, k, c, f, rfl, hs, hv, ht⟩ := h
  have HP := Lib.hid (PI.start (w := w) ⟨a, k, c, f, rfl, hs, hv, ht⟩)
  have hON := Lib.hid (one_any (.agg #[.slice a k c]) X _ HP.out.xs)
  clear hs hv ht
  by_cases c1 : n ≤ 0
  · have d1 : decide (n ≤ 0) = true := decide_eq_true c1
    go_enter Tryz.func59, Tryz.ntmps59
    go_wp2_with fail
    go_at_call 39
    refine (of_told 1 _ (by omega)).mono ?_
    rintro e w3 ⟨a3, n3, c3, rfl, hn3, hb3⟩
    have HQ := HP.out.go hb3
    have hc := HQ.s2.cell
    have hf := HQ.s2.free
    have HE := Lib.hid (HQ.done hn3 true)
    clear HQ hn3 hb3
    go_wp2
    exact bodyPost_ret (v := .tuple #[.agg #[.slice a3 n3 c3], .bool true]) (by simp [results, Tryz.results59, go_sem, hc]) rfl HE.out
  · have d1 : decide (n ≤ 0) = false := decide_eq_false c1
    have hX1 : X = 1 := by omega
    rw [decide_eq_true hX1] at hON
    have hc0 := HP.out.s1.cell
    go_enter Tryz.func59, Tryz.ntmps59
    go_wp2_with fail
    go_at_call 43
    refine hON.out.mono ?_
    rintro e w2 ⟨rfl, hb2⟩
    have HP2 := Lib.hid (HP.out.go hb2)
    clear hb2 hc0
    go_wp2_with fail
    go_at_call 39
    refine (of_told 1 _ (by omega)).mono ?_
    rintro e w3 ⟨a3, n3, c3, rfl, hn3, hb3⟩
    have HQ := HP2.out.go hb3
    have hc := HQ.s2.cell
    have hf := HQ.s2.free
    have HE := Lib.hid (HQ.done hn3 true)
    clear HQ hn3 hb3
    go_wp2
    exact bodyPost_ret (v := .tuple #[.agg #[.slice a3 n3 c3], .bool true]) (by simp [results, Tryz.results59, go_sem, hc]) rfl HE.out

set_option maxRecDepth 100000 in
theorem pow_zero (v : Value) (n most : Int) (w : World) (h : NatIs w v 0) (hn : 0 < n) :
    Calls Tryz.prog 59 #[v, .int .i64 n, .int .i64 most] w fun e w' => PowTold w w' e 0 true := by
  obtain ⟨a, k, c, f, rfl, hs, hv, ht⟩ := h
  have HP := Lib.hid (PI.start (w := w) ⟨a, k, c, f, rfl, hs, hv, ht⟩)
  have hON := Lib.hid (one_any (.agg #[.slice a k c]) 0 _ HP.out.xs)
  have hZN := Lib.hid (fun wz h => zero_any (.agg #[.slice a k c]) 0 wz h)
  clear hs hv ht
  have d1 : decide (n ≤ 0) = false := decide_eq_false (by omega)
  have hc0 := HP.out.s1.cell
  go_enter Tryz.func59, Tryz.ntmps59
  go_wp2_with fail
  go_at_call 43
  refine hON.out.mono ?_
  rintro e w2 ⟨rfl, hb2⟩
  have HP2 := Lib.hid (HP.out.go hb2)
  have hc1 := HP2.out.s1.cell
  clear hb2 hc0
  go_wp2_with fail
  go_at_call 35
  refine (hZN.out _ HP2.out.xs).mono ?_
  rintro e w3 ⟨rfl, hb3⟩
  have HQ := HP2.out.go hb3
  have hc := HQ.s2.cell
  have hf := HQ.s2.free
  have HE := Lib.hid (HQ.done (NatIs.zero _) true)
  clear HQ hb3
  go_wp2
  exact bodyPost_ret (v := .tuple #[.agg #[.slice none 0 0], .bool true]) (by simp [results, Tryz.results59, go_sem, hc]) rfl HE.out

end Go.Proofs.YthklcdcikmninaaGreatDoor

namespace Go.Proofs.YthklcdcikmninaaGreatDoor
open Go.RowKit

theorem lb_lt {N q : Nat} (h : lb N ≤ q) : N < 4294967296 ^ q := by
  have := lb_le.1 h
  rw [Nat.pow_mul] at this
  exact this
theorem lb_of {N n : Nat} (h : N < 4294967296 ^ n ∧ (0 < n → 4294967296 ^ (n - 1) ≤ N)) : lb N = n := by
  have e : ∀ m, (4294967296 : Nat) ^ m = 2 ^ (32 * m) := fun m => by rw [Nat.pow_mul]
  refine Nat.le_antisymm (lb_le.2 (by rw [← e]; exact h.1)) ?_
  rcases Nat.eq_zero_or_pos n with h0 | h0
  · omega
  · have h1 := h.2 h0
    rcases Nat.lt_or_ge (lb N) n with h2 | h2
    · have := lb_lt (show lb N ≤ n - 1 by omega)
      omega
    · exact h2

/-- Within the loop: the power in its cell. -/
structure PS (w wr : World) (x : Value) (X z8 E : Nat) (p : Value) : Prop where
  pi : PI w wr x X
  lt8 : w.heap.size + 1 < z8
  s8 : Slot wr z8 p
  np : NatIs wr (.agg #[p]) (X ^ E)
theorem PS.go {w wr w2 : World} {x p : Value} {X z8 E : Nat} (h : PS w wr x X z8 E p) (hb : Below wr.heap.size wr w2) : PS w w2 x X z8 E p :=
  ⟨h.pi.go hb, h.lt8, h.s8.below hb, h.np.below hb⟩
theorem PS.put {w wr : World} {x : Value} {X z8 E E2 : Nat} {a a2 : Option Addr} {n c n2 c2 : Nat} (h : PS w wr x X z8 E (.slice a n c)) (hv : NatIs wr (.agg #[.slice a2 n2 c2]) (X ^ E2)) :
    PS w (wr.setCell ⟨z8, 0, none⟩ (.slice a2 n2 c2)) x X z8 E2 (.slice a2 n2 c2) := by
  have hlt := h.lt8
  have hw : Wrote z8 0 1 wr (wr.setCell ⟨z8, 0, none⟩ (.slice a2 n2 c2)) := (Wrote.refl z8 0 1 wr).setCell (Nat.le_refl _) (by omega) _
  refine ⟨⟨h.pi.below.setCell (show w.heap.size ≤ z8 by omega) _, h.pi.s1.wrote hw (by omega), h.pi.s2.wrote hw (by omega), h.pi.xs.store h.s8.cell (fun _ _ h => by cases h) _⟩, hlt, ⟨World.cell?_setCell_same _ _ _ h.s8.cell, by simp [h.s8.free], by simpa using h.s8.lt⟩, hv.store h.s8.cell (fun _ _ h => by cases h) _⟩

theorem PS.mul {w wr : World} {x : Value} {X z8 E F : Nat} {a : Option Addr} {n c : Nat} {u : Value} (h : PS w wr x X z8 E (.slice a n c)) (hu : NatIs wr u (X ^ F)) (hE : X ^ E < 4294967296 ^ 100) (hF : X ^ F < 4294967296 ^ 100) :
    Calls Tryz.prog 23 #[.agg #[.slice a n c], u] wr fun e w2 => ∃ a2 n2 c2, e = .returned (.agg #[.slice a2 n2 c2]) ∧ PS w w2 x X z8 E (.slice a n c) ∧ PS w (w2.setCell ⟨z8, 0, none⟩ (.slice a2 n2 c2)) x X z8 (E + F) (.slice a2 n2 c2) := by
  refine (mul_any _ _ _ _ wr h.np hu 100 (by omega) hE hF).mono ?_
  rintro e w2 ho
  obtain ⟨a2, n2, c2, rfl, hv, hb⟩ := ho.told
  rw [← Nat.pow_add] at hv
  exact ⟨a2, n2, c2, rfl, h.go hb, (h.go hb).put hv⟩

theorem exp_step {n D j : Nat} (h : j < D) : n / 2 ^ (D - (j + 1)) = 2 * (n / 2 ^ (D - j)) + n / 2 ^ (D - (j + 1)) % 2 := by
  have e : 2 ^ (D - j) = 2 ^ (D - (j + 1)) * 2 := by rw [← Nat.pow_succ]; congr 1; omega
  rw [e, ← Nat.div_div_eq_div_mul]; omega

end Go.Proofs.YthklcdcikmninaaGreatDoor

