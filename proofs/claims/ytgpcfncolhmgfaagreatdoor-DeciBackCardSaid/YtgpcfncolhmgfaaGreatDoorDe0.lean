/-
  Decimal digits: rows one behind the other, noughts and nines at the end struck, what is rounded up.
  Package deci: powers of ten, the parts of a written number, by contract.
  Package deci: the parts of a written number, by contract.
-/
import Derived.Test.YtgpcfncolhmgfaaGreatDoorK1
import Derived.Lib.TrimByte
import Derived.Test.YtgpcfncolhmgfaaGreatDoorPow3
import Derived.Test.YtgpcfncolhmgfaaGreatDoorRa1
import Derived.Test.YtgpcfncolhmgfaaGreatDoorShelf
import Derived.RegionTactic
import Derived.BigRegion
namespace Go.Proofs.YtgpcfncolhmgfaaGreatDoor
open Go

theorem dgt_high (A B m j : Nat) (h : B < 10 ^ m) : dgt (A * 10 ^ m + B) (m + j) = dgt A j := by
  unfold dgt
  rw [Nat.pow_add, ← Nat.div_div_eq_div_mul, Nat.add_comm (A * 10 ^ m) B, Nat.add_mul_div_right _ _ (Nat.pow_pos (by omega)), Nat.div_eq_of_lt h, Nat.zero_add]
theorem sdig_app (A B : Nat) {m : Nat} (h : B < 10 ^ m) : ∀ n, sdig (A * 10 ^ m + B) (n + m) = sdig A n ++ sdig B m
  | 0 => by
    rw [Nat.zero_add, Nat.add_comm, sdig_add _ _ _ _ (Nat.le_refl _)]; rfl
  | n + 1 => by
    rw [show n + 1 + m = (n + m) + 1 by omega, sdig, sdig_app A B h n, sdig, Nat.add_comm n m, dgt_high A B m n h]; rfl
theorem sdig_nought : ∀ n, sdig 0 n = List.replicate n 48
  | 0 => rfl
  | n + 1 => by
    rw [sdig, sdig_nought n, List.replicate_succ, show dgt 0 n = 48 by rw [dgt_zero]; simp]
theorem sdig_snoc10 (A r n : Nat) (h : r < 10) : sdig (A * 10 + r) (n + 1) = sdig A n ++ [UInt8.ofNat (48 + r)] := by
  have := sdig_app A r (m := 1) (by omega) n
  rw [Nat.pow_one] at this
  rw [this]
  have : sdig r 1 = [UInt8.ofNat (48 + r)] := by
    show [dgt r 0] = _
    unfold dgt
    rw [Nat.pow_zero, Nat.div_one, Nat.mod_eq_of_lt h]
  rw [this]
/-- A number's digits with noughts ahead. -/
theorem sdig_pad {B n : Nat} (hn : 0 < n) (h : B < 10 ^ n) : List.replicate (n - dl B) 48 ++ dec B = sdig B n := by
  have hd := dl_le B n hn h
  have := sdig_app 0 B (m := dl B) (dl_lt B) (n - dl B)
  rw [Nat.zero_mul, Nat.zero_add, Nat.sub_add_cancel hd, sdig_nought] at this
  exact this.symm
theorem dl_eq {N n : Nat} (h1 : 10 ^ n ≤ N) (h2 : N < 10 ^ (n + 1)) : dl N = n + 1 := Nat.le_antisymm (dl_le N _ (by omega) h2) (dl_ge h1)
theorem dl_times {N : Nat} (h : 0 < N) (j : Nat) : dl (N * 10 ^ j) = dl N + j := by
  obtain ⟨d, hd⟩ : ∃ d, dl N = d + 1 := ⟨dl N - 1, by have := dl_pos N; omega⟩
  have h1 := dl_low h
  have h2 := dl_lt N
  rw [hd] at h1 h2 ⊢
  rw [Nat.add_sub_cancel] at h1
  rw [show d + 1 + j = (d + j) + 1 by omega]
  refine dl_eq ?_ ?_
  · rw [Nat.pow_add]; exact Nat.mul_le_mul_right _ h1
  · rw [show d + j + 1 = (d + 1) + j by omega, Nat.pow_add 10 (d + 1)]; exact Nat.mul_lt_mul_of_pos_right h2 (Nat.pow_pos (by omega))
theorem dec_times {N : Nat} (h : 0 < N) (j : Nat) : dec (N * 10 ^ j) = dec N ++ List.replicate j 48 := by
  unfold dec
  rw [dl_times h]
  have := sdig_app N 0 (m := j) (Nat.pow_pos (by omega)) (dl N)
  rw [Nat.add_zero, sdig_nought] at this
  exact this

theorem trimR_snoc (l : List UInt8) (c x : UInt8) : Go.Lib.trimRightB (l ++ [x]) c = if x = c then Go.Lib.trimRightB l c else l ++ [x] := by
  unfold Go.Lib.trimRightB
  rw [List.reverse_append]
  show (List.dropWhile _ (x :: l.reverse)).reverse = _
  rw [List.dropWhile_cons]
  by_cases h : x = c
  · subst h; simp
  · simp [h]
theorem trimR_rep (l : List UInt8) (c : UInt8) : ∀ n, Go.Lib.trimRightB (l ++ List.replicate n c) c = Go.Lib.trimRightB l c
  | 0 => by simp
  | n + 1 => by rw [List.replicate_succ', ← List.append_assoc, trimR_snoc, if_pos rfl, trimR_rep l c n]
theorem trimR_len (l : List UInt8) (c : UInt8) : (Go.Lib.trimRightB l c).length ≤ l.length := by
  unfold Go.Lib.trimRightB
  have := (List.dropWhile_sublist (l := l.reverse) (fun x => x == c)).length_le
  simpa using this
/-- The digits of a number, without noughts at the end. -/
def zd (N : Nat) : List UInt8 := Go.Lib.trimRightB (dec N) 48
theorem zd_times {N : Nat} (h : 0 < N) (j : Nat) : zd (N * 10 ^ j) = zd N := by unfold zd; rw [dec_times h, trimR_rep]
theorem zd_ten (k : Nat) : zd (10 ^ k) = [49] := by
  have := zd_times (N := 1) (by omega) k
  rw [Nat.one_mul] at this
  rw [this]
  decide +kernel
theorem snoc_cases (l : List UInt8) : l = [] ∨ ∃ k c, l = k ++ [c] := by
  rcases List.eq_nil_or_concat l with h | ⟨k, c, h⟩
  · exact .inl h
  · exact .inr ⟨k, c, by rw [h]; simp⟩
/-- Nines become noughts, and the digit ahead of them is one more. -/
theorem round_up : ∀ k N, N < 10 ^ k → (Go.Lib.trimRightB (sdig N k) 57 = [] ∧ N + 1 = 10 ^ k) ∨ (∃ l r, r < 9 ∧ Go.Lib.trimRightB (sdig N k) 57 = l ++ [UInt8.ofNat (48 + r)] ∧ Go.Lib.trimRightB (sdig (N + 1) k) 48 = l ++ [UInt8.ofNat (48 + r + 1)] ∧ N + 1 < 10 ^ k)
  | 0, N, h => .inl ⟨rfl, by rw [Nat.pow_zero] at h ⊢; omega⟩
  | k + 1, N, h => by
    rw [Nat.pow_succ] at h
    obtain ⟨A, hA⟩ : ∃ A, N / 10 = A := ⟨_, rfl⟩
    obtain ⟨r, hr⟩ : ∃ r, N % 10 = r := ⟨_, rfl⟩
    have hN : N = A * 10 + r := by omega
    have hr10 : r < 10 := by omega
    have hAl : A < 10 ^ k := by omega
    rw [hN, sdig_snoc10 A r k hr10, trimR_snoc]
    by_cases h9 : r = 9
    · subst h9
      rw [if_pos (by decide), show A * 10 + 9 + 1 = (A + 1) * 10 + 0 by omega, sdig_snoc10 (A + 1) 0 k (by omega), trimR_snoc, if_pos (by decide)]
      rcases round_up k A hAl with ⟨h1, h2⟩ | ⟨l, r', h1, h2, h3, h4⟩
      · exact .inl ⟨h1, by rw [Nat.pow_succ]; omega⟩
      · exact .inr ⟨l, r', h1, h2, h3, by rw [Nat.pow_succ]; omega⟩
    · have hne : ∀ x y : Nat, x < 10 → y < 10 → x ≠ y → UInt8.ofNat (48 + x) ≠ UInt8.ofNat (48 + y) := by
        intro x y hx hy hxy e
        have := congrArg UInt8.toNat e
        rw [UInt8.toNat_ofNat', UInt8.toNat_ofNat'] at this
        omega
      refine .inr ⟨sdig A k, r, by omega, ?_, ?_, by rw [Nat.pow_succ]; omega⟩
      · rw [if_neg (show ¬ UInt8.ofNat (48 + r) = 57 from hne r 9 hr10 (by omega) h9)]
      · rw [show A * 10 + r + 1 = A * 10 + (r + 1) by omega, sdig_snoc10 A (r + 1) k (by omega), trimR_snoc, if_neg (show ¬ UInt8.ofNat (48 + (r + 1)) = 48 from hne (r + 1) 0 (by omega) (by omega) (by omega))]
        rfl

/-- What is scaled: the quotient lies from a tenth on below one. -/
def e0 (P Q : Nat) : Int := (dl P : Int) - (dl Q : Int)
def sT (P Q : Nat) : Nat := P * 10 ^ (-(e0 P Q)).toNat
def sB0 (P Q : Nat) : Nat := Q * 10 ^ (e0 P Q).toNat
def sB (P Q : Nat) : Nat := if sT P Q < sB0 P Q then sB0 P Q else sB0 P Q * 10
def sE (P Q : Nat) : Int := if sT P Q < sB0 P Q then e0 P Q - 1 else e0 P Q
theorem s_spec {P Q : Nat} (hP : 0 < P) (hQ : 0 < Q) : 0 < sT P Q ∧ 0 < sB P Q ∧ sT P Q < sB P Q ∧ sB P Q ≤ 10 * sT P Q := by
  have p1 := dl_times hP (-(e0 P Q)).toNat
  have p2 := dl_times hQ (e0 P Q).toNat
  have hd : dl P + (-(e0 P Q)).toNat = dl Q + (e0 P Q).toNat := by unfold e0; omega
  rw [hd] at p1
  have hT : 0 < sT P Q := Nat.mul_pos hP (Nat.pow_pos (by omega))
  have hB : 0 < sB0 P Q := Nat.mul_pos hQ (Nat.pow_pos (by omega))
  have e1 : dl (sT P Q) = dl (sB0 P Q) := p1.trans p2.symm
  have l1 := dl_low hT
  have l2 := dl_lt (sT P Q)
  have l3 := dl_low hB
  have l4 := dl_lt (sB0 P Q)
  obtain ⟨L, hL⟩ : ∃ L, dl (sB0 P Q) = L + 1 := ⟨dl (sB0 P Q) - 1, by have := dl_pos (sB0 P Q); omega⟩
  rw [e1] at l1 l2
  rw [hL] at l1 l2 l3 l4
  rw [Nat.pow_succ] at l2 l4
  rw [Nat.add_sub_cancel] at l1 l3
  unfold sB
  split <;> refine ⟨hT, ?_, ?_, ?_⟩ <;> omega
/-- What is scaled is the same number, but for the power of ten. -/
theorem s_same (P Q u v : Nat) (h : (u : Int) - v = sE P Q + 1) : P * sB P Q * 10 ^ v = sT P Q * Q * 10 ^ u := by
  unfold sB
  unfold sE at h
  have h2 : e0 P Q = (((e0 P Q).toNat : Nat) : Int) - (((-(e0 P Q)).toNat : Nat) : Int) := by omega
  by_cases hc : sT P Q < sB0 P Q
  · rw [if_pos hc] at h ⊢
    unfold sT sB0
    have h3 : (e0 P Q).toNat + v = (-(e0 P Q)).toNat + u := by omega
    have h4 : (10 : Nat) ^ (e0 P Q).toNat * 10 ^ v = 10 ^ (-(e0 P Q)).toNat * 10 ^ u := by rw [← Nat.pow_add, ← Nat.pow_add, h3]
    generalize (10 : Nat) ^ (e0 P Q).toNat = x at *
    generalize (10 : Nat) ^ (-(e0 P Q)).toNat = y at *
    calc P * (Q * x) * 10 ^ v = P * Q * (x * 10 ^ v) := by grind
      _ = P * Q * (y * 10 ^ u) := by rw [h4]
      _ = P * y * Q * 10 ^ u := by grind
  · rw [if_neg hc] at h ⊢
    unfold sT sB0
    have h3 : (e0 P Q).toNat + 1 + v = (-(e0 P Q)).toNat + u := by omega
    have h4 : (10 : Nat) ^ (e0 P Q).toNat * 10 * 10 ^ v = 10 ^ (-(e0 P Q)).toNat * 10 ^ u := by rw [← Nat.pow_succ, ← Nat.pow_add, ← Nat.pow_add, h3]
    generalize (10 : Nat) ^ (e0 P Q).toNat = x at *
    generalize (10 : Nat) ^ (-(e0 P Q)).toNat = y at *
    calc P * (Q * x * 10) * 10 ^ v = P * Q * (x * 10 * 10 ^ v) := by grind
      _ = P * Q * (y * 10 ^ u) := by rw [h4]
      _ = P * y * Q * 10 ^ u := by grind

/-- The first k digits, and what is left. -/
def gN (T B k : Nat) : Nat := T * 10 ^ k / B
def gR (T B k : Nat) : Nat := T * 10 ^ k % B
theorem g_zero {T B : Nat} (h : T < B) : gN T B 0 = 0 ∧ gR T B 0 = T := by
  unfold gN gR
  rw [Nat.pow_zero, Nat.mul_one]
  exact ⟨Nat.div_eq_of_lt h, Nat.mod_eq_of_lt h⟩
theorem g_step {T B : Nat} (hB : 0 < B) (k n : Nat) : gN T B (k + n) = gN T B k * 10 ^ n + gR T B k * 10 ^ n / B ∧ gR T B (k + n) = gR T B k * 10 ^ n % B ∧ gR T B k * 10 ^ n / B < 10 ^ n := by
  have hm := Nat.div_add_mod (T * 10 ^ k) B
  have e : T * 10 ^ (k + n) = gR T B k * 10 ^ n + B * (gN T B k * 10 ^ n) := by
    unfold gR gN
    rw [Nat.pow_add, ← Nat.mul_assoc]
    conv => lhs; rw [← hm]
    generalize T * 10 ^ k / B = x
    generalize T * 10 ^ k % B = y
    grind
  have hlt : gR T B k < B := Nat.mod_lt _ hB
  refine ⟨?_, ?_, ?_⟩
  · unfold gN
    rw [e, Nat.add_mul_div_left _ _ hB, Nat.add_comm]
    rfl
  · unfold gR
    rw [e, Nat.add_mul_mod_self_left]
    rfl
  · rw [Nat.div_lt_iff_lt_mul hB, Nat.mul_comm]
    exact Nat.mul_lt_mul_of_pos_left hlt (Nat.pow_pos (by omega))
theorem g_lt {T B : Nat} (h : T < B) (k : Nat) : gN T B k < 10 ^ k := by
  unfold gN
  rw [Nat.div_lt_iff_lt_mul (by omega), Nat.mul_comm]
  exact Nat.mul_lt_mul_of_pos_left h (Nat.pow_pos (by omega))
theorem g_ge {T B : Nat} (hB : 0 < B) (h : B ≤ 10 * T) {k : Nat} (hk : 0 < k) : 10 ^ (k - 1) ≤ gN T B k := by
  unfold gN
  rw [Nat.le_div_iff_mul_le hB]
  obtain ⟨j, rfl⟩ : ∃ j, k = j + 1 := ⟨k - 1, by omega⟩
  rw [Nat.add_sub_cancel, Nat.pow_succ, Nat.mul_comm (10 ^ j) 10, ← Nat.mul_assoc, Nat.mul_comm T 10, Nat.mul_comm _ B]
  exact Nat.mul_le_mul_right _ h
/-- The number of the first many digits, rounded. -/
def mM (T B many : Nat) : Nat := (2 * (T * 10 ^ many) + B) / (2 * B)
theorem mM_full {T B : Nat} (hB : 0 < B) (k : Nat) : mM T B k = gN T B k + if 2 * gR T B k < B then 0 else 1 := by
  unfold mM gN gR
  have hm := Nat.div_add_mod (T * 10 ^ k) B
  have hlt := Nat.mod_lt (T * 10 ^ k) hB
  generalize T * 10 ^ k / B = x at *
  generalize T * 10 ^ k % B = y at *
  generalize T * 10 ^ k = z at *
  subst hm
  rw [show 2 * (B * x + y) + B = (2 * y + B) + 2 * B * x by grind, Nat.add_mul_div_left _ _ (by omega), Nat.add_comm]
  congr 1
  split
  · exact Nat.div_eq_of_lt (by omega)
  · rw [Nat.div_eq_iff (by omega)]; omega
theorem mM_early {T B : Nat} (hB : 0 < B) {k many : Nat} (hk : k ≤ many) (h : gR T B k = 0) : mM T B many = gN T B k * 10 ^ (many - k) := by
  rw [mM_full hB]
  obtain ⟨h1, h2, _⟩ := g_step (T := T) hB k (many - k)
  rw [Nat.add_sub_cancel' hk, h, Nat.zero_mul] at h1 h2
  rw [Nat.zero_mod] at h2
  rw [h1, h2, Nat.zero_div, if_pos (by omega)]
  rfl

theorem size_dlD (N : Nat) : (str (dec N)).size = dl N := by rw [str_size]; exact sdig_length _ _
theorem mul_ltD {x y K : Nat} (h : x < 4294967296 ^ K) (g : y < 4294967296 ^ K) : x * y < 4294967296 ^ (K + K) := by rw [Nat.pow_add]; exact Nat.mul_lt_mul'' h g

end Go.Proofs.YtgpcfncolhmgfaaGreatDoor

namespace Go.Proofs.YtgpcfncolhmgfaaGreatDoor
open Go.RowKit
attribute [local go_sem ↓] Go.wp_at_zero Go.wp_at_succ

set_option maxHeartbeats 1600000 in
set_option maxRecDepth 100000 in
theorem tenTo_any (n : Int) (w : World) (hn : n ≤ 4000) (hn0 : -9223372036854775808 ≤ n) :
    Calls Tryz.prog 47 #[.int .i64 n] w fun e w' => NatTold w w' e (10 ^ n.toNat) := by
  have BB := Lib.hid ((Bag.start w).box (.slice none 0 0) 26)
  have OF := Lib.hid (fun wz => of_told 10 wz (by omega))
  have PW := Lib.hid (fun v wz (h : NatIs wz v 10) => pow10_told v n wz h hn hn0)
  unfold NatTold at OF
  generalize 10 ^ n.toNat = T at *
  go_enter Tryz.func47, Tryz.ntmps47
  go_wp2_with fail
  go_at_call 60
  refine (OF.out _).mono ?_
  rintro e w2 ⟨a, k, c, rfl, hv, hb⟩
  have BB := Lib.hid ((BB.out.go hb).nat hv)
  clear hb hv
  go_wp2_with fail
  go_at_call 83
  refine (PW.out _ _ BB.out.now.1).mono ?_
  rintro e w3 ⟨a3, n3, c3, rfl, hv, hb⟩
  have BB := Lib.hid (((BB.out.go hb).nat hv).box (.slice a3 n3 c3) 26)
  clear hb hv
  have q0 := BB.out.now.1.cell
  have hs := BB.out.now.2.2.2.1
  have hc := hs.cell
  have hf := hs.free
  have HS := World.cell?_setCell_same _ ⟨w.heap.size, 0, none⟩ (.slice a3 n3 c3) hc
  have HE := Lib.hid (NatTold.done BB.out.below (by omega) hs BB.out.now.2.1)
  clear hs
  go_wp2
  exact bodyPost_ret (v := .agg #[.slice a3 n3 c3]) (by simp [results, Tryz.results47, go_sem, HS]) rfl HE.out

end Go.Proofs.YtgpcfncolhmgfaaGreatDoor

namespace Go.Proofs.YtgpcfncolhmgfaaGreatDoor
open Go.RowKit
attribute [local go_sem ↓] Go.wp_at_zero Go.wp_at_succ

/-- The digits with a point behind the first n, if there are more, and with noughts up to n, if there are fewer. -/
def pt (d : List UInt8) (n : Nat) : List UInt8 := if n < d.length then d.take n ++ [46] ++ d.drop n else d ++ List.replicate (n - d.length) 48

theorem rep_any (c : Nat) (w : World) (hc : c ≤ 1000000) : Calls Tryz.prog 64 #[.string ⟨#[48]⟩, .int .i64 c] w fun e w' => e = .returned (.string (str (List.replicate c 48))) ∧ Below w.heap.size w w' := by
  refine (Tryz.strings_Repeat ⟨#[48]⟩ c w (by omega) (by show 1 * c ≤ _; omega)).mono ?_
  rintro e w' ⟨rfl, hb⟩
  refine ⟨?_, hb⟩
  have h : ∀ c, Go.Lib.repeatL [48] c = List.replicate c (48 : UInt8) := by
    intro c
    induction c with
    | zero => rfl
    | succ c ih => rw [Go.Lib.repeatL, ih, List.replicate_succ]; rfl
  rw [show (⟨#[48]⟩ : ByteArray).data.toList = [48] from rfl, h]
  rfl

theorem str_extract (l : List UInt8) (i j : Nat) : (str l).extract i j = str ((l.take j).drop i) := by
  apply str_of
  rw [ByteArray.data_extract, Array.toList_extract]
  show List.extract l i j = _
  rw [List.extract_eq_take_drop, List.drop_take]

set_option maxHeartbeats 1600000 in
set_option maxRecDepth 100000 in
theorem dePointed_any (d : List UInt8) (n : Nat) (w : World) (hd : d.length ≤ 100000) (hn : n ≤ 100000) :
    Calls Tryz.prog 69 #[.string (str d), .int .i64 n] w fun e w' => e = .returned (.string (str (pt d n))) ∧ Below w.heap.size w w' := by
  have hsz := str_size d
  unfold pt
  by_cases h : n < d.length
  · rw [if_pos h]
    have h1 : decide ((n : Int) < (d.length : Int)) = true := decide_eq_true (by omega)
    have he : (str d).extract 0 n ++ ⟨#[46]⟩ ++ (str d).extract n d.length = str (d.take n ++ [46] ++ d.drop n) := by
      rw [str_extract, str_extract, show (⟨#[46]⟩ : ByteArray) = str [46] from rfl, str_append, str_append, List.drop_zero, List.take_length]
    go_enter Tryz.func69, Tryz.ntmps69
    go_wp2_with fail
    go_region
    go_wp2
    go_ret
    exact ⟨by simp, (Below.refl _ _).drew⟩
  · rw [if_neg h]
    have h1 : decide ((n : Int) < (d.length : Int)) = false := decide_eq_false (by omega)
    have i1 : (n : Int) - (d.length : Int) = ((n - d.length : Nat) : Int) := by omega
    have RP := Lib.hid (fun wz => rep_any (n - d.length) wz (by omega))
    generalize hm : n - d.length = m at *
    have hz : (str (List.replicate m 48)).size = m := by rw [str_size, List.length_replicate]
    rw [← str_append]
    generalize str (List.replicate m 48) = r at *
    go_enter Tryz.func69, Tryz.ntmps69
    go_wp2_with fail
    go_at_call 64
    refine (RP.out _).mono ?_
    rintro e w2 ⟨rfl, hb⟩
    have HB := Lib.hid hb
    clear hb
    go_wp2
    go_ret
    exact ⟨rfl, HB.out⟩

def hi : ByteArray := ⟨#[194, 175]⟩
/-- A written number: its digits, the exponent of the first one, how many there may be. -/
def wrS (d : List UInt8) (e many : Int) : ByteArray :=
  if many ≤ e ∨ e < -6 then str (pt d 1) ++ ⟨#[69]⟩ ++ digS e hi
  else if e < 0 then ⟨#[48, 46]⟩ ++ str (List.replicate (-e - 1).toNat 48) ++ str d
  else str (pt d (e + 1).toNat)
theorem pt_len (d : List UInt8) (n : Nat) : (pt d n).length ≤ d.length + n + 1 := by
  unfold pt
  split
  · simp; omega
  · simp; omega
theorem digS_len (e : Int) (sg : ByteArray) : (digS e sg).size ≤ sg.size + dl e.natAbs := by
  unfold digS
  split
  · rw [ByteArray.size_append, str_size]; unfold dec; rw [sdig_length]; omega
  · rw [str_size]; unfold dec; rw [sdig_length]; omega

set_option maxHeartbeats 1600000 in
set_option maxRecDepth 100000 in
theorem deWritten_any (d : List UInt8) (e many : Int) (w : World) (hd : d.length ≤ 10000) (he : e ≤ 10000 ∧ -10000 ≤ e) :
    Calls Tryz.prog 34 #[.string (str d), .int .i64 e, .int .i64 many] w fun x w' => x = .returned (.string (wrS d e many)) ∧ Below w.heap.size w w' := by
  unfold wrS
  have hp := pt_len d 1
  have hq := digS_len e hi
  have hh : hi.size = 2 := rfl
  have hdl := dl_le e.natAbs 5 (by omega) (by omega)
  have hsd := str_size d
  have BB := Lib.hid (Bag.start w)
  have P1 := Lib.hid (fun wz => dePointed_any d 1 wz (by omega) (by omega))
  have FR := Lib.hid (fun wz => from_any e wz (by omega))
  unfold IntTold at FR
  have DG := Lib.hid (fun a n c m wz hz => digits_any a n c m e hi wz hz 1 (by omega) (by omega) (by omega) (by omega))
  by_cases h1 : many ≤ e ∨ e < -6
  · rw [if_pos h1]
    have hpt := str_size (pt d 1)
    generalize str (pt d 1) = s1 at *
    generalize digS e hi = s2 at *
    obtain ⟨s3, h3⟩ : ∃ s3, s1 ++ (⟨#[69]⟩ : ByteArray) = s3 := ⟨_, rfl⟩
    have h3s : s3.size = s1.size + 1 := by rw [← h3, ByteArray.size_append]; rfl
    have h4s : (s3 ++ s2).size = s3.size + s2.size := ByteArray.size_append
    rw [h3]
    rcases (by omega : many ≤ e ∨ ¬ many ≤ e ∧ e < -6) with h2 | ⟨h2, h2'⟩
    · have d1 : decide (many ≤ e) = true := decide_eq_true h2
      go_enter Tryz.func34, Tryz.ntmps34
      go_wp2_with fail
      go_at_call 69
      refine (P1.out _).mono ?_
      rintro x w2 ⟨rfl, hb2⟩
      have BB := Lib.hid (BB.out.go hb2)
      clear hb2
      go_wp2_with fail
      go_at_call 42
      refine (FR.out _).mono ?_
      rintro x w3 ⟨a, n, c, m, rfl, hi3, hb3⟩
      have BB := Lib.hid ((BB.out.go hb3).int hi3)
      clear hb3 hi3
      go_wp2_with fail
      go_at_call 70
      refine (DG.out _ _ _ _ _ BB.out.now.1).mono ?_
      rintro x w4 ⟨rfl, hb4⟩
      have BB := Lib.hid (BB.out.go hb4)
      clear hb4
      go_wp2
      go_ret
      exact ⟨rfl, BB.out.below⟩
    · have d1 : decide (many ≤ e) = false := decide_eq_false h2
      have d2 : decide (e < -6) = true := decide_eq_true h2'
      go_enter Tryz.func34, Tryz.ntmps34
      go_wp2_with fail
      go_at_call 69
      refine (P1.out _).mono ?_
      rintro x w2 ⟨rfl, hb2⟩
      have BB := Lib.hid (BB.out.go hb2)
      clear hb2
      go_wp2_with fail
      go_at_call 42
      refine (FR.out _).mono ?_
      rintro x w3 ⟨a, n, c, m, rfl, hi3, hb3⟩
      have BB := Lib.hid ((BB.out.go hb3).int hi3)
      clear hb3 hi3
      go_wp2_with fail
      go_at_call 70
      refine (DG.out _ _ _ _ _ BB.out.now.1).mono ?_
      rintro x w4 ⟨rfl, hb4⟩
      have BB := Lib.hid (BB.out.go hb4)
      clear hb4
      go_wp2
      go_ret
      exact ⟨rfl, BB.out.below⟩
  · rw [if_neg h1]
    have d1 : decide (many ≤ e) = false := decide_eq_false (by omega)
    have d2 : decide (e < -6) = false := decide_eq_false (by omega)
    by_cases h2 : e < 0
    · rw [if_pos h2]
      have d3 : decide (e < 0) = true := decide_eq_true h2
      obtain ⟨r, hr⟩ : ∃ r : Nat, (-e - 1).toNat = r := ⟨_, rfl⟩
      have i1 : -e - 1 = (r : Int) := by omega
      rw [hr]
      have RP := Lib.hid (fun wz => rep_any r wz (by omega))
      have hz : (str (List.replicate r 48)).size = r := by rw [str_size, List.length_replicate]
      generalize str (List.replicate r 48) = s1 at *
      generalize str d = s2 at *
      obtain ⟨s3, h3⟩ : ∃ s3, (⟨#[48, 46]⟩ : ByteArray) ++ s1 = s3 := ⟨_, rfl⟩
      have h3s : s3.size = 2 + s1.size := by rw [← h3, ByteArray.size_append]; rfl
      rw [h3]
      go_enter Tryz.func34, Tryz.ntmps34
      go_wp2_with fail
      go_at_call 64
      refine (RP.out _).mono ?_
      rintro x w2 ⟨rfl, hb2⟩
      have BB := Lib.hid (BB.out.go hb2)
      clear hb2
      go_wp2
      go_ret
      exact ⟨rfl, BB.out.below⟩
    · rw [if_neg h2]
      have d3 : decide (e < 0) = false := decide_eq_false h2
      obtain ⟨r, hr⟩ : ∃ r : Nat, (e + 1).toNat = r := ⟨_, rfl⟩
      have i1 : e + 1 = (r : Int) := by omega
      rw [hr]
      have P2 := Lib.hid (fun wz => dePointed_any d r wz (by omega) (by omega))
      generalize str (pt d r) = s1 at *
      go_enter Tryz.func34, Tryz.ntmps34
      go_wp2_with fail
      go_at_call 69
      refine (P2.out _).mono ?_
      rintro x w2 ⟨rfl, hb2⟩
      have BB := Lib.hid (BB.out.go hb2)
      clear hb2
      go_wp2
      go_ret
      exact ⟨rfl, BB.out.below⟩

/-- The digits with the last one raised by 1, and the exponent of the first one. -/
def ruD (N k : Nat) : List UInt8 := if N + 1 = 10 ^ k then [49] else Go.Lib.trimRightB (sdig (N + 1) k) 48
def ruE (N k : Nat) (e : Int) : Int := if N + 1 = 10 ^ k then e + 1 else e

set_option maxHeartbeats 1600000 in
set_option maxRecDepth 100000 in
theorem roundedUp_any (N k : Nat) (e : Int) (w : World) (hN : N < 10 ^ k) (hk : k ≤ 10000) (he : e ≤ 10000 ∧ -10000 ≤ e) :
    Calls Tryz.prog 68 #[.string (str (sdig N k)), .int .i64 e] w fun x w' => x = .returned (.tuple #[.string (str (ruD N k)), .int .i64 (ruE N k e)]) ∧ Below w.heap.size w w' := by
  have TR := Lib.hid (fun wz => Tryz.strings_TrimRight_one (str (sdig N k)) 57 (by decide) wz (by rw [str_size, sdig_length]; omega))
  rw [str_toList] at TR
  have BB := Lib.hid (Bag.start w)
  unfold ruD ruE
  have hlen := trimR_len (sdig N k) 57
  rw [sdig_length] at hlen
  rcases round_up k N hN with ⟨h1, h2⟩ | ⟨l, r, h1, h2, h3, h4⟩
  · rw [if_pos h2, if_pos h2]
    rw [h1, show (⟨([] : List UInt8).toArray⟩ : ByteArray) = ⟨#[]⟩ from rfl] at TR
    clear h1 h2 hlen
    generalize str (sdig N k) = s at *
    go_enter Tryz.func68, Tryz.ntmps68
    go_wp2_with fail
    go_at_call 67
    refine (TR.out _).mono ?_
    rintro x w2 ⟨rfl, rfl⟩
    go_wp2
    exact bodyPost_ret (v := .tuple #[.string (str [49]), .int .i64 (e + 1)]) (by simp [results, Tryz.results68, go_sem]; rfl) rfl ⟨rfl, BB.out.below⟩
  · rw [if_neg (by omega), if_neg (by omega), h3]
    rw [h2] at TR hlen
    rw [List.length_append, List.length_singleton] at hlen
    generalize str (sdig N k) = s at *
    have hz : (⟨(l ++ [UInt8.ofNat (48 + r)]).toArray⟩ : ByteArray).size = l.length + 1 := by simp [ByteArray.size]
    have hne : (⟨(l ++ [UInt8.ofNat (48 + r)]).toArray⟩ : ByteArray).toList.isEmpty = false := by
      simp [go_sem]
    have hx : (⟨(l ++ [UInt8.ofNat (48 + r)]).toArray⟩ : ByteArray)[l.length]? = some (UInt8.ofNat (48 + r)) := by
      rw [getElem?_pos _ l.length (by rw [hz]; omega)]
      show some ((l ++ [UInt8.ofNat (48 + r)]).toArray[l.length]'_) = _
      simp
    have he : (⟨(l ++ [UInt8.ofNat (48 + r)]).toArray⟩ : ByteArray).extract 0 l.length = str l := by
      rw [show (⟨(l ++ [UInt8.ofNat (48 + r)]).toArray⟩ : ByteArray) = str (l ++ [UInt8.ofNat (48 + r)]) from rfl, str_extract]
      simp
    have hb : (UInt8.ofNat (48 + r)).toNat = 48 + r := by rw [UInt8.toNat_ofNat']; omega
    generalize (⟨(l ++ [UInt8.ofNat (48 + r)]).toArray⟩ : ByteArray) = t at *
    generalize UInt8.ofNat (48 + r) = b at *
    clear h2 h3
    have hle : (l.length : Int) ≤ (l.length : Int) + 1 := by omega
    have hlt : (l.length : Int) < (l.length : Int) + 1 := by omega
    have hx2 : t[l.length]'(by omega) = b := by
      rw [getElem?_pos t l.length (by omega)] at hx
      exact Option.some.inj hx
    clear hx
    have hu := (show ∀ r : Nat, r < 9 → Utf8.encode ((48 : Int) + (r : Int) + 1) = str [UInt8.ofNat (48 + r + 1)] by decide +kernel) r h1
    have hsl := str_size l
    have hs1 : (str [UInt8.ofNat (48 + r + 1)]).size = 1 := rfl
    rw [← str_append]
    generalize str [UInt8.ofNat (48 + r + 1)] = s1 at *
    generalize str l = s0 at *
    go_enter Tryz.func68, Tryz.ntmps68
    go_wp2_with fail
    go_at_call 67
    refine (TR.out _).mono ?_
    rintro x w2 ⟨rfl, rfl⟩
    go_wp2_with fail
    go_region
    go_wp2
    exact bodyPost_ret (v := .tuple #[.string (s0 ++ s1), .int .i64 e]) (by simp [results, Tryz.results68, go_sem]) rfl ⟨rfl, BB.out.drew.below⟩

end Go.Proofs.YtgpcfncolhmgfaaGreatDoor

