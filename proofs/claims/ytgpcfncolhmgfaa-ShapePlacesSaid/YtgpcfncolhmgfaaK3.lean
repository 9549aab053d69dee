/-
  Package nat: rows of the call's own that grow (append), and Parse, by contract.
  Package nat: Parse, by contract.
  slices.Reverse over a row of bytes, by contract; the digits of a number in groups.
  Package nat: Text, by contract: a number's digits.
  Package nat: Bits and Uint, by contract.
-/
import Derived.Test.YtgpcfncolhmgfaaK2
import Derived.Test.YtgpcfncolhmgfaaK1
import Derived.Laws.BytesArg
namespace Go.Proofs.Ytgpcfncolhmgfaa
open Go.RowKit

/-- The values of the first n numbers of f. -/
def cl (ki : IntKind) (f : Nat → Nat) (n : Nat) : List Value := (List.range n).map fun j => .int ki (f j)
theorem cl_length (ki : IntKind) (f : Nat → Nat) (n : Nat) : (cl ki f n).length = n := by simp [cl]
theorem cl_get {ki : IntKind} {f : Nat → Nat} {n j : Nat} (h : j < n) : (cl ki f n)[j]? = some (.int ki (f j)) := by simp [cl, h]
theorem cl_set {ki : IntKind} {f : Nat → Nat} {n k x : Nat} : (cl ki f n).set k (.int ki x) = cl ki (fun j => if j = k then x else f j) n := by
  apply List.ext_getElem?
  intro j
  by_cases hj : j < n
  · rw [cl_get (f := fun j => if j = k then x else f j) hj, List.getElem?_set]
    by_cases e : k = j
    · subst e
      rw [if_pos rfl, if_pos (by rw [cl_length]; exact hj)]
      simp
    · rw [if_neg e, cl_get hj]
      simp [Ne.symm e]
  · rw [List.getElem?_eq_none (by simp [cl_length]; omega), List.getElem?_eq_none (by simp [cl_length]; omega)]
theorem cl_snoc {ki : IntKind} {f : Nat → Nat} {n x : Nat} : cl ki f n ++ [.int ki x] = cl ki (fun j => if j = n then x else f j) (n + 1) := by
  unfold cl
  rw [List.range_succ, List.map_append]
  congr 1
  · apply List.map_congr_left
    intro j hj
    have := List.mem_range.1 hj
    simp [Nat.ne_of_lt this]
  · simp
theorem cl_congr {ki : IntKind} {f g : Nat → Nat} {n : Nat} (h : ∀ j, j < n → f j = g j) : cl ki f n = cl ki g n := by
  unfold cl
  apply List.map_congr_left
  intro j hj
  rw [h j (List.mem_range.1 hj)]

/-- A slice of the call's own, of one-cell numbers. -/
def OwnL (w : World) (base : Nat) (e : TypeId) (ki : IntKind) (v : Value) (n : Nat) (f : Nat → Nat) : Prop := w.ownsRow base e 1 v n (cl ki f n)

theorem OwnL.cases {w : World} {base : Nat} {e : TypeId} {ki : IntKind} {v : Value} {n : Nat} {f : Nat → Nat} (h : OwnL w base e ki v n f) :
    (v = .slice none 0 0 ∧ n = 0) ∨ ∃ g c, v = .slice (some ⟨g, 0, none⟩) n c ∧ n ≤ c ∧ base ≤ g ∧ g < w.heap.size ∧ Cells w ki g 0 n f ∧ Free w g := by
  rcases h.2 with h0 | ⟨g, cap, cur, hv, hb, hg, hnc, hcm, hcs, ht⟩
  · exact .inl h0
  · refine .inr ⟨g, cap, hv, hnc, hb, ?_, ?_, Free.of_block hg⟩
    · rcases Nat.lt_or_ge g w.heap.size with h1 | h1
      · exact h1
      · rw [Array.getElem?_eq_none h1] at hg; cases hg
    · intro j hj
      have h1 : (cur.toList.take (n * 1))[j]? = some (.int ki (f j)) := by rw [ht]; exact cl_get hj
      rw [Nat.mul_one, List.getElem?_take, if_pos hj] at h1
      simp only [World.cell?, hg, Nat.zero_add]
      simpa using h1

theorem OwnL.slAt {w : World} {base : Nat} {e : TypeId} {ki : IntKind} {v : Value} {n m : Nat} {f : Nat → Nat} (h : OwnL w base e ki v n f) (hf : ∀ j, j < n → f j < m) (hn : n ≤ 1000000) : ∃ a c, v = .slice a n c ∧ SlAt w ki m a n c f ∧ (∀ x, a = some x → base ≤ x.block) := by
  rcases h.cases with ⟨rfl, rfl⟩ | ⟨g, c, rfl, h1, h2, h3, h4, _⟩
  · exact ⟨none, 0, rfl, SlAt.nil _ _ _ _, fun x hx => by cases hx⟩
  · exact ⟨_, c, rfl, ⟨h1, hn, hf, .inr ⟨g, 0, rfl, h3, h4⟩⟩, fun x hx => by cases hx; exact h2⟩

theorem OwnL.store {w : World} {base : Nat} {e : TypeId} {ki : IntKind} {g n c : Nat} {f : Nat → Nat} (h : OwnL w base e ki (.slice (some ⟨g, 0, none⟩) n c) n f) (k x : Nat) : OwnL (w.setCell ⟨g, k, none⟩ (.int ki x)) base e ki (.slice (some ⟨g, 0, none⟩) n c) n (fun j => if j = k then x else f j) := by
  have := (World.ownsRow.stored h k (.int ki x)).1
  rw [cl_set] at this
  exact this

def TimesR (s : Nat → Nat) (m p k c : Nat) (d : Nat → Nat) : Prop := val d k + c * 4294967296 ^ k = m * val s k + p
theorem timesR_step {s : Nat → Nat} {m p k c c' lo : Nat} (hp : c + s k * m = c' * 4294967296 + lo) :
    ∀ d d', TimesR s m p k c d → (∀ j, j ≠ k → d' j = d j) → d' k = lo → TimesR s m p (k + 1) c' d' := by
  intro d d' h h2 h3
  unfold TimesR at *
  rw [val, val, pow_succ32, val_congr k (f := d') (g := d) (fun j hj => h2 j (by omega)), h3]
  generalize 4294967296 ^ k = P at *
  generalize val d k = vd at *
  generalize val s k = vs at *
  generalize s k = x at *
  have a2 : (c + x * m) * P = (c' * 4294967296 + lo) * P := by rw [hp]
  have b1 : m * (vs + x * P) = m * vs + x * m * P := by rw [Nat.mul_add, ← Nat.mul_assoc, Nat.mul_comm m x]
  rw [Nat.add_mul, Nat.add_mul, Nat.mul_assoc c'] at a2
  rw [b1]
  omega

/-- The row at the head of a round of timesPlus. -/
def TimesI (w wr : World) (base : Nat) (v : Value) (n : Nat) (s : Nat → Nat) (m p k c : Nat) : Prop :=
  Below base w wr ∧ ∃ d, OwnL wr base 53 .u32 v n d ∧ (∀ j, j < n → d j < 4294967296) ∧ (∀ j, k ≤ j → j < n → d j = s j) ∧ TimesR s m p k c d

end Go.Proofs.Ytgpcfncolhmgfaa

namespace Go.Proofs.Ytgpcfncolhmgfaa
open Go.RowKit

def isDig (c : UInt8) : Bool := decide (48 ≤ c.toNat) && decide (c.toNat ≤ 57)
def okB (l : List UInt8) : Bool := decide (0 < l.length) && (decide (l.length ≤ 2000) && l.all isDig)
theorem isDig_iff {c : UInt8} : isDig c = true ↔ 48 ≤ c.toNat ∧ c.toNat ≤ 57 := by simp [isDig]
theorem okB_digs {l : List UInt8} (h : okB l = true) : 0 < l.length ∧ l.length ≤ 2000 ∧ ∀ c ∈ l, 48 ≤ c.toNat ∧ c.toNat ≤ 57 := by
  simp only [okB, Bool.and_eq_true, decide_eq_true_eq, List.all_eq_true] at h
  exact ⟨h.1, h.2.1, fun c hc => isDig_iff.1 (h.2.2 c hc)⟩
theorem okB_mk {l : List UInt8} (h1 : 0 < l.length) (h2 : l.length ≤ 2000) (h3 : ∀ c ∈ l, 48 ≤ c.toNat ∧ c.toNat ≤ 57) : okB l = true := by
  simp only [okB, Bool.and_eq_true, decide_eq_true_eq, List.all_eq_true]
  exact ⟨h1, h2, fun c hc => isDig_iff.2 (h3 c hc)⟩

theorem numOf_snoc (c : UInt8) : ∀ l : List UInt8, numOf (l ++ [c]) = 10 * numOf l + (c.toNat - 48)
  | [] => by simp [numOf]
  | x :: l => by
    rw [List.cons_append, numOf, numOf_snoc c l, numOf, List.length_append, List.length_singleton, Nat.pow_succ, Nat.mul_add]
    have : (x.toNat - 48) * (10 ^ l.length * 10) = 10 * ((x.toNat - 48) * 10 ^ l.length) := by rw [← Nat.mul_assoc, Nat.mul_comm]
    omega

theorem take_snoc (s : ByteArray) (k : Nat) (h : k < s.size) : s.data.toList.take (k + 1) = s.data.toList.take k ++ [s[k]] := by
  rw [List.take_succ_eq_append_getElem (by simpa using h)]; rfl

def ParseOut (w w' : World) (e : Ending) (l : List UInt8) : Prop := ∃ a n c, e = .returned (.tuple #[.agg #[.slice a n c], .bool (okB l)]) ∧ NatIs w' (.agg #[.slice a n c]) (if okB l then numOf l else 0) ∧ (∀ x, a = some x → w.heap.size ≤ x.block) ∧ Below w.heap.size w w'

theorem parse_no {w w' : World} {l : List UInt8} (h : okB l = false) (hb : Below w.heap.size w w') : ParseOut w w' (.returned (.tuple #[.agg #[.slice none 0 0], .bool false])) l :=
  ⟨_, _, _, by rw [h], by rw [h]; exact NatIs.zero _, (fun x hx => by cases hx), hb⟩

def ParI (w wr : World) (s : ByteArray) (v : Value) (k : Nat) : Prop := Below w.heap.size w wr ∧ Slot wr w.heap.size (.slice none 0 0) ∧ (∀ c ∈ s.data.toList.take k, 48 ≤ c.toNat ∧ c.toNat ≤ 57) ∧
  ∃ n d, OwnL wr (w.heap.size + 1) 53 .u32 v n d ∧ (∀ j, j < n → d j < 4294967296) ∧ n ≤ k ∧ val d n = numOf (s.data.toList.take k)

end Go.Proofs.Ytgpcfncolhmgfaa

namespace Go.Proofs.Ytgpcfncolhmgfaa
open Go.RowKit

def RevI (w wr : World) (g n : Nat) (f : Nat → Nat) (i : Nat) : Prop := Wrote g 0 n w wr ∧ Free wr g ∧ ∃ d, Cells wr .u8 g 0 n d ∧ (∀ j, j < i → d j = f (n - 1 - j)) ∧ (∀ j, i ≤ j → j + i < n → d j = f j) ∧ (∀ j, n ≤ j + i → j < n → d j = f (n - 1 - j))

theorem RevI.next {w wr wr' : World} {g n : Nat} {f : Nat → Nat} {i j : Nat} (h : RevI w wr g n f i) (hij : i < j) (hj : j + i + 1 = n) (hw : Wrote g 0 n wr wr') (hf : Free wr' g)
    (hc : ∀ d, Cells wr .u8 g 0 n d → Cells wr' .u8 g 0 n (fun k => if k = i then f j else if k = j then f i else d k)) : RevI w wr' g n f (i + 1) := by
  obtain ⟨h1, h2, d, h3, h4, h5, h6⟩ := h
  refine ⟨h1.trans hw, hf, _, hc d h3, fun k hk => ?_, fun k h7 h8 => ?_, fun k h7 h8 => ?_⟩
  · by_cases e : k = i
    · subst e; rw [if_pos rfl]; congr 1; omega
    · rw [if_neg e, if_neg (by omega)]; exact h4 k (by omega)
  · rw [if_neg (by omega), if_neg (by omega)]; exact h5 k (by omega) (by omega)
  · by_cases e : k = j
    · subst e; rw [if_neg (by omega), if_pos rfl]; congr 1; omega
    · rw [if_neg (by omega), if_neg e]; exact h6 k (by omega) h8

theorem cells_swap {wr : World} {g n i j x y : Nat} {d : Nat → Nat} (h : Cells wr .u8 g 0 n d) (hi : i < n) (hj : j < n) (hij : i ≠ j) :
    Cells ((wr.setCell ⟨g, i, none⟩ (.int .u8 x)).setCell ⟨g, j, none⟩ (.int .u8 y)) .u8 g 0 n (fun k => if k = i then x else if k = j then y else d k) ∧
    Cells ((wr.setCell ⟨g, j, none⟩ (.int .u8 y)).setCell ⟨g, i, none⟩ (.int .u8 x)) .u8 g 0 n (fun k => if k = i then x else if k = j then y else d k) := by
  have a1 := (h.set (k := i) (x := x) hi).set (k := j) (x := y) hj
  have a2 := (h.set (k := j) (x := y) hj).set (k := i) (x := x) hi
  rw [Nat.zero_add, Nat.zero_add] at a1 a2
  refine ⟨?_, ?_⟩
  · intro k hk
    rw [a1 k hk]
    by_cases e : k = i
    · subst e; simp [hij]
    · simp [e]
  · intro k hk
    rw [a2 k hk]

end Go.Proofs.Ytgpcfncolhmgfaa

namespace Go.Proofs.Ytgpcfncolhmgfaa
open Go.RowKit

theorem infoB : (Try.prog.info? 5).map (fun i => (i.zero, i.size, i.bytes)) = some (some (.int .u8 0), 1, 1) := by kernel_rfl

def dg (N j : Nat) : Nat := 48 + N / 10 ^ j % 10
def lenOf : Value → Nat
  | .slice _ n _ => n
  | _ => 0
theorem OwnL.len {w : World} {base : Nat} {e : TypeId} {ki : IntKind} {v : Value} {n : Nat} {f : Nat → Nat} (h : OwnL w base e ki v n f) : lenOf v = n := by
  rcases h.cases with ⟨rfl, rfl⟩ | ⟨g, c, rfl, _⟩ <;> rfl
theorem OwnL.below {w w' : World} {base : Nat} {e : TypeId} {ki : IntKind} {v : Value} {n : Nat} {f : Nat → Nat} (h : OwnL w base e ki v n f) (hb : Below w.heap.size w w') : OwnL w' base e ki v n f :=
  World.ownsRow.kept h (row := none) ⟨hb.os, hb.tape, hb.output, hb.size, fun k hk _ => hb.block k hk⟩ (by
    rcases h.cases with ⟨rfl, _⟩ | ⟨g, c, rfl, _⟩
    · exact .inl rfl
    · exact .inr (by simp [Value.ownBlock]))
theorem OwnL.wrote {w w' : World} {base : Nat} {e : TypeId} {ki : IntKind} {v : Value} {n b lo hi : Nat} {f : Nat → Nat} (h : OwnL w base e ki v n f) (hb : Wrote b lo hi w w') (hlt : b < base) : OwnL w' base e ki v n f :=
  World.ownsRow.kept h (row := some b) ⟨hb.os, hb.tape, hb.output, hb.size, fun k hk hne => hb.block k hk (fun e => hne (by rw [e]))⟩ (by
    rcases h.cases with ⟨rfl, _⟩ | ⟨g, c, rfl, _, hg, _⟩
    · exact .inl rfl
    · refine .inr ?_
      intro e
      simp only [Value.ownBlock, Option.some.injEq] at e
      omega)

theorem dig_group (X i : Nat) (h : i < 9) : X % 1000000000 / 10 ^ i % 10 = X / 10 ^ i % 10 := by
  have e : (1000000000 : Nat) = 10 ^ i * 10 ^ (9 - i) := by rw [← Nat.pow_add, show i + (9 - i) = 9 by omega]
  rw [e, Nat.mod_mul_right_div_self]
  exact Nat.mod_mod_of_dvd _ ⟨10 ^ (8 - i), by rw [← Nat.pow_succ']; congr 1; omega⟩

theorem pow9_bound {K L N : Nat} (h : 0 < N / 10 ^ (9 * K)) (hN : N < 4294967296 ^ L) : 9 * K < 32 * L + 1 := by
  have h1 : 10 ^ (9 * K) ≤ N := by
    rcases Nat.lt_or_ge N (10 ^ (9 * K)) with h2 | h2
    · rw [Nat.div_eq_of_lt h2] at h; omega
    · exact h2
  have h2 : (2 : Nat) ^ (9 * K) ≤ 10 ^ (9 * K) := Nat.pow_le_pow_left (by omega) _
  have h3 : (4294967296 : Nat) ^ L = 2 ^ (32 * L) := by rw [Nat.pow_mul]
  have h4 : (2 : Nat) ^ (9 * K) < 2 ^ (32 * L) := by omega
  have := (Nat.pow_lt_pow_iff_right (show 1 < 2 by omega)).1 h4
  omega

/-- At the head of a round of Text. -/
structure TextI (w wr : World) (base b N L : Nat) (D : Value) (ra : Option Addr) (n c K : Nat) : Prop where
  below : Below w.heap.size w wr
  size : base ≤ wr.heap.size
  own : OwnL wr base 5 .u8 D (9 * K) (dg N)
  bge : w.heap.size ≤ b
  blt : b < base
  free : Free wr b
  rest : ∃ f, SlAt wr .u32 4294967296 ra n c f ∧ val f n = N / 10 ^ (9 * K) ∧ (n = 0 ∨ f (n - 1) ≠ 0)
  plc : ra = none ∨ ra = some ⟨b, 0, none⟩
  kb : 9 * K ≤ 32 * L + 10

/-- Within a round: the digits of a group so far. -/
structure GroupI (wo wr : World) (base N K G : Nat) (D : Value) (i : Nat) : Prop where
  below : Below base wo wr
  own : OwnL wr base 5 .u8 D (9 * K + i) (dg N)

end Go.Proofs.Ytgpcfncolhmgfaa

namespace Go.Proofs.Ytgpcfncolhmgfaa
open Go.RowKit

/-- How many bits a number has. -/
def nbits (N : Nat) : Nat := if N = 0 then 0 else N.log2 + 1
theorem nbits_eq {N b : Nat} (h1 : 2 ^ b ≤ N) (h2 : N < 2 ^ (b + 1)) : nbits N = b + 1 := by
  have h0 : N ≠ 0 := by have := Nat.two_pow_pos b; omega
  unfold nbits
  rw [if_neg h0]
  have := (Nat.le_log2 h0).2 h1
  have := (Nat.log2_lt h0).2 h2
  omega
theorem nbits_le {N b : Nat} : nbits N ≤ b ↔ N < 2 ^ b := by
  unfold nbits
  split
  · rename_i h; subst h; simp [Nat.two_pow_pos]
  · rename_i h
    rw [← Nat.log2_lt h]; omega

theorem bits_val {n : Nat} {f : Nat → Nat} (hn : 0 < n) (hf : ∀ j, j < n → f j < 4294967296) (ht : f (n - 1) ≠ 0) : nbits (val f n) = (n - 1) * 32 + Lib.bitLen (f (n - 1)) := by
  obtain ⟨m, rfl⟩ : ∃ m, n = m + 1 := ⟨n - 1, by omega⟩
  rw [Nat.add_sub_cancel] at *
  have hx := hf m (by omega)
  obtain ⟨a, b, c⟩ := Lib.bitLenAux_bounds 64 (f m) (by omega) ht
  have hl : Lib.bitLen (f m) = Lib.bitLenAux 64 (f m) := rfl
  rw [hl]
  generalize Lib.bitLenAux 64 (f m) = l at *
  obtain ⟨k, rfl⟩ : ∃ k, l = k + 1 := ⟨l - 1, by omega⟩
  rw [Nat.add_sub_cancel] at b
  have hB : (4294967296 : Nat) ^ m = 2 ^ (m * 32) := by rw [Nat.mul_comm, Nat.pow_mul]
  have h1 := val_lt f m (fun j hj => hf j (by omega))
  rw [show m * 32 + (k + 1) = (m * 32 + k) + 1 by omega]
  refine nbits_eq ?_ ?_
  · rw [Nat.pow_add, val, hB, Nat.mul_comm]
    have := Nat.mul_le_mul_right (2 ^ (m * 32)) b
    omega
  · rw [show m * 32 + k + 1 = (k + 1) + m * 32 by omega, Nat.pow_add, val]
    have := Nat.mul_le_mul_right (2 ^ (m * 32)) (show f m + 1 ≤ 2 ^ (k + 1) from c)
    rw [Nat.add_mul] at this
    rw [hB] at h1 ⊢
    omega

theorem or0 (x : Nat) (h : x < 18446744073709551616) : bits .or .u64 (0 : Int) (x : Int) = (x : Int) := by
  have := u64_or_nat 0 x (by omega) h
  rw [Nat.zero_or] at this
  exact this

def UintOut (w w' : World) (e : Ending) (N : Nat) : Prop := e = .returned (.tuple #[.int .u64 ((if N < 18446744073709551616 then N else 0 : Nat) : Int), .bool (decide (N < 18446744073709551616))]) ∧ Below w.heap.size w w'

end Go.Proofs.Ytgpcfncolhmgfaa

