/-
  Package nat: rows of the call's own that grow (append), and Parse, by contract.
  Package nat: Parse, by contract.
  slices.Reverse over a row of bytes, by contract; the digits of a number in groups.
  Package nat: Text, by contract: a number's digits.
  Package nat: Bits and Uint, by contract.
-/
import Derived.Test.YthklcdcikmninaaGreatDoorK2
import Derived.Test.YthklcdcikmninaaGreatDoorK1
import Derived.Laws.BytesArg
namespace Go.Proofs.YthklcdcikmninaaGreatDoor
open Go.RowKit

/-- The values of the first n numbers of f. -/
def cl (ki : IntKind) (f : Nat → Nat) (n : Nat) : List Value := (List.range n).map fun j => .int ki (f j)
theorem cl_length (ki : IntKind) (f : Nat → Nat) (n : Nat) : (cl ki f n).length = n := by simp [cl]
theorem cl_get {ki : IntKind} {f : Nat → Nat} {n j : Nat} (h : j < n) : (cl ki f n)[j]? = some (.int ki (f j)) := by simp [cl, h]
theorem cl_set {ki : IntKind} {f : Nat → Nat} {n k x : Nat} : (cl ki f n).set k (.int ki x) = cl ki (fun j => if j = k then x else f j) n := by
  apply List.ext_getElem?
  intro j
  by_cases hj : j < n
  · rw [cl_get (f := fun j => if j = k then x else f j) hj, List.getElem?_set]
    by_cases e : k = j
    · subst e
      rw [if_pos rfl, if_pos (by rw [cl_length]; exact hj)]
      simp
    · rw [if_neg e, cl_get hj]
      simp [Ne.symm e]
  · rw [List.getElem?_eq_none (by simp [cl_length]; omega), List.getElem?_eq_none (by simp [cl_length]; omega)]
theorem cl_snoc {ki : IntKind} {f : Nat → Nat} {n x : Nat} : cl ki f n ++ [.int ki x] = cl ki (fun j => if j = n then x else f j) (n + 1) := by
  unfold cl
  rw [List.range_succ, List.map_append]
  congr 1
  · apply List.map_congr_left
    intro j hj
    have := List.mem_range.1 hj
    simp [Nat.ne_of_lt this]
  · simp
theorem cl_congr {ki : IntKind} {f g : Nat → Nat} {n : Nat} (h : ∀ j, j < n → f j = g j) : cl ki f n = cl ki g n := by
  unfold cl
  apply List.map_congr_left
  intro j hj
  rw [h j (List.mem_range.1 hj)]

/-- A slice of the call's own, of one-cell numbers. -/
def OwnL (w : World) (base : Nat) (e : TypeId) (ki : IntKind) (v : Value) (n : Nat) (f : Nat → Nat) : Prop := w.ownsRow base e 1 v n (cl ki f n)

theorem OwnL.cases {w : World} {base : Nat} {e : TypeId} {ki : IntKind} {v : Value} {n : Nat} {f : Nat → Nat} (h : OwnL w base e ki v n f) :
    (v = .slice none 0 0 ∧ n = 0) ∨ ∃ g c, v = .slice (some ⟨g, 0, none⟩) n c ∧ n ≤ c ∧ base ≤ g ∧ g < w.heap.size ∧ Cells w ki g 0 n f ∧ Free w g := by
  rcases h.2 with h0 | ⟨g, cap, cur, hv, hb, hg, hnc, hcm, hcs, ht⟩
  · exact .inl h0
  · refine .inr ⟨g, cap, hv, hnc, hb, ?_, ?_, Free.of_block hg⟩
    · rcases Nat.lt_or_ge g w.heap.size with h1 | h1
      · exact h1
      · rw [Array.getElem?_eq_none h1] at hg; cases hg
    · intro j hj
      have h1 : (cur.toList.take (n * 1))[j]? = some (.int ki (f j)) := by rw [ht]; exact cl_get hj
      rw [Nat.mul_one, List.getElem?_take, if_pos hj] at h1
      simp only [World.cell?, hg, Nat.zero_add]
      simpa using h1

theorem OwnL.slAt {w : World} {base : Nat} {e : TypeId} {ki : IntKind} {v : Value} {n m : Nat} {f : Nat → Nat} (h : OwnL w base e ki v n f) (hf : ∀ j, j < n → f j < m) (hn : n ≤ 1000000) : ∃ a c, v = .slice a n c ∧ SlAt w ki m a n c f ∧ (∀ x, a = some x → base ≤ x.block) := by
  rcases h.cases with ⟨rfl, rfl⟩ | ⟨g, c, rfl, h1, h2, h3, h4, _⟩
  · exact ⟨none, 0, rfl, SlAt.nil _ _ _ _, fun x hx => by cases hx⟩
  · exact ⟨_, c, rfl, ⟨h1, hn, hf, .inr ⟨g, 0, rfl, h3, h4⟩⟩, fun x hx => by cases hx; exact h2⟩

theorem OwnL.store {w : World} {base : Nat} {e : TypeId} {ki : IntKind} {g n c : Nat} {f : Nat → Nat} (h : OwnL w base e ki (.slice (some ⟨g, 0, none⟩) n c) n f) (k x : Nat) : OwnL (w.setCell ⟨g, k, none⟩ (.int ki x)) base e ki (.slice (some ⟨g, 0, none⟩) n c) n (fun j => if j = k then x else f j) := by
  have := (World.ownsRow.stored h k (.int ki x)).1
  rw [cl_set] at this
  exact this

def TimesR (s : Nat → Nat) (m p k c : Nat) (d : Nat → Nat) : Prop := val d k + c * 4294967296 ^ k = m * val s k + p
theorem timesR_step {s : Nat → Nat} {m p k c c' lo : Nat} (hp : c + s k * m = c' * 4294967296 + lo) :
    ∀ d d', TimesR s m p k c d → (∀ j, j ≠ k → d' j = d j) → d' k = lo → TimesR s m p (k + 1) c' d' := by
  intro d d' h h2 h3
  unfold TimesR at *
  rw [val, val, pow_succ32, val_congr k (f := d') (g := d) (fun j hj => h2 j (by omega)), h3]
  generalize 4294967296 ^ k = P at *
  generalize val d k = vd at *
  generalize val s k = vs at *
  generalize s k = x at *
  have a2 : (c + x * m) * P = (c' * 4294967296 + lo) * P := by rw [hp]
  have b1 : m * (vs + x * P) = m * vs + x * m * P := by rw [Nat.mul_add, ← Nat.mul_assoc, Nat.mul_comm m x]
  rw [Nat.add_mul, Nat.add_mul, Nat.mul_assoc c'] at a2
  rw [b1]
  omega

/-- The row at the head of a round of timesPlus. -/
def TimesI (w wr : World) (base : Nat) (v : Value) (n : Nat) (s : Nat → Nat) (m p k c : Nat) : Prop :=
  Below base w wr ∧ ∃ d, OwnL wr base 69 .u32 v n d ∧ (∀ j, j < n → d j < 4294967296) ∧ (∀ j, k ≤ j → j < n → d j = s j) ∧ TimesR s m p k c d

set_option maxHeartbeats 1600000 in
set_option maxRecDepth 100000 in
theorem timesPlus_any (base : Nat) (v : Value) (n : Nat) (s : Nat → Nat) (m p : Nat) (w : World) (h : OwnL w base 69 .u32 v n s) (hs : ∀ j, j < n → s j < 4294967296) (hn : n + 1 ≤ 1000000) (hm : m < 4294967296) (hp : p < 4294967296) (hb : base ≤ w.heap.size) :
    Calls Tryz.prog 71 #[v, .int .u32 m, .int .u32 p] w fun e w' => ∃ v' n' d, e = .returned v' ∧ OwnL w' base 69 .u32 v' n' d ∧ (∀ j, j < n' → d j < 4294967296) ∧ val d n' = m * val s n + p ∧ n' ≤ n + 1 ∧ Below base w w' := by
  obtain ⟨i0, hi, hz0, hz1, hz2⟩ := info_parts infoU
  have H0 : TimesI w w base v n s m p 0 p := ⟨Below.refl _ _, s, h, hs, fun _ _ _ => rfl, by simp [TimesR, val]⟩
  obtain ⟨a, c0, rfl, _, _⟩ := h.slAt hs (by omega)
  have hpp : (p : Int) % 18446744073709551616 = (p : Int) := by omega
  clear hs h hpp
  have HI := Lib.hid hi
  clear hi
  go_enter Tryz.func71, Tryz.ntmps71
  go_wp2
  go_loopw [7, 13] (fun cy i wr => ∃ k c : Nat, k ≤ n ∧ i = .int .i64 k ∧ c < 4294967296 ∧ cy = .int .u64 c ∧ TimesI w wr base (.slice a n c0) n s m p k c)
    (fun _ i _ => n - (intOf i).toNat)
  case atStart => exact ⟨0, p, by omega, rfl, hp, rfl, H0⟩
  case round =>
    obtain ⟨k, c, hk, rfl, hc, rfl, hr⟩ := hrel
    by_cases hlt : k < n
    · obtain ⟨hbl, d, hd, hdb, hds, hR⟩ := hr
      have hcs := hd.cases
      rcases hcs with ⟨_, h1⟩ | ⟨g, c1, h1, hnc, hgb, hgl, hgc, hgf⟩
      · omega
      · cases h1
        have hck := hgc k hlt
        rw [Nat.zero_add] at hck
        have hfk := hgf k
        have hdk := hds k (Nat.le_refl _) hlt
        have hdl := hdb k hlt
        rw [hdk] at hck hdl
        obtain ⟨pr, hpr⟩ : ∃ pr, c + s k * m = pr := ⟨_, rfl⟩
        have hprm := mul_bound' hdl hm
        obtain ⟨lo, hlo⟩ : ∃ lo, pr % 4294967296 = lo := ⟨_, rfl⟩
        obtain ⟨c', hc'⟩ : ∃ c', pr / 4294967296 = c' := ⟨_, rfl⟩
        have hst := timesR_step (s := s) (m := m) (p := p) (k := k) (c := c) (c' := c') (lo := lo) (by rw [hpr]; omega)
        have hrn : TimesI w (wr.setCell ⟨g, k, none⟩ (.int .u32 lo)) base (.slice (some ⟨g, 0, none⟩) n c0) n s m p (k + 1) c' := by
          refine ⟨hbl.setCell hgb _, _, hd.store k lo, fun j hj => ?_, fun j h1 h2 => ?_, hst d _ hR (fun j hj => if_neg hj) (if_pos rfl)⟩
          · show (if j = k then lo else d j) < _
            split
            · omega
            · exact hdb j hj
          · show (if j = k then lo else d j) = _
            rw [if_neg (by omega)]; exact hds j (by omega) h2
        have hpl : pr < 18446744073709551616 := by omega
        have hcl : c' < 4294967296 := by omega
        have HRN := Lib.hid hrn
        generalize s k = x at *
        have e1 : (c : Int) + ((x : Int) * (m : Int)) = (pr : Int) := by rw [← hpr, Int.natCast_add, Int.natCast_mul]
        have e2 : (pr : Int) % 4294967296 = (lo : Int) := by omega
        have e3 : (pr : Int) / 4294967296 = (c' : Int) := by omega
        have i1 : (x : Int) * (m : Int) ≤ 18446744065119617025 := by rw [← Int.natCast_mul]; omega
        have i0 : 0 ≤ (x : Int) * (m : Int) := by rw [← Int.natCast_mul]; omega
        have hk0 : (0 : Int) ≤ (k : Int) := by omega
        have hkn : (k : Int) < (n : Int) := by omega
        have hkt : ((k : Int)).toNat = k := by omega
        clear hrn hst hbl hd hdb hds hR hpr hlo hc' hprm hgc hgf hdk H0
        go_wp2
        go_roundw
        case rel => exact ⟨k + 1, c', by omega, by go_num, hcl, rfl, HRN.out⟩
        case measure => simp [intOf]; omega
    · obtain rfl : k = n := by omega
      obtain ⟨hbl, d, hd, hdb, _, hR⟩ := hr
      unfold TimesR at hR
      by_cases hc0 : c = 0
      · subst hc0
        have hE : Hid (val d k = m * val s k + p) := by show _ = _; omega
        have HBL := Lib.hid hbl
        have HD := Lib.hid hd
        have HDB := Lib.hid hdb
        clear hbl hd hdb hR H0
        go_wp2
        go_ret
        exact ⟨_, k, d, rfl, HD.out, HDB.out, hE.out, by omega, HBL.out⟩
      · have hE : Hid (val (fun j => if j = k then c else d j) (k + 1) = m * val s k + p) := by
          show val _ _ = _
          rw [val, if_pos rfl, val_congr k (g := d) (fun j hj => if_neg (by omega))]; exact hR
        have hcc : 0 < c := by omega
        have e2 : (c : Int) % 4294967296 = (c : Int) := by omega
        have HBL := Lib.hid hbl
        have HDB := Lib.hid hdb
        have HD := Lib.hid hd
        have hsz : base ≤ wr.heap.size := Nat.le_trans hb hbl.size
        clear hbl hdb hR H0 hd
        go_wp2_with (at_builtin; refine wpList_append_own _ rfl _ _ 24 rfl base 69 i0 (.int .u32 0) 1 4 Tryz.underlying24 HI.out hz0 hz1 hz2 rfl (by decide) _ _ _ rfl (World.ownsRow.alloc HD.out _) ⟨wr.heap.size, 0, none⟩ 1 1 [.int .u32 c] rfl rfl ?c1 ?c2 ?c3 ?c4 ?c5 ?_)
        case c1 =>
          intro j u hj
          match j, hj with
          | 0, hj => simp at hj; subst hj; simp [Addr.add]
        case c2 => intro u hu; simp at hu; subst hu; rfl
        case c3 => unfold maxLen; omega
        case c4 => omega
        case c5 => rw [World.size_alloc]; omega
        · intro v' w1 hown' hgrow _
          have hb1 : Below base w w1 := (HBL.out.alloc hsz _).grown hgrow (by rw [World.size_alloc]; omega) (fun q hq => (World.ownsRow.lt HD.out q hq).1)
          rw [cl_snoc] at hown'
          have HO := Lib.hid hown'
          have HB1 := Lib.hid hb1
          clear hown' hgrow hb1
          go_wp2
          go_ret
          refine ⟨v', k + 1, _, rfl, HO.out, fun j hj => ?_, hE.out, by omega, HB1.out⟩
          show (if j = k then c else d j) < _
          split
          · exact hc
          · exact HDB.out j (by omega)

end Go.Proofs.YthklcdcikmninaaGreatDoor

namespace Go.Proofs.YthklcdcikmninaaGreatDoor
open Go.RowKit

def isDig (c : UInt8) : Bool := decide (48 ≤ c.toNat) && decide (c.toNat ≤ 57)
def okB (l : List UInt8) : Bool := decide (0 < l.length) && (decide (l.length ≤ 2000) && l.all isDig)
theorem isDig_iff {c : UInt8} : isDig c = true ↔ 48 ≤ c.toNat ∧ c.toNat ≤ 57 := by simp [isDig]
theorem okB_digs {l : List UInt8} (h : okB l = true) : 0 < l.length ∧ l.length ≤ 2000 ∧ ∀ c ∈ l, 48 ≤ c.toNat ∧ c.toNat ≤ 57 := by
  simp only [okB, Bool.and_eq_true, decide_eq_true_eq, List.all_eq_true] at h
  exact ⟨h.1, h.2.1, fun c hc => isDig_iff.1 (h.2.2 c hc)⟩
theorem okB_mk {l : List UInt8} (h1 : 0 < l.length) (h2 : l.length ≤ 2000) (h3 : ∀ c ∈ l, 48 ≤ c.toNat ∧ c.toNat ≤ 57) : okB l = true := by
  simp only [okB, Bool.and_eq_true, decide_eq_true_eq, List.all_eq_true]
  exact ⟨h1, h2, fun c hc => isDig_iff.2 (h3 c hc)⟩

theorem numOf_snoc (c : UInt8) : ∀ l : List UInt8, numOf (l ++ [c]) = 10 * numOf l + (c.toNat - 48)
  | [] => by simp [numOf]
  | x :: l => by
    rw [List.cons_append, numOf, numOf_snoc c l, numOf, List.length_append, List.length_singleton, Nat.pow_succ, Nat.mul_add]
    have : (x.toNat - 48) * (10 ^ l.length * 10) = 10 * ((x.toNat - 48) * 10 ^ l.length) := by rw [← Nat.mul_assoc, Nat.mul_comm]
    omega

theorem take_snoc (s : ByteArray) (k : Nat) (h : k < s.size) : s.data.toList.take (k + 1) = s.data.toList.take k ++ [s[k]] := by
  rw [List.take_succ_eq_append_getElem (by simpa using h)]; rfl

def ParseOut (w w' : World) (e : Ending) (l : List UInt8) : Prop := ∃ a n c, e = .returned (.tuple #[.agg #[.slice a n c], .bool (okB l)]) ∧ NatIs w' (.agg #[.slice a n c]) (if okB l then numOf l else 0) ∧ (∀ x, a = some x → w.heap.size ≤ x.block) ∧ Below w.heap.size w w'

theorem parse_no {w w' : World} {l : List UInt8} (h : okB l = false) (hb : Below w.heap.size w w') : ParseOut w w' (.returned (.tuple #[.agg #[.slice none 0 0], .bool false])) l :=
  ⟨_, _, _, by rw [h], by rw [h]; exact NatIs.zero _, (fun x hx => by cases hx), hb⟩

def ParI (w wr : World) (s : ByteArray) (v : Value) (k : Nat) : Prop := Below w.heap.size w wr ∧ Slot wr w.heap.size (.slice none 0 0) ∧ (∀ c ∈ s.data.toList.take k, 48 ≤ c.toNat ∧ c.toNat ≤ 57) ∧
  ∃ n d, OwnL wr (w.heap.size + 1) 69 .u32 v n d ∧ (∀ j, j < n → d j < 4294967296) ∧ n ≤ k ∧ val d n = numOf (s.data.toList.take k)

set_option maxHeartbeats 1600000 in
set_option maxRecDepth 100000 in
theorem parse_any (s : ByteArray) (w : World) (hs : s.size ≤ maxLen) : Calls Tryz.prog 56 #[.string s] w fun e w' => ParseOut w w' e s.data.toList := by
  have hsl : s.data.toList.length = s.size := rfl
  unfold maxLen at hs
  have s0 := Slot.new w (.slice none 0 0) 26
  have hB : Below w.heap.size w (w.alloc (.cells #[.slice none 0 0] 26)) := (Below.refl _ _).alloc (Nat.le_refl _) _
  by_cases h0 : s.size = 0
  · have hn : okB s.data.toList = false := by simp [okB, hsl, h0]
    have HE := Lib.hid (parse_no hn hB)
    have h1 : ((s.size : Int) == 0) = true := by simp [h0]
    have h2 : s.data.toList = [] := List.eq_nil_of_length_eq_zero (by omega)
    clear s0 hB hn
    go_enter Tryz.func56, Tryz.ntmps56
    go_wp2
    exact bodyPost_ret (v := .tuple #[.agg #[.slice none 0 0], .bool false]) (by simp [results, Tryz.results56, go_sem]) rfl HE.out
  by_cases h1 : 2000 < s.size
  · have hn : okB s.data.toList = false := by simp only [okB, hsl]; simp; omega
    have HE := Lib.hid (parse_no hn hB)
    have h2 : ((s.size : Int) == 0) = false := by rw [beq_eq_false_iff_ne]; omega
    have h3 : decide ((2000 : Int) < (s.size : Int)) = true := decide_eq_true (by omega)
    clear s0 hB hn
    go_enter Tryz.func56, Tryz.ntmps56
    go_wp2
    exact bodyPost_ret (v := .tuple #[.agg #[.slice none 0 0], .bool false]) (by simp [results, Tryz.results56, go_sem]) rfl HE.out
  have H0 : ParI w (w.alloc (.cells #[.slice none 0 0] 26)) s (.slice none 0 0) 0 := ⟨hB, s0, by simp, 0, fun _ => 0, World.ownsRow_nil _ _ _ _, fun _ _ => by omega, by omega, rfl⟩
  have h2 : ((s.size : Int) == 0) = false := by rw [beq_eq_false_iff_ne]; omega
  have h3 : decide ((2000 : Int) < (s.size : Int)) = false := decide_eq_false (by omega)
  have h4 : s.size ≤ 2000 := by omega
  have h5 : 0 < s.size := by omega
  clear s0 hB h0 h1 hs
  have HSL := Lib.hid hsl
  clear hsl
  go_enter Tryz.func56, Tryz.ntmps56
  go_wp2
  go_loopw [4, 17] (fun u i wr => ∃ (k : Nat) (v : Value), k ≤ s.size ∧ i = .int .i64 k ∧ v = u ∧ ParI w wr s v k)
    (fun _ i _ => s.size - (intOf i).toNat)
  case atStart => exact ⟨0, _, by omega, rfl, rfl, H0⟩
  case round =>
    obtain ⟨k, v, hk, rfl, rfl, hr⟩ := hrel
    obtain ⟨hbl, hsl, hdg, n, d, hd, hdb, hnk, hval⟩ := hr
    by_cases hlt : k < s.size
    · have hsn := take_snoc s k hlt
      obtain ⟨c, hc⟩ : ∃ c, s[k] = c := ⟨_, rfl⟩
      rw [hc] at hsn
      by_cases hdc : 48 ≤ c.toNat ∧ c.toNat ≤ 57
      · obtain ⟨p, hp⟩ : ∃ p, c.toNat - 48 = p := ⟨_, rfl⟩
        have e1 : (c.toNat : Int) - 48 = (p : Int) := by omega
        have e2 : (p : Int) % 256 = (p : Int) := by omega
        have t1 : decide ((c.toNat : Int) < 48) = false := decide_eq_false (by omega)
        have t2 : decide ((57 : Int) < (c.toNat : Int)) = false := decide_eq_false (by omega)
        have hcl : (48 : Int) ≤ (c.toNat : Int) := by omega
        have hsz : w.heap.size + 1 ≤ wr.heap.size := hsl.lt
        have HT := Lib.hid (timesPlus_any (w.heap.size + 1) v n d 10 p wr hd hdb (by omega) (by omega) (by omega) hsz)
        have hnx : ∀ w1 v1 n1 d1, OwnL w1 (w.heap.size + 1) 69 .u32 v1 n1 d1 → (∀ j, j < n1 → d1 j < 4294967296) → val d1 n1 = 10 * val d n + p → n1 ≤ n + 1 → Below (w.heap.size + 1) wr w1 → ParI w w1 s v1 (k + 1) := by
          intro w1 v1 n1 d1 g1 g2 g3 g4 g5
          refine ⟨hbl.trans (g5.mono (by omega)), ⟨(g5.cell (p := ⟨w.heap.size, 0, none⟩) (Nat.lt_succ_self _)).trans hsl.cell, (g5.frozen (p := ⟨w.heap.size, 0, none⟩) (Nat.lt_succ_self _)).trans hsl.free, Nat.lt_of_lt_of_le hsl.lt g5.size⟩, ?_, n1, d1, g1, g2, by omega, ?_⟩
          · rw [hsn]
            intro x hx
            rcases List.mem_append.1 hx with h | h
            · exact hdg x h
            · rw [List.mem_singleton.1 h]; exact hdc
          · rw [hsn, numOf_snoc, g3, hval, hp]
        have HNX := Lib.hid hnx
        clear hnx hsn hdg hd hdb hval hbl hsl hdc hp hsz
        go_wp2_with (go_at_call 71; refine HT.out.mono ?_; rintro e w1 ⟨v1, n1, d1, rfl, g1, g2, g3, g4, g5⟩)
        have HN := Lib.hid (HNX.out w1 v1 n1 d1 g1 g2 g3 g4 g5)
        clear g1 g2 g3 g5
        go_roundw
        case rel => exact ⟨k + 1, v1, by omega, by go_num, rfl, HN.out⟩
        case measure => simp [intOf]; omega
      · have hn : okB s.data.toList = false := by
          cases hk : okB s.data.toList
          · rfl
          · exfalso
            have := (okB_digs hk).2.2 c (List.mem_of_mem_take (by rw [hsn]; exact List.mem_append_right _ List.mem_cons_self))
            exact hdc this
        have hc3 := hsl.cell
        have hf3 := hsl.free
        have HE := Lib.hid (parse_no (w := w) (w' := wr.setCell ⟨w.heap.size, 0, none⟩ (.slice none 0 0)) hn (hbl.setCell (Nat.le_refl _) _))
        by_cases h48 : c.toNat < 48
        · have t1 : decide ((c.toNat : Int) < 48) = true := decide_eq_true (by omega)
          clear hsn hdg hd hdb hval hbl hsl hdc hn
          go_wp2
          exact bodyPost_ret (v := .tuple #[.agg #[.slice none 0 0], .bool false]) (by simp [results, Tryz.results56, go_sem, hc3]) rfl HE.out
        · have t1 : decide ((c.toNat : Int) < 48) = false := decide_eq_false (by omega)
          have t2 : decide ((57 : Int) < (c.toNat : Int)) = true := decide_eq_true (by omega)
          clear hsn hdg hd hdb hval hbl hsl hdc hn
          go_wp2
          exact bodyPost_ret (v := .tuple #[.agg #[.slice none 0 0], .bool false]) (by simp [results, Tryz.results56, go_sem, hc3]) rfl HE.out
    · obtain rfl : k = s.size := by omega
      rw [List.take_of_length_le (by rw [HSL.out]; omega)] at hdg hval
      have hok : okB s.data.toList = true := okB_mk (by rw [HSL.out]; omega) (by rw [HSL.out]; omega) hdg
      obtain ⟨a, c, rfl, hsa, hpl⟩ := hd.slAt hdb (by omega)
      have HT := Lib.hid (trimmed_pl a n c d wr hsa)
      have S3 := Lib.hid hsl
      have HB := Lib.hid hbl
      have HOK := Lib.hid hok
      have HV := Lib.hid hval
      clear hbl hsl hdg hd hdb hval hok hsa
      go_wp2_with fail
      go_at_call 48
      refine HT.out.mono ?_
      rintro e w4 ⟨a3, n3, c3, f3, rfl, hs3, hv3, ht3, hp3, hb4⟩
      have X3 := S3.out.below hb4
      obtain ⟨v', hv', hn', hbe⟩ := natOut_store (u := .slice a3 n3 c3) (k := w.heap.size) (HB.out.trans (hb4.mono HB.out.size)) (Nat.le_refl _) hs3 (hv3.trans HV.out) ht3 (by
        rintro x rfl
        rcases hp3 with h | h
        · cases h
        · have := hpl x h.symm; omega)
      have hc4 := X3.cell
      have hf4 := X3.free
      have HEND : ParseOut w (w4.setCell ⟨w.heap.size, 0, none⟩ (.slice a3 n3 c3)) (.returned (.tuple #[.agg #[.slice a3 n3 c3], .bool true])) s.data.toList := by
        cases hv'
        exact ⟨a3, n3, c3, by rw [HOK.out], by rw [HOK.out, if_pos rfl]; exact hn', (fun x hx => by
          rcases hp3 with h | h
          · rw [h] at hx; cases hx
          · rw [h] at hx; have := hpl x hx; omega), hbe⟩
      have HE := Lib.hid HEND
      clear hs3 hv3 ht3 hb4 hp3 X3 hv' hn' hbe HEND
      go_wp2
      exact bodyPost_ret (v := .tuple #[.agg #[.slice a3 n3 c3], .bool true]) (by simp [results, Tryz.results56, go_sem, hc4]) rfl HE.out

end Go.Proofs.YthklcdcikmninaaGreatDoor

namespace Go.Proofs.YthklcdcikmninaaGreatDoor
open Go.RowKit

def RevI (w wr : World) (g n : Nat) (f : Nat → Nat) (i : Nat) : Prop := Wrote g 0 n w wr ∧ Free wr g ∧ ∃ d, Cells wr .u8 g 0 n d ∧ (∀ j, j < i → d j = f (n - 1 - j)) ∧ (∀ j, i ≤ j → j + i < n → d j = f j) ∧ (∀ j, n ≤ j + i → j < n → d j = f (n - 1 - j))

theorem RevI.next {w wr wr' : World} {g n : Nat} {f : Nat → Nat} {i j : Nat} (h : RevI w wr g n f i) (hij : i < j) (hj : j + i + 1 = n) (hw : Wrote g 0 n wr wr') (hf : Free wr' g)
    (hc : ∀ d, Cells wr .u8 g 0 n d → Cells wr' .u8 g 0 n (fun k => if k = i then f j else if k = j then f i else d k)) : RevI w wr' g n f (i + 1) := by
  obtain ⟨h1, h2, d, h3, h4, h5, h6⟩ := h
  refine ⟨h1.trans hw, hf, _, hc d h3, fun k hk => ?_, fun k h7 h8 => ?_, fun k h7 h8 => ?_⟩
  · by_cases e : k = i
    · subst e; rw [if_pos rfl]; congr 1; omega
    · rw [if_neg e, if_neg (by omega)]; exact h4 k (by omega)
  · rw [if_neg (by omega), if_neg (by omega)]; exact h5 k (by omega) (by omega)
  · by_cases e : k = j
    · subst e; rw [if_neg (by omega), if_pos rfl]; congr 1; omega
    · rw [if_neg (by omega), if_neg e]; exact h6 k (by omega) h8

theorem cells_swap {wr : World} {g n i j x y : Nat} {d : Nat → Nat} (h : Cells wr .u8 g 0 n d) (hi : i < n) (hj : j < n) (hij : i ≠ j) :
    Cells ((wr.setCell ⟨g, i, none⟩ (.int .u8 x)).setCell ⟨g, j, none⟩ (.int .u8 y)) .u8 g 0 n (fun k => if k = i then x else if k = j then y else d k) ∧
    Cells ((wr.setCell ⟨g, j, none⟩ (.int .u8 y)).setCell ⟨g, i, none⟩ (.int .u8 x)) .u8 g 0 n (fun k => if k = i then x else if k = j then y else d k) := by
  have a1 := (h.set (k := i) (x := x) hi).set (k := j) (x := y) hj
  have a2 := (h.set (k := j) (x := y) hj).set (k := i) (x := x) hi
  rw [Nat.zero_add, Nat.zero_add] at a1 a2
  refine ⟨?_, ?_⟩
  · intro k hk
    rw [a1 k hk]
    by_cases e : k = i
    · subst e; simp [hij]
    · simp [e]
  · intro k hk
    rw [a2 k hk]

set_option maxHeartbeats 1600000 in
set_option maxRecDepth 100000 in
theorem reverse_any (g n c : Nat) (f : Nat → Nat) (w : World) (hc : Cells w .u8 g 0 n f) (hf : Free w g) (hn : n ≤ 10000000) :
    Calls Tryz.prog 53 #[.slice (some ⟨g, 0, none⟩) n c] w fun e w' => e = .returned (.tuple #[]) ∧ Hid (Wrote g 0 n w w' ∧ Free w' g ∧ Cells w' .u8 g 0 n (fun j => f (n - 1 - j))) := by
  have H0 : RevI w w g n f 0 := ⟨Wrote.refl _ _ _ _, hf, f, hc, fun _ h => by omega, fun _ _ _ => rfl, fun _ h1 h2 => by omega⟩
  clear hc hf
  go_enter Tryz.func53, Tryz.ntmps53
  go_wp2
  go_loopw [2, 3] (fun a b wr => ∃ (i : Nat) (j : Int), a = .int .i64 i ∧ b = .int .i64 j ∧ j = (n : Int) - 1 - (i : Int) ∧ (i : Int) ≤ j + 2 ∧ RevI w wr g n f i)
    (fun a b _ => (intOf b + 2 - intOf a).toNat)
  case atStart => exact ⟨0, _, rfl, rfl, by omega, by omega, H0⟩
  case round =>
    obtain ⟨i, jj, rfl, rfl, hj, hij, hr⟩ := hrel
    by_cases hlt : (i : Int) < jj
    · obtain ⟨j, rfl⟩ : ∃ j : Nat, jj = (j : Int) := ⟨jj.toNat, by omega⟩
      have hlt' : i < j := by omega
      have hjn : j + i + 1 = n := by omega
      obtain ⟨h1, h2, d, h3, h4, h5, h6⟩ := hr
      have hci := h3 i (by omega)
      have hcj := h3 j (by omega)
      rw [Nat.zero_add] at hci hcj
      rw [h5 i (Nat.le_refl _) (by omega)] at hci
      rw [h5 j (by omega) (by omega)] at hcj
      have hfi := h2 i
      have hfj := h2 j
      have hr : RevI w wr g n f i := ⟨h1, h2, d, h3, h4, h5, h6⟩
      have sw := fun d hd => cells_swap (wr := wr) (g := g) (n := n) (i := i) (j := j) (x := f j) (y := f i) (d := d) hd (by omega) (by omega) (by omega)
      have hw1 : Wrote g 0 n wr ((wr.setCell ⟨g, i, none⟩ (.int .u8 (f j))).setCell ⟨g, j, none⟩ (.int .u8 (f i))) := ((Wrote.refl g 0 n wr).setCell (Nat.zero_le _) (by omega) _).setCell (Nat.zero_le _) (by omega) _
      have hw2 : Wrote g 0 n wr ((wr.setCell ⟨g, j, none⟩ (.int .u8 (f i))).setCell ⟨g, i, none⟩ (.int .u8 (f j))) := ((Wrote.refl g 0 n wr).setCell (Nat.zero_le _) (by omega) _).setCell (Nat.zero_le _) (by omega) _
      have N1 := Lib.hid (RevI.next hr hlt' hjn hw1.drew ((h2.set _ _).set _ _) (fun d hd => (sw d hd).1))
      have N2 := Lib.hid (RevI.next hr hlt' hjn hw2.drew ((h2.set _ _).set _ _) (fun d hd => (sw d hd).2))
      have n1 : (⟨g, i, none⟩ : Addr) ≠ ⟨g, j, none⟩ := by intro e; simp only [Addr.mk.injEq] at e; omega
      have n2 : (⟨g, j, none⟩ : Addr) ≠ ⟨g, i, none⟩ := by intro e; simp only [Addr.mk.injEq] at e; omega
      have g1 : (wr.setCell ⟨g, i, none⟩ (.int .u8 (f j))).cell? ⟨g, j, none⟩ = some (.int .u8 (f j)) := by rw [World.cell?_setCell_other _ _ _ _ n1]; exact hcj
      have g2 : (wr.setCell ⟨g, j, none⟩ (.int .u8 (f i))).cell? ⟨g, i, none⟩ = some (.int .u8 (f i)) := by rw [World.cell?_setCell_other _ _ _ _ n2]; exact hci
      clear sw hw1 hw2 hr h1 h2 h3 h4 h5 h6 n1 n2
      generalize f i = x at *
      generalize f j = y at *
      have i0 : (0 : Int) ≤ (i : Int) := by omega
      have i1 : (i : Int) < (n : Int) := by omega
      have j1 : (j : Int) < (n : Int) := by omega
      have j0 : (0 : Int) ≤ (j : Int) := by omega
      have HJN := Lib.hid hjn
      clear hj hij hjn
      go_wp2
      go_region
      all_goals
        go_wp2
        go_roundw
        case rel =>
          have hjn := HJN.out
          exact ⟨i + 1, (j : Int) - 1, by go_num, rfl, by omega, by omega, by first | exact N1.out | exact N2.out⟩
        case measure => simp [intOf]; omega
    · have hE : Hid (Wrote g 0 n w wr ∧ Free wr g ∧ Cells wr .u8 g 0 n (fun j => f (n - 1 - j))) := by
        obtain ⟨h1, h2, d, h3, h4, h5, h6⟩ := hr
        refine ⟨h1, h2, fun k hk => ?_⟩
        rw [h3 k hk]
        by_cases e1 : k < i
        · rw [h4 k e1]
        · by_cases e2 : n ≤ k + i
          · rw [h6 k e2 hk]
          · rw [h5 k (by omega) (by omega)]
            congr 4; omega
      clear hr
      go_wp2
      go_end0
      exact ⟨rfl, hE⟩

end Go.Proofs.YthklcdcikmninaaGreatDoor

namespace Go.Proofs.YthklcdcikmninaaGreatDoor
open Go.RowKit

theorem infoB : (Tryz.prog.info? 5).map (fun i => (i.zero, i.size, i.bytes)) = some (some (.int .u8 0), 1, 1) := by kernel_rfl

def dg (N j : Nat) : Nat := 48 + N / 10 ^ j % 10
def lenOf : Value → Nat
  | .slice _ n _ => n
  | _ => 0
theorem OwnL.len {w : World} {base : Nat} {e : TypeId} {ki : IntKind} {v : Value} {n : Nat} {f : Nat → Nat} (h : OwnL w base e ki v n f) : lenOf v = n := by
  rcases h.cases with ⟨rfl, rfl⟩ | ⟨g, c, rfl, _⟩ <;> rfl
theorem OwnL.below {w w' : World} {base : Nat} {e : TypeId} {ki : IntKind} {v : Value} {n : Nat} {f : Nat → Nat} (h : OwnL w base e ki v n f) (hb : Below w.heap.size w w') : OwnL w' base e ki v n f :=
  World.ownsRow.kept h (row := none) ⟨hb.os, hb.tape, hb.output, hb.size, fun k hk _ => hb.block k hk⟩ (by
    rcases h.cases with ⟨rfl, _⟩ | ⟨g, c, rfl, _⟩
    · exact .inl rfl
    · exact .inr (by simp [Value.ownBlock]))
theorem OwnL.wrote {w w' : World} {base : Nat} {e : TypeId} {ki : IntKind} {v : Value} {n b lo hi : Nat} {f : Nat → Nat} (h : OwnL w base e ki v n f) (hb : Wrote b lo hi w w') (hlt : b < base) : OwnL w' base e ki v n f :=
  World.ownsRow.kept h (row := some b) ⟨hb.os, hb.tape, hb.output, hb.size, fun k hk hne => hb.block k hk (fun e => hne (by rw [e]))⟩ (by
    rcases h.cases with ⟨rfl, _⟩ | ⟨g, c, rfl, _, hg, _⟩
    · exact .inl rfl
    · refine .inr ?_
      intro e
      simp only [Value.ownBlock, Option.some.injEq] at e
      omega)

theorem dig_group (X i : Nat) (h : i < 9) : X % 1000000000 / 10 ^ i % 10 = X / 10 ^ i % 10 := by
  have e : (1000000000 : Nat) = 10 ^ i * 10 ^ (9 - i) := by rw [← Nat.pow_add, show i + (9 - i) = 9 by omega]
  rw [e, Nat.mod_mul_right_div_self]
  exact Nat.mod_mod_of_dvd _ ⟨10 ^ (8 - i), by rw [← Nat.pow_succ']; congr 1; omega⟩

theorem pow9_bound {K L N : Nat} (h : 0 < N / 10 ^ (9 * K)) (hN : N < 4294967296 ^ L) : 9 * K < 32 * L + 1 := by
  have h1 : 10 ^ (9 * K) ≤ N := by
    rcases Nat.lt_or_ge N (10 ^ (9 * K)) with h2 | h2
    · rw [Nat.div_eq_of_lt h2] at h; omega
    · exact h2
  have h2 : (2 : Nat) ^ (9 * K) ≤ 10 ^ (9 * K) := Nat.pow_le_pow_left (by omega) _
  have h3 : (4294967296 : Nat) ^ L = 2 ^ (32 * L) := by rw [Nat.pow_mul]
  have h4 : (2 : Nat) ^ (9 * K) < 2 ^ (32 * L) := by omega
  have := (Nat.pow_lt_pow_iff_right (show 1 < 2 by omega)).1 h4
  omega

/-- At the head of a round of Text. -/
structure TextI (w wr : World) (base b N L : Nat) (D : Value) (ra : Option Addr) (n c K : Nat) : Prop where
  below : Below w.heap.size w wr
  size : base ≤ wr.heap.size
  own : OwnL wr base 5 .u8 D (9 * K) (dg N)
  bge : w.heap.size ≤ b
  blt : b < base
  free : Free wr b
  rest : ∃ f, SlAt wr .u32 4294967296 ra n c f ∧ val f n = N / 10 ^ (9 * K) ∧ (n = 0 ∨ f (n - 1) ≠ 0)
  plc : ra = none ∨ ra = some ⟨b, 0, none⟩
  kb : 9 * K ≤ 32 * L + 10

/-- Within a round: the digits of a group so far. -/
structure GroupI (wo wr : World) (base N K G : Nat) (D : Value) (i : Nat) : Prop where
  below : Below base wo wr
  own : OwnL wr base 5 .u8 D (9 * K + i) (dg N)

set_option maxHeartbeats 3200000 in
set_option maxRecDepth 100000 in
theorem text_core (a : Option Addr) (n0 c0 : Nat) (f : Nat → Nat) (w : World) (hs : SlAt w .u32 4294967296 a n0 c0 f) (ht : n0 = 0 ∨ f (n0 - 1) ≠ 0) (hpos : 0 < val f n0) (hlen : n0 ≤ 100000) :
    Calls Tryz.prog 30 #[.agg #[.slice a n0 c0]] w fun e w' => e = .returned (.string (str (dec (val f n0)))) ∧ Below w.heap.size w w' := by
  obtain ⟨i0, hi, hz0, hz1, hz2⟩ := info_parts infoB
  have hZ := zero_any (.agg #[.slice a n0 c0]) (val f n0) (w.alloc (.cells #[.slice a n0 c0] 26)) ⟨a, n0, c0, f, rfl, hs.below ((Below.refl _ _).alloc (Nat.le_refl _) _), rfl, ht⟩
  rw [show decide (val f n0 = 0) = false from decide_eq_false (by omega)] at hZ
  have s0 := Slot.new w (.slice a n0 c0) 26
  have hNB := val_lt f n0 hs.2.2.1
  obtain ⟨N, hN⟩ : ∃ N, val f n0 = N := ⟨_, rfl⟩
  rw [hN] at hpos hNB ⊢
  have HZ := Lib.hid hZ
  have S0 := Lib.hid s0
  have HS := Lib.hid hs
  have HN := Lib.hid hN
  have HT := Lib.hid ht
  have HNB := Lib.hid hNB
  have HI := Lib.hid hi
  clear hZ s0 hs hN ht hNB hi
  go_enter Tryz.func30, Tryz.ntmps30
  go_wp2_with fail
  go_at_call 35
  refine HZ.out.mono ?_
  rintro e w1 ⟨rfl, hb1⟩
  have S1 := Lib.hid (S0.out.below hb1)
  have HB1 := Lib.hid (below_alloc hb1)
  have hc1 := S1.out.cell
  clear hb1
  go_wp2_with fail
  go_at_call 51
  refine (copied_own a n0 c0 f n0 w1 (HS.out.below HB1.out) (Nat.le_refl _) (by omega)).mono ?_
  rintro e w2 ⟨b, rfl, ho, hb2⟩
  have H0 : TextI w w2 w2.heap.size b N n0 (.slice none 0 0) (some ⟨b, 0, none⟩) n0 n0 0 := by
    obtain ⟨q, hq1, hq2, hq3⟩ := ho.row
    refine ⟨HB1.out.trans (hb2.mono HB1.out.size), Nat.le_refl _, World.ownsRow_nil _ _ _ _, Nat.le_trans HB1.out.size ho.ge, ho.lt, ho.free, ⟨q, ⟨Nat.le_refl _, by omega, hq2, .inr ⟨b, 0, rfl, ho.lt, hq1⟩⟩, ?_, ?_⟩, .inr rfl, by omega⟩
    · rw [hq3, HN.out]; simp
    · rcases Nat.eq_zero_or_pos n0 with h | h
      · exact .inl h
      · refine .inr (fun h0 => ?_)
        have h1 := val_top f n0 h (HT.out.resolve_left (by omega))
        obtain ⟨m, rfl⟩ : ∃ m, n0 = m + 1 := ⟨n0 - 1, by omega⟩
        rw [Nat.add_sub_cancel] at h0 h1
        have h2 := val_lt q m (fun j hj => hq2 j (by omega))
        rw [val, h0] at hq3
        omega
  obtain ⟨base, hbase⟩ : ∃ base, w2.heap.size = base := ⟨_, rfl⟩
  rw [hbase] at H0
  have H0' := Lib.hid H0
  clear hb2 ho hc1 H0 hbase
  go_wp2_with fail
  go_loopw [3, 4] (fun D R wr => ∃ (ra : Option Addr) (n c K : Nat) (V : Value), R = .slice ra n c ∧ V = D ∧ TextI w wr base b N n0 V ra n c K)
    (fun D _ _ => 32 * n0 + 20 - lenOf D)
  case atStart => exact ⟨_, _, _, 0, _, rfl, rfl, H0'.out⟩
  case round =>
    obtain ⟨ra, n, c, K, V, rfl, rfl, hr⟩ := hrel
    obtain ⟨wo, rfl⟩ : ∃ wo : World, wo = wr := ⟨_, rfl⟩
    by_cases hn : 0 < n
    · obtain ⟨q, hq1, hq2, hq3⟩ := hr.rest
      obtain ⟨b', off', hra, _, hqc⟩ := hq1.at hn
      have hra2 : ra = some ⟨b, 0, none⟩ := by
        rcases hr.plc with h | h
        · rw [h] at hra; cases hra
        · exact h
      rw [hra2] at hra
      simp only [Option.some.injEq, Addr.mk.injEq, and_true] at hra
      obtain ⟨rfl, rfl⟩ := hra
      subst hra2
      have hnl : n ≤ 1000000 := hq1.2.1
      have hMpos : 0 < N / 10 ^ (9 * K) := by
        rw [← hq2]
        have := val_top q n hn (hq3.resolve_left (by omega))
        have := pow_pos32 (n - 1)
        omega
      have hpb := pow9_bound hMpos HNB.out
      obtain ⟨M, hM⟩ : ∃ M, N / 10 ^ (9 * K) = M := ⟨_, rfl⟩
      rw [hM] at hq2
      have hown : Own w wo b n M := ⟨hr.bge, Nat.lt_of_lt_of_le hr.blt hr.size, hr.free, q, hqc, hq1.2.2.1, hq2⟩
      have HDV := Lib.hid (divideBy_own w b n c M 1000000000 wo hown hnl (by omega) (by omega))
      have HR := Lib.hid hr
      have HM := Lib.hid hM
      clear hq1 hq2 hq3 hqc hM hown hr hMpos
      go_wp2_with fail
      go_at_call 52
      refine HDV.out.mono ?_
      rintro e w3 ⟨rfl, ho3, hw3⟩
      obtain ⟨G, hG⟩ : ∃ G, M % 1000000000 = G := ⟨_, rfl⟩
      have hGl : G < 1000000000 := by rw [← hG]; exact Nat.mod_lt _ (by omega)
      have HG := Lib.hid hG
      rw [hG]
      obtain ⟨q2, hr1, hr2, hr3⟩ := ho3.row
      have HB3 := Lib.hid (hw3.below HR.out.below HR.out.bge HR.out.below.size)
      have HD3 := Lib.hid (HR.out.own.wrote hw3 HR.out.blt)
      have hz3 : base ≤ w3.heap.size := Nat.le_trans HR.out.size hw3.size
      have HF3 := Lib.hid ho3.free
      have HT3 := Lib.hid (trimmed_pl (some ⟨b, 0, none⟩) n c q2 w3 ⟨HR.out.rest.choose_spec.1.1, hnl, hr2, .inr ⟨b, 0, rfl, ho3.lt, hr1⟩⟩)
      have HV3 := Lib.hid hr3
      have hb3 := ho3.lt
      clear hG hr1 hr2 hr3 ho3 hw3
      go_wp2_with fail
      go_at_call 48
      refine HT3.out.mono ?_
      rintro e w4 ⟨a4, n4, c4, f4, rfl, hs4, hv4, ht4, hp4, hb4⟩
      have hfd : ∀ wz : World, (Instr.field 26 (.agg #[.slice a4 n4 c4]) 0).run Tryz.prog wz = .ok (.slice a4 n4 c4) wz := fun _ => by kernel_rfl
      have HB4 := Lib.hid (HB3.out.trans (hb4.mono HB3.out.size))
      have HD4 := Lib.hid (HD3.out.below hb4)
      have hz4 : base ≤ w4.heap.size := Nat.le_trans hz3 hb4.size
      have HF4 := Lib.hid (HF3.out.below hb4 hb3)
      have HS4 := Lib.hid hs4
      have HV4 := Lib.hid hv4
      have HT4 := Lib.hid ht4
      have HP4 := Lib.hid hp4
      have hb4' : b < w4.heap.size := Nat.lt_of_lt_of_le hb3 hb4.size
      have HI0 : GroupI w4 w4 base N K G V 0 := ⟨Below.refl _ _, HD4.out⟩
      have HI0' := Lib.hid HI0
      have HLV := Lib.hid HR.out.own.len
      clear hs4 hv4 ht4 hp4 hb4 HI0
      go_wp2_with fail
      go_loopw [3, 5, 22] (fun D g i wr => ∃ (k gg : Nat) (U : Value), k ≤ 9 ∧ i = .int .i64 k ∧ gg < 4294967296 ∧ gg = G / 10 ^ k ∧ g = .int .u32 gg ∧ U = D ∧ GroupI w4 wr base N K G U k)
        (fun _ _ i _ => 9 - (intOf i).toNat)
      case atStart => exact ⟨0, G, V, by omega, rfl, by omega, by simp, rfl, rfl, HI0'.out⟩
      case round =>
        obtain ⟨k, gg, U, hk, rfl, hgl, hgg, rfl, rfl, hgr⟩ := hrel
        by_cases hk9 : k < 9
        · obtain ⟨x, hx⟩ : ∃ x, gg % 10 = x := ⟨_, rfl⟩
          obtain ⟨y, hy⟩ : ∃ y, 48 + x = y := ⟨_, rfl⟩
          obtain ⟨g', hg'⟩ : ∃ g', gg / 10 = g' := ⟨_, rfl⟩
          have e1 : (gg : Int) % 10 = (x : Int) := by omega
          have e2 : (48 : Int) + (x : Int) = (y : Int) := by omega
          have e3 : (y : Int) % 256 = (y : Int) := by omega
          have e4 : (gg : Int) / 10 = (g' : Int) := by omega
          have hyd : y = dg N (9 * K + k) := by
            unfold dg
            rw [← hy, ← hx, hgg, ← HG.out, dig_group _ _ hk9, ← HM.out, Nat.div_div_eq_div_mul, ← Nat.pow_add]
          have hgn : g' = G / 10 ^ (k + 1) := by rw [← hg', hgg, Nat.div_div_eq_div_mul, ← Nat.pow_succ]
          have HGR := Lib.hid hgr
          have HYD := Lib.hid hyd
          have HGN := Lib.hid hgn
          have hzr : base ≤ wr.heap.size := Nat.le_trans hz4 hgr.below.size
          have h64 : 9 * K + k ≤ 10000000 := by omega
          clear hx hy hg' hyd hgn hgr hgg
          go_wp2_with (at_builtin; refine wpList_append_own _ rfl _ _ 72 rfl base 5 i0 (.int .u8 0) 1 1 Tryz.underlying72 HI.out hz0 hz1 hz2 rfl (by decide) _ _ _ rfl (World.ownsRow.alloc HGR.out.own _) ⟨wr.heap.size, 0, none⟩ 1 1 [.int .u8 y] rfl rfl ?c1 ?c2 ?c3 ?c4 ?c5 ?_)
          case c1 =>
            intro j u hj
            match j, hj with
            | 0, hj => simp at hj; subst hj; simp [Addr.add]
          case c2 => intro u hu; simp at hu; subst hu; rfl
          case c3 => unfold maxLen; omega
          case c4 => omega
          case c5 => rw [World.size_alloc]; omega
          · intro v' w5 hown' hgrow _
            have hb5 : Below base w4 w5 := (HGR.out.below.alloc hzr _).grown hgrow (by rw [World.size_alloc]; omega) (fun q hq => (World.ownsRow.lt HGR.out.own q hq).1)
            have hown2 : OwnL w5 base 5 .u8 v' (9 * K + (k + 1)) (dg N) := by
              rw [cl_snoc, cl_congr (g := dg N) (fun j hj => by
                by_cases e : j = 9 * K + k
                · rw [if_pos e, HYD.out, e]
                · rw [if_neg e])] at hown'
              exact hown'
            have HG5 : GroupI w4 w5 base N K G v' (k + 1) := ⟨hb5, hown2⟩
            have HG5' := Lib.hid HG5
            clear hown' hgrow hb5 hown2 HG5
            go_wp2
            go_roundw
            case rel => exact ⟨k + 1, g', v', by omega, by go_num, by omega, HGN.out, rfl, rfl, HG5'.out⟩
            case measure => simp [intOf]; omega
        · obtain rfl : k = 9 := by omega
          have HNX : TextI w wr base b N n0 U a4 n4 c4 (K + 1) := by
            have hw5 : Below w.heap.size w wr := HB4.out.trans (hgr.below.mono (by have := HR.out.bge; have := HR.out.blt; omega))
            have hbb : ∀ o, wr.cell? ⟨b, o, none⟩ = w4.cell? ⟨b, o, none⟩ := fun o => hgr.below.cell (p := ⟨b, o, none⟩) HR.out.blt
            refine ⟨hw5, Nat.le_trans hz4 hgr.below.size, by have := hgr.own; rw [show 9 * K + 9 = 9 * (K + 1) by omega] at this; exact this, HR.out.bge, HR.out.blt, fun o => (hgr.below.frozen (p := ⟨b, o, none⟩) HR.out.blt).trans (HF4.out o), ⟨f4, ?_, ?_, HT4.out⟩, HP4.out, by omega⟩
            · obtain ⟨z1, z2, z3, z4⟩ := HS4.out
              refine ⟨z1, z2, z3, ?_⟩
              rcases z4 with z4 | ⟨b6, o6, z5, z6, z7⟩
              · exact .inl z4
              · have hb6 : b6 = b := by
                  rcases HP4.out with h | h
                  · rw [h] at z5; cases z5
                  · rw [h] at z5; cases z5; rfl
                subst hb6
                exact .inr ⟨b6, o6, z5, Nat.lt_of_lt_of_le z6 hgr.below.size, fun j hj => (hbb _).trans (z7 j hj)⟩
            · rw [HV4.out, HV3.out, ← HM.out, Nat.div_div_eq_div_mul]
              congr 1
              rw [show 9 * (K + 1) = 9 * K + 9 by omega, Nat.pow_add]
          have HNX' := Lib.hid HNX
          have HLU := Lib.hid HNX.own.len
          clear hgr HNX
          go_wp2
          go_roundw
          case rel => exact ⟨a4, n4, c4, K + 1, U, rfl, rfl, HNX'.out⟩
          case measure =>
            have h1 := HLV.out
            have h2 := HLU.out
            show 32 * n0 + 20 - lenOf U < 32 * n0 + 20 - lenOf V
            rw [h1, h2]
            omega
    · obtain rfl : n = 0 := by omega
      obtain ⟨q, hq1, hq2, _⟩ := hr.rest
      have hlow : N < 10 ^ (9 * K) := by
        rcases Nat.lt_or_ge N (10 ^ (9 * K)) with h | h
        · exact h
        · have := Nat.div_pos h (Nat.pow_pos (by omega))
          simp only [val] at hq2; omega
      have hK : 0 < 9 * K := by
        rcases Nat.eq_zero_or_pos (9 * K) with h | h
        · rw [h] at hlow; simp at hlow; omega
        · exact h
      rcases hr.own.cases with ⟨_, h⟩ | ⟨g, c2, rfl, hc2, hgb, hgl, hgc, hgf⟩
      · omega
      have hKb : 9 * K ≤ 10000000 := by have := hr.kb; omega
      have hbe := hr.below
      have hge : w.heap.size ≤ g := Nat.le_trans hr.bge (by have := hr.blt; omega)
      obtain ⟨m, hm⟩ : ∃ m, 9 * K = m := ⟨_, rfl⟩
      rw [hm] at hlow hK hKb hgc ⊢
      have HRV := Lib.hid (reverse_any g m c2 (dg N) wo hgc hgf hKb)
      have HBE := Lib.hid hbe
      have HLOW := Lib.hid hlow
      clear hr hq1 hq2 hlow hgc hgf hbe
      go_wp2_with fail
      go_at_call 53
      refine HRV.out.mono ?_
      rintro e w6 ⟨rfl, hrv⟩
      obtain ⟨hw6, hf6, hc6⟩ := hrv.out
      have hcv := run_convert_bytes_arg (P := Tryz.prog) (w := w6) 72 5 Tryz.underlying72 Tryz.underlying5 g 0 m c2 ((List.range m).map fun j => ((dg N (m - 1 - j) : Nat) : Int)) (by simp) (fun j hj => by rw [hc6 j hj]; simp [hj]) 9 Tryz.underlying9
      have hst : strOfNums ((List.range m).map fun j => ((dg N (m - 1 - j) : Nat) : Int)) = str (sdig N m) := by
        refine str_of ?_
        rw [strOfNums_data]
        apply List.ext_getElem?
        intro j
        by_cases hj : j < m
        · rw [sdig_get N m j hj, List.getElem?_map, List.getElem?_map, List.getElem?_range hj]
          simp only [Option.map_some]
          rw [Int.toNat_natCast]; rfl
        · rw [List.getElem?_eq_none (by simp; omega), List.getElem?_eq_none (by rw [sdig_length]; omega)]
      rw [hst] at hcv
      have HTL := Lib.hid (Tryz.strings_TrimLeft_one (str (sdig N m)) 48 (by decide) w6)
      have hdr : (⟨(Lib.trimLeftB (str (sdig N m)).data.toList 48).toArray⟩ : ByteArray) = str (dec N) := by
        rw [str_toList]; unfold Lib.trimLeftB; rw [drop_zeros N hpos m HLOW.out]; rfl
      rw [hdr] at HTL
      have HB6 := Lib.hid (hw6.below HBE.out hge HBE.out.size)
      have HCV := Lib.hid hcv
      clear hrv hw6 hf6 hc6 hst hdr hcv
      have hcv := HCV.out
      go_wp2_with fail
      go_at_call 54
      refine HTL.out.mono ?_
      rintro e w7 ⟨rfl, rfl⟩
      clear hcv
      go_wp2
      go_ret
      exact ⟨rfl, HB6.out⟩

theorem text_any (v : Value) (N : Nat) (w : World) (h : NatIs w v N) (k : Nat) (hk : k ≤ 100000) (hN : N < 4294967296 ^ k) : Calls Tryz.prog 30 #[v] w fun e w' => e = .returned (.string (str (dec N))) ∧ Below w.heap.size w w' := by
  rcases Nat.eq_zero_or_pos N with h0 | h0
  · subst h0
    have HZ := Lib.hid (zero_any v 0)
    obtain ⟨a, n, c, f, rfl, hs, hv, ht⟩ := h
    have hz := HZ.out (w.alloc (.cells #[.slice a n c] 26)) ⟨a, n, c, f, rfl, hs.below ((Below.refl _ _).alloc (Nat.le_refl _) _), hv, ht⟩
    have HZ2 := Lib.hid hz
    clear hz hs hv ht
    go_enter Tryz.func30, Tryz.ntmps30
    go_wp2_with (go_at_call 35; refine HZ2.out.mono ?_; rintro e w1 ⟨rfl, hb1⟩)
    go_ret
    exact ⟨by rw [dec_zero]; rfl, below_alloc hb1⟩
  · obtain ⟨a, n, c, f, rfl, hs, hv, ht⟩ := h
    have hl := Nat.le_trans (NatIs.short hv ht hN) hk
    rw [← hv] at h0 ⊢
    exact text_core a n c f w hs ht h0 hl

end Go.Proofs.YthklcdcikmninaaGreatDoor

namespace Go.Proofs.YthklcdcikmninaaGreatDoor
open Go.RowKit

/-- How many bits a number has. -/
def nbits (N : Nat) : Nat := if N = 0 then 0 else N.log2 + 1
theorem nbits_eq {N b : Nat} (h1 : 2 ^ b ≤ N) (h2 : N < 2 ^ (b + 1)) : nbits N = b + 1 := by
  have h0 : N ≠ 0 := by have := Nat.two_pow_pos b; omega
  unfold nbits
  rw [if_neg h0]
  have := (Nat.le_log2 h0).2 h1
  have := (Nat.log2_lt h0).2 h2
  omega
theorem nbits_le {N b : Nat} : nbits N ≤ b ↔ N < 2 ^ b := by
  unfold nbits
  split
  · rename_i h; subst h; simp [Nat.two_pow_pos]
  · rename_i h
    rw [← Nat.log2_lt h]; omega

theorem bits_val {n : Nat} {f : Nat → Nat} (hn : 0 < n) (hf : ∀ j, j < n → f j < 4294967296) (ht : f (n - 1) ≠ 0) : nbits (val f n) = (n - 1) * 32 + Lib.bitLen (f (n - 1)) := by
  obtain ⟨m, rfl⟩ : ∃ m, n = m + 1 := ⟨n - 1, by omega⟩
  rw [Nat.add_sub_cancel] at *
  have hx := hf m (by omega)
  obtain ⟨a, b, c⟩ := Lib.bitLenAux_bounds 64 (f m) (by omega) ht
  have hl : Lib.bitLen (f m) = Lib.bitLenAux 64 (f m) := rfl
  rw [hl]
  generalize Lib.bitLenAux 64 (f m) = l at *
  obtain ⟨k, rfl⟩ : ∃ k, l = k + 1 := ⟨l - 1, by omega⟩
  rw [Nat.add_sub_cancel] at b
  have hB : (4294967296 : Nat) ^ m = 2 ^ (m * 32) := by rw [Nat.mul_comm, Nat.pow_mul]
  have h1 := val_lt f m (fun j hj => hf j (by omega))
  rw [show m * 32 + (k + 1) = (m * 32 + k) + 1 by omega]
  refine nbits_eq ?_ ?_
  · rw [Nat.pow_add, val, hB, Nat.mul_comm]
    have := Nat.mul_le_mul_right (2 ^ (m * 32)) b
    omega
  · rw [show m * 32 + k + 1 = (k + 1) + m * 32 by omega, Nat.pow_add, val]
    have := Nat.mul_le_mul_right (2 ^ (m * 32)) (show f m + 1 ≤ 2 ^ (k + 1) from c)
    rw [Nat.add_mul] at this
    rw [hB] at h1 ⊢
    omega

theorem len32_any (x : Nat) (w : World) (h : x < 4294967296) : Calls Tryz.prog 90 #[.int .u32 x] w fun e w' => e = .returned (.int .i64 (Lib.bitLen x : Nat)) ∧ w = w' :=
  (Tryz.bits_Len32 x w (by omega) (by omega)).mono fun _ _ ⟨h1, h2⟩ => ⟨by rw [h1, Int.toNat_natCast], h2.symm⟩

set_option maxRecDepth 100000 in
theorem bits_any (v : Value) (N : Nat) (w : World) (h : NatIs w v N) : Calls Tryz.prog 89 #[v] w fun e w' => e = .returned (.int .i64 (nbits N)) ∧ Below w.heap.size w w' := by
  have HZ := Lib.hid (zero_any v N)
  obtain ⟨a, n, c, f, rfl, hs, hv, ht⟩ := h
  have hz := nat_zero hv ht
  have hzz := HZ.out (w.alloc (.cells #[.slice a n c] 26)) ⟨a, n, c, f, rfl, hs.below ((Below.refl _ _).alloc (Nat.le_refl _) _), hv, ht⟩
  have s0 := Slot.new w (.slice a n c) 26
  by_cases h0 : n = 0
  · have hN : N = 0 := hz.2 h0
    subst hN
    have HZ2 := Lib.hid hzz
    clear hs hv ht hz hzz s0 h0
    go_enter Tryz.func89, Tryz.ntmps89
    go_wp2_with (go_at_call 35; refine HZ2.out.mono ?_; rintro e w1 ⟨rfl, hb1⟩)
    go_ret
    exact ⟨by simp [nbits], below_alloc hb1⟩
  · rw [show decide (N = 0) = false from decide_eq_false (by omega)] at hzz
    obtain ⟨n1, hn1⟩ : ∃ n1, n - 1 = n1 := ⟨_, rfl⟩
    have hb := bits_val (by omega) hs.2.2.1 (ht.resolve_left h0)
    rw [hv, hn1] at hb
    obtain ⟨b, off, rfl, hbl, hc, hl⟩ := hs.limb (show n1 < n by omega)
    have hnl := NatIs.len hs
    have hL := Lib.bitLen_le (f n1) 32 (by omega) (by omega)
    have HLN := Lib.hid (len32_any (f n1))
    generalize f n1 = x at *
    obtain ⟨l, hl2⟩ : ∃ l, Lib.bitLen x = l := ⟨_, rfl⟩
    rw [hl2] at hb hL HLN
    have e1 : (n : Int) - 1 = (n1 : Int) := by omega
    have HB := Lib.hid hb
    have HZ2 := Lib.hid hzz
    have S0 := Lib.hid s0
    have i1 : (n1 : Int) < (n : Int) := by omega
    clear hs hv ht hz hzz s0 hb hl2 hn1
    go_enter Tryz.func89, Tryz.ntmps89
    go_wp2_with fail
    go_at_call 35
    refine HZ2.out.mono ?_
    rintro e w1 ⟨rfl, hb1⟩
    have S1 := S0.out.below hb1
    have hc1 := S1.cell
    have HB1 := Lib.hid (below_alloc hb1)
    have hc2 : w1.cell? ⟨b, off + n1, none⟩ = some (.int .u32 x) := (HB1.out.cell (p := ⟨b, off + n1, none⟩) hbl).trans hc
    clear hb1 S1
    go_wp2_with (go_at_call 90; refine (HLN.out _ hl).mono ?_; rintro e w2 ⟨rfl, rfl⟩)
    go_ret
    refine ⟨ret_int ?_, HB1.out⟩
    rw [HB.out]
    show (n1 : Int) * 32 + (l : Int) = _
    omega

theorem or0 (x : Nat) (h : x < 18446744073709551616) : bits .or .u64 (0 : Int) (x : Int) = (x : Int) := by
  have := u64_or_nat 0 x (by omega) h
  rw [Nat.zero_or] at this
  exact this

def UintOut (w w' : World) (e : Ending) (N : Nat) : Prop := e = .returned (.tuple #[.int .u64 ((if N < 18446744073709551616 then N else 0 : Nat) : Int), .bool (decide (N < 18446744073709551616))]) ∧ Below w.heap.size w w'

end Go.Proofs.YthklcdcikmninaaGreatDoor

