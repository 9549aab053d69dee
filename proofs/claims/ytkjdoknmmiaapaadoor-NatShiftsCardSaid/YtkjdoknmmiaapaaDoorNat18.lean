/-
  Package nat: rows of the call's own that grow (append), and Parse, by contract.
-/
import Derived.Test.YtkjdoknmmiaapaaDoorNat17
import Derived.Test.YtkjdoknmmiaapaaDoorDec
namespace Go.Proofs.YtkjdoknmmiaapaaDoor
open Go.RowKit

/-- The values of the first n numbers of f. -/
def cl (ki : IntKind) (f : Nat → Nat) (n : Nat) : List Value := (List.range n).map fun j => .int ki (f j)
theorem cl_length (ki : IntKind) (f : Nat → Nat) (n : Nat) : (cl ki f n).length = n := by simp [cl]
theorem cl_get {ki : IntKind} {f : Nat → Nat} {n j : Nat} (h : j < n) : (cl ki f n)[j]? = some (.int ki (f j)) := by simp [cl, h]
theorem cl_set {ki : IntKind} {f : Nat → Nat} {n k x : Nat} : (cl ki f n).set k (.int ki x) = cl ki (fun j => if j = k then x else f j) n := by
  apply List.ext_getElem?
  intro j
  by_cases hj : j < n
  · rw [cl_get (f := fun j => if j = k then x else f j) hj, List.getElem?_set]
    by_cases e : k = j
    · subst e
      rw [if_pos rfl, if_pos (by rw [cl_length]; exact hj)]
      simp
    · rw [if_neg e, cl_get hj]
      simp [Ne.symm e]
  · rw [List.getElem?_eq_none (by simp [cl_length]; omega), List.getElem?_eq_none (by simp [cl_length]; omega)]
theorem cl_snoc {ki : IntKind} {f : Nat → Nat} {n x : Nat} : cl ki f n ++ [.int ki x] = cl ki (fun j => if j = n then x else f j) (n + 1) := by
  unfold cl
  rw [List.range_succ, List.map_append]
  congr 1
  · apply List.map_congr_left
    intro j hj
    have := List.mem_range.1 hj
    simp [Nat.ne_of_lt this]
  · simp
theorem cl_congr {ki : IntKind} {f g : Nat → Nat} {n : Nat} (h : ∀ j, j < n → f j = g j) : cl ki f n = cl ki g n := by
  unfold cl
  apply List.map_congr_left
  intro j hj
  rw [h j (List.mem_range.1 hj)]

/-- A slice of the call's own, of one-cell numbers. -/
def OwnL (w : World) (base : Nat) (e : TypeId) (ki : IntKind) (v : Value) (n : Nat) (f : Nat → Nat) : Prop := w.ownsRow base e 1 v n (cl ki f n)

theorem OwnL.cases {w : World} {base : Nat} {e : TypeId} {ki : IntKind} {v : Value} {n : Nat} {f : Nat → Nat} (h : OwnL w base e ki v n f) :
    (v = .slice none 0 0 ∧ n = 0) ∨ ∃ g c, v = .slice (some ⟨g, 0, none⟩) n c ∧ n ≤ c ∧ base ≤ g ∧ g < w.heap.size ∧ Cells w ki g 0 n f ∧ Free w g := by
  rcases h.2 with h0 | ⟨g, cap, cur, hv, hb, hg, hnc, hcm, hcs, ht⟩
  · exact .inl h0
  · refine .inr ⟨g, cap, hv, hnc, hb, ?_, ?_, Free.of_block hg⟩
    · rcases Nat.lt_or_ge g w.heap.size with h1 | h1
      · exact h1
      · rw [Array.getElem?_eq_none h1] at hg; cases hg
    · intro j hj
      have h1 : (cur.toList.take (n * 1))[j]? = some (.int ki (f j)) := by rw [ht]; exact cl_get hj
      rw [Nat.mul_one, List.getElem?_take, if_pos hj] at h1
      simp only [World.cell?, hg, Nat.zero_add]
      simpa using h1

theorem OwnL.slAt {w : World} {base : Nat} {e : TypeId} {ki : IntKind} {v : Value} {n m : Nat} {f : Nat → Nat} (h : OwnL w base e ki v n f) (hf : ∀ j, j < n → f j < m) (hn : n ≤ 1000000) : ∃ a c, v = .slice a n c ∧ SlAt w ki m a n c f ∧ (∀ x, a = some x → base ≤ x.block) := by
  rcases h.cases with ⟨rfl, rfl⟩ | ⟨g, c, rfl, h1, h2, h3, h4, _⟩
  · exact ⟨none, 0, rfl, SlAt.nil _ _ _ _, fun x hx => by cases hx⟩
  · exact ⟨_, c, rfl, ⟨h1, hn, hf, .inr ⟨g, 0, rfl, h3, h4⟩⟩, fun x hx => by cases hx; exact h2⟩

theorem OwnL.store {w : World} {base : Nat} {e : TypeId} {ki : IntKind} {g n c : Nat} {f : Nat → Nat} (h : OwnL w base e ki (.slice (some ⟨g, 0, none⟩) n c) n f) (k x : Nat) : OwnL (w.setCell ⟨g, k, none⟩ (.int ki x)) base e ki (.slice (some ⟨g, 0, none⟩) n c) n (fun j => if j = k then x else f j) := by
  have := (World.ownsRow.stored h k (.int ki x)).1
  rw [cl_set] at this
  exact this

def TimesR (s : Nat → Nat) (m p k c : Nat) (d : Nat → Nat) : Prop := val d k + c * 4294967296 ^ k = m * val s k + p
theorem timesR_step {s : Nat → Nat} {m p k c c' lo : Nat} (hp : c + s k * m = c' * 4294967296 + lo) :
    ∀ d d', TimesR s m p k c d → (∀ j, j ≠ k → d' j = d j) → d' k = lo → TimesR s m p (k + 1) c' d' := by
  intro d d' h h2 h3
  unfold TimesR at *
  rw [val, val, pow_succ32, val_congr k (f := d') (g := d) (fun j hj => h2 j (by omega)), h3]
  generalize 4294967296 ^ k = P at *
  generalize val d k = vd at *
  generalize val s k = vs at *
  generalize s k = x at *
  have a2 : (c + x * m) * P = (c' * 4294967296 + lo) * P := by rw [hp]
  have b1 : m * (vs + x * P) = m * vs + x * m * P := by rw [Nat.mul_add, ← Nat.mul_assoc, Nat.mul_comm m x]
  rw [Nat.add_mul, Nat.add_mul, Nat.mul_assoc c'] at a2
  rw [b1]
  omega

/-- The row at the head of a round of timesPlus. -/
def TimesI (w wr : World) (base : Nat) (v : Value) (n : Nat) (s : Nat → Nat) (m p k c : Nat) : Prop :=
  Below base w wr ∧ ∃ d, OwnL wr base 86 .u32 v n d ∧ (∀ j, j < n → d j < 4294967296) ∧ (∀ j, k ≤ j → j < n → d j = s j) ∧ TimesR s m p k c d

set_option maxHeartbeats 1600000 in
set_option maxRecDepth 100000 in
theorem timesPlus_any (base : Nat) (v : Value) (n : Nat) (s : Nat → Nat) (m p : Nat) (w : World) (h : OwnL w base 86 .u32 v n s) (hs : ∀ j, j < n → s j < 4294967296) (hn : n + 1 ≤ 1000000) (hm : m < 4294967296) (hp : p < 4294967296) (hb : base ≤ w.heap.size) :
    Calls Tryd.prog 71 #[v, .int .u32 m, .int .u32 p] w fun e w' => ∃ v' n' d, e = .returned v' ∧ OwnL w' base 86 .u32 v' n' d ∧ (∀ j, j < n' → d j < 4294967296) ∧ val d n' = m * val s n + p ∧ n' ≤ n + 1 ∧ Below base w w' := by
  obtain ⟨i0, hi, hz0, hz1, hz2⟩ := info_parts infoU
  have H0 : TimesI w w base v n s m p 0 p := ⟨Below.refl _ _, s, h, hs, fun _ _ _ => rfl, by simp [TimesR, val]⟩
  obtain ⟨a, c0, rfl, _, _⟩ := h.slAt hs (by omega)
  have hpp : (p : Int) % 18446744073709551616 = (p : Int) := by omega
  clear hs h hpp
  have HI := Lib.hid hi
  clear hi
  go_enter Tryd.func71, Tryd.ntmps71
  go_wp2
  go_loopw [7, 13] (fun cy i wr => ∃ k c : Nat, k ≤ n ∧ i = .int .i64 k ∧ c < 4294967296 ∧ cy = .int .u64 c ∧ TimesI w wr base (.slice a n c0) n s m p k c)
    (fun _ i _ => n - (intOf i).toNat)
  case atStart => exact ⟨0, p, by omega, rfl, hp, rfl, H0⟩
  case round =>
    obtain ⟨k, c, hk, rfl, hc, rfl, hr⟩ := hrel
    by_cases hlt : k < n
    · obtain ⟨hbl, d, hd, hdb, hds, hR⟩ := hr
      have hcs := hd.cases
      rcases hcs with ⟨_, h1⟩ | ⟨g, c1, h1, hnc, hgb, hgl, hgc, hgf⟩
      · omega
      · cases h1
        have hck := hgc k hlt
        rw [Nat.zero_add] at hck
        have hfk := hgf k
        have hdk := hds k (Nat.le_refl _) hlt
        have hdl := hdb k hlt
        rw [hdk] at hck hdl
        obtain ⟨pr, hpr⟩ : ∃ pr, c + s k * m = pr := ⟨_, rfl⟩
        have hprm := mul_bound' hdl hm
        obtain ⟨lo, hlo⟩ : ∃ lo, pr % 4294967296 = lo := ⟨_, rfl⟩
        obtain ⟨c', hc'⟩ : ∃ c', pr / 4294967296 = c' := ⟨_, rfl⟩
        have hst := timesR_step (s := s) (m := m) (p := p) (k := k) (c := c) (c' := c') (lo := lo) (by rw [hpr]; omega)
        have hrn : TimesI w (wr.setCell ⟨g, k, none⟩ (.int .u32 lo)) base (.slice (some ⟨g, 0, none⟩) n c0) n s m p (k + 1) c' := by
          refine ⟨hbl.setCell hgb _, _, hd.store k lo, fun j hj => ?_, fun j h1 h2 => ?_, hst d _ hR (fun j hj => if_neg hj) (if_pos rfl)⟩
          · show (if j = k then lo else d j) < _
            split
            · omega
            · exact hdb j hj
          · show (if j = k then lo else d j) = _
            rw [if_neg (by omega)]; exact hds j (by omega) h2
        have hpl : pr < 18446744073709551616 := by omega
        have hcl : c' < 4294967296 := by omega
        have HRN := Lib.hid hrn
        generalize s k = x at *
        have e1 : (c : Int) + ((x : Int) * (m : Int)) = (pr : Int) := by rw [← hpr, Int.natCast_add, Int.natCast_mul]
        have e2 : (pr : Int) % 4294967296 = (lo : Int) := by omega
        have e3 : (pr : Int) / 4294967296 = (c' : Int) := by omega
        have i1 : (x : Int) * (m : Int) ≤ 18446744065119617025 := by rw [← Int.natCast_mul]; omega
        have i0 : 0 ≤ (x : Int) * (m : Int) := by rw [← Int.natCast_mul]; omega
        have hk0 : (0 : Int) ≤ (k : Int) := by omega
        have hkn : (k : Int) < (n : Int) := by omega
        have hkt : ((k : Int)).toNat = k := by omega
        clear hrn hst hbl hd hdb hds hR hpr hlo hc' hprm hgc hgf hdk H0
        go_wp2
        go_roundw
        case rel => exact ⟨k + 1, c', by omega, by go_num, hcl, rfl, HRN.out⟩
        case measure => simp [intOf]; omega
    · obtain rfl : k = n := by omega
      obtain ⟨hbl, d, hd, hdb, _, hR⟩ := hr
      unfold TimesR at hR
      by_cases hc0 : c = 0
      · subst hc0
        have hE : Hid (val d k = m * val s k + p) := by show _ = _; omega
        have HBL := Lib.hid hbl
        have HD := Lib.hid hd
        have HDB := Lib.hid hdb
        clear hbl hd hdb hR H0
        go_wp2
        go_ret
        exact ⟨_, k, d, rfl, HD.out, HDB.out, hE.out, by omega, HBL.out⟩
      · have hE : Hid (val (fun j => if j = k then c else d j) (k + 1) = m * val s k + p) := by
          show val _ _ = _
          rw [val, if_pos rfl, val_congr k (g := d) (fun j hj => if_neg (by omega))]; exact hR
        have hcc : 0 < c := by omega
        have e2 : (c : Int) % 4294967296 = (c : Int) := by omega
        have HBL := Lib.hid hbl
        have HDB := Lib.hid hdb
        have HD := Lib.hid hd
        have hsz : base ≤ wr.heap.size := Nat.le_trans hb hbl.size
        clear hbl hdb hR H0 hd
        go_wp2_with (at_builtin; refine wpList_append_own _ rfl _ _ 23 rfl base 86 i0 (.int .u32 0) 1 4 Tryd.underlying23 HI.out hz0 hz1 hz2 rfl (by decide) _ _ _ rfl (World.ownsRow.alloc HD.out _) ⟨wr.heap.size, 0, none⟩ 1 1 [.int .u32 c] rfl rfl ?c1 ?c2 ?c3 ?c4 ?c5 ?_)
        case c1 =>
          intro j u hj
          match j, hj with
          | 0, hj => simp at hj; subst hj; simp [Addr.add]
        case c2 => intro u hu; simp at hu; subst hu; rfl
        case c3 => unfold maxLen; omega
        case c4 => omega
        case c5 => rw [World.size_alloc]; omega
        · intro v' w1 hown' hgrow _
          have hb1 : Below base w w1 := (HBL.out.alloc hsz _).grown hgrow (by rw [World.size_alloc]; omega) (fun q hq => (World.ownsRow.lt HD.out q hq).1)
          rw [cl_snoc] at hown'
          have HO := Lib.hid hown'
          have HB1 := Lib.hid hb1
          clear hown' hgrow hb1
          go_wp2
          go_ret
          refine ⟨v', k + 1, _, rfl, HO.out, fun j hj => ?_, hE.out, by omega, HB1.out⟩
          show (if j = k then c else d j) < _
          split
          · exact hc
          · exact HDB.out j (by omega)

end Go.Proofs.YtkjdoknmmiaapaaDoor
