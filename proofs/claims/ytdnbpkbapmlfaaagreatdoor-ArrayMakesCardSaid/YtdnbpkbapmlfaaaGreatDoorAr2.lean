/-
  Package array: rows of numbers; slices.Clone of numbers and of characters, by contract.
-/
import Derived.Test.YtdnbpkbapmlfaaaGreatDoorAr1
import Derived.Test.YtdnbpkbapmlfaaaGreatDoorRa4
import Derived.Lib.SliceRun
import Derived.Lib.Walk
namespace Go.Proofs.YtdnbpkbapmlfaaaGreatDoor
open Go.RowKit

/-- A row of numbers, of any length. -/
def RRow (w : World) (sa : Option Addr) (n c : Nat) (fP : Nat → Int) (fQ : Nat → Nat) : Prop := n ≤ c ∧ c ≤ maxLen ∧ (n = 0 ∨ ∃ b off, sa = some ⟨b, off, none⟩ ∧ b < w.heap.size ∧
  ∀ j, j < n → ∃ a' n' c' m' a2' n2' c2', w.cell? ⟨b, off + j * 3, none⟩ = some (.slice a' n' c') ∧ w.cell? ⟨b, off + j * 3 + 1, none⟩ = some (.bool m') ∧ w.cell? ⟨b, off + j * 3 + 2, none⟩ = some (.slice a2' n2' c2') ∧ RatAt w a' n' c' m' a2' n2' c2' (fP j) (fQ j))
theorem RRow.below {w w' : World} {sa : Option Addr} {n c : Nat} {fP : Nat → Int} {fQ : Nat → Nat} (h : RRow w sa n c fP fQ) (hb : Below w.heap.size w w') : RRow w' sa n c fP fQ := by
  obtain ⟨h0, h1, h2⟩ := h
  refine ⟨h0, h1, h2.imp id ?_⟩
  rintro ⟨b, off, rfl, hl, hc⟩
  refine ⟨b, off, rfl, Nat.lt_of_lt_of_le hl hb.size, fun j hj => ?_⟩
  obtain ⟨a', n', c', m', a2', n2', c2', e1, e2, e3, hr⟩ := hc j hj
  exact ⟨a', n', c', m', a2', n2', c2', (hb.cell (p := ⟨b, _, none⟩) hl).trans e1, (hb.cell (p := ⟨b, _, none⟩) hl).trans e2, (hb.cell (p := ⟨b, _, none⟩) hl).trans e3, hr.below hb⟩
theorem RRow.get {w : World} {sa : Option Addr} {n c : Nat} {fP : Nat → Int} {fQ : Nat → Nat} (h : RRow w sa n c fP fQ) {j : Nat} (hj : j < n) :
    ∃ b off a' n' c' m' a2' n2' c2', sa = some ⟨b, off, none⟩ ∧ b < w.heap.size ∧ w.cell? ⟨b, off + j * 3, none⟩ = some (.slice a' n' c') ∧ w.cell? ⟨b, off + j * 3 + 1, none⟩ = some (.bool m') ∧ w.cell? ⟨b, off + j * 3 + 2, none⟩ = some (.slice a2' n2' c2') ∧ RatAt w a' n' c' m' a2' n2' c2' (fP j) (fQ j) := by
  obtain ⟨h0, h1, h2⟩ := h
  rcases h2 with h2 | ⟨b, off, rfl, hl, hc⟩
  · omega
  · obtain ⟨a', n', c', m', a2', n2', c2', e⟩ := hc j hj
    exact ⟨b, off, a', n', c', m', a2', n2', c2', rfl, hl, e⟩
theorem RRow.nought (w : World) (a : Option Addr) (c : Nat) (hc : c ≤ maxLen) (fP : Nat → Int) (fQ : Nat → Nat) : RRow w a 0 c fP fQ := ⟨Nat.zero_le _, hc, .inl rfl⟩
theorem KRow.nought (w : World) (ki : IntKind) (a : Option Addr) (c : Nat) (hc : c ≤ maxLen) (f : Nat → Int) : KRow w ki a 0 c f := ⟨Nat.zero_le _, hc, .inl rfl⟩

/-- What lies in a row's cells, read off the memory. -/
def lies (w : World) (b off n : Nat) : List Value := (List.range n).map fun j => (w.cell? ⟨b, off + j, none⟩).getD undef
theorem lies_length (w : World) (b off n : Nat) : (lies w b off n).length = n := by simp [lies]
theorem lies_get {w : World} {b off n j : Nat} {u : Value} (h : (lies w b off n)[j]? = some u) (hs : ∀ i, i < n → (w.cell? ⟨b, off + i, none⟩).isSome = true) : w.cell? ⟨b, off + j, none⟩ = some u := by
  unfold lies at h
  rw [List.getElem?_map] at h
  obtain ⟨i, hi, rfl⟩ := Option.map_eq_some_iff.1 h
  have hj : j < n := by
    have := (List.getElem?_eq_some_iff.1 hi).1
    simpa using this
  rw [List.getElem?_range hj] at hi
  obtain rfl := Option.some.inj hi
  obtain ⟨v, hv⟩ := Option.isSome_iff_exists.1 (hs j hj)
  rw [hv]; rfl
theorem lies_at {w : World} {b off n j : Nat} {u : Value} (hj : j < n) (h : w.cell? ⟨b, off + j, none⟩ = some u) : (lies w b off n)[j]? = some u := by
  unfold lies
  rw [List.getElem?_map, List.getElem?_range hj, Option.map_some, h]
  rfl

/-- Cells of numbers are there, one each. -/
theorem three {n : Nat} {p : Nat → Prop} (h : ∀ j, j < n → p (j * 3) ∧ p (j * 3 + 1) ∧ p (j * 3 + 2)) : ∀ i, i < n * 3 → p i := by
  intro i hi
  obtain ⟨h1, h2, h3⟩ := h (i / 3) (by omega)
  have : i = i / 3 * 3 ∨ i = i / 3 * 3 + 1 ∨ i = i / 3 * 3 + 2 := by omega
  rcases this with e | e | e <;> rw [e] <;> assumption

theorem infoR : (Tryz.prog.info? 30).map (fun i => (i.zero, i.size, i.bytes)) = some (some (.agg #[.slice none 0 0, .bool false, .slice none 0 0]), 3, 56) := by kernel_rfl
theorem infoC : (Tryz.prog.info? 21).map (fun i => (i.zero, i.size, i.bytes)) = some (some (.int .i32 0), 1, 4) := by kernel_rfl

set_option maxHeartbeats 1600000 in
set_option maxRecDepth 100000 in
theorem cloneR_any (a : Option Addr) (n c : Nat) (fP : Nat → Int) (fQ : Nat → Nat) (w : World) (h : RRow w a n c fP fQ) (hn : n ≤ 1000000) :
    Calls Tryz.prog 78 #[.slice a n c] w fun e w' => ∃ a' c', e = .returned (.slice a' n c') ∧ RRow w' a' n c' fP fQ ∧ Below w.heap.size w w' := by
  obtain ⟨i0, hi, hz0, hz1, hz2⟩ := info_parts infoR
  have q22 : ∀ (w : World) (a : Option Addr) (n c n' c' : Nat), (binOp .eql 48 (.slice a n c) (.slice none n' c')).run Tryz.prog w = .ok (.bool a.isNone) w := fun w a n c n' c' => Lib.run_eql_slice_nil w _ _ a n c n' c' Tryz.underlying48
  cases a with
  | none =>
    have h0 : n = 0 := by
      rcases h.2.2 with h | ⟨_, _, h, _⟩
      · exact h
      · cases h
    subst h0
    go_enter Tryz.func78, Tryz.ntmps78
    go_wp2
    go_ret
    exact ⟨none, 0, rfl, RRow.nought _ _ _ (Nat.zero_le _) _ _, Below.refl _ _⟩
  | some ad =>
    have hex : ∃ news : List Value, news.length = n * 3 ∧ (∀ j u, news[j]? = some u → w.cell? (ad.add j) = some u) ∧ (∀ u ∈ news, u.oneCell' = true) ∧
        ∀ j, j < n → ∃ a' n' c' m' a2' n2' c2', news[j * 3]? = some (.slice a' n' c') ∧ news[j * 3 + 1]? = some (.bool m') ∧ news[j * 3 + 2]? = some (.slice a2' n2' c2') ∧ RatAt w a' n' c' m' a2' n2' c2' (fP j) (fQ j) := by
      rcases h.2.2 with h0 | ⟨b, off, he, hb, hc⟩
      · subst h0
        exact ⟨[], rfl, fun j u hu => by simp at hu, fun u hu => by simp at hu, fun j hj => by omega⟩
      · obtain rfl := Option.some.inj he
        have hs : ∀ i, i < n * 3 → ∃ u, w.cell? ⟨b, off + i, none⟩ = some u ∧ u.oneCell' = true := three (p := fun i => ∃ u, w.cell? ⟨b, off + i, none⟩ = some u ∧ u.oneCell' = true) fun j hj => by
          obtain ⟨a', n', c', m', a2', n2', c2', e1, e2, e3, _⟩ := hc j hj
          exact ⟨⟨_, e1, rfl⟩, ⟨_, e2, rfl⟩, ⟨_, e3, rfl⟩⟩
        have hs' : ∀ i, i < n * 3 → (w.cell? ⟨b, off + i, none⟩).isSome = true := fun i hi => by obtain ⟨u, hu, _⟩ := hs i hi; rw [hu]; rfl
        refine ⟨lies w b off (n * 3), lies_length _ _ _ _, fun j u hu => ?_, fun u hu => ?_, fun j hj => ?_⟩
        · rw [show (⟨b, off, none⟩ : Addr).add j = ⟨b, off + j, none⟩ by simp [Addr.add]]
          exact lies_get hu hs'
        · obtain ⟨j, hj⟩ := List.getElem?_of_mem hu
          have hl := (List.getElem?_eq_some_iff.1 hj).1
          rw [lies_length] at hl
          obtain ⟨v, hv, h1⟩ := hs j hl
          have := lies_get hj hs'
          rw [hv] at this
          obtain rfl := Option.some.inj this
          exact h1
        · obtain ⟨a', n', c', m', a2', n2', c2', e1, e2, e3, hr⟩ := hc j hj
          exact ⟨a', n', c', m', a2', n2', c2', lies_at (by omega) e1, lies_at (by omega) e2, lies_at (by omega) e3, hr⟩
    obtain ⟨news, hl, hcell, hone, hrat⟩ := hex
    have HC := Lib.hid hcell
    have HO := Lib.hid hone
    have HR := Lib.hid hrat
    have HL := Lib.hid hl
    have HN := Lib.hid hn
    clear hcell hone hrat hl h hn
    go_enter Tryz.func78, Tryz.ntmps78
    go_wp2_with (at_builtin; refine wpList_append_own _ rfl _ _ 48 rfl w.heap.size 30 i0 _ 3 56 Tryz.underlying48 hi hz0 hz1 hz2 rfl (by omega) _ _ _ rfl (World.ownsRow_made w #[] 0 (Nat.le_refl _) (Nat.zero_le _) (by simp)) ad n c news rfl ?qc1 ?qc2 ?qc3 ?qc4 ?qc5 ?qc6 ?_)
    case qc1 => exact HL.out
    case qc2 => exact fun j u hj => Lib.cell?_alloc_some _ (HC.out j u hj)
    case qc3 => exact HO.out
    case qc4 => have := HN.out; unfold maxLen; omega
    case qc5 => have := HN.out; omega
    case qc6 => simp
    intro v' w1 hown hgrow hnil
    have hb : Below w.heap.size w w1 := ((Below.refl _ w).alloc (Nat.le_refl _) _).grown hgrow (by simp) (by intro k hk; simp [Value.ownBlock] at hk; omega)
    have HE : Hid (∃ a' c', v' = .slice a' n c' ∧ RRow w1 a' n c' fP fQ) := by
      rcases hown.2 with ⟨rfl, h0⟩ | ⟨g, cap, cur, rfl, _, hh, h1, h2, _, hcs⟩
      · subst h0
        exact ⟨none, 0, rfl, RRow.nought _ _ _ (Nat.zero_le _) _ _⟩
      · refine ⟨some ⟨g, 0, none⟩, cap, rfl, h1, h2, .inr ⟨g, 0, rfl, Row.lt (t := 30) hh, fun j hj => ?_⟩⟩
        obtain ⟨a', n', c', m', a2', n2', c2', e1, e2, e3, hr⟩ := HR.out j hj
        have hc := hown.cells (g := g) rfl
        have hc' : ∀ i u, news[i]? = some u → w1.cell? ⟨g, i, none⟩ = some u := fun i u hu => by
          have := hc i u hu
          rwa [show (⟨g, 0, none⟩ : Addr).add i = ⟨g, i, none⟩ by unfold Addr.add; split <;> simp_all] at this
        refine ⟨a', n', c', m', a2', n2', c2', ?_, ?_, ?_, hr.below hb⟩
        · rw [Nat.zero_add]; exact hc' _ _ e1
        · rw [Nat.zero_add]; exact hc' _ _ e2
        · rw [Nat.zero_add]; exact hc' _ _ e3
    have HB := Lib.hid hb
    clear hown hgrow hnil hb
    go_wp2
    go_ret
    obtain ⟨a', c', rfl, hr⟩ := HE.out
    exact ⟨a', c', rfl, hr, HB.out⟩

set_option maxHeartbeats 1600000 in
set_option maxRecDepth 100000 in
theorem cloneC_any (a : Option Addr) (n c : Nat) (f : Nat → Int) (w : World) (h : KRow w .i32 a n c f) (hn : n ≤ 1000000) :
    Calls Tryz.prog 77 #[.slice a n c] w fun e w' => ∃ a' c', e = .returned (.slice a' n c') ∧ KRow w' .i32 a' n c' f ∧ Below w.heap.size w w' := by
  obtain ⟨i0, hi, hz0, hz1, hz2⟩ := info_parts infoC
  have q22 : ∀ (w : World) (a : Option Addr) (n c n' c' : Nat), (binOp .eql 22 (.slice a n c) (.slice none n' c')).run Tryz.prog w = .ok (.bool a.isNone) w := fun w a n c n' c' => Lib.run_eql_slice_nil w _ _ a n c n' c' Tryz.underlying22
  cases a with
  | none =>
    have h0 : n = 0 := by
      rcases h.2.2 with h | ⟨_, _, h, _⟩
      · exact h
      · cases h
    subst h0
    go_enter Tryz.func77, Tryz.ntmps77
    go_wp2
    go_ret
    exact ⟨none, 0, rfl, KRow.nought _ _ _ _ (Nat.zero_le _) _, Below.refl _ _⟩
  | some ad =>
    have hex : ∃ news : List Value, news.length = n * 1 ∧ (∀ j u, news[j]? = some u → w.cell? (ad.add j) = some u) ∧ (∀ u ∈ news, u.oneCell' = true) ∧ ∀ j, j < n → news[j]? = some (.int .i32 (f j)) := by
      rcases h.2.2 with h0 | ⟨b, off, he, hb, hc⟩
      · subst h0
        exact ⟨[], rfl, fun j u hu => by simp at hu, fun u hu => by simp at hu, fun j hj => by omega⟩
      · obtain rfl := Option.some.inj he
        have hg : ∀ j, j < n → ((List.range n).map fun j => Value.int .i32 (f j))[j]? = some (.int .i32 (f j)) := fun j hj => by rw [List.getElem?_map, List.getElem?_range hj]; rfl
        refine ⟨(List.range n).map fun j => .int .i32 (f j), by simp, fun j u hu => ?_, fun u hu => ?_, hg⟩
        · have hj : j < n := by
            have := (List.getElem?_eq_some_iff.1 hu).1
            simpa using this
          rw [hg j hj] at hu
          obtain rfl := Option.some.inj hu
          rw [show (⟨b, off, none⟩ : Addr).add j = ⟨b, off + j, none⟩ by simp [Addr.add]]
          exact hc j hj
        · obtain ⟨j, _, rfl⟩ := List.mem_map.1 hu
          rfl
    obtain ⟨news, hl, hcell, hone, hrat⟩ := hex
    have HC := Lib.hid hcell
    have HO := Lib.hid hone
    have HR := Lib.hid hrat
    have HL := Lib.hid hl
    have HN := Lib.hid hn
    clear hcell hone hrat hl h hn
    go_enter Tryz.func77, Tryz.ntmps77
    go_wp2_with (at_builtin; refine wpList_append_own _ rfl _ _ 22 rfl w.heap.size 21 i0 _ 1 4 Tryz.underlying22 hi hz0 hz1 hz2 rfl (by omega) _ _ _ rfl (World.ownsRow_made w #[] 0 (Nat.le_refl _) (Nat.zero_le _) (by simp)) ad n c news rfl ?qc1 ?qc2 ?qc3 ?qc4 ?qc5 ?qc6 ?_)
    case qc1 => exact HL.out
    case qc2 => exact fun j u hj => Lib.cell?_alloc_some _ (HC.out j u hj)
    case qc3 => exact HO.out
    case qc4 => have := HN.out; unfold maxLen; omega
    case qc5 => have := HN.out; omega
    case qc6 => simp
    intro v' w1 hown hgrow hnil
    have hb : Below w.heap.size w w1 := ((Below.refl _ w).alloc (Nat.le_refl _) _).grown hgrow (by simp) (by intro k hk; simp [Value.ownBlock] at hk; omega)
    have HE : Hid (∃ a' c', v' = .slice a' n c' ∧ KRow w1 .i32 a' n c' f) := by
      rcases hown.2 with ⟨rfl, h0⟩ | ⟨g, cap, cur, rfl, _, hh, h1, h2, _, hcs⟩
      · subst h0
        exact ⟨none, 0, rfl, KRow.nought _ _ _ _ (Nat.zero_le _) _⟩
      · refine ⟨some ⟨g, 0, none⟩, cap, rfl, h1, h2, .inr ⟨g, 0, rfl, Row.lt (t := 21) hh, fun j hj => ?_⟩⟩
        have := hown.cells (g := g) rfl j _ (HR.out j hj)
        rwa [show (⟨g, 0, none⟩ : Addr).add j = ⟨g, 0 + j, none⟩ by unfold Addr.add; split <;> simp_all] at this
    have HB := Lib.hid hb
    clear hown hgrow hnil hb
    go_wp2
    go_ret
    obtain ⟨a', c', rfl, hr⟩ := HE.out
    exact ⟨a', c', rfl, hr, HB.out⟩

end Go.Proofs.YtdnbpkbapmlfaaaGreatDoor
