/-
  Texts of this seat, laid together.
-/
import Derived.Lib.SliceRun
import Derived.Lib.Walk
import Derived.Deep.AppendLies
import Derived.Deep.RegionLaw
import Derived.Deep.RegionHeld3
import Derived.Below
import Derived.Test.YtifnamlgkooacaaGreatDoorQ1
import Derived.Test.YtifnamlgkooacaaGreatDoorQ2

namespace Go.Proofs.YtifnamlgkooacaaGreatDoor
open Go.RowKit
/-- A row of numbers, of any length. -/
def RRow (w : World) (sa : Option Addr) (n c : Nat) (fP : Nat → Int) (fQ : Nat → Nat) : Prop := n ≤ c ∧ c ≤ maxLen ∧ (n = 0 ∨ ∃ b off, sa = some ⟨b, off, none⟩ ∧ b < w.heap.size ∧
  ∀ j, j < n → ∃ a' n' c' m' a2' n2' c2', w.cell? ⟨b, off + j * 3, none⟩ = some (.slice a' n' c') ∧ w.cell? ⟨b, off + j * 3 + 1, none⟩ = some (.bool m') ∧ w.cell? ⟨b, off + j * 3 + 2, none⟩ = some (.slice a2' n2' c2') ∧ RatAt w a' n' c' m' a2' n2' c2' (fP j) (fQ j))
theorem RRow.below {w w' : World} {sa : Option Addr} {n c : Nat} {fP : Nat → Int} {fQ : Nat → Nat} (h : RRow w sa n c fP fQ) (hb : Below w.heap.size w w') : RRow w' sa n c fP fQ := by
  obtain ⟨h0, h1, h2⟩ := h
  refine ⟨h0, h1, h2.imp id ?_⟩
  rintro ⟨b, off, rfl, hl, hc⟩
  refine ⟨b, off, rfl, Nat.lt_of_lt_of_le hl hb.size, fun j hj => ?_⟩
  obtain ⟨a', n', c', m', a2', n2', c2', e1, e2, e3, hr⟩ := hc j hj
  exact ⟨a', n', c', m', a2', n2', c2', (hb.cell (p := ⟨b, _, none⟩) hl).trans e1, (hb.cell (p := ⟨b, _, none⟩) hl).trans e2, (hb.cell (p := ⟨b, _, none⟩) hl).trans e3, hr.below hb⟩
theorem RRow.get {w : World} {sa : Option Addr} {n c : Nat} {fP : Nat → Int} {fQ : Nat → Nat} (h : RRow w sa n c fP fQ) {j : Nat} (hj : j < n) :
    ∃ b off a' n' c' m' a2' n2' c2', sa = some ⟨b, off, none⟩ ∧ b < w.heap.size ∧ w.cell? ⟨b, off + j * 3, none⟩ = some (.slice a' n' c') ∧ w.cell? ⟨b, off + j * 3 + 1, none⟩ = some (.bool m') ∧ w.cell? ⟨b, off + j * 3 + 2, none⟩ = some (.slice a2' n2' c2') ∧ RatAt w a' n' c' m' a2' n2' c2' (fP j) (fQ j) := by
  obtain ⟨h0, h1, h2⟩ := h
  rcases h2 with h2 | ⟨b, off, rfl, hl, hc⟩
  · omega
  · obtain ⟨a', n', c', m', a2', n2', c2', e⟩ := hc j hj
    exact ⟨b, off, a', n', c', m', a2', n2', c2', rfl, hl, e⟩
theorem RRow.nought (w : World) (a : Option Addr) (c : Nat) (hc : c ≤ maxLen) (fP : Nat → Int) (fQ : Nat → Nat) : RRow w a 0 c fP fQ := ⟨Nat.zero_le _, hc, .inl rfl⟩
/-- What lies in a row's cells, read off the memory. -/
def lies (w : World) (b off n : Nat) : List Value := (List.range n).map fun j => (w.cell? ⟨b, off + j, none⟩).getD undef
theorem lies_length (w : World) (b off n : Nat) : (lies w b off n).length = n := by simp [lies]
theorem lies_get {w : World} {b off n j : Nat} {u : Value} (h : (lies w b off n)[j]? = some u) (hs : ∀ i, i < n → (w.cell? ⟨b, off + i, none⟩).isSome = true) : w.cell? ⟨b, off + j, none⟩ = some u := by
  unfold lies at h
  rw [List.getElem?_map] at h
  obtain ⟨i, hi, rfl⟩ := Option.map_eq_some_iff.1 h
  have hj : j < n := by
    have := (List.getElem?_eq_some_iff.1 hi).1
    simpa using this
  rw [List.getElem?_range hj] at hi
  obtain rfl := Option.some.inj hi
  obtain ⟨v, hv⟩ := Option.isSome_iff_exists.1 (hs j hj)
  rw [hv]; rfl
theorem lies_at {w : World} {b off n j : Nat} {u : Value} (hj : j < n) (h : w.cell? ⟨b, off + j, none⟩ = some u) : (lies w b off n)[j]? = some u := by
  unfold lies
  rw [List.getElem?_map, List.getElem?_range hj, Option.map_some, h]
  rfl
/-- Cells of numbers are there, one each. -/
theorem three {n : Nat} {p : Nat → Prop} (h : ∀ j, j < n → p (j * 3) ∧ p (j * 3 + 1) ∧ p (j * 3 + 2)) : ∀ i, i < n * 3 → p i := by
  intro i hi
  obtain ⟨h1, h2, h3⟩ := h (i / 3) (by omega)
  have : i = i / 3 * 3 ∨ i = i / 3 * 3 + 1 ∨ i = i / 3 * 3 + 2 := by omega
  rcases this with e | e | e <;> rw [e] <;> assumption
theorem infoR : (Tryz.prog.info? 77).map (fun i => (i.zero, i.size, i.bytes)) = some (some (.agg #[.slice none 0 0, .bool false, .slice none 0 0]), 3, 56) := by kernel_rfl
theorem infoC : (Tryz.prog.info? 21).map (fun i => (i.zero, i.size, i.bytes)) = some (some (.int .i32 0), 1, 4) := by kernel_rfl
set_option maxHeartbeats 1600000 in
set_option maxRecDepth 100000 in
theorem cloneR_any (a : Option Addr) (n c : Nat) (fP : Nat → Int) (fQ : Nat → Nat) (w : World) (h : RRow w a n c fP fQ) (hn : n ≤ 1000000) :
    Calls Tryz.prog 78 #[.slice a n c] w fun e w' => ∃ a' c', e = .returned (.slice a' n c') ∧ RRow w' a' n c' fP fQ ∧ Below w.heap.size w w' := by
  obtain ⟨i0, hi, hz0, hz1, hz2⟩ := info_parts infoR
  have q22 : ∀ (w : World) (a : Option Addr) (n c n' c' : Nat), (binOp .eql 30 (.slice a n c) (.slice none n' c')).run Tryz.prog w = .ok (.bool a.isNone) w := fun w a n c n' c' => Lib.run_eql_slice_nil w _ _ a n c n' c' Tryz.underlying30
  cases a with
  | none =>
    have h0 : n = 0 := by
      rcases h.2.2 with h | ⟨_, _, h, _⟩
      · exact h
      · cases h
    subst h0
    go_enter Tryz.func78, Tryz.ntmps78
    go_wp2
    go_ret
    exact ⟨none, 0, rfl, RRow.nought _ _ _ (Nat.zero_le _) _ _, Below.refl _ _⟩
  | some ad =>
    have hex : ∃ news : List Value, news.length = n * 3 ∧ (∀ j u, news[j]? = some u → w.cell? (ad.add j) = some u) ∧ (∀ u ∈ news, u.oneCell' = true) ∧
        ∀ j, j < n → ∃ a' n' c' m' a2' n2' c2', news[j * 3]? = some (.slice a' n' c') ∧ news[j * 3 + 1]? = some (.bool m') ∧ news[j * 3 + 2]? = some (.slice a2' n2' c2') ∧ RatAt w a' n' c' m' a2' n2' c2' (fP j) (fQ j) := by
      rcases h.2.2 with h0 | ⟨b, off, he, hb, hc⟩
      · subst h0
        exact ⟨[], rfl, fun j u hu => by simp at hu, fun u hu => by simp at hu, fun j hj => by omega⟩
      · obtain rfl := Option.some.inj he
        have hs : ∀ i, i < n * 3 → ∃ u, w.cell? ⟨b, off + i, none⟩ = some u ∧ u.oneCell' = true := three (p := fun i => ∃ u, w.cell? ⟨b, off + i, none⟩ = some u ∧ u.oneCell' = true) fun j hj => by
          obtain ⟨a', n', c', m', a2', n2', c2', e1, e2, e3, _⟩ := hc j hj
          exact ⟨⟨_, e1, rfl⟩, ⟨_, e2, rfl⟩, ⟨_, e3, rfl⟩⟩
        have hs' : ∀ i, i < n * 3 → (w.cell? ⟨b, off + i, none⟩).isSome = true := fun i hi => by obtain ⟨u, hu, _⟩ := hs i hi; rw [hu]; rfl
        refine ⟨lies w b off (n * 3), lies_length _ _ _ _, fun j u hu => ?_, fun u hu => ?_, fun j hj => ?_⟩
        · rw [show (⟨b, off, none⟩ : Addr).add j = ⟨b, off + j, none⟩ by simp [Addr.add]]
          exact lies_get hu hs'
        · obtain ⟨j, hj⟩ := List.getElem?_of_mem hu
          have hl := (List.getElem?_eq_some_iff.1 hj).1
          rw [lies_length] at hl
          obtain ⟨v, hv, h1⟩ := hs j hl
          have := lies_get hj hs'
          rw [hv] at this
          obtain rfl := Option.some.inj this
          exact h1
        · obtain ⟨a', n', c', m', a2', n2', c2', e1, e2, e3, hr⟩ := hc j hj
          exact ⟨a', n', c', m', a2', n2', c2', lies_at (by omega) e1, lies_at (by omega) e2, lies_at (by omega) e3, hr⟩
    obtain ⟨news, hl, hcell, hone, hrat⟩ := hex
    have HC := Lib.hid hcell
    have HO := Lib.hid hone
    have HR := Lib.hid hrat
    have HL := Lib.hid hl
    have HN := Lib.hid hn
    clear hcell hone hrat hl h hn
    go_enter Tryz.func78, Tryz.ntmps78
    go_wp2_with (at_builtin; refine wpList_append_own _ rfl _ _ 30 rfl w.heap.size 77 i0 _ 3 56 Tryz.underlying30 hi hz0 hz1 hz2 rfl (by omega) _ _ _ rfl (World.ownsRow_made w #[] 0 (Nat.le_refl _) (Nat.zero_le _) (by simp)) ad n c news rfl ?qc1 ?qc2 ?qc3 ?qc4 ?qc5 ?qc6 ?_)
    case qc1 => exact HL.out
    case qc2 => exact fun j u hj => Lib.cell?_alloc_some _ (HC.out j u hj)
    case qc3 => exact HO.out
    case qc4 => have := HN.out; unfold maxLen; omega
    case qc5 => have := HN.out; omega
    case qc6 => simp
    intro v' w1 hown hgrow hnil
    have hb : Below w.heap.size w w1 := ((Below.refl _ w).alloc (Nat.le_refl _) _).grown hgrow (by simp) (by intro k hk; simp [Value.ownBlock] at hk; omega)
    have HE : Hid (∃ a' c', v' = .slice a' n c' ∧ RRow w1 a' n c' fP fQ) := by
      rcases hown.2 with ⟨rfl, h0⟩ | ⟨g, cap, cur, rfl, _, hh, h1, h2, _, hcs⟩
      · subst h0
        exact ⟨none, 0, rfl, RRow.nought _ _ _ (Nat.zero_le _) _ _⟩
      · refine ⟨some ⟨g, 0, none⟩, cap, rfl, h1, h2, .inr ⟨g, 0, rfl, Row.lt (t := 77) hh, fun j hj => ?_⟩⟩
        obtain ⟨a', n', c', m', a2', n2', c2', e1, e2, e3, hr⟩ := HR.out j hj
        have hc := hown.cells (g := g) rfl
        have hc' : ∀ i u, news[i]? = some u → w1.cell? ⟨g, i, none⟩ = some u := fun i u hu => by
          have := hc i u hu
          rwa [show (⟨g, 0, none⟩ : Addr).add i = ⟨g, i, none⟩ by unfold Addr.add; split <;> simp_all] at this
        refine ⟨a', n', c', m', a2', n2', c2', ?_, ?_, ?_, hr.below hb⟩
        · rw [Nat.zero_add]; exact hc' _ _ e1
        · rw [Nat.zero_add]; exact hc' _ _ e2
        · rw [Nat.zero_add]; exact hc' _ _ e3
    have HB := Lib.hid hb
    clear hown hgrow hnil hb
    go_wp2
    go_ret
    obtain ⟨a', c', rfl, hr⟩ := HE.out
    exact ⟨a', c', rfl, hr, HB.out⟩
set_option maxHeartbeats 1600000 in
set_option maxRecDepth 100000 in
theorem cloneC_any (a : Option Addr) (n c : Nat) (f : Nat → Int) (w : World) (h : KRow w .i32 a n c f) (hn : n ≤ 1000000) :
    Calls Tryz.prog 95 #[.slice a n c] w fun e w' => ∃ a' c', e = .returned (.slice a' n c') ∧ KRow w' .i32 a' n c' f ∧ Below w.heap.size w w' := by
  obtain ⟨i0, hi, hz0, hz1, hz2⟩ := info_parts infoC
  have q22 : ∀ (w : World) (a : Option Addr) (n c n' c' : Nat), (binOp .eql 23 (.slice a n c) (.slice none n' c')).run Tryz.prog w = .ok (.bool a.isNone) w := fun w a n c n' c' => Lib.run_eql_slice_nil w _ _ a n c n' c' Tryz.underlying23
  cases a with
  | none =>
    have h0 : n = 0 := by
      rcases h.2.2 with h | ⟨_, _, h, _⟩
      · exact h
      · cases h
    subst h0
    go_enter Tryz.func95, Tryz.ntmps95
    go_wp2
    go_ret
    exact ⟨none, 0, rfl, KRow.nought _ _ _ _ (Nat.zero_le _) _, Below.refl _ _⟩
  | some ad =>
    have hex : ∃ news : List Value, news.length = n * 1 ∧ (∀ j u, news[j]? = some u → w.cell? (ad.add j) = some u) ∧ (∀ u ∈ news, u.oneCell' = true) ∧ ∀ j, j < n → news[j]? = some (.int .i32 (f j)) := by
      rcases h.2.2 with h0 | ⟨b, off, he, hb, hc⟩
      · subst h0
        exact ⟨[], rfl, fun j u hu => by simp at hu, fun u hu => by simp at hu, fun j hj => by omega⟩
      · obtain rfl := Option.some.inj he
        have hg : ∀ j, j < n → ((List.range n).map fun j => Value.int .i32 (f j))[j]? = some (.int .i32 (f j)) := fun j hj => by rw [List.getElem?_map, List.getElem?_range hj]; rfl
        refine ⟨(List.range n).map fun j => .int .i32 (f j), by simp, fun j u hu => ?_, fun u hu => ?_, hg⟩
        · have hj : j < n := by
            have := (List.getElem?_eq_some_iff.1 hu).1
            simpa using this
          rw [hg j hj] at hu
          obtain rfl := Option.some.inj hu
          rw [show (⟨b, off, none⟩ : Addr).add j = ⟨b, off + j, none⟩ by simp [Addr.add]]
          exact hc j hj
        · obtain ⟨j, _, rfl⟩ := List.mem_map.1 hu
          rfl
    obtain ⟨news, hl, hcell, hone, hrat⟩ := hex
    have HC := Lib.hid hcell
    have HO := Lib.hid hone
    have HR := Lib.hid hrat
    have HL := Lib.hid hl
    have HN := Lib.hid hn
    clear hcell hone hrat hl h hn
    go_enter Tryz.func95, Tryz.ntmps95
    go_wp2_with (at_builtin; refine wpList_append_own _ rfl _ _ 23 rfl w.heap.size 21 i0 _ 1 4 Tryz.underlying23 hi hz0 hz1 hz2 rfl (by omega) _ _ _ rfl (World.ownsRow_made w #[] 0 (Nat.le_refl _) (Nat.zero_le _) (by simp)) ad n c news rfl ?qc1 ?qc2 ?qc3 ?qc4 ?qc5 ?qc6 ?_)
    case qc1 => exact HL.out
    case qc2 => exact fun j u hj => Lib.cell?_alloc_some _ (HC.out j u hj)
    case qc3 => exact HO.out
    case qc4 => have := HN.out; unfold maxLen; omega
    case qc5 => have := HN.out; omega
    case qc6 => simp
    intro v' w1 hown hgrow hnil
    have hb : Below w.heap.size w w1 := ((Below.refl _ w).alloc (Nat.le_refl _) _).grown hgrow (by simp) (by intro k hk; simp [Value.ownBlock] at hk; omega)
    have HE : Hid (∃ a' c', v' = .slice a' n c' ∧ KRow w1 .i32 a' n c' f) := by
      rcases hown.2 with ⟨rfl, h0⟩ | ⟨g, cap, cur, rfl, _, hh, h1, h2, _, hcs⟩
      · subst h0
        exact ⟨none, 0, rfl, KRow.nought _ _ _ _ (Nat.zero_le _) _⟩
      · refine ⟨some ⟨g, 0, none⟩, cap, rfl, h1, h2, .inr ⟨g, 0, rfl, Row.lt (t := 21) hh, fun j hj => ?_⟩⟩
        have := hown.cells (g := g) rfl j _ (HR.out j hj)
        rwa [show (⟨g, 0, none⟩ : Addr).add j = ⟨g, 0 + j, none⟩ by unfold Addr.add; split <;> simp_all] at this
    have HB := Lib.hid hb
    clear hown hgrow hnil hb
    go_wp2
    go_ret
    obtain ⟨a', c', rfl, hr⟩ := HE.out
    exact ⟨a', c', rfl, hr, HB.out⟩
end Go.Proofs.YtifnamlgkooacaaGreatDoor

namespace Go.Proofs.YtifnamlgkooacaaGreatDoor
open Go.RowKit
/-- Cells that are an array of numbers: n of them, of the first r axes of f. -/
def NumArr (w : World) (cs : Array Value) (f : Nat → Int) (r n : Nat) (fP : Nat → Int) (fQ : Nat → Nat) : Prop := ∃ na nc, cs = arrC false ((r : Int) - 1) (dm f r) na n nc none 0 0 ∧ RRow w na n nc fP fQ
/-- Cells that are an array of characters. -/
def ChrArr (w : World) (cs : Array Value) (f : Nat → Int) (r n : Nat) (g : Nat → Int) : Prop := ∃ ta tc, cs = arrC true ((r : Int) - 1) (dm f r) none 0 0 ta n tc ∧ KRow w .i32 ta n tc g
theorem NumArr.below {w w' : World} {cs : Array Value} {f : Nat → Int} {r n : Nat} {fP : Nat → Int} {fQ : Nat → Nat} (h : NumArr w cs f r n fP fQ) (hb : Below w.heap.size w w') : NumArr w' cs f r n fP fQ := by
  obtain ⟨na, nc, h1, h2⟩ := h
  exact ⟨na, nc, h1, h2.below hb⟩
theorem ChrArr.below {w w' : World} {cs : Array Value} {f : Nat → Int} {r n : Nat} {g : Nat → Int} (h : ChrArr w cs f r n g) (hb : Below w.heap.size w w') : ChrArr w' cs f r n g := by
  obtain ⟨na, nc, h1, h2⟩ := h
  exact ⟨na, nc, h1, h2.below hb⟩
/-- The zero value: a list without numbers. -/
def zerC : Array Value := arrC false 0 (fun _ => 0) none 0 0 none 0 0
theorem dm_zero : dm (fun _ => 0) 1 = fun _ => 0 := by funext j; unfold dm; split <;> rfl
theorem NumArr.zero (w : World) (fP : Nat → Int) (fQ : Nat → Nat) : NumArr w zerC (fun _ => 0) 1 0 fP fQ := ⟨none, 0, by rw [dm_zero]; rfl, RRow.nought _ _ _ (Nat.zero_le _) _ _⟩
/-- What Nums answers. -/
def NumsTold (b : Bool) (f : Nat → Int) (r n : Nat) (fP : Nat → Int) (fQ : Nat → Nat) (w w' : World) (e : Ending) : Prop :=
  ∃ cs, e = .returned (.tuple #[.agg cs, .bool b]) ∧ (if b then NumArr w' cs f r n fP fQ else cs = zerC) ∧ Below w.heap.size w w'
def CharsTold (b : Bool) (f : Nat → Int) (r n : Nat) (g : Nat → Int) (w w' : World) (e : Ending) : Prop :=
  ∃ cs, e = .returned (.tuple #[.agg cs, .bool b]) ∧ (if b then ChrArr w' cs f r n g else cs = zerC) ∧ Below w.heap.size w w'
theorem KRow.setAt {w : World} {ki : IntKind} {a : Option Addr} {n c : Nat} {f : Nat → Int} {p : Addr} {x : Value} (h : KRow w ki a n c f) (hp : w.cell? p = some x) (hx : ∀ z, x ≠ .int ki z) (v : Value) : KRow (w.setCell p v) ki a n c f := by
  refine ⟨h.1, h.2.1, h.2.2.imp id ?_⟩
  rintro ⟨b, off, rfl, hl, hc⟩
  refine ⟨b, off, rfl, by simpa using hl, fun j hj => ?_⟩
  rw [World.cell?_setCell_other _ _ _ _ (fun e => by subst e; rw [hc j hj] at hp; exact hx _ (Option.some.inj hp).symm)]
  exact hc j hj
/-- No limb lies in the block. -/
def NoLimb (w : World) (g : Nat) : Prop := ∀ o z, w.cell? ⟨g, o, none⟩ ≠ some (.int .u32 z)
theorem NatIs.away {w w' : World} {v : Value} {N g : Nat} (h : NatIs w v N) (hn : NoLimb w g) (hf : Far g w w') : NatIs w' v N := by
  obtain ⟨a, n, c, f, rfl, ⟨h1, h2, h3, h4⟩, h5, h6⟩ := h
  refine ⟨a, n, c, f, rfl, ⟨h1, h2, h3, ?_⟩, h5, h6⟩
  rcases h4 with h4 | ⟨b, off, rfl, hb, hc⟩
  · exact .inl h4
  · refine .inr ⟨b, off, rfl, Nat.lt_of_lt_of_le hb hf.size, fun j hj => ?_⟩
    have hj' := hc j hj
    rw [hf.cell (a := ⟨b, off + j, none⟩) (fun e => by subst e; exact hn _ _ hj') hb]
    exact hj'
theorem RatAt.away {w w' : World} {a : Option Addr} {n c : Nat} {m : Bool} {a2 : Option Addr} {n2 c2 : Nat} {P : Int} {Q g : Nat} (h : RatAt w a n c m a2 n2 c2 P Q) (hn : NoLimb w g) (hf : Far g w w') : RatAt w' a n c m a2 n2 c2 P Q := ⟨⟨h.1.1, h.1.2.away hn hf⟩, h.2.away hn hf⟩
theorem RRow.away {w w' : World} {sa : Option Addr} {n c : Nat} {fP : Nat → Int} {fQ : Nat → Nat} {g : Nat} (h : RRow w sa n c fP fQ) (hn : NoLimb w g) (hg : n = 0 ∨ ∀ x, sa = some x → x.block ≠ g) (hf : Far g w w') : RRow w' sa n c fP fQ := by
  refine ⟨h.1, h.2.1, ?_⟩
  rcases h.2.2 with h0 | ⟨b, off, rfl, hl, hcc⟩
  · exact .inl h0
  · rcases hg with h0 | hg
    · exact .inl h0
    · have hbg : b ≠ g := hg _ rfl
      refine .inr ⟨b, off, rfl, Nat.lt_of_lt_of_le hl hf.size, fun j hj => ?_⟩
      obtain ⟨a', n', c', m', a2', n2', c2', e1, e2, e3, hq⟩ := hcc j hj
      exact ⟨a', n', c', m', a2', n2', c2', (hf.cell (a := ⟨b, _, none⟩) hbg hl).trans e1, (hf.cell (a := ⟨b, _, none⟩) hbg hl).trans e2, (hf.cell (a := ⟨b, _, none⟩) hbg hl).trans e3, hq.away hn hf⟩
theorem KRow.away {w w' : World} {ki : IntKind} {sa : Option Addr} {n c : Nat} {f : Nat → Int} {g : Nat} (h : KRow w ki sa n c f) (hg : n = 0 ∨ ∀ x, sa = some x → x.block ≠ g) (hf : Far g w w') : KRow w' ki sa n c f := by
  refine ⟨h.1, h.2.1, ?_⟩
  rcases h.2.2 with h0 | ⟨b, off, rfl, hl, hcc⟩
  · exact .inl h0
  · rcases hg with h0 | hg
    · exact .inl h0
    · exact .inr ⟨b, off, rfl, Nat.lt_of_lt_of_le hl hf.size, fun j hj => (hf.cell (a := ⟨b, off + j, none⟩) (show b ≠ g from hg ⟨b, off, none⟩ rfl) hl).trans (hcc j hj)⟩
/-- The cells of an array hold no limb, no character, and no number of the language. -/
theorem arr_cells {ch : Bool} {more : Int} {d : Nat → Int} {na : Option Addr} {nn nc : Nat} {ta : Option Addr} {tn tc : Nat} (o : Nat) (v : Value) (h : (arrC ch more d na nn nc ta tn tc)[o]? = some v) :
    (o = 0 ∧ ∃ b, v = .bool b) ∨ (1 ≤ o ∧ o < 10 ∧ ∃ z, v = .int .i64 z) ∨ (10 ≤ o ∧ o < 12 ∧ ∃ a n c, v = .slice a n c) := by
  unfold arrC at h
  rcases o with _ | _ | _ | _ | _ | _ | _ | _ | _ | _ | _ | _ | o
  · exact .inl ⟨rfl, _, (Option.some.inj h).symm⟩
  all_goals first
    | exact .inr (.inl ⟨by omega, by omega, _, (Option.some.inj h).symm⟩)
    | exact .inr (.inr ⟨by omega, by omega, _, _, _, (Option.some.inj h).symm⟩)
    | (exfalso; simp at h)
theorem Row.noLimb {w : World} {g : Nat} {t : TypeId} {ch : Bool} {more : Int} {d : Nat → Int} {na : Option Addr} {nn nc : Nat} {ta : Option Addr} {tn tc : Nat} (h : Row w g t (arrC ch more d na nn nc ta tn tc)) : NoLimb w g := by
  intro o z hc
  rw [h.cell o] at hc
  rcases arr_cells o _ hc with ⟨_, _, e⟩ | ⟨_, _, _, e⟩ | ⟨_, _, _, _, _, e⟩ <;> cases e
theorem RRow.ne {w : World} {sa : Option Addr} {n c : Nat} {fP : Nat → Int} {fQ : Nat → Nat} {g : Nat} {t : TypeId} {ch : Bool} {more : Int} {d : Nat → Int} {na : Option Addr} {nn nc : Nat} {ta : Option Addr} {tn tc : Nat} (h : RRow w sa n c fP fQ) (hr : Row w g t (arrC ch more d na nn nc ta tn tc)) :
    n = 0 ∨ ∀ x, sa = some x → x.block ≠ g := by
  rcases Nat.eq_zero_or_pos n with h0 | h0
  · exact .inl h0
  · refine .inr fun x hx e => ?_
    obtain ⟨b, off, a', n', c', m', a2', n2', c2', e0, hb, e1, e2, e3, _⟩ := h.get h0
    rw [hx] at e0
    obtain rfl := Option.some.inj e0
    subst e
    rw [hr.cell] at e1 e2
    rcases arr_cells _ _ e1 with ⟨_, _, e⟩ | ⟨_, _, _, e⟩ | ⟨_, _, _⟩
    · cases e
    · cases e
    · rcases arr_cells _ _ e2 with ⟨_, _, e⟩ | ⟨_, _, _, e⟩ | ⟨_, _, _, _, _, e⟩
      · omega
      · cases e
      · cases e
theorem KRow.ne {w : World} {ki : IntKind} {sa : Option Addr} {n c : Nat} {f : Nat → Int} {g : Nat} {t : TypeId} {ch : Bool} {more : Int} {d : Nat → Int} {na : Option Addr} {nn nc : Nat} {ta : Option Addr} {tn tc : Nat} (h : KRow w ki sa n c f) (hk : ki ≠ .i64) (hr : Row w g t (arrC ch more d na nn nc ta tn tc)) :
    n = 0 ∨ ∀ x, sa = some x → x.block ≠ g := by
  rcases Nat.eq_zero_or_pos n with h0 | h0
  · exact .inl h0
  · refine .inr fun x hx e => ?_
    obtain ⟨b, off, e0, hb, e1⟩ := h.get h0
    rw [hx] at e0
    obtain rfl := Option.some.inj e0
    subst e
    rw [hr.cell] at e1
    rcases arr_cells _ _ e1 with ⟨_, _, e⟩ | ⟨_, _, _, e⟩ | ⟨_, _, _, _, _, e⟩
    · cases e
    · injection e with e; exact hk e
    · cases e
theorem RRow.len {w : World} {a : Option Addr} {n c : Nat} {fP : Nat → Int} {fQ : Nat → Nat} (h : RRow w a n c fP fQ) : n ≤ c ∧ n ≤ 9223372036854775807 := by
  have h1 := h.1
  have h2 := h.2.1
  unfold maxLen at h2
  exact ⟨h1, by omega⟩
set_option maxHeartbeats 1600000 in
set_option maxRecDepth 100000 in
theorem nums_yes (a : Option Addr) (r c : Nat) (f : Nat → Int) (la : Option Addr) (n lc : Nat) (fP : Nat → Int) (fQ : Nat → Nat) (w : World) (h : KRow w .i64 a r c f) (hf : In64 f r) (hl : RRow w la n lc fP fQ) (hn : n ≤ 1000000) (hb : (shB f r && decide (itm f r = n)) = true) :
    Calls Tryz.prog 40 #[.slice a r c, .slice la n lc] w fun e w' => NumsTold true f r n fP fQ w w' e := by
  have B0 := (Bag.start w).alloc (.cells zerC 32)
  have BR := Lib.hid (fun wz (h : KRow wz .i64 a r c f) => bare_any a r c f n wz h hf)
  rw [hb] at BR
  unfold BareTold at BR
  rw [if_pos rfl] at BR
  unfold arrC at BR
  have CL := Lib.hid (fun wz (h : RRow wz la n lc fP fQ) => cloneR_any la n lc fP fQ wz h hn)
  have HK := Lib.hid h
  have HL := Lib.hid hl
  have hlen := hl.len
  have h0 : Row (w.alloc (.cells zerC 32)) w.heap.size 32 zerC := Row.new _ _ _
  have BB := Lib.hid (B0.row h0)
  clear h hl hf hn hb B0 h0
  go_enter Tryz.func40, Tryz.ntmps40
  go_wp2_with fail
  go_at_call 77
  (with_reducible refine (BR.out _ ?_).mono ?_)
  · exact HK.out.below BB.out.below
  rintro e w2 ⟨rfl, hb2⟩
  have B2 := BB.out.go hb2
  have BB := Lib.hid (((B2.alloc (.cells (arrC false ((r : Int) - 1) (dm f r) none 0 0 none 0 0) 32)).row (Row.new _ _ _)))
  have hlt := B2.now.1.lt
  clear hb2 B2
  unfold arrC at BB
  go_wp2_with fail
  go_at_call 78
  (with_reducible refine (CL.out _ ?_).mono ?_)
  · exact HL.out.below BB.out.below
  rintro e w3 ⟨a', c', rfl, hr3, hb3⟩
  have B3 := BB.out.go hb3
  have hb := B3.below
  have hr1 := B3.now.1
  have hr0 := B3.now.2.1
  have c10 : w3.cell? ⟨w2.heap.size, 10, none⟩ = some (.slice none 0 0) := hr1.cell 10
  have g10 : w3.frozen? ⟨w2.heap.size, 10, none⟩ = false := hr1.free 10
  have hne : w.heap.size ≠ w2.heap.size := by omega
  have hs1 : Row (w3.setCell ⟨w2.heap.size, 10, none⟩ (.slice a' n c')) w2.heap.size 32 (arrC false ((r : Int) - 1) (dm f r) a' n c' none 0 0) := hr1.set 10 _
  have hs0 : Row (w3.setCell ⟨w2.heap.size, 10, none⟩ (.slice a' n c')) w.heap.size 32 zerC := hr0.far (a := ⟨w2.heap.size, 10, none⟩) hne _
  have hr1' : Row w3 w2.heap.size 32 (arrC false ((r : Int) - 1) (dm f r) none 0 0 none 0 0) := hr1
  have hq := (hr3.away hr1'.noLimb (hr3.ne hr1') (Far.setCell w3 w2.heap.size 10 (.slice a' n c')))
  have HE : Hid (NumsTold true f r n fP fQ w ((w3.setCell ⟨w2.heap.size, 10, none⟩ (.slice a' n c')).setRow w.heap.size (arrC false ((r : Int) - 1) (dm f r) a' n c' none 0 0)) (.returned (.tuple #[.agg (arrC false ((r : Int) - 1) (dm f r) a' n c' none 0 0), .bool true]))) :=
    ⟨_, rfl, by rw [if_pos rfl]; exact ⟨a', c', rfl, hq.away (Row.noLimb hs0) (RRow.ne hq hs0) (Far.setRow _ _ _)⟩, below_put (hb.setCell (p := ⟨w2.heap.size, 10, none⟩) (show w.heap.size ≤ w2.heap.size by omega) _) (Nat.le_refl _) _⟩
  have HS1 := Lib.hid hs1
  have HS0 := Lib.hid hs0
  clear hs1 hs0 hr1 hr1' hr0 B3 hb3 hq hr3 hb
  go_wp2_with (first
    | (refine ld_arr rfl (.tmp 6) rfl w2.heap.size rfl HS1.out ?_)
    | (refine st_arr rfl (.tmp 4) (.tmp 19) rfl w.heap.size rfl _ _ _ _ _ _ _ _ _ rfl HS0.out rfl ?_))
  exact bodyPost_ret (res_arr2 Tryz.results40 rfl rfl (HS0.out.put _) rfl) rfl HE.out
set_option maxHeartbeats 1600000 in
set_option maxRecDepth 100000 in
theorem chars_yes (a : Option Addr) (r c : Nat) (f : Nat → Int) (la : Option Addr) (n lc : Nat) (g : Nat → Int) (w : World) (h : KRow w .i64 a r c f) (hf : In64 f r) (hl : KRow w .i32 la n lc g) (hn : n ≤ 1000000) (hb : (shB f r && decide (itm f r = n)) = true) :
    Calls Tryz.prog 57 #[.slice a r c, .slice la n lc] w fun e w' => CharsTold true f r n g w w' e := by
  have B0 := (Bag.start w).alloc (.cells zerC 32)
  have BR := Lib.hid (fun wz (h : KRow wz .i64 a r c f) => bare_any a r c f n wz h hf)
  rw [hb] at BR
  unfold BareTold at BR
  rw [if_pos rfl] at BR
  unfold arrC at BR
  have CL := Lib.hid (fun wz (h : KRow wz .i32 la n lc g) => cloneC_any la n lc g wz h hn)
  have HK := Lib.hid h
  have HL := Lib.hid hl
  have hlen := hl.len
  have h0 : Row (w.alloc (.cells zerC 32)) w.heap.size 32 zerC := Row.new _ _ _
  have BB := Lib.hid (B0.row h0)
  clear h hl hf hn hb B0 h0
  go_enter Tryz.func57, Tryz.ntmps57
  go_wp2_with fail
  go_at_call 77
  (with_reducible refine (BR.out _ ?_).mono ?_)
  · exact HK.out.below BB.out.below
  rintro e w2 ⟨rfl, hb2⟩
  have B2 := BB.out.go hb2
  have BB := Lib.hid (((B2.alloc (.cells (arrC false ((r : Int) - 1) (dm f r) none 0 0 none 0 0) 32)).row (Row.new _ _ _)))
  have hlt := B2.now.1.lt
  clear hb2 B2
  unfold arrC at BB
  go_wp2_with fail
  go_at_call 95
  (with_reducible refine (CL.out _ ?_).mono ?_)
  · exact HL.out.below BB.out.below
  rintro e w3 ⟨a', c', rfl, hr3, hb3⟩
  have B3 := BB.out.go hb3
  have hb := B3.below
  have hr1 := B3.now.1
  have hr0 := B3.now.2.1
  have c0 : w3.cell? ⟨w2.heap.size, 0, none⟩ = some (.bool false) := hr1.cell 0
  have g0 : w3.frozen? ⟨w2.heap.size, 0, none⟩ = false := hr1.free 0
  have c11 : (w3.setCell ⟨w2.heap.size, 0, none⟩ (.bool true)).cell? ⟨w2.heap.size, 11, none⟩ = some (.slice none 0 0) := (hr1.set 0 (.bool true)).cell 11
  have g11 : w3.frozen? ⟨w2.heap.size, 11, none⟩ = false := hr1.free 11
  have hne : w.heap.size ≠ w2.heap.size := by omega
  have hs1 : Row ((w3.setCell ⟨w2.heap.size, 0, none⟩ (.bool true)).setCell ⟨w2.heap.size, 11, none⟩ (.slice a' n c')) w2.heap.size 32 (arrC true ((r : Int) - 1) (dm f r) none 0 0 a' n c') := (hr1.set 0 (.bool true)).set 11 _
  have hs0 : Row ((w3.setCell ⟨w2.heap.size, 0, none⟩ (.bool true)).setCell ⟨w2.heap.size, 11, none⟩ (.slice a' n c')) w.heap.size 32 zerC := (hr0.far (a := ⟨w2.heap.size, 0, none⟩) hne _).far (a := ⟨w2.heap.size, 11, none⟩) hne _
  have hr1' : Row w3 w2.heap.size 32 (arrC false ((r : Int) - 1) (dm f r) none 0 0 none 0 0) := hr1
  have hr2' : Row (w3.setCell ⟨w2.heap.size, 0, none⟩ (.bool true)) w2.heap.size 32 (arrC true ((r : Int) - 1) (dm f r) none 0 0 none 0 0) := hr1.set 0 _
  have hq0 := hr3.away (hr3.ne (by decide) hr1') (Far.setCell w3 w2.heap.size 0 (.bool true))
  have hq := hq0.away (hq0.ne (by decide) hr2') (Far.setCell _ w2.heap.size 11 (.slice a' n c'))
  have HE : Hid (CharsTold true f r n g w (((w3.setCell ⟨w2.heap.size, 0, none⟩ (.bool true)).setCell ⟨w2.heap.size, 11, none⟩ (.slice a' n c')).setRow w.heap.size (arrC true ((r : Int) - 1) (dm f r) none 0 0 a' n c')) (.returned (.tuple #[.agg (arrC true ((r : Int) - 1) (dm f r) none 0 0 a' n c'), .bool true]))) :=
    ⟨_, rfl, by rw [if_pos rfl]; exact ⟨a', c', rfl, hq.away (hq.ne (by decide) hs0) (Far.setRow _ _ _)⟩, below_put ((hb.setCell (p := ⟨w2.heap.size, 0, none⟩) (show w.heap.size ≤ w2.heap.size by omega) _).setCell (p := ⟨w2.heap.size, 11, none⟩) (show w.heap.size ≤ w2.heap.size by omega) _) (Nat.le_refl _) _⟩
  have HS1 := Lib.hid hs1
  have HS0 := Lib.hid hs0
  clear hs1 hs0 hr1 hr1' hr2' hr0 B3 hb3 hq hq0 hr3 hb
  go_wp2_with (first
    | (refine ld_arr rfl (.tmp 6) rfl w2.heap.size rfl HS1.out ?_)
    | (refine st_arr rfl (.tmp 4) (.tmp 20) rfl w.heap.size rfl _ _ _ _ _ _ _ _ _ rfl HS0.out rfl ?_))
  exact bodyPost_ret (res_arr2 Tryz.results57 rfl rfl (HS0.out.put _) rfl) rfl HE.out
set_option maxHeartbeats 1600000 in
set_option maxRecDepth 100000 in
theorem nums_no (a : Option Addr) (r c : Nat) (f : Nat → Int) (la : Option Addr) (n lc : Nat) (fP : Nat → Int) (fQ : Nat → Nat) (w : World) (h : KRow w .i64 a r c f) (hf : In64 f r) (hb : (shB f r && decide (itm f r = n)) = false) :
    Calls Tryz.prog 40 #[.slice a r c, .slice la n lc] w fun e w' => NumsTold false f r n fP fQ w w' e := by
  have B0 := (Bag.start w).alloc (.cells zerC 32)
  have BR := Lib.hid (fun wz (h : KRow wz .i64 a r c f) => bare_any a r c f n wz h hf)
  rw [hb] at BR
  unfold BareTold at BR
  rw [if_neg (by decide)] at BR
  unfold arrC at BR
  have HK := Lib.hid h
  have h0 : Row (w.alloc (.cells zerC 32)) w.heap.size 32 zerC := Row.new _ _ _
  have BB := Lib.hid (B0.row h0)
  clear h hf hb B0 h0
  go_enter Tryz.func40, Tryz.ntmps40
  go_wp2_with fail
  go_at_call 77
  (with_reducible refine (BR.out _ ?_).mono ?_)
  · exact HK.out.below BB.out.below
  rintro e w2 ⟨rfl, hb2⟩
  have B2 := BB.out.go hb2
  have BB := Lib.hid (((B2.alloc (.cells zerC 32)).row (Row.new _ _ _)))
  have hlt := B2.now.1.lt
  clear hb2 B2
  have HS1 := Lib.hid BB.out.now.1
  have HS0 := Lib.hid BB.out.now.2.1
  have HE : Hid (NumsTold false f r n fP fQ w ((w2.alloc (.cells zerC 32)).setRow w.heap.size zerC) (.returned (.tuple #[.agg zerC, .bool false]))) :=
    ⟨_, rfl, by rw [if_neg (by decide)], below_put BB.out.below (Nat.le_refl _) _⟩
  go_wp2_with (first
    | (refine ld_arr rfl (.tmp 6) rfl w2.heap.size rfl (ch := false) (more := 0) (d := fun _ => 0) (na := none) (nn := 0) (nc := 0) (ta := none) (tn := 0) (tc := 0) HS1.out ?_)
    | (refine st_arr rfl (.tmp 4) (.tmp 19) rfl w.heap.size rfl _ _ _ _ _ _ _ _ _ rfl HS0.out rfl ?_))
  exact bodyPost_ret (res_arr2 Tryz.results40 rfl rfl (HS0.out.put _) rfl) rfl HE.out
set_option maxHeartbeats 1600000 in
set_option maxRecDepth 100000 in
theorem chars_no (a : Option Addr) (r c : Nat) (f : Nat → Int) (la : Option Addr) (n lc : Nat) (g : Nat → Int) (w : World) (h : KRow w .i64 a r c f) (hf : In64 f r) (hb : (shB f r && decide (itm f r = n)) = false) :
    Calls Tryz.prog 57 #[.slice a r c, .slice la n lc] w fun e w' => CharsTold false f r n g w w' e := by
  have B0 := (Bag.start w).alloc (.cells zerC 32)
  have BR := Lib.hid (fun wz (h : KRow wz .i64 a r c f) => bare_any a r c f n wz h hf)
  rw [hb] at BR
  unfold BareTold at BR
  rw [if_neg (by decide)] at BR
  unfold arrC at BR
  have HK := Lib.hid h
  have h0 : Row (w.alloc (.cells zerC 32)) w.heap.size 32 zerC := Row.new _ _ _
  have BB := Lib.hid (B0.row h0)
  clear h hf hb B0 h0
  go_enter Tryz.func57, Tryz.ntmps57
  go_wp2_with fail
  go_at_call 77
  (with_reducible refine (BR.out _ ?_).mono ?_)
  · exact HK.out.below BB.out.below
  rintro e w2 ⟨rfl, hb2⟩
  have B2 := BB.out.go hb2
  have BB := Lib.hid (((B2.alloc (.cells zerC 32)).row (Row.new _ _ _)))
  have hlt := B2.now.1.lt
  clear hb2 B2
  have HS1 := Lib.hid BB.out.now.1
  have HS0 := Lib.hid BB.out.now.2.1
  have HE : Hid (CharsTold false f r n g w ((w2.alloc (.cells zerC 32)).setRow w.heap.size zerC) (.returned (.tuple #[.agg zerC, .bool false]))) :=
    ⟨_, rfl, by rw [if_neg (by decide)], below_put BB.out.below (Nat.le_refl _) _⟩
  go_wp2_with (first
    | (refine ld_arr rfl (.tmp 6) rfl w2.heap.size rfl (ch := false) (more := 0) (d := fun _ => 0) (na := none) (nn := 0) (nc := 0) (ta := none) (tn := 0) (tc := 0) HS1.out ?_)
    | (refine st_arr rfl (.tmp 4) (.tmp 20) rfl w.heap.size rfl _ _ _ _ _ _ _ _ _ rfl HS0.out rfl ?_))
  exact bodyPost_ret (res_arr2 Tryz.results57 rfl rfl (HS0.out.put _) rfl) rfl HE.out
theorem nums_any (a : Option Addr) (r c : Nat) (f : Nat → Int) (la : Option Addr) (n lc : Nat) (fP : Nat → Int) (fQ : Nat → Nat) (w : World) (h : KRow w .i64 a r c f) (hf : In64 f r) (hl : RRow w la n lc fP fQ) (hn : n ≤ 1000000) :
    Calls Tryz.prog 40 #[.slice a r c, .slice la n lc] w fun e w' => NumsTold (shB f r && decide (itm f r = n)) f r n fP fQ w w' e := by
  cases hb : shB f r && decide (itm f r = n) with
  | false => exact nums_no a r c f la n lc fP fQ w h hf hb
  | true => exact nums_yes a r c f la n lc fP fQ w h hf hl hn hb
theorem chars_any (a : Option Addr) (r c : Nat) (f : Nat → Int) (la : Option Addr) (n lc : Nat) (g : Nat → Int) (w : World) (h : KRow w .i64 a r c f) (hf : In64 f r) (hl : KRow w .i32 la n lc g) (hn : n ≤ 1000000) :
    Calls Tryz.prog 57 #[.slice a r c, .slice la n lc] w fun e w' => CharsTold (shB f r && decide (itm f r = n)) f r n g w w' e := by
  cases hb : shB f r && decide (itm f r = n) with
  | false => exact chars_no a r c f la n lc g w h hf hb
  | true => exact chars_yes a r c f la n lc g w h hf hl hn hb
end Go.Proofs.YtifnamlgkooacaaGreatDoor

namespace Go.Proofs.YtifnamlgkooacaaGreatDoor
open Go.RowKit
/-- The element at an index, 0 where there is none. -/
def elP (n : Nat) (fP : Nat → Int) (i : Int) : Int := if 0 ≤ i ∧ i < n then fP i.toNat else 0
def elQ (n : Nat) (fQ : Nat → Nat) (i : Int) : Nat := if 0 ≤ i ∧ i < n then fQ i.toNat else 1
theorem RatAt.nought (w : World) : RatAt w none 0 0 false none 0 0 0 1 := ⟨⟨rfl, NatIs.zero w⟩, NatIs.zero w⟩
set_option maxHeartbeats 1600000 in
set_option maxRecDepth 100000 in
theorem elem_any (cs : Array Value) (f : Nat → Int) (r n : Nat) (fP : Nat → Int) (fQ : Nat → Nat) (i : Int) (w : World) (h : NumArr w cs f r n fP fQ) :
    Calls Tryz.prog 120 #[.agg cs, .int .i64 i] w fun e w' => RatTold w w' e (elP n fP i) (elQ n fQ i) := by
  obtain ⟨na, nc, rfl, hr⟩ := h
  have hl := hr.len
  by_cases hin : 0 ≤ i ∧ i < n
  · unfold elP elQ
    rw [if_pos hin, if_pos hin]
    obtain ⟨h0, h1⟩ := hin
    obtain ⟨k, rfl⟩ : ∃ k : Nat, i = k := ⟨i.toNat, by omega⟩
    have hk : k < n := by omega
    rw [show ((k : Int)).toNat = k from rfl]
    obtain ⟨b, off, a', n', c', m', a2', n2', c2', rfl, hb, e1, e2, e3, hq⟩ := hr.get hk
    have d1 : ¬ ((k : Int) < 0) := by omega
    have d2 : ¬ ((n : Int) ≤ k) := by omega
    have B0 := ((((Bag.start w).rat hq).alloc (.cells (arrC false ((r : Int) - 1) (dm f r) (some ⟨b, off, none⟩) n nc none 0 0) 32)).alloc (.cells #[.slice a' n' c', .bool m', .slice a2' n2' c2'] 77))
    have HE : Hid (RatTold w ((w.alloc (.cells (arrC false ((r : Int) - 1) (dm f r) (some ⟨b, off, none⟩) n nc none 0 0) 32)).alloc (.cells #[.slice a' n' c', .bool m', .slice a2' n2' c2'] 77)) (.returned (.agg #[.slice a' n' c', .bool m', .slice a2' n2' c2'])) (fP k) (fQ k)) :=
      ⟨a', n', c', m', a2', n2', c2', rfl, B0.now.1, B0.below⟩
    unfold arrC at HE
    unfold arrC
    clear hr hq B0
    go_enter Tryz.func120, Tryz.ntmps120
    go_wp2
    exact bodyPost_ret (v := .agg #[.slice a' n' c', .bool m', .slice a2' n2' c2']) (by simp [results, Tryz.results120, go_sem]) rfl HE.out
  · unfold elP elQ
    rw [if_neg hin, if_neg hin]
    have B0 := (((Bag.start w).alloc (.cells (arrC false ((r : Int) - 1) (dm f r) na n nc none 0 0) 32)).alloc (.cells #[.slice none 0 0, .bool false, .slice none 0 0] 77))
    have HE : Hid (RatTold w ((w.alloc (.cells (arrC false ((r : Int) - 1) (dm f r) na n nc none 0 0) 32)).alloc (.cells #[.slice none 0 0, .bool false, .slice none 0 0] 77)) (.returned (.agg #[.slice none 0 0, .bool false, .slice none 0 0])) 0 1) :=
      ⟨_, _, _, _, _, _, _, rfl, RatAt.nought _, B0.below⟩
    unfold arrC at HE
    unfold arrC
    clear hr B0
    by_cases h0 : i < 0
    · clear hin
      go_enter Tryz.func120, Tryz.ntmps120
      go_wp2
      exact bodyPost_ret (v := .agg #[.slice none 0 0, .bool false, .slice none 0 0]) (by simp [results, Tryz.results120, go_sem]) rfl HE.out
    · have d2 : (n : Int) ≤ i := by omega
      clear hin
      go_enter Tryz.func120, Tryz.ntmps120
      go_wp2
      exact bodyPost_ret (v := .agg #[.slice none 0 0, .bool false, .slice none 0 0]) (by simp [results, Tryz.results120, go_sem]) rfl HE.out
/-- A row of n numbers in the making: the first k are laid. -/
def RatsTo (w : World) (g n k : Nat) (fP : Nat → Int) (fQ : Nat → Nat) : Prop := g < w.heap.size ∧ Free w g ∧ ∀ j, j < n → ∃ a n' c m a2 n2 c2, w.cell? ⟨g, j * 3, none⟩ = some (.slice a n' c) ∧ w.cell? ⟨g, j * 3 + 1, none⟩ = some (.bool m) ∧ w.cell? ⟨g, j * 3 + 2, none⟩ = some (.slice a2 n2 c2) ∧ (j < k → RatAt w a n' c m a2 n2 c2 (fP j) (fQ j))
theorem RatsTo.below {w w' : World} {g n k : Nat} {fP : Nat → Int} {fQ : Nat → Nat} (h : RatsTo w g n k fP fQ) (hb : Below w.heap.size w w') : RatsTo w' g n k fP fQ := by
  obtain ⟨h1, h2, h3⟩ := h
  refine ⟨Nat.lt_of_lt_of_le h1 hb.size, h2.below hb h1, fun j hj => ?_⟩
  obtain ⟨a, n', c, m, a2, n2, c2, e1, e2, e3, e4⟩ := h3 j hj
  exact ⟨a, n', c, m, a2, n2, c2, (hb.cell (p := ⟨g, _, none⟩) h1).trans e1, (hb.cell (p := ⟨g, _, none⟩) h1).trans e2, (hb.cell (p := ⟨g, _, none⟩) h1).trans e3, fun hk => (e4 hk).below hb⟩
/-- The next number laid. -/
theorem RatsTo.step {w : World} {g n k : Nat} {fP : Nat → Int} {fQ : Nat → Nat} (h : RatsTo w g n k fP fQ) (hk : k < n) {a : Option Addr} {n' c : Nat} {m : Bool} {a2 : Option Addr} {n2 c2 : Nat} (hr : RatAt w a n' c m a2 n2 c2 (fP k) (fQ k)) :
    RatsTo (((w.setCell ⟨g, k * 3, none⟩ (.slice a n' c)).setCell ⟨g, k * 3 + 1, none⟩ (.bool m)).setCell ⟨g, k * 3 + 2, none⟩ (.slice a2 n2 c2)) g n (k + 1) fP fQ := by
  obtain ⟨h1, h2, h3⟩ := h
  obtain ⟨b, l, d, v, b2, l2, d2, x1, x2, x3, _⟩ := h3 k hk
  have keep : ∀ v N, NatIs w v N → NatIs (((w.setCell ⟨g, k * 3, none⟩ (.slice a n' c)).setCell ⟨g, k * 3 + 1, none⟩ (.bool m)).setCell ⟨g, k * 3 + 2, none⟩ (.slice a2 n2 c2)) v N := by
    intro u N hN
    refine ((hN.storeAt x1 (fun _ _ h => by cases h) _).storeAt (x := .bool v) ?_ (fun _ _ h => by cases h) _).storeAt (x := .slice b2 l2 d2) ?_ (fun _ _ h => by cases h) _
    · rw [World.cell?_setCell_other _ _ _ _ (fun e => by injection e with _ e; omega)]; exact x2
    · rw [World.cell?_setCell_other _ _ _ _ (fun e => by injection e with _ e; omega), World.cell?_setCell_other _ _ _ _ (fun e => by injection e with _ e; omega)]; exact x3
  have keepR : ∀ a n c m a2 n2 c2 P Q, RatAt w a n c m a2 n2 c2 P Q → RatAt _ a n c m a2 n2 c2 P Q := fun _ _ _ _ _ _ _ _ _ hq => ⟨⟨hq.1.1, keep _ _ hq.1.2⟩, keep _ _ hq.2⟩
  refine ⟨by simpa using h1, ((h2.set _ _).set _ _).set _ _, fun j hj => ?_⟩
  by_cases e : j = k
  · subst e
    refine ⟨a, n', c, m, a2, n2, c2, ?_, ?_, ?_, fun _ => keepR _ _ _ _ _ _ _ _ _ hr⟩
    · rw [World.cell?_setCell_other _ _ _ _ (fun e => by injection e with _ e; omega), World.cell?_setCell_other _ _ _ _ (fun e => by injection e with _ e; omega)]
      exact World.cell?_setCell_same _ _ _ x1
    · rw [World.cell?_setCell_other _ _ _ _ (fun e => by injection e with _ e; omega)]
      refine World.cell?_setCell_same (u := .bool v) _ _ _ ?_
      rw [World.cell?_setCell_other _ _ _ _ (fun e => by injection e with _ e; omega)]
      exact x2
    · refine World.cell?_setCell_same (u := .slice b2 l2 d2) _ _ _ ?_
      rw [World.cell?_setCell_other _ _ _ _ (fun e => by injection e with _ e; omega), World.cell?_setCell_other _ _ _ _ (fun e => by injection e with _ e; omega)]
      exact x3
  · obtain ⟨a', n9, c', m', a2', n2', c2', e1, e2, e3, e4⟩ := h3 j hj
    have far : ∀ o, (o = j * 3 ∨ o = j * 3 + 1 ∨ o = j * 3 + 2) → (((w.setCell ⟨g, k * 3, none⟩ (.slice a n' c)).setCell ⟨g, k * 3 + 1, none⟩ (.bool m)).setCell ⟨g, k * 3 + 2, none⟩ (.slice a2 n2 c2)).cell? ⟨g, o, none⟩ = w.cell? ⟨g, o, none⟩ := by
      intro o ho
      rw [World.cell?_setCell_other _ _ _ _ (fun e => by injection e with _ e; omega), World.cell?_setCell_other _ _ _ _ (fun e => by injection e with _ e; omega), World.cell?_setCell_other _ _ _ _ (fun e => by injection e with _ e; omega)]
    exact ⟨a', n9, c', m', a2', n2', c2', (far _ (.inl rfl)).trans e1, (far _ (.inr (.inl rfl))).trans e2, (far _ (.inr (.inr rfl))).trans e3, fun hj' => keepR _ _ _ _ _ _ _ _ _ (e4 (by omega))⟩
theorem RatsTo.done {w : World} {g n : Nat} {fP : Nat → Int} {fQ : Nat → Nat} (h : RatsTo w g n n fP fQ) (hn : n ≤ maxLen) : RRow w (some ⟨g, 0, none⟩) n n fP fQ := by
  refine ⟨Nat.le_refl _, hn, .inr ⟨g, 0, rfl, h.1, fun j hj => ?_⟩⟩
  obtain ⟨a, n', c, m, a2, n2, c2, e1, e2, e3, e4⟩ := h.2.2 j hj
  rw [Nat.zero_add]
  exact ⟨a, n', c, m, a2, n2, c2, e1, e2, e3, e4 hj⟩
theorem made3 {n i : Nat} (h : i < n * 3) : (madeCells (Value.cells (.agg #[.slice none 0 0, .bool false, .slice none 0 0])) (n * 3))[i]? = some (#[Value.slice none 0 0, .bool false, .slice none 0 0][i % 3]!) := by
  unfold madeCells
  rw [Array.getElem?_map, Array.getElem?_range, if_pos h]
  rfl
theorem RatsTo.made (w : World) (n : Nat) (t : TypeId) (fP : Nat → Int) (fQ : Nat → Nat) {mc : Array Value} (hmc : mc = madeCells (Value.cells (.agg #[.slice none 0 0, .bool false, .slice none 0 0])) (n * 3)) : RatsTo (w.alloc (.cells mc t)) w.heap.size n 0 fP fQ := by
  subst hmc
  have hR := Row.new w t (madeCells (Value.cells (.agg #[.slice none 0 0, .bool false, .slice none 0 0])) (n * 3))
  refine ⟨hR.lt, fun o => hR.free o, fun j hj => ⟨none, 0, 0, false, none, 0, 0, ?_, ?_, ?_, fun h => absurd h (Nat.not_lt_zero _)⟩⟩
  · rw [hR.cell, made3 (by omega)]; simp
  · rw [hR.cell, made3 (by omega), show (j * 3 + 1) % 3 = 1 by omega]; rfl
  · rw [hR.cell, made3 (by omega), show (j * 3 + 2) % 3 = 2 by omega]; rfl
/-- The three cells at a place of a row in the making. -/
theorem RatsTo.place {w : World} {g n k : Nat} {fP : Nat → Int} {fQ : Nat → Nat} (h : RatsTo w g n k fP fQ) {j : Nat} (hj : j < n) : (∃ a n' c m a2 n2 c2, w.cell? ⟨g, j * 3, none⟩ = some (.slice a n' c) ∧ w.cell? ⟨g, j * 3 + 1, none⟩ = some (.bool m) ∧ w.cell? ⟨g, j * 3 + 2, none⟩ = some (.slice a2 n2 c2)) ∧ w.frozen? ⟨g, j * 3, none⟩ = false ∧ w.frozen? ⟨g, j * 3 + 1, none⟩ = false ∧ w.frozen? ⟨g, j * 3 + 2, none⟩ = false := by
  obtain ⟨a, n', c, m, a2, n2, c2, e1, e2, e3, _⟩ := h.2.2 j hj
  exact ⟨⟨a, n', c, m, a2, n2, c2, e1, e2, e3⟩, h.2.1 _, h.2.1 _, h.2.1 _⟩
set_option maxHeartbeats 1600000 in
set_option maxRecDepth 100000 in
theorem pickRats_any (cs : Array Value) (f : Nat → Int) (r n : Nat) (fP : Nat → Int) (fQ : Nat → Nat) (sa : Option Addr) (sn sc : Nat) (g : Nat → Int) (w : World) (h : NumArr w cs f r n fP fQ) (hs : KRow w .i64 sa sn sc g) (hg : In64 g sn) (hn : sn ≤ 1000000) :
    Calls Tryz.prog 90 #[.agg cs, .slice sa sn sc] w fun e w' => ∃ a c, e = .returned (.slice a sn c) ∧ RRow w' a sn c (fun j => elP n fP (g j)) (fun j => elQ n fQ (g j)) ∧ Below w.heap.size w w' := by
  obtain ⟨i0, hi, hz0, hz1, hz2⟩ := info_parts infoR
  have hmk := fun wz => run_make (P := Tryz.prog) wz 30 77 i0 _ Tryz.underlying30 hi hz0 .i64 .i64 sn sn (by omega) (by omega) (by rw [hz2]; omega) (by omega)
  simp only [Int.toNat_natCast, hz1] at hmk
  have HA := Lib.hid h
  have HK := Lib.hid hs
  have HG := Lib.hid hg
  have hl := hs.len
  obtain ⟨na, nc, rfl, hr⟩ := h
  have EL := Lib.hid (fun i wz h => elem_any (arrC false ((r : Int) - 1) (dm f r) na n nc none 0 0) f r n fP fQ i wz h)
  unfold RatTold at EL
  have hR0 : Row (w.alloc (.cells (arrC false ((r : Int) - 1) (dm f r) na n nc none 0 0) 32)) w.heap.size 32 _ := Row.new _ _ _
  have H0 : Hid (Below w.heap.size w ((w.alloc (.cells (arrC false ((r : Int) - 1) (dm f r) na n nc none 0 0) 32)).alloc (.cells (madeCells (Value.cells (.agg #[.slice none 0 0, .bool false, .slice none 0 0])) (sn * 3)) 77)) ∧ Row ((w.alloc (.cells (arrC false ((r : Int) - 1) (dm f r) na n nc none 0 0) 32)).alloc (.cells (madeCells (Value.cells (.agg #[.slice none 0 0, .bool false, .slice none 0 0])) (sn * 3)) 77)) w.heap.size 32 (arrC false ((r : Int) - 1) (dm f r) na n nc none 0 0) ∧ RatsTo ((w.alloc (.cells (arrC false ((r : Int) - 1) (dm f r) na n nc none 0 0) 32)).alloc (.cells (madeCells (Value.cells (.agg #[.slice none 0 0, .bool false, .slice none 0 0])) (sn * 3)) 77)) (w.heap.size + 1) sn 0 (fun j => elP n fP (g j)) (fun j => elQ n fQ (g j))) :=
    ⟨((Below.refl _ _).alloc (Nat.le_refl _) _).alloc (by simp) _, hR0.below ((Below.refl _ _).alloc (Nat.le_refl _) _), by have := RatsTo.made (w.alloc (.cells (arrC false ((r : Int) - 1) (dm f r) na n nc none 0 0) 32)) sn 77 (fun j => elP n fP (g j)) (fun j => elQ n fQ (g j)) rfl; rwa [World.size_alloc] at this⟩
  unfold arrC
  clear hr hs hg hi hz0 hz1 hz2 hR0
  go_enter Tryz.func90, Tryz.ntmps90
  go_wp2_with fail
  go_loopw [13] (fun i wr => ∃ k : Nat, k ≤ sn ∧ i = .int .i64 k ∧ Hid (Below w.heap.size w wr ∧ Row wr w.heap.size 32 (arrC false ((r : Int) - 1) (dm f r) na n nc none 0 0) ∧ RatsTo wr (w.heap.size + 1) sn k (fun j => elP n fP (g j)) (fun j => elQ n fQ (g j)))) (fun i _ => sn - (intOf i).toNat)
  case atStart => exact ⟨0, by omega, rfl, H0.out⟩
  case round =>
    obtain ⟨k, hk, rfl, hrel⟩ := hrel
    obtain ⟨hbl, hrow, hto⟩ := hrel.out
    have hwr := hbl.size
    by_cases hlt : k < sn
    · obtain ⟨b, off, rfl, hb, hc⟩ := (HK.out.below hbl).get hlt
      have HAR := HA.out.below hbl
      have BB := Lib.hid ((((Bag.start wr).row hrow).add (fun _ _ hb q => RatsTo.below q hb) hto))
      have HBL := Lib.hid hbl
      have HROW := Lib.hid hrow
      have HARH := Lib.hid HAR
      clear hbl hrow hto HAR
      go_wp2_with (refine ld_arr rfl (.tmp 2) rfl w.heap.size rfl HROW.out ?_)
      go_at_call 120
      (with_reducible refine (EL.out _ _ ?_).mono ?_)
      · exact HARH.out
      rintro e w2 ⟨a2, n2, c2, m2, a3, n3, c3, rfl, hr2, hb2⟩
      have B2 := BB.out.go hb2
      have hto := B2.now.1
      have hrow := B2.now.2.1
      obtain ⟨⟨b1, l1, d1, v1, b2, l2, d2, x1, x2, x3⟩, y1, y2, y3⟩ := hto.place hlt
      have HN : Hid (Below w.heap.size w (((w2.setCell ⟨w.heap.size + 1, k * 3, none⟩ (.slice a2 n2 c2)).setCell ⟨w.heap.size + 1, k * 3 + 1, none⟩ (.bool m2)).setCell ⟨w.heap.size + 1, k * 3 + 2, none⟩ (.slice a3 n3 c3)) ∧
          Row (((w2.setCell ⟨w.heap.size + 1, k * 3, none⟩ (.slice a2 n2 c2)).setCell ⟨w.heap.size + 1, k * 3 + 1, none⟩ (.bool m2)).setCell ⟨w.heap.size + 1, k * 3 + 2, none⟩ (.slice a3 n3 c3)) w.heap.size 32 (arrC false ((r : Int) - 1) (dm f r) na n nc none 0 0) ∧
          RatsTo (((w2.setCell ⟨w.heap.size + 1, k * 3, none⟩ (.slice a2 n2 c2)).setCell ⟨w.heap.size + 1, k * 3 + 1, none⟩ (.bool m2)).setCell ⟨w.heap.size + 1, k * 3 + 2, none⟩ (.slice a3 n3 c3)) (w.heap.size + 1) sn (k + 1) (fun j => elP n fP (g j)) (fun j => elQ n fQ (g j))) :=
        ⟨(((HBL.out.trans (hb2.mono hwr)).setCell (p := ⟨w.heap.size + 1, _, none⟩) (Nat.le_succ _) _).setCell (p := ⟨w.heap.size + 1, _, none⟩) (Nat.le_succ _) _).setCell (p := ⟨w.heap.size + 1, _, none⟩) (Nat.le_succ _) _,
          ((hrow.far (a := ⟨w.heap.size + 1, _, none⟩) (show w.heap.size ≠ w.heap.size + 1 by omega) _).far (a := ⟨w.heap.size + 1, _, none⟩) (show w.heap.size ≠ w.heap.size + 1 by omega) _).far (a := ⟨w.heap.size + 1, _, none⟩) (show w.heap.size ≠ w.heap.size + 1 by omega) _,
          hto.step hlt hr2⟩
      clear hto hrow hr2 hb2 B2 hc
      go_wp2
      go_roundw
      case rel => exact ⟨k + 1, by omega, by go_num, HN.out⟩
      case measure => simp [intOf]; omega
    · obtain rfl : k = sn := by omega
      have HE : Hid (RRow wr (some ⟨w.heap.size + 1, 0, none⟩) k k (fun j => elP n fP (g j)) (fun j => elQ n fQ (g j)) ∧ Below w.heap.size w wr) := ⟨hto.done (by unfold maxLen; omega), hbl⟩
      clear hbl hrow hto
      go_wp2
      go_ret
      exact ⟨_, _, rfl, HE.out⟩
end Go.Proofs.YtifnamlgkooacaaGreatDoor

namespace Go.Proofs.YtifnamlgkooacaaGreatDoor
open Go.RowKit
/-- What answers an array of numbers. -/
def NumTold1 (f : Nat → Int) (r n : Nat) (fP : Nat → Int) (fQ : Nat → Nat) (w w' : World) (e : Ending) : Prop := ∃ cs, e = .returned (.agg cs) ∧ NumArr w' cs f r n fP fQ ∧ Below w.heap.size w w'
theorem itm_one (f : Nat → Int) : itm f 1 = f 0 := by show 1 * f 0 = f 0; omega
theorem shB_one (f : Nat → Int) : shB f 1 = (decide (0 ≤ f 0) && decide (f 0 ≤ 4096)) := by
  unfold shB
  rw [decide_eq_true (by omega), Bool.true_and]
  show (true && (decide (0 ≤ f 0) && decide (1 * max (f 0) 1 ≤ 4096))) = _
  rw [Bool.true_and]
  by_cases h : 0 ≤ f 0
  · rw [decide_eq_true h, Bool.true_and, Bool.true_and]
    by_cases h2 : f 0 ≤ 4096
    · rw [decide_eq_true h2, decide_eq_true (by omega)]
    · rw [decide_eq_false h2, decide_eq_false (by omega)]
  · rw [decide_eq_false h]; rfl
theorem sh_list {n : Nat} (h : n ≤ 4096) : (shB (fun _ => (n : Int)) 1 && decide (itm (fun _ => (n : Int)) 1 = n)) = true := by
  rw [shB_one, itm_one, decide_eq_true (show (0 : Int) ≤ n by omega), decide_eq_true (show (n : Int) ≤ 4096 by omega), decide_eq_true rfl]
  rfl
theorem KRow.one (w : World) (x : Int) (t : TypeId) : KRow (w.alloc (.cells #[.int .i64 x] t)) .i64 (some ⟨w.heap.size, 0, none⟩) 1 1 (fun _ => x) := by
  refine ⟨Nat.le_refl _, by unfold maxLen; omega, .inr ⟨_, 0, rfl, by simp, fun j hj => ?_⟩⟩
  obtain rfl : j = 0 := by omega
  exact (Row.new w t #[.int .i64 x]).cell 0
theorem In64.one {x : Int} (h : -9223372036854775808 ≤ x ∧ x ≤ 9223372036854775807) (n : Nat) : In64 (fun _ => x) n := fun _ _ => h
theorem Bag.to {w0 w : World} {B : World → Prop} {g n k : Nat} {fP : Nat → Int} {fQ : Nat → Nat} (h : Bag w0 B w) (q : RatsTo w g n k fP fQ) : Bag w0 (fun y => RatsTo y g n k fP fQ ∧ B y) w := h.add (fun _ _ hb q => RatsTo.below q hb) q
theorem Bag.rrow {w0 w : World} {B : World → Prop} {a : Option Addr} {n c : Nat} {fP : Nat → Int} {fQ : Nat → Nat} (h : Bag w0 B w) (q : RRow w a n c fP fQ) : Bag w0 (fun y => RRow y a n c fP fQ ∧ B y) w := h.add (fun _ _ hb q => RRow.below q hb) q
set_option maxHeartbeats 1600000 in
set_option maxRecDepth 100000 in
theorem ints_any (sa : Option Addr) (sn sc : Nat) (g : Nat → Int) (w : World) (hs : KRow w .i64 sa sn sc g) (hg : In64 g sn) (hn : sn ≤ 4096) :
    Calls Tryz.prog 14 #[.slice sa sn sc] w fun e w' => NumTold1 (fun _ => sn) 1 sn g (fun _ => 1) w w' e := by
  obtain ⟨i0, hi, hz0, hz1, hz2⟩ := info_parts infoR
  have hmk := fun wz => run_make (P := Tryz.prog) wz 30 77 i0 _ Tryz.underlying30 hi hz0 .i64 .i64 sn sn (by omega) (by omega) (by rw [hz2]; omega) (by omega)
  simp only [Int.toNat_natCast, hz1] at hmk
  have HK := Lib.hid hs
  have hl := hs.len
  have FR := Lib.hid (fun X wz h => ratFrom_any X wz h)
  unfold RatTold at FR
  have HG := Lib.hid hg
  have NU := Lib.hid (fun a c la lc wz (h : KRow wz .i64 a 1 c (fun _ => (sn : Int))) (h2 : RRow wz la sn lc g (fun _ => 1)) => nums_any a 1 c (fun _ => (sn : Int)) la sn lc g (fun _ => 1) wz h (In64.one (by omega) 1) h2 (by omega))
  rw [sh_list hn] at NU
  unfold NumsTold at NU
  have H0 : Hid (Below w.heap.size w ((w.alloc (.cells zerC 32)).alloc (.cells (madeCells (Value.cells (.agg #[.slice none 0 0, .bool false, .slice none 0 0])) (sn * 3)) 77)) ∧ Row ((w.alloc (.cells zerC 32)).alloc (.cells (madeCells (Value.cells (.agg #[.slice none 0 0, .bool false, .slice none 0 0])) (sn * 3)) 77)) w.heap.size 32 zerC ∧ RatsTo ((w.alloc (.cells zerC 32)).alloc (.cells (madeCells (Value.cells (.agg #[.slice none 0 0, .bool false, .slice none 0 0])) (sn * 3)) 77)) (w.heap.size + 1) sn 0 g (fun _ => 1)) :=
    ⟨((Below.refl _ _).alloc (Nat.le_refl _) _).alloc (by simp) _, (Row.new _ _ _).below ((Below.refl _ _).alloc (Nat.le_refl _) _), by have := RatsTo.made (w.alloc (.cells zerC 32)) sn 77 g (fun _ => 1) rfl; rwa [World.size_alloc] at this⟩
  clear hs hg hi hz0 hz1 hz2
  go_enter Tryz.func14, Tryz.ntmps14
  go_wp2_with fail
  go_loopw [13] (fun i wr => ∃ k : Nat, k ≤ sn ∧ i = .int .i64 k ∧ Hid (Below w.heap.size w wr ∧ Row wr w.heap.size 32 zerC ∧ RatsTo wr (w.heap.size + 1) sn k g (fun _ => 1))) (fun i _ => sn - (intOf i).toNat)
  case atStart => exact ⟨0, by omega, rfl, H0.out⟩
  case round =>
    obtain ⟨k, hk, rfl, hrel⟩ := hrel
    obtain ⟨hbl, hrow, hto⟩ := hrel.out
    have hwr := hbl.size
    by_cases hlt : k < sn
    · obtain ⟨b, off, rfl, hb, hc⟩ := (HK.out.below hbl).get hlt
      have BB := Lib.hid ((((Bag.start wr).row hrow).to hto))
      have HBL := Lib.hid hbl
      clear hbl hrow hto
      go_wp2_with fail
      go_at_call 39
      (with_reducible refine (FR.out _ _ ?_).mono ?_)
      · exact HG.out k hlt
      rintro e w2 ⟨a2, n2, c2, m2, a3, n3, c3, rfl, hr2, hb2⟩
      have B2 := BB.out.go hb2
      have hto := B2.now.1
      have hrow := B2.now.2.1
      obtain ⟨⟨b1, l1, d1, v1, b2, l2, d2, x1, x2, x3⟩, y1, y2, y3⟩ := hto.place hlt
      have HN : Hid (Below w.heap.size w (((w2.setCell ⟨w.heap.size + 1, k * 3, none⟩ (.slice a2 n2 c2)).setCell ⟨w.heap.size + 1, k * 3 + 1, none⟩ (.bool m2)).setCell ⟨w.heap.size + 1, k * 3 + 2, none⟩ (.slice a3 n3 c3)) ∧
          Row (((w2.setCell ⟨w.heap.size + 1, k * 3, none⟩ (.slice a2 n2 c2)).setCell ⟨w.heap.size + 1, k * 3 + 1, none⟩ (.bool m2)).setCell ⟨w.heap.size + 1, k * 3 + 2, none⟩ (.slice a3 n3 c3)) w.heap.size 32 zerC ∧
          RatsTo (((w2.setCell ⟨w.heap.size + 1, k * 3, none⟩ (.slice a2 n2 c2)).setCell ⟨w.heap.size + 1, k * 3 + 1, none⟩ (.bool m2)).setCell ⟨w.heap.size + 1, k * 3 + 2, none⟩ (.slice a3 n3 c3)) (w.heap.size + 1) sn (k + 1) g (fun _ => 1)) :=
        ⟨(((HBL.out.trans (hb2.mono hwr)).setCell (p := ⟨w.heap.size + 1, _, none⟩) (Nat.le_succ _) _).setCell (p := ⟨w.heap.size + 1, _, none⟩) (Nat.le_succ _) _).setCell (p := ⟨w.heap.size + 1, _, none⟩) (Nat.le_succ _) _,
          ((hrow.far (a := ⟨w.heap.size + 1, _, none⟩) (show w.heap.size ≠ w.heap.size + 1 by omega) _).far (a := ⟨w.heap.size + 1, _, none⟩) (show w.heap.size ≠ w.heap.size + 1 by omega) _).far (a := ⟨w.heap.size + 1, _, none⟩) (show w.heap.size ≠ w.heap.size + 1 by omega) _,
          hto.step hlt hr2⟩
      clear hto hrow hr2 hb2 B2 hc
      go_wp2
      go_roundw
      case rel => exact ⟨k + 1, by omega, by go_num, HN.out⟩
      case measure => simp [intOf]; omega
    · obtain rfl : k = sn := by omega
      have hdone := hto.done (by unfold maxLen; omega)
      have hkr : KRow (wr.alloc (.cells #[.int .i64 (k : Int)] 3)) .i64 (some ⟨wr.heap.size, 0, none⟩) 1 1 (fun _ => (k : Int)) := KRow.one wr k _
      have BB := Lib.hid ((((Bag.start wr).row hrow).alloc (.cells #[.int .i64 (k : Int)] 3)))
      have HD := Lib.hid (hdone.below ((Below.refl _ _).alloc (Nat.le_refl _) (.cells #[.int .i64 (k : Int)] 3)))
      have HKR := Lib.hid hkr
      have HBL := Lib.hid hbl
      clear hbl hrow hto hdone hkr
      go_wp2_with fail
      go_at_call 40
      (with_reducible refine (NU.out _ _ _ _ _ ?_ ?_).mono ?_)
      · exact HKR.out
      · exact HD.out
      rintro e w3 ⟨cs, rfl, hcs, hb3⟩
      rw [if_pos trivial] at hcs
      obtain ⟨na, nc, rfl, hr3⟩ := hcs
      have B3 := (((BB.out.go hb3).rrow hr3).newRow (arrC false (((1 : Nat) : Int) - 1) (dm (fun _ => (k : Int)) 1) na k nc none 0 0) 32)
      have hlt3 : w.heap.size < w3.heap.size := by have := hb3.size; simp at this; omega
      have hbb := HBL.out.trans (B3.below.mono hwr)
      have hr1 := B3.now.1
      have hr0 := B3.now.2.2.1
      have HR1 := Lib.hid hr1
      have HR0 := Lib.hid hr0
      have hq := B3.now.2.1.away (Row.noLimb hr0) (RRow.ne B3.now.2.1 hr0) (Far.setRow _ _ (arrC false (((1 : Nat) : Int) - 1) (dm (fun _ => (k : Int)) 1) na k nc none 0 0))
      have HE : Hid (NumTold1 (fun _ => (k : Int)) 1 k g (fun _ => 1) w ((w3.alloc (.cells (arrC false (((1 : Nat) : Int) - 1) (dm (fun _ => (k : Int)) 1) na k nc none 0 0) 32)).setRow w.heap.size (arrC false (((1 : Nat) : Int) - 1) (dm (fun _ => (k : Int)) 1) na k nc none 0 0)) (.returned (.agg (arrC false (((1 : Nat) : Int) - 1) (dm (fun _ => (k : Int)) 1) na k nc none 0 0)))) :=
        ⟨_, rfl, ⟨na, nc, rfl, hq⟩, below_put hbb (Nat.le_refl _) _⟩
      clear hr3 hb3 B3 hbb hr1 hr0 hq
      unfold arrC
      go_wp2_with (first
        | (refine ld_arr rfl (.tmp 6) rfl w3.heap.size rfl HR1.out ?_)
        | (refine st_arr rfl (.tmp 2) (.tmp 32) rfl w.heap.size rfl _ _ _ _ _ _ _ _ _ rfl HR0.out rfl ?_))
      exact bodyPost_ret (res_arr Tryz.results14 rfl (HR0.out.put _) rfl) rfl HE.out
end Go.Proofs.YtifnamlgkooacaaGreatDoor

namespace Go.Proofs.YtifnamlgkooacaaGreatDoor
open Go.RowKit
set_option maxHeartbeats 1600000 in
set_option maxRecDepth 100000 in
theorem pickN_any (cs : Array Value) (f : Nat → Int) (r n : Nat) (fP : Nat → Int) (fQ : Nat → Nat) (sa : Option Addr) (sr sc : Nat) (S : Nat → Int) (ta : Option Addr) (tn tc : Nat) (g : Nat → Int) (w : World) (h : NumArr w cs f r n fP fQ)
    (hs : KRow w .i64 sa sr sc S) (hS : In64 S sr) (ht : KRow w .i64 ta tn tc g) (hg : In64 g tn) (hn : tn ≤ 1000000) :
    Calls Tryz.prog 52 #[.agg cs, .slice sa sr sc, .slice ta tn tc] w fun e w' => NumsTold (shB S sr && decide (itm S sr = tn)) S sr tn (fun j => elP n fP (g j)) (fun j => elQ n fQ (g j)) w w' e := by
  have HA := Lib.hid h
  obtain ⟨na, nc, rfl, hr⟩ := h
  have PR := Lib.hid (fun wz h h2 => pickRats_any (arrC false ((r : Int) - 1) (dm f r) na n nc none 0 0) f r n fP fQ ta tn tc g wz h h2 hg hn)
  have NU := Lib.hid (fun la lc wz (h : KRow wz .i64 sa sr sc S) h2 => nums_any sa sr sc S la tn lc (fun j => elP n fP (g j)) (fun j => elQ n fQ (g j)) wz h hS h2 hn)
  unfold NumsTold at NU
  have HS := Lib.hid hs
  have HT := Lib.hid ht
  have BB := Lib.hid (((Bag.start w).newRow (arrC false ((r : Int) - 1) (dm f r) na n nc none 0 0) 32).newRow zerC 32)
  simp only [World.size_alloc] at BB
  generalize hb : (shB S sr && decide (itm S sr = tn)) = b at *
  have HR1 := Lib.hid BB.out.now.2.1
  clear hr hs hS ht hg hb
  unfold arrC
  go_enter Tryz.func52, Tryz.ntmps52
  go_wp2_with (refine ld_arr rfl (.tmp 3) rfl w.heap.size rfl HR1.out ?_)
  go_at_call 90
  (with_reducible refine (PR.out _ ?_ ?_).mono ?_)
  · exact HA.out.below BB.out.below
  · exact HT.out.below BB.out.below
  rintro e w2 ⟨a2, c2, rfl, hr2, hb2⟩
  have BB := Lib.hid ((BB.out.go hb2).rrow hr2)
  clear hr2 hb2
  go_wp2_with fail
  go_at_call 40
  (with_reducible refine (NU.out _ _ _ ?_ ?_).mono ?_)
  · exact HS.out.below BB.out.below
  · exact BB.out.now.1
  rintro e w3 ⟨cs3, rfl, hcs, hb3⟩
  have B3 := BB.out.go hb3
  have hr0 := B3.now.2.1
  have HR0 := Lib.hid hr0
  have HBL := Lib.hid B3.below
  have HE : Hid (∃ ch more d na nn nc ta tn' tc, cs3 = arrC ch more d na nn nc ta tn' tc ∧ NumsTold b S sr tn (fun j => elP n fP (g j)) (fun j => elQ n fQ (g j)) w (w3.setRow (w.heap.size + 1) cs3) (.returned (.tuple #[.agg cs3, .bool b]))) := by
    cases b with
    | false =>
      rw [if_neg (by decide)] at hcs
      subst hcs
      exact ⟨false, 0, fun _ => 0, none, 0, 0, none, 0, 0, rfl, zerC, rfl, by rw [if_neg (by decide)], below_put HBL.out (Nat.le_succ _) _⟩
    | true =>
      rw [if_pos rfl] at hcs
      obtain ⟨na3, nc3, rfl, hr3⟩ := hcs
      exact ⟨_, _, _, _, _, _, _, _, _, rfl, _, rfl, by rw [if_pos rfl]; exact ⟨na3, nc3, rfl, hr3.away (Row.noLimb hr0) (hr3.ne hr0) (Far.setRow _ _ _)⟩, below_put HBL.out (Nat.le_succ _) _⟩
  clear hcs hb3 B3 hr0
  obtain ⟨ch, more, d, na3, nn3, nc3, ta3, tn3, tc3, rfl, HE⟩ := HE.out
  have HE := Lib.hid HE
  go_wp2_with (refine st_arr rfl (.tmp 6) (.tmp 22) rfl (w.heap.size + 1) rfl _ _ _ _ _ _ _ _ _ rfl HR0.out rfl ?_)
  exact bodyPost_ret (res_arr2 Tryz.results52 rfl rfl (HR0.out.put _) rfl) rfl HE.out
set_option maxHeartbeats 1600000 in
set_option maxRecDepth 100000 in
theorem rank_any (ch : Bool) (d : Nat → Int) (r : Nat) (na : Option Addr) (nn nc : Nat) (ta : Option Addr) (tn tc : Nat) (w : World) (hr : r ≤ 1000) :
    Calls Tryz.prog 23 #[.agg (arrC ch ((r : Int) - 1) d na nn nc ta tn tc)] w fun e w' => e = .returned (.int .i64 r) ∧ Below w.heap.size w w' := by
  have HB : Hid (Below w.heap.size w (w.alloc (.cells (arrC ch ((r : Int) - 1) d na nn nc ta tn tc) 32))) := (Below.refl _ _).alloc (Nat.le_refl _) _
  have HE : Hid (1 + ((r : Int) - 1) = r) := by show _ = _; omega
  unfold arrC at HB
  unfold arrC
  go_enter Tryz.func23, Tryz.ntmps23
  go_wp2
  go_ret
  exact ⟨ret_int HE.out, HB.out⟩
/-- A row of n integers in the making: the first k are laid. -/
def KTo (w : World) (g n k : Nat) (f : Nat → Int) : Prop := g < w.heap.size ∧ Free w g ∧ ∀ j, j < n → ∃ z, w.cell? ⟨g, j, none⟩ = some (.int .i64 z) ∧ (j < k → z = f j)
theorem KTo.below {w w' : World} {g n k : Nat} {f : Nat → Int} (h : KTo w g n k f) (hb : Below w.heap.size w w') : KTo w' g n k f := by
  obtain ⟨h1, h2, h3⟩ := h
  refine ⟨Nat.lt_of_lt_of_le h1 hb.size, h2.below hb h1, fun j hj => ?_⟩
  obtain ⟨z, e1, e2⟩ := h3 j hj
  exact ⟨z, (hb.cell (p := ⟨g, _, none⟩) h1).trans e1, e2⟩
theorem KTo.step {w : World} {g n k : Nat} {f : Nat → Int} (h : KTo w g n k f) (hk : k < n) : KTo (w.setCell ⟨g, k, none⟩ (.int .i64 (f k))) g n (k + 1) f := by
  obtain ⟨h1, h2, h3⟩ := h
  refine ⟨by simpa using h1, h2.set _ _, fun j hj => ?_⟩
  by_cases e : j = k
  · subst e
    obtain ⟨z, e1, _⟩ := h3 j hj
    exact ⟨f j, World.cell?_setCell_same _ _ _ e1, fun _ => rfl⟩
  · obtain ⟨z, e1, e2⟩ := h3 j hj
    exact ⟨z, by rw [World.cell?_setCell_other _ _ _ _ (fun h => by injection h with _ h; omega)]; exact e1, fun h => e2 (by omega)⟩
theorem KTo.done {w : World} {g n : Nat} {f : Nat → Int} (h : KTo w g n n f) (hn : n ≤ maxLen) : KRow w .i64 (some ⟨g, 0, none⟩) n n f := by
  refine ⟨Nat.le_refl _, hn, .inr ⟨g, 0, rfl, h.1, fun j hj => ?_⟩⟩
  obtain ⟨z, e1, e2⟩ := h.2.2 j hj
  rw [Nat.zero_add, e1, e2 hj]
theorem KTo.made (w : World) (n : Nat) (t : TypeId) (f : Nat → Int) {mc : Array Value} (hmc : mc = madeCells (Value.cells (.int .i64 0)) n) : KTo (w.alloc (.cells mc t)) w.heap.size n 0 f := by
  subst hmc
  have hR := Row.new w t (madeCells (Value.cells (.int .i64 0)) n)
  refine ⟨hR.lt, fun o => hR.free o, fun j hj => ⟨0, ?_, fun h => absurd h (Nat.not_lt_zero _)⟩⟩
  rw [hR.cell]
  unfold madeCells
  rw [Array.getElem?_map, Array.getElem?_range, if_pos (by omega), Option.map_some]
  simp [Value.cells, Nat.mod_one]
theorem KTo.place {w : World} {g n k : Nat} {f : Nat → Int} (h : KTo w g n k f) {j : Nat} (hj : j < n) : (∃ z, w.cell? ⟨g, j, none⟩ = some (.int .i64 z)) ∧ w.frozen? ⟨g, j, none⟩ = false := by
  obtain ⟨z, e1, _⟩ := h.2.2 j hj
  exact ⟨⟨z, e1⟩, h.2.1 _⟩
theorem Bag.kto {w0 w : World} {B : World → Prop} {g n k : Nat} {f : Nat → Int} (h : Bag w0 B w) (q : KTo w g n k f) : Bag w0 (fun y => KTo y g n k f ∧ B y) w := h.add (fun _ _ hb q => KTo.below q hb) q
/-- Are the first numbers all integers of 64 bits? -/
def whB (fP : Nat → Int) (fQ : Nat → Nat) : Nat → Bool
  | 0 => true
  | k + 1 => whB fP fQ k && (decide (fQ k = 1) && fitB (fP k))
theorem whB_le {fP : Nat → Int} {fQ : Nat → Nat} : ∀ {k m : Nat}, k ≤ m → whB fP fQ m = true → whB fP fQ k = true := by
  intro k m
  induction m with
  | zero => intro h h2; obtain rfl : k = 0 := by omega
            exact h2
  | succ m ih =>
    intro h h2
    rcases Nat.lt_or_ge k (m + 1) with h3 | h3
    · refine ih (by omega) ?_
      unfold whB at h2
      rw [Bool.and_eq_true] at h2
      exact h2.1
    · obtain rfl : k = m + 1 := by omega
      exact h2
/-- What Whole answers. -/
def WhTold (b : Bool) (n : Nat) (fP : Nat → Int) (w w' : World) (e : Ending) : Prop := ∃ a m c, e = .returned (.tuple #[.slice a m c, .bool b]) ∧ (if b then m = n ∧ KRow w' .i64 a n c fP else a = none ∧ m = 0 ∧ c = 0) ∧ Below w.heap.size w w'
set_option maxHeartbeats 1600000 in
set_option maxRecDepth 100000 in
theorem whole6_any (cs : Array Value) (f : Nat → Int) (r n : Nat) (fP : Nat → Int) (fQ : Nat → Nat) (w : World) (h : NumArr w cs f r n fP fQ) (hQ : ∀ j, j < n → 0 < fQ j) (hn : n ≤ 1000000) :
    Calls Tryz.prog 22 #[.agg cs] w fun e w' => WhTold (whB fP fQ n) n fP w w' e := by
  obtain ⟨i0, hi, hz0, hz1, hz2⟩ := info_parts infoI
  have hmk := fun wz => run_make (P := Tryz.prog) wz 22 3 i0 _ Tryz.underlying22 hi hz0 .i64 .i64 n n (by omega) (by omega) (by rw [hz2]; omega) (by omega)
  simp only [Int.toNat_natCast, hz1, Nat.mul_one] at hmk
  obtain ⟨na, nc, rfl, hr⟩ := h
  have HR := Lib.hid hr
  have hl := hr.len
  have HQ := Lib.hid hQ
  have IN := Lib.hid (fun a n c m a2 n2 c2 P Q wz h hq => ratInt_any a n c m a2 n2 c2 P Q wz h hq)
  have hR0 : Row (w.alloc (.cells (arrC false ((r : Int) - 1) (dm f r) na n nc none 0 0) 32)) w.heap.size 32 _ := Row.new _ _ _
  have H0 : Hid (Below w.heap.size w ((w.alloc (.cells (arrC false ((r : Int) - 1) (dm f r) na n nc none 0 0) 32)).alloc (.cells (madeCells (Value.cells (.int .i64 0)) n) 3)) ∧ KTo ((w.alloc (.cells (arrC false ((r : Int) - 1) (dm f r) na n nc none 0 0) 32)).alloc (.cells (madeCells (Value.cells (.int .i64 0)) n) 3)) (w.heap.size + 1) n 0 fP ∧ whB fP fQ 0 = true) :=
    ⟨((Below.refl _ _).alloc (Nat.le_refl _) _).alloc (by simp) _, by have := KTo.made (w.alloc (.cells (arrC false ((r : Int) - 1) (dm f r) na n nc none 0 0) 32)) n 3 fP rfl; rwa [World.size_alloc] at this, rfl⟩
  unfold arrC at H0
  unfold arrC
  clear hr hi hz0 hz1 hz2 hR0 hQ
  go_enter Tryz.func22, Tryz.ntmps22
  go_wp2_with fail
  go_loopw [20] (fun i wr => ∃ k : Nat, k ≤ n ∧ i = .int .i64 k ∧ Hid (Below w.heap.size w wr ∧ KTo wr (w.heap.size + 1) n k fP ∧ whB fP fQ k = true)) (fun i _ => n - (intOf i).toNat)
  case atStart => exact ⟨0, by omega, rfl, H0.out⟩
  case round =>
    obtain ⟨k, hk, rfl, hrel⟩ := hrel
    obtain ⟨hbl, hto, hwh⟩ := hrel.out
    have hwr := hbl.size
    by_cases hlt : k < n
    · obtain ⟨b, off, a', n', c', m', a2', n2', c2', rfl, hlb, e1, e2, e3, hi'⟩ := (HR.out.below hbl).get hlt
      have BB := Lib.hid ((((Bag.start wr).kto hto).rat hi').alloc (.cells #[.slice a' n' c', .bool m', .slice a2' n2' c2'] 77))
      have HBL := Lib.hid hbl
      have HWH := Lib.hid hwh
      clear hbl hto hi' hwh
      go_wp2_with fail
      go_at_call 50
      (with_reducible refine (IN.out _ _ _ _ _ _ _ (fP k) (fQ k) _ ?_ ?_).mono ?_)
      · exact BB.out.now.1
      · exact HQ.out k hlt
      rintro e w2 ⟨rfl, hb2⟩
      have B2 := BB.out.go hb2
      have hto := B2.now.2.1
      obtain ⟨⟨z, x1⟩, y1⟩ := hto.place hlt
      have hbb := HBL.out.trans (B2.below.mono hwr)
      by_cases hok : (decide (fQ k = 1) && fitB (fP k)) = true
      · have hv : (if fQ k = 1 then fitI (fP k) else 0) = fP k := by
          rw [Bool.and_eq_true, decide_eq_true_eq] at hok
          rw [if_pos hok.1]; unfold fitI; rw [if_pos hok.2]
        have HN : Hid (Below w.heap.size w (w2.setCell ⟨w.heap.size + 1, k, none⟩ (.int .i64 (fP k))) ∧ KTo (w2.setCell ⟨w.heap.size + 1, k, none⟩ (.int .i64 (fP k))) (w.heap.size + 1) n (k + 1) fP ∧ whB fP fQ (k + 1) = true) :=
          ⟨hbb.setCell (p := ⟨w.heap.size + 1, k, none⟩) (Nat.le_succ _) _, hto.step hlt, by show (whB fP fQ k && _) = true; rw [HWH.out, hok]; rfl⟩
        rw [hok, hv]
        clear hto hb2 B2 hbb hv hok e1 e2 e3
        generalize fP k = x at *
        go_wp2
        go_roundw
        case rel => exact ⟨k + 1, by omega, by go_num, HN.out⟩
        case measure => simp [intOf]; omega
      · rw [Bool.not_eq_true] at hok
        have hno : whB fP fQ n = false := by
          cases hx : whB fP fQ n with
          | false => rfl
          | true =>
            have := whB_le (k := k + 1) (by omega) hx
            unfold whB at this
            rw [hok, Bool.and_false] at this
            exact this.symm
        rw [hok]
        have HE : Hid (WhTold (whB fP fQ n) n fP w w2 (.returned (.tuple #[.slice none 0 0, .bool false]))) := by
          rw [hno]
          exact ⟨_, _, _, rfl, by rw [if_neg (by decide)]; exact ⟨rfl, rfl, rfl⟩, hbb⟩
        generalize (if fQ k = 1 then fitI (fP k) else 0) = x at *
        clear hto hb2 B2 hbb hno hok e1 e2 e3
        go_wp2
        go_ret2
        exact HE.out
    · obtain rfl : k = n := by omega
      have HE : Hid (WhTold (whB fP fQ k) k fP w wr (.returned (.tuple #[.slice (some ⟨w.heap.size + 1, 0, none⟩) k k, .bool true]))) := by
        rw [hwh]
        exact ⟨_, _, _, rfl, by rw [if_pos rfl]; exact ⟨rfl, hto.done (by unfold maxLen; omega)⟩, hbl⟩
      clear hbl hto hwh
      go_wp2
      go_ret2
      exact HE.out
end Go.Proofs.YtifnamlgkooacaaGreatDoor

namespace Go.Proofs.YtifnamlgkooacaaGreatDoor
open Go.RowKit
/-- Integers written out. -/
def lt (l : List Int) (j : Nat) : Int := l.getD j 0
theorem KRow.lits (w : World) (l : List Int) (t : TypeId) (h : l.length ≤ 1000) {cs : Array Value} (hc : cs = (l.map (Value.int .i64)).toArray) : KRow (w.alloc (.cells cs t)) .i64 (some ⟨w.heap.size, 0, none⟩) l.length l.length (lt l) := by
  subst hc
  refine ⟨Nat.le_refl _, by unfold maxLen; omega, .inr ⟨_, 0, rfl, by simp, fun j hj => ?_⟩⟩
  have := (Row.new w t (l.map (Value.int .i64)).toArray).cell (0 + j)
  rw [this, Nat.zero_add]
  simp [lt, hj]
theorem lt64 {l : List Int} (h : l.all (fun x => decide (-9223372036854775808 ≤ x ∧ x ≤ 9223372036854775807)) = true) (n : Nat) : In64 (lt l) n := by
  intro j _
  unfold lt
  by_cases hj : j < l.length
  · have := List.all_eq_true.1 h (l[j]) (List.getElem_mem hj)
    rw [decide_eq_true_eq] at this
    simpa [List.getD, hj] using this
  · simp [List.getD, hj]
end Go.Proofs.YtifnamlgkooacaaGreatDoor

namespace Go.Proofs.YtifnamlgkooacaaGreatDoor
open Go.RowKit
/-- A part of a block that is known whole, as a row of integers. -/
theorem KRow.of_box {w : World} {k : Nat} {t : TypeId} {ch : Bool} {f : Nat → Int} {r : Nat} {na : Option Addr} {nn nc : Nat} {ta : Option Addr} {tn tc : Nat} {more : Int} (h : Row w k t (arrC ch more (dm f r) na nn nc ta tn tc)) (hr : r ≤ 8) : KRow w .i64 (some ⟨k, 2, none⟩) r 8 f := by
  refine ⟨hr, by unfold maxLen; omega, .inr ⟨k, 2, rfl, h.lt, fun j hj => ?_⟩⟩
  have hd : dm f r j = f j := by unfold dm; rw [if_pos hj]
  have hc := h.cell (2 + j)
  rw [hc, ← hd]
  have hn : j = 0 ∨ j = 1 ∨ j = 2 ∨ j = 3 ∨ j = 4 ∨ j = 5 ∨ j = 6 ∨ j = 7 := by omega
  rcases hn with rfl | rfl | rfl | rfl | rfl | rfl | rfl | rfl <;> rfl
set_option maxHeartbeats 1600000 in
set_option maxRecDepth 100000 in
theorem shape_any (ch : Bool) (f : Nat → Int) (r : Nat) (na : Option Addr) (nn nc : Nat) (ta : Option Addr) (tn tc : Nat) (w : World) (hr : r ≤ 8) :
    Calls Tryz.prog 35 #[.agg (arrC ch ((r : Int) - 1) (dm f r) na nn nc ta tn tc)] w fun e w' => ∃ a c, e = .returned (.slice a r c) ∧ KRow w' .i64 a r c f ∧ Below w.heap.size w w' := by
  have RK := Lib.hid (fun wz => rank_any ch (dm f r) r na nn nc ta tn tc wz (by omega))
  have CL := Lib.hid (fun a c wz h => cloneI_any a r c f wz h (by omega))
  have BB := Lib.hid ((Bag.start w).newRow (arrC ch ((r : Int) - 1) (dm f r) na nn nc ta tn tc) 32)
  have HR := Lib.hid BB.out.now.1
  have h0 : (0 : Int) ≤ r := by omega
  have h8 : (r : Int) ≤ 8 := by omega
  unfold arrC
  go_enter Tryz.func35, Tryz.ntmps35
  go_wp2_with (refine ld_arr rfl (.tmp 1) rfl w.heap.size rfl HR.out ?_)
  go_at_call 23
  (with_reducible refine (RK.out _).mono ?_)
  rintro e w2 ⟨rfl, hb2⟩
  have BB := Lib.hid (BB.out.go hb2)
  clear hb2
  go_wp2_with fail
  go_at_call 72
  (with_reducible refine (CL.out _ _ _ ?_).mono ?_)
  · exact KRow.of_box BB.out.now.1 hr
  rintro e w3 ⟨a3, c3, rfl, hk3, hb3⟩
  have HE : Hid (KRow w3 .i64 a3 r c3 f ∧ Below w.heap.size w w3) := ⟨hk3, (BB.out.go hb3).below⟩
  clear hk3 hb3
  go_wp2
  go_ret
  exact ⟨a3, c3, rfl, HE.out⟩
set_option maxHeartbeats 1600000 in
set_option maxRecDepth 100000 in
theorem runes_any (ch : Bool) (more : Int) (d : Nat → Int) (na : Option Addr) (nn nc : Nat) (ta : Option Addr) (tn tc : Nat) (g : Nat → Int) (w : World) (h : KRow w .i32 ta tn tc g) (ht : tn ≤ 1000000) :
    Calls Tryz.prog 59 #[.agg (arrC ch more d na nn nc ta tn tc)] w fun e w' => ∃ a c, e = .returned (.slice a tn c) ∧ KRow w' .i32 a tn c g ∧ Below w.heap.size w w' := by
  have CL := Lib.hid (fun wz h => cloneC_any ta tn tc g wz h ht)
  have BB := Lib.hid (((Bag.start w).krow h).newRow (arrC ch more d na nn nc ta tn tc) 32)
  clear h
  unfold arrC at BB
  unfold arrC
  go_enter Tryz.func59, Tryz.ntmps59
  go_wp2_with fail
  go_at_call 95
  (with_reducible refine (CL.out _ BB.out.now.2.1).mono ?_)
  rintro e w3 ⟨a3, c3, rfl, hk3, hb3⟩
  have HE : Hid (KRow w3 .i32 a3 tn c3 g ∧ Below w.heap.size w w3) := ⟨hk3, (BB.out.go hb3).below⟩
  clear hk3 hb3
  go_wp2
  go_ret
  exact ⟨a3, c3, rfl, HE.out⟩
set_option maxHeartbeats 1600000 in
set_option maxRecDepth 100000 in
theorem len_any (ch : Bool) (more : Int) (d : Nat → Int) (na : Option Addr) (nn nc : Nat) (ta : Option Addr) (tn tc : Nat) (w : World) :
    Calls Tryz.prog 19 #[.agg (arrC ch more d na nn nc ta tn tc)] w fun e w' => e = .returned (.int .i64 (if ch then (tn : Int) else (nn : Int))) ∧ Below w.heap.size w w' := by
  have HB : Hid (Below w.heap.size w (w.alloc (.cells (arrC ch more d na nn nc ta tn tc) 32))) := (Below.refl _ _).alloc (Nat.le_refl _) _
  unfold arrC at HB
  unfold arrC
  cases ch
  · rw [if_neg (by decide)]
    go_enter Tryz.func19, Tryz.ntmps19
    go_wp2
    go_ret
    exact ⟨rfl, HB.out⟩
  · rw [if_pos rfl]
    go_enter Tryz.func19, Tryz.ntmps19
    go_wp2
    go_ret
    exact ⟨rfl, HB.out⟩
/-- A row of numbers as digits. -/
def QRow (w : World) (sa : Option Addr) (n c : Nat) (fB : Nat → Bool) (fS fT : Nat → ByteArray) : Prop := n ≤ c ∧ c ≤ maxLen ∧ (n = 0 ∨ ∃ b off, sa = some ⟨b, off, none⟩ ∧ b < w.heap.size ∧
  ∀ j, j < n → w.cell? ⟨b, off + j * 3, none⟩ = some (.bool (fB j)) ∧ w.cell? ⟨b, off + j * 3 + 1, none⟩ = some (.string (fS j)) ∧ w.cell? ⟨b, off + j * 3 + 2, none⟩ = some (.string (fT j)))
theorem QRow.below {w w' : World} {sa : Option Addr} {n c : Nat} {fB : Nat → Bool} {fS fT : Nat → ByteArray} (h : QRow w sa n c fB fS fT) (hb : Below w.heap.size w w') : QRow w' sa n c fB fS fT := by
  obtain ⟨h0, h1, h2⟩ := h
  refine ⟨h0, h1, h2.imp id ?_⟩
  rintro ⟨b, off, rfl, hl, hc⟩
  refine ⟨b, off, rfl, Nat.lt_of_lt_of_le hl hb.size, fun j hj => ?_⟩
  obtain ⟨e1, e2, e3⟩ := hc j hj
  exact ⟨(hb.cell (p := ⟨b, _, none⟩) hl).trans e1, (hb.cell (p := ⟨b, _, none⟩) hl).trans e2, (hb.cell (p := ⟨b, _, none⟩) hl).trans e3⟩
theorem QRow.get {w : World} {sa : Option Addr} {n c : Nat} {fB : Nat → Bool} {fS fT : Nat → ByteArray} (h : QRow w sa n c fB fS fT) {j : Nat} (hj : j < n) :
    ∃ b off, sa = some ⟨b, off, none⟩ ∧ b < w.heap.size ∧ w.cell? ⟨b, off + j * 3, none⟩ = some (.bool (fB j)) ∧ w.cell? ⟨b, off + j * 3 + 1, none⟩ = some (.string (fS j)) ∧ w.cell? ⟨b, off + j * 3 + 2, none⟩ = some (.string (fT j)) := by
  rcases h.2.2 with h2 | ⟨b, off, rfl, hl, hc⟩
  · omega
  · exact ⟨b, off, rfl, hl, hc j hj⟩
theorem QRow.len {w : World} {sa : Option Addr} {n c : Nat} {fB : Nat → Bool} {fS fT : Nat → ByteArray} (h : QRow w sa n c fB fS fT) : n ≤ c ∧ n ≤ 9223372036854775807 := by
  have h1 := h.1
  have h2 := h.2.1
  unfold maxLen at h2
  exact ⟨h1, by omega⟩
theorem QRow.nought (w : World) (a : Option Addr) (c : Nat) (hc : c ≤ maxLen) (fB : Nat → Bool) (fS fT : Nat → ByteArray) : QRow w a 0 c fB fS fT := ⟨Nat.zero_le _, hc, .inl rfl⟩
theorem Bag.qrow {w0 w : World} {B : World → Prop} {a : Option Addr} {n c : Nat} {fB : Nat → Bool} {fS fT : Nat → ByteArray} (h : Bag w0 B w) (q : QRow w a n c fB fS fT) : Bag w0 (fun y => QRow y a n c fB fS fT ∧ B y) w := h.add (fun _ _ hb q => QRow.below q hb) q
/-- The cells of a plain array. -/
def plC (sa : Option Addr) (sn sc : Nat) (ch : Bool) (ta : Option Addr) (tn tc : Nat) (na : Option Addr) (nn nc : Nat) : Array Value := #[.slice sa sn sc, .bool ch, .slice ta tn tc, .slice na nn nc]
/-- Cells that are a plain array: a shape S of r axes, characters or not, tn characters g, nn numbers. -/
def PlnAt (w : World) (cs : Array Value) (S : Nat → Int) (r : Nat) (ch : Bool) (g : Nat → Int) (tn : Nat) (fB : Nat → Bool) (fS fT : Nat → ByteArray) (nn : Nat) : Prop :=
  ∃ sa sc ta tc na nc, cs = plC sa r sc ch ta tn tc na nn nc ∧ KRow w .i64 sa r sc S ∧ KRow w .i32 ta tn tc g ∧ QRow w na nn nc fB fS fT
theorem PlnAt.below {w w' : World} {cs : Array Value} {S : Nat → Int} {r : Nat} {ch : Bool} {g : Nat → Int} {tn : Nat} {fB : Nat → Bool} {fS fT : Nat → ByteArray} {nn : Nat} (h : PlnAt w cs S r ch g tn fB fS fT nn) (hb : Below w.heap.size w w') : PlnAt w' cs S r ch g tn fB fS fT nn := by
  obtain ⟨sa, sc, ta, tc, na, nc, e, h1, h2, h3⟩ := h
  exact ⟨sa, sc, ta, tc, na, nc, e, h1.below hb, h2.below hb, h3.below hb⟩
end Go.Proofs.YtifnamlgkooacaaGreatDoor

namespace Go.Proofs.YtifnamlgkooacaaGreatDoor
open Go.RowKit
theorem infoN : (Tryz.prog.info? 87).map (fun i => (i.zero, i.size, i.bytes)) = some (some (.agg #[.bool false, .string ⟨#[]⟩, .string ⟨#[]⟩]), 3, 40) := by kernel_rfl
/-- The cells of the first numbers, one behind the other. -/
def qcs (fB : Nat → Bool) (fS fT : Nat → ByteArray) : Nat → List Value
  | 0 => []
  | k + 1 => qcs fB fS fT k ++ [.bool (fB k), .string (fS k), .string (fT k)]
theorem qcs_length (fB : Nat → Bool) (fS fT : Nat → ByteArray) : ∀ k, (qcs fB fS fT k).length = k * 3
  | 0 => rfl
  | k + 1 => by unfold qcs; rw [List.length_append, qcs_length fB fS fT k]; simp; omega
theorem qcs_get (fB : Nat → Bool) (fS fT : Nat → ByteArray) : ∀ k j, j < k → (qcs fB fS fT k)[j * 3]? = some (.bool (fB j)) ∧ (qcs fB fS fT k)[j * 3 + 1]? = some (.string (fS j)) ∧ (qcs fB fS fT k)[j * 3 + 2]? = some (.string (fT j))
  | 0, j, h => absurd h (Nat.not_lt_zero _)
  | k + 1, j, h => by
    have hl := qcs_length fB fS fT k
    unfold qcs
    by_cases e : j = k
    · subst e
      refine ⟨?_, ?_, ?_⟩
      · rw [List.getElem?_append_right (by omega), hl, show j * 3 - j * 3 = 0 by omega]; rfl
      · rw [List.getElem?_append_right (by omega), hl, show j * 3 + 1 - j * 3 = 1 by omega]; rfl
      · rw [List.getElem?_append_right (by omega), hl, show j * 3 + 2 - j * 3 = 2 by omega]; rfl
    · obtain ⟨e1, e2, e3⟩ := qcs_get fB fS fT k j (by omega)
      refine ⟨?_, ?_, ?_⟩
      · rw [List.getElem?_append_left (by omega)]; exact e1
      · rw [List.getElem?_append_left (by omega)]; exact e2
      · rw [List.getElem?_append_left (by omega)]; exact e3
/-- A row of numbers as digits that the call itself makes grow. -/
theorem QRow.of_own {w : World} {base : Nat} {v : Value} {n : Nat} {fB : Nat → Bool} {fS fT : Nat → ByteArray} (h : w.ownsRow base 87 3 v n (qcs fB fS fT n)) : ∃ a c, v = .slice a n c ∧ QRow w a n c fB fS fT := by
  rcases h.2 with ⟨rfl, rfl⟩ | ⟨g, cap, cur, rfl, _, hh, h1, h2, _, hcs⟩
  · exact ⟨none, 0, rfl, QRow.nought _ _ _ (Nat.zero_le _) _ _ _⟩
  · refine ⟨some ⟨g, 0, none⟩, cap, rfl, h1, h2, .inr ⟨g, 0, rfl, Row.lt (t := 87) hh, fun j hj => ?_⟩⟩
    have hc : ∀ i u, (qcs fB fS fT n)[i]? = some u → w.cell? ⟨g, 0 + i, none⟩ = some u := fun i u hu => by
      have := h.cells (g := g) rfl i u hu
      rwa [show (⟨g, 0, none⟩ : Addr).add i = ⟨g, 0 + i, none⟩ by unfold Addr.add; split <;> simp_all] at this
    obtain ⟨e1, e2, e3⟩ := qcs_get fB fS fT n j hj
    exact ⟨hc _ _ e1, by rw [show 0 + j * 3 + 1 = 0 + (j * 3 + 1) by omega]; exact hc _ _ e2, by rw [show 0 + j * 3 + 2 = 0 + (j * 3 + 2) by omega]; exact hc _ _ e3⟩
theorem Row.grown {w w' : World} {g : Nat} {t : TypeId} {cs : Array Value} {row : Option Nat} (h : Row w g t cs) (hg : w.grownBy w' row) (e : some g ≠ row) : Row w' g t cs := (hg.block g h.lt e).trans h
theorem Row.apart {w : World} {g : Nat} {t e : TypeId} {cs : Array Value} {base size n : Nat} {v : Value} {xs : List Value} (h : Row w g t cs) (ho : w.ownsRow base e size v n xs) (hne : e ≠ t) : some g ≠ v.ownBlock := by
  rcases ho.2 with ⟨rfl, _⟩ | ⟨g', cap, cur, rfl, _, hh, _⟩
  · simp [Value.ownBlock]
  · intro he
    have : g = g' := by simpa [Value.ownBlock] using he
    subst this
    unfold Row at h
    rw [h] at hh
    injection hh with hh
    injection hh with _ hh
    exact hne hh.symm
theorem Row.ne {w : World} {g g' : Nat} {t t' : TypeId} {cs cs' : Array Value} (h : Row w g t cs) (h' : Row w g' t' cs') (e : t ≠ t') : g ≠ g' := by
  rintro rfl
  unfold Row at h h'
  rw [h] at h'
  injection h' with h'
  injection h' with _ h'
  exact e h'
end Go.Proofs.YtifnamlgkooacaaGreatDoor

namespace Go.Proofs.YtifnamlgkooacaaGreatDoor
open Go Go.RowKit
def dstI (ops : Array Oper) (i : Nat) : Option Nat := (ops[i]?).bind (·.dst)
def aft (md : Region.Mode) (ops : Array Oper) (i : Nat) : List Nat := ((ops[i]?).map (fun o => (o.after.filter (Region.binds md)).toList.map (·.on))).getD []
def vw (a : Act) (l : List Nat) : List (Option Value) := l.map (fun t => a.tmps[t]?)
/-- No operation of the region lays this temporary. -/
def stays (ops : Array Oper) (t : Nat) : Bool := (List.range ops.size).all fun i => !(dstI ops i == some t)
structure Plan where
  D : Nat → List Nat
  pre : Nat → List Nat
  al : List Nat
def Plan.ok (L : Plan) (md : Region.Mode) (ops : Array Oper) (m : Nat) : Bool :=
  (List.range ops.size).all fun i => (aft md ops i).all (fun e => decide (e < i)) &&
    ((L.pre i).all fun e => (aft md ops i).contains e || (aft md ops i).any fun k => (L.pre k).contains e) &&
    (match dstI ops i with
      | none => true
      | some d => decide (d < m) && (List.range ops.size).all fun j => decide (i = j) || ((!(L.D j).contains d || (L.pre j).contains i) && !(dstI ops j == some d)))
/-- The block that a temporary points to. -/
def Ptr (a : Act) (ops : Array Oper) (i k : Nat) : Prop := ∃ d, dstI ops i = some d ∧ a.tmps[d]? = some (.pointer (some ⟨k, 0, none⟩))
structure Inv (md : Region.Mode) (ops : Array Oper) (L : Plan) (p : Nat → List (Option Value) → World → Prop) (B : World → Prop) (a0 : Act) (listed : Array Bool) (a : Act) (w : World) : Prop where
  lsz : listed.size = ops.size
  asz : a.tmps.size = a0.tmps.size
  dfs : a.defers = a0.defers
  old : ∀ t, stays ops t = true → a.tmps[t]? = a0.tmps[t]?
  bag : B w
  fct : ∀ j, listed.getD j false = true → p j (vw a (L.D j)) w
  clo : ∀ j, listed.getD j false = true → ∀ i ∈ L.pre j, listed.getD i false = true
  alo : ∀ i ∈ L.al, listed.getD i false = true → ∃ k, Ptr a ops i k ∧ k < w.heap.size
  apt : ∀ i ∈ L.al, ∀ j ∈ L.al, i ≠ j → listed.getD i false = true → listed.getD j false = true → ∀ k, Ptr a ops i k → ¬ Ptr a ops j k
/-- What is to be shown behind operation i. -/
structure Laid (ops : Array Oper) (L : Plan) (p : Nat → List (Option Value) → World → Prop) (B : World → Prop) (i : Nat) (o : Oper) (a : Act) (w : World) (v : Value) (w' : World) : Prop where
  bag : B w'
  fct : p i ((L.D i).map (fun t => if o.dst = some t then some v else a.tmps[t]?)) w'
  size : w.heap.size ≤ w'.heap.size
  stay : Below w.heap.size w w' ∨ ∀ j, j ≠ i → (∀ x ∈ L.al, ∀ y ∈ L.al, x ≠ y → x ∈ L.pre i → (y ∈ L.pre j ∨ y = j) → ∀ k, Ptr a ops x k → ¬ Ptr a ops y k) → p j (vw a (L.D j)) w → p j (vw a (L.D j)) w'
  ptr : i ∈ L.al → ∃ k, v = .pointer (some ⟨k, 0, none⟩) ∧ w.heap.size ≤ k ∧ k < w'.heap.size
def Stp (P : Program) (ops : Array Oper) (Q : Exit → Act → World → Prop) (L : Plan) (p : Nat → List (Option Value) → World → Prop) (B : World → Prop) (a0 : Act) (i : Nat) (o : Oper) : Prop :=
  ∀ a w, a.tmps.size = a0.tmps.size → (∀ t, stays ops t = true → a.tmps[t]? = a0.tmps[t]?) → B w → (∀ j ∈ L.pre i, p j (vw a (L.D j)) w) →
    ∀ K : Act → World → Prop, Shut (∀ v w', Laid ops L p B i o a w v w' → K (a.put o.dst v) w') → if Region.wanted o (yielded ops a.tmps) = true then Oper.wp P o a w K Q else K (a.put o.dst undef) w
inductive Stps (P : Program) (ops : Array Oper) (Q : Exit → Act → World → Prop) (L : Plan) (p : Nat → List (Option Value) → World → Prop) (B : World → Prop) (a0 : Act) : Nat → List Oper → Prop
  | nil (i : Nat) : Stps P ops Q L p B a0 i []
  | cons {i : Nat} {o : Oper} {l : List Oper} : Stp P ops Q L p B a0 i o → Stps P ops Q L p B a0 (i + 1) l → Stps P ops Q L p B a0 i (o :: l)
section
variable {P : Program} {md : Region.Mode} {ops : Array Oper} {Q : Exit → Act → World → Prop} {L : Plan} {p : Nat → List (Option Value) → World → Prop} {B : World → Prop} {a0 : Act}
theorem Stps.get : ∀ {l : List Oper} {i : Nat}, Stps P ops Q L p B a0 i l → ∀ k o, l[k]? = some o → Stp P ops Q L p B a0 (i + k) o := by
  intro l
  induction l with
  | nil => intro i _ k o h; simp at h
  | cons x l ih =>
    intro i h k o hk
    cases h with
    | cons h1 h2 =>
      cases k with
      | zero => simp at hk; subst hk; exact h1
      | succ k => have := ih h2 k o (by simpa using hk); rwa [Nat.add_assoc, Nat.add_comm 1 k] at this
theorem cnt_set (f g : Nat → Bool) (i : Nat) (hf : f i = true) (hg : g i = false) (he : ∀ j, j ≠ i → g j = f j) : ∀ n, (List.range n).countP f = (List.range n).countP g + if i < n then 1 else 0 := by
  intro n
  induction n with
  | zero => simp
  | succ n ih =>
    rw [List.range_succ, List.countP_append, List.countP_append, ih]
    by_cases h : n = i
    · subst h; simp [hf, hg]
    · have : g n = f n := he n h
      simp only [List.countP_cons, List.countP_nil, this]
      have h2 : (i < n) = (i < n + 1) := by apply propext; omega
      simp only [h2]; omega
theorem Plan.ok_spec (h : L.ok md ops a0.tmps.size = true) {i : Nat} (hi : i < ops.size) :
    (∀ e ∈ aft md ops i, e < i) ∧ (∀ e ∈ L.pre i, e ∈ aft md ops i ∨ ∃ k ∈ aft md ops i, e ∈ L.pre k) ∧
    ∀ d, dstI ops i = some d → d < a0.tmps.size ∧ ∀ j, j < ops.size → i ≠ j → (d ∈ L.D j → i ∈ L.pre j) ∧ dstI ops j ≠ some d := by
  unfold Plan.ok at h
  rw [List.all_eq_true] at h
  have h := h i (List.mem_range.2 hi)
  simp only [Bool.and_eq_true, List.all_eq_true, decide_eq_true_eq, Bool.or_eq_true, List.contains_iff_mem, List.any_eq_true] at h
  refine ⟨h.1.1, h.1.2, ?_⟩
  intro d hd
  have h2 := h.2
  rw [hd] at h2
  simp only [Bool.and_eq_true, List.all_eq_true, decide_eq_true_eq, Bool.or_eq_true, List.contains_iff_mem, Bool.not_eq_true', List.mem_range] at h2
  refine ⟨h2.1, fun j hj hij => ?_⟩
  rcases h2.2 j hj with h3 | h3
  · exact absurd h3 hij
  · refine ⟨fun hm => ?_, by simpa using h3.2⟩
    rcases h3.1 with h4 | h4
    · rw [Bool.eq_false_iff] at h4; exact absurd (List.contains_iff_mem.2 hm) h4
    · exact h4
theorem lgd {listed : Array Bool} {i j : Nat} (hi : i < listed.size) : (listed.setIfInBounds i true).getD j false = (decide (i = j) || listed.getD j false) := by
  by_cases h : i = j
  · subst h; simp [hi]
  · simp [h]
theorem lgt {listed : Array Bool} {j : Nat} (h : listed.getD j true = false) : j < listed.size ∧ listed.getD j false = false := by
  by_cases hj : j < listed.size
  · simp [hj] at h ⊢; exact h
  · simp [Nat.le_of_not_lt hj] at h
theorem aft_mem {i : Nat} {o : Oper} (ho : ops[i]? = some o) {e : Nat} : e ∈ aft md ops i ↔ ∃ x ∈ o.after, Region.binds md x = true ∧ x.on = e := by
  unfold aft
  rw [ho]
  simp only [Option.map_some, Option.getD_some, List.mem_map, Array.mem_toList_iff, Array.mem_filter]
  constructor
  · rintro ⟨x, ⟨h1, h2⟩, h3⟩; exact ⟨x, h1, h2, h3⟩
  · rintro ⟨x, h1, h2, h3⟩; exact ⟨x, ⟨h1, h2⟩, h3⟩
theorem Inv.step (ok : L.ok md ops a0.tmps.size = true) (hal : L.al.all (fun i => (dstI ops i).isSome) = true) (stay : ∀ j v w w', Below w.heap.size w w' → p j v w → p j v w') {listed : Array Bool} {a : Act} {w : World} (I : Inv md ops L p B a0 listed a w) {i : Nat} {o : Oper} (ho : ops[i]? = some o)
    (hu : listed.getD i true = false) (hr : ∀ e ∈ o.after, Region.binds md e = true → listed.getD e.on false = true) {v : Value} {w' : World} (G : Laid ops L p B i o a w v w') :
    Inv md ops L p B a0 (listed.setIfInBounds i true) (a.put o.dst v) w' := by
  have hi : i < ops.size := (Array.getElem?_eq_some_iff.1 ho).1
  have hil : i < listed.size := by rw [I.lsz]; exact hi
  have hun := (lgt hu).2
  obtain ⟨c1, c2, c3⟩ := Plan.ok_spec ok hi
  have hd : dstI ops i = o.dst := by unfold dstI; rw [ho]; rfl
  have hpre : ∀ e ∈ L.pre i, listed.getD e false = true := by
    intro e he
    rcases c2 e he with h | ⟨k, hk, hek⟩
    · obtain ⟨x, h1, h2, rfl⟩ := (aft_mem ho).1 h; exact hr x h1 h2
    · obtain ⟨x, h1, h2, rfl⟩ := (aft_mem ho).1 hk; exact I.clo _ (hr x h1 h2) e hek
  have hput : ∀ t, (a.put o.dst v).tmps[t]? = if o.dst = some t then some v else a.tmps[t]? := by
    intro t
    cases hx : o.dst with
    | none => simp [Act.put]
    | some d =>
      have h4 := (c3 d (hd.trans hx)).1
      have h5 : d < a.tmps.size := by rw [I.asz]; exact h4
      simp only [Act.put, Array.getElem?_setIfInBounds, Option.some.injEq, if_pos h5]
  have hlj : ∀ j, listed.getD j false = true → j < ops.size ∧ j ≠ i := by
    intro j hj
    refine ⟨?_, fun e => by rw [e, hun] at hj; cases hj⟩
    rw [← I.lsz]
    by_cases h : j < listed.size
    · exact h
    · simp [Nat.le_of_not_lt h] at hj
  have hvw : ∀ j, listed.getD j false = true → vw (a.put o.dst v) (L.D j) = vw a (L.D j) := by
    intro j hj
    unfold vw
    refine List.map_congr_left (fun t ht => ?_)
    rw [hput]
    refine if_neg (fun e => ?_)
    have h6 := ((c3 t (hd.trans e)).2 j (hlj j hj).1 (hlj j hj).2.symm).1 ht
    have h7 := I.clo j hj i h6
    rw [hun] at h7; cases h7
  have hptr : ∀ j, listed.getD j false = true → ∀ k, Ptr (a.put o.dst v) ops j k ↔ Ptr a ops j k := by
    intro j hj k
    unfold Ptr
    constructor
    · rintro ⟨d, h1, h2⟩
      refine ⟨d, h1, ?_⟩
      rw [hput, if_neg (fun e => ((c3 d (hd.trans e)).2 j (hlj j hj).1 (hlj j hj).2.symm).2 h1)] at h2
      exact h2
    · rintro ⟨d, h1, h2⟩
      refine ⟨d, h1, ?_⟩
      rw [hput, if_neg (fun e => ((c3 d (hd.trans e)).2 j (hlj j hj).1 (hlj j hj).2.symm).2 h1)]
      exact h2
  have hnew : i ∈ L.al → ∀ k, Ptr (a.put o.dst v) ops i k → w.heap.size ≤ k ∧ k < w'.heap.size := by
    intro hal k ⟨d, h1, h2⟩
    obtain ⟨k', hv, h3, h4⟩ := G.ptr hal
    rw [hput, if_pos (hd.symm.trans h1), hv] at h2
    cases h2
    exact ⟨h3, h4⟩
  have hcase : ∀ j, (listed.setIfInBounds i true).getD j false = true → j = i ∨ listed.getD j false = true := by
    intro j hj
    rw [lgd hil, Bool.or_eq_true, decide_eq_true_eq] at hj
    exact hj.imp Eq.symm id
  refine ⟨by simp [I.lsz], ?_, ?_, ?_, G.bag, ?_, ?_, ?_, ?_⟩
  · cases o.dst <;> simp [Act.put, I.asz]
  · cases o.dst <;> simp [Act.put, I.dfs]
  · intro t ht
    rw [hput, if_neg, I.old t ht]
    intro e
    unfold stays at ht
    rw [List.all_eq_true] at ht
    have := ht i (List.mem_range.2 hi)
    rw [hd, e] at this
    simp at this
  · intro j hj
    rcases hcase j hj with rfl | hj
    · have := G.fct
      unfold vw
      rw [show (L.D j).map (fun t => (a.put o.dst v).tmps[t]?) = (L.D j).map (fun t => if o.dst = some t then some v else a.tmps[t]?) from List.map_congr_left (fun t _ => hput t)]
      exact this
    · rw [hvw j hj]
      rcases G.stay with hb | hs
      · exact stay j _ _ _ hb (I.fct j hj)
      · refine hs j (hlj j hj).2 ?_ (I.fct j hj)
        intro x hx y hy hxy hxi hyj
        exact I.apt x hx y hy hxy (hpre x hxi) (hyj.elim (I.clo j hj y) (fun e => e ▸ hj))
  · intro j hj e he
    rw [lgd hil, Bool.or_eq_true]
    rcases hcase j hj with rfl | hj
    · exact .inr (hpre e he)
    · exact .inr (I.clo j hj e he)
  · intro j hjal hj
    rcases hcase j hj with rfl | hj
    · obtain ⟨k, hv, h3, h4⟩ := G.ptr hjal
      cases hx : o.dst with
      | none =>
        have := List.all_eq_true.1 hal j hjal
        rw [hd, hx] at this; cases this
      | some d => exact ⟨k, ⟨d, hd.trans hx, by rw [← hx, hput, if_pos hx, hv]⟩, h4⟩
    · obtain ⟨k, h1, h2⟩ := I.alo j hjal hj
      exact ⟨k, (hptr j hj k).2 h1, Nat.lt_of_lt_of_le h2 G.size⟩
  · intro x hx y hy hxy hlx0 hly0 k
    rcases hcase x hlx0 with rfl | hlx
    · rcases hcase y hly0 with e | hly
      · exact absurd e.symm hxy
      · intro h1 h2
        obtain ⟨k', h3, h4⟩ := I.alo y hy hly
        obtain ⟨d, e1, e2⟩ := (hptr y hly k).1 h2
        obtain ⟨d', e3, e4⟩ := h3
        rw [e1] at e3; cases e3
        rw [e2] at e4; cases e4
        have := (hnew hx k h1).1
        omega
    · rcases hcase y hly0 with rfl | hly
      · intro h1 h2
        obtain ⟨k', h3, h4⟩ := I.alo x hx hlx
        obtain ⟨d, e1, e2⟩ := (hptr x hlx k).1 h1
        obtain ⟨d', e3, e4⟩ := h3
        rw [e1] at e3; cases e3
        rw [e2] at e4; cases e4
        have := (hnew hy k h2).1
        omega
      · intro h1 h2
        exact I.apt x hx y hy hxy hlx hly k ((hptr x hlx k).1 h1) ((hptr y hly k).1 h2)
theorem ready_all (ok : L.ok md ops a0.tmps.size = true) {listed : Array Bool} (hs : listed.size = ops.size) (h : Region.ready md ops listed = []) : ∀ j, j < ops.size → listed.getD j false = true := by
  intro j
  induction j using Nat.strongRecOn with
  | ind j ih =>
    intro hj
    cases hx : listed.getD j false with
    | true => rfl
    | false =>
      exfalso
      have hm : j ∈ Region.ready md ops listed := by
        rw [mem_ready]
        refine ⟨?_, ops[j], Array.getElem?_eq_getElem hj, fun e he hb => ?_⟩
        · have : j < listed.size := by rw [hs]; exact hj
          simp [this] at hx ⊢; exact hx
        · have h1 := (Plan.ok_spec ok hj).1 e.on ((aft_mem (Array.getElem?_eq_getElem hj)).2 ⟨e, he, hb, rfl⟩)
          exact ih e.on h1 (Nat.lt_trans h1 hj)
      rw [h] at hm; cases hm
theorem lg0 (n j : Nat) : (Array.replicate n false).getD j false = false := by
  rw [Array.getD_eq_getD_getElem?, Array.getElem?_replicate]; split <;> rfl
end
end Go.Proofs.YtifnamlgkooacaaGreatDoor
namespace Go.Proofs.YtifnamlgkooacaaGreatDoor
open Go Go.RowKit
theorem Slot3.set3 {w : World} {k : Nat} {x y z : Value} (h : Slot3 w k x y z) (u v t : Value) : Slot3 (((w.setCell ⟨k, 0, none⟩ u).setCell ⟨k, 1, none⟩ v).setCell ⟨k, 2, none⟩ t) k u v t := (h.set2 u v).set1 t
theorem wanted_pos {ops : Array Oper} {a : Act} {o : Oper} {g : Nat} {b : Bool} {d : Nat} (hg : o.guard = some (g, b)) (hd : dstI ops g = some d) (ht : a.tmps[d]? = some (.bool b)) : Region.wanted o (yielded ops a.tmps) = true := by
  unfold Region.wanted
  rw [hg]
  show (yielded ops a.tmps g == some b) = true
  unfold yielded
  rw [show (ops[g]?).bind (·.dst) = some d from hd]
  show ((match a.tmps[d]? with | some (.bool b) => some b | _ => none) == some b) = true
  rw [ht]
  cases b <;> rfl
theorem act_eq {ac : Act} {n : Nat} (hs : ac.tmps.size = n) (f : Nat → Value) (hf : ∀ i, (ac.tmps[i]?).getD undef = f i) : ac = ⟨((List.range n).map f).toArray, ac.defers⟩ := by
  obtain ⟨t, d⟩ := ac
  congr 1
  apply Array.ext
  · simpa using hs
  · intro i h1 h2
    have := hf i
    simp only [Array.getElem?_eq_getElem h1, Option.getD_some] at this
    rw [this]; simp
end Go.Proofs.YtifnamlgkooacaaGreatDoor
namespace Go.Proofs.YtifnamlgkooacaaGreatDoor
open Go Go.RowKit
def blk : Value → Option Nat
  | .pointer (some a) => some a.block
  | .slice (some a) _ _ => some a.block
  | _ => none
/-- The block that a temporary points to. -/
def Ptr2 (a : Act) (ops : Array Oper) (i k : Nat) : Prop := ∃ d v, dstI ops i = some d ∧ a.tmps[d]? = some v ∧ blk v = some k
structure Inv2 (md : Region.Mode) (ops : Array Oper) (L : Plan) (p : Nat → List (Option Value) → World → Prop) (B : World → Prop) (a0 : Act) (listed : Array Bool) (a : Act) (w : World) : Prop where
  lsz : listed.size = ops.size
  asz : a.tmps.size = a0.tmps.size
  dfs : a.defers = a0.defers
  old : ∀ t, stays ops t = true → a.tmps[t]? = a0.tmps[t]?
  bag : B w
  fct : ∀ j, listed.getD j false = true → p j (vw a (L.D j)) w
  clo : ∀ j, listed.getD j false = true → ∀ i ∈ L.pre j, listed.getD i false = true
  alo : ∀ i ∈ L.al, listed.getD i false = true → ∃ k, Ptr2 a ops i k ∧ k < w.heap.size
  apt : ∀ i ∈ L.al, ∀ j ∈ L.al, i ≠ j → listed.getD i false = true → listed.getD j false = true → ∀ k, Ptr2 a ops i k → ¬ Ptr2 a ops j k
/-- What is to be shown behind operation i. -/
structure Laid2 (ops : Array Oper) (L : Plan) (p : Nat → List (Option Value) → World → Prop) (B : World → Prop) (i : Nat) (o : Oper) (a : Act) (w : World) (v : Value) (w' : World) : Prop where
  bag : B w'
  fct : p i ((L.D i).map (fun t => if o.dst = some t then some v else a.tmps[t]?)) w'
  size : w.heap.size ≤ w'.heap.size
  stay : Below w.heap.size w w' ∨ ∀ j, j ≠ i → (∀ x ∈ L.al, ∀ y ∈ L.al, x ≠ y → x ∈ L.pre i → (y ∈ L.pre j ∨ y = j) → ∀ k, Ptr2 a ops x k → ¬ Ptr2 a ops y k) → p j (vw a (L.D j)) w → p j (vw a (L.D j)) w'
  ptr : i ∈ L.al → ∃ k, blk v = some k ∧ w.heap.size ≤ k ∧ k < w'.heap.size
def Stp2 (P : Program) (ops : Array Oper) (Q : Exit → Act → World → Prop) (L : Plan) (p : Nat → List (Option Value) → World → Prop) (B : World → Prop) (a0 : Act) (i : Nat) (o : Oper) : Prop :=
  ∀ a w, a.tmps.size = a0.tmps.size → (∀ t, stays ops t = true → a.tmps[t]? = a0.tmps[t]?) → B w → (∀ j ∈ L.pre i, p j (vw a (L.D j)) w) →
    ∀ K : Act → World → Prop, Shut (∀ v w', Laid2 ops L p B i o a w v w' → K (a.put o.dst v) w') → if Region.wanted o (yielded ops a.tmps) = true then Oper.wp P o a w K Q else K (a.put o.dst undef) w
inductive Stps2 (P : Program) (ops : Array Oper) (Q : Exit → Act → World → Prop) (L : Plan) (p : Nat → List (Option Value) → World → Prop) (B : World → Prop) (a0 : Act) : Nat → List Oper → Prop
  | nil (i : Nat) : Stps2 P ops Q L p B a0 i []
  | cons {i : Nat} {o : Oper} {l : List Oper} : Stp2 P ops Q L p B a0 i o → Stps2 P ops Q L p B a0 (i + 1) l → Stps2 P ops Q L p B a0 i (o :: l)
section
variable {P : Program} {md : Region.Mode} {ops : Array Oper} {Q : Exit → Act → World → Prop} {L : Plan} {p : Nat → List (Option Value) → World → Prop} {B : World → Prop} {a0 : Act}
theorem Stps2.get : ∀ {l : List Oper} {i : Nat}, Stps2 P ops Q L p B a0 i l → ∀ k o, l[k]? = some o → Stp2 P ops Q L p B a0 (i + k) o := by
  intro l
  induction l with
  | nil => intro i _ k o h; simp at h
  | cons x l ih =>
    intro i h k o hk
    cases h with
    | cons h1 h2 =>
      cases k with
      | zero => simp at hk; subst hk; exact h1
      | succ k => have := ih h2 k o (by simpa using hk); rwa [Nat.add_assoc, Nat.add_comm 1 k] at this
theorem Inv2.step (ok : L.ok md ops a0.tmps.size = true) (hal : L.al.all (fun i => (dstI ops i).isSome) = true) (stay : ∀ j v w w', Below w.heap.size w w' → p j v w → p j v w') {listed : Array Bool} {a : Act} {w : World} (I : Inv2 md ops L p B a0 listed a w) {i : Nat} {o : Oper} (ho : ops[i]? = some o)
    (hu : listed.getD i true = false) (hr : ∀ e ∈ o.after, Region.binds md e = true → listed.getD e.on false = true) {v : Value} {w' : World} (G : Laid2 ops L p B i o a w v w') :
    Inv2 md ops L p B a0 (listed.setIfInBounds i true) (a.put o.dst v) w' := by
  have hi : i < ops.size := (Array.getElem?_eq_some_iff.1 ho).1
  have hil : i < listed.size := by rw [I.lsz]; exact hi
  have hun := (lgt hu).2
  obtain ⟨c1, c2, c3⟩ := Plan.ok_spec ok hi
  have hd : dstI ops i = o.dst := by unfold dstI; rw [ho]; rfl
  have hpre : ∀ e ∈ L.pre i, listed.getD e false = true := by
    intro e he
    rcases c2 e he with h | ⟨k, hk, hek⟩
    · obtain ⟨x, h1, h2, rfl⟩ := (aft_mem ho).1 h; exact hr x h1 h2
    · obtain ⟨x, h1, h2, rfl⟩ := (aft_mem ho).1 hk; exact I.clo _ (hr x h1 h2) e hek
  have hput : ∀ t, (a.put o.dst v).tmps[t]? = if o.dst = some t then some v else a.tmps[t]? := by
    intro t
    cases hx : o.dst with
    | none => simp [Act.put]
    | some d =>
      have h4 := (c3 d (hd.trans hx)).1
      have h5 : d < a.tmps.size := by rw [I.asz]; exact h4
      simp only [Act.put, Array.getElem?_setIfInBounds, Option.some.injEq, if_pos h5]
  have hlj : ∀ j, listed.getD j false = true → j < ops.size ∧ j ≠ i := by
    intro j hj
    refine ⟨?_, fun e => by rw [e, hun] at hj; cases hj⟩
    rw [← I.lsz]
    by_cases h : j < listed.size
    · exact h
    · simp [Nat.le_of_not_lt h] at hj
  have hvw : ∀ j, listed.getD j false = true → vw (a.put o.dst v) (L.D j) = vw a (L.D j) := by
    intro j hj
    unfold vw
    refine List.map_congr_left (fun t ht => ?_)
    rw [hput]
    refine if_neg (fun e => ?_)
    have h6 := ((c3 t (hd.trans e)).2 j (hlj j hj).1 (hlj j hj).2.symm).1 ht
    have h7 := I.clo j hj i h6
    rw [hun] at h7; cases h7
  have hptr : ∀ j, listed.getD j false = true → ∀ k, Ptr2 (a.put o.dst v) ops j k ↔ Ptr2 a ops j k := by
    intro j hj k
    unfold Ptr2
    constructor
    · rintro ⟨d, u, h1, h2, h3⟩
      refine ⟨d, u, h1, ?_, h3⟩
      rw [hput, if_neg (fun e => ((c3 d (hd.trans e)).2 j (hlj j hj).1 (hlj j hj).2.symm).2 h1)] at h2
      exact h2
    · rintro ⟨d, u, h1, h2, h3⟩
      refine ⟨d, u, h1, ?_, h3⟩
      rw [hput, if_neg (fun e => ((c3 d (hd.trans e)).2 j (hlj j hj).1 (hlj j hj).2.symm).2 h1)]
      exact h2
  have hnew : i ∈ L.al → ∀ k, Ptr2 (a.put o.dst v) ops i k → w.heap.size ≤ k ∧ k < w'.heap.size := by
    intro hal k ⟨d, u, h1, h2, h5⟩
    obtain ⟨k', hv, h3, h4⟩ := G.ptr hal
    rw [hput, if_pos (hd.symm.trans h1)] at h2
    cases h2
    rw [hv] at h5
    cases h5
    exact ⟨h3, h4⟩
  have hcase : ∀ j, (listed.setIfInBounds i true).getD j false = true → j = i ∨ listed.getD j false = true := by
    intro j hj
    rw [lgd hil, Bool.or_eq_true, decide_eq_true_eq] at hj
    exact hj.imp Eq.symm id
  refine ⟨by simp [I.lsz], ?_, ?_, ?_, G.bag, ?_, ?_, ?_, ?_⟩
  · cases o.dst <;> simp [Act.put, I.asz]
  · cases o.dst <;> simp [Act.put, I.dfs]
  · intro t ht
    rw [hput, if_neg, I.old t ht]
    intro e
    unfold stays at ht
    rw [List.all_eq_true] at ht
    have := ht i (List.mem_range.2 hi)
    rw [hd, e] at this
    simp at this
  · intro j hj
    rcases hcase j hj with rfl | hj
    · have := G.fct
      unfold vw
      rw [show (L.D j).map (fun t => (a.put o.dst v).tmps[t]?) = (L.D j).map (fun t => if o.dst = some t then some v else a.tmps[t]?) from List.map_congr_left (fun t _ => hput t)]
      exact this
    · rw [hvw j hj]
      rcases G.stay with hb | hs
      · exact stay j _ _ _ hb (I.fct j hj)
      · refine hs j (hlj j hj).2 ?_ (I.fct j hj)
        intro x hx y hy hxy hxi hyj
        exact I.apt x hx y hy hxy (hpre x hxi) (hyj.elim (I.clo j hj y) (fun e => e ▸ hj))
  · intro j hj e he
    rw [lgd hil, Bool.or_eq_true]
    rcases hcase j hj with rfl | hj
    · exact .inr (hpre e he)
    · exact .inr (I.clo j hj e he)
  · intro j hjal hj
    rcases hcase j hj with rfl | hj
    · obtain ⟨k, hv, h3, h4⟩ := G.ptr hjal
      cases hx : o.dst with
      | none =>
        have := List.all_eq_true.1 hal j hjal
        rw [hd, hx] at this; cases this
      | some d => exact ⟨k, ⟨d, v, hd.trans hx, by rw [← hx, hput, if_pos hx], hv⟩, h4⟩
    · obtain ⟨k, h1, h2⟩ := I.alo j hjal hj
      exact ⟨k, (hptr j hj k).2 h1, Nat.lt_of_lt_of_le h2 G.size⟩
  · intro x hx y hy hxy hlx0 hly0 k
    rcases hcase x hlx0 with rfl | hlx
    · rcases hcase y hly0 with e | hly
      · exact absurd e.symm hxy
      · intro h1 h2
        obtain ⟨k', h3, h4⟩ := I.alo y hy hly
        obtain ⟨d, x1, e1, e2, e5⟩ := (hptr y hly k).1 h2
        obtain ⟨d', x2, e3, e4, e6⟩ := h3
        rw [e1] at e3; cases e3
        rw [e2] at e4; cases e4
        rw [e5] at e6; cases e6
        have := (hnew hx k h1).1
        omega
    · rcases hcase y hly0 with rfl | hly
      · intro h1 h2
        obtain ⟨k', h3, h4⟩ := I.alo x hx hlx
        obtain ⟨d, x1, e1, e2, e5⟩ := (hptr x hlx k).1 h1
        obtain ⟨d', x2, e3, e4, e6⟩ := h3
        rw [e1] at e3; cases e3
        rw [e2] at e4; cases e4
        rw [e5] at e6; cases e6
        have := (hnew hy k h2).1
        omega
      · intro h1 h2
        exact I.apt x hx y hy hxy hlx hly k ((hptr x hlx k).1 h1) ((hptr y hly k).1 h2)
theorem wpAny_inv2 (ok : L.ok md ops a0.tmps.size = true) (hal : L.al.all (fun i => (dstI ops i).isSome) = true) (stay : ∀ j v w w', Below w.heap.size w w' → p j v w → p j v w') (steps : Stps2 P ops Q L p B a0 0 ops.toList)
    (done : ∀ a w, a.tmps.size = a0.tmps.size → a.defers = a0.defers → (∀ t, stays ops t = true → a.tmps[t]? = a0.tmps[t]?) → B w → (∀ j, j < ops.size → p j (vw a (L.D j)) w) → Q .normal a w) :
    ∀ (fuel : Nat) (listed : Array Bool) (a : Act) (w : World), Inv2 md ops L p B a0 listed a w → (List.range ops.size).countP (fun i => !listed.getD i true) ≤ fuel → wpAny P md ops Q fuel listed a w := by
  intro fuel
  induction fuel with
  | zero =>
    intro listed a w I hc
    have hall : ∀ j, j < ops.size → listed.getD j true = true := by
      intro j hj
      have := List.countP_eq_zero.1 (Nat.le_zero.1 hc) j (List.mem_range.2 hj)
      simpa using this
    have hr : Region.ready md ops listed = [] := by
      rw [List.eq_nil_iff_forall_not_mem]
      intro j hj
      obtain ⟨h1, o, h2, _⟩ := mem_ready.1 hj
      rw [hall j (Array.getElem?_eq_some_iff.1 h2).1] at h1; cases h1
    exact ⟨hr, done a w I.asz I.dfs I.old I.bag (fun j hj => I.fct j (ready_all ok I.lsz hr j hj))⟩
  | succ fuel ih =>
    intro listed a w I hc
    refine ⟨fun hr => done a w I.asz I.dfs I.old I.bag (fun j hj => I.fct j (ready_all ok I.lsz hr j hj)), fun i hi => ?_⟩
    obtain ⟨hu, o, ho, hr⟩ := mem_ready.1 hi
    have hio : i < ops.size := (Array.getElem?_eq_some_iff.1 ho).1
    have hst := steps.get i o (by rw [Array.getElem?_toList]; exact ho)
    rw [Nat.zero_add] at hst
    have hpre : ∀ e ∈ L.pre i, listed.getD e false = true := by
      intro e he
      rcases (Plan.ok_spec ok hio).2.1 e he with h | ⟨k, hk, hek⟩
      · obtain ⟨x, h1, h2, rfl⟩ := (aft_mem ho).1 h; exact hr x h1 h2
      · obtain ⟨x, h1, h2, rfl⟩ := (aft_mem ho).1 hk; exact I.clo _ (hr x h1 h2) e hek
    refine wpOp_step ho (fun K hK => hst a w I.asz I.old I.bag (fun j hj => I.fct j (hpre j hj)) K (fun v w' G => hK _ _ (ih _ _ _ (I.step ok hal stay ho hu hr G) ?_)))
    have hil : i < listed.size := by rw [I.lsz]; exact hio
    have hun : listed[i] = false := by simpa [hil] using hu
    have := cnt_set (fun j => !listed.getD j true) (fun j => !(listed.setIfInBounds i true).getD j true) i (by simp [hil, hun]) (by simp [hil]) (fun j hj => by simp [Ne.symm hj]) ops.size
    rw [if_pos hio] at this
    omega
/-- THE BEGINNING. -/
theorem wp_region_inv2 {id : Nat} {l : List Oper} {w : World} (L : Plan) (p : Nat → List (Option Value) → World → Prop) (B : World → Prop) (hm : P.follows .mixedOrders = true) (ok : L.ok .any l.toArray a0.tmps.size = true) (hal : L.al.all (fun i => (dstI l.toArray i).isSome) = true)
    (hB : B w.drew) (stay : ∀ j v w w', Below w.heap.size w w' → p j v w → p j v w')
    (done : ∀ a w, a.tmps.size = a0.tmps.size → a.defers = a0.defers → (∀ t, stays l.toArray t = true → a.tmps[t]? = a0.tmps[t]?) → B w → (∀ j, j < l.length → p j (vw a (L.D j)) w) → Q .normal a w)
    (steps : Stps2 P l.toArray Q L p B a0 0 l) :
    (Code.region id l.toArray true).wp P Q a0 w := by
  refine wp_region_any hm (wpAny_inv2 ok hal stay steps (fun a w h1 h2 h3 h4 h5 => done a w h1 h2 h3 h4 (fun j hj => h5 j (by simpa using hj))) _ _ _ _ ⟨by simp, rfl, rfl, fun _ _ => rfl, hB, ?_, ?_, ?_, ?_⟩ ?_)
  · intro j hj; rw [lg0] at hj; cases hj
  · intro j hj; rw [lg0] at hj; cases hj
  · intro j _ hj; rw [lg0] at hj; cases hj
  · intro j _ i _ _ hj; rw [lg0] at hj; cases hj
  · exact Nat.le_trans List.countP_le_length (by simp)
end
end Go.Proofs.YtifnamlgkooacaaGreatDoor
namespace Go.Proofs.YtifnamlgkooacaaGreatDoor
open Go Go.RowKit
/-- Operations one after another. -/
def TailWp (P : Program) (ops : Array Oper) (Q : Exit → Act → World → Prop) : List Oper → Act → World → Prop
  | [], a, w => Q .normal a w
  | o :: l, a, w => ∀ K : Act → World → Prop, Shut (∀ a w, TailWp P ops Q l a w → K a w) → if Region.wanted o (yielded ops a.tmps) = true then Oper.wp P o a w K Q else K (a.put o.dst undef) w
def Plan.tail (L : Plan) (md : Region.Mode) (ops : Array Oper) (n0 : Nat) : Bool :=
  decide (n0 < ops.size) && ((List.range n0).all fun e => (L.pre n0).contains e) && ((List.range ops.size).all fun j => decide (j ≤ n0) || (aft md ops j).contains (j - 1))
section
variable {P : Program} {md : Region.Mode} {ops : Array Oper} {Q : Exit → Act → World → Prop} {L : Plan} {p : Nat → List (Option Value) → World → Prop} {B : World → Prop} {a0 : Act}
theorem Plan.tail_spec {n0 : Nat} (h : L.tail md ops n0 = true) : n0 < ops.size ∧ (∀ e, e < n0 → e ∈ L.pre n0) ∧ ∀ j, j < ops.size → n0 < j → j - 1 ∈ aft md ops j := by
  unfold Plan.tail at h
  simp only [Bool.and_eq_true, decide_eq_true_eq, List.all_eq_true, List.mem_range, Bool.or_eq_true, List.contains_iff_mem] at h
  refine ⟨h.1.1, h.1.2, fun j hj hn => ?_⟩
  rcases h.2 j hj with h1 | h1
  · omega
  · exact h1
theorem lgf {listed : Array Bool} {j : Nat} (hj : j < listed.size) (h : listed.getD j false = false) : listed.getD j true = false := by
  simp [hj] at h ⊢; exact h
theorem wpAny_seq (ok : L.ok md ops a0.tmps.size = true) {n0 : Nat} (tok : L.tail md ops n0 = true) : ∀ (l : List Oper) (i fuel : Nat) (listed : Array Bool) (a : Act) (w : World), n0 < i → ops.toList.drop i = l → listed.size = ops.size →
    (∀ j, j < ops.size → listed.getD j false = decide (j < i)) → l.length ≤ fuel → TailWp P ops Q l a w → wpAny P md ops Q fuel listed a w := by
  intro l
  induction l with
  | nil =>
    intro i fuel listed a w hn hd hs hl hf h
    have hi : ops.size ≤ i := by have := congrArg List.length hd; simp at this; omega
    have hr : Region.ready md ops listed = [] := by
      rw [List.eq_nil_iff_forall_not_mem]
      intro j hj
      obtain ⟨h1, o, h2, _⟩ := mem_ready.1 hj
      have hjo := (Array.getElem?_eq_some_iff.1 h2).1
      have h3 := hl j hjo
      have := (lgt h1).2
      rw [h3, decide_eq_false_iff_not] at this
      omega
    cases fuel with
    | zero => exact ⟨hr, h⟩
    | succ f => exact ⟨fun _ => h, fun j hj => by rw [hr] at hj; cases hj⟩
  | cons o l ih =>
    intro i fuel listed a w hn hd hs hl hf h
    have hi : i < ops.size := by
      rcases Nat.lt_or_ge i ops.size with h1 | h1
      · exact h1
      · rw [List.drop_eq_nil_of_le (by simpa using h1)] at hd; cases hd
    have ho : ops[i]? = some o := by
      have := congrArg List.head? hd
      rw [List.head?_drop] at this
      rw [← Array.getElem?_toList]; exact this
    cases fuel with
    | zero => simp at hf
    | succ f =>
      have hii : listed.getD i false = false := by rw [hl i hi, decide_eq_false_iff_not]; omega
      have hmem : i ∈ Region.ready md ops listed := by
        rw [mem_ready]
        refine ⟨lgf (by rw [hs]; exact hi) hii, o, ho, fun e he hb => ?_⟩
        have := (Plan.ok_spec ok hi).1 e.on ((aft_mem ho).2 ⟨e, he, hb, rfl⟩)
        rw [hl e.on (by omega), decide_eq_true_iff]; exact this
      refine ⟨fun hr => (by rw [hr] at hmem; cases hmem), fun j hj => ?_⟩
      obtain ⟨hu, o', ho', hr⟩ := mem_ready.1 hj
      have hjo : j < ops.size := (Array.getElem?_eq_some_iff.1 ho').1
      have hjn := (lgt hu).2
      rw [hl j hjo, decide_eq_false_iff_not] at hjn
      have hij : j = i := by
        rcases Nat.lt_or_ge i j with h1 | h1
        · exfalso
          have h2 := (Plan.tail_spec tok).2.2 j hjo (by omega)
          obtain ⟨x, h3, h4, h5⟩ := (aft_mem ho').1 h2
          have h6 := hr x h3 h4
          rw [h5, hl (j - 1) (by omega), decide_eq_true_iff] at h6
          omega
        · omega
      subst hij
      rw [ho] at ho'
      cases ho'
      refine wpOp_step ho (fun K hK => h K (fun a' w' ht => hK a' w' (ih (j + 1) f _ a' w' (by omega) ?_ (by simp [hs]) ?_ (by simpa using hf) ht)))
      · rw [← List.tail_drop, hd]; rfl
      · intro k hk
        rw [lgd (by rw [hs]; exact hjo), hl k hk]
        by_cases h1 : j = k
        · subst h1; simp
        · simp only [h1, decide_false, Bool.false_or]
          congr 1
          apply propext; omega
theorem wpAny_inv3 (ok : L.ok md ops a0.tmps.size = true) {n0 : Nat} (tok : L.tail md ops n0 = true) (hal : L.al.all (fun i => (dstI ops i).isSome) = true) (stay : ∀ j v w w', Below w.heap.size w w' → p j v w → p j v w') (steps : Stps2 P ops Q L p B a0 0 (ops.toList.take n0))
    (done : ∀ a w, a.tmps.size = a0.tmps.size → a.defers = a0.defers → (∀ t, stays ops t = true → a.tmps[t]? = a0.tmps[t]?) → B w → (∀ j, j < n0 → p j (vw a (L.D j)) w) → TailWp P ops Q (ops.toList.drop n0) a w) :
    ∀ (fuel : Nat) (listed : Array Bool) (a : Act) (w : World), Inv2 md ops L p B a0 listed a w → (∀ j, n0 ≤ j → listed.getD j false = false) → (List.range ops.size).countP (fun i => !listed.getD i true) ≤ fuel → wpAny P md ops Q fuel listed a w := by
  obtain ⟨t1, t2, t3⟩ := Plan.tail_spec tok
  intro fuel
  induction fuel with
  | zero =>
    intro listed a w I hno hc
    exfalso
    have h1 := lgf (by rw [I.lsz]; exact t1) (hno n0 (Nat.le_refl _))
    have := List.countP_eq_zero.1 (Nat.le_zero.1 hc) n0 (List.mem_range.2 t1)
    simp [h1] at this
  | succ fuel ih =>
    intro listed a w I hno hc
    refine ⟨fun hr => ?_, fun i hi => ?_⟩
    · exfalso
      have h1 := ready_all ok I.lsz hr n0 t1
      rw [hno n0 (Nat.le_refl _)] at h1; cases h1
    obtain ⟨hu, o, ho, hr⟩ := mem_ready.1 hi
    have hio : i < ops.size := (Array.getElem?_eq_some_iff.1 ho).1
    have hil : i < listed.size := by rw [I.lsz]; exact hio
    have hun : listed[i] = false := by simpa [hil] using hu
    have hcnt := cnt_set (fun j => !listed.getD j true) (fun j => !(listed.setIfInBounds i true).getD j true) i (by simp [hil, hun]) (by simp [hil]) (fun j hj => by simp [Ne.symm hj]) ops.size
    rw [if_pos hio] at hcnt
    have hpre : ∀ e ∈ L.pre i, listed.getD e false = true := by
      intro e he
      rcases (Plan.ok_spec ok hio).2.1 e he with h | ⟨k, hk, hek⟩
      · obtain ⟨x, h1, h2, rfl⟩ := (aft_mem ho).1 h; exact hr x h1 h2
      · obtain ⟨x, h1, h2, rfl⟩ := (aft_mem ho).1 hk; exact I.clo _ (hr x h1 h2) e hek
    rcases Nat.lt_or_ge i n0 with hin | hin
    · have hst := steps.get i o (by rw [List.getElem?_take, if_pos hin, Array.getElem?_toList]; exact ho)
      rw [Nat.zero_add] at hst
      refine wpOp_step ho (fun K hK => hst a w I.asz I.old I.bag (fun j hj => I.fct j (hpre j hj)) K (fun v w' G => hK _ _ (ih _ _ _ (I.step ok hal stay ho hu hr G) ?_ ?_)))
      · intro j hj
        rw [lgd hil, hno j hj]
        simp; omega
      · omega
    · have hin : i = n0 := by
        rcases Nat.lt_or_ge n0 i with h1 | h1
        · exfalso
          obtain ⟨x, h3, h4, h5⟩ := (aft_mem ho).1 (t3 i hio h1)
          have h6 := hr x h3 h4
          rw [h5, hno (i - 1) (by omega)] at h6; cases h6
        · omega
      subst hin
      have hall : ∀ j, j < i → listed.getD j false = true := fun j hj => hpre j (t2 j hj)
      have hdone := done a w I.asz I.dfs I.old I.bag (fun j hj => I.fct j (hall j hj))
      have hdr : ops.toList.drop i = o :: ops.toList.drop (i + 1) := by
        rw [List.drop_eq_getElem_cons (by simpa using hio)]
        congr 1
        have := Array.getElem?_eq_some_iff.1 ho
        obtain ⟨_, h2⟩ := this
        simpa using h2
      rw [hdr] at hdone
      refine wpOp_step ho (fun K hK => hdone K (fun a' w' ht => hK a' w' (wpAny_seq ok tok _ (i + 1) fuel _ a' w' (by omega) rfl (by rw [Array.size_setIfInBounds]; exact I.lsz) ?_ ?_ ht)))
      · intro k hk
        rw [lgd hil]
        rcases Nat.lt_trichotomy k i with h1 | h1 | h1
        · rw [hall k h1]; simp; omega
        · subst h1; simp
        · rw [hno k (by omega)]; simp; omega
      · have hge : ops.size - (i + 1) ≤ (List.range ops.size).countP (fun j => !(listed.setIfInBounds i true).getD j true) := by
          have h1 : (List.range ops.size).countP (fun j => decide (i + 1 ≤ j)) ≤ (List.range ops.size).countP (fun j => !(listed.setIfInBounds i true).getD j true) := by
            refine List.countP_mono_left (fun j hj h => ?_)
            have hj' := List.mem_range.1 hj
            have h2 : i < j := by simp at h; omega
            have h3 := lgf (by rw [I.lsz]; exact hj') (hno j (by omega))
            have h4 : (listed.setIfInBounds i true).getD j true = false := by
              have : i ≠ j := by omega
              simp [this] at h3 ⊢; exact h3
            simp [h4]
          refine Nat.le_trans ?_ h1
          have h5 : ∀ n, n - (i + 1) ≤ (List.range n).countP (fun j => decide (i + 1 ≤ j)) := by
            intro n
            induction n with
            | zero => simp
            | succ n ihn =>
              rw [List.range_succ, List.countP_append]
              by_cases h6 : i + 1 ≤ n
              · simp [h6]; omega
              · simp [h6]; omega
          exact h5 _
        have : (ops.toList.drop (i + 1)).length = ops.size - (i + 1) := by simp
        omega
theorem TailWp.step {l : List Oper} {i : Nat} {o : Oper} {a : Act} {w : World} (h : l[i]? = some o)
    (hk : ∀ K : Act → World → Prop, Shut (∀ a w, TailWp P ops Q (l.drop (i + 1)) a w → K a w) → if Region.wanted o (yielded ops a.tmps) = true then Oper.wp P o a w K Q else K (a.put o.dst undef) w) : TailWp P ops Q (l.drop i) a w := by
  obtain ⟨hi, he⟩ := List.getElem?_eq_some_iff.1 h
  rw [List.drop_eq_getElem_cons hi, he]
  exact hk
theorem TailWp.end {l : List Oper} {i : Nat} {a : Act} {w : World} (h : l.length = i) (hk : Q .normal a w) : TailWp P ops Q (l.drop i) a w := by
  rw [List.drop_eq_nil_of_le (by omega)]
  exact hk
/-- THE BEGINNING. -/
theorem wp_region_inv3 {id : Nat} {l : List Oper} {w : World} (L : Plan) (n0 : Nat) (p : Nat → List (Option Value) → World → Prop) (B : World → Prop) (hm : P.follows .mixedOrders = true) (ok : L.ok .any l.toArray a0.tmps.size = true) (tok : L.tail .any l.toArray n0 = true) (hal : L.al.all (fun i => (dstI l.toArray i).isSome) = true)
    (hB : B w.drew) (stay : ∀ j v w w', Below w.heap.size w w' → p j v w → p j v w')
    (done : ∀ a w, a.tmps.size = a0.tmps.size → a.defers = a0.defers → (∀ t, stays l.toArray t = true → a.tmps[t]? = a0.tmps[t]?) → B w → (∀ j, j < n0 → p j (vw a (L.D j)) w) → TailWp P l.toArray Q (l.drop n0) a w)
    (steps : Stps2 P l.toArray Q L p B a0 0 (l.take n0)) :
    (Code.region id l.toArray true).wp P Q a0 w := by
  refine wp_region_any hm (wpAny_inv3 ok tok hal stay steps done _ _ _ _ ⟨by simp, rfl, rfl, fun _ _ => rfl, hB, ?_, ?_, ?_, ?_⟩ (fun j _ => lg0 _ _) ?_)
  · intro j hj; rw [lg0] at hj; cases hj
  · intro j hj; rw [lg0] at hj; cases hj
  · intro j _ hj; rw [lg0] at hj; cases hj
  · intro j _ i _ _ hj; rw [lg0] at hj; cases hj
  · exact Nat.le_trans List.countP_le_length (by simp)
end
end Go.Proofs.YtifnamlgkooacaaGreatDoor
namespace Go.Proofs.YtifnamlgkooacaaGreatDoor
open Go Go.RowKit
/-- One operation more is done. -/
abbrev upd (f : Nat → Bool) (i : Nat) : Nat → Bool := fun j => decide (i = j) || f j
theorem upd_set {listed : Array Bool} {i : Nat} (hi : i < listed.size) : upd (fun j => listed.getD j false) i = (fun j => (listed.setIfInBounds i true).getD j false) :=
  funext fun _ => (lgd hi).symm
theorem ok_lt {md : Region.Mode} {ops : Array Oper} {L : Plan} {m : Nat} (h : L.ok md ops m = true) {i : Nat} (hi : i < ops.size) : ∀ e ∈ aft md ops i, e < i := by
  unfold Plan.ok at h
  rw [List.all_eq_true] at h
  have h := h i (List.mem_range.2 hi)
  simp only [Bool.and_eq_true, List.all_eq_true, decide_eq_true_eq] at h
  exact h.1.1
theorem ready_all' {md : Region.Mode} {ops : Array Oper} {L : Plan} {m : Nat} (ok : L.ok md ops m = true) {listed : Array Bool} (hs : listed.size = ops.size) (h : Region.ready md ops listed = []) : ∀ j, j < ops.size → listed.getD j false = true := by
  intro j
  induction j using Nat.strongRecOn with
  | ind j ih =>
    intro hj
    cases hx : listed.getD j false with
    | true => rfl
    | false =>
      exfalso
      have hm : j ∈ Region.ready md ops listed := by
        rw [mem_ready]
        refine ⟨?_, ops[j], Array.getElem?_eq_getElem hj, fun e he hb => ?_⟩
        · have : j < listed.size := by rw [hs]; exact hj
          simp [this] at hx ⊢; exact hx
        · have h1 := (ok_lt ok hj) e.on ((aft_mem (Array.getElem?_eq_getElem hj)).2 ⟨e, he, hb, rfl⟩)
          exact ih e.on h1 (Nat.lt_trans h1 hj)
      rw [h] at hm; cases hm
theorem all_listed {md : Region.Mode} {ops : Array Oper} {L : Plan} {m : Nat} (ok : L.ok md ops m = true) {listed : Array Bool} (hs : listed.size = ops.size) (h : Region.ready md ops listed = []) : (fun j => listed.getD j false) = (fun j => decide (j < ops.size)) := by
  funext j
  by_cases hj : j < ops.size
  · rw [decide_eq_true hj]; exact ready_all' ok hs h j hj
  · rw [decide_eq_false hj]; have : listed.size ≤ j := (by omega); simp [this]
structure Inv4 (md : Region.Mode) (ops : Array Oper) (L : Plan) (p : Nat → List (Option Value) → World → Prop) (B : (Nat → Bool) → World → Prop) (a0 : Act) (listed : Array Bool) (a : Act) (w : World) : Prop where
  lsz : listed.size = ops.size
  asz : a.tmps.size = a0.tmps.size
  dfs : a.defers = a0.defers
  old : ∀ t, stays ops t = true → a.tmps[t]? = a0.tmps[t]?
  bag : B (fun j => listed.getD j false) w
  fct : ∀ j, listed.getD j false = true → p j (vw a (L.D j)) w
  clo : ∀ j, listed.getD j false = true → ∀ i ∈ L.pre j, listed.getD i false = true
  alo : ∀ i ∈ L.al, listed.getD i false = true → ∃ k, Ptr2 a ops i k ∧ k < w.heap.size
  apt : ∀ i ∈ L.al, ∀ j ∈ L.al, i ≠ j → listed.getD i false = true → listed.getD j false = true → ∀ k, Ptr2 a ops i k → ¬ Ptr2 a ops j k
/-- What is to be shown behind operation i. -/
structure Laid4 (ops : Array Oper) (L : Plan) (p : Nat → List (Option Value) → World → Prop) (B : (Nat → Bool) → World → Prop) (f : Nat → Bool) (i : Nat) (o : Oper) (a : Act) (w : World) (v : Value) (w' : World) : Prop where
  bag : B (upd f i) w'
  fct : p i ((L.D i).map (fun t => if o.dst = some t then some v else a.tmps[t]?)) w'
  size : w.heap.size ≤ w'.heap.size
  stay : Below w.heap.size w w' ∨ ∀ j, j ≠ i → (∀ x ∈ L.al, ∀ y ∈ L.al, x ≠ y → x ∈ L.pre i → (y ∈ L.pre j ∨ y = j) → ∀ k, Ptr2 a ops x k → ¬ Ptr2 a ops y k) → p j (vw a (L.D j)) w → p j (vw a (L.D j)) w'
  ptr : i ∈ L.al → ∃ k, blk v = some k ∧ w.heap.size ≤ k ∧ k < w'.heap.size
def Stp4 (P : Program) (ops : Array Oper) (Q : Exit → Act → World → Prop) (L : Plan) (p : Nat → List (Option Value) → World → Prop) (B : (Nat → Bool) → World → Prop) (a0 : Act) (i : Nat) (o : Oper) : Prop :=
  ∀ f a w, a.tmps.size = a0.tmps.size → (∀ t, stays ops t = true → a.tmps[t]? = a0.tmps[t]?) → B f w → (∀ j ∈ L.pre i, p j (vw a (L.D j)) w) → (∀ j, i ∈ L.pre j → f j = false) →
    ∀ K : Act → World → Prop, Shut (∀ v w', Laid4 ops L p B f i o a w v w' → K (a.put o.dst v) w') → if Region.wanted o (yielded ops a.tmps) = true then Oper.wp P o a w K Q else K (a.put o.dst undef) w
inductive Stps4 (P : Program) (ops : Array Oper) (Q : Exit → Act → World → Prop) (L : Plan) (p : Nat → List (Option Value) → World → Prop) (B : (Nat → Bool) → World → Prop) (a0 : Act) : Nat → List Oper → Prop
  | nil (i : Nat) : Stps4 P ops Q L p B a0 i []
  | cons {i : Nat} {o : Oper} {l : List Oper} : Stp4 P ops Q L p B a0 i o → Stps4 P ops Q L p B a0 (i + 1) l → Stps4 P ops Q L p B a0 i (o :: l)
section
variable {P : Program} {md : Region.Mode} {ops : Array Oper} {Q : Exit → Act → World → Prop} {L : Plan} {p : Nat → List (Option Value) → World → Prop} {B : (Nat → Bool) → World → Prop} {a0 : Act}
theorem Stps4.get : ∀ {l : List Oper} {i : Nat}, Stps4 P ops Q L p B a0 i l → ∀ k o, l[k]? = some o → Stp4 P ops Q L p B a0 (i + k) o := by
  intro l
  induction l with
  | nil => intro i _ k o h; simp at h
  | cons x l ih =>
    intro i h k o hk
    cases h with
    | cons h1 h2 =>
      cases k with
      | zero => simp at hk; subst hk; exact h1
      | succ k => have := ih h2 k o (by simpa using hk); rwa [Nat.add_assoc, Nat.add_comm 1 k] at this
theorem Inv4.step (ok : L.ok md ops a0.tmps.size = true) (hal : L.al.all (fun i => (dstI ops i).isSome) = true) (stay : ∀ j v w w', Below w.heap.size w w' → p j v w → p j v w') {listed : Array Bool} {a : Act} {w : World} (I : Inv4 md ops L p B a0 listed a w) {i : Nat} {o : Oper} (ho : ops[i]? = some o)
    (hu : listed.getD i true = false) (hr : ∀ e ∈ o.after, Region.binds md e = true → listed.getD e.on false = true) {v : Value} {w' : World} (G : Laid4 ops L p B (fun j => listed.getD j false) i o a w v w') :
    Inv4 md ops L p B a0 (listed.setIfInBounds i true) (a.put o.dst v) w' := by
  have hi : i < ops.size := (Array.getElem?_eq_some_iff.1 ho).1
  have hil : i < listed.size := by rw [I.lsz]; exact hi
  have hun := (lgt hu).2
  obtain ⟨c1, c2, c3⟩ := Plan.ok_spec ok hi
  have hd : dstI ops i = o.dst := by unfold dstI; rw [ho]; rfl
  have hpre : ∀ e ∈ L.pre i, listed.getD e false = true := by
    intro e he
    rcases c2 e he with h | ⟨k, hk, hek⟩
    · obtain ⟨x, h1, h2, rfl⟩ := (aft_mem ho).1 h; exact hr x h1 h2
    · obtain ⟨x, h1, h2, rfl⟩ := (aft_mem ho).1 hk; exact I.clo _ (hr x h1 h2) e hek
  have hput : ∀ t, (a.put o.dst v).tmps[t]? = if o.dst = some t then some v else a.tmps[t]? := by
    intro t
    cases hx : o.dst with
    | none => simp [Act.put]
    | some d =>
      have h4 := (c3 d (hd.trans hx)).1
      have h5 : d < a.tmps.size := by rw [I.asz]; exact h4
      simp only [Act.put, Array.getElem?_setIfInBounds, Option.some.injEq, if_pos h5]
  have hlj : ∀ j, listed.getD j false = true → j < ops.size ∧ j ≠ i := by
    intro j hj
    refine ⟨?_, fun e => by rw [e, hun] at hj; cases hj⟩
    rw [← I.lsz]
    by_cases h : j < listed.size
    · exact h
    · simp [Nat.le_of_not_lt h] at hj
  have hvw : ∀ j, listed.getD j false = true → vw (a.put o.dst v) (L.D j) = vw a (L.D j) := by
    intro j hj
    unfold vw
    refine List.map_congr_left (fun t ht => ?_)
    rw [hput]
    refine if_neg (fun e => ?_)
    have h6 := ((c3 t (hd.trans e)).2 j (hlj j hj).1 (hlj j hj).2.symm).1 ht
    have h7 := I.clo j hj i h6
    rw [hun] at h7; cases h7
  have hptr : ∀ j, listed.getD j false = true → ∀ k, Ptr2 (a.put o.dst v) ops j k ↔ Ptr2 a ops j k := by
    intro j hj k
    unfold Ptr2
    constructor
    · rintro ⟨d, u, h1, h2, h3⟩
      refine ⟨d, u, h1, ?_, h3⟩
      rw [hput, if_neg (fun e => ((c3 d (hd.trans e)).2 j (hlj j hj).1 (hlj j hj).2.symm).2 h1)] at h2
      exact h2
    · rintro ⟨d, u, h1, h2, h3⟩
      refine ⟨d, u, h1, ?_, h3⟩
      rw [hput, if_neg (fun e => ((c3 d (hd.trans e)).2 j (hlj j hj).1 (hlj j hj).2.symm).2 h1)]
      exact h2
  have hnew : i ∈ L.al → ∀ k, Ptr2 (a.put o.dst v) ops i k → w.heap.size ≤ k ∧ k < w'.heap.size := by
    intro hal k ⟨d, u, h1, h2, h5⟩
    obtain ⟨k', hv, h3, h4⟩ := G.ptr hal
    rw [hput, if_pos (hd.symm.trans h1)] at h2
    cases h2
    rw [hv] at h5
    cases h5
    exact ⟨h3, h4⟩
  have hcase : ∀ j, (listed.setIfInBounds i true).getD j false = true → j = i ∨ listed.getD j false = true := by
    intro j hj
    rw [lgd hil, Bool.or_eq_true, decide_eq_true_eq] at hj
    exact hj.imp Eq.symm id
  refine ⟨by simp [I.lsz], ?_, ?_, ?_, (upd_set hil ▸ G.bag), ?_, ?_, ?_, ?_⟩
  · cases o.dst <;> simp [Act.put, I.asz]
  · cases o.dst <;> simp [Act.put, I.dfs]
  · intro t ht
    rw [hput, if_neg, I.old t ht]
    intro e
    unfold stays at ht
    rw [List.all_eq_true] at ht
    have := ht i (List.mem_range.2 hi)
    rw [hd, e] at this
    simp at this
  · intro j hj
    rcases hcase j hj with rfl | hj
    · have := G.fct
      unfold vw
      rw [show (L.D j).map (fun t => (a.put o.dst v).tmps[t]?) = (L.D j).map (fun t => if o.dst = some t then some v else a.tmps[t]?) from List.map_congr_left (fun t _ => hput t)]
      exact this
    · rw [hvw j hj]
      rcases G.stay with hb | hs
      · exact stay j _ _ _ hb (I.fct j hj)
      · refine hs j (hlj j hj).2 ?_ (I.fct j hj)
        intro x hx y hy hxy hxi hyj
        exact I.apt x hx y hy hxy (hpre x hxi) (hyj.elim (I.clo j hj y) (fun e => e ▸ hj))
  · intro j hj e he
    rw [lgd hil, Bool.or_eq_true]
    rcases hcase j hj with rfl | hj
    · exact .inr (hpre e he)
    · exact .inr (I.clo j hj e he)
  · intro j hjal hj
    rcases hcase j hj with rfl | hj
    · obtain ⟨k, hv, h3, h4⟩ := G.ptr hjal
      cases hx : o.dst with
      | none =>
        have := List.all_eq_true.1 hal j hjal
        rw [hd, hx] at this; cases this
      | some d => exact ⟨k, ⟨d, v, hd.trans hx, by rw [← hx, hput, if_pos hx], hv⟩, h4⟩
    · obtain ⟨k, h1, h2⟩ := I.alo j hjal hj
      exact ⟨k, (hptr j hj k).2 h1, Nat.lt_of_lt_of_le h2 G.size⟩
  · intro x hx y hy hxy hlx0 hly0 k
    rcases hcase x hlx0 with rfl | hlx
    · rcases hcase y hly0 with e | hly
      · exact absurd e.symm hxy
      · intro h1 h2
        obtain ⟨k', h3, h4⟩ := I.alo y hy hly
        obtain ⟨d, x1, e1, e2, e5⟩ := (hptr y hly k).1 h2
        obtain ⟨d', x2, e3, e4, e6⟩ := h3
        rw [e1] at e3; cases e3
        rw [e2] at e4; cases e4
        rw [e5] at e6; cases e6
        have := (hnew hx k h1).1
        omega
    · rcases hcase y hly0 with rfl | hly
      · intro h1 h2
        obtain ⟨k', h3, h4⟩ := I.alo x hx hlx
        obtain ⟨d, x1, e1, e2, e5⟩ := (hptr x hlx k).1 h1
        obtain ⟨d', x2, e3, e4, e6⟩ := h3
        rw [e1] at e3; cases e3
        rw [e2] at e4; cases e4
        rw [e5] at e6; cases e6
        have := (hnew hy k h2).1
        omega
      · intro h1 h2
        exact I.apt x hx y hy hxy hlx hly k ((hptr x hlx k).1 h1) ((hptr y hly k).1 h2)
theorem wpAny_inv4 (ok : L.ok md ops a0.tmps.size = true) (hal : L.al.all (fun i => (dstI ops i).isSome) = true) (stay : ∀ j v w w', Below w.heap.size w w' → p j v w → p j v w') (steps : Stps4 P ops Q L p B a0 0 ops.toList)
    (done : ∀ a w, a.tmps.size = a0.tmps.size → a.defers = a0.defers → (∀ t, stays ops t = true → a.tmps[t]? = a0.tmps[t]?) → B (fun j => decide (j < ops.size)) w → (∀ j, j < ops.size → p j (vw a (L.D j)) w) → Q .normal a w) :
    ∀ (fuel : Nat) (listed : Array Bool) (a : Act) (w : World), Inv4 md ops L p B a0 listed a w → (List.range ops.size).countP (fun i => !listed.getD i true) ≤ fuel → wpAny P md ops Q fuel listed a w := by
  intro fuel
  induction fuel with
  | zero =>
    intro listed a w I hc
    have hall : ∀ j, j < ops.size → listed.getD j true = true := by
      intro j hj
      have := List.countP_eq_zero.1 (Nat.le_zero.1 hc) j (List.mem_range.2 hj)
      simpa using this
    have hr : Region.ready md ops listed = [] := by
      rw [List.eq_nil_iff_forall_not_mem]
      intro j hj
      obtain ⟨h1, o, h2, _⟩ := mem_ready.1 hj
      rw [hall j (Array.getElem?_eq_some_iff.1 h2).1] at h1; cases h1
    exact ⟨hr, done a w I.asz I.dfs I.old (all_listed ok I.lsz hr ▸ I.bag) (fun j hj => I.fct j (ready_all ok I.lsz hr j hj))⟩
  | succ fuel ih =>
    intro listed a w I hc
    refine ⟨fun hr => done a w I.asz I.dfs I.old (all_listed ok I.lsz hr ▸ I.bag) (fun j hj => I.fct j (ready_all ok I.lsz hr j hj)), fun i hi => ?_⟩
    obtain ⟨hu, o, ho, hr⟩ := mem_ready.1 hi
    have hio : i < ops.size := (Array.getElem?_eq_some_iff.1 ho).1
    have hst := steps.get i o (by rw [Array.getElem?_toList]; exact ho)
    rw [Nat.zero_add] at hst
    have hpre : ∀ e ∈ L.pre i, listed.getD e false = true := by
      intro e he
      rcases (Plan.ok_spec ok hio).2.1 e he with h | ⟨k, hk, hek⟩
      · obtain ⟨x, h1, h2, rfl⟩ := (aft_mem ho).1 h; exact hr x h1 h2
      · obtain ⟨x, h1, h2, rfl⟩ := (aft_mem ho).1 hk; exact I.clo _ (hr x h1 h2) e hek
    have hno : ∀ j, i ∈ L.pre j → listed.getD j false = false := by
      intro j hj
      cases hx : listed.getD j false with
      | false => rfl
      | true =>
        have h1 := I.clo j hx i hj
        rw [(lgt hu).2] at h1; cases h1
    refine wpOp_step ho (fun K hK => hst _ a w I.asz I.old I.bag (fun j hj => I.fct j (hpre j hj)) (fun j hj => hno j hj) K (fun v w' G => hK _ _ (ih _ _ _ (I.step ok hal stay ho hu hr G) ?_)))
    have hil : i < listed.size := by rw [I.lsz]; exact hio
    have hun : listed[i] = false := by simpa [hil] using hu
    have := cnt_set (fun j => !listed.getD j true) (fun j => !(listed.setIfInBounds i true).getD j true) i (by simp [hil, hun]) (by simp [hil]) (fun j hj => by simp [Ne.symm hj]) ops.size
    rw [if_pos hio] at this
    omega
/-- THE BEGINNING. -/
theorem wp_region_inv4 {id : Nat} {l : List Oper} {w : World} (L : Plan) (p : Nat → List (Option Value) → World → Prop) (B : (Nat → Bool) → World → Prop) (hm : P.follows .mixedOrders = true) (ok : L.ok .any l.toArray a0.tmps.size = true) (hal : L.al.all (fun i => (dstI l.toArray i).isSome) = true)
    (hB : B (fun _ => false) w.drew) (stay : ∀ j v w w', Below w.heap.size w w' → p j v w → p j v w')
    (done : ∀ a w, a.tmps.size = a0.tmps.size → a.defers = a0.defers → (∀ t, stays l.toArray t = true → a.tmps[t]? = a0.tmps[t]?) → B (fun j => decide (j < l.length)) w → (∀ j, j < l.length → p j (vw a (L.D j)) w) → Q .normal a w)
    (steps : Stps4 P l.toArray Q L p B a0 0 l) :
    (Code.region id l.toArray true).wp P Q a0 w := by
  refine wp_region_any hm (wpAny_inv4 ok hal stay steps (fun a w h1 h2 h3 h4 h5 => done a w h1 h2 h3 (by simpa using h4) (fun j hj => h5 j (by simpa using hj))) _ _ _ _ ⟨by simp, rfl, rfl, fun _ _ => rfl, (by rw [show (fun j => (Array.replicate l.toArray.size false).getD j false) = (fun _ => false) from funext (fun j => lg0 _ j)]; exact hB), ?_, ?_, ?_, ?_⟩ ?_)
  · intro j hj; rw [lg0] at hj; cases hj
  · intro j hj; rw [lg0] at hj; cases hj
  · intro j _ hj; rw [lg0] at hj; cases hj
  · intro j _ i _ _ hj; rw [lg0] at hj; cases hj
  · exact Nat.le_trans List.countP_le_length (by simp)
end
end Go.Proofs.YtifnamlgkooacaaGreatDoor
