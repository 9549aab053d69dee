/-
  Rows of integers: the document's IntsSame, slices.Clone of integers, by contract.
-/
import Derived.Test.YtgpcfncolhmgfaaAr1
import Derived.Lib.SliceRun
import Derived.Lib.Walk
import Derived.Deep.AppendLies
import Derived.Deep.RegionLaw
namespace Go.Proofs.Ytgpcfncolhmgfaa
open Go.RowKit

theorem KRow.nought (w : World) (ki : IntKind) (a : Option Addr) (c : Nat) (hc : c ≤ maxLen) (f : Nat → Int) : KRow w ki a 0 c f := ⟨Nat.zero_le _, hc, .inl rfl⟩
theorem Bag.krow {w0 w : World} {B : World → Prop} {ki : IntKind} {a : Option Addr} {n c : Nat} {f : Nat → Int} (h : Bag w0 B w) (q : KRow w ki a n c f) : Bag w0 (fun y => KRow y ki a n c f ∧ B y) w := h.add (fun _ _ hb q => KRow.below q hb) q
theorem Bag.newRow {w0 w : World} {B : World → Prop} (h : Bag w0 B w) (cs : Array Value) (t : TypeId) : Bag w0 (fun y => Row y w.heap.size t cs ∧ B y) (w.alloc (.cells cs t)) := (h.alloc _).row (Row.new w t cs)
theorem Row.set {w : World} {g : Nat} {t : TypeId} {cs : Array Value} (h : Row w g t cs) (i : Nat) (v : Value) : Row (w.setCell ⟨g, i, none⟩ v) g t (cs.setIfInBounds i v) := heap_setCell_same w g i cs t v h
theorem Row.far {w : World} {g : Nat} {t : TypeId} {cs : Array Value} (h : Row w g t cs) {a : Addr} (e : g ≠ a.block) (v : Value) : Row (w.setCell a v) g t cs := (heap_setCell_other w a g v e).trans h
/-- Another world in which one block alone may have turned. -/
structure Far (g : Nat) (w w' : World) : Prop where
  size : w.heap.size ≤ w'.heap.size
  block : ∀ k, k ≠ g → k < w.heap.size → w'.heap[k]? = w.heap[k]?
theorem Far.setCell (w : World) (g o : Nat) (v : Value) : Far g w (w.setCell ⟨g, o, none⟩ v) := ⟨by simp, fun k hk _ => heap_setCell_other w ⟨g, o, none⟩ k v hk⟩
theorem Far.setRow (w : World) (g : Nat) (cs : Array Value) : Far g w (w.setRow g cs) := ⟨by simp, fun k hk _ => setRow_other w g k cs hk⟩
theorem Far.cell {g : Nat} {w w' : World} (h : Far g w w') {a : Addr} (hg : a.block ≠ g) (hl : a.block < w.heap.size) : w'.cell? a = w.cell? a := World.cell?_of_block (h.block _ hg hl)
/-- Are the first integers alike? -/
def sameB (f g : Nat → Int) : Nat → Bool
  | 0 => true
  | k + 1 => sameB f g k && decide (f k = g k)
theorem sameB_le {f g : Nat → Int} : ∀ {k m : Nat}, k ≤ m → sameB f g m = true → sameB f g k = true := by
  intro k m
  induction m with
  | zero => intro h h2; obtain rfl : k = 0 := by omega
            exact h2
  | succ m ih =>
    intro h h2
    rcases Nat.lt_or_ge k (m + 1) with h3 | h3
    · refine ih (by omega) ?_
      unfold sameB at h2
      rw [Bool.and_eq_true] at h2
      exact h2.1
    · obtain rfl : k = m + 1 := by omega
      exact h2
theorem sameB_iff {f g : Nat → Int} {n : Nat} : sameB f g n = true ↔ ∀ j, j < n → f j = g j := by
  induction n with
  | zero => exact ⟨fun _ j h => absurd h (Nat.not_lt_zero _), fun _ => rfl⟩
  | succ n ih =>
    show (sameB f g n && decide (f n = g n)) = true ↔ _
    rw [Bool.and_eq_true, ih, decide_eq_true_eq]
    constructor
    · rintro ⟨h1, h2⟩ j hj
      rcases Nat.lt_or_ge j n with h | h
      · exact h1 j h
      · obtain rfl : j = n := by omega
        exact h2
    · exact fun h => ⟨fun j hj => h j (by omega), h n (by omega)⟩
/-- What IntsSame answers. -/
def SameTold (b : Bool) (w w' : World) (e : Ending) : Prop := e = .returned (.bool b) ∧ Below w.heap.size w w'
set_option maxHeartbeats 1600000 in
set_option maxRecDepth 100000 in
theorem r6Same_any (a : Option Addr) (n c : Nat) (f : Nat → Int) (a2 : Option Addr) (n2 c2 : Nat) (g : Nat → Int) (w : World) (h : KRow w .i64 a n c f) (h2 : KRow w .i64 a2 n2 c2 g) :
    Calls Try.prog 14 #[.slice a n c, .slice a2 n2 c2] w fun e w' => SameTold (decide (n = n2) && sameB f g n) w w' e := by
  have hl := h.len
  have hl2 := h2.len
  have H1 := Lib.hid h
  have H2 := Lib.hid h2
  clear h h2
  by_cases hn : n = n2
  · subst hn
    rw [decide_eq_true rfl, Bool.true_and]
    have dn : ((n : Int) != n) = false := bne_self_eq_false _
    go_enter Try.func14, Try.ntmps14
    go_wp2
    go_loopw [5] (fun i wr => ∃ k : Nat, k ≤ n ∧ i = .int .i64 k ∧ Hid (Below w.heap.size w wr ∧ sameB f g k = true)) (fun i _ => n - (intOf i).toNat)
    case atStart => exact ⟨0, by omega, rfl, Below.refl _ _, rfl⟩
    case round =>
      obtain ⟨k, hk, rfl, hrel⟩ := hrel
      obtain ⟨hbl, hsm⟩ := hrel.out
      by_cases hlt : k < n
      · obtain ⟨b, off, rfl, hb, hc⟩ := (H1.out.below hbl).get hlt
        obtain ⟨b2, off2, rfl, hb2, hc2⟩ := (H2.out.below hbl).get hlt
        have HBL := Lib.hid hbl
        have hk0 : (0 : Int) ≤ k := by omega
        have hk1 : (k : Int) < n := by omega
        have hk2 : (k : Int) ≤ n := by omega
        by_cases hq : f k = g k
        · have hsm2 : Hid (sameB f g (k + 1) = true) := by show (sameB f g k && _) = true; rw [hsm, decide_eq_true hq]; rfl
          have hne : (f k != g k) = false := by rw [hq]; exact bne_self_eq_false _
          clear hbl hsm
          rw [← hq] at hc2
          have hne : (f k != f k) = false := bne_self_eq_false _
          generalize f k = x at *
          clear hq
          go_wp2_with fail
          go_quiet (fail)
          have HBE : Hid (Below w.heap.size w (wr.drewN nq) ∧ sameB f g (k + 1) = true) := ⟨below_drewN HBL.out nq, hsm2.out⟩
          go_wp2
          go_roundw
          case rel => exact ⟨k + 1, by omega, by go_num, HBE.out⟩
          case measure => simp [intOf]; omega
        · have hno : sameB f g n = false := by
            cases hx : sameB f g n with
            | false => rfl
            | true => exact absurd ((sameB_iff.1 hx) k hlt) hq
          have HN := Lib.hid hno
          have hne : (f k != g k) = true := bne_iff_ne.2 hq
          clear hbl hsm hno
          generalize f k = x at *
          generalize g k = y at *
          clear hq
          go_wp2_with fail
          go_quiet (fail)
          have HBE : Hid (SameTold (sameB f g n) w (wr.drewN nq) (.returned (.bool false))) := ⟨by rw [HN.out], below_drewN HBL.out nq⟩
          go_wp2
          go_ret
          exact HBE.out
      · obtain rfl : k = n := by omega
        have HE : Hid (SameTold (sameB f g k) w wr (.returned (.bool true))) := ⟨by rw [hsm], hbl⟩
        clear hbl hsm
        go_wp2
        go_ret
        exact HE.out
  · rw [decide_eq_false hn, Bool.false_and]
    have dn : ((n : Int) != n2) = true := bne_iff_ne.2 (by omega)
    have HE : Hid (SameTold false w w (.returned (.bool false))) := ⟨rfl, Below.refl _ _⟩
    clear hn
    go_enter Try.func14, Try.ntmps14
    go_wp2
    go_ret
    exact HE.out
/-- Where a new slice lies. -/
def NewAt (w w' : World) (a : Option Addr) (n c : Nat) : Prop := (a = none ∧ n = 0 ∧ c = 0) ∨ ∃ g, a = some ⟨g, 0, none⟩ ∧ w.heap.size ≤ g ∧ Free w' g
set_option maxHeartbeats 1600000 in
set_option maxRecDepth 100000 in
theorem cloneI_new (a : Option Addr) (n c : Nat) (f : Nat → Int) (w : World) (h : KRow w .i64 a n c f) (hn : n ≤ 1000000) :
    Calls Try.prog 33 #[.slice a n c] w fun e w' => ∃ a' c', e = .returned (.slice a' n c') ∧ KRow w' .i64 a' n c' f ∧ NewAt w w' a' n c' ∧ Below w.heap.size w w' := by
  obtain ⟨i0, hi, hz0, hz1, hz2⟩ := info_parts infoI
  have q22 : ∀ (w : World) (a : Option Addr) (n c n' c' : Nat), (binOp .eql 22 (.slice a n c) (.slice none n' c')).run Try.prog w = .ok (.bool a.isNone) w := fun w a n c n' c' => Lib.run_eql_slice_nil w _ _ a n c n' c' Try.underlying22
  cases a with
  | none =>
    have h0 : n = 0 := by
      rcases h.2.2 with h | ⟨_, _, h, _⟩
      · exact h
      · cases h
    subst h0
    go_enter Try.func33, Try.ntmps33
    go_wp2
    go_ret
    exact ⟨none, 0, rfl, KRow.nought _ _ _ _ (Nat.zero_le _) _, .inl ⟨rfl, rfl, rfl⟩, Below.refl _ _⟩
  | some ad =>
    have hex : ∃ news : List Value, news.length = n * 1 ∧ (∀ j u, news[j]? = some u → w.cell? (ad.add j) = some u) ∧ (∀ u ∈ news, u.oneCell' = true) ∧ ∀ j, j < n → news[j]? = some (.int .i64 (f j)) := by
      rcases h.2.2 with h0 | ⟨b, off, he, hb, hc⟩
      · subst h0
        exact ⟨[], rfl, fun j u hu => by simp at hu, fun u hu => by simp at hu, fun j hj => by omega⟩
      · obtain rfl := Option.some.inj he
        have hg : ∀ j, j < n → ((List.range n).map fun j => Value.int .i64 (f j))[j]? = some (.int .i64 (f j)) := fun j hj => by rw [List.getElem?_map, List.getElem?_range hj]; rfl
        refine ⟨(List.range n).map fun j => .int .i64 (f j), by simp, fun j u hu => ?_, fun u hu => ?_, hg⟩
        · have hj : j < n := by
            have := (List.getElem?_eq_some_iff.1 hu).1
            simpa using this
          rw [hg j hj] at hu
          obtain rfl := Option.some.inj hu
          rw [show (⟨b, off, none⟩ : Addr).add j = ⟨b, off + j, none⟩ by simp [Addr.add]]
          exact hc j hj
        · obtain ⟨j, _, rfl⟩ := List.mem_map.1 hu
          rfl
    obtain ⟨news, hl, hcell, hone, hrat⟩ := hex
    have HC := Lib.hid hcell
    have HO := Lib.hid hone
    have HR := Lib.hid hrat
    have HL := Lib.hid hl
    have HN := Lib.hid hn
    clear hcell hone hrat hl h hn
    go_enter Try.func33, Try.ntmps33
    go_wp2_with (at_builtin; refine wpList_append_own _ rfl _ _ 22 rfl w.heap.size 3 i0 _ 1 8 Try.underlying22 hi hz0 hz1 hz2 rfl (by omega) _ _ _ rfl (World.ownsRow_made w #[] 0 (Nat.le_refl _) (Nat.zero_le _) (by simp)) ad n c news rfl ?qc1 ?qc2 ?qc3 ?qc4 ?qc5 ?qc6 ?_)
    case qc1 => exact HL.out
    case qc2 => exact fun j u hj => Lib.cell?_alloc_some _ (HC.out j u hj)
    case qc3 => exact HO.out
    case qc4 => have := HN.out; unfold maxLen; omega
    case qc5 => have := HN.out; omega
    case qc6 => simp
    intro v' w1 hown hgrow hnil
    have hb : Below w.heap.size w w1 := ((Below.refl _ w).alloc (Nat.le_refl _) _).grown hgrow (by simp) (by intro k hk; simp [Value.ownBlock] at hk; omega)
    have HE : Hid (∃ a' c', v' = .slice a' n c' ∧ KRow w1 .i64 a' n c' f ∧ NewAt w w1 a' n c') := by
      rcases hown.2 with ⟨rfl, h0⟩ | ⟨g, cap, cur, rfl, hge, hh, h1, h2, _, hcs⟩
      · subst h0
        exact ⟨none, 0, rfl, KRow.nought _ _ _ _ (Nat.zero_le _) _, .inl ⟨rfl, rfl, rfl⟩⟩
      · refine ⟨some ⟨g, 0, none⟩, cap, rfl, ⟨h1, h2, .inr ⟨g, 0, rfl, Row.lt (t := 3) hh, fun j hj => ?_⟩⟩, .inr ⟨g, rfl, hge, Free.of_block hh⟩⟩
        have := hown.cells (g := g) rfl j _ (HR.out j hj)
        rwa [show (⟨g, 0, none⟩ : Addr).add j = ⟨g, 0 + j, none⟩ by unfold Addr.add; split <;> simp_all] at this
    have HB := Lib.hid hb
    clear hown hgrow hnil hb
    go_wp2
    go_ret
    obtain ⟨a', c', rfl, hr, hn⟩ := HE.out
    exact ⟨a', c', rfl, hr, hn, HB.out⟩

set_option maxHeartbeats 400000 in
theorem cloneI_any (a : Option Addr) (n c : Nat) (f : Nat → Int) (w : World) (h : KRow w .i64 a n c f) (hn : n ≤ 1000000) :
    Calls Try.prog 33 #[.slice a n c] w fun e w' => ∃ a' c', e = .returned (.slice a' n c') ∧ KRow w' .i64 a' n c' f ∧ Below w.heap.size w w' :=
  (cloneI_new a n c f w h hn).mono fun _ _ ⟨a', c', h1, h2, _, h3⟩ => ⟨a', c', h1, h2, h3⟩

/-- The cells of the first integers. -/
def kcs (ki : IntKind) (f : Nat → Int) : Nat → List Value
  | 0 => []
  | k + 1 => kcs ki f k ++ [.int ki (f k)]
theorem kcs_length (ki : IntKind) (f : Nat → Int) : ∀ k, (kcs ki f k).length = k
  | 0 => rfl
  | k + 1 => by unfold kcs; rw [List.length_append, kcs_length ki f k]; rfl
theorem kcs_get (ki : IntKind) (f : Nat → Int) : ∀ k j, j < k → (kcs ki f k)[j]? = some (.int ki (f j))
  | 0, j, h => absurd h (Nat.not_lt_zero _)
  | k + 1, j, h => by
    have hl := kcs_length ki f k
    unfold kcs
    rcases Nat.lt_or_ge j k with h1 | h1
    · rw [List.getElem?_append_left (by omega)]
      exact kcs_get ki f k j h1
    · obtain rfl : j = k := by omega
      rw [List.getElem?_append_right (by omega), hl, Nat.sub_self]
      rfl
theorem KRow.of_own {w : World} {base : Nat} {e : TypeId} {v : Value} {n : Nat} {ki : IntKind} {f : Nat → Int} (h : w.ownsRow base e 1 v n (kcs ki f n)) : ∃ a c, v = .slice a n c ∧ KRow w ki a n c f := by
  rcases h.2 with ⟨rfl, rfl⟩ | ⟨g, cap, cur, rfl, _, hh, h1, h2, _, hcs⟩
  · exact ⟨none, 0, rfl, KRow.nought _ _ _ _ (Nat.zero_le _) _⟩
  · refine ⟨some ⟨g, 0, none⟩, cap, rfl, h1, h2, .inr ⟨g, 0, rfl, Row.lt (t := e) hh, fun j hj => ?_⟩⟩
    have := h.cells (g := g) rfl j _ (kcs_get ki f n j hj)
    rwa [show (⟨g, 0, none⟩ : Addr).add j = ⟨g, 0 + j, none⟩ by unfold Addr.add; split <;> simp_all] at this
theorem own_below {w w' : World} {base : Nat} {e : TypeId} {size : Nat} {v : Value} {n : Nat} {xs : List Value} (h : w.ownsRow base e size v n xs) (hb : Below w.heap.size w w') : w'.ownsRow base e size v n xs := by
  refine h.kept (row := none) ⟨hb.os, hb.tape, hb.output, hb.size, fun k hk _ => hb.block k hk⟩ ?_
  cases v.ownBlock with
  | none => exact .inl rfl
  | some k => exact .inr (by simp)
theorem own_setCell {w : World} {base : Nat} {e : TypeId} {size : Nat} {v : Value} {n : Nat} {xs : List Value} (h : w.ownsRow base e size v n xs) (k o : Nat) (u : Value) (hk : some k ≠ v.ownBlock) : (w.setCell ⟨k, o, none⟩ u).ownsRow base e size v n xs :=
  h.kept (row := some k) ⟨rfl, rfl, rfl, by simp, fun j hj hne => (Far.setCell w k o u).block j (fun e => hne (by rw [e])) hj⟩ (.inr (fun e => hk e.symm))
theorem Bag.own {w0 w : World} {B : World → Prop} {base : Nat} {e : TypeId} {size : Nat} {v : Value} {n : Nat} {xs : List Value} (h : Bag w0 B w) (q : w.ownsRow base e size v n xs) : Bag w0 (fun y => y.ownsRow base e size v n xs ∧ B y) w := h.add (fun _ _ hb q => own_below q hb) q

end Go.Proofs.Ytgpcfncolhmgfaa
