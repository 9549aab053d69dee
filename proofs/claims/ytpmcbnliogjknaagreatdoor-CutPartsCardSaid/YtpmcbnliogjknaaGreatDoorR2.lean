/-
  Texts of this seat, laid together.
-/
import Derived.Laws.BytesArg
import Derived.Lib.SliceRun
import Derived.Lib.Walk
import Derived.Deep.RegionHeld3
import Derived.Below
import Derived.WalkKit
import Derived.WalkSpells
import Derived.Deep.Draws
import Derived.Lib.Hide
import Derived.Lib.TrimByte
import Derived.WalkLawsBesides
import Derived.Laws.CopyOwn
import Derived.Deep.QuietTactic
import Derived.BigQuiet
import Derived.BigRegion
import Derived.RegionTactic
import Derived.Deep.RegionWith
import Derived.StillTailTactics
import Derived.IntWalk
import Derived.Test.YtpmcbnliogjknaaGreatDoorRows
import Derived.Deep.AppendLies
import Derived.Deep.RegionLaw
import Derived.Laws.StructEq
import Derived.ChangeKeysEq
import Derived.Shelf.Abstract
import Derived.Deep.DrawnRows
import Derived.Laws.BitsLemmas
import Derived.Lib.ItoaNum
import Derived.Test.YtpmcbnliogjknaaGreatDoorShelf
import Derived.Laws.OwnMore
import Derived.Lib.AppendZeros
import Derived.Laws.AppendOwnNone
import Derived.Deep.MidRow
import Derived.Laws.EntriesVeiled
import Derived.Test.YtpmcbnliogjknaaGreatDoorQ1
import Derived.Test.YtpmcbnliogjknaaGreatDoorQ2
import Derived.Test.YtpmcbnliogjknaaGreatDoorQ3
import Derived.Test.YtpmcbnliogjknaaGreatDoorQ4
import Derived.Test.YtpmcbnliogjknaaGreatDoorQ5
import Derived.Test.YtpmcbnliogjknaaGreatDoorQ6
import Derived.Test.YtpmcbnliogjknaaGreatDoorQ7
import Derived.Test.YtpmcbnliogjknaaGreatDoorQ8
import Derived.Test.YtpmcbnliogjknaaGreatDoorQ9
import Derived.Test.YtpmcbnliogjknaaGreatDoorQ10
import Derived.Test.YtpmcbnliogjknaaGreatDoorR1

namespace Go.Proofs.YtpmcbnliogjknaaGreatDoor
open Go.RowKit
theorem run_append_none9 {w : World} (base : Nat) (v : Value) (n : Nat) (xs : List Value) (c : Nat) (hown : w.ownsRow base 3 1 v n xs) : (Builtin.append_ #[22, 22] 22 #[v, .slice none 0 c]).run Tryz.prog w = .ok v w := by
  obtain ⟨i0, hi, hz0, hz1, hz2⟩ := info_parts infoI
  have ht := Tryz.underlying22
  rcases hown.2 with ⟨rfl, rfl⟩ | ⟨g, cap, cur, rfl, _, _, hnc, _⟩
  · simp [Builtin.append_, run_underlying ht, sizeOf, typeInfo, hi, Builtin.lenOf, Builtin.firstCells]
  · simp [Builtin.append_, run_underlying ht, sizeOf, typeInfo, hi, Builtin.lenOf, Builtin.firstCells, hnc, storeCells]
/-- A row copied into one that the call makes and that grows. -/
theorem own_new {wr : World} {a : Option Addr} {c m : Nat} {f : Nat → Int} (h : KRow wr .i64 a m c f) (hm2 : m ≤ 1000000) :
    ∃ a' c' y1, (Builtin.append_ #[22, 22] 22 #[.slice (some ⟨wr.heap.size, 0, none⟩) 0 0, .slice a m c]).run Tryz.prog (wr.alloc (.cells #[] 3)) = .ok (.slice a' m c') y1 ∧ OwnI wr y1 a' m c' f := by
  have hb : Below wr.heap.size wr (wr.alloc (.cells #[] 3)) := (Below.refl _ _).alloc (Nat.le_refl _) _
  have hown : (wr.alloc (.cells #[] 3)).ownsRow wr.heap.size 3 1 (.slice (some ⟨wr.heap.size, 0, none⟩) 0 0) 0 [] := ⟨rfl, .inr ⟨wr.heap.size, 0, #[], rfl, Nat.le_refl _, heap_alloc_new wr _, Nat.le_refl _, Nat.zero_le _, rfl, rfl⟩⟩
  cases a with
  | none =>
    have hm : m = 0 := by
      rcases h.2.2 with h | ⟨_, _, h, _⟩
      · exact h
      · cases h
    subst hm
    exact ⟨_, _, _, run_append_none9 wr.heap.size _ _ _ c hown, hb, hown⟩
  | some ad =>
    obtain ⟨v', w', e1, e2, e3⟩ := run_append_krow 22 wr.heap.size _ 0 [] hown (some ad) m c f (h.below hb) (fun e => by cases e) (by omega) (by rw [World.size_alloc]; omega)
    rw [List.nil_append, Nat.zero_add] at e2
    obtain ⟨a', c', rfl, _⟩ := KRow.of_own e2
    refine ⟨a', c', w', e1, hb.trans ⟨e3.os, e3.tape, e3.output, e3.size, fun j hj => e3.block j (Nat.lt_of_lt_of_le hj (by rw [World.size_alloc]; omega)) (fun e => ?_)⟩, e2⟩
    have e' : j = wr.heap.size := by simpa [Value.ownBlock] using e
    omega
theorem app2_step {y0 wr : World} {a a2 : Option Addr} {k c c2 : Nat} {f f2 : Nat → Int} (h : OwnII y0 wr a c f a2 c2 f2 k) {x x2 : Int} (hx : x = f k) (hx2 : x2 = f2 k) (hk : k + 1 ≤ 1000000) :
    ∃ a' c' y1, (Builtin.append_ #[22, 22] 22 #[.slice a k c, .slice (some ⟨wr.heap.size, 0, none⟩) 1 1]).run Tryz.prog (wr.alloc (.cells #[.int .i64 x] 3)) = .ok (.slice a' (k + 1) c') y1 ∧
    ∃ a2' c2' y2, (Builtin.append_ #[22, 22] 22 #[.slice a2 k c2, .slice (some ⟨y1.heap.size, 0, none⟩) 1 1]).run Tryz.prog (y1.alloc (.cells #[.int .i64 x2] 3)) = .ok (.slice a2' (k + 1) c2') y2 ∧ OwnII y0 y2 a' c' f a2' c2' f2 (k + 1) := by
  obtain ⟨h1, h2, hap⟩ := h
  obtain ⟨i0, hi, hz0, hz1, hz2⟩ := info_parts infoI
  have hb : Below wr.heap.size wr (wr.alloc (.cells #[.int .i64 x] 3)) := (Below.refl _ _).alloc (Nat.le_refl _) _
  have o1 := own_below h1.2 hb
  have o2 := own_below h2.2 hb
  have hs0 := h1.1.size
  obtain ⟨g1, cap1, y1, r1, o1', q1, hor1, hlt1⟩ := run_append_lies (P := Tryz.prog) (wr.alloc (.cells #[.int .i64 x] 3)) 22 22 y0.heap.size 3 i0 _ 1 8 Tryz.underlying22 hi hz0 hz1 hz2 rfl (by omega) (.slice a k c) k _ o1 ⟨wr.heap.size, 0, none⟩ 1 1 [.int .i64 x] rfl (World.news_of_block (Row.new wr 3 #[.int .i64 x])) (by intro u hu; simp at hu; subst hu; rfl) (by omega) (by unfold maxLen; omega) (by omega) (by rw [World.size_alloc]; omega) _ rfl
  have hne1 : (Value.slice a2 k c2).ownBlock = none ∨ (Value.slice a2 k c2).ownBlock ≠ (Value.slice a k c).ownBlock := by
    cases hv : (Value.slice a k c).ownBlock with
    | none => cases hv2 : (Value.slice a2 k c2).ownBlock with
      | none => exact .inl rfl
      | some b => exact .inr (fun e => by cases e)
    | some b => exact .inr (hap b hv)
  have o2' := o2.kept q1 hne1
  have hap1 : (Value.slice a2 k c2).ownBlock ≠ some g1 := by
    rcases hor1 with e | e
    · exact hap g1 e
    · intro e2
      have := (o2.lt g1 e2).2
      omega
  have b1 : Below y0.heap.size y0 y1 := (h1.1.trans (hb.mono hs0)).grown q1 (by rw [World.size_alloc]; omega) (fun q hq => (o1.lt q hq).1)
  have hs1 := b1.size
  have hb2 : Below y1.heap.size y1 (y1.alloc (.cells #[.int .i64 x2] 3)) := (Below.refl _ _).alloc (Nat.le_refl _) _
  have o1a := own_below o1' hb2
  have o2a := own_below o2' hb2
  obtain ⟨g2, cap2, y2, r2, o2b, q2, hor2, hlt2⟩ := run_append_lies (P := Tryz.prog) (y1.alloc (.cells #[.int .i64 x2] 3)) 22 22 y0.heap.size 3 i0 _ 1 8 Tryz.underlying22 hi hz0 hz1 hz2 rfl (by omega) (.slice a2 k c2) k _ o2a ⟨y1.heap.size, 0, none⟩ 1 1 [.int .i64 x2] rfl (World.news_of_block (Row.new y1 3 #[.int .i64 x2])) (by intro u hu; simp at hu; subst hu; rfl) (by omega) (by unfold maxLen; omega) (by omega) (by rw [World.size_alloc]; omega) _ rfl
  have o1b := o1a.kept q2 (.inr (fun e => hap1 (by rw [← e]; rfl)))
  have b2 : Below y0.heap.size y0 y2 := (b1.trans (hb2.mono hs1)).grown q2 (by rw [World.size_alloc]; omega) (fun q hq => (o2a.lt q hq).1)
  have hg12 : g1 ≠ g2 := by
    intro e
    rcases hor2 with e2 | e2
    · exact hap1 (by rw [e2, e])
    · have := hlt1
      rw [World.size_alloc] at e2
      omega
  have e1 : kcs .i64 f k ++ [.int .i64 x] = kcs .i64 f (k + 1) := by rw [hx]; rfl
  have e2 : kcs .i64 f2 k ++ [.int .i64 x2] = kcs .i64 f2 (k + 1) := by rw [hx2]; rfl
  rw [e1] at o1b
  rw [e2] at o2b
  refine ⟨some ⟨g1, 0, none⟩, cap1, y1, r1, some ⟨g2, 0, none⟩, cap2, y2, r2, ⟨b2, o1b⟩, ⟨b2, o2b⟩, fun b hb e => ?_⟩
  have ea : g1 = b := by simpa [Value.ownBlock] using hb
  have eb : g2 = b := by simpa [Value.ownBlock] using e
  omega
theorem OwnII.right {y0 w : World} {a a2 : Option Addr} {k c c2 : Nat} {f f2 : Nat → Int} (h : OwnII y0 w a c f a2 c2 f2 k) : KRow w .i64 a2 k c2 f2 := h.2.1.krow
end Go.Proofs.YtpmcbnliogjknaaGreatDoor

namespace Go.Proofs.YtpmcbnliogjknaaGreatDoor
open Go.RowKit
theorem ax_congr9 {f f' : Nat → Int} : ∀ {n : Nat}, (∀ j, j < n → f j = f' j) → axB f n = axB f' n ∧ rm f n = rm f' n
  | 0, _ => ⟨rfl, rfl⟩
  | n + 1, h => by
    obtain ⟨h1, h2⟩ := ax_congr9 (n := n) (fun j hj => h j (by omega))
    have e : rm f (n + 1) = rm f' (n + 1) := by
      show rm f n * max (f n) 1 = rm f' n * max (f' n) 1
      rw [h2, h n (by omega)]
    refine ⟨?_, e⟩
    show (axB f n && (decide (0 ≤ f n) && decide (rm f (n + 1) ≤ 4096))) = (axB f' n && (decide (0 ≤ f' n) && decide (rm f' (n + 1) ≤ 4096)))
    rw [h1, e, h n (by omega)]
theorem sh_congr {f f' : Nat → Int} {n : Nat} (h : ∀ j, j < n → f j = f' j) : shB f n = shB f' n := by
  unfold shB
  rw [(ax_congr9 h).1]
end Go.Proofs.YtpmcbnliogjknaaGreatDoor

namespace Go.Proofs.YtpmcbnliogjknaaGreatDoor
open Go.RowKit
theorem inB_lt {f d : Nat → Int} : ∀ {n : Nat}, inB f d n = true → ∀ j, j < n → 0 ≤ d j ∧ d j < f j
  | 0, _, j, hj => absurd hj (Nat.not_lt_zero _)
  | n + 1, h, j, hj => by
    have h : (inB f d n && (decide (0 ≤ d n) && decide (d n < f n))) = true := h
    rw [Bool.and_eq_true, Bool.and_eq_true, decide_eq_true_eq, decide_eq_true_eq] at h
    by_cases e : j = n
    · subst e; exact h.2
    · exact inB_lt h.1 j (by omega)
theorem pl_congr9 {S d d' : Nat → Int} : ∀ {r : Nat}, (∀ j, j < r → d j = d' j) → inB S d r = inB S d' r ∧ plc S d r = plc S d' r
  | 0, _ => ⟨rfl, rfl⟩
  | r + 1, h => by
    obtain ⟨h1, h2⟩ := pl_congr9 (S := S) (r := r) (fun j hj => h j (by omega))
    have h3 := h r (by omega)
    constructor
    · show (inB S d r && (decide (0 ≤ d r) && decide (d r < S r))) = (inB S d' r && (decide (0 ≤ d' r) && decide (d' r < S r)))
      rw [h1, h3]
    · show plc S d r * S r + d r = plc S d' r * S r + d' r
      rw [h2, h3]
theorem pkG_same {S T T' : Nat → Int} {r : Nat} {F F' : Nat → Nat → Int} (hsh : shB T r = true) (hT : ∀ j, j < r → T j = T' j) (hF : ∀ j, j < r → ∀ q : Nat, (q : Int) < T j → F j q = F' j q) {k : Nat} (hk : k < (itm T r).toNat) : pkG S T r F k = pkG S T' r F' k := by
  obtain ⟨_, hax⟩ := sh_ax hsh
  have hk2 : (k : Int) < itm T r := by omega
  have hp := itm_pos hax (by omega) hk2
  have hd := inB_lt (dgs_in hp (by omega) hk2).1
  have e : ∀ j, j < r → dgs T r (k : Nat) j = dgs T' r (k : Nat) j := fun j _ => dgs_congr _ _ hT
  obtain ⟨h1, h2⟩ := pkI_congr (F := F) (F' := F') (d := dgs T r (k : Nat)) (S := S) (r := r) (fun j hj => hF j hj _ (by have := hd j hj; omega))
  have h3 : ∀ j, j < r → pkI F' (dgs T r (k : Nat)) j = pkI F' (dgs T' r (k : Nat)) j := fun j hj => by unfold pkI; rw [e j hj]
  obtain ⟨h4, h5⟩ := pl_congr9 (S := S) h3
  unfold pkG
  rw [h1, h2, h4, h5]
theorem tk_same (drop : Bool) {p s : Int} (hs : 0 ≤ s ∧ s ≤ 4096) :
    (tkN drop (bnd 4097 p) s = tkN drop (bnd 5000 p) s ∧ (0 < tkN drop (bnd 4097 p) s → tkF drop (bnd 4097 p) s = tkF drop (bnd 5000 p) s)) ∨ (4096 < tkN drop (bnd 4097 p) s ∧ 4096 < tkN drop (bnd 5000 p) s) := by
  have h1 : (p < -4097 ∧ bnd 4097 p = -4097 ∧ bnd 5000 p < -4097) ∨ (-4097 ≤ p ∧ p ≤ 4097 ∧ bnd 4097 p = p ∧ bnd 5000 p = p) ∨ (4097 < p ∧ bnd 4097 p = 4097 ∧ 4097 < bnd 5000 p) := by unfold bnd; omega
  generalize bnd 4097 p = a at *
  generalize bnd 5000 p = b at *
  rcases h1 with ⟨_, rfl, h⟩ | ⟨_, _, rfl, rfl⟩ | ⟨_, rfl, h⟩
  · cases drop with
    | true =>
      left
      have e1 : tkN true (-4097) s = 0 := by show max (s - ((-4097 : Int).natAbs : Int)) 0 = 0; omega
      have e2 : tkN true b s = 0 := by show max (s - (b.natAbs : Int)) 0 = 0; omega
      rw [e1, e2]
      exact ⟨rfl, fun h => absurd h (by omega)⟩
    | false =>
      right
      have e1 : tkN false (-4097) s = 4097 := rfl
      have e2 : tkN false b s = (b.natAbs : Int) := rfl
      rw [e1, e2]
      omega
  · exact .inl ⟨rfl, fun _ => rfl⟩
  · cases drop with
    | true =>
      left
      have e1 : tkN true 4097 s = 0 := by show max (s - ((4097 : Int).natAbs : Int)) 0 = 0; omega
      have e2 : tkN true b s = 0 := by show max (s - (b.natAbs : Int)) 0 = 0; omega
      rw [e1, e2]
      exact ⟨rfl, fun h => absurd h (by omega)⟩
    | false =>
      right
      have e1 : tkN false 4097 s = 4097 := rfl
      have e2 : tkN false b s = (b.natAbs : Int) := rfl
      rw [e1, e2]
      omega
theorem sh_le {T : Nat → Int} {r j : Nat} (hj : j < r) (h : 4096 < T j) : shB T r = false := by
  cases e : shB T r with
  | false => rfl
  | true => have := (ax_le4 e hj).2; omega
theorem sh_count {T : Nat → Int} {r : Nat} (h : shB T r = true) : r ≤ 8 ∧ (itm T r).toNat ≤ 4096 := by
  obtain ⟨h1, h2⟩ := sh_ax h
  have := ax_bd h2
  omega
theorem pa_same (drop : Bool) {P S : Nat → Int} {n : Nat} (hS : ∀ j, j < n → 0 ≤ S j ∧ S j ≤ 4096) :
    shB (lnF (paN drop 4097 P S)) n = shB (lnF (paN drop 5000 P S)) n ∧ (shB (lnF (paN drop 5000 P S)) n = true → (∀ j, j < n → lnF (paN drop 4097 P S) j = lnF (paN drop 5000 P S) j) ∧ ∀ j, j < n → ∀ q : Nat, (q : Int) < lnF (paN drop 4097 P S) j → paF drop 4097 P S j q = paF drop 5000 P S j q) := by
  by_cases hall : ∀ j, j < n → (tkN drop (bnd 4097 (P j)) (S j) = tkN drop (bnd 5000 (P j)) (S j) ∧ (0 < tkN drop (bnd 4097 (P j)) (S j) → tkF drop (bnd 4097 (P j)) (S j) = tkF drop (bnd 5000 (P j)) (S j)))
  · have e : ∀ j, j < n → lnF (paN drop 4097 P S) j = lnF (paN drop 5000 P S) j := fun j hj => by
      show ((tkN drop (bnd 4097 (P j)) (S j)).toNat : Int) = ((tkN drop (bnd 5000 (P j)) (S j)).toNat : Int)
      rw [(hall j hj).1]
    refine ⟨sh_congr e, fun _ => ⟨e, fun j hj q hq => ?_⟩⟩
    have hq : (q : Int) < ((tkN drop (bnd 4097 (P j)) (S j)).toNat : Int) := hq
    show tkF drop (bnd 4097 (P j)) (S j) + (q : Int) = tkF drop (bnd 5000 (P j)) (S j) + (q : Int)
    rw [(hall j hj).2 (by omega)]
  · obtain ⟨j, hj, hn⟩ : ∃ j, j < n ∧ ¬ (tkN drop (bnd 4097 (P j)) (S j) = tkN drop (bnd 5000 (P j)) (S j) ∧ (0 < tkN drop (bnd 4097 (P j)) (S j) → tkF drop (bnd 4097 (P j)) (S j) = tkF drop (bnd 5000 (P j)) (S j))) := Classical.byContradiction (fun h => hall (fun j hj => Classical.byContradiction (fun h2 => h ⟨j, hj, h2⟩)))
    obtain ⟨h1, h2⟩ := (tk_same drop (hS j hj)).resolve_left hn
    have e1 : shB (lnF (paN drop 4097 P S)) n = false := sh_le hj (by show 4096 < ((tkN drop (bnd 4097 (P j)) (S j)).toNat : Int); omega)
    have e2 : shB (lnF (paN drop 5000 P S)) n = false := sh_le hj (by show 4096 < ((tkN drop (bnd 5000 (P j)) (S j)).toNat : Int); omega)
    rw [e1, e2]
    exact ⟨rfl, fun h => by cases h⟩
/-- Two answers that are one. -/
def Cmp (E : Int) (r : Nat) (S T T' : Nat → Int) (F F' : Nat → Nat → Int) : Prop := E = 0 → r ≤ 8 ∧ (itm T r).toNat ≤ 1000000 ∧ (itm T r).toNat = (itm T' r).toNat ∧ (∀ j, j < r → T j = T' j) ∧ ∀ j, j < (itm T r).toNat → pkG S T r F j = pkG S T' r F' j
theorem Cmp.of {E : Int} {r : Nat} {S T T' : Nat → Int} {F F' : Nat → Nat → Int} (hs : E = 0 → shB T r = true) (hT : E = 0 → ∀ j, j < r → T j = T' j) (hF : E = 0 → ∀ j, j < r → ∀ q : Nat, (q : Int) < T j → F j q = F' j q) : Cmp E r S T T' F F' := fun e => by
  obtain ⟨h1, h2⟩ := sh_count (hs e)
  exact ⟨h1, by omega, by rw [itm_congr (hT e)], hT e, fun j hj => pkG_same (hs e) (hT e) (hF e) hj⟩
theorem paS_bd {S : Nat → Int} {r n : Nat} (hsh : shB S r = true) (h : r = 0 ∨ n = r) : ∀ j, j < n → 0 ≤ paS r S j ∧ paS r S j ≤ 4096 := fun j hj => by
  unfold paS
  by_cases e : r = 0
  · rw [if_pos e]; omega
  · rw [if_neg e]
    exact ax_le4 hsh (by have := h.resolve_left e; omega)
theorem pa_cmp (drop : Bool) (r0 : Nat) (ch0 : Bool) (L0 : Nat) (P0 : Nat → Int) (Q0 : Nat → Nat) (S : Nat → Int) (r : Nat) (hsh : shB S r = true) :
    paE drop 4097 r0 ch0 L0 P0 Q0 S r = paE drop 5000 r0 ch0 L0 P0 Q0 S r ∧ Cmp (paE drop 5000 r0 ch0 L0 P0 Q0 S r) L0 (paS r S) (lnF (paN drop 4097 P0 (paS r S))) (lnF (paN drop 5000 P0 (paS r S))) (paF drop 4097 P0 (paS r S)) (paF drop 5000 P0 (paS r S)) := by
  unfold paE
  by_cases hl : liE r0 (whC ch0 L0 P0 Q0) = 0
  · rw [if_pos hl, if_pos hl]
    by_cases hr : r = 0 ∨ L0 = r
    · obtain ⟨h1, h2⟩ := pa_same drop (P := P0) (paS_bd hsh hr)
      rw [if_pos hr, if_pos hr]
      unfold pkE
      rw [h1]
      refine ⟨rfl, ?_⟩
      by_cases h8 : 8 < L0
      · rw [if_pos h8]
        exact Cmp.of (fun e => by cases e) (fun e => by cases e) (fun e => by cases e)
      · rw [if_neg h8]
        cases hs : shB (lnF (paN drop 5000 P0 (paS r S))) L0 with
        | false =>
          rw [if_neg (by decide)]
          exact Cmp.of (fun e => by cases e) (fun e => by cases e) (fun e => by cases e)
        | true => exact Cmp.of (fun _ => h1.trans hs) (fun _ => (h2 hs).1) (fun _ => (h2 hs).2)
    · rw [if_neg hr, if_neg hr]
      exact ⟨rfl, Cmp.of (fun e => by cases e) (fun e => by cases e) (fun e => by cases e)⟩
  · rw [if_neg hl, if_neg hl]
    exact ⟨rfl, Cmp.of (fun e => absurd e hl) (fun e => absurd e hl) (fun e => absurd e hl)⟩
theorem showsD_any {x p : Array Value} {E : Int} {S S' : Nat → Int} {r : Nat} {ch : Bool} {M M' : Nat} {g fP : Nat → Int} {fQ : Nat → Nat} {g' : Nat → Int} {fB : Nat → Bool} {fS fT : Nat → ByteArray} {w : World} (h : MoR w x E S r ch M g fP fQ) (hp : PoR w p E S' r ch M' g' fB fS fT)
    (hr : E = 0 → r ≤ 8 ∧ M ≤ 1000000 ∧ M = M' ∧ Small ch M fP fQ ∧ (∀ j, j < r → S j = S' j) ∧ (∀ j, j < tnO ch M → g j = g' j) ∧ ∀ j, j < nnO ch M → rB (fP j) = fB j ∧ rS (fP j) = fS j ∧ str (dec (fQ j)) = fT j) :
    Calls Tryz.prog 12 #[.agg x, .int .i64 E, .agg p, .int .i64 E] w fun e w' => e = .returned (.bool true) ∧ Below w.heap.size w w' := by
  by_cases hE : E = 0
  · subst hE
    obtain ⟨h1, h2, h3, h4, h5, h6, h7⟩ := hr rfl
    subst h3
    exact showsOkC_any x p w ⟨S, r, ch, M, g, fP, fQ, S', g', fB, fS, fT, h.2.1 rfl, hp.2 rfl, h1, h2, h4, h5, h6, h7⟩
  · rw [h.2.2 hE]
    obtain ⟨⟨sa, sn, sc, ch, ta, tn, tc, na, nn, nc, rfl⟩, _⟩ := hp
    exact showsNoC_any E hE _ _ _ _ _ _ _ _ _ _ w
theorem Good.cmp {S0 : Nat → Int} {r0 : Nat} {ch : Bool} {L : Nat} {fB : Nat → Bool} {fS fT : Nat → ByteArray} (hG : Good S0 r0 ch L fB fS fT) {E : Int} {r : Nat} {S T T' : Nat → Int} {F F' : Nat → Nat → Int} (h : Cmp E r S T T' F F') (g : Nat → Int) :
    E = 0 → r ≤ 8 ∧ (itm T r).toNat ≤ 1000000 ∧ (itm T r).toNat = (itm T' r).toNat ∧ Small ch (itm T r).toNat (fun j => elP L (gP fB fS fT) (pkG S T r F j)) (fun j => elQ L (gQ fB fS fT) (pkG S T r F j)) ∧ (∀ j, j < r → T j = T' j) ∧ (∀ j, j < tnO ch (itm T r).toNat → (fun j => elC L g 32 (pkG S T r F j)) j = (fun j => elC L g 32 (pkG S T' r F' j)) j) ∧ ∀ j, j < nnO ch (itm T r).toNat → rB ((fun j => elP L (gP fB fS fT) (pkG S T r F j)) j) = (fun j => elB L fB (pkG S T' r F' j)) j ∧ rS ((fun j => elP L (gP fB fS fT) (pkG S T r F j)) j) = (fun j => elS L fS (rS 0) (pkG S T' r F' j)) j ∧ str (dec ((fun j => elQ L (gQ fB fS fT) (pkG S T r F j)) j)) = (fun j => elS L fT (str (dec 1)) (pkG S T' r F' j)) j := fun e => by
  obtain ⟨h1, h2, h3, h4, h5⟩ := h e
  obtain ⟨e1, e2⟩ := hG.els (fun j => pkG S T r F j) (itm T r).toNat
  have hn := nnO_le ch (itm T r).toNat
  refine ⟨h1, h2, h3, e1, h4, fun j hj => ?_, fun j hj => ?_⟩
  · show elC L g 32 (pkG S T r F j) = elC L g 32 (pkG S T' r F' j)
    rw [h5 j (by omega)]
  · have := e2 j hj
    show rB (elP L (gP fB fS fT) (pkG S T r F j)) = elB L fB (pkG S T' r F' j) ∧ rS (elP L (gP fB fS fT) (pkG S T r F j)) = elS L fS (rS 0) (pkG S T' r F' j) ∧ str (dec (elQ L (gQ fB fS fT) (pkG S T r F j))) = elS L fT (str (dec 1)) (pkG S T' r F' j)
    rw [← h5 j (by omega)]
    exact this
end Go.Proofs.YtpmcbnliogjknaaGreatDoor
