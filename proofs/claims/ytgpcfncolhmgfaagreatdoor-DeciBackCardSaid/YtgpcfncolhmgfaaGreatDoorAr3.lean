/-
  Package array: Nums, Chars, by contract.
-/
import Derived.Test.YtgpcfncolhmgfaaGreatDoorAr2
namespace Go.Proofs.YtgpcfncolhmgfaaGreatDoor
open Go.RowKit

/-- Cells that are an array of numbers: n of them, of the first r axes of f. -/
def NumArr (w : World) (cs : Array Value) (f : Nat → Int) (r n : Nat) (fP : Nat → Int) (fQ : Nat → Nat) : Prop := ∃ na nc, cs = arrC false ((r : Int) - 1) (dm f r) na n nc none 0 0 ∧ RRow w na n nc fP fQ
/-- Cells that are an array of characters. -/
def ChrArr (w : World) (cs : Array Value) (f : Nat → Int) (r n : Nat) (g : Nat → Int) : Prop := ∃ ta tc, cs = arrC true ((r : Int) - 1) (dm f r) none 0 0 ta n tc ∧ KRow w .i32 ta n tc g
theorem NumArr.below {w w' : World} {cs : Array Value} {f : Nat → Int} {r n : Nat} {fP : Nat → Int} {fQ : Nat → Nat} (h : NumArr w cs f r n fP fQ) (hb : Below w.heap.size w w') : NumArr w' cs f r n fP fQ := by
  obtain ⟨na, nc, h1, h2⟩ := h
  exact ⟨na, nc, h1, h2.below hb⟩
theorem ChrArr.below {w w' : World} {cs : Array Value} {f : Nat → Int} {r n : Nat} {g : Nat → Int} (h : ChrArr w cs f r n g) (hb : Below w.heap.size w w') : ChrArr w' cs f r n g := by
  obtain ⟨na, nc, h1, h2⟩ := h
  exact ⟨na, nc, h1, h2.below hb⟩
/-- The zero value: a list without numbers. -/
def zerC : Array Value := arrC false 0 (fun _ => 0) none 0 0 none 0 0
theorem dm_zero : dm (fun _ => 0) 1 = fun _ => 0 := by funext j; unfold dm; split <;> rfl
theorem NumArr.zero (w : World) (fP : Nat → Int) (fQ : Nat → Nat) : NumArr w zerC (fun _ => 0) 1 0 fP fQ := ⟨none, 0, by rw [dm_zero]; rfl, RRow.nought _ _ _ (Nat.zero_le _) _ _⟩

/-- What Nums answers. -/
def NumsTold (b : Bool) (f : Nat → Int) (r n : Nat) (fP : Nat → Int) (fQ : Nat → Nat) (w w' : World) (e : Ending) : Prop :=
  ∃ cs, e = .returned (.tuple #[.agg cs, .bool b]) ∧ (if b then NumArr w' cs f r n fP fQ else cs = zerC) ∧ Below w.heap.size w w'
def CharsTold (b : Bool) (f : Nat → Int) (r n : Nat) (g : Nat → Int) (w w' : World) (e : Ending) : Prop :=
  ∃ cs, e = .returned (.tuple #[.agg cs, .bool b]) ∧ (if b then ChrArr w' cs f r n g else cs = zerC) ∧ Below w.heap.size w w'
theorem KRow.setAt {w : World} {ki : IntKind} {a : Option Addr} {n c : Nat} {f : Nat → Int} {p : Addr} {x : Value} (h : KRow w ki a n c f) (hp : w.cell? p = some x) (hx : ∀ z, x ≠ .int ki z) (v : Value) : KRow (w.setCell p v) ki a n c f := by
  refine ⟨h.1, h.2.1, h.2.2.imp id ?_⟩
  rintro ⟨b, off, rfl, hl, hc⟩
  refine ⟨b, off, rfl, by simpa using hl, fun j hj => ?_⟩
  rw [World.cell?_setCell_other _ _ _ _ (fun e => by subst e; rw [hc j hj] at hp; exact hx _ (Option.some.inj hp).symm)]
  exact hc j hj
/-- No limb lies in the block. -/
def NoLimb (w : World) (g : Nat) : Prop := ∀ o z, w.cell? ⟨g, o, none⟩ ≠ some (.int .u32 z)
theorem NatIs.away {w w' : World} {v : Value} {N g : Nat} (h : NatIs w v N) (hn : NoLimb w g) (hf : Far g w w') : NatIs w' v N := by
  obtain ⟨a, n, c, f, rfl, ⟨h1, h2, h3, h4⟩, h5, h6⟩ := h
  refine ⟨a, n, c, f, rfl, ⟨h1, h2, h3, ?_⟩, h5, h6⟩
  rcases h4 with h4 | ⟨b, off, rfl, hb, hc⟩
  · exact .inl h4
  · refine .inr ⟨b, off, rfl, Nat.lt_of_lt_of_le hb hf.size, fun j hj => ?_⟩
    have hj' := hc j hj
    rw [hf.cell (a := ⟨b, off + j, none⟩) (fun e => by subst e; exact hn _ _ hj') hb]
    exact hj'
theorem RatAt.away {w w' : World} {a : Option Addr} {n c : Nat} {m : Bool} {a2 : Option Addr} {n2 c2 : Nat} {P : Int} {Q g : Nat} (h : RatAt w a n c m a2 n2 c2 P Q) (hn : NoLimb w g) (hf : Far g w w') : RatAt w' a n c m a2 n2 c2 P Q := ⟨⟨h.1.1, h.1.2.away hn hf⟩, h.2.away hn hf⟩
theorem RRow.away {w w' : World} {sa : Option Addr} {n c : Nat} {fP : Nat → Int} {fQ : Nat → Nat} {g : Nat} (h : RRow w sa n c fP fQ) (hn : NoLimb w g) (hg : n = 0 ∨ ∀ x, sa = some x → x.block ≠ g) (hf : Far g w w') : RRow w' sa n c fP fQ := by
  refine ⟨h.1, h.2.1, ?_⟩
  rcases h.2.2 with h0 | ⟨b, off, rfl, hl, hcc⟩
  · exact .inl h0
  · rcases hg with h0 | hg
    · exact .inl h0
    · have hbg : b ≠ g := hg _ rfl
      refine .inr ⟨b, off, rfl, Nat.lt_of_lt_of_le hl hf.size, fun j hj => ?_⟩
      obtain ⟨a', n', c', m', a2', n2', c2', e1, e2, e3, hq⟩ := hcc j hj
      exact ⟨a', n', c', m', a2', n2', c2', (hf.cell (a := ⟨b, _, none⟩) hbg hl).trans e1, (hf.cell (a := ⟨b, _, none⟩) hbg hl).trans e2, (hf.cell (a := ⟨b, _, none⟩) hbg hl).trans e3, hq.away hn hf⟩
theorem KRow.away {w w' : World} {ki : IntKind} {sa : Option Addr} {n c : Nat} {f : Nat → Int} {g : Nat} (h : KRow w ki sa n c f) (hg : n = 0 ∨ ∀ x, sa = some x → x.block ≠ g) (hf : Far g w w') : KRow w' ki sa n c f := by
  refine ⟨h.1, h.2.1, ?_⟩
  rcases h.2.2 with h0 | ⟨b, off, rfl, hl, hcc⟩
  · exact .inl h0
  · rcases hg with h0 | hg
    · exact .inl h0
    · exact .inr ⟨b, off, rfl, Nat.lt_of_lt_of_le hl hf.size, fun j hj => (hf.cell (a := ⟨b, off + j, none⟩) (show b ≠ g from hg ⟨b, off, none⟩ rfl) hl).trans (hcc j hj)⟩
/-- The cells of an array hold no limb, no character, and no number of the language. -/
theorem arr_cells {ch : Bool} {more : Int} {d : Nat → Int} {na : Option Addr} {nn nc : Nat} {ta : Option Addr} {tn tc : Nat} (o : Nat) (v : Value) (h : (arrC ch more d na nn nc ta tn tc)[o]? = some v) :
    (o = 0 ∧ ∃ b, v = .bool b) ∨ (1 ≤ o ∧ o < 10 ∧ ∃ z, v = .int .i64 z) ∨ (10 ≤ o ∧ o < 12 ∧ ∃ a n c, v = .slice a n c) := by
  unfold arrC at h
  rcases o with _ | _ | _ | _ | _ | _ | _ | _ | _ | _ | _ | _ | o
  · exact .inl ⟨rfl, _, (Option.some.inj h).symm⟩
  all_goals first
    | exact .inr (.inl ⟨by omega, by omega, _, (Option.some.inj h).symm⟩)
    | exact .inr (.inr ⟨by omega, by omega, _, _, _, (Option.some.inj h).symm⟩)
    | (exfalso; simp at h)
theorem Row.noLimb {w : World} {g : Nat} {t : TypeId} {ch : Bool} {more : Int} {d : Nat → Int} {na : Option Addr} {nn nc : Nat} {ta : Option Addr} {tn tc : Nat} (h : Row w g t (arrC ch more d na nn nc ta tn tc)) : NoLimb w g := by
  intro o z hc
  rw [h.cell o] at hc
  rcases arr_cells o _ hc with ⟨_, _, e⟩ | ⟨_, _, _, e⟩ | ⟨_, _, _, _, _, e⟩ <;> cases e
theorem RRow.ne {w : World} {sa : Option Addr} {n c : Nat} {fP : Nat → Int} {fQ : Nat → Nat} {g : Nat} {t : TypeId} {ch : Bool} {more : Int} {d : Nat → Int} {na : Option Addr} {nn nc : Nat} {ta : Option Addr} {tn tc : Nat} (h : RRow w sa n c fP fQ) (hr : Row w g t (arrC ch more d na nn nc ta tn tc)) :
    n = 0 ∨ ∀ x, sa = some x → x.block ≠ g := by
  rcases Nat.eq_zero_or_pos n with h0 | h0
  · exact .inl h0
  · refine .inr fun x hx e => ?_
    obtain ⟨b, off, a', n', c', m', a2', n2', c2', e0, hb, e1, e2, e3, _⟩ := h.get h0
    rw [hx] at e0
    obtain rfl := Option.some.inj e0
    subst e
    rw [hr.cell] at e1 e2
    rcases arr_cells _ _ e1 with ⟨_, _, e⟩ | ⟨_, _, _, e⟩ | ⟨_, _, _⟩
    · cases e
    · cases e
    · rcases arr_cells _ _ e2 with ⟨_, _, e⟩ | ⟨_, _, _, e⟩ | ⟨_, _, _, _, _, e⟩
      · omega
      · cases e
      · cases e
theorem KRow.ne {w : World} {ki : IntKind} {sa : Option Addr} {n c : Nat} {f : Nat → Int} {g : Nat} {t : TypeId} {ch : Bool} {more : Int} {d : Nat → Int} {na : Option Addr} {nn nc : Nat} {ta : Option Addr} {tn tc : Nat} (h : KRow w ki sa n c f) (hk : ki ≠ .i64) (hr : Row w g t (arrC ch more d na nn nc ta tn tc)) :
    n = 0 ∨ ∀ x, sa = some x → x.block ≠ g := by
  rcases Nat.eq_zero_or_pos n with h0 | h0
  · exact .inl h0
  · refine .inr fun x hx e => ?_
    obtain ⟨b, off, e0, hb, e1⟩ := h.get h0
    rw [hx] at e0
    obtain rfl := Option.some.inj e0
    subst e
    rw [hr.cell] at e1
    rcases arr_cells _ _ e1 with ⟨_, _, e⟩ | ⟨_, _, _, e⟩ | ⟨_, _, _, _, _, e⟩
    · cases e
    · injection e with e; exact hk e
    · cases e
theorem RRow.len {w : World} {a : Option Addr} {n c : Nat} {fP : Nat → Int} {fQ : Nat → Nat} (h : RRow w a n c fP fQ) : n ≤ c ∧ n ≤ 9223372036854775807 := by
  have h1 := h.1
  have h2 := h.2.1
  unfold maxLen at h2
  exact ⟨h1, by omega⟩

end Go.Proofs.YtgpcfncolhmgfaaGreatDoor
