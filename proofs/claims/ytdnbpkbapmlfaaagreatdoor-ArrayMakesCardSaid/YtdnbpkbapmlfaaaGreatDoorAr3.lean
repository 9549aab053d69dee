/-
  Package array: Nums, Chars, by contract.
-/
import Derived.Test.YtdnbpkbapmlfaaaGreatDoorAr2
namespace Go.Proofs.YtdnbpkbapmlfaaaGreatDoor
open Go.RowKit

/-- Cells that are an array of numbers: n of them, of the first r axes of f. -/
def NumArr (w : World) (cs : Array Value) (f : Nat → Int) (r n : Nat) (fP : Nat → Int) (fQ : Nat → Nat) : Prop := ∃ na nc, cs = arrC false ((r : Int) - 1) (dm f r) na n nc none 0 0 ∧ RRow w na n nc fP fQ
/-- Cells that are an array of characters. -/
def ChrArr (w : World) (cs : Array Value) (f : Nat → Int) (r n : Nat) (g : Nat → Int) : Prop := ∃ ta tc, cs = arrC true ((r : Int) - 1) (dm f r) none 0 0 ta n tc ∧ KRow w .i32 ta n tc g
theorem NumArr.below {w w' : World} {cs : Array Value} {f : Nat → Int} {r n : Nat} {fP : Nat → Int} {fQ : Nat → Nat} (h : NumArr w cs f r n fP fQ) (hb : Below w.heap.size w w') : NumArr w' cs f r n fP fQ := by
  obtain ⟨na, nc, h1, h2⟩ := h
  exact ⟨na, nc, h1, h2.below hb⟩
theorem ChrArr.below {w w' : World} {cs : Array Value} {f : Nat → Int} {r n : Nat} {g : Nat → Int} (h : ChrArr w cs f r n g) (hb : Below w.heap.size w w') : ChrArr w' cs f r n g := by
  obtain ⟨na, nc, h1, h2⟩ := h
  exact ⟨na, nc, h1, h2.below hb⟩
/-- The zero value: a list without numbers. -/
def zerC : Array Value := arrC false 0 (fun _ => 0) none 0 0 none 0 0
theorem dm_zero : dm (fun _ => 0) 1 = fun _ => 0 := by funext j; unfold dm; split <;> rfl
theorem NumArr.zero (w : World) (fP : Nat → Int) (fQ : Nat → Nat) : NumArr w zerC (fun _ => 0) 1 0 fP fQ := ⟨none, 0, by rw [dm_zero]; rfl, RRow.nought _ _ _ (Nat.zero_le _) _ _⟩

/-- What Nums answers. -/
def NumsTold (b : Bool) (f : Nat → Int) (r n : Nat) (fP : Nat → Int) (fQ : Nat → Nat) (w w' : World) (e : Ending) : Prop :=
  ∃ cs, e = .returned (.tuple #[.agg cs, .bool b]) ∧ (if b then NumArr w' cs f r n fP fQ else cs = zerC) ∧ Below w.heap.size w w'
def CharsTold (b : Bool) (f : Nat → Int) (r n : Nat) (g : Nat → Int) (w w' : World) (e : Ending) : Prop :=
  ∃ cs, e = .returned (.tuple #[.agg cs, .bool b]) ∧ (if b then ChrArr w' cs f r n g else cs = zerC) ∧ Below w.heap.size w w'
theorem Row.set {w : World} {g : Nat} {t : TypeId} {cs : Array Value} (h : Row w g t cs) (i : Nat) (v : Value) : Row (w.setCell ⟨g, i, none⟩ v) g t (cs.setIfInBounds i v) := heap_setCell_same w g i cs t v h
theorem Row.far {w : World} {g : Nat} {t : TypeId} {cs : Array Value} (h : Row w g t cs) {a : Addr} (e : g ≠ a.block) (v : Value) : Row (w.setCell a v) g t cs := (heap_setCell_other w a g v e).trans h
theorem KRow.setAt {w : World} {ki : IntKind} {a : Option Addr} {n c : Nat} {f : Nat → Int} {p : Addr} {x : Value} (h : KRow w ki a n c f) (hp : w.cell? p = some x) (hx : ∀ z, x ≠ .int ki z) (v : Value) : KRow (w.setCell p v) ki a n c f := by
  refine ⟨h.1, h.2.1, h.2.2.imp id ?_⟩
  rintro ⟨b, off, rfl, hl, hc⟩
  refine ⟨b, off, rfl, by simpa using hl, fun j hj => ?_⟩
  rw [World.cell?_setCell_other _ _ _ _ (fun e => by subst e; rw [hc j hj] at hp; exact hx _ (Option.some.inj hp).symm)]
  exact hc j hj
/-- Another world in which one block alone may have turned. -/
structure Far (g : Nat) (w w' : World) : Prop where
  size : w.heap.size ≤ w'.heap.size
  block : ∀ k, k ≠ g → k < w.heap.size → w'.heap[k]? = w.heap[k]?
theorem Far.setCell (w : World) (g o : Nat) (v : Value) : Far g w (w.setCell ⟨g, o, none⟩ v) := ⟨by simp, fun k hk _ => heap_setCell_other w ⟨g, o, none⟩ k v hk⟩
theorem Far.setRow (w : World) (g : Nat) (cs : Array Value) : Far g w (w.setRow g cs) := ⟨by simp, fun k hk _ => setRow_other w g k cs hk⟩
theorem Far.cell {g : Nat} {w w' : World} (h : Far g w w') {a : Addr} (hg : a.block ≠ g) (hl : a.block < w.heap.size) : w'.cell? a = w.cell? a := World.cell?_of_block (h.block _ hg hl)
/-- No limb lies in the block. -/
def NoLimb (w : World) (g : Nat) : Prop := ∀ o z, w.cell? ⟨g, o, none⟩ ≠ some (.int .u32 z)
theorem NatIs.away {w w' : World} {v : Value} {N g : Nat} (h : NatIs w v N) (hn : NoLimb w g) (hf : Far g w w') : NatIs w' v N := by
  obtain ⟨a, n, c, f, rfl, ⟨h1, h2, h3, h4⟩, h5, h6⟩ := h
  refine ⟨a, n, c, f, rfl, ⟨h1, h2, h3, ?_⟩, h5, h6⟩
  rcases h4 with h4 | ⟨b, off, rfl, hb, hc⟩
  · exact .inl h4
  · refine .inr ⟨b, off, rfl, Nat.lt_of_lt_of_le hb hf.size, fun j hj => ?_⟩
    have hj' := hc j hj
    rw [hf.cell (a := ⟨b, off + j, none⟩) (fun e => by subst e; exact hn _ _ hj') hb]
    exact hj'
theorem RatAt.away {w w' : World} {a : Option Addr} {n c : Nat} {m : Bool} {a2 : Option Addr} {n2 c2 : Nat} {P : Int} {Q g : Nat} (h : RatAt w a n c m a2 n2 c2 P Q) (hn : NoLimb w g) (hf : Far g w w') : RatAt w' a n c m a2 n2 c2 P Q := ⟨⟨h.1.1, h.1.2.away hn hf⟩, h.2.away hn hf⟩
theorem RRow.away {w w' : World} {sa : Option Addr} {n c : Nat} {fP : Nat → Int} {fQ : Nat → Nat} {g : Nat} (h : RRow w sa n c fP fQ) (hn : NoLimb w g) (hg : n = 0 ∨ ∀ x, sa = some x → x.block ≠ g) (hf : Far g w w') : RRow w' sa n c fP fQ := by
  refine ⟨h.1, h.2.1, ?_⟩
  rcases h.2.2 with h0 | ⟨b, off, rfl, hl, hcc⟩
  · exact .inl h0
  · rcases hg with h0 | hg
    · exact .inl h0
    · have hbg : b ≠ g := hg _ rfl
      refine .inr ⟨b, off, rfl, Nat.lt_of_lt_of_le hl hf.size, fun j hj => ?_⟩
      obtain ⟨a', n', c', m', a2', n2', c2', e1, e2, e3, hq⟩ := hcc j hj
      exact ⟨a', n', c', m', a2', n2', c2', (hf.cell (a := ⟨b, _, none⟩) hbg hl).trans e1, (hf.cell (a := ⟨b, _, none⟩) hbg hl).trans e2, (hf.cell (a := ⟨b, _, none⟩) hbg hl).trans e3, hq.away hn hf⟩
theorem KRow.away {w w' : World} {ki : IntKind} {sa : Option Addr} {n c : Nat} {f : Nat → Int} {g : Nat} (h : KRow w ki sa n c f) (hg : n = 0 ∨ ∀ x, sa = some x → x.block ≠ g) (hf : Far g w w') : KRow w' ki sa n c f := by
  refine ⟨h.1, h.2.1, ?_⟩
  rcases h.2.2 with h0 | ⟨b, off, rfl, hl, hcc⟩
  · exact .inl h0
  · rcases hg with h0 | hg
    · exact .inl h0
    · exact .inr ⟨b, off, rfl, Nat.lt_of_lt_of_le hl hf.size, fun j hj => (hf.cell (a := ⟨b, off + j, none⟩) (show b ≠ g from hg ⟨b, off, none⟩ rfl) hl).trans (hcc j hj)⟩
/-- The cells of an array hold no limb, no character, and no number of the language. -/
theorem arr_cells {ch : Bool} {more : Int} {d : Nat → Int} {na : Option Addr} {nn nc : Nat} {ta : Option Addr} {tn tc : Nat} (o : Nat) (v : Value) (h : (arrC ch more d na nn nc ta tn tc)[o]? = some v) :
    (o = 0 ∧ ∃ b, v = .bool b) ∨ (1 ≤ o ∧ o < 10 ∧ ∃ z, v = .int .i64 z) ∨ (10 ≤ o ∧ o < 12 ∧ ∃ a n c, v = .slice a n c) := by
  unfold arrC at h
  rcases o with _ | _ | _ | _ | _ | _ | _ | _ | _ | _ | _ | _ | o
  · exact .inl ⟨rfl, _, (Option.some.inj h).symm⟩
  all_goals first
    | exact .inr (.inl ⟨by omega, by omega, _, (Option.some.inj h).symm⟩)
    | exact .inr (.inr ⟨by omega, by omega, _, _, _, (Option.some.inj h).symm⟩)
    | (exfalso; simp at h)
theorem Row.noLimb {w : World} {g : Nat} {t : TypeId} {ch : Bool} {more : Int} {d : Nat → Int} {na : Option Addr} {nn nc : Nat} {ta : Option Addr} {tn tc : Nat} (h : Row w g t (arrC ch more d na nn nc ta tn tc)) : NoLimb w g := by
  intro o z hc
  rw [h.cell o] at hc
  rcases arr_cells o _ hc with ⟨_, _, e⟩ | ⟨_, _, _, e⟩ | ⟨_, _, _, _, _, e⟩ <;> cases e
theorem RRow.ne {w : World} {sa : Option Addr} {n c : Nat} {fP : Nat → Int} {fQ : Nat → Nat} {g : Nat} {t : TypeId} {ch : Bool} {more : Int} {d : Nat → Int} {na : Option Addr} {nn nc : Nat} {ta : Option Addr} {tn tc : Nat} (h : RRow w sa n c fP fQ) (hr : Row w g t (arrC ch more d na nn nc ta tn tc)) :
    n = 0 ∨ ∀ x, sa = some x → x.block ≠ g := by
  rcases Nat.eq_zero_or_pos n with h0 | h0
  · exact .inl h0
  · refine .inr fun x hx e => ?_
    obtain ⟨b, off, a', n', c', m', a2', n2', c2', e0, hb, e1, e2, e3, _⟩ := h.get h0
    rw [hx] at e0
    obtain rfl := Option.some.inj e0
    subst e
    rw [hr.cell] at e1 e2
    rcases arr_cells _ _ e1 with ⟨_, _, e⟩ | ⟨_, _, _, e⟩ | ⟨_, _, _⟩
    · cases e
    · cases e
    · rcases arr_cells _ _ e2 with ⟨_, _, e⟩ | ⟨_, _, _, e⟩ | ⟨_, _, _, _, _, e⟩
      · omega
      · cases e
      · cases e
theorem KRow.ne {w : World} {ki : IntKind} {sa : Option Addr} {n c : Nat} {f : Nat → Int} {g : Nat} {t : TypeId} {ch : Bool} {more : Int} {d : Nat → Int} {na : Option Addr} {nn nc : Nat} {ta : Option Addr} {tn tc : Nat} (h : KRow w ki sa n c f) (hk : ki ≠ .i64) (hr : Row w g t (arrC ch more d na nn nc ta tn tc)) :
    n = 0 ∨ ∀ x, sa = some x → x.block ≠ g := by
  rcases Nat.eq_zero_or_pos n with h0 | h0
  · exact .inl h0
  · refine .inr fun x hx e => ?_
    obtain ⟨b, off, e0, hb, e1⟩ := h.get h0
    rw [hx] at e0
    obtain rfl := Option.some.inj e0
    subst e
    rw [hr.cell] at e1
    rcases arr_cells _ _ e1 with ⟨_, _, e⟩ | ⟨_, _, _, e⟩ | ⟨_, _, _, _, _, e⟩
    · cases e
    · injection e with e; exact hk e
    · cases e
theorem RRow.len {w : World} {a : Option Addr} {n c : Nat} {fP : Nat → Int} {fQ : Nat → Nat} (h : RRow w a n c fP fQ) : n ≤ c ∧ n ≤ 9223372036854775807 := by
  have h1 := h.1
  have h2 := h.2.1
  unfold maxLen at h2
  exact ⟨h1, by omega⟩

set_option maxHeartbeats 1600000 in
set_option maxRecDepth 100000 in
theorem nums_yes (a : Option Addr) (r c : Nat) (f : Nat → Int) (la : Option Addr) (n lc : Nat) (fP : Nat → Int) (fQ : Nat → Nat) (w : World) (h : KRow w .i64 a r c f) (hf : In64 f r) (hl : RRow w la n lc fP fQ) (hn : n ≤ 1000000) (hb : (shB f r && decide (itm f r = n)) = true) :
    Calls Tryz.prog 73 #[.slice a r c, .slice la n lc] w fun e w' => NumsTold true f r n fP fQ w w' e := by
  have B0 := (Bag.start w).alloc (.cells zerC 50)
  have BR := Lib.hid (fun wz (h : KRow wz .i64 a r c f) => bare_any a r c f n wz h hf)
  rw [hb] at BR
  unfold BareTold at BR
  rw [if_pos rfl] at BR
  unfold arrC at BR
  have CL := Lib.hid (fun wz (h : RRow wz la n lc fP fQ) => cloneR_any la n lc fP fQ wz h hn)
  have HK := Lib.hid h
  have HL := Lib.hid hl
  have hlen := hl.len
  have h0 : Row (w.alloc (.cells zerC 50)) w.heap.size 50 zerC := Row.new _ _ _
  have BB := Lib.hid (B0.row h0)
  clear h hl hf hn hb B0 h0
  go_enter Tryz.func73, Tryz.ntmps73
  go_wp2_with fail
  go_at_call 126
  (with_reducible refine (BR.out _ ?_).mono ?_)
  · exact HK.out.below BB.out.below
  rintro e w2 ⟨rfl, hb2⟩
  have B2 := BB.out.go hb2
  have BB := Lib.hid (((B2.alloc (.cells (arrC false ((r : Int) - 1) (dm f r) none 0 0 none 0 0) 50)).row (Row.new _ _ _)))
  have hlt := B2.now.1.lt
  clear hb2 B2
  unfold arrC at BB
  go_wp2_with fail
  go_at_call 78
  (with_reducible refine (CL.out _ ?_).mono ?_)
  · exact HL.out.below BB.out.below
  rintro e w3 ⟨a', c', rfl, hr3, hb3⟩
  have B3 := BB.out.go hb3
  have hb := B3.below
  have hr1 := B3.now.1
  have hr0 := B3.now.2.1
  have c10 : w3.cell? ⟨w2.heap.size, 10, none⟩ = some (.slice none 0 0) := hr1.cell 10
  have g10 : w3.frozen? ⟨w2.heap.size, 10, none⟩ = false := hr1.free 10
  have hne : w.heap.size ≠ w2.heap.size := by omega
  have hs1 : Row (w3.setCell ⟨w2.heap.size, 10, none⟩ (.slice a' n c')) w2.heap.size 50 (arrC false ((r : Int) - 1) (dm f r) a' n c' none 0 0) := hr1.set 10 _
  have hs0 : Row (w3.setCell ⟨w2.heap.size, 10, none⟩ (.slice a' n c')) w.heap.size 50 zerC := hr0.far (a := ⟨w2.heap.size, 10, none⟩) hne _
  have hr1' : Row w3 w2.heap.size 50 (arrC false ((r : Int) - 1) (dm f r) none 0 0 none 0 0) := hr1
  have hq := (hr3.away hr1'.noLimb (hr3.ne hr1') (Far.setCell w3 w2.heap.size 10 (.slice a' n c')))
  have HE : Hid (NumsTold true f r n fP fQ w ((w3.setCell ⟨w2.heap.size, 10, none⟩ (.slice a' n c')).setRow w.heap.size (arrC false ((r : Int) - 1) (dm f r) a' n c' none 0 0)) (.returned (.tuple #[.agg (arrC false ((r : Int) - 1) (dm f r) a' n c' none 0 0), .bool true]))) :=
    ⟨_, rfl, by rw [if_pos rfl]; exact ⟨a', c', rfl, hq.away (Row.noLimb hs0) (RRow.ne hq hs0) (Far.setRow _ _ _)⟩, below_put (hb.setCell (p := ⟨w2.heap.size, 10, none⟩) (show w.heap.size ≤ w2.heap.size by omega) _) (Nat.le_refl _) _⟩
  have HS1 := Lib.hid hs1
  have HS0 := Lib.hid hs0
  clear hs1 hs0 hr1 hr1' hr0 B3 hb3 hq hr3 hb
  go_wp2_with (first
    | (refine ld_arr rfl (.tmp 6) rfl w2.heap.size rfl HS1.out ?_)
    | (refine st_arr rfl (.tmp 4) (.tmp 19) rfl w.heap.size rfl _ _ _ _ _ _ _ _ _ rfl HS0.out rfl ?_))
  exact bodyPost_ret (res_arr2 Tryz.results73 rfl rfl (HS0.out.put _) rfl) rfl HE.out

set_option maxHeartbeats 1600000 in
set_option maxRecDepth 100000 in
theorem chars_yes (a : Option Addr) (r c : Nat) (f : Nat → Int) (la : Option Addr) (n lc : Nat) (g : Nat → Int) (w : World) (h : KRow w .i64 a r c f) (hf : In64 f r) (hl : KRow w .i32 la n lc g) (hn : n ≤ 1000000) (hb : (shB f r && decide (itm f r = n)) = true) :
    Calls Tryz.prog 71 #[.slice a r c, .slice la n lc] w fun e w' => CharsTold true f r n g w w' e := by
  have B0 := (Bag.start w).alloc (.cells zerC 50)
  have BR := Lib.hid (fun wz (h : KRow wz .i64 a r c f) => bare_any a r c f n wz h hf)
  rw [hb] at BR
  unfold BareTold at BR
  rw [if_pos rfl] at BR
  unfold arrC at BR
  have CL := Lib.hid (fun wz (h : KRow wz .i32 la n lc g) => cloneC_any la n lc g wz h hn)
  have HK := Lib.hid h
  have HL := Lib.hid hl
  have hlen := hl.len
  have h0 : Row (w.alloc (.cells zerC 50)) w.heap.size 50 zerC := Row.new _ _ _
  have BB := Lib.hid (B0.row h0)
  clear h hl hf hn hb B0 h0
  go_enter Tryz.func71, Tryz.ntmps71
  go_wp2_with fail
  go_at_call 126
  (with_reducible refine (BR.out _ ?_).mono ?_)
  · exact HK.out.below BB.out.below
  rintro e w2 ⟨rfl, hb2⟩
  have B2 := BB.out.go hb2
  have BB := Lib.hid (((B2.alloc (.cells (arrC false ((r : Int) - 1) (dm f r) none 0 0 none 0 0) 50)).row (Row.new _ _ _)))
  have hlt := B2.now.1.lt
  clear hb2 B2
  unfold arrC at BB
  go_wp2_with fail
  go_at_call 77
  (with_reducible refine (CL.out _ ?_).mono ?_)
  · exact HL.out.below BB.out.below
  rintro e w3 ⟨a', c', rfl, hr3, hb3⟩
  have B3 := BB.out.go hb3
  have hb := B3.below
  have hr1 := B3.now.1
  have hr0 := B3.now.2.1
  have c0 : w3.cell? ⟨w2.heap.size, 0, none⟩ = some (.bool false) := hr1.cell 0
  have g0 : w3.frozen? ⟨w2.heap.size, 0, none⟩ = false := hr1.free 0
  have c11 : (w3.setCell ⟨w2.heap.size, 0, none⟩ (.bool true)).cell? ⟨w2.heap.size, 11, none⟩ = some (.slice none 0 0) := (hr1.set 0 (.bool true)).cell 11
  have g11 : w3.frozen? ⟨w2.heap.size, 11, none⟩ = false := hr1.free 11
  have hne : w.heap.size ≠ w2.heap.size := by omega
  have hs1 : Row ((w3.setCell ⟨w2.heap.size, 0, none⟩ (.bool true)).setCell ⟨w2.heap.size, 11, none⟩ (.slice a' n c')) w2.heap.size 50 (arrC true ((r : Int) - 1) (dm f r) none 0 0 a' n c') := (hr1.set 0 (.bool true)).set 11 _
  have hs0 : Row ((w3.setCell ⟨w2.heap.size, 0, none⟩ (.bool true)).setCell ⟨w2.heap.size, 11, none⟩ (.slice a' n c')) w.heap.size 50 zerC := (hr0.far (a := ⟨w2.heap.size, 0, none⟩) hne _).far (a := ⟨w2.heap.size, 11, none⟩) hne _
  have hr1' : Row w3 w2.heap.size 50 (arrC false ((r : Int) - 1) (dm f r) none 0 0 none 0 0) := hr1
  have hr2' : Row (w3.setCell ⟨w2.heap.size, 0, none⟩ (.bool true)) w2.heap.size 50 (arrC true ((r : Int) - 1) (dm f r) none 0 0 none 0 0) := hr1.set 0 _
  have hq0 := hr3.away (hr3.ne (by decide) hr1') (Far.setCell w3 w2.heap.size 0 (.bool true))
  have hq := hq0.away (hq0.ne (by decide) hr2') (Far.setCell _ w2.heap.size 11 (.slice a' n c'))
  have HE : Hid (CharsTold true f r n g w (((w3.setCell ⟨w2.heap.size, 0, none⟩ (.bool true)).setCell ⟨w2.heap.size, 11, none⟩ (.slice a' n c')).setRow w.heap.size (arrC true ((r : Int) - 1) (dm f r) none 0 0 a' n c')) (.returned (.tuple #[.agg (arrC true ((r : Int) - 1) (dm f r) none 0 0 a' n c'), .bool true]))) :=
    ⟨_, rfl, by rw [if_pos rfl]; exact ⟨a', c', rfl, hq.away (hq.ne (by decide) hs0) (Far.setRow _ _ _)⟩, below_put ((hb.setCell (p := ⟨w2.heap.size, 0, none⟩) (show w.heap.size ≤ w2.heap.size by omega) _).setCell (p := ⟨w2.heap.size, 11, none⟩) (show w.heap.size ≤ w2.heap.size by omega) _) (Nat.le_refl _) _⟩
  have HS1 := Lib.hid hs1
  have HS0 := Lib.hid hs0
  clear hs1 hs0 hr1 hr1' hr2' hr0 B3 hb3 hq hq0 hr3 hb
  go_wp2_with (first
    | (refine ld_arr rfl (.tmp 6) rfl w2.heap.size rfl HS1.out ?_)
    | (refine st_arr rfl (.tmp 4) (.tmp 20) rfl w.heap.size rfl _ _ _ _ _ _ _ _ _ rfl HS0.out rfl ?_))
  exact bodyPost_ret (res_arr2 Tryz.results71 rfl rfl (HS0.out.put _) rfl) rfl HE.out

set_option maxHeartbeats 1600000 in
set_option maxRecDepth 100000 in
theorem nums_no (a : Option Addr) (r c : Nat) (f : Nat → Int) (la : Option Addr) (n lc : Nat) (fP : Nat → Int) (fQ : Nat → Nat) (w : World) (h : KRow w .i64 a r c f) (hf : In64 f r) (hb : (shB f r && decide (itm f r = n)) = false) :
    Calls Tryz.prog 73 #[.slice a r c, .slice la n lc] w fun e w' => NumsTold false f r n fP fQ w w' e := by
  have B0 := (Bag.start w).alloc (.cells zerC 50)
  have BR := Lib.hid (fun wz (h : KRow wz .i64 a r c f) => bare_any a r c f n wz h hf)
  rw [hb] at BR
  unfold BareTold at BR
  rw [if_neg (by decide)] at BR
  unfold arrC at BR
  have HK := Lib.hid h
  have h0 : Row (w.alloc (.cells zerC 50)) w.heap.size 50 zerC := Row.new _ _ _
  have BB := Lib.hid (B0.row h0)
  clear h hf hb B0 h0
  go_enter Tryz.func73, Tryz.ntmps73
  go_wp2_with fail
  go_at_call 126
  (with_reducible refine (BR.out _ ?_).mono ?_)
  · exact HK.out.below BB.out.below
  rintro e w2 ⟨rfl, hb2⟩
  have B2 := BB.out.go hb2
  have BB := Lib.hid (((B2.alloc (.cells zerC 50)).row (Row.new _ _ _)))
  have hlt := B2.now.1.lt
  clear hb2 B2
  have HS1 := Lib.hid BB.out.now.1
  have HS0 := Lib.hid BB.out.now.2.1
  have HE : Hid (NumsTold false f r n fP fQ w ((w2.alloc (.cells zerC 50)).setRow w.heap.size zerC) (.returned (.tuple #[.agg zerC, .bool false]))) :=
    ⟨_, rfl, by rw [if_neg (by decide)], below_put BB.out.below (Nat.le_refl _) _⟩
  go_wp2_with (first
    | (refine ld_arr rfl (.tmp 6) rfl w2.heap.size rfl (ch := false) (more := 0) (d := fun _ => 0) (na := none) (nn := 0) (nc := 0) (ta := none) (tn := 0) (tc := 0) HS1.out ?_)
    | (refine st_arr rfl (.tmp 4) (.tmp 19) rfl w.heap.size rfl _ _ _ _ _ _ _ _ _ rfl HS0.out rfl ?_))
  exact bodyPost_ret (res_arr2 Tryz.results73 rfl rfl (HS0.out.put _) rfl) rfl HE.out

set_option maxHeartbeats 1600000 in
set_option maxRecDepth 100000 in
theorem chars_no (a : Option Addr) (r c : Nat) (f : Nat → Int) (la : Option Addr) (n lc : Nat) (g : Nat → Int) (w : World) (h : KRow w .i64 a r c f) (hf : In64 f r) (hb : (shB f r && decide (itm f r = n)) = false) :
    Calls Tryz.prog 71 #[.slice a r c, .slice la n lc] w fun e w' => CharsTold false f r n g w w' e := by
  have B0 := (Bag.start w).alloc (.cells zerC 50)
  have BR := Lib.hid (fun wz (h : KRow wz .i64 a r c f) => bare_any a r c f n wz h hf)
  rw [hb] at BR
  unfold BareTold at BR
  rw [if_neg (by decide)] at BR
  unfold arrC at BR
  have HK := Lib.hid h
  have h0 : Row (w.alloc (.cells zerC 50)) w.heap.size 50 zerC := Row.new _ _ _
  have BB := Lib.hid (B0.row h0)
  clear h hf hb B0 h0
  go_enter Tryz.func71, Tryz.ntmps71
  go_wp2_with fail
  go_at_call 126
  (with_reducible refine (BR.out _ ?_).mono ?_)
  · exact HK.out.below BB.out.below
  rintro e w2 ⟨rfl, hb2⟩
  have B2 := BB.out.go hb2
  have BB := Lib.hid (((B2.alloc (.cells zerC 50)).row (Row.new _ _ _)))
  have hlt := B2.now.1.lt
  clear hb2 B2
  have HS1 := Lib.hid BB.out.now.1
  have HS0 := Lib.hid BB.out.now.2.1
  have HE : Hid (CharsTold false f r n g w ((w2.alloc (.cells zerC 50)).setRow w.heap.size zerC) (.returned (.tuple #[.agg zerC, .bool false]))) :=
    ⟨_, rfl, by rw [if_neg (by decide)], below_put BB.out.below (Nat.le_refl _) _⟩
  go_wp2_with (first
    | (refine ld_arr rfl (.tmp 6) rfl w2.heap.size rfl (ch := false) (more := 0) (d := fun _ => 0) (na := none) (nn := 0) (nc := 0) (ta := none) (tn := 0) (tc := 0) HS1.out ?_)
    | (refine st_arr rfl (.tmp 4) (.tmp 20) rfl w.heap.size rfl _ _ _ _ _ _ _ _ _ rfl HS0.out rfl ?_))
  exact bodyPost_ret (res_arr2 Tryz.results71 rfl rfl (HS0.out.put _) rfl) rfl HE.out

theorem nums_any (a : Option Addr) (r c : Nat) (f : Nat → Int) (la : Option Addr) (n lc : Nat) (fP : Nat → Int) (fQ : Nat → Nat) (w : World) (h : KRow w .i64 a r c f) (hf : In64 f r) (hl : RRow w la n lc fP fQ) (hn : n ≤ 1000000) :
    Calls Tryz.prog 73 #[.slice a r c, .slice la n lc] w fun e w' => NumsTold (shB f r && decide (itm f r = n)) f r n fP fQ w w' e := by
  cases hb : shB f r && decide (itm f r = n) with
  | false => exact nums_no a r c f la n lc fP fQ w h hf hb
  | true => exact nums_yes a r c f la n lc fP fQ w h hf hl hn hb
theorem chars_any (a : Option Addr) (r c : Nat) (f : Nat → Int) (la : Option Addr) (n lc : Nat) (g : Nat → Int) (w : World) (h : KRow w .i64 a r c f) (hf : In64 f r) (hl : KRow w .i32 la n lc g) (hn : n ≤ 1000000) :
    Calls Tryz.prog 71 #[.slice a r c, .slice la n lc] w fun e w' => CharsTold (shB f r && decide (itm f r = n)) f r n g w w' e := by
  cases hb : shB f r && decide (itm f r = n) with
  | false => exact chars_no a r c f la n lc g w h hf hb
  | true => exact chars_yes a r c f la n lc g w h hf hl hn hb

end Go.Proofs.YtdnbpkbapmlfaaaGreatDoor
