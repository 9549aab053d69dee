/-
  Package array: bare, by contract.
-/
import Derived.Test.YtdnbpkbapmlfaaaGreatDoorAr0
import Derived.Test.YtdnbpkbapmlfaaaGreatDoorK6
import Derived.Deep.MidRow
namespace Go.Proofs.YtdnbpkbapmlfaaaGreatDoor
open Go.RowKit

/-- The cells of an array. -/
def arrC (ch : Bool) (more : Int) (d : Nat → Int) (na : Option Addr) (nn nc : Nat) (ta : Option Addr) (tn tc : Nat) : Array Value :=
  #[.bool ch, .int .i64 more, .int .i64 (d 0), .int .i64 (d 1), .int .i64 (d 2), .int .i64 (d 3), .int .i64 (d 4), .int .i64 (d 5), .int .i64 (d 6), .int .i64 (d 7), .slice na nn nc, .slice ta tn tc]
/-- The axes as they are kept. -/
def dm (f : Nat → Int) (n j : Nat) : Int := if j < n then f j else 0

/-- A block of cells, known whole, none of them frozen. -/
def Row (w : World) (g : Nat) (t : TypeId) (cs : Array Value) : Prop := w.heap[g]? = some (.cells cs t (0, 0))
theorem Row.lt {w : World} {g : Nat} {t : TypeId} {cs : Array Value} (h : Row w g t cs) : g < w.heap.size := by
  rcases Nat.lt_or_ge g w.heap.size with h1 | h1
  · exact h1
  · unfold Row at h; rw [Array.getElem?_eq_none h1] at h; cases h
theorem Row.below {w w' : World} {g : Nat} {t : TypeId} {cs : Array Value} (h : Row w g t cs) (hb : Below w.heap.size w w') : Row w' g t cs := (hb.block g h.lt).trans h
theorem Row.new (w : World) (t : TypeId) (cs : Array Value) : Row (w.alloc (.cells cs t)) w.heap.size t cs := heap_new _ _
theorem Row.cell {w : World} {g : Nat} {t : TypeId} {cs : Array Value} (h : Row w g t cs) (i : Nat) : w.cell? ⟨g, i, none⟩ = cs[i]? := cell_of_row w g i cs t (0, 0) h
theorem Row.free {w : World} {g : Nat} {t : TypeId} {cs : Array Value} (h : Row w g t cs) (i : Nat) : w.frozen? ⟨g, i, none⟩ = false := frozen_of_row w g i cs t h
theorem Bag.row {w0 w : World} {P : World → Prop} {g : Nat} {t : TypeId} {cs : Array Value} (h : Bag w0 P w) (q : Row w g t cs) : Bag w0 (fun y => Row y g t cs ∧ P y) w := h.add (fun _ _ hb q => q.below hb) q

theorem arrC_one (ch : Bool) (more : Int) (d : Nat → Int) (na : Option Addr) (nn nc : Nat) (ta : Option Addr) (tn tc : Nat) : (arrC ch more d na nn nc ta tn tc).all (·.oneCell') = true := by simp [arrC, Value.oneCell']
theorem arr12 : (Tryz.prog.info? 50).map (·.size) = some 12 := by kernel_rfl
/-- An array loaded, stored, as a whole. -/
theorem ld_arr {ops : Array Oper} {rest : List Oper} {o : Oper} {a : Act} {w : World} {Q : Exit → Act → World → Prop} (hgd : o.guard = none) (x : Operand) (ho : o.op = .load 50 x) (g : Nat) (hx : a.eval x = .pointer (some ⟨g, 0, none⟩))
    {ch : Bool} {more : Int} {d : Nat → Int} {na : Option Addr} {nn nc : Nat} {ta : Option Addr} {tn tc : Nat} (hg : Row w g 50 (arrC ch more d na nn nc ta tn tc))
    (h : wpList Tryz.prog ops Q rest (a.put o.dst (.agg (arrC ch more d na nn nc ta tn tc))) w) : wpList Tryz.prog ops Q (o :: rest) a w :=
  wpList_load_row hgd _ x ho g hx _ _ (0, 0) _ hg Tryz.underlying50 rfl arr12 h
theorem st_arr {ops : Array Oper} {rest : List Oper} {o : Oper} {a : Act} {w : World} {Q : Exit → Act → World → Prop} (hgd : o.guard = none) (x y : Operand) (ho : o.op = .store 50 x y) (g : Nat) (hx : a.eval x = .pointer (some ⟨g, 0, none⟩))
    (ch : Bool) (more : Int) (d : Nat → Int) (na : Option Addr) (nn nc : Nat) (ta : Option Addr) (tn tc : Nat) (hy : a.eval y = .agg (arrC ch more d na nn nc ta tn tc)) {old : Array Value} (hg : Row w g 50 old) (ho2 : old.size = 12)
    (h : wpList Tryz.prog ops Q rest (a.put o.dst undef) (w.setRow g (arrC ch more d na nn nc ta tn tc))) : wpList Tryz.prog ops Q (o :: rest) a w :=
  wpList_store_row hgd _ x y ho g _ hx hy _ old hg arr12 ho2 (arrC_one _ _ _ _ _ _ _ _ _) h
theorem Row.put {w : World} {g : Nat} {t : TypeId} {cs : Array Value} (h : Row w g t cs) (cs' : Array Value) : Row (w.setRow g cs') g t cs' := setRow_heap w g cs cs' t (0, 0) h
theorem Row.puto {w : World} {g k : Nat} {t : TypeId} {cs : Array Value} (h : Row w g t cs) (e : g ≠ k) (cs' : Array Value) : Row (w.setRow k cs') g t cs := (setRow_other w k g cs' e).trans h
theorem below_put {w w1 : World} {g : Nat} (h : Below w.heap.size w w1) (hg : w.heap.size ≤ g) (cs : Array Value) : Below w.heap.size w (w1.setRow g cs) :=
  ⟨h.os, h.tape, h.output, by simpa using h.size, fun k hk => (setRow_other w1 g k cs (by omega)).trans (h.block k hk)⟩
/-- The result of a function that answers an array, or an array and a truth. -/
theorem res_arr {fn : Func} {p : Tmp} {tmps : Array Value} {w : World} {g : Nat} {cs : Array Value} (h : fn.results = #[.cell p 50]) (hp : tmps.getD p undef = .pointer (some ⟨g, 0, none⟩)) (hg : Row w g 50 cs) (hs : cs.size = 12) :
    (results fn tmps).run Tryz.prog w = .ok (.agg cs) w :=
  results_cell_row h tmps w g _ cs (0, 0) _ hp hg Tryz.underlying50 rfl (by rw [arr12, hs])
theorem res_arr2 {fn : Func} {p q : Tmp} {tmps : Array Value} {w : World} {g : Nat} {cs : Array Value} {v : Value} (h : fn.results = #[.cell p 50, .tmp q]) (hp : tmps.getD p undef = .pointer (some ⟨g, 0, none⟩)) (hq : tmps.getD q undef = v) (hg : Row w g 50 cs) (hs : cs.size = 12) :
    (results fn tmps).run Tryz.prog w = .ok (.tuple #[.agg cs, v]) w := by
  have hp' : tmps[p]?.getD undef = .pointer (some ⟨g, 0, none⟩) := by simpa using hp
  have hq' : tmps[q]?.getD undef = v := by simpa using hq
  simp [results, h, hp', hq', asAddr, run_loadVar_row w g _ _ cs (0, 0) _ hg Tryz.underlying50 rfl (by rw [arr12, hs])]

/-- What bare answers. -/
def BareTold (b : Bool) (f : Nat → Int) (n : Nat) (w w' : World) (e : Ending) : Prop :=
  e = .returned (.tuple #[.agg (if b then arrC false ((n : Int) - 1) (dm f n) none 0 0 none 0 0 else arrC false 0 (fun _ => 0) none 0 0 none 0 0), .bool b]) ∧ Below w.heap.size w w'

theorem In64.le8 {f : Nat → Int} {n : Nat} (h : shB f n = true) : n ≤ 8 := by
  unfold shB at h
  rw [Bool.and_eq_true, decide_eq_true_eq] at h
  exact h.1

set_option maxHeartbeats 1600000 in
set_option maxRecDepth 100000 in
theorem bare_no (a : Option Addr) (n c : Nat) (f : Nat → Int) (m : Int) (w : World) (h : KRow w .i64 a n c f) (hf : In64 f n) (hno : (shB f n && decide (itm f n = m)) = false) :
    Calls Tryz.prog 126 #[.slice a n c, .int .i64 m] w fun e w' => BareTold false f n w w' e := by
  have CN := Lib.hid (fun wz (h : KRow wz .i64 a n c f) => count_any a n c f wz h hf)
  unfold CntTold cntI at CN
  have HB : Hid (Below w.heap.size w (w.alloc (.cells (arrC false 0 (fun _ => 0) none 0 0 none 0 0) 50))) := (Below.refl _ _).alloc (Nat.le_refl _) _
  have HE : Hid (BareTold false f n w (w.alloc (.cells (arrC false 0 (fun _ => 0) none 0 0 none 0 0) 50)) (.returned (.tuple #[.agg (arrC false 0 (fun _ => 0) none 0 0 none 0 0), .bool false]))) := ⟨rfl, HB.out⟩
  unfold arrC at HE
  have HK := Lib.hid h
  have hl := h.len
  clear h hf
  cases hs : shB f n with
  | false =>
    rw [hs] at CN
    rw [if_neg (by decide)] at CN
    clear hs hno
    go_enter Tryz.func126, Tryz.ntmps126
    go_wp2_with fail
    go_at_call 167
    (with_reducible refine (CN.out _ (HK.out.below ?_)).mono ?_)
    · exact HB.out
    rintro e w2 ⟨rfl, rfl⟩
    go_wp2
    exact bodyPost_ret (v := .tuple #[.agg #[.bool false, .int .i64 0, .int .i64 0, .int .i64 0, .int .i64 0, .int .i64 0, .int .i64 0, .int .i64 0, .int .i64 0, .int .i64 0, .slice none 0 0, .slice none 0 0], .bool false]) (by simp [results, Tryz.results126, go_sem]) rfl HE.out
  | true =>
    rw [hs] at CN hno
    rw [if_pos rfl] at CN
    rw [Bool.true_and, decide_eq_false_iff_not] at hno
    have hne : (itm f n != m) = true := bne_iff_ne.2 hno
    clear hs hno
    go_enter Tryz.func126, Tryz.ntmps126
    go_wp2_with fail
    go_at_call 167
    (with_reducible refine (CN.out _ (HK.out.below ?_)).mono ?_)
    · exact HB.out
    rintro e w2 ⟨rfl, rfl⟩
    go_wp2
    exact bodyPost_ret (v := .tuple #[.agg #[.bool false, .int .i64 0, .int .i64 0, .int .i64 0, .int .i64 0, .int .i64 0, .int .i64 0, .int .i64 0, .int .i64 0, .int .i64 0, .slice none 0 0, .slice none 0 0], .bool false]) (by simp [results, Tryz.results126, go_sem]) rfl HE.out

/-- The axes' lengths laid over noughts. -/
theorem dm_splice (f : Nat → Int) (n : Nat) (h : n ≤ 8) (x0 x1 x2 x3 : Value) (z : Value) (hz : z = .int .i64 0) :
    splice [x0, x1, z, z, z, z, z, z, z, z, x2, x3] 2 ((List.range n).map fun j => .int .i64 (f j)) =
    [x0, x1, .int .i64 (dm f n 0), .int .i64 (dm f n 1), .int .i64 (dm f n 2), .int .i64 (dm f n 3), .int .i64 (dm f n 4), .int .i64 (dm f n 5), .int .i64 (dm f n 6), .int .i64 (dm f n 7), x2, x3] := by
  subst hz
  have hn : n = 0 ∨ n = 1 ∨ n = 2 ∨ n = 3 ∨ n = 4 ∨ n = 5 ∨ n = 6 ∨ n = 7 ∨ n = 8 := by omega
  rcases hn with rfl | rfl | rfl | rfl | rfl | rfl | rfl | rfl | rfl <;> rfl

set_option maxHeartbeats 1600000 in
set_option maxRecDepth 100000 in
theorem bare_yes (a : Option Addr) (n c : Nat) (f : Nat → Int) (m : Int) (w : World) (h : KRow w .i64 a n c f) (hf : In64 f n) (hs : shB f n = true) (hm : itm f n = m) :
    Calls Tryz.prog 126 #[.slice a n c, .int .i64 m] w fun e w' => BareTold true f n w w' e := by
  have CN := Lib.hid (fun wz (h : KRow wz .i64 a n c f) => count_any a n c f wz h hf)
  unfold CntTold cntI at CN
  have HB : Hid (Below w.heap.size w (w.alloc (.cells (arrC false 0 (fun _ => 0) none 0 0 none 0 0) 50))) := (Below.refl _ _).alloc (Nat.le_refl _) _
  have HK := Lib.hid h
  have hl := h.len
  have h8 := In64.le8 hs
  have hne : (m != m) = false := bne_self_eq_false m
  rw [hs, if_pos rfl, hm] at CN
  have hw : IntKind.i64.wrap ((n : Int) - 1) = (n : Int) - 1 := IntWalk.i64_in _ (by omega)
  clear h hf hs hm
  go_enter Tryz.func126, Tryz.ntmps126
  go_wp2_with fail
  go_at_call 167
  (with_reducible refine (CN.out _ (HK.out.below ?_)).mono ?_)
  · exact HB.out
  rintro e w2 ⟨rfl, rfl⟩
  have H8 := Lib.hid h8
  clear h8
  go_wp2_with (refine wpList_copy_splice rfl (.tmp 27) (.tmp 28) 43 43 rfl 3 Tryz.underlying43 (by kernel_rfl) _ _ _ _ _ _ rfl rfl (w.heap.size + 1) 2 [.bool false, .int .i64 ((n : Int) - 1), .int .i64 0, .int .i64 0, .int .i64 0, .int .i64 0, .int .i64 0, .int .i64 0, .int .i64 0, .int .i64 0, .slice none 0 0, .slice none 0 0] 50 ?hg ((List.range n).map fun j => .int .i64 (f j)) ?hn ?hpos ?hfit ?h1 (w.heap.size + 1) (w.alloc (.cells #[.bool false, .int .i64 0, .int .i64 0, .int .i64 0, .int .i64 0, .int .i64 0, .int .i64 0, .int .i64 0, .int .i64 0, .int .i64 0, .slice none 0 0, .slice none 0 0] 50)) ?hb (Nat.le_refl _) ?_)
  case hg => exact heap_alloc2_new _ _ _
  case hn => rw [List.length_map, List.length_range]; exact (Nat.min_eq_left H8.out).symm
  case hpos =>
    intro h0
    have h0 : 0 < n := by simpa using h0
    obtain ⟨b, off, rfl, hb, hc⟩ := HK.out.2.2.resolve_left (by omega)
    refine ⟨_, rfl, fun j x hj => ?_⟩
    simp only [List.getElem?_eq_some_iff, List.getElem_range] at hj
    obtain ⟨hj1, rfl⟩ := hj
    rw [show (⟨b, off, none⟩ : Addr).add j = ⟨b, off + j, none⟩ by simp [Addr.add], ← hc j (by simpa using hj1)]
    rw [World.cell?_alloc_lt _ _ ⟨b, off + j, none⟩ (by simp; omega)]
    exact World.cell?_alloc_lt w _ ⟨b, off + j, none⟩ hb
  case hfit => have := H8.out; simp; omega
  case h1 =>
    intro v hv
    simp at hv
    obtain ⟨_, _, rfl⟩ := hv
    rfl
  case hb => exact (Below.refl _ _).alloc (by simp) _
  · intro w1 hg1 hb1
    have hr0 : Row w1 w.heap.size 50 _ := (hb1.block w.heap.size (by omega)).trans (heap_new _ _)
    have hr1 : Row w1 (w.heap.size + 1) 50 _ := hg1.out
    rw [dm_splice f n H8.out _ _ _ _ _ rfl] at hr1
    have hbw : Below w.heap.size w w1 := ((Below.refl w.heap.size w).alloc (Nat.le_refl _) _).trans (hb1.mono (Nat.le_succ _))
    clear hg1 hb1
    have HE : Hid (BareTold true f n w (w1.setRow w.heap.size (arrC false ((n : Int) - 1) (dm f n) none 0 0 none 0 0)) (.returned (.tuple #[.agg (arrC false ((n : Int) - 1) (dm f n) none 0 0 none 0 0), .bool true]))) := ⟨rfl, below_put hbw (Nat.le_refl _) _⟩
    go_wp2_with (first
      | (refine ld_arr rfl (.tmp 8) rfl (w.heap.size + 1) rfl (ch := false) (more := (n : Int) - 1) (d := dm f n) (na := none) (nn := 0) (nc := 0) (ta := none) (tn := 0) (tc := 0) hr1 ?_)
      | (refine st_arr rfl (.tmp 4) (.tmp 30) rfl w.heap.size rfl _ _ _ _ _ _ _ _ _ rfl hr0 rfl ?_))
    exact bodyPost_ret (res_arr2 Tryz.results126 rfl rfl (hr0.put _) rfl) rfl HE.out

theorem bare_any (a : Option Addr) (n c : Nat) (f : Nat → Int) (m : Int) (w : World) (h : KRow w .i64 a n c f) (hf : In64 f n) :
    Calls Tryz.prog 126 #[.slice a n c, .int .i64 m] w fun e w' => BareTold (shB f n && decide (itm f n = m)) f n w w' e := by
  cases hb : shB f n && decide (itm f n = m) with
  | false => exact bare_no a n c f m w h hf hb
  | true =>
    rw [Bool.and_eq_true, decide_eq_true_eq] at hb
    exact bare_yes a n c f m w h hf hb.1 hb.2

end Go.Proofs.YtdnbpkbapmlfaaaGreatDoor
