/-
  Texts of this seat, laid together.
-/
import Derived.Laws.StructEq
import Derived.ChangeKeysEq
import Derived.Shelf.Abstract
import Derived.Test.YtifnamlgkooacaaGreatDoorQ1
import Derived.Test.YtifnamlgkooacaaGreatDoorQ2
import Derived.Test.YtifnamlgkooacaaGreatDoorQ3

namespace Go.Proofs.YtifnamlgkooacaaGreatDoor
open Go.RowKit
attribute [local go_sem ↓] Go.wp_at_zero Go.wp_at_succ
def plZ : Array Value := #[.slice none 0 0, .bool false, .slice none 0 0, .slice none 0 0]
/-- Four cells of a block turned. -/
def put4 (w : World) (k : Nat) (a b c d : Value) : World := (((w.setCell ⟨k, 0, none⟩ a).setCell ⟨k, 1, none⟩ b).setCell ⟨k, 2, none⟩ c).setCell ⟨k, 3, none⟩ d
theorem Far.trans {g : Nat} {a b c : World} (h : Far g a b) (h2 : Far g b c) : Far g a c := ⟨Nat.le_trans h.size h2.size, fun k hk hl => (h2.block k hk (Nat.lt_of_lt_of_le hl h.size)).trans (h.block k hk hl)⟩
theorem Far.refl (g : Nat) (w : World) : Far g w w := ⟨Nat.le_refl _, fun _ _ _ => rfl⟩
theorem Far.of_below {g : Nat} {a b : World} (h : Below a.heap.size a b) : Far g a b := ⟨h.size, fun k _ hl => h.block k hl⟩
theorem Far.of_grown {g : Nat} {a b c : World} {row : Option Nat} (h : Far g a b) (hg : b.grownBy c row) (hr : ∀ x, row = some x → a.heap.size ≤ x) : Far g a c :=
  ⟨Nat.le_trans h.size hg.size, fun k hk hl => (hg.block k (Nat.lt_of_lt_of_le hl h.size) (fun e => by have := hr k e.symm; omega)).trans (h.block k hk hl)⟩
theorem far_put4 (w : World) (k : Nat) (a b c d : Value) : Far k w (put4 w k a b c d) := (((Far.setCell _ _ _ _).trans (Far.setCell _ _ _ _)).trans (Far.setCell _ _ _ _)).trans (Far.setCell _ _ _ _)
theorem row_put4 {w : World} {k : Nat} {t : TypeId} {x0 x1 x2 x3 : Value} (h : Row w k t #[x0, x1, x2, x3]) (a b c d : Value) : Row (put4 w k a b c d) k t #[a, b, c, d] := (((h.set 0 a).set 1 b).set 2 c).set 3 d
theorem below_put4 {w w1 : World} {k : Nat} (h : Below w.heap.size w w1) (hk : w.heap.size ≤ k) (a b c d : Value) : Below w.heap.size w (put4 w1 k a b c d) := (((h.setCell (p := ⟨k, 0, none⟩) hk _).setCell (p := ⟨k, 1, none⟩) hk _).setCell (p := ⟨k, 2, none⟩) hk _).setCell (p := ⟨k, 3, none⟩) hk _
/-- No number lies among the cells. -/
def NoInt (cs : Array Value) : Prop := ∀ (o : Nat) (ki : IntKind) (z : Int), cs[o]? ≠ some (.int ki z)
theorem noInt_pl (sa : Option Addr) (sn sc : Nat) (ch : Bool) (ta : Option Addr) (tn tc : Nat) (na : Option Addr) (nn nc : Nat) : NoInt (plC sa sn sc ch ta tn tc na nn nc) := by
  intro o ki z h
  unfold plC at h
  rcases o with _ | _ | _ | _ | o
  all_goals first | (simp at h; done) | (cases h)
theorem Row.noLimb' {w : World} {g : Nat} {t : TypeId} {cs : Array Value} (h : Row w g t cs) (hn : NoInt cs) : NoLimb w g := by
  intro o z hc
  rw [h.cell o] at hc
  exact hn _ _ _ hc
theorem KRow.apart {w : World} {ki : IntKind} {a : Option Addr} {n c : Nat} {f : Nat → Int} {g : Nat} {t : TypeId} {cs : Array Value} (h : KRow w ki a n c f) (hr : Row w g t cs) (hn : NoInt cs) : n = 0 ∨ ∀ x, a = some x → x.block ≠ g := by
  rcases Nat.eq_zero_or_pos n with h0 | h0
  · exact .inl h0
  · obtain ⟨b, off, rfl, _, hc⟩ := h.2.2.resolve_left (by omega)
    refine .inr fun x hx e => ?_
    obtain rfl := Option.some.inj hx
    have e : b = g := e
    subst e
    have := hc 0 h0
    rw [hr.cell] at this
    exact hn _ _ _ this
theorem RRow.older {w : World} {a : Option Addr} {n c : Nat} {fP : Nat → Int} {fQ : Nat → Nat} {g : Nat} (h : RRow w a n c fP fQ) (hg : w.heap.size ≤ g) : n = 0 ∨ ∀ x, a = some x → x.block ≠ g := by
  rcases h.2.2 with h0 | ⟨b, off, rfl, hl, _⟩
  · exact .inl h0
  · refine .inr fun x hx e => ?_
    obtain rfl := Option.some.inj hx
    have e : b = g := e
    omega
theorem QRow.away {w w' : World} {sa : Option Addr} {n c : Nat} {fB : Nat → Bool} {fS fT : Nat → ByteArray} {g : Nat} (h : QRow w sa n c fB fS fT) (hg : n = 0 ∨ ∀ x, sa = some x → x.block ≠ g) (hf : Far g w w') : QRow w' sa n c fB fS fT := by
  refine ⟨h.1, h.2.1, ?_⟩
  rcases h.2.2 with h0 | ⟨b, off, rfl, hl, hcc⟩
  · exact .inl h0
  · rcases hg with h0 | hg
    · exact .inl h0
    · have hbg : b ≠ g := hg _ rfl
      refine .inr ⟨b, off, rfl, Nat.lt_of_lt_of_le hl hf.size, fun j hj => ?_⟩
      obtain ⟨e1, e2, e3⟩ := hcc j hj
      exact ⟨(hf.cell (a := ⟨b, _, none⟩) hbg hl).trans e1, (hf.cell (a := ⟨b, _, none⟩) hbg hl).trans e2, (hf.cell (a := ⟨b, _, none⟩) hbg hl).trans e3⟩
theorem own_ne {w : World} {base : Nat} {e : TypeId} {size : Nat} {a : Option Addr} {n c k : Nat} {xs : List Value} {g : Nat} (h : w.ownsRow base e size (.slice a n c) k xs) (hg : g < base) : n = 0 ∨ ∀ x, a = some x → x.block ≠ g := by
  rcases h.2 with ⟨e, _⟩ | ⟨g', cap, cur, e, _, _⟩
  · cases e; exact .inl rfl
  · have hlt := h.lt
    injection e with e1 e2 e3
    subst e1
    refine .inr fun x hx e => ?_
    obtain rfl := Option.some.inj hx
    have e : g' = g := e
    have := (hlt g' rfl).1
    omega
/-- One number more in the row that a plain array holds. -/
theorem pl_step {w y0 wr w2 : World} {P : Nat} {sa : Option Addr} {sn sc : Nat} {ch : Bool} {ta : Option Addr} {tn tc : Nat} {a : Option Addr} {k c : Nat} {fB : Nat → Bool} {fS fT : Nat → ByteArray} {T E : TypeId} (hbl : Below w.heap.size w wr) (hf : Far P y0 wr) (hb : Below wr.heap.size wr w2)
    (hr : Row w2 P T (plC sa sn sc ch ta tn tc a k c)) (ho : w2.ownsRow y0.heap.size E 3 (.slice a k c) k (qcs fB fS fT k)) (hne : E ≠ T) (hP : w.heap.size ≤ P) (hy : w.heap.size ≤ y0.heap.size) :
    ∀ (g cap : Nat) (w3 : World), w3.ownsRow y0.heap.size E 3 (.slice (some ⟨g, 0, none⟩) (k + 1) cap) (k + 1) (qcs fB fS fT k ++ [.bool (fB k), .string (fS k), .string (fT k)]) → w2.grownBy w3 (Value.slice a k c).ownBlock →
    Below w.heap.size w (w3.setCell ⟨P, 3, none⟩ (.slice (some ⟨g, 0, none⟩) (k + 1) cap)) ∧ Far P y0 (w3.setCell ⟨P, 3, none⟩ (.slice (some ⟨g, 0, none⟩) (k + 1) cap)) ∧ Row (w3.setCell ⟨P, 3, none⟩ (.slice (some ⟨g, 0, none⟩) (k + 1) cap)) P T (plC sa sn sc ch ta tn tc (some ⟨g, 0, none⟩) (k + 1) cap)
      ∧ (w3.setCell ⟨P, 3, none⟩ (.slice (some ⟨g, 0, none⟩) (k + 1) cap)).ownsRow y0.heap.size E 3 (.slice (some ⟨g, 0, none⟩) (k + 1) cap) (k + 1) (qcs fB fS fT (k + 1)) := by
  intro g cap w3 ho3 hg
  have hlt := ho.lt
  have hr3 := hr.grown hg (hr.apart ho hne)
  have hb2 : Below w.heap.size w w2 := hbl.trans (hb.mono hbl.size)
  have hb3 : Below w.heap.size w w3 := hb2.trans ⟨hg.os, hg.tape, hg.output, hg.size, fun j hj => hg.block j (Nat.lt_of_lt_of_le hj hb2.size) (fun e => by have := (hlt j e.symm).1; omega)⟩
  refine ⟨hb3.setCell (p := ⟨P, 3, none⟩) hP _, ((hf.trans (Far.of_below hb)).of_grown hg (fun x hx => (hlt x hx).1)).trans (Far.setCell _ _ _ _), hr3.set 3 _, own_setCell ho3 _ _ _ (hr3.apart ho3 hne)⟩
set_option linter.unusedSimpArgs false in
set_option maxHeartbeats 6400000 in
set_option maxRecDepth 100000 in
theorem plain_any (ch : Bool) (f : Nat → Int) (r : Nat) (na : Option Addr) (n nc : Nat) (ta : Option Addr) (tn tc : Nat) (fP : Nat → Int) (fQ : Nat → Nat) (g : Nat → Int) (w : World) (hr : r ≤ 8) (h : RRow w na n nc fP fQ) (ht : KRow w .i32 ta tn tc g) (hn : n ≤ 1000000) (htn : tn ≤ 1000000)
    (hQ : ∀ j, j < n → 0 < fQ j) (K : Nat) (hK : K ≤ 100000) (h1 : ∀ j, j < n → (fP j).natAbs < 4294967296 ^ K) (h2 : ∀ j, j < n → fQ j < 4294967296 ^ K) :
    Calls Tryz.prog 34 #[.agg (arrC ch ((r : Int) - 1) (dm f r) na n nc ta tn tc)] w fun e w' => ∃ cs, e = .returned (.agg cs) ∧ PlnAt w' cs f r ch g tn (fun j => rB (fP j)) (fun j => rS (fP j)) (fun j => str (dec (fQ j))) n ∧ Below w.heap.size w w' := by
  have SH := Lib.hid (fun wz => shape_any ch f r na n nc ta tn tc wz hr)
  have RU := Lib.hid (fun wz h => runes_any ch ((r : Int) - 1) (dm f r) na n nc ta tn tc g wz h htn)
  obtain ⟨i0, hi, hz0, hz1, hz2⟩ := info_parts infoN
  have NM := Lib.hid (fun a n' c m a2 n2 c2 P Q wz hz hq p1 p2 => num_any a n' c m a2 n2 c2 P Q wz hz hq K hK p1 p2)
  unfold NumTold at NM
  have HQ := Lib.hid hQ
  have H1 := Lib.hid h1
  have H2 := Lib.hid h2
  have HR := Lib.hid h
  have hl := h.len
  have BB := Lib.hid (((((Bag.start w).krow ht).rrow h).newRow (arrC ch ((r : Int) - 1) (dm f r) na n nc ta tn tc) 32).newRow plZ 26)
  simp only [World.size_alloc] at BB
  generalize dm f r = d at *
  generalize (r : Int) - 1 = more at *
  unfold arrC at BB SH RU
  unfold arrC
  unfold plZ at BB
  clear h ht hQ h1 h2
  go_enter Tryz.func34, Tryz.ntmps34
  go_wp2_with fail
  refine wp_region_inv3 ⟨(fun j => ([[6], [7], [8], [9], [10], [11], [12], [3], []] : List (List Nat)).getD j []), (fun j => ([[], [0], [], [2], [], [0, 1, 4], [0, 1, 2, 3, 4, 5], [], [0, 1, 2, 3, 4, 5, 6, 7]] : List (List Nat)).getD j []), [7]⟩ 8 (fun jj vv yy => match jj with | 0 => vv = [some (.agg #[.bool ch, .int .i64 more, .int .i64 (d 0), .int .i64 (d 1), .int .i64 (d 2), .int .i64 (d 3), .int .i64 (d 4), .int .i64 (d 5), .int .i64 (d 6), .int .i64 (d 7), .slice na n nc, .slice ta tn tc])] | 1 => ∃ (x1 : Option Addr), ∃ (c1 : Nat), vv = [some (.slice x1 r c1)] ∧ KRow yy .i64 x1 r c1 f | 2 => vv = [some (.pointer (some ⟨w.heap.size, 0, none⟩))] | 3 => vv = [some (.bool ch)] | 4 => vv = [some (.agg #[.bool ch, .int .i64 more, .int .i64 (d 0), .int .i64 (d 1), .int .i64 (d 2), .int .i64 (d 3), .int .i64 (d 4), .int .i64 (d 5), .int .i64 (d 6), .int .i64 (d 7), .slice na n nc, .slice ta tn tc])] | 5 => ∃ (x5 : Option Addr), ∃ (c5 : Nat), vv = [some (.slice x5 tn c5)] ∧ KRow yy .i32 x5 tn c5 g | 6 => ∃ (x1 : Option Addr), ∃ (c1 : Nat), ∃ (x5 : Option Addr), ∃ (c5 : Nat), vv = [some (.agg #[.slice x1 r c1, .bool ch, .slice x5 tn c5, .slice none 0 0])] ∧ KRow yy .i64 x1 r c1 f ∧ KRow yy .i32 x5 tn c5 g | 7 => ∃ (k7 : Nat), vv = [some (.pointer (some ⟨k7, 0, none⟩))] ∧ Row yy k7 26 #[.slice none 0 0, .bool false, .slice none 0 0, .slice none 0 0] ∧ w.heap.size + 1 < k7 | _ => True) (Bag w (fun y => Row y (w.heap.size + 1) 26 #[.slice none 0 0, .bool false, .slice none 0 0, .slice none 0 0] ∧ Row y w.heap.size 32 #[.bool ch, .int .i64 more, .int .i64 (d 0), .int .i64 (d 1), .int .i64 (d 2), .int .i64 (d 3), .int .i64 (d 4), .int .i64 (d 5), .int .i64 (d 6), .int .i64 (d 7), .slice na n nc, .slice ta tn tc] ∧ RRow y na n nc fP fQ ∧ KRow y .i32 ta tn tc g ∧ True)) (by kernel_rfl) (by kernel_rfl) (by kernel_rfl) (by kernel_rfl) BB.out.drew ?_ ?_ ?_
  · intro jj vv yw yw2 hb h
    match jj, h with
    | 0, h => exact h
    | 1, ⟨x1, c1, e1, g1_0⟩ => exact Exists.intro x1 (Exists.intro c1 (And.intro e1 (g1_0.below hb)))
    | 2, h => exact h
    | 3, h => exact h
    | 4, h => exact h
    | 5, ⟨x5, c5, e5, g5_0⟩ => exact Exists.intro x5 (Exists.intro c5 (And.intro e5 (g5_0.below hb)))
    | 6, ⟨x1, c1, x5, c5, e6, g6_0, g6_1⟩ => exact Exists.intro x1 (Exists.intro c1 (Exists.intro x5 (Exists.intro c5 (And.intro e6 (And.intro (g6_0.below hb) (g6_1.below hb))))))
    | 7, ⟨k7, e7, g7_0, g7_1⟩ => exact Exists.intro k7 (And.intro e7 (And.intro (g7_0.below hb) g7_1))
    | _ + 8, h => exact h
  · intro ac yw hsz hdf hold hB hp
    obtain ⟨P, e7, hp0, hP⟩ := hp 7 (by decide)
    obtain ⟨x1, c1, x5, c5, e6, hk1, hk5⟩ := hp 6 (by decide)
    have t3 : ac.tmps[3]? = some (.pointer (some ⟨P, 0, none⟩)) := (List.cons.inj e7).1
    have t12 : ac.tmps[12]? = some (.agg #[.slice x1 r c1, .bool ch, .slice x5 tn c5, .slice none 0 0]) := (List.cons.inj e6).1
    have t1 : ac.tmps[1]? = some (.pointer (some ⟨w.heap.size, 0, none⟩)) := hold 1 (by kernel_rfl)
    have t2 : ac.tmps[2]? = some (.pointer (some ⟨w.heap.size + 1, 0, none⟩)) := hold 2 (by kernel_rfl)
    clear hold hp e6 e7
    obtain ⟨TV, hTV⟩ : ∃ TV : Nat → Value, ∀ i, (ac.tmps[i]?).getD undef = TV i := ⟨_, fun _ => rfl⟩
    have f1 := (hTV 1).symm.trans (congrArg (fun x => Option.getD x undef) t1)
    have f2 := (hTV 2).symm.trans (congrArg (fun x => Option.getD x undef) t2)
    have f3 := (hTV 3).symm.trans (congrArg (fun x => Option.getD x undef) t3)
    have f12 := (hTV 12).symm.trans (congrArg (fun x => Option.getD x undef) t12)
    have hac := act_eq (n := 29) hsz TV hTV
    rw [show ((List.range 29).map TV).toArray = #[TV 0, TV 1, TV 2, TV 3, TV 4, TV 5, TV 6, TV 7, TV 8, TV 9, TV 10, TV 11, TV 12, TV 13, TV 14, TV 15, TV 16, TV 17, TV 18, TV 19, TV 20, TV 21, TV 22, TV 23, TV 24, TV 25, TV 26, TV 27, TV 28] from rfl, f1, f2, f3, f12, hdf] at hac
    simp only [Option.getD_some] at hac
    subst hac
    clear hTV f1 f2 f3 f12
    have q0 : yw.cell? ⟨P, 0, none⟩ = some (.slice none 0 0) := hp0.cell 0
    have q1 : yw.cell? ⟨P, 1, none⟩ = some (.bool false) := hp0.cell 1
    have q2 : yw.cell? ⟨P, 2, none⟩ = some (.slice none 0 0) := hp0.cell 2
    have q3 : yw.cell? ⟨P, 3, none⟩ = some (.slice none 0 0) := hp0.cell 3
    have g0 := hp0.free 0
    have g1 := hp0.free 1
    have g2 := hp0.free 2
    have g3 := hp0.free 3
    have hnl : NoInt (plC none 0 0 false none 0 0 none 0 0) := noInt_pl _ _ _ _ _ _ _ _ _ _
    have HF := far_put4 yw P (.slice x1 r c1) (.bool ch) (.slice x5 tn c5) (.slice none 0 0)
    have HY : Hid (Below w.heap.size w (put4 yw P (.slice x1 r c1) (.bool ch) (.slice x5 tn c5) (.slice none 0 0)) ∧ Row (put4 yw P (.slice x1 r c1) (.bool ch) (.slice x5 tn c5) (.slice none 0 0)) P 26 (plC x1 r c1 ch x5 tn c5 none 0 0)
        ∧ Row (put4 yw P (.slice x1 r c1) (.bool ch) (.slice x5 tn c5) (.slice none 0 0)) (w.heap.size + 1) 26 #[.slice none 0 0, .bool false, .slice none 0 0, .slice none 0 0] ∧ Row (put4 yw P (.slice x1 r c1) (.bool ch) (.slice x5 tn c5) (.slice none 0 0)) w.heap.size 32 #[.bool ch, .int .i64 more, .int .i64 (d 0), .int .i64 (d 1), .int .i64 (d 2), .int .i64 (d 3), .int .i64 (d 4), .int .i64 (d 5), .int .i64 (d 6), .int .i64 (d 7), .slice na n nc, .slice ta tn tc]
        ∧ RRow (put4 yw P (.slice x1 r c1) (.bool ch) (.slice x5 tn c5) (.slice none 0 0)) na n nc fP fQ ∧ (n = 0 ∨ ∀ x, na = some x → x.block ≠ P)
        ∧ KRow (put4 yw P (.slice x1 r c1) (.bool ch) (.slice x5 tn c5) (.slice none 0 0)) .i64 x1 r c1 f ∧ KRow (put4 yw P (.slice x1 r c1) (.bool ch) (.slice x5 tn c5) (.slice none 0 0)) .i32 x5 tn c5 g) :=
      ⟨below_put4 hB.below (by omega) _ _ _ _, row_put4 hp0 _ _ _ _, (HF.block _ (by omega) hB.now.1.lt).trans hB.now.1, (HF.block _ (by omega) hB.now.2.1.lt).trans hB.now.2.1,
        hB.now.2.2.1.away (hp0.noLimb' hnl) (HR.out.older (by omega)) HF, HR.out.older (by omega), hk1.away (hk1.apart hp0 hnl) HF, hk5.away (hk5.apart hp0 hnl) HF⟩
    unfold put4 at HY
    clear HF hnl hp0 hk1 hk5 hB t1 t2 t3 t12
    refine TailWp.step rfl ?_
    intro K hK
    go_simp
    refine hK.out _ _ ?_
    refine TailWp.end rfl ?_
    generalize (((yw.setCell ⟨P, 0, none⟩ (.slice x1 r c1)).setCell ⟨P, 1, none⟩ (.bool ch)).setCell ⟨P, 2, none⟩ (.slice x5 tn c5)).setCell ⟨P, 3, none⟩ (.slice none 0 0) = y0 at *
    clear q0 q1 q2 q3 g0 g1 g2 g3
    obtain ⟨hbl0, hrp0, hrr0, hrb0, hnn0, hne0, hks0, hkt0⟩ := HY.out
    have qn : y0.cell? ⟨w.heap.size, 10, none⟩ = some (.slice na n nc) := hrb0.cell 10
    have H0 : Hid (Below w.heap.size w y0 ∧ Far P y0 y0 ∧ Row y0 P 26 (plC x1 r c1 ch x5 tn c5 none 0 0) ∧ y0.ownsRow y0.heap.size 87 3 (.slice none 0 0) 0 (qcs (fun j => rB (fP j)) (fun j => rS (fP j)) (fun j => str (dec (fQ j))) 0)) :=
      ⟨hbl0, Far.refl _ _, hrp0, World.ownsRow_nil _ _ _ _⟩
    have HPP := Lib.hid (And.intro (show w.heap.size + 1 < P by omega) hbl0.size)
    clear hbl0 hrp0 hrr0 hrb0 hnn0 hne0 hks0 hkt0 hP
    go_wp2_with fail
    go_loopw [16] (fun i wr => ∃ (k : Nat) (a : Option Addr) (c : Nat), k ≤ n ∧ i = .int .i64 k ∧ Hid (Below w.heap.size w wr ∧ Far P y0 wr ∧ Row wr P 26 (plC x1 r c1 ch x5 tn c5 a k c) ∧ wr.ownsRow y0.heap.size 87 3 (.slice a k c) k (qcs (fun j => rB (fP j)) (fun j => rS (fP j)) (fun j => str (dec (fQ j))) k))) (fun i _ => n - (intOf i).toNat)
    case atStart => exact ⟨0, none, 0, by omega, rfl, H0.out⟩
    case round =>
      obtain ⟨k, a, c, hk, rfl, hrel⟩ := hrel
      obtain ⟨hbl, hfar, hrp, hown⟩ := hrel.out
      obtain ⟨_, hrp0, hrr0, hrb0, hnn0, hne0, hks0, hkt0⟩ := HY.out
      by_cases hlt : k < n
      · obtain ⟨b, off, a', n', c', m', a2', n2', c2', rfl, hlb, e1, e2, e3, hi'⟩ := (hnn0.away (hrp0.noLimb' (noInt_pl _ _ _ _ _ _ _ _ _ _)) hne0 hfar).get hlt
        have BB := Lib.hid (((((Bag.start wr).own hown).row hrp).rat hi').alloc (.cells #[.slice a' n' c', .bool m', .slice a2' n2' c2'] 77))
        have HBL := Lib.hid hbl
        have HF := Lib.hid hfar
        have qp : (wr.alloc (.cells #[.slice a' n' c', .bool m', .slice a2' n2' c2'] 77)).cell? ⟨P, 3, none⟩ = some (.slice a k c) := BB.out.now.2.1.cell 3
        clear hbl hfar hrp hown hrp0 hrr0 hrb0 hnn0 hne0 hks0 hkt0 hi'
        have HMX := Lib.hid (show k + 1 ≤ maxLen by unfold maxLen; omega)
        have HMY := Lib.hid (show (k + 1) * 40 ≤ 140737488355328 by omega)
        have HONE := Lib.hid (show ∀ u ∈ ([.bool (rB (fP k)), .string (rS (fP k)), .string (str (dec (fQ k)))] : List Value), u.oneCell' = true by intro u hu; simp at hu; rcases hu with rfl | rfl | rfl <;> rfl)
        go_wp2_with fail
        go_region_law (first
          | (go_simp; go_at_call 71; (with_reducible refine (NM.out _ _ _ _ _ _ _ (fP k) (fQ k) _ ?_ ?_ ?_ ?_).mono ?_); exact BB.out.drew.now.1; exact HQ.out k hlt; exact H1.out k hlt; exact H2.out k hlt; rintro e w2 ⟨rfl, hb2⟩;
              have B2 := Lib.hid ((BB.out.drew.go hb2).newRow #[.bool (rB (fP k)), .string (rS (fP k)), .string (str (dec (fQ k)))] 87);
              have qp2 : w2.cell? ⟨P, 3, none⟩ = some (.slice a k c) := (BB.out.drew.go hb2).now.2.1.cell 3;
              have qp3 : (w2.alloc (.cells #[.bool (rB (fP k)), .string (rS (fP k)), .string (str (dec (fQ k)))] 87)).cell? ⟨P, 3, none⟩ = some (.slice a k c) := B2.out.now.2.2.1.cell 3;
              have HROW := Lib.hid B2.out.now.2.2.1;
              have HOWN := Lib.hid B2.out.now.2.2.2.1;
              have HNEW := Lib.hid (World.news_of_block B2.out.now.1);
              have HBA := Lib.hid (Nat.le_trans HF.out.size B2.out.below.size);
              have HNX := Lib.hid (pl_step HBL.out HF.out B2.out.below HROW.out HOWN.out (by decide) (by have := HPP.out.1; omega) HPP.out.2);
              clear hb2)
          | (refine step_append_lies _ rfl (.tmp 21) (.tmp 24) 24 rfl y0.heap.size 87 i0 _ 3 40 Tryz.underlying24 hi hz0 hz1 hz2 rfl (by omega) (.slice a k c) k _ rfl HOWN.out ⟨w2.heap.size, 0, none⟩ 1 1 [.bool (rB (fP k)), .string (rS (fP k)), .string (str (dec (fQ k)))] rfl rfl HNEW.out HONE.out (by omega) HMX.out HMY.out HBA.out _ rfl ?_; intro g9 cap9 w3 hown3 hgrow hor hlt3;
              have hx := HOWN.out.lt; have hr3 := HROW.out.grown hgrow (HROW.out.apart HOWN.out (by decide)); have qp : w3.cell? ⟨P, 3, none⟩ = some (.slice a k c) := hr3.cell 3; have fp := hr3.free 3; have HN := Lib.hid (HNX.out g9 cap9 w3 hown3 hgrow); clear hx hown3 hgrow hor hlt3 hr3))
        all_goals
          go_wp2
          go_roundw
          case rel => exact ⟨k + 1, _, cap9, by omega, by go_num, HN.out⟩
          case measure => simp [intOf]; omega
      · obtain rfl : k = n := by omega
        have hnk := noInt_pl x1 r c1 ch x5 tn c5 none 0 0
        have qp : wr.cell? ⟨P, 0, none⟩ = some (.slice x1 r c1) := hrp.cell 0
        have qp1 : wr.cell? ⟨P, 1, none⟩ = some (.bool ch) := hrp.cell 1
        have qp2 : wr.cell? ⟨P, 2, none⟩ = some (.slice x5 tn c5) := hrp.cell 2
        have qp3 : wr.cell? ⟨P, 3, none⟩ = some (.slice a k c) := hrp.cell 3
        have hr2 : Row wr (w.heap.size + 1) 26 #[.slice none 0 0, .bool false, .slice none 0 0, .slice none 0 0] := (hfar.block _ (by have := HPP.out.1; omega) hrr0.lt).trans hrr0
        have c0 : wr.cell? ⟨w.heap.size + 1, 0, none⟩ = some (.slice none 0 0) := hr2.cell 0
        have c1' : wr.cell? ⟨w.heap.size + 1, 1, none⟩ = some (.bool false) := hr2.cell 1
        have c2 : wr.cell? ⟨w.heap.size + 1, 2, none⟩ = some (.slice none 0 0) := hr2.cell 2
        have c3 : wr.cell? ⟨w.heap.size + 1, 3, none⟩ = some (.slice none 0 0) := hr2.cell 3
        have f0 := hr2.free 0
        have f1 := hr2.free 1
        have f2 := hr2.free 2
        have f3 := hr2.free 3
        have hF := far_put4 wr (w.heap.size + 1) (.slice x1 r c1) (.bool ch) (.slice x5 tn c5) (.slice a k c)
        have hR := row_put4 hr2 (.slice x1 r c1) (.bool ch) (.slice x5 tn c5) (.slice a k c)
        have hni : NoInt #[.slice none 0 0, .bool false, .slice none 0 0, .slice none 0 0] := noInt_pl none 0 0 false none 0 0 none 0 0
        have k1 := hks0.away (hks0.apart hrp0 hnk) hfar
        have k5 := hkt0.away (hkt0.apart hrp0 hnk) hfar
        obtain ⟨a1, c9, he, hq⟩ := QRow.of_own hown
        injection he with he1 _ he2
        subst he1 he2
        have HE : Hid ((∃ cs, (Ending.returned (.agg #[.slice x1 r c1, .bool ch, .slice x5 tn c5, .slice a k c])) = .returned (.agg cs) ∧ PlnAt (put4 wr (w.heap.size + 1) (.slice x1 r c1) (.bool ch) (.slice x5 tn c5) (.slice a k c)) cs f r ch g tn (fun j => rB (fP j)) (fun j => rS (fP j)) (fun j => str (dec (fQ j))) k ∧ Below w.heap.size w (put4 wr (w.heap.size + 1) (.slice x1 r c1) (.bool ch) (.slice x5 tn c5) (.slice a k c)))) :=
          ⟨_, rfl, ⟨_, _, _, _, _, _, rfl, k1.away (k1.apart hr2 hni) hF, k5.away (k5.apart hr2 hni) hF, hq.away (own_ne hown (by have := HPP.out; have := hrp0.lt; omega)) hF⟩, below_put4 hbl (by omega) _ _ _ _⟩
        have HS : Hid (∀ i, (put4 wr (w.heap.size + 1) (.slice x1 r c1) (.bool ch) (.slice x5 tn c5) (.slice a k c)).cell? ⟨w.heap.size + 1, i, none⟩ = (#[.slice x1 r c1, .bool ch, .slice x5 tn c5, .slice a k c] : Array Value)[i]?) := fun i => hR.cell i
        have s0 := HS.out 0
        have s1 := HS.out 1
        have s2 := HS.out 2
        have s3 := HS.out 3
        unfold put4 at HE s0 s1 s2 s3
        clear hbl hfar hrp hown hrp0 hrr0 hrb0 hnn0 hne0 hks0 hkt0 hF hR hni k1 k5 hq hr2 hnk HS
        go_wp2
        exact bodyPost_ret (v := .agg #[.slice x1 r c1, .bool ch, .slice x5 tn c5, .slice a k c]) (by simp [results, Tryz.results34, go_sem, s0, s1, s2, s3]) rfl HE.out
  refine Stps2.cons (o := _) ?_ ?_
  · intro ac yw hsz hold hB hp K hK
    have t1 : ac.tmps[1]? = some (.pointer (some ⟨w.heap.size, 0, none⟩)) := hold 1 (by kernel_rfl)
    clear hold hp hsz
    have v0 : yw.cell? ⟨w.heap.size, 0, none⟩ = some (.bool ch) := hB.now.2.1.cell 0
    have v1 : yw.cell? ⟨w.heap.size, 1, none⟩ = some (.int .i64 more) := hB.now.2.1.cell 1
    have v2 : yw.cell? ⟨w.heap.size, 2, none⟩ = some (.int .i64 (d 0)) := hB.now.2.1.cell 2
    have v3 : yw.cell? ⟨w.heap.size, 3, none⟩ = some (.int .i64 (d 1)) := hB.now.2.1.cell 3
    have v4 : yw.cell? ⟨w.heap.size, 4, none⟩ = some (.int .i64 (d 2)) := hB.now.2.1.cell 4
    have v5 : yw.cell? ⟨w.heap.size, 5, none⟩ = some (.int .i64 (d 3)) := hB.now.2.1.cell 5
    have v6 : yw.cell? ⟨w.heap.size, 6, none⟩ = some (.int .i64 (d 4)) := hB.now.2.1.cell 6
    have v7 : yw.cell? ⟨w.heap.size, 7, none⟩ = some (.int .i64 (d 5)) := hB.now.2.1.cell 7
    have v8 : yw.cell? ⟨w.heap.size, 8, none⟩ = some (.int .i64 (d 6)) := hB.now.2.1.cell 8
    have v9 : yw.cell? ⟨w.heap.size, 9, none⟩ = some (.int .i64 (d 7)) := hB.now.2.1.cell 9
    have v10 : yw.cell? ⟨w.heap.size, 10, none⟩ = some (.slice na n nc) := hB.now.2.1.cell 10
    have v11 : yw.cell? ⟨w.heap.size, 11, none⟩ = some (.slice ta tn tc) := hB.now.2.1.cell 11
    go_simp
    exact hK.out _ _ ⟨hB, rfl, Nat.le_refl _, .inl (Below.refl _ _), fun h => absurd h (by decide)⟩
  refine Stps2.cons (o := _) ?_ ?_
  · intro ac yw hsz hold hB hp K hK
    have e0 := hp 0 (by decide)
    have t6 : ac.tmps[6]? = some (.agg #[.bool ch, .int .i64 more, .int .i64 (d 0), .int .i64 (d 1), .int .i64 (d 2), .int .i64 (d 3), .int .i64 (d 4), .int .i64 (d 5), .int .i64 (d 6), .int .i64 (d 7), .slice na n nc, .slice ta tn tc]) := (List.cons.inj e0).1
    clear hold hp hsz e0
    go_simp
    (go_at_call 35; (with_reducible refine (SH.out _).mono ?_); rintro e wz ⟨x1, c1, rfl, h1_0, hbz⟩)
    exact hK.out _ _ ⟨hB.go hbz, Exists.intro x1 (Exists.intro c1 (And.intro rfl h1_0)), hbz.size, .inl hbz, fun h => absurd h (by decide)⟩
  refine Stps2.cons (o := _) ?_ ?_
  · intro ac yw hsz hold hB hp K hK
    have t1 : ac.tmps[1]? = some (.pointer (some ⟨w.heap.size, 0, none⟩)) := hold 1 (by kernel_rfl)
    clear hold hp hsz
    go_simp
    exact hK.out _ _ ⟨hB, rfl, Nat.le_refl _, .inl (Below.refl _ _), fun h => absurd h (by decide)⟩
  refine Stps2.cons (o := _) ?_ ?_
  · intro ac yw hsz hold hB hp K hK
    have e2 := hp 2 (by decide)
    have t8 : ac.tmps[8]? = some (.pointer (some ⟨w.heap.size, 0, none⟩)) := (List.cons.inj e2).1
    clear hold hp hsz e2
    have v0 : yw.cell? ⟨w.heap.size, 0, none⟩ = some (.bool ch) := hB.now.2.1.cell 0
    have v1 : yw.cell? ⟨w.heap.size, 1, none⟩ = some (.int .i64 more) := hB.now.2.1.cell 1
    have v2 : yw.cell? ⟨w.heap.size, 2, none⟩ = some (.int .i64 (d 0)) := hB.now.2.1.cell 2
    have v3 : yw.cell? ⟨w.heap.size, 3, none⟩ = some (.int .i64 (d 1)) := hB.now.2.1.cell 3
    have v4 : yw.cell? ⟨w.heap.size, 4, none⟩ = some (.int .i64 (d 2)) := hB.now.2.1.cell 4
    have v5 : yw.cell? ⟨w.heap.size, 5, none⟩ = some (.int .i64 (d 3)) := hB.now.2.1.cell 5
    have v6 : yw.cell? ⟨w.heap.size, 6, none⟩ = some (.int .i64 (d 4)) := hB.now.2.1.cell 6
    have v7 : yw.cell? ⟨w.heap.size, 7, none⟩ = some (.int .i64 (d 5)) := hB.now.2.1.cell 7
    have v8 : yw.cell? ⟨w.heap.size, 8, none⟩ = some (.int .i64 (d 6)) := hB.now.2.1.cell 8
    have v9 : yw.cell? ⟨w.heap.size, 9, none⟩ = some (.int .i64 (d 7)) := hB.now.2.1.cell 9
    have v10 : yw.cell? ⟨w.heap.size, 10, none⟩ = some (.slice na n nc) := hB.now.2.1.cell 10
    have v11 : yw.cell? ⟨w.heap.size, 11, none⟩ = some (.slice ta tn tc) := hB.now.2.1.cell 11
    go_simp
    exact hK.out _ _ ⟨hB, rfl, Nat.le_refl _, .inl (Below.refl _ _), fun h => absurd h (by decide)⟩
  refine Stps2.cons (o := _) ?_ ?_
  · intro ac yw hsz hold hB hp K hK
    have t1 : ac.tmps[1]? = some (.pointer (some ⟨w.heap.size, 0, none⟩)) := hold 1 (by kernel_rfl)
    clear hold hp hsz
    have v0 : yw.cell? ⟨w.heap.size, 0, none⟩ = some (.bool ch) := hB.now.2.1.cell 0
    have v1 : yw.cell? ⟨w.heap.size, 1, none⟩ = some (.int .i64 more) := hB.now.2.1.cell 1
    have v2 : yw.cell? ⟨w.heap.size, 2, none⟩ = some (.int .i64 (d 0)) := hB.now.2.1.cell 2
    have v3 : yw.cell? ⟨w.heap.size, 3, none⟩ = some (.int .i64 (d 1)) := hB.now.2.1.cell 3
    have v4 : yw.cell? ⟨w.heap.size, 4, none⟩ = some (.int .i64 (d 2)) := hB.now.2.1.cell 4
    have v5 : yw.cell? ⟨w.heap.size, 5, none⟩ = some (.int .i64 (d 3)) := hB.now.2.1.cell 5
    have v6 : yw.cell? ⟨w.heap.size, 6, none⟩ = some (.int .i64 (d 4)) := hB.now.2.1.cell 6
    have v7 : yw.cell? ⟨w.heap.size, 7, none⟩ = some (.int .i64 (d 5)) := hB.now.2.1.cell 7
    have v8 : yw.cell? ⟨w.heap.size, 8, none⟩ = some (.int .i64 (d 6)) := hB.now.2.1.cell 8
    have v9 : yw.cell? ⟨w.heap.size, 9, none⟩ = some (.int .i64 (d 7)) := hB.now.2.1.cell 9
    have v10 : yw.cell? ⟨w.heap.size, 10, none⟩ = some (.slice na n nc) := hB.now.2.1.cell 10
    have v11 : yw.cell? ⟨w.heap.size, 11, none⟩ = some (.slice ta tn tc) := hB.now.2.1.cell 11
    go_simp
    exact hK.out _ _ ⟨hB, rfl, Nat.le_refl _, .inl (Below.refl _ _), fun h => absurd h (by decide)⟩
  refine Stps2.cons (o := _) ?_ ?_
  · intro ac yw hsz hold hB hp K hK
    have e4 := hp 4 (by decide)
    have t10 : ac.tmps[10]? = some (.agg #[.bool ch, .int .i64 more, .int .i64 (d 0), .int .i64 (d 1), .int .i64 (d 2), .int .i64 (d 3), .int .i64 (d 4), .int .i64 (d 5), .int .i64 (d 6), .int .i64 (d 7), .slice na n nc, .slice ta tn tc]) := (List.cons.inj e4).1
    clear hold hp hsz e4
    go_simp
    (go_at_call 59; (with_reducible refine (RU.out _ hB.now.2.2.2.1).mono ?_); rintro e wz ⟨x5, c5, rfl, h5_0, hbz⟩)
    exact hK.out _ _ ⟨hB.go hbz, Exists.intro x5 (Exists.intro c5 (And.intro rfl h5_0)), hbz.size, .inl hbz, fun h => absurd h (by decide)⟩
  refine Stps2.cons (o := _) ?_ ?_
  · intro ac yw hsz hold hB hp K hK
    obtain ⟨x1_1, c1_1, e1, g1_0⟩ := hp 1 (by decide)
    have t7 : ac.tmps[7]? = some (.slice x1_1 r c1_1) := (List.cons.inj e1).1
    have e3 := hp 3 (by decide)
    have t9 : ac.tmps[9]? = some (.bool ch) := (List.cons.inj e3).1
    obtain ⟨x5_5, c5_5, e5, g5_0⟩ := hp 5 (by decide)
    have t11 : ac.tmps[11]? = some (.slice x5_5 tn c5_5) := (List.cons.inj e5).1
    clear hold hp hsz e1 e3 e5
    go_simp
    exact hK.out _ _ ⟨hB, Exists.intro x1_1 (Exists.intro c1_1 (Exists.intro x5_5 (Exists.intro c5_5 (And.intro rfl (And.intro g1_0 g5_0))))), Nat.le_refl _, .inl (Below.refl _ _), fun h => absurd h (by decide)⟩
  refine Stps2.cons (o := _) ?_ ?_
  · intro ac yw hsz hold hB hp K hK
    clear hold hp hsz
    have hk0 := hB.now.1.lt
    have hsl := Row.new yw 26 #[.slice none 0 0, .bool false, .slice none 0 0, .slice none 0 0]
    have hbz : Below yw.heap.size yw (yw.alloc (.cells #[.slice none 0 0, .bool false, .slice none 0 0, .slice none 0 0] 26)) ∧ yw.heap.size < (yw.alloc (.cells #[.slice none 0 0, .bool false, .slice none 0 0, .slice none 0 0] 26)).heap.size := ⟨(Below.refl _ _).alloc (Nat.le_refl _) _, by simp⟩
    go_simp
    exact hK.out _ _ ⟨hB.alloc _, Exists.intro yw.heap.size (And.intro rfl (And.intro hsl hk0)), Nat.le_of_lt hbz.2, .inl hbz.1, fun _ => ⟨_, rfl, Nat.le_refl _, hbz.2⟩⟩
  exact Stps2.nil _
end Go.Proofs.YtifnamlgkooacaaGreatDoor

namespace Go.Proofs.YtifnamlgkooacaaGreatDoor
open Go.RowKit
theorem RRow.one {w : World} {a : Option Addr} {n c : Nat} {m : Bool} {a2 : Option Addr} {n2 c2 : Nat} {P : Int} {Q : Nat} (h : RatAt w a n c m a2 n2 c2 P Q) (t : TypeId) : RRow (w.alloc (.cells #[.slice a n c, .bool m, .slice a2 n2 c2] t)) (some ⟨w.heap.size, 0, none⟩) 1 1 (fun _ => P) (fun _ => Q) := by
  have hR := Row.new w t #[.slice a n c, .bool m, .slice a2 n2 c2]
  refine ⟨Nat.le_refl _, by unfold maxLen; omega, .inr ⟨_, 0, rfl, by simp, fun j hj => ?_⟩⟩
  obtain rfl : j = 0 := by omega
  exact ⟨a, n, c, m, a2, n2, c2, hR.cell 0, hR.cell 1, hR.cell 2, h.below ((Below.refl _ _).alloc (Nat.le_refl _) _)⟩
theorem KRow.one' (w : World) (ki : IntKind) (x : Int) (t : TypeId) : KRow (w.alloc (.cells #[.int ki x] t)) ki (some ⟨w.heap.size, 0, none⟩) 1 1 (fun _ => x) := by
  refine ⟨Nat.le_refl _, by unfold maxLen; omega, .inr ⟨_, 0, rfl, by simp, fun j hj => ?_⟩⟩
  obtain rfl : j = 0 := by omega
  exact (Row.new w t #[.int ki x]).cell 0
theorem sh_none : (shB (fun _ => (0 : Int)) 0 && decide (itm (fun _ => (0 : Int)) 0 = ((1 : Nat) : Int))) = true := by decide
theorem In64.none (f : Nat → Int) : In64 f 0 := fun _ h => absurd h (Nat.not_lt_zero _)
theorem NumArr.row {w : World} {cs : Array Value} {f : Nat → Int} {r n : Nat} {fP : Nat → Int} {fQ : Nat → Nat} (h : NumArr w cs f r n fP fQ) {g k : Nat} {t : TypeId} {ch : Bool} {more : Int} {d : Nat → Int} {na : Option Addr} {nn nc : Nat} {ta : Option Addr} {tn tc : Nat} (hr : Row w k t (arrC ch more d na nn nc ta tn tc)) (hg : k = g) (cs' : Array Value) : NumArr (w.setRow g cs') cs f r n fP fQ := by
  subst hg
  obtain ⟨a, c, h1, h2⟩ := h
  exact ⟨a, c, h1, h2.away (Row.noLimb hr) (RRow.ne h2 hr) (Far.setRow _ _ _)⟩
theorem ChrArr.row {w : World} {cs : Array Value} {f : Nat → Int} {r n : Nat} {g : Nat → Int} (h : ChrArr w cs f r n g) {k : Nat} {t : TypeId} {ch : Bool} {more : Int} {d : Nat → Int} {na : Option Addr} {nn nc : Nat} {ta : Option Addr} {tn tc : Nat} (hr : Row w k t (arrC ch more d na nn nc ta tn tc)) (cs' : Array Value) : ChrArr (w.setRow k cs') cs f r n g := by
  obtain ⟨a, c, h1, h2⟩ := h
  exact ⟨a, c, h1, h2.away (KRow.ne h2 (by decide) hr) (Far.setRow _ _ _)⟩
theorem zerC_row : zerC = arrC false 0 (fun _ => 0) none 0 0 none 0 0 := rfl
theorem ans_num {w w3 : World} {cs : Array Value} {f : Nat → Int} {r n : Nat} {fP : Nat → Int} {fQ : Nat → Nat} (h : NumArr w3 cs f r n fP fQ) (hb : Below w.heap.size w w3) {k : Nat} {t t' : TypeId} (hr0 : Row w3 k t zerC) (hk : w.heap.size ≤ k) :
    NumTold1 f r n fP fQ w ((w3.alloc (.cells cs t')).setRow k cs) (.returned (.agg cs)) := by
  have hb' : Below w3.heap.size w3 (w3.alloc (.cells cs t')) := (Below.refl _ _).alloc (Nat.le_refl _) _
  rw [zerC_row] at hr0
  exact ⟨cs, rfl, (h.below hb').row (hr0.below hb') rfl cs, below_put (hb.trans (hb'.mono hb.size)) hk _⟩
set_option maxHeartbeats 1600000 in
set_option maxRecDepth 100000 in
theorem arrNum_any (a : Option Addr) (n c : Nat) (m : Bool) (a2 : Option Addr) (n2 c2 : Nat) (P : Int) (Q : Nat) (w : World) (h : RatAt w a n c m a2 n2 c2 P Q) :
    Calls Tryz.prog 43 #[.agg #[.slice a n c, .bool m, .slice a2 n2 c2]] w fun e w' => NumTold1 (fun _ => 0) 0 1 (fun _ => P) (fun _ => Q) w w' e := by
  have NU := Lib.hid (fun la lc wz (h2 : RRow wz la 1 lc (fun _ => P) (fun _ => Q)) => nums_any none 0 0 (fun _ => 0) la 1 lc (fun _ => P) (fun _ => Q) wz (KRow.nought _ _ _ _ (Nat.zero_le _) _) (In64.none _) h2 (by omega))
  rw [sh_none] at NU
  unfold NumsTold at NU
  have BB := Lib.hid (((((Bag.start w).rat h).alloc (.cells #[.slice a n c, .bool m, .slice a2 n2 c2] 77)).newRow zerC 32))
  have HR := Lib.hid (RRow.one BB.out.now.2.1 77)
  have BB := Lib.hid (BB.out.alloc (.cells #[.slice a n c, .bool m, .slice a2 n2 c2] 77))
  simp only [World.size_alloc] at BB HR
  clear h
  go_enter Tryz.func43, Tryz.ntmps43
  go_wp2_with fail
  go_at_call 40
  (with_reducible refine (NU.out _ _ _ ?_).mono ?_)
  · exact HR.out
  rintro e w3 ⟨cs, rfl, hcs, hb3⟩
  rw [if_pos trivial] at hcs
  have B3 := BB.out.go hb3
  have HE := Lib.hid (ans_num (t' := 32) hcs B3.below B3.now.1 (Nat.le_succ _))
  obtain ⟨na, nc, rfl, _⟩ := hcs
  have HR1 := Lib.hid (Row.new w3 32 (arrC false (((0 : Nat) : Int) - 1) (dm (fun _ => 0) 0) na 1 nc none 0 0))
  have HR0 := Lib.hid (B3.now.1.below ((Below.refl _ _).alloc (Nat.le_refl _) (.cells (arrC false (((0 : Nat) : Int) - 1) (dm (fun _ => 0) 0) na 1 nc none 0 0) 32)))
  clear hb3 B3
  unfold arrC
  go_wp2_with (first
    | (refine ld_arr rfl (.tmp 3) rfl w3.heap.size rfl HR1.out ?_)
    | (refine st_arr rfl (.tmp 2) (.tmp 11) rfl (w.heap.size + 1) rfl _ _ _ _ _ _ _ _ _ rfl HR0.out rfl ?_))
  exact bodyPost_ret (res_arr Tryz.results43 rfl (HR0.out.put _) rfl) rfl HE.out
set_option maxHeartbeats 1600000 in
set_option maxRecDepth 100000 in
theorem arrInt_any (X : Int) (w : World) (h : -9223372036854775808 ≤ X ∧ X ≤ 9223372036854775807) :
    Calls Tryz.prog 16 #[.int .i64 X] w fun e w' => NumTold1 (fun _ => 0) 0 1 (fun _ => X) (fun _ => 1) w w' e := by
  have FR := Lib.hid (fun wz => ratFrom_any X wz h)
  unfold RatTold at FR
  have NM := Lib.hid (fun a n c m a2 n2 c2 wz h => arrNum_any a n c m a2 n2 c2 X 1 wz h)
  unfold NumTold1 at NM
  have BB := Lib.hid ((Bag.start w).newRow zerC 32)
  clear h
  go_enter Tryz.func16, Tryz.ntmps16
  go_wp2_with fail
  go_at_call 39
  (with_reducible refine (FR.out _).mono ?_)
  rintro e w2 ⟨a2, n2, c2, m2, a3, n3, c3, rfl, hr2, hb2⟩
  have BB := Lib.hid (BB.out.go hb2)
  have HR := Lib.hid hr2
  clear hb2 hr2
  go_wp2_with fail
  go_at_call 43
  (with_reducible refine (NM.out _ _ _ _ _ _ _ _ HR.out).mono ?_)
  rintro e w3 ⟨cs, rfl, hcs, hb3⟩
  have B3 := BB.out.go hb3
  have hz := B3.now.1
  rw [zerC_row] at hz
  have HE : Hid (NumTold1 (fun _ => 0) 0 1 (fun _ => X) (fun _ => 1) w (w3.setRow w.heap.size cs) (.returned (.agg cs))) := Lib.hid ⟨cs, rfl, hcs.row hz rfl cs, below_put B3.below (Nat.le_refl _) _⟩
  have HZ := Lib.hid B3.now.1
  obtain ⟨na, nc, rfl, _⟩ := hcs
  clear hb3 B3 hz
  unfold arrC
  go_wp2_with (refine st_arr rfl (.tmp 2) (.tmp 5) rfl w.heap.size rfl _ _ _ _ _ _ _ _ _ rfl HZ.out rfl ?_)
  exact bodyPost_ret (res_arr Tryz.results16 rfl (HZ.out.put _) rfl) rfl HE.out
/-- An array as a plain one. -/
theorem plainN_any (cs : Array Value) (f : Nat → Int) (r n : Nat) (fP : Nat → Int) (fQ : Nat → Nat) (w : World) (hr : r ≤ 8) (h : NumArr w cs f r n fP fQ) (hn : n ≤ 1000000) (hQ : ∀ j, j < n → 0 < fQ j) (K : Nat) (hK : K ≤ 100000) (h1 : ∀ j, j < n → (fP j).natAbs < 4294967296 ^ K) (h2 : ∀ j, j < n → fQ j < 4294967296 ^ K) :
    Calls Tryz.prog 34 #[.agg cs] w fun e w' => ∃ cs', e = .returned (.agg cs') ∧ PlnAt w' cs' f r false (fun _ => 0) 0 (fun j => rB (fP j)) (fun j => rS (fP j)) (fun j => str (dec (fQ j))) n ∧ Below w.heap.size w w' := by
  obtain ⟨na, nc, rfl, hq⟩ := h
  exact plain_any false f r na n nc none 0 0 fP fQ (fun _ => 0) w hr hq (KRow.nought _ _ _ _ (Nat.zero_le _) _) hn (by omega) hQ K hK h1 h2
theorem plainC_any (cs : Array Value) (f : Nat → Int) (r n : Nat) (g : Nat → Int) (w : World) (hr : r ≤ 8) (h : ChrArr w cs f r n g) (hn : n ≤ 1000000) :
    Calls Tryz.prog 34 #[.agg cs] w fun e w' => ∃ cs', e = .returned (.agg cs') ∧ PlnAt w' cs' f r true g n (fun _ => rB 0) (fun _ => rS 0) (fun _ => str (dec 1)) 0 ∧ Below w.heap.size w w' := by
  obtain ⟨na, nc, rfl, hq⟩ := h
  exact plain_any true f r none 0 0 na n nc (fun _ => 0) (fun _ => 1) g w hr (RRow.nought _ _ _ (Nat.zero_le _) _ _) hq (by omega) hn (fun _ h => absurd h (Nat.not_lt_zero _)) 1 (by omega) (fun _ h => absurd h (Nat.not_lt_zero _)) (fun _ h => absurd h (Nat.not_lt_zero _))
end Go.Proofs.YtifnamlgkooacaaGreatDoor

namespace Go.Proofs.YtifnamlgkooacaaGreatDoor
open Go.RowKit
set_option maxHeartbeats 1600000 in
set_option maxRecDepth 100000 in
theorem r5Runes_any (a : Option Addr) (n c : Nat) (f : Nat → Int) (a2 : Option Addr) (n2 c2 : Nat) (g : Nat → Int) (w : World) (h : KRow w .i32 a n c f) (h2 : KRow w .i32 a2 n2 c2 g) :
    Calls Tryz.prog 70 #[.slice a n c, .slice a2 n2 c2] w fun e w' => SameTold (decide (n = n2) && sameB f g n) w w' e := by
  have hl := h.len
  have hl2 := h2.len
  have H1 := Lib.hid h
  have H2 := Lib.hid h2
  clear h h2
  by_cases hn : n = n2
  · subst hn
    rw [decide_eq_true rfl, Bool.true_and]
    have dn : ((n : Int) != n) = false := bne_self_eq_false _
    go_enter Tryz.func70, Tryz.ntmps70
    go_wp2
    go_loopw [5] (fun i wr => ∃ k : Nat, k ≤ n ∧ i = .int .i64 k ∧ Hid (Below w.heap.size w wr ∧ sameB f g k = true)) (fun i _ => n - (intOf i).toNat)
    case atStart => exact ⟨0, by omega, rfl, Below.refl _ _, rfl⟩
    case round =>
      obtain ⟨k, hk, rfl, hrel⟩ := hrel
      obtain ⟨hbl, hsm⟩ := hrel.out
      by_cases hlt : k < n
      · obtain ⟨b, off, rfl, hb, hc⟩ := (H1.out.below hbl).get hlt
        obtain ⟨b2, off2, rfl, hb2, hc2⟩ := (H2.out.below hbl).get hlt
        have HBL := Lib.hid hbl
        have hk0 : (0 : Int) ≤ k := by omega
        have hk1 : (k : Int) < n := by omega
        have hk2 : (k : Int) ≤ n := by omega
        by_cases hq : f k = g k
        · have hsm2 : Hid (sameB f g (k + 1) = true) := by show (sameB f g k && _) = true; rw [hsm, decide_eq_true hq]; rfl
          have hne : (f k != g k) = false := by rw [hq]; exact bne_self_eq_false _
          clear hbl hsm
          rw [← hq] at hc2
          have hne : (f k != f k) = false := bne_self_eq_false _
          generalize f k = x at *
          clear hq
          go_wp2_with fail
          go_quiet (fail)
          have HBE : Hid (Below w.heap.size w (wr.drewN nq) ∧ sameB f g (k + 1) = true) := ⟨below_drewN HBL.out nq, hsm2.out⟩
          go_wp2
          go_roundw
          case rel => exact ⟨k + 1, by omega, by go_num, HBE.out⟩
          case measure => simp [intOf]; omega
        · have hno : sameB f g n = false := by
            cases hx : sameB f g n with
            | false => rfl
            | true => exact absurd ((sameB_iff.1 hx) k hlt) hq
          have HN := Lib.hid hno
          have hne : (f k != g k) = true := bne_iff_ne.2 hq
          clear hbl hsm hno
          generalize f k = x at *
          generalize g k = y at *
          clear hq
          go_wp2_with fail
          go_quiet (fail)
          have HBE : Hid (SameTold (sameB f g n) w (wr.drewN nq) (.returned (.bool false))) := ⟨by rw [HN.out], below_drewN HBL.out nq⟩
          go_wp2
          go_ret
          exact HBE.out
      · obtain rfl : k = n := by omega
        have HE : Hid (SameTold (sameB f g k) w wr (.returned (.bool true))) := ⟨by rw [hsm], hbl⟩
        clear hbl hsm
        go_wp2
        go_ret
        exact HE.out
  · rw [decide_eq_false hn, Bool.false_and]
    have dn : ((n : Int) != n2) = true := bne_iff_ne.2 (by omega)
    have HE : Hid (SameTold false w w (.returned (.bool false))) := ⟨rfl, Below.refl _ _⟩
    clear hn
    go_enter Tryz.func70, Tryz.ntmps70
    go_wp2
    go_ret
    exact HE.out
/-- Are the first numbers alike? -/
def nsB (fB : Nat → Bool) (fS fT : Nat → ByteArray) (gB : Nat → Bool) (gS gT : Nat → ByteArray) : Nat → Bool
  | 0 => true
  | k + 1 => nsB fB fS fT gB gS gT k && (decide (fB k = gB k) && (decide (fS k = gS k) && decide (fT k = gT k)))
theorem nsB_iff {fB : Nat → Bool} {fS fT : Nat → ByteArray} {gB : Nat → Bool} {gS gT : Nat → ByteArray} {n : Nat} : nsB fB fS fT gB gS gT n = true ↔ ∀ j, j < n → fB j = gB j ∧ fS j = gS j ∧ fT j = gT j := by
  induction n with
  | zero => exact ⟨fun _ j h => absurd h (Nat.not_lt_zero _), fun _ => rfl⟩
  | succ n ih =>
    show (nsB fB fS fT gB gS gT n && _) = true ↔ _
    rw [Bool.and_eq_true, Bool.and_eq_true, Bool.and_eq_true, decide_eq_true_eq, decide_eq_true_eq, decide_eq_true_eq, ih]
    constructor
    · rintro ⟨h1, h2, h3, h4⟩ j hj
      rcases Nat.lt_or_ge j n with h | h
      · exact h1 j h
      · obtain rfl : j = n := by omega
        exact ⟨h2, h3, h4⟩
    · intro h
      exact ⟨fun j hj => h j (by omega), h n (by omega)⟩
/-- Are two plain arrays alike? -/
def plB (ch ch' : Bool) (r r' : Nat) (S S' : Nat → Int) (tn tn' : Nat) (g g' : Nat → Int) (nn nn' : Nat) (fB : Nat → Bool) (fS fT : Nat → ByteArray) (gB : Nat → Bool) (gS gT : Nat → ByteArray) : Bool :=
  decide (ch = ch') && ((decide (r = r') && sameB S S' r) && ((decide (tn = tn') && sameB g g' tn) && (decide (nn = nn') && nsB fB fS fT gB gS gT nn)))
theorem toList_ne {a b : ByteArray} (h : a ≠ b) : ¬ a.toList = b.toList := fun e => h (by rw [ByteArray.toList_eq, ByteArray.toList_eq] at e; exact ByteArray.ext (Array.toList_inj.1 e))
theorem ne3 {u1 v1 : Bool} {u2 v2 u3 v3 : ByteArray} (h : ¬ (u1 = v1 ∧ u2 = v2 ∧ u3 = v3)) : (u1 = true ∧ v1 = false) ∨ (u1 = false ∧ v1 = true) ∨ (u1 = v1 ∧ ¬ u2.toList = v2.toList) ∨ (u1 = v1 ∧ u2 = v2 ∧ ¬ u3.toList = v3.toList) := by
  cases u1 <;> cases v1
  · by_cases h2 : u2 = v2
    · exact .inr (.inr (.inr ⟨rfl, h2, toList_ne fun h3 => h ⟨rfl, h2, h3⟩⟩))
    · exact .inr (.inr (.inl ⟨rfl, toList_ne h2⟩))
  · exact .inr (.inl ⟨rfl, rfl⟩)
  · exact .inl ⟨rfl, rfl⟩
  · by_cases h2 : u2 = v2
    · exact .inr (.inr (.inr ⟨rfl, h2, toList_ne fun h3 => h ⟨rfl, h2, h3⟩⟩))
    · exact .inr (.inr (.inl ⟨rfl, toList_ne h2⟩))
theorem pl_cells {w : World} {k : Nat} {t : TypeId} {sa : Option Addr} {sn sc : Nat} {ch : Bool} {ta : Option Addr} {tn tc : Nat} {na : Option Addr} {nn nc : Nat} (h : Row w k t #[.slice sa sn sc, .bool ch, .slice ta tn tc, .slice na nn nc]) :
    w.cell? ⟨k, 0, none⟩ = some (.slice sa sn sc) ∧ w.cell? ⟨k, 1, none⟩ = some (.bool ch) ∧ w.cell? ⟨k, 2, none⟩ = some (.slice ta tn tc) ∧ w.cell? ⟨k, 3, none⟩ = some (.slice na nn nc) := ⟨h.cell 0, h.cell 1, h.cell 2, h.cell 3⟩
set_option maxHeartbeats 1600000 in
set_option maxRecDepth 100000 in
theorem r6PSame_any (cs cs' : Array Value) (S : Nat → Int) (r : Nat) (ch : Bool) (g : Nat → Int) (tn : Nat) (fB : Nat → Bool) (fS fT : Nat → ByteArray) (nn : Nat) (S' : Nat → Int) (r' : Nat) (ch' : Bool) (g' : Nat → Int) (tn' : Nat) (gB : Nat → Bool) (gS gT : Nat → ByteArray) (nn' : Nat)
    (w : World) (h : PlnAt w cs S r ch g tn fB fS fT nn) (h' : PlnAt w cs' S' r' ch' g' tn' gB gS gT nn') :
    Calls Tryz.prog 33 #[.agg cs, .agg cs'] w fun e w' => SameTold (plB ch ch' r r' S S' tn tn' g g' nn nn' fB fS fT gB gS gT) w w' e := by
  obtain ⟨sa, sc, ta, tc, na, nc, rfl, h1, h2, h3⟩ := h
  obtain ⟨sa', sc', ta', tc', na', nc', rfl, h1', h2', h3'⟩ := h'
  have IS := Lib.hid (fun wz p q => r6Same_any sa r sc S sa' r' sc' S' wz p q)
  have RS := Lib.hid (fun wz p q => r5Runes_any ta tn tc g ta' tn' tc' g' wz p q)
  have BB := Lib.hid (((((((((Bag.start w).krow h1).krow h2).qrow h3).krow h1').krow h2').qrow h3').newRow (plC sa r sc ch ta tn tc na nn nc) 26).newRow (plC sa' r' sc' ch' ta' tn' tc' na' nn' nc') 26)
  simp only [World.size_alloc] at BB
  have hl := h3.len
  have hl' := h3'.len
  unfold SameTold at IS RS
  unfold plC at BB
  unfold plC
  clear h1 h2 h3 h1' h2' h3'
  by_cases hc : ch = ch'
  · subst hc
    have hp1 : plB ch ch r r' S S' tn tn' g g' nn nn' fB fS fT gB gS gT = ((decide (r = r') && sameB S S' r) && ((decide (tn = tn') && sameB g g' tn) && (decide (nn = nn') && nsB fB fS fT gB gS gT nn))) := by unfold plB; rw [decide_eq_true rfl, Bool.true_and]
    rw [hp1]
    clear hp1
    cases hx : (decide (r = r') && sameB S S' r) with
    | false =>
      rw [hx] at IS
      rw [Bool.false_and]
      clear hx
      go_enter Tryz.func33, Tryz.ntmps33
      go_wp2_with fail
      go_at_call 24
      (with_reducible refine (IS.out _ BB.out.now.2.2.2.2.2.2.2.1 BB.out.now.2.2.2.2.1).mono ?_)
      rintro e w2 ⟨rfl, hb2⟩
      have HE := Lib.hid (BB.out.go hb2).below
      clear hb2
      go_wp2
      go_ret
      exact ⟨rfl, HE.out⟩
    | true =>
      rw [hx] at IS
      rw [Bool.true_and]
      clear hx
      cases hx : (decide (tn = tn') && sameB g g' tn) with
      | false =>
        rw [hx] at RS
        rw [Bool.false_and]
        clear hx
        go_enter Tryz.func33, Tryz.ntmps33
        go_wp2_with fail
        go_at_call 24
        (with_reducible refine (IS.out _ BB.out.now.2.2.2.2.2.2.2.1 BB.out.now.2.2.2.2.1).mono ?_)
        rintro e w2 ⟨rfl, hb2⟩
        have BB := Lib.hid (BB.out.go hb2)
        clear hb2
        obtain ⟨x0, x1, x2, x3⟩ := pl_cells BB.out.now.2.1
        obtain ⟨y0, y1, y2, y3⟩ := pl_cells BB.out.now.1
        go_wp2_with fail
        go_at_call 70
        (with_reducible refine (RS.out _ BB.out.now.2.2.2.2.2.2.1 BB.out.now.2.2.2.1).mono ?_)
        rintro e w3 ⟨rfl, hb3⟩
        have HE := Lib.hid (BB.out.go hb3).below
        clear hb3
        go_wp2
        go_ret
        exact ⟨rfl, HE.out⟩
      | true =>
        rw [hx] at RS
        rw [Bool.true_and]
        clear hx
        by_cases hn : nn = nn'
        · subst hn
          rw [decide_eq_true rfl, Bool.true_and]
          have dn : ((nn : Int) != nn) = false := bne_self_eq_false _
          go_enter Tryz.func33, Tryz.ntmps33
          go_wp2_with fail
          go_at_call 24
          (with_reducible refine (IS.out _ BB.out.now.2.2.2.2.2.2.2.1 BB.out.now.2.2.2.2.1).mono ?_)
          rintro e w2 ⟨rfl, hb2⟩
          have BB := Lib.hid (BB.out.go hb2)
          clear hb2
          obtain ⟨x0, x1, x2, x3⟩ := pl_cells BB.out.now.2.1
          obtain ⟨y0, y1, y2, y3⟩ := pl_cells BB.out.now.1
          go_wp2_with fail
          go_at_call 70
          (with_reducible refine (RS.out _ BB.out.now.2.2.2.2.2.2.1 BB.out.now.2.2.2.1).mono ?_)
          rintro e w3 ⟨rfl, hb3⟩
          have BB := Lib.hid (BB.out.go hb3)
          clear hb3
          obtain ⟨x0, x1, x2, x3⟩ := pl_cells BB.out.now.2.1
          obtain ⟨y0, y1, y2, y3⟩ := pl_cells BB.out.now.1
          have H0 := Lib.hid BB.out.below
          go_wp2_with fail
          go_loopw [5] (fun i wr => ∃ k : Nat, k ≤ nn ∧ i = .int .i64 k ∧ Hid (Below w3.heap.size w3 wr ∧ nsB fB fS fT gB gS gT k = true)) (fun i _ => nn - (intOf i).toNat)
          case atStart => exact ⟨0, by omega, rfl, Below.refl _ _, rfl⟩
          case round =>
            obtain ⟨k, hk, rfl, hrel⟩ := hrel
            obtain ⟨hbl, hsm⟩ := hrel.out
            have B4 := Lib.hid (BB.out.go hbl)
            clear x0 x1 x2 x3 y0 y1 y2 y3
            obtain ⟨x0, x1, x2, x3⟩ := pl_cells B4.out.now.2.1
            obtain ⟨y0, y1, y2, y3⟩ := pl_cells B4.out.now.1
            by_cases hlt : k < nn
            · obtain ⟨b, off, rfl, hb, c1, c2, c3⟩ := B4.out.now.2.2.2.2.2.1.get hlt
              obtain ⟨b2, off2, rfl, hb2, d1, d2, d3⟩ := B4.out.now.2.2.1.get hlt
              have HBL := Lib.hid hbl
              by_cases hq : fB k = gB k ∧ fS k = gS k ∧ fT k = gT k
              · have hsm2 : Hid (nsB fB fS fT gB gS gT (k + 1) = true) := by show (nsB fB fS fT gB gS gT k && _) = true; rw [hsm, decide_eq_true hq.1, decide_eq_true hq.2.1, decide_eq_true hq.2.2]; rfl
                rw [← hq.1] at d1
                rw [← hq.2.1] at d2
                rw [← hq.2.2] at d3
                clear hq hbl hsm
                generalize fB k = u1 at *
                generalize fS k = u2 at *
                generalize fT k = u3 at *
                go_wp2_with fail
                go_quiet (fail)
                have HBE : Hid (Below w3.heap.size w3 (wr.drewN nq) ∧ nsB fB fS fT gB gS gT (k + 1) = true) := ⟨below_drewN HBL.out nq, hsm2.out⟩
                go_wp2
                go_roundw
                case rel => exact ⟨k + 1, by omega, by go_num, HBE.out⟩
                case measure => simp [intOf]; omega
              · have hno : nsB fB fS fT gB gS gT nn = false := by
                  cases hx : nsB fB fS fT gB gS gT nn with
                  | false => rfl
                  | true => exact absurd ((nsB_iff.1 hx) k hlt) hq
                have HN := Lib.hid hno
                clear hbl hsm hno
                generalize fB k = u1 at *
                generalize fS k = u2 at *
                generalize fT k = u3 at *
                generalize gB k = v1 at *
                generalize gS k = v2 at *
                generalize gT k = v3 at *
                rcases ne3 hq with ⟨rfl, rfl⟩ | ⟨rfl, rfl⟩ | ⟨rfl, hd⟩ | ⟨rfl, rfl, hd⟩
                all_goals
                  clear hq
                  go_wp2_with fail
                  go_quiet (fail)
                  have HBE : Hid (SameTold (nsB fB fS fT gB gS gT nn) w (wr.drewN nq) (.returned (.bool false))) := ⟨by rw [HN.out], below_drewN B4.out.below nq⟩
                  go_wp2
                  go_ret
                  exact HBE.out
            · obtain rfl : k = nn := by omega
              have HE : Hid (SameTold (nsB fB fS fT gB gS gT k) w wr (.returned (.bool true))) := ⟨by rw [hsm], B4.out.below⟩
              clear hbl hsm
              go_wp2
              go_ret
              exact HE.out
        · rw [decide_eq_false hn, Bool.false_and]
          have dn : ((nn : Int) != nn') = true := bne_iff_ne.2 (by omega)
          clear hn
          go_enter Tryz.func33, Tryz.ntmps33
          go_wp2_with fail
          go_at_call 24
          (with_reducible refine (IS.out _ BB.out.now.2.2.2.2.2.2.2.1 BB.out.now.2.2.2.2.1).mono ?_)
          rintro e w2 ⟨rfl, hb2⟩
          have BB := Lib.hid (BB.out.go hb2)
          clear hb2
          obtain ⟨x0, x1, x2, x3⟩ := pl_cells BB.out.now.2.1
          obtain ⟨y0, y1, y2, y3⟩ := pl_cells BB.out.now.1
          go_wp2_with fail
          go_at_call 70
          (with_reducible refine (RS.out _ BB.out.now.2.2.2.2.2.2.1 BB.out.now.2.2.2.1).mono ?_)
          rintro e w3 ⟨rfl, hb3⟩
          have BB := Lib.hid (BB.out.go hb3)
          clear hb3
          obtain ⟨x0, x1, x2, x3⟩ := pl_cells BB.out.now.2.1
          obtain ⟨y0, y1, y2, y3⟩ := pl_cells BB.out.now.1
          have HE := Lib.hid BB.out.below
          go_wp2
          go_ret
          exact ⟨rfl, HE.out⟩
  · have hb : plB ch ch' r r' S S' tn tn' g g' nn nn' fB fS fT gB gS gT = false := by unfold plB; rw [decide_eq_false hc, Bool.false_and]
    rw [hb]
    have HE := Lib.hid BB.out.below
    clear hb
    cases ch <;> cases ch'
    · exact absurd rfl hc
    · clear hc
      go_enter Tryz.func33, Tryz.ntmps33
      go_wp2
      go_ret
      exact ⟨rfl, HE.out⟩
    · clear hc
      go_enter Tryz.func33, Tryz.ntmps33
      go_wp2
      go_ret
      exact ⟨rfl, HE.out⟩
    · exact absurd rfl hc
end Go.Proofs.YtifnamlgkooacaaGreatDoor

namespace Go.Proofs.YtifnamlgkooacaaGreatDoor
open Go.RowKit
attribute [local go_sem ↓] Go.wp_at_zero Go.wp_at_succ
end Go.Proofs.YtifnamlgkooacaaGreatDoor
namespace Go.Proofs.YtifnamlgkooacaaGreatDoor
open Go.RowKit
attribute [local go_sem ↓] Go.wp_at_zero Go.wp_at_succ
/-- A row of numbers. -/
def RatsAt (w : World) (sa : Option Addr) (n c : Nat) (fP : Nat → Int) (fQ : Nat → Nat) : Prop := n ≤ c ∧ n ≤ 1000 ∧ (n = 0 ∨ ∃ b off, sa = some ⟨b, off, none⟩ ∧ b < w.heap.size ∧
  ∀ j, j < n → ∃ a' n' c' m' a2' n2' c2', w.cell? ⟨b, off + j * 3, none⟩ = some (.slice a' n' c') ∧ w.cell? ⟨b, off + j * 3 + 1, none⟩ = some (.bool m') ∧ w.cell? ⟨b, off + j * 3 + 2, none⟩ = some (.slice a2' n2' c2') ∧ RatAt w a' n' c' m' a2' n2' c2' (fP j) (fQ j))
theorem RatsAt.below {w w' : World} {sa : Option Addr} {n c : Nat} {fP : Nat → Int} {fQ : Nat → Nat} (h : RatsAt w sa n c fP fQ) (hb : Below w.heap.size w w') : RatsAt w' sa n c fP fQ := by
  obtain ⟨h0, h1, h2⟩ := h
  refine ⟨h0, h1, ?_⟩
  rcases h2 with h2 | ⟨b, off, rfl, hl, hc⟩
  · exact .inl h2
  · refine .inr ⟨b, off, rfl, Nat.lt_of_lt_of_le hl hb.size, fun j hj => ?_⟩
    obtain ⟨a', n', c', m', a2', n2', c2', e1, e2, e3, hr⟩ := hc j hj
    exact ⟨a', n', c', m', a2', n2', c2', (hb.cell (p := ⟨b, _, none⟩) hl).trans e1, (hb.cell (p := ⟨b, _, none⟩) hl).trans e2, (hb.cell (p := ⟨b, _, none⟩) hl).trans e3, hr.below hb⟩
theorem RatsAt.get {w : World} {sa : Option Addr} {n c : Nat} {fP : Nat → Int} {fQ : Nat → Nat} (h : RatsAt w sa n c fP fQ) {j : Nat} (hj : j < n) :
    ∃ b off a' n' c' m' a2' n2' c2', sa = some ⟨b, off, none⟩ ∧ b < w.heap.size ∧ w.cell? ⟨b, off + j * 3, none⟩ = some (.slice a' n' c') ∧ w.cell? ⟨b, off + j * 3 + 1, none⟩ = some (.bool m') ∧ w.cell? ⟨b, off + j * 3 + 2, none⟩ = some (.slice a2' n2' c2') ∧ RatAt w a' n' c' m' a2' n2' c2' (fP j) (fQ j) := by
  obtain ⟨h0, h1, h2⟩ := h
  rcases h2 with h2 | ⟨b, off, rfl, hl, hc⟩
  · omega
  · obtain ⟨a', n', c', m', a2', n2', c2', e⟩ := hc j hj
    exact ⟨b, off, a', n', c', m', a2', n2', c2', rfl, hl, e⟩
theorem RatsAt.nought (w : World) (fP : Nat → Int) (fQ : Nat → Nat) : RatsAt w none 0 0 fP fQ := ⟨Nat.le_refl _, by omega, .inl rfl⟩
end Go.Proofs.YtifnamlgkooacaaGreatDoor
namespace Go.Proofs.YtifnamlgkooacaaGreatDoor
open Go.RowKit
attribute [local go_sem ↓] Go.wp_at_zero Go.wp_at_succ
end Go.Proofs.YtifnamlgkooacaaGreatDoor

namespace Go.Proofs.YtifnamlgkooacaaGreatDoor
open Go.RowKit
attribute [local go_sem ↓] Go.wp_at_zero Go.wp_at_succ
/-- Is it a number, and which: by its digits. -/
def ofK (s t : ByteArray) : Bool := okB s.data.toList && okB t.data.toList && !decide (numOf t.data.toList = 0)
def ofP (b : Bool) (s t : ByteArray) : Int := loP (sgn b (numOf s.data.toList)) (numOf t.data.toList)
def ofQ (b : Bool) (s t : ByteArray) : Nat := loQ (sgn b (numOf s.data.toList)) (numOf t.data.toList)
/-- Which number it is. -/
def ofO (b : Bool) (s t : ByteArray) : Bool := ofK s t && decide (rB (ofP b s t) = b ∧ rS (ofP b s t) = s ∧ str (dec (ofQ b s t)) = t)
end Go.Proofs.YtifnamlgkooacaaGreatDoor

namespace Go.Proofs.YtifnamlgkooacaaGreatDoor
open Go.RowKit
/-- Are the first numbers all as the page speaks of them? -/
def okN (fB : Nat → Bool) (fS fT : Nat → ByteArray) : Nat → Bool
  | 0 => true
  | k + 1 => okN fB fS fT k && ofO (fB k) (fS k) (fT k)
theorem okN_iff {fB : Nat → Bool} {fS fT : Nat → ByteArray} {n : Nat} : okN fB fS fT n = true ↔ ∀ j, j < n → ofO (fB j) (fS j) (fT j) = true := by
  induction n with
  | zero => exact ⟨fun _ j h => absurd h (Nat.not_lt_zero _), fun _ => rfl⟩
  | succ n ih =>
    show (okN fB fS fT n && _) = true ↔ _
    rw [Bool.and_eq_true, ih]
    constructor
    · rintro ⟨h1, h2⟩ j hj
      rcases Nat.lt_or_ge j n with h | h
      · exact h1 j h
      · obtain rfl : j = n := by omega
        exact h2
    · intro h
      exact ⟨fun j hj => h j (by omega), h n (by omega)⟩
/-- Short numbers. -/
def Short (fS fT : Nat → ByteArray) (n : Nat) : Prop := ∀ j, j < n → (fS j).size ≤ 60 ∧ (fT j).size ≤ 60
/-- Cells that are an array, of characters or of numbers. -/
def AArr (w : World) (cs : Array Value) (S : Nat → Int) (r : Nat) (ch : Bool) (g : Nat → Int) (tn : Nat) (fP : Nat → Int) (fQ : Nat → Nat) (nn : Nat) : Prop :=
  ∃ na nc ta tc, cs = arrC ch ((r : Int) - 1) (dm S r) na nn nc ta tn tc ∧ RRow w na nn nc fP fQ ∧ KRow w .i32 ta tn tc g ∧ (ch = false → ta = none ∧ tc = 0) ∧ (ch = true → na = none ∧ nc = 0)
theorem AArr.below {w w' : World} {cs : Array Value} {S : Nat → Int} {r : Nat} {ch : Bool} {g : Nat → Int} {tn : Nat} {fP : Nat → Int} {fQ : Nat → Nat} {nn : Nat} (h : AArr w cs S r ch g tn fP fQ nn) (hb : Below w.heap.size w w') : AArr w' cs S r ch g tn fP fQ nn := by
  obtain ⟨na, nc, ta, tc, e, h1, h2, h3⟩ := h
  exact ⟨na, nc, ta, tc, e, h1.below hb, h2.below hb, h3⟩
theorem AArr.put {w : World} {cs : Array Value} {S : Nat → Int} {r : Nat} {ch : Bool} {g : Nat → Int} {tn : Nat} {fP : Nat → Int} {fQ : Nat → Nat} {nn : Nat} (h : AArr w cs S r ch g tn fP fQ nn) {k : Nat} {t : TypeId} {c1 : Bool} {more : Int} {d : Nat → Int} {na : Option Addr} {n1 nc : Nat} {ta : Option Addr} {t1 tc : Nat} (hr : Row w k t (arrC c1 more d na n1 nc ta t1 tc)) (cs' : Array Value) : AArr (w.setRow k cs') cs S r ch g tn fP fQ nn := by
  obtain ⟨na, nc, ta, tc, e, h1, h2, h3⟩ := h
  exact ⟨na, nc, ta, tc, e, h1.away (Row.noLimb hr) (RRow.ne h1 hr) (Far.setRow _ _ _), h2.away (KRow.ne h2 (by decide) hr) (Far.setRow _ _ _), h3⟩
/-- Is it an array? -/
def ofB (S : Nat → Int) (r : Nat) (ch : Bool) (tn : Nat) (fB : Nat → Bool) (fS fT : Nat → ByteArray) (nn : Nat) : Bool :=
  if ch then decide (nn = 0) && (shB S r && decide (itm S r = tn)) else decide (tn = 0) && (okN fB fS fT nn && (shB S r && decide (itm S r = nn)))
end Go.Proofs.YtifnamlgkooacaaGreatDoor

namespace Go.Proofs.YtifnamlgkooacaaGreatDoor
open Go.RowKit
set_option maxHeartbeats 1600000 in
set_option maxRecDepth 100000 in
theorem isChar_any (ch : Bool) (more : Int) (d : Nat → Int) (na : Option Addr) (nn nc : Nat) (ta : Option Addr) (tn tc : Nat) (w : World) :
    Calls Tryz.prog 51 #[.agg (arrC ch more d na nn nc ta tn tc)] w fun e w' => e = .returned (.bool ch) ∧ Below w.heap.size w w' := by
  have HB : Hid (Below w.heap.size w (w.alloc (.cells (arrC ch more d na nn nc ta tn tc) 32))) := (Below.refl _ _).alloc (Nat.le_refl _) _
  unfold arrC at HB
  unfold arrC
  go_enter Tryz.func51, Tryz.ntmps51
  go_wp2
  go_ret
  exact ⟨rfl, HB.out⟩
/-- The character at a place, or what fills. -/
def elC (n : Nat) (g : Nat → Int) (z i : Int) : Int := if 0 ≤ i ∧ i < n then g i.toNat else z
set_option maxHeartbeats 1600000 in
set_option maxRecDepth 100000 in
theorem aRats_any (ch : Bool) (more : Int) (d : Nat → Int) (na : Option Addr) (nn nc : Nat) (ta : Option Addr) (tn tc : Nat) (fP : Nat → Int) (fQ : Nat → Nat) (w : World) (h : RRow w na nn nc fP fQ) (hn : nn ≤ 1000000) :
    Calls Tryz.prog 61 #[.agg (arrC ch more d na nn nc ta tn tc)] w fun e w' => ∃ a c, e = .returned (.slice a nn c) ∧ RRow w' a nn c fP fQ ∧ Below w.heap.size w w' := by
  have CL := Lib.hid (fun wz h => cloneR_any na nn nc fP fQ wz h hn)
  have BB := Lib.hid (((Bag.start w).rrow h).newRow (arrC ch more d na nn nc ta tn tc) 32)
  clear h
  unfold arrC at BB
  unfold arrC
  go_enter Tryz.func61, Tryz.ntmps61
  go_wp2_with fail
  go_at_call 78
  (with_reducible refine (CL.out _ BB.out.now.2.1).mono ?_)
  rintro e w3 ⟨a3, c3, rfl, hk3, hb3⟩
  have HE : Hid (RRow w3 a3 nn c3 fP fQ ∧ Below w.heap.size w w3) := ⟨hk3, (BB.out.go hb3).below⟩
  clear hk3 hb3
  go_wp2
  go_ret
  exact ⟨a3, c3, rfl, HE.out⟩
/-- A row of n characters in the making: the first k are laid. -/
def CTo (w : World) (g n k : Nat) (f : Nat → Int) : Prop := g < w.heap.size ∧ Free w g ∧ ∀ j, j < n → ∃ z, w.cell? ⟨g, j, none⟩ = some (.int .i32 z) ∧ (j < k → z = f j)
theorem CTo.below {w w' : World} {g n k : Nat} {f : Nat → Int} (h : CTo w g n k f) (hb : Below w.heap.size w w') : CTo w' g n k f := by
  obtain ⟨h1, h2, h3⟩ := h
  refine ⟨Nat.lt_of_lt_of_le h1 hb.size, h2.below hb h1, fun j hj => ?_⟩
  obtain ⟨z, e1, e2⟩ := h3 j hj
  exact ⟨z, (hb.cell (p := ⟨g, _, none⟩) h1).trans e1, e2⟩
theorem CTo.over {w : World} {g n k : Nat} {f : Nat → Int} (h : CTo w g n k f) (x : Int) : CTo (w.setCell ⟨g, k, none⟩ (.int .i32 x)) g n k f := by
  obtain ⟨h1, h2, h3⟩ := h
  refine ⟨by simpa using h1, h2.set _ _, fun j hj => ?_⟩
  by_cases e : j = k
  · subst e
    obtain ⟨z, e1, _⟩ := h3 j hj
    exact ⟨x, World.cell?_setCell_same _ _ _ e1, fun h => absurd h (Nat.lt_irrefl _)⟩
  · obtain ⟨z, e1, e2⟩ := h3 j hj
    exact ⟨z, by rw [World.cell?_setCell_other _ _ _ _ (fun h => by injection h with _ h; omega)]; exact e1, e2⟩
theorem CTo.step {w : World} {g n k : Nat} {f : Nat → Int} (h : CTo w g n k f) (hk : k < n) {x : Int} (hx : x = f k) : CTo (w.setCell ⟨g, k, none⟩ (.int .i32 x)) g n (k + 1) f := by
  subst hx
  obtain ⟨h1, h2, h3⟩ := h
  refine ⟨by simpa using h1, h2.set _ _, fun j hj => ?_⟩
  by_cases e : j = k
  · subst e
    obtain ⟨z, e1, _⟩ := h3 j hj
    exact ⟨f j, World.cell?_setCell_same _ _ _ e1, fun _ => rfl⟩
  · obtain ⟨z, e1, e2⟩ := h3 j hj
    exact ⟨z, by rw [World.cell?_setCell_other _ _ _ _ (fun h => by injection h with _ h; omega)]; exact e1, fun h => e2 (by omega)⟩
theorem CTo.done {w : World} {g n : Nat} {f : Nat → Int} (h : CTo w g n n f) (hn : n ≤ maxLen) : KRow w .i32 (some ⟨g, 0, none⟩) n n f := by
  refine ⟨Nat.le_refl _, hn, .inr ⟨g, 0, rfl, h.1, fun j hj => ?_⟩⟩
  obtain ⟨z, e1, e2⟩ := h.2.2 j hj
  rw [Nat.zero_add, e1, e2 hj]
theorem CTo.made (w : World) (n : Nat) (t : TypeId) (f : Nat → Int) {mc : Array Value} (hmc : mc = madeCells (Value.cells (.int .i32 0)) n) : CTo (w.alloc (.cells mc t)) w.heap.size n 0 f := by
  subst hmc
  have hR := Row.new w t (madeCells (Value.cells (.int .i32 0)) n)
  refine ⟨hR.lt, fun o => hR.free o, fun j hj => ⟨0, ?_, fun h => absurd h (Nat.not_lt_zero _)⟩⟩
  rw [hR.cell]
  unfold madeCells
  rw [Array.getElem?_map, Array.getElem?_range, if_pos (by omega), Option.map_some]
  simp [Value.cells, Nat.mod_one]
theorem CTo.place {w : World} {g n k : Nat} {f : Nat → Int} (h : CTo w g n k f) {j : Nat} (hj : j < n) : (∃ z, w.cell? ⟨g, j, none⟩ = some (.int .i32 z)) ∧ w.frozen? ⟨g, j, none⟩ = false := by
  obtain ⟨z, e1, _⟩ := h.2.2 j hj
  exact ⟨⟨z, e1⟩, h.2.1 _⟩
set_option maxHeartbeats 3200000 in
set_option maxRecDepth 100000 in
theorem pickRunes_any (cs : Array Value) (f : Nat → Int) (r n : Nat) (T : Nat → Int) (sa : Option Addr) (sn sc : Nat) (g : Nat → Int) (w : World) (h : ChrArr w cs f r n T) (hs : KRow w .i64 sa sn sc g) (hg : In64 g sn) (hn : sn ≤ 1000000) :
    Calls Tryz.prog 89 #[.agg cs, .slice sa sn sc] w fun e w' => ∃ a c, e = .returned (.slice a sn c) ∧ KRow w' .i32 a sn c (fun j => elC n T 32 (g j)) ∧ Below w.heap.size w w' := by
  obtain ⟨i0, hi, hz0, hz1, hz2⟩ := info_parts infoC
  have hmk := fun wz => run_make (P := Tryz.prog) wz 23 21 i0 _ Tryz.underlying23 hi hz0 .i64 .i64 sn sn (by omega) (by omega) (by rw [hz2]; omega) (by omega)
  simp only [Int.toNat_natCast, hz1, Nat.mul_one] at hmk
  have HK := Lib.hid hs
  have HG := Lib.hid hg
  have hl := hs.len
  obtain ⟨ta, tc, rfl, ht⟩ := h
  have HT := Lib.hid ht
  have hlt0 := ht.len
  have hR0 : Row (w.alloc (.cells (arrC true ((r : Int) - 1) (dm f r) none 0 0 ta n tc) 32)) w.heap.size 32 _ := Row.new _ _ _
  have H0 : Hid (Below w.heap.size w ((w.alloc (.cells (arrC true ((r : Int) - 1) (dm f r) none 0 0 ta n tc) 32)).alloc (.cells (madeCells (Value.cells (.int .i32 0)) sn) 21)) ∧ Row ((w.alloc (.cells (arrC true ((r : Int) - 1) (dm f r) none 0 0 ta n tc) 32)).alloc (.cells (madeCells (Value.cells (.int .i32 0)) sn) 21)) w.heap.size 32 (arrC true ((r : Int) - 1) (dm f r) none 0 0 ta n tc) ∧ CTo ((w.alloc (.cells (arrC true ((r : Int) - 1) (dm f r) none 0 0 ta n tc) 32)).alloc (.cells (madeCells (Value.cells (.int .i32 0)) sn) 21)) (w.heap.size + 1) sn 0 (fun j => elC n T 32 (g j))) :=
    ⟨((Below.refl _ _).alloc (Nat.le_refl _) _).alloc (by simp) _, hR0.below ((Below.refl _ _).alloc (Nat.le_refl _) _), by have := CTo.made (w.alloc (.cells (arrC true ((r : Int) - 1) (dm f r) none 0 0 ta n tc) 32)) sn 21 (fun j => elC n T 32 (g j)) rfl; rwa [World.size_alloc] at this⟩
  generalize hsh : (r : Int) - 1 = more at *
  generalize dm f r = d at *
  unfold arrC at H0
  unfold arrC
  clear ht hs hg hi hz0 hz1 hz2 hR0 hsh
  go_enter Tryz.func89, Tryz.ntmps89
  go_wp2_with fail
  go_loopw [13] (fun i wr => ∃ k : Nat, k ≤ sn ∧ i = .int .i64 k ∧ Hid (Below w.heap.size w wr ∧ Row wr w.heap.size 32 (arrC true more d none 0 0 ta n tc) ∧ CTo wr (w.heap.size + 1) sn k (fun j => elC n T 32 (g j)))) (fun i _ => sn - (intOf i).toNat)
  case atStart => exact ⟨0, by omega, rfl, H0.out⟩
  case round =>
    obtain ⟨k, hk, rfl, hrel⟩ := hrel
    obtain ⟨hbl, hrow, hto⟩ := hrel.out
    have hwr := hbl.size
    by_cases hlt : k < sn
    · obtain ⟨b, off, rfl, hb, hc⟩ := (HK.out.below hbl).get hlt
      obtain ⟨⟨z0, x1⟩, y1⟩ := hto.place hlt
      have q11 : wr.cell? ⟨w.heap.size, 11, none⟩ = some (.slice ta n tc) := hrow.cell 11
      have ne0 : w.heap.size ≠ w.heap.size + 1 := by omega
      by_cases hin : 0 ≤ g k ∧ g k < n
      · obtain ⟨h0, h1⟩ := hin
        obtain ⟨q, hq⟩ : ∃ q : Nat, g k = q := ⟨(g k).toNat, by omega⟩
        have hqn : q < n := by omega
        have hv : elC n T 32 (g k) = T q := by unfold elC; rw [if_pos ⟨h0, h1⟩, hq]; rfl
        obtain ⟨b2, off2, rfl, hb2, hc2⟩ := (HT.out.below hbl).get hqn
        rw [hq] at hc h0 h1
        have nb : b2 ≠ w.heap.size + 1 := by
          have := HT.out.get hqn
          obtain ⟨b3, o3, e3, hb3, _⟩ := this
          injection e3 with e3; injection e3 with e3 _ _
          omega
        have HN : Hid (Below w.heap.size w ((wr.setCell ⟨w.heap.size + 1, k, none⟩ (.int .i32 32)).setCell ⟨w.heap.size + 1, k, none⟩ (.int .i32 (T q))) ∧
            Row ((wr.setCell ⟨w.heap.size + 1, k, none⟩ (.int .i32 32)).setCell ⟨w.heap.size + 1, k, none⟩ (.int .i32 (T q))) w.heap.size 32 (arrC true more d none 0 0 (some ⟨b2, off2, none⟩) n tc) ∧
            CTo ((wr.setCell ⟨w.heap.size + 1, k, none⟩ (.int .i32 32)).setCell ⟨w.heap.size + 1, k, none⟩ (.int .i32 (T q))) (w.heap.size + 1) sn (k + 1) (fun j => elC n T 32 (g j))) :=
          ⟨(hbl.setCell (p := ⟨w.heap.size + 1, _, none⟩) (Nat.le_succ _) _).setCell (p := ⟨w.heap.size + 1, _, none⟩) (Nat.le_succ _) _,
            (hrow.far (a := ⟨w.heap.size + 1, _, none⟩) ne0 _).far (a := ⟨w.heap.size + 1, _, none⟩) ne0 _, (hto.over 32).step hlt hv.symm⟩
        clear hbl hrow hto hq hv
        generalize T q = y at *
        go_wp2
        go_roundw
        case rel => exact ⟨k + 1, by omega, by go_num, HN.out⟩
        case measure => simp [intOf]; omega
      · have hv : elC n T 32 (g k) = 32 := by unfold elC; rw [if_neg hin]
        have HN : Hid (Below w.heap.size w (wr.setCell ⟨w.heap.size + 1, k, none⟩ (.int .i32 32)) ∧ Row (wr.setCell ⟨w.heap.size + 1, k, none⟩ (.int .i32 32)) w.heap.size 32 (arrC true more d none 0 0 ta n tc) ∧ CTo (wr.setCell ⟨w.heap.size + 1, k, none⟩ (.int .i32 32)) (w.heap.size + 1) sn (k + 1) (fun j => elC n T 32 (g j))) :=
          ⟨hbl.setCell (p := ⟨w.heap.size + 1, _, none⟩) (Nat.le_succ _) _, hrow.far (a := ⟨w.heap.size + 1, _, none⟩) ne0 _, hto.step hlt hv.symm⟩
        clear hbl hrow hto hv
        generalize g k = x at *
        by_cases h0 : 0 ≤ x
        · have h1 : ¬ x < (n : Int) := by omega
          clear hin
          go_wp2
          go_roundw
          case rel => exact ⟨k + 1, by omega, by go_num, HN.out⟩
          case measure => simp [intOf]; omega
        · clear hin
          go_wp2
          go_roundw
          case rel => exact ⟨k + 1, by omega, by go_num, HN.out⟩
          case measure => simp [intOf]; omega
    · obtain rfl : k = sn := by omega
      have HE : Hid (KRow wr .i32 (some ⟨w.heap.size + 1, 0, none⟩) k k (fun j => elC n T 32 (g j)) ∧ Below w.heap.size w wr) := ⟨hto.done (by unfold maxLen; omega), hbl⟩
      clear hbl hrow hto
      go_wp2
      go_ret
      exact ⟨_, _, rfl, HE.out⟩
set_option maxHeartbeats 1600000 in
set_option maxRecDepth 100000 in
theorem pickC_any (cs : Array Value) (f : Nat → Int) (r n : Nat) (T : Nat → Int) (sa : Option Addr) (sr sc : Nat) (S : Nat → Int) (ta : Option Addr) (tn tc : Nat) (g : Nat → Int) (w : World) (h : ChrArr w cs f r n T)
    (hs : KRow w .i64 sa sr sc S) (hS : In64 S sr) (ht : KRow w .i64 ta tn tc g) (hg : In64 g tn) (hn : tn ≤ 1000000) :
    Calls Tryz.prog 52 #[.agg cs, .slice sa sr sc, .slice ta tn tc] w fun e w' => CharsTold (shB S sr && decide (itm S sr = tn)) S sr tn (fun j => elC n T 32 (g j)) w w' e := by
  have HA := Lib.hid h
  obtain ⟨na, nc, rfl, hr⟩ := h
  have PR := Lib.hid (fun wz h h2 => pickRunes_any (arrC true ((r : Int) - 1) (dm f r) none 0 0 na n nc) f r n T ta tn tc g wz h h2 hg hn)
  have NU := Lib.hid (fun la lc wz (h : KRow wz .i64 sa sr sc S) h2 => chars_any sa sr sc S la tn lc (fun j => elC n T 32 (g j)) wz h hS h2 hn)
  unfold CharsTold at NU
  have HS := Lib.hid hs
  have HT := Lib.hid ht
  have BB := Lib.hid (((Bag.start w).newRow (arrC true ((r : Int) - 1) (dm f r) none 0 0 na n nc) 32).newRow zerC 32)
  simp only [World.size_alloc] at BB
  generalize hb : (shB S sr && decide (itm S sr = tn)) = b at *
  have HR1 := Lib.hid BB.out.now.2.1
  clear hr hs hS ht hg hb
  unfold arrC
  go_enter Tryz.func52, Tryz.ntmps52
  go_wp2_with (refine ld_arr rfl (.tmp 3) rfl w.heap.size rfl HR1.out ?_)
  go_at_call 89
  (with_reducible refine (PR.out _ ?_ ?_).mono ?_)
  · exact HA.out.below BB.out.below
  · exact HT.out.below BB.out.below
  rintro e w2 ⟨a2, c2, rfl, hr2, hb2⟩
  have BB := Lib.hid ((BB.out.go hb2).krow hr2)
  clear hr2 hb2
  go_wp2_with fail
  go_at_call 57
  (with_reducible refine (NU.out _ _ _ ?_ ?_).mono ?_)
  · exact HS.out.below BB.out.below
  · exact BB.out.now.1
  rintro e w3 ⟨cs3, rfl, hcs, hb3⟩
  have B3 := BB.out.go hb3
  have hr0 := B3.now.2.1
  have HR0 := Lib.hid hr0
  have HBL := Lib.hid B3.below
  have HE : Hid (∃ ch more d na nn nc ta tn' tc, cs3 = arrC ch more d na nn nc ta tn' tc ∧ CharsTold b S sr tn (fun j => elC n T 32 (g j)) w (w3.setRow (w.heap.size + 1) cs3) (.returned (.tuple #[.agg cs3, .bool b]))) := by
    cases b with
    | false =>
      rw [if_neg (by decide)] at hcs
      subst hcs
      exact ⟨false, 0, fun _ => 0, none, 0, 0, none, 0, 0, rfl, zerC, rfl, by rw [if_neg (by decide)], below_put HBL.out (Nat.le_succ _) _⟩
    | true =>
      rw [if_pos rfl] at hcs
      obtain ⟨na3, nc3, rfl, hr3⟩ := hcs
      exact ⟨_, _, _, _, _, _, _, _, _, rfl, _, rfl, by rw [if_pos rfl]; exact ⟨na3, nc3, rfl, hr3.away (KRow.ne hr3 (by decide) (zerC_row ▸ hr0)) (Far.setRow _ _ _)⟩, below_put HBL.out (Nat.le_succ _) _⟩
  clear hcs hb3 B3 hr0
  obtain ⟨ch, more, d, na3, nn3, nc3, ta3, tn3, tc3, rfl, HE⟩ := HE.out
  have HE := Lib.hid HE
  go_wp2_with (refine st_arr rfl (.tmp 6) (.tmp 15) rfl (w.heap.size + 1) rfl _ _ _ _ _ _ _ _ _ rfl HR0.out rfl ?_)
  exact bodyPost_ret (res_arr2 Tryz.results52 rfl rfl (HR0.out.put _) rfl) rfl HE.out
set_option maxHeartbeats 1600000 in
set_option maxRecDepth 100000 in
theorem wholeC_any (cs : Array Value) (f : Nat → Int) (r n : Nat) (T : Nat → Int) (w : World) (h : ChrArr w cs f r n T) (hn : n ≤ 1000000) :
    Calls Tryz.prog 22 #[.agg cs] w fun e w' => WhTold (decide (n = 0)) 0 (fun _ => 0) w w' e := by
  obtain ⟨i0, hi, hz0, hz1, hz2⟩ := info_parts infoI
  have hmk := fun wz => run_make (P := Tryz.prog) wz 22 3 i0 _ Tryz.underlying22 hi hz0 .i64 .i64 0 0 (by omega) (by omega) (by rw [hz2]; omega) (by omega)
  simp only [hz1, Nat.mul_one] at hmk
  obtain ⟨ta, tc, rfl, ht⟩ := h
  by_cases h0 : n = 0
  · subst h0
    rw [decide_eq_true rfl]
    have H0 : Hid (WhTold true 0 (fun _ => 0) w ((w.alloc (.cells (arrC true ((r : Int) - 1) (dm f r) none 0 0 ta 0 tc) 32)).alloc (.cells (madeCells (Value.cells (.int .i64 0)) 0) 3)) (.returned (.tuple #[.slice (some ⟨w.heap.size + 1, 0, none⟩) 0 0, .bool true]))) :=
      Lib.hid ⟨_, _, _, rfl, by rw [if_pos rfl]; exact ⟨rfl, KRow.nought _ _ _ _ (Nat.zero_le _) _⟩, ((Below.refl _ _).alloc (Nat.le_refl _) _).alloc (by simp) _⟩
    unfold arrC at H0
    unfold arrC
    clear ht hi hz0 hz1 hz2
    go_enter Tryz.func22, Tryz.ntmps22
    go_wp2_with fail
    go_loopw [20] (fun i wr => i = .int .i64 0 ∧ Hid (wr = (w.alloc (.cells #[.bool true, .int .i64 ((r : Int) - 1), .int .i64 (dm f r 0), .int .i64 (dm f r 1), .int .i64 (dm f r 2), .int .i64 (dm f r 3), .int .i64 (dm f r 4), .int .i64 (dm f r 5), .int .i64 (dm f r 6), .int .i64 (dm f r 7), .slice none 0 0, .slice ta 0 tc] 32)).alloc (.cells (madeCells (Value.cells (.int .i64 0)) 0) 3))) (fun _ _ => 0)
    case atStart => exact ⟨rfl, rfl⟩
    case round =>
      obtain ⟨rfl, hrel⟩ := hrel
      obtain rfl := hrel.out
      go_wp2
      go_ret2
      exact H0.out
  · rw [decide_eq_false h0]
    have d1 : (0 : Int) < n := by omega
    have H0 : Hid (WhTold false 0 (fun _ => 0) w (w.alloc (.cells (arrC true ((r : Int) - 1) (dm f r) none 0 0 ta n tc) 32)) (.returned (.tuple #[.slice none 0 0, .bool false]))) :=
      Lib.hid ⟨_, _, _, rfl, by rw [if_neg (by decide)]; exact ⟨rfl, rfl, rfl⟩, (Below.refl _ _).alloc (Nat.le_refl _) _⟩
    unfold arrC at H0
    unfold arrC
    clear ht hi hz0 hz1 hz2 h0 hmk
    go_enter Tryz.func22, Tryz.ntmps22
    go_wp2
    go_ret2
    exact H0.out
end Go.Proofs.YtifnamlgkooacaaGreatDoor

namespace Go.Proofs.YtifnamlgkooacaaGreatDoor
open Go.RowKit
set_option maxHeartbeats 1600000 in
set_option maxRecDepth 100000 in
theorem eqRunes_any (a : Option Addr) (n c : Nat) (f : Nat → Int) (a2 : Option Addr) (n2 c2 : Nat) (g : Nat → Int) (w : World) (h : KRow w .i32 a n c f) (h2 : KRow w .i32 a2 n2 c2 g) :
    Calls Tryz.prog 45 #[.slice a n c, .slice a2 n2 c2] w fun e w' => SameTold (decide (n = n2) && sameB f g n) w w' e := by
  have hl := h.len
  have hl2 := h2.len
  have H1 := Lib.hid h
  have H2 := Lib.hid h2
  clear h h2
  by_cases hn : n = n2
  · subst hn
    rw [decide_eq_true rfl, Bool.true_and]
    have dn : ((n : Int) != n) = false := bne_self_eq_false _
    go_enter Tryz.func45, Tryz.ntmps45
    go_wp2
    go_loopw [13] (fun i wr => ∃ k : Nat, k ≤ n ∧ i = .int .i64 k ∧ Hid (Below w.heap.size w wr ∧ sameB f g k = true)) (fun i _ => n - (intOf i).toNat)
    case atStart => exact ⟨0, by omega, rfl, Below.refl _ _, rfl⟩
    case round =>
      obtain ⟨k, hk, rfl, hrel⟩ := hrel
      obtain ⟨hbl, hsm⟩ := hrel.out
      by_cases hlt : k < n
      · obtain ⟨b, off, rfl, hb, hc⟩ := (H1.out.below hbl).get hlt
        obtain ⟨b2, off2, rfl, hb2, hc2⟩ := (H2.out.below hbl).get hlt
        have HBL := Lib.hid hbl
        have hk0 : (0 : Int) ≤ k := by omega
        have hk1 : (k : Int) < n := by omega
        have hk2 : (k : Int) ≤ n := by omega
        by_cases hq : f k = g k
        · have hsm2 : Hid (sameB f g (k + 1) = true) := by show (sameB f g k && _) = true; rw [hsm, decide_eq_true hq]; rfl
          clear hbl hsm
          rw [← hq] at hc2
          have hne : (f k != f k) = false := bne_self_eq_false _
          generalize f k = x at *
          clear hq
          go_wp2_with fail
          go_quiet (fail)
          have HBE : Hid (Below w.heap.size w (wr.drewN nq) ∧ sameB f g (k + 1) = true) := ⟨below_drewN HBL.out nq, hsm2.out⟩
          go_wp2
          go_roundw
          case rel => exact ⟨k + 1, by omega, by go_num, HBE.out⟩
          case measure => simp [intOf]; omega
        · have hno : sameB f g n = false := by
            cases hx : sameB f g n with
            | false => rfl
            | true => exact absurd ((sameB_iff.1 hx) k hlt) hq
          have HN := Lib.hid hno
          have hne : (f k != g k) = true := bne_iff_ne.2 hq
          clear hbl hsm hno
          generalize f k = x at *
          generalize g k = y at *
          clear hq
          go_wp2_with fail
          go_quiet (fail)
          have HBE : Hid (SameTold (sameB f g n) w (wr.drewN nq) (.returned (.bool false))) := ⟨by rw [HN.out], below_drewN HBL.out nq⟩
          go_wp2
          go_ret
          exact HBE.out
      · obtain rfl : k = n := by omega
        have HE : Hid (SameTold (sameB f g k) w wr (.returned (.bool true))) := ⟨by rw [hsm], hbl⟩
        clear hbl hsm
        go_wp2
        go_ret
        exact HE.out
  · rw [decide_eq_false hn, Bool.false_and]
    have dn : ((n : Int) != n2) = true := bne_iff_ne.2 (by omega)
    have HE : Hid (SameTold false w w (.returned (.bool false))) := ⟨rfl, Below.refl _ _⟩
    clear hn
    go_enter Tryz.func45, Tryz.ntmps45
    go_wp2
    go_ret
    exact HE.out
theorem cmp_eq0 (Z Y : Int) : (cmpZ Z Y == 0) = decide (Z = Y) := by
  unfold cmpZ
  by_cases h1 : Z < Y
  · rw [if_pos h1, decide_eq_false (by omega)]; rfl
  · rw [if_neg h1]
    by_cases h2 : Z = Y
    · rw [if_pos h2, decide_eq_true h2]; rfl
    · rw [if_neg h2, decide_eq_false h2]; rfl
set_option maxHeartbeats 1600000 in
set_option maxRecDepth 100000 in
theorem equal_any (a : Option Addr) (n c : Nat) (m : Bool) (a2 : Option Addr) (n2 c2 : Nat) (P : Int) (Q : Nat) (b : Option Addr) (k l : Nat) (v : Bool) (b2 : Option Addr) (k2 l2 : Nat) (P' : Int) (Q' : Nat) (w : World)
    (h : RatAt w a n c m a2 n2 c2 P Q) (g : RatAt w b k l v b2 k2 l2 P' Q') (hQ : 0 < Q) (hQ' : 0 < Q') (K : Nat) (hK : K ≤ 400000) (h1 : P.natAbs < 4294967296 ^ K) (h2 : Q < 4294967296 ^ K) (h3 : P'.natAbs < 4294967296 ^ K) (h4 : Q' < 4294967296 ^ K) :
    Calls Tryz.prog 47 #[.agg #[.slice a n c, .bool m, .slice a2 n2 c2], .agg #[.slice b k l, .bool v, .slice b2 k2 l2]] w fun e w' => e = .returned (.bool (decide (P * Q' = P' * Q))) ∧ Below w.heap.size w w' := by
  have BB := Lib.hid (((((Bag.start w).rat h).rat g).box3 (.slice a n c) (.bool m) (.slice a2 n2 c2) 77).box3 (.slice b k l) (.bool v) (.slice b2 k2 l2) 77)
  simp only [World.size_alloc] at BB
  have CM := Lib.hid (fun wz p q => ratCmp_any a n c m a2 n2 c2 P Q b k l v b2 k2 l2 P' Q' wz p q hQ hQ' K hK h1 h2 h3 h4)
  rw [← cmp_eq0]
  generalize cmpZ (P * Q') (P' * Q) = z at *
  clear h g hQ hQ' h1 h2 h3 h4
  go_enter Tryz.func47, Tryz.ntmps47
  go_wp2_with fail
  go_at_call 84
  (with_reducible refine (CM.out _ BB.out.now.2.2.2.1 BB.out.now.2.2.1).mono ?_)
  rintro e w2 ⟨rfl, hb2⟩
  have HE := Lib.hid (BB.out.go hb2).below
  clear hb2
  go_wp2
  go_ret
  exact ⟨rfl, HE.out⟩
/-- Are the first numbers the same? -/
def rsB (fP : Nat → Int) (fQ : Nat → Nat) (gP : Nat → Int) (gQ : Nat → Nat) : Nat → Bool
  | 0 => true
  | k + 1 => rsB fP fQ gP gQ k && decide (fP k * gQ k = gP k * fQ k)
theorem rsB_iff {fP : Nat → Int} {fQ : Nat → Nat} {gP : Nat → Int} {gQ : Nat → Nat} {n : Nat} : rsB fP fQ gP gQ n = true ↔ ∀ j, j < n → fP j * gQ j = gP j * fQ j := by
  induction n with
  | zero => exact ⟨fun _ j h => absurd h (Nat.not_lt_zero _), fun _ => rfl⟩
  | succ n ih =>
    show (rsB fP fQ gP gQ n && _) = true ↔ _
    rw [Bool.and_eq_true, ih, decide_eq_true_eq]
    constructor
    · rintro ⟨h1, h2⟩ j hj
      rcases Nat.lt_or_ge j n with h | h
      · exact h1 j h
      · obtain rfl : j = n := by omega
        exact h2
    · exact fun h => ⟨fun j hj => h j (by omega), h n (by omega)⟩
/-- Numbers that can be compared. -/
def CmpOk (K : Nat) (fP : Nat → Int) (fQ : Nat → Nat) (n : Nat) : Prop := ∀ j, j < n → 0 < fQ j ∧ (fP j).natAbs < 4294967296 ^ K ∧ fQ j < 4294967296 ^ K
set_option maxHeartbeats 1600000 in
set_option maxRecDepth 100000 in
theorem eqFunc_any (a : Option Addr) (n c : Nat) (fP : Nat → Int) (fQ : Nat → Nat) (a2 : Option Addr) (n2 c2 : Nat) (gP : Nat → Int) (gQ : Nat → Nat) (w : World) (h : RRow w a n c fP fQ) (h2 : RRow w a2 n2 c2 gP gQ) (K : Nat) (hK : K ≤ 400000) (q1 : CmpOk K fP fQ n) (q2 : CmpOk K gP gQ n2) :
    Calls Tryz.prog 46 #[.slice a n c, .slice a2 n2 c2, .func (.func 47) #[] #[]] w fun e w' => SameTold (decide (n = n2) && rsB fP fQ gP gQ n) w w' e := by
  have hl := h.len
  have hl2 := h2.len
  have H1 := Lib.hid h
  have H2 := Lib.hid h2
  clear h h2
  by_cases hn : n = n2
  · subst hn
    have EQ := Lib.hid (fun a n' c m a2 n2 c2 b k l v b2 k2 l2 j (hj : j < n) wz p q => equal_any a n' c m a2 n2 c2 (fP j) (fQ j) b k l v b2 k2 l2 (gP j) (gQ j) wz p q (q1 j hj).1 (q2 j hj).1 K hK (q1 j hj).2.1 (q1 j hj).2.2 (q2 j hj).2.1 (q2 j hj).2.2)
    rw [decide_eq_true rfl, Bool.true_and]
    have dn : ((n : Int) != n) = false := bne_self_eq_false _
    clear q1 q2
    go_enter Tryz.func46, Tryz.ntmps46
    go_wp2
    go_loopw [17] (fun i wr => ∃ k : Nat, k ≤ n ∧ i = .int .i64 k ∧ Hid (Below w.heap.size w wr ∧ rsB fP fQ gP gQ k = true)) (fun i _ => n - (intOf i).toNat)
    case atStart => exact ⟨0, by omega, rfl, Below.refl _ _, rfl⟩
    case round =>
      obtain ⟨k, hk, rfl, hrel⟩ := hrel
      obtain ⟨hbl, hsm⟩ := hrel.out
      by_cases hlt : k < n
      · obtain ⟨b, off, a', n', c', m', a2', n2', c2', rfl, hlb, e1, e2, e3, hi⟩ := (H1.out.below hbl).get hlt
        obtain ⟨b2, off2, x', k', l', v', x2', k2', l2', rfl, hlb2, d1, d2, d3, hj⟩ := (H2.out.below hbl).get hlt
        have HBL := Lib.hid hbl
        have BB := Lib.hid (((((Bag.start wr).rat hi).rat hj).box3 (.slice a' n' c') (.bool m') (.slice a2' n2' c2') 77).box3 (.slice x' k' l') (.bool v') (.slice x2' k2' l2') 77)
        simp only [World.size_alloc] at BB
        have EK := Lib.hid (EQ.out a' n' c' m' a2' n2' c2' x' k' l' v' x2' k2' l2' k hlt)
        have hwr := hbl.size
        by_cases hq : fP k * gQ k = gP k * fQ k
        · have hsm2 : Hid (rsB fP fQ gP gQ (k + 1) = true) := by show (rsB fP fQ gP gQ k && _) = true; rw [hsm, decide_eq_true hq]; rfl
          rw [decide_eq_true hq] at EK
          clear hbl hsm hq hi hj
          go_wp2_with fail
          go_at_call 47
          (with_reducible refine (EK.out _ BB.out.now.2.2.2.1 BB.out.now.2.2.1).mono ?_)
          rintro e w3 ⟨rfl, hb3⟩
          have HBE : Hid (Below w.heap.size w w3 ∧ rsB fP fQ gP gQ (k + 1) = true) := ⟨HBL.out.trans ((BB.out.go hb3).below.mono hwr), hsm2.out⟩
          clear hb3
          go_wp2
          go_roundw
          case rel => exact ⟨k + 1, by omega, by go_num, HBE.out⟩
          case measure => simp [intOf]; omega
        · have hno : rsB fP fQ gP gQ n = false := by
            cases hx : rsB fP fQ gP gQ n with
            | false => rfl
            | true => exact absurd ((rsB_iff.1 hx) k hlt) hq
          have HN := Lib.hid hno
          rw [decide_eq_false hq] at EK
          clear hbl hsm hno hq hi hj
          go_wp2_with fail
          go_at_call 47
          (with_reducible refine (EK.out _ BB.out.now.2.2.2.1 BB.out.now.2.2.1).mono ?_)
          rintro e w3 ⟨rfl, hb3⟩
          have HBE : Hid (SameTold (rsB fP fQ gP gQ n) w w3 (.returned (.bool false))) := ⟨by rw [HN.out], HBL.out.trans ((BB.out.go hb3).below.mono hwr)⟩
          clear hb3
          go_wp2
          go_ret
          exact HBE.out
      · obtain rfl : k = n := by omega
        have HE : Hid (SameTold (rsB fP fQ gP gQ k) w wr (.returned (.bool true))) := ⟨by rw [hsm], hbl⟩
        clear hbl hsm
        go_wp2
        go_ret
        exact HE.out
  · rw [decide_eq_false hn, Bool.false_and]
    have dn : ((n : Int) != n2) = true := bne_iff_ne.2 (by omega)
    have HE : Hid (SameTold false w w (.returned (.bool false))) := ⟨rfl, Below.refl _ _⟩
    clear hn q1 q2
    go_enter Tryz.func46, Tryz.ntmps46
    go_wp2
    go_ret
    exact HE.out
end Go.Proofs.YtifnamlgkooacaaGreatDoor

namespace Go.Proofs.YtifnamlgkooacaaGreatDoor
open Go.RowKit
end Go.Proofs.YtifnamlgkooacaaGreatDoor
namespace Go.Proofs.YtifnamlgkooacaaGreatDoor
open Go.RowKit
attribute [local go_sem ↓] Go.wp_at_zero Go.wp_at_succ
theorem dec1 : str (dec 1) = ⟨#[49]⟩ := by rw [dec_small (by omega)]; rfl
end Go.Proofs.YtifnamlgkooacaaGreatDoor
namespace Go.Proofs.YtifnamlgkooacaaGreatDoor
open Go.RowKit
attribute [local go_sem ↓] Go.wp_at_zero Go.wp_at_succ
end Go.Proofs.YtifnamlgkooacaaGreatDoor
namespace Go.Proofs.YtifnamlgkooacaaGreatDoor
open Go.RowKit
attribute [local go_sem ↓] Go.wp_at_zero Go.wp_at_succ
set_option maxHeartbeats 1600000 in
set_option maxRecDepth 100000 in
theorem r3From_any (X : Int) (w : World) (h : -9223372036854775808 ≤ X ∧ X ≤ 9223372036854775807) : Calls Tryz.prog 48 #[.int .i64 X] w fun e w' => NumTold w w' e X 1 := by
  have FR := Lib.hid (fun wz => rFrom_any X wz h)
  unfold RTold at FR
  have BB := Lib.hid ((Bag.start w).box3 (.bool false) (.string ⟨#[]⟩) (.string ⟨#[]⟩) 87)
  have HF := Lib.hid (fun w2 b x y (hb : Below w.heap.size w w2) (h1 : rB X = b) (h2 : rS X = x) (h3 : str (dec 1) = y) => NumTold.done (k := w.heap.size) X 1 hb (Nat.le_refl _) h1 h2 h3)
  obtain ⟨b, hb⟩ : ∃ b, rB X = b := ⟨_, rfl⟩
  obtain ⟨s, hs⟩ : ∃ s, rS X = s := ⟨_, rfl⟩
  have HB := Lib.hid hb
  have HS2 := Lib.hid hs
  rw [hb, hs] at FR
  clear hb hs h
  go_enter Tryz.func48, Tryz.ntmps48
  go_wp2_with fail
  go_at_call 85
  (with_reducible refine (FR.out _).mono ?_)
  rintro e w2 ⟨rfl, hb2⟩
  have BB := Lib.hid ((BB.out.go hb2).box2 (.bool b) (.string s) 122)
  have q0 := BB.out.now.1.cell
  have q1 := BB.out.now.1.cell1
  have hs := BB.out.now.2.1
  have u0 := hs.cell
  have u1 := hs.cell1
  have u2 := hs.cell2
  have g0 := hs.free
  have g1 := hs.free1
  have g2 := hs.free2
  have HS := hs.set (.bool b) (.string s) (.string ⟨#[49]⟩)
  have HE := Lib.hid (HF.out _ b s ⟨#[49]⟩ BB.out.below HB.out HS2.out dec1)
  clear hs hb2
  go_wp2
  exact bodyPost_ret (v := .agg #[.bool b, .string s, .string ⟨#[49]⟩]) (by simp [results, Tryz.results48, go_sem, HS]) rfl HE.out
end Go.Proofs.YtifnamlgkooacaaGreatDoor
namespace Go.Proofs.YtifnamlgkooacaaGreatDoor
open Go.RowKit
attribute [local go_sem ↓] Go.wp_at_zero Go.wp_at_succ
end Go.Proofs.YtifnamlgkooacaaGreatDoor

namespace Go.Proofs.YtifnamlgkooacaaGreatDoor
open Go.RowKit
/-- What answers a plain array. -/
def PlnTold (S : Nat → Int) (r : Nat) (ch : Bool) (g : Nat → Int) (tn : Nat) (fB : Nat → Bool) (fS fT : Nat → ByteArray) (nn : Nat) (w w' : World) (e : Ending) : Prop := ∃ cs, e = .returned (.agg cs) ∧ PlnAt w' cs S r ch g tn fB fS fT nn ∧ Below w.heap.size w w'
theorem res_pln {fn : Func} {p : Tmp} {tmps : Array Value} {w : World} {g : Nat} {cs : Array Value} (h : fn.results = #[.cell p 26]) (hp : tmps.getD p undef = .pointer (some ⟨g, 0, none⟩)) (hg : Row w g 26 cs) (hs : cs.size = 4) :
    (results fn tmps).run Tryz.prog w = .ok (.agg cs) w :=
  results_cell_row h tmps w g _ cs (0, 0) _ hp hg Tryz.underlying26 rfl (by rw [show (Tryz.prog.info? 26).map (·.size) = some 4 by kernel_rfl, hs])
theorem QRow.one (w : World) (b : Bool) (s t : ByteArray) (T : TypeId) : QRow (w.alloc (.cells #[.bool b, .string s, .string t] T)) (some ⟨w.heap.size, 0, none⟩) 1 1 (fun _ => b) (fun _ => s) (fun _ => t) := by
  have hR := Row.new w T #[.bool b, .string s, .string t]
  refine ⟨Nat.le_refl _, by unfold maxLen; omega, .inr ⟨_, 0, rfl, by simp, fun j hj => ?_⟩⟩
  obtain rfl : j = 0 := by omega
  exact ⟨hR.cell 0, hR.cell 1, hR.cell 2⟩
theorem pln4 : (Tryz.prog.info? 26).map (·.size) = some 4 := by kernel_rfl
/-- A plain array loaded, stored, as a whole. -/
theorem ld_pln {ops : Array Oper} {rest : List Oper} {o : Oper} {a : Act} {w : World} {Q : Exit → Act → World → Prop} (hgd : o.guard = none) (x : Operand) (ho : o.op = .load 26 x) (g : Nat) (hx : a.eval x = .pointer (some ⟨g, 0, none⟩))
    {sa : Option Addr} {sn sc : Nat} {ch : Bool} {ta : Option Addr} {tn tc : Nat} {na : Option Addr} {nn nc : Nat} (hg : Row w g 26 (plC sa sn sc ch ta tn tc na nn nc))
    (h : wpList Tryz.prog ops Q rest (a.put o.dst (.agg (plC sa sn sc ch ta tn tc na nn nc))) w) : wpList Tryz.prog ops Q (o :: rest) a w :=
  wpList_load_row hgd _ x ho g hx _ _ (0, 0) _ hg Tryz.underlying26 rfl pln4 h
theorem plC_one (sa : Option Addr) (sn sc : Nat) (ch : Bool) (ta : Option Addr) (tn tc : Nat) (na : Option Addr) (nn nc : Nat) : (plC sa sn sc ch ta tn tc na nn nc).all (·.oneCell') = true := by simp [plC, Value.oneCell']
theorem st_pln {ops : Array Oper} {rest : List Oper} {o : Oper} {a : Act} {w : World} {Q : Exit → Act → World → Prop} (hgd : o.guard = none) (x y : Operand) (ho : o.op = .store 26 x y) (g : Nat) (hx : a.eval x = .pointer (some ⟨g, 0, none⟩))
    (sa : Option Addr) (sn sc : Nat) (ch : Bool) (ta : Option Addr) (tn tc : Nat) (na : Option Addr) (nn nc : Nat) (hy : a.eval y = .agg (plC sa sn sc ch ta tn tc na nn nc)) {old : Array Value} (hg : Row w g 26 old) (ho2 : old.size = 4)
    (h : wpList Tryz.prog ops Q rest (a.put o.dst undef) (w.setRow g (plC sa sn sc ch ta tn tc na nn nc))) : wpList Tryz.prog ops Q (o :: rest) a w :=
  wpList_store_row hgd _ x y ho g _ hx hy _ old hg pln4 ho2 (plC_one _ _ _ _ _ _ _ _ _ _) h
/-- No text lies among the cells. -/
def NoStr (cs : Array Value) : Prop := ∀ (o : Nat) (z : ByteArray), cs[o]? ≠ some (.string z)
theorem noStr_pl (sa : Option Addr) (sn sc : Nat) (ch : Bool) (ta : Option Addr) (tn tc : Nat) (na : Option Addr) (nn nc : Nat) : NoStr (plC sa sn sc ch ta tn tc na nn nc) := by
  intro o z h
  unfold plC at h
  rcases o with _ | _ | _ | _ | o
  all_goals first | (simp at h; done) | (cases h)
theorem QRow.apart {w : World} {a : Option Addr} {n c : Nat} {fB : Nat → Bool} {fS fT : Nat → ByteArray} {g : Nat} {t : TypeId} {cs : Array Value} (h : QRow w a n c fB fS fT) (hr : Row w g t cs) (hn : NoStr cs) : n = 0 ∨ ∀ x, a = some x → x.block ≠ g := by
  rcases Nat.eq_zero_or_pos n with h0 | h0
  · exact .inl h0
  · obtain ⟨b, off, rfl, _, hc⟩ := h.2.2.resolve_left (by omega)
    refine .inr fun x hx e => ?_
    obtain rfl := Option.some.inj hx
    have e : b = g := e
    subst e
    have := (hc 0 h0).2.1
    rw [hr.cell] at this
    exact hn _ _ this
/-- A plain array stays when a block turns that holds neither a number nor a text. -/
theorem PlnAt.away {w w' : World} {cs : Array Value} {S : Nat → Int} {r : Nat} {ch : Bool} {g : Nat → Int} {tn : Nat} {fB : Nat → Bool} {fS fT : Nat → ByteArray} {nn : Nat} (h : PlnAt w cs S r ch g tn fB fS fT nn) {k : Nat} {t : TypeId} {cs0 : Array Value} (hr : Row w k t cs0) (h1 : NoInt cs0) (h2 : NoStr cs0) (hf : Far k w w') : PlnAt w' cs S r ch g tn fB fS fT nn := by
  obtain ⟨sa, sc, ta, tc, na, nc, e, a1, a2, a3⟩ := h
  exact ⟨sa, sc, ta, tc, na, nc, e, a1.away (a1.apart hr h1) hf, a2.away (a2.apart hr h1) hf, a3.away (a3.apart hr h2) hf⟩
def plZer : Array Value := plC none 0 0 false none 0 0 none 0 0
theorem ans_pln {w w3 : World} {cs : Array Value} {S : Nat → Int} {r : Nat} {ch : Bool} {g : Nat → Int} {tn : Nat} {fB : Nat → Bool} {fS fT : Nat → ByteArray} {nn : Nat} (h : PlnAt w3 cs S r ch g tn fB fS fT nn) (hb : Below w.heap.size w w3) {k : Nat} {t : TypeId} (hr0 : Row w3 k t plZer) (hk : w.heap.size ≤ k) :
    PlnTold S r ch g tn fB fS fT nn w (w3.setRow k cs) (.returned (.agg cs)) :=
  ⟨cs, rfl, h.away hr0 (noInt_pl _ _ _ _ _ _ _ _ _ _) (noStr_pl _ _ _ _ _ _ _ _ _ _) (Far.setRow _ _ _), below_put hb hk _⟩
set_option linter.unusedSimpArgs false in
set_option maxHeartbeats 6400000 in
set_option maxRecDepth 100000 in
theorem r6Ints_any (a : Option Addr) (n c : Nat) (g : Nat → Int) (w : World) (h : KRow w .i64 a n c g) (hg : In64 g n) (hn : n ≤ 1000000) :
    Calls Tryz.prog 20 #[.slice a n c] w fun e w' => ∀ T, PlnTold (fun _ => (n : Int)) 1 false T 0 (fun j => rB (g j)) (fun j => rS (g j)) (fun _ => str (dec 1)) n w w' e := by
  have hl := h.len
  obtain ⟨i0, hi, hz0, hz1, hz2⟩ := info_parts infoN
  have FR := Lib.hid (fun X wz hx => r3From_any X wz hx)
  unfold NumTold at FR
  have HG := Lib.hid hg
  have KR := KRow.one (w.alloc (.cells plZer 26)) n 3
  have BB := Lib.hid ((((((Bag.start w).krow h).newRow plZer 26).alloc (.cells #[.int .i64 n] 3)).krow KR).newRow (plC (some ⟨w.heap.size + 1, 0, none⟩) 1 1 false none 0 0 none 0 0) 26)
  simp only [World.size_alloc] at BB
  clear h hg KR
  unfold plZer plC at BB
  go_enter Tryz.func20, Tryz.ntmps20
  go_wp2_with fail
  generalize ((w.alloc (.cells #[.slice none 0 0, .bool false, .slice none 0 0, .slice none 0 0] 26)).alloc (.cells #[.int .i64 n] 3)).alloc (.cells #[.slice (some ⟨w.heap.size + 1, 0, none⟩) 1 1, .bool false, .slice none 0 0, .slice none 0 0] 26) = y0 at *
  go_loopw [4] (fun i wr => ∃ (k : Nat) (a1 : Option Addr) (c1 : Nat), k ≤ n ∧ i = .int .i64 k ∧ Hid (Below w.heap.size w wr ∧ Far (w.heap.size + 1 + 1) y0 wr ∧ Row wr (w.heap.size + 1 + 1) 26 (plC (some ⟨w.heap.size + 1, 0, none⟩) 1 1 false none 0 0 a1 k c1) ∧ wr.ownsRow y0.heap.size 87 3 (.slice a1 k c1) k (qcs (fun j => rB (g j)) (fun j => rS (g j)) (fun _ => str (dec 1)) k))) (fun i _ => n - (intOf i).toNat)
  case atStart => exact ⟨0, none, 0, by omega, rfl, BB.out.below, Far.refl _ _, BB.out.now.1, World.ownsRow_nil _ _ _ _⟩
  case round =>
    obtain ⟨k, a1, c1, hk, rfl, hrel⟩ := hrel
    obtain ⟨hbl, hfar, hrp, hown⟩ := hrel.out
    have hni := noInt_pl (some ⟨w.heap.size + 1, 0, none⟩) 1 1 false none 0 0 none 0 0
    have hsz := BB.out.now.1.lt
    by_cases hlt : k < n
    · have hkr := BB.out.now.2.2.2.1.away (BB.out.now.2.2.2.1.apart BB.out.now.1 hni) hfar
      obtain ⟨b, off, rfl, hb, hc⟩ := hkr.get hlt
      have HX := Lib.hid (HG.out k hlt)
      have B1 := Lib.hid (((Bag.start wr).own hown).row hrp)
      have HBL := Lib.hid hbl
      have HF := Lib.hid hfar
      have qp : wr.cell? ⟨w.heap.size + 1 + 1, 3, none⟩ = some (.slice a1 k c1) := hrp.cell 3
      have HMX := Lib.hid (show k + 1 ≤ maxLen by unfold maxLen; omega)
      have HMY := Lib.hid (show (k + 1) * 40 ≤ 140737488355328 by omega)
      have HONE := Lib.hid (show ∀ u ∈ ([.bool (rB (g k)), .string (rS (g k)), .string (str (dec 1))] : List Value), u.oneCell' = true by intro u hu; simp at hu; rcases hu with rfl | rfl | rfl <;> rfl)
      have hk0 : (0 : Int) ≤ k := by omega
      have hk1 : (k : Int) < n := by omega
      have hk2 : (k : Int) ≤ n := by omega
      clear hbl hfar hrp hown hkr hni
      go_wp2_with fail
      go_region_law (first
        | (go_simp; go_at_call 48; (with_reducible refine (FR.out _ _ HX.out).mono ?_); rintro e w2 ⟨rfl, hb2⟩;
            have B2 := Lib.hid ((B1.out.drew.go hb2).newRow #[.bool (rB (g k)), .string (rS (g k)), .string (str (dec 1))] 87);
            have qp2 : w2.cell? ⟨w.heap.size + 1 + 1, 3, none⟩ = some (.slice a1 k c1) := (B1.out.drew.go hb2).now.1.cell 3;
            have qp3 : (w2.alloc (.cells #[.bool (rB (g k)), .string (rS (g k)), .string (str (dec 1))] 87)).cell? ⟨w.heap.size + 1 + 1, 3, none⟩ = some (.slice a1 k c1) := B2.out.now.2.1.cell 3;
            have HROW := Lib.hid B2.out.now.2.1;
            have HOWN := Lib.hid B2.out.now.2.2.1;
            have HNEW := Lib.hid (World.news_of_block B2.out.now.1);
            have HBA := Lib.hid (Nat.le_trans HF.out.size B2.out.below.size);
            have HNX := Lib.hid (pl_step HBL.out HF.out B2.out.below HROW.out HOWN.out (by decide) (by omega) BB.out.below.size);
            clear hb2)
        | (refine step_append_lies _ rfl (.tmp 16) (.tmp 22) 24 rfl y0.heap.size 87 i0 _ 3 40 Tryz.underlying24 hi hz0 hz1 hz2 rfl (by omega) (.slice a1 k c1) k _ rfl HOWN.out ⟨w2.heap.size, 0, none⟩ 1 1 [.bool (rB (g k)), .string (rS (g k)), .string (str (dec 1))] rfl rfl HNEW.out HONE.out (by omega) HMX.out HMY.out HBA.out _ rfl ?_; intro g9 cap9 w3 hown3 hgrow hor hlt3;
            have hr3 := HROW.out.grown hgrow (HROW.out.apart HOWN.out (by decide)); have qp : w3.cell? ⟨w.heap.size + 1 + 1, 3, none⟩ = some (.slice a1 k c1) := hr3.cell 3; have fp := hr3.free 3; have HN := Lib.hid (HNX.out g9 cap9 w3 hown3 hgrow); clear hown3 hgrow hor hlt3 hr3))
      all_goals
        go_wp2
        go_roundw
        case rel => exact ⟨k + 1, _, cap9, by omega, by go_num, HN.out⟩
        case measure => simp [intOf]; omega
    · obtain rfl : k = n := by omega
      have hr0 : Row wr w.heap.size 26 plZer := (hfar.block _ (by omega) BB.out.now.2.2.1.lt).trans BB.out.now.2.2.1
      have hks := BB.out.now.2.1.away (BB.out.now.2.1.apart BB.out.now.1 hni) hfar
      obtain ⟨a9, c9, he, hq⟩ := QRow.of_own hown
      injection he with he1 _ he2
      subst he1 he2
      have HE : Hid (∀ T, PlnTold (fun _ => (k : Int)) 1 false T 0 (fun j => rB (g j)) (fun j => rS (g j)) (fun _ => str (dec 1)) k w (wr.setRow w.heap.size (plC (some ⟨w.heap.size + 1, 0, none⟩) 1 1 false none 0 0 a1 k c1)) (.returned (.agg (plC (some ⟨w.heap.size + 1, 0, none⟩) 1 1 false none 0 0 a1 k c1)))) :=
        Lib.hid fun T => ans_pln ⟨_, _, _, _, _, _, rfl, hks, KRow.nought _ _ _ _ (Nat.zero_le _) _, hq⟩ hbl hr0 (Nat.le_refl _)
      have HR0 := Lib.hid hr0
      have HRP := Lib.hid hrp
      clear hbl hfar hrp hown hks hq hr0 hni
      go_wp2_with (first
        | (refine ld_pln rfl (.tmp 3) rfl (w.heap.size + 1 + 1) rfl HRP.out ?_)
        | (refine st_pln rfl (.tmp 2) (.tmp 25) rfl w.heap.size rfl _ _ _ _ _ _ _ _ _ _ rfl HR0.out rfl ?_))
      exact bodyPost_ret (res_pln Tryz.results20 rfl (HR0.out.put _) rfl) rfl HE.out
end Go.Proofs.YtifnamlgkooacaaGreatDoor

namespace Go.Proofs.YtifnamlgkooacaaGreatDoor
open Go.RowKit
theorem eqItems_int {P : Program} (d : Nat) (e : TypeId) (he : P.underlying e = some (.int .i64)) (xs ys : Array Value) (f g : Nat → Int) (w : World) : ∀ is : List Nat, (∀ i ∈ is, (part e xs (i * 1)).run P w = .ok (.int .i64 (f i)) w ∧ (part e ys (i * 1)).run P w = .ok (.int .i64 (g i)) w) →
    (Op.eqItems (d + 1) e 1 xs ys is).run P w = .ok (is.all fun i => f i == g i) w := by
  intro is
  induction is with
  | nil => intro _; simp [Op.eqItems]
  | cons i is ih =>
    intro h
    obtain ⟨h1, h2⟩ := h i (by simp)
    have ih := ih (fun j hj => h j (by simp [hj]))
    simp only [Op.eqItems, Sem.run_bind, h1, h2, Result.andThen_ok, run_equalIn_int w d e .i64 .i64 _ _ he, List.all_cons]
    cases hb : (f i == g i)
    · simp
    · simp only [Bool.not_true, Bool.false_eq_true, if_false, Bool.true_and]
      exact ih
set_option maxRecDepth 100000 in
theorem eq_dims (d d' : Nat → Int) (w : World) : (Op.equalIn 10000 29 (.agg #[.int .i64 (d 0), .int .i64 (d 1), .int .i64 (d 2), .int .i64 (d 3), .int .i64 (d 4), .int .i64 (d 5), .int .i64 (d 6), .int .i64 (d 7)]) (.agg #[.int .i64 (d' 0), .int .i64 (d' 1), .int .i64 (d' 2), .int .i64 (d' 3), .int .i64 (d' 4), .int .i64 (d' 5), .int .i64 (d' 6), .int .i64 (d' 7)])).run Tryz.prog w = .ok (sameB d d' 8) w := by
  obtain ⟨i0, hi, _⟩ := info_parts infoI
  have hu : Tryz.prog.underlying 29 = some (.array 8 3) := by kernel_rfl
  have he : Tryz.prog.underlying 3 = some (.int .i64) := by kernel_rfl
  have hc : Tryz.prog.cellsOf 3 = 1 := by kernel_rfl
  have e := run_equalIn_array (P := Tryz.prog) w 9999 #[.int .i64 (d 0), .int .i64 (d 1), .int .i64 (d 2), .int .i64 (d 3), .int .i64 (d 4), .int .i64 (d 5), .int .i64 (d 6), .int .i64 (d 7)] #[.int .i64 (d' 0), .int .i64 (d' 1), .int .i64 (d' 2), .int .i64 (d' 3), .int .i64 (d' 4), .int .i64 (d' 5), .int .i64 (d' 6), .int .i64 (d' 7)] hu hi
  refine e.trans ?_
  rw [hc]
  rw [eqItems_int 9998 3 he _ _ d d' w]
  · congr 1
    rw [Bool.eq_iff_iff, List.all_eq_true, sameB_iff]
    constructor
    · intro h j hj
      exact beq_iff_eq.1 (h j (List.mem_range.2 hj))
    · intro h j hj
      exact beq_iff_eq.2 (h j (List.mem_range.1 hj))
  · intro i hi
    have hi := List.mem_range.1 hi
    have key : ∀ (q : Nat → Int), (part 3 #[.int .i64 (q 0), .int .i64 (q 1), .int .i64 (q 2), .int .i64 (q 3), .int .i64 (q 4), .int .i64 (q 5), .int .i64 (q 6), .int .i64 (q 7)] (i * 1)).run Tryz.prog w = .ok (.int .i64 (q i)) w := by
      intro q
      match i, hi with
      | 0, _ => simp [part, isAgg, run_underlying he]
      | 1, _ => simp [part, isAgg, run_underlying he]
      | 2, _ => simp [part, isAgg, run_underlying he]
      | 3, _ => simp [part, isAgg, run_underlying he]
      | 4, _ => simp [part, isAgg, run_underlying he]
      | 5, _ => simp [part, isAgg, run_underlying he]
      | 6, _ => simp [part, isAgg, run_underlying he]
      | 7, _ => simp [part, isAgg, run_underlying he]
    exact ⟨key d, key d'⟩
/-- Are two arrays the same? -/
def asB (ch ch' : Bool) (more more' : Int) (d d' : Nat → Int) (tn tn' : Nat) (g g' : Nat → Int) (nn nn' : Nat) (fP : Nat → Int) (fQ : Nat → Nat) (gP : Nat → Int) (gQ : Nat → Nat) : Bool :=
  decide (ch = ch') && (decide (more = more') && (sameB d d' 8 && ((decide (tn = tn') && sameB g g' tn) && (decide (nn = nn') && rsB fP fQ gP gQ nn))))
set_option maxHeartbeats 6400000 in
set_option maxRecDepth 100000 in
theorem aSame_any (ch : Bool) (more : Int) (d : Nat → Int) (na : Option Addr) (nn nc : Nat) (ta : Option Addr) (tn tc : Nat) (fP : Nat → Int) (fQ : Nat → Nat) (g : Nat → Int) (ch' : Bool) (more' : Int) (d' : Nat → Int) (na' : Option Addr) (nn' nc' : Nat) (ta' : Option Addr) (tn' tc' : Nat) (gP : Nat → Int) (gQ : Nat → Nat) (g' : Nat → Int)
    (w : World) (h1 : RRow w na nn nc fP fQ) (h2 : KRow w .i32 ta tn tc g) (h1' : RRow w na' nn' nc' gP gQ) (h2' : KRow w .i32 ta' tn' tc' g') (K : Nat) (hK : K ≤ 400000) (q1 : CmpOk K fP fQ nn) (q2 : CmpOk K gP gQ nn') :
    Calls Tryz.prog 18 #[.agg (arrC ch more d na nn nc ta tn tc), .agg (arrC ch' more' d' na' nn' nc' ta' tn' tc')] w fun e w' => SameTold (asB ch ch' more more' d d' tn tn' g g' nn nn' fP fQ gP gQ) w w' e := by
  have ER := Lib.hid (fun wz p q => eqRunes_any ta tn tc g ta' tn' tc' g' wz p q)
  have EF := Lib.hid (fun wz p q => eqFunc_any na nn nc fP fQ na' nn' nc' gP gQ wz p q K hK q1 q2)
  have DM := Lib.hid (fun wz => eq_dims d d' wz)
  have BB := Lib.hid ((((((Bag.start w).rrow h1).krow h2).rrow h1').krow h2').newRow (arrC ch more d na nn nc ta tn tc) 32 |>.newRow (arrC ch' more' d' na' nn' nc' ta' tn' tc') 32)
  simp only [World.size_alloc] at BB
  unfold SameTold at ER EF
  unfold asB
  unfold arrC at BB
  unfold arrC
  generalize sameB d d' 8 = xd at *
  generalize (decide (tn = tn') && sameB g g' tn) = xt at *
  generalize (decide (nn = nn') && rsB fP fQ gP gQ nn) = xn at *
  clear h1 h2 h1' h2' q1 q2
  have H0 := Lib.hid BB.out.below
  by_cases hc : ch = ch'
  · subst hc
    rw [decide_eq_true rfl, Bool.true_and]
    have ec : (ch == ch) = true := beq_self_eq_true ch
    by_cases hm : more = more'
    · subst hm
      rw [decide_eq_true rfl, Bool.true_and]
      have em : (more == more) = true := beq_self_eq_true more
      cases xd with
      | false =>
        have edm := DM.out
        rw [Bool.false_and]
        go_enter Tryz.func18, Tryz.ntmps18
        go_wp2
        go_ret
        exact ⟨rfl, H0.out⟩
      | true =>
        have edm := DM.out
        rw [Bool.true_and]
        cases xt with
        | false =>
          rw [Bool.false_and]
          go_enter Tryz.func18, Tryz.ntmps18
          go_wp2_with fail
          go_at_call 45
          (with_reducible refine (ER.out _ BB.out.now.2.2.2.2.1 BB.out.now.2.2.1).mono ?_)
          rintro e w2 ⟨rfl, hb2⟩
          have HE := Lib.hid (BB.out.go hb2).below
          clear hb2
          go_wp2
          go_ret
          exact ⟨rfl, HE.out⟩
        | true =>
          rw [Bool.true_and]
          go_enter Tryz.func18, Tryz.ntmps18
          go_wp2_with fail
          go_at_call 45
          (with_reducible refine (ER.out _ BB.out.now.2.2.2.2.1 BB.out.now.2.2.1).mono ?_)
          rintro e w2 ⟨rfl, hb2⟩
          have BB := Lib.hid (BB.out.go hb2)
          clear hb2
          have x10 := BB.out.now.2.1.cell 10
          have y10 := BB.out.now.1.cell 10
          go_wp2_with fail
          go_at_call 46
          (with_reducible refine (EF.out _ BB.out.now.2.2.2.2.2.1 BB.out.now.2.2.2.1).mono ?_)
          rintro e w3 ⟨rfl, hb3⟩
          have HE := Lib.hid (BB.out.go hb3).below
          clear hb3 x10 y10
          go_wp2
          go_ret
          exact ⟨rfl, HE.out⟩
    · rw [decide_eq_false hm, Bool.false_and]
      have em : (more == more') = false := beq_eq_false_iff_ne.2 hm
      clear hm
      go_enter Tryz.func18, Tryz.ntmps18
      go_wp2
      go_ret
      exact ⟨rfl, H0.out⟩
  · rw [decide_eq_false hc, Bool.false_and]
    cases ch <;> cases ch'
    · exact absurd rfl hc
    · clear hc
      go_enter Tryz.func18, Tryz.ntmps18
      go_wp2
      go_ret
      exact ⟨rfl, H0.out⟩
    · clear hc
      go_enter Tryz.func18, Tryz.ntmps18
      go_wp2
      go_ret
      exact ⟨rfl, H0.out⟩
    · exact absurd rfl hc
/-- The numbers of an array that the page speaks of: what they are, and that they can be compared. -/
theorem ofO_facts {b : Bool} {s t : ByteArray} (h : ofO b s t = true) : rB (ofP b s t) = b ∧ rS (ofP b s t) = s ∧ str (dec (ofQ b s t)) = t ∧ 0 < ofQ b s t ∧ Nat.gcd (ofP b s t).natAbs (ofQ b s t) = 1 := by
  unfold ofO ofK at h
  simp only [Bool.and_eq_true, decide_eq_true_eq, Bool.not_eq_true', decide_eq_false_iff_not] at h
  obtain ⟨⟨_, h0⟩, h1, h2, h3⟩ := h
  exact ⟨h1, h2, h3, loQ_pos _ (by omega), lo_cop _ (by omega)⟩
theorem ofB_true {S : Nat → Int} {r : Nat} {ch : Bool} {tn : Nat} {fB : Nat → Bool} {fS fT : Nat → ByteArray} {nn : Nat} (h : ofB S r ch tn fB fS fT nn = true) :
    shB S r = true ∧ itm S r = (if ch then tn else nn : Nat) ∧ (ch = true → nn = 0) ∧ (ch = false → tn = 0) ∧ ∀ j, j < nn → ofO (fB j) (fS j) (fT j) = true := by
  unfold ofB at h
  cases ch with
  | true =>
    rw [if_pos rfl] at h
    simp only [Bool.and_eq_true, decide_eq_true_eq] at h
    exact ⟨h.2.1, h.2.2, fun _ => h.1, fun h => (by cases h), fun j hj => absurd hj (by omega)⟩
  | false =>
    rw [if_neg (by decide)] at h
    simp only [Bool.and_eq_true, decide_eq_true_eq] at h
    exact ⟨h.2.2.1, h.2.2.2, fun h => (by cases h), fun _ => h.1, okN_iff.1 h.2.1⟩
end Go.Proofs.YtifnamlgkooacaaGreatDoor

namespace Go.Proofs.YtifnamlgkooacaaGreatDoor
open Go.RowKit
theorem dec_length (N : Nat) : (dec N).length = dl N := by unfold dec; exact sdig_length _ _
end Go.Proofs.YtifnamlgkooacaaGreatDoor

namespace Go.Proofs.YtifnamlgkooacaaGreatDoor
open Go.RowKit
/-- The numbers of a plain array, told. -/
def NumOk (fB : Nat → Bool) (fS fT : Nat → ByteArray) (fP : Nat → Int) (fQ : Nat → Nat) (n : Nat) : Prop :=
  ∀ j, j < n → fB j = rB (fP j) ∧ fS j = rS (fP j) ∧ fT j = str (dec (fQ j)) ∧ 0 < fQ j ∧ dl (fP j).natAbs ≤ 60 ∧ dl (fQ j) ≤ 60
theorem ofO_dl {b : Bool} {s t : ByteArray} (h : ofO b s t = true) (hs : s.size ≤ 60) (ht : t.size ≤ 60) : dl (ofP b s t).natAbs ≤ 60 ∧ dl (ofQ b s t) ≤ 60 := by
  obtain ⟨_, h2, h3, _, _⟩ := ofO_facts h
  constructor
  · have := congrArg ByteArray.size h2
    unfold rS at this
    rw [str_size, dec_length] at this
    omega
  · have := congrArg ByteArray.size h3
    rw [str_size, dec_length] at this
    omega
theorem ofO_num {fB : Nat → Bool} {fS fT : Nat → ByteArray} {n : Nat} (h : ∀ j, j < n → ofO (fB j) (fS j) (fT j) = true) (hs : Short fS fT n) : NumOk fB fS fT (fun j => ofP (fB j) (fS j) (fT j)) (fun j => ofQ (fB j) (fS j) (fT j)) n :=
  fun j hj => ⟨(ofO_facts (h j hj)).1.symm, (ofO_facts (h j hj)).2.1.symm, (ofO_facts (h j hj)).2.2.1.symm, (ofO_facts (h j hj)).2.2.2.1, ofO_dl (h j hj) (hs j hj).1 (hs j hj).2⟩
set_option maxHeartbeats 1600000 in
set_option maxRecDepth 100000 in
theorem r6Len_any (cs : Array Value) (S : Nat → Int) (r : Nat) (ch : Bool) (g : Nat → Int) (tn : Nat) (fB : Nat → Bool) (fS fT : Nat → ByteArray) (nn : Nat) (w : World) (h : PlnAt w cs S r ch g tn fB fS fT nn) (h1 : tn ≤ 1000000) (h2 : nn ≤ 1000000) :
    Calls Tryz.prog 63 #[.agg cs] w fun e w' => e = .returned (.int .i64 ((tn + nn : Nat) : Int)) ∧ Below w.heap.size w w' := by
  obtain ⟨sa, sc, ta, tc, na, nc, rfl, _, _, _⟩ := h
  have hw := IntWalk.i64_in ((tn : Int) + nn) (by omega)
  have HE : Hid ((tn : Int) + nn = ((tn + nn : Nat) : Int)) := by show _ = _; omega
  have HB : Hid (Below w.heap.size w (w.alloc (.cells (plC sa r sc ch ta tn tc na nn nc) 26))) := (Below.refl _ _).alloc (Nat.le_refl _) _
  unfold plC at HB
  unfold plC
  go_enter Tryz.func63, Tryz.ntmps63
  go_wp2
  go_ret
  exact ⟨ret_int HE.out, HB.out⟩
/-- Three cells in a row. -/
def Cell3 (w : World) (b o : Nat) (x y z : Value) : Prop := b < w.heap.size ∧ w.cell? ⟨b, o, none⟩ = some x ∧ w.cell? ⟨b, o + 1, none⟩ = some y ∧ w.cell? ⟨b, o + 2, none⟩ = some z
theorem Cell3.below {w w' : World} {b o : Nat} {x y z : Value} (h : Cell3 w b o x y z) (hb : Below w.heap.size w w') : Cell3 w' b o x y z :=
  ⟨Nat.lt_of_lt_of_le h.1 hb.size, (hb.cell (p := ⟨b, _, none⟩) h.1).trans h.2.1, (hb.cell (p := ⟨b, _, none⟩) h.1).trans h.2.2.1, (hb.cell (p := ⟨b, _, none⟩) h.1).trans h.2.2.2⟩
end Go.Proofs.YtifnamlgkooacaaGreatDoor

namespace Go.Proofs.YtifnamlgkooacaaGreatDoor
open Go.RowKit
theorem pl_same {cs cs' : Array Value} {S : Nat → Int} {r : Nat} {ch : Bool} {g : Nat → Int} {tn : Nat} {fB : Nat → Bool} {fS fT : Nat → ByteArray} {nn : Nat} {S' : Nat → Int} {r' : Nat} {ch' : Bool} {g' : Nat → Int} {tn' : Nat} {gB : Nat → Bool} {gS gT : Nat → ByteArray} {nn' : Nat} {w : World} (e : plB ch ch' r r' S S' tn tn' g g' nn nn' fB fS fT gB gS gT = true)
    (h : PlnAt w cs S r ch g tn fB fS fT nn) (h' : PlnAt w cs' S' r' ch' g' tn' gB gS gT nn') :
    Calls Tryz.prog 33 #[.agg cs, .agg cs'] w fun e w' => e = .returned (.bool true) ∧ Below w.heap.size w w' := by
  have := r6PSame_any cs cs' S r ch g tn fB fS fT nn S' r' ch' g' tn' gB gS gT nn' w h h'
  rw [e] at this
  exact this
end Go.Proofs.YtifnamlgkooacaaGreatDoor

namespace Go.Proofs.YtifnamlgkooacaaGreatDoor
open Go.RowKit
/-- An array of either kind. -/
def Arr (w : World) (cs : Array Value) (S : Nat → Int) (r : Nat) (ch : Bool) (L : Nat) (g : Nat → Int) (fP : Nat → Int) (fQ : Nat → Nat) : Prop := (ch = true → ChrArr w cs S r L g) ∧ (ch = false → NumArr w cs S r L fP fQ)
theorem Arr.below {w w' : World} {cs : Array Value} {S : Nat → Int} {r : Nat} {ch : Bool} {L : Nat} {g fP : Nat → Int} {fQ : Nat → Nat} (h : Arr w cs S r ch L g fP fQ) (hb : Below w.heap.size w w') : Arr w' cs S r ch L g fP fQ := ⟨fun e => (h.1 e).below hb, fun e => (h.2 e).below hb⟩
theorem Bag.arr {w0 w : World} {B : World → Prop} {cs : Array Value} {S : Nat → Int} {r : Nat} {ch : Bool} {L : Nat} {g fP : Nat → Int} {fQ : Nat → Nat} (h : Bag w0 B w) (q : Arr w cs S r ch L g fP fQ) : Bag w0 (fun y => Arr y cs S r ch L g fP fQ ∧ B y) w := h.add (fun _ _ hb q => Arr.below q hb) q
theorem Arr.form {w : World} {cs : Array Value} {S : Nat → Int} {r : Nat} {ch : Bool} {L : Nat} {g fP : Nat → Int} {fQ : Nat → Nat} (h : Arr w cs S r ch L g fP fQ) :
    ∃ na nn nc ta tn tc, cs = arrC ch ((r : Int) - 1) (dm S r) na nn nc ta tn tc ∧ (if ch then tn else nn) = L ∧ (if ch then nn else tn) = 0 := by
  cases ch with
  | true => obtain ⟨ta, tc, e, _⟩ := h.1 rfl; exact ⟨none, 0, 0, ta, L, tc, e, rfl, rfl⟩
  | false => obtain ⟨na, nc, e, _⟩ := h.2 rfl; exact ⟨na, L, nc, none, 0, 0, e, rfl, rfl⟩
theorem Arr.size {w : World} {cs : Array Value} {S : Nat → Int} {r : Nat} {ch : Bool} {L : Nat} {g fP : Nat → Int} {fQ : Nat → Nat} (h : Arr w cs S r ch L g fP fQ) : cs.size = 12 := by
  obtain ⟨_, _, _, _, _, _, rfl, _⟩ := h.form
  rfl
theorem Arr.congr {w : World} {cs : Array Value} {S : Nat → Int} {r : Nat} {ch : Bool} {L : Nat} {g g' fP fP' : Nat → Int} {fQ fQ' : Nat → Nat} (h : Arr w cs S r ch L g fP fQ) (e1 : g = g') (e2 : fP = fP') (e3 : fQ = fQ') : Arr w cs S r ch L g' fP' fQ' := by
  subst e1 e2 e3
  exact h
theorem rank8_any (cs : Array Value) (S : Nat → Int) (r : Nat) (ch : Bool) (L : Nat) (g fP : Nat → Int) (fQ : Nat → Nat) (w : World) (h : Arr w cs S r ch L g fP fQ) (hr : r ≤ 1000) :
    Calls Tryz.prog 23 #[.agg cs] w fun e w' => e = .returned (.int .i64 r) ∧ Below w.heap.size w w' := by
  obtain ⟨na, nn, nc, ta, tn, tc, rfl, _⟩ := h.form
  exact rank_any ch (dm S r) r na nn nc ta tn tc w hr
theorem shape8_any (cs : Array Value) (S : Nat → Int) (r : Nat) (ch : Bool) (L : Nat) (g fP : Nat → Int) (fQ : Nat → Nat) (w : World) (h : Arr w cs S r ch L g fP fQ) (hr : r ≤ 8) :
    Calls Tryz.prog 35 #[.agg cs] w fun e w' => ∃ a c, e = .returned (.slice a r c) ∧ KRow w' .i64 a r c S ∧ Below w.heap.size w w' := by
  obtain ⟨na, nn, nc, ta, tn, tc, rfl, _⟩ := h.form
  exact shape_any ch S r na nn nc ta tn tc w hr
theorem len8_any (cs : Array Value) (S : Nat → Int) (r : Nat) (ch : Bool) (L : Nat) (g fP : Nat → Int) (fQ : Nat → Nat) (w : World) (h : Arr w cs S r ch L g fP fQ) :
    Calls Tryz.prog 19 #[.agg cs] w fun e w' => e = .returned (.int .i64 L) ∧ Below w.heap.size w w' := by
  obtain ⟨na, nn, nc, ta, tn, tc, rfl, e, _⟩ := h.form
  have := len_any ch ((r : Int) - 1) (dm S r) na nn nc ta tn tc w
  have e2 : (if ch = true then (tn : Int) else (nn : Int)) = (L : Int) := by rw [← e]; split <;> rfl
  rw [e2] at this
  exact this
/-- Are all elements integers of 64 bits? -/
def whC (ch : Bool) (L : Nat) (fP : Nat → Int) (fQ : Nat → Nat) : Bool := if ch then decide (L = 0) else whB fP fQ L
theorem whB_at {fP : Nat → Int} {fQ : Nat → Nat} : ∀ {n : Nat}, whB fP fQ n = true → ∀ j, j < n → fQ j = 1 ∧ fitB (fP j) = true
  | 0, _, j, hj => absurd hj (Nat.not_lt_zero _)
  | n + 1, h, j, hj => by
    unfold whB at h
    rw [Bool.and_eq_true, Bool.and_eq_true, decide_eq_true_eq] at h
    rcases Nat.lt_or_ge j n with h1 | h1
    · exact whB_at h.1 j h1
    · obtain rfl : j = n := by omega
      exact h.2
theorem fitB_at {x : Int} (h : fitB x = true) : -9223372036854775808 ≤ x ∧ x ≤ 9223372036854775807 := by
  unfold fitB at h
  simp at h
  omega
theorem whC_in {ch : Bool} {L : Nat} {fP : Nat → Int} {fQ : Nat → Nat} (h : whC ch L fP fQ = true) : In64 fP L := fun j hj => by
  cases ch with
  | true => have h0 : L = 0 := of_decide_eq_true h; omega
  | false => exact fitB_at (whB_at h j hj).2
theorem whole8_any (cs : Array Value) (S : Nat → Int) (r : Nat) (ch : Bool) (L : Nat) (g fP : Nat → Int) (fQ : Nat → Nat) (w : World) (h : Arr w cs S r ch L g fP fQ) (hQ : ch = false → ∀ j, j < L → 0 < fQ j) (hL : L ≤ 1000000) :
    Calls Tryz.prog 22 #[.agg cs] w fun e w' => WhTold (whC ch L fP fQ) L fP w w' e := by
  cases ch with
  | true =>
    refine (wholeC_any cs S r L g w (h.1 rfl) hL).mono ?_
    rintro e w' ⟨a, m, c, he, h2, hb⟩
    refine ⟨a, m, c, he, ?_, hb⟩
    show if decide (L = 0) = true then _ else _
    by_cases h0 : L = 0
    · subst h0
      rw [decide_eq_true rfl, if_pos rfl] at h2 ⊢
      exact ⟨h2.1, h2.2.1, h2.2.2.1, .inl rfl⟩
    · rw [decide_eq_false h0, if_neg (by decide)] at h2 ⊢
      exact h2
  | false => exact whole6_any cs S r L fP fQ w (h.2 rfl) (hQ rfl) hL
/-- The answer of what makes an array, or none. -/
def ArrTold (b : Bool) (S : Nat → Int) (r : Nat) (ch : Bool) (L : Nat) (g fP : Nat → Int) (fQ : Nat → Nat) (w w' : World) (e : Ending) : Prop :=
  ∃ cs, e = .returned (.tuple #[.agg cs, .bool b]) ∧ (if b then Arr w' cs S r ch L g fP fQ else cs = zerC) ∧ Below w.heap.size w w'
theorem pick8_any (cs : Array Value) (S : Nat → Int) (r : Nat) (ch : Bool) (L : Nat) (g fP : Nat → Int) (fQ : Nat → Nat) (sa : Option Addr) (sr sc : Nat) (T : Nat → Int) (ta : Option Addr) (tn tc : Nat) (G : Nat → Int) (w : World) (h : Arr w cs S r ch L g fP fQ)
    (hs : KRow w .i64 sa sr sc T) (hS : In64 T sr) (ht : KRow w .i64 ta tn tc G) (hg : In64 G tn) (hn : tn ≤ 1000000) :
    Calls Tryz.prog 52 #[.agg cs, .slice sa sr sc, .slice ta tn tc] w fun e w' => ArrTold (shB T sr && decide (itm T sr = tn)) T sr ch tn (fun j => elC L g 32 (G j)) (fun j => elP L fP (G j)) (fun j => elQ L fQ (G j)) w w' e := by
  cases ch with
  | true =>
    refine (pickC_any cs S r L g sa sr sc T ta tn tc G w (h.1 rfl) hs hS ht hg hn).mono ?_
    rintro e w' ⟨cs', he, h2, hb⟩
    refine ⟨cs', he, ?_, hb⟩
    split
    · rename_i q; rw [if_pos q] at h2; exact ⟨fun _ => h2, fun e => (by cases e)⟩
    · rename_i q; rw [if_neg q] at h2; exact h2
  | false =>
    refine (pickN_any cs S r L fP fQ sa sr sc T ta tn tc G w (h.2 rfl) hs hS ht hg hn).mono ?_
    rintro e w' ⟨cs', he, h2, hb⟩
    refine ⟨cs', he, ?_, hb⟩
    split
    · rename_i q; rw [if_pos q] at h2; exact ⟨fun e => (by cases e), fun _ => h2⟩
    · rename_i q; rw [if_neg q] at h2; exact h2
theorem ints8_any (sa : Option Addr) (sn sc : Nat) (f : Nat → Int) (w : World) (hs : KRow w .i64 sa sn sc f) (hg : In64 f sn) (hn : sn ≤ 4096) :
    Calls Tryz.prog 14 #[.slice sa sn sc] w fun e w' => ∃ cs', e = .returned (.agg cs') ∧ (∀ g, Arr w' cs' (fun _ => (sn : Int)) 1 false sn g f (fun _ => 1)) ∧ Below w.heap.size w w' := by
  refine (ints_any sa sn sc f w hs hg hn).mono ?_
  rintro e w' ⟨cs', he, h2, hb⟩
  exact ⟨cs', he, fun g => ⟨fun e => (by cases e), fun _ => h2⟩, hb⟩
theorem int8_any (X : Int) (w : World) (h : -9223372036854775808 ≤ X ∧ X ≤ 9223372036854775807) :
    Calls Tryz.prog 16 #[.int .i64 X] w fun e w' => ∃ cs', e = .returned (.agg cs') ∧ (∀ g, Arr w' cs' (fun _ => 0) 0 false 1 g (fun _ => X) (fun _ => 1)) ∧ Below w.heap.size w w' := by
  refine (arrInt_any X w h).mono ?_
  rintro e w' ⟨cs', he, h2, hb⟩
  exact ⟨cs', he, fun g => ⟨fun e => (by cases e), fun _ => h2⟩, hb⟩
/-- How many characters, and how many numbers, an array of either kind has. -/
def tnO (ch : Bool) (L : Nat) : Nat := if ch then L else 0
def nnO (ch : Bool) (L : Nat) : Nat := if ch then 0 else L
/-- A plain array of either kind. -/
def Pln (w : World) (cs : Array Value) (S : Nat → Int) (r : Nat) (ch : Bool) (L : Nat) (g : Nat → Int) (fB : Nat → Bool) (fS fT : Nat → ByteArray) : Prop := PlnAt w cs S r ch g (tnO ch L) fB fS fT (nnO ch L)
theorem Pln.below {w w' : World} {cs : Array Value} {S : Nat → Int} {r : Nat} {ch : Bool} {L : Nat} {g : Nat → Int} {fB : Nat → Bool} {fS fT : Nat → ByteArray} (h : Pln w cs S r ch L g fB fS fT) (hb : Below w.heap.size w w') : Pln w' cs S r ch L g fB fS fT := PlnAt.below h hb
theorem QRow.zero {w : World} {sa : Option Addr} {c : Nat} {fB : Nat → Bool} {fS fT : Nat → ByteArray} (h : QRow w sa 0 c fB fS fT) (fB' : Nat → Bool) (fS' fT' : Nat → ByteArray) : QRow w sa 0 c fB' fS' fT' := ⟨h.1, h.2.1, .inl rfl⟩
theorem KRow.zero {w : World} {ki : IntKind} {sa : Option Addr} {c : Nat} {f : Nat → Int} (h : KRow w ki sa 0 c f) (f' : Nat → Int) : KRow w ki sa 0 c f' := ⟨h.1, h.2.1, .inl rfl⟩
theorem QRow.congr {w : World} {sa : Option Addr} {n c : Nat} {fB fB' : Nat → Bool} {fS fT fS' fT' : Nat → ByteArray} (h : QRow w sa n c fB fS fT) (e : ∀ j, j < n → fB j = fB' j ∧ fS j = fS' j ∧ fT j = fT' j) : QRow w sa n c fB' fS' fT' := by
  refine ⟨h.1, h.2.1, h.2.2.imp id fun ⟨b, off, h1, h2, h3⟩ => ⟨b, off, h1, h2, fun j hj => ?_⟩⟩
  obtain ⟨e1, e2, e3⟩ := e j hj
  rw [← e1, ← e2, ← e3]
  exact h3 j hj
/-- Short numbers. -/
def Small (ch : Bool) (L : Nat) (fP : Nat → Int) (fQ : Nat → Nat) : Prop := ch = false → CmpOk 7 fP fQ L
theorem plain8_any (cs : Array Value) (S : Nat → Int) (r : Nat) (ch : Bool) (L : Nat) (g fP : Nat → Int) (fQ : Nat → Nat) (w : World) (hr : r ≤ 8) (h : Arr w cs S r ch L g fP fQ) (hn : L ≤ 1000000) (hs : Small ch L fP fQ) :
    Calls Tryz.prog 34 #[.agg cs] w fun e w' => ∃ cs', e = .returned (.agg cs') ∧ Pln w' cs' S r ch L g (fun j => rB (fP j)) (fun j => rS (fP j)) (fun j => str (dec (fQ j))) ∧ Below w.heap.size w w' := by
  cases ch with
  | true =>
    refine (plainC_any cs S r L g w hr (h.1 rfl) hn).mono ?_
    rintro e w' ⟨cs', he, ⟨sa, sc, ta, tc, na, nc, e1, k1, k2, k3⟩, hb⟩
    exact ⟨cs', he, ⟨sa, sc, ta, tc, na, nc, e1, k1, k2, k3.zero _ _ _⟩, hb⟩
  | false =>
    have hc := hs rfl
    refine (plainN_any cs S r L fP fQ w hr (h.2 rfl) hn (fun j hj => (hc j hj).1) 7 (by omega) (fun j hj => (hc j hj).2.1) (fun j hj => (hc j hj).2.2)).mono ?_
    rintro e w' ⟨cs', he, ⟨sa, sc, ta, tc, na, nc, e1, k1, k2, k3⟩, hb⟩
    exact ⟨cs', he, ⟨sa, sc, ta, tc, na, nc, e1, k1, k2.zero _, k3⟩, hb⟩
theorem plB_of2 {ch : Bool} {r : Nat} {S S' : Nat → Int} {tn : Nat} {g g' : Nat → Int} {nn : Nat} {fB gB : Nat → Bool} {fS fT gS gT : Nat → ByteArray} (h1 : ∀ j, j < r → S j = S' j) (h3 : ∀ j, j < tn → g j = g' j) (h2 : ∀ j, j < nn → fB j = gB j ∧ fS j = gS j ∧ fT j = gT j) : plB ch ch r r S S' tn tn g g' nn nn fB fS fT gB gS gT = true := by
  unfold plB
  rw [sameB_iff.2 h1, sameB_iff.2 h3, nsB_iff.2 h2, decide_eq_true rfl, decide_eq_true rfl, decide_eq_true rfl, decide_eq_true rfl]
  rfl
end Go.Proofs.YtifnamlgkooacaaGreatDoor

namespace Go.Proofs.YtifnamlgkooacaaGreatDoor
open Go.RowKit
/-- The error of an array as a list of integers. -/
def liE (r : Nat) (b : Bool) : Int := if 1 < r then 23 else if b then 0 else 22
/-- A function value that answers a number at every place, and the number. -/
def Gives (fv : FuncId) (cap : Array Value) (G : Nat → Int) (M : Nat) (w : World) : Prop :=
  ∀ wz, Below w.heap.size w wz → ∀ k : Nat, k < M → Calls Tryz.prog fv (#[.int .i64 (k : Nat)] ++ cap) wz fun e w' => e = .returned (.int .i64 (G k)) ∧ Below wz.heap.size wz w'
theorem Gives.below {fv : FuncId} {cap : Array Value} {G : Nat → Int} {M : Nat} {w w' : World} (h : Gives fv cap G M w) (hb : Below w.heap.size w w') : Gives fv cap G M w' := fun wz hz => h wz (hb.trans (hz.mono hb.size))
end Go.Proofs.YtifnamlgkooacaaGreatDoor

namespace Go.Proofs.YtifnamlgkooacaaGreatDoor
open Go.RowKit
/-- A row from a place on. -/
def shf (f : Nat → Int) (p : Nat) : Nat → Int := fun j => f (p + j)
theorem rm_pos (f : Nat → Int) : ∀ k, 1 ≤ rm f k
  | 0 => by show (1 : Int) ≤ 1; omega
  | k + 1 => by
    have h := rm_pos f k
    have e : 1 * 1 ≤ rm f k * max (f k) 1 := Int.mul_le_mul h (by omega) (by omega) (by omega)
    show 1 ≤ rm f k * max (f k) 1
    omega
theorem rm_add (f : Nat → Int) (p : Nat) : ∀ k, rm f (p + k) = rm f p * rm (shf f p) k
  | 0 => by show rm f p = rm f p * 1; omega
  | k + 1 => by
    show rm f (p + k) * max (f (p + k)) 1 = rm f p * (rm (shf f p) k * max (f (p + k)) 1)
    rw [rm_add f p k, Int.mul_assoc]
theorem itm_add (f : Nat → Int) (p : Nat) : ∀ k, itm f (p + k) = itm f p * itm (shf f p) k
  | 0 => by show itm f p = itm f p * 1; omega
  | k + 1 => by
    show itm f (p + k) * f (p + k) = itm f p * (itm (shf f p) k * f (p + k))
    rw [itm_add f p k, Int.mul_assoc]
theorem ax_nn {f : Nat → Int} {n j : Nat} (h : axB f n = true) (hj : j < n) : 0 ≤ f j := by
  have h1 := ax_le (show j + 1 ≤ n by omega) h
  unfold axB at h1
  rw [Bool.and_eq_true, Bool.and_eq_true, decide_eq_true_eq] at h1
  exact h1.2.1
/-- The axes from a place on are those of a shape, too. -/
theorem ax_shf {f : Nat → Int} {n : Nat} (p : Nat) (h : axB f n = true) : ∀ k, p + k ≤ n → axB (shf f p) k = true
  | 0, _ => rfl
  | k + 1, hk => by
    have h1 := ax_shf p h k (by omega)
    have h2 := ax_bd (ax_le hk h)
    have h3 := rm_pos f p
    have h4 := rm_pos (shf f p) (k + 1)
    have h0 := ax_nn h (show p + k < n by omega)
    rw [rm_add f p (k + 1)] at h2
    have h5 : 1 * rm (shf f p) (k + 1) ≤ rm f p * rm (shf f p) (k + 1) := Int.mul_le_mul h3 (Int.le_refl _) (by omega) (by omega)
    unfold axB
    rw [h1, decide_eq_true (show 0 ≤ shf f p k from h0), decide_eq_true (show rm (shf f p) (k + 1) ≤ 4096 by omega)]
    rfl
theorem sh_ax {f : Nat → Int} {n : Nat} (h : shB f n = true) : n ≤ 8 ∧ axB f n = true := by
  unfold shB at h
  rw [Bool.and_eq_true, decide_eq_true_eq] at h
  exact h
theorem KRow.take {w : World} {ki : IntKind} {a : Option Addr} {n c : Nat} {f : Nat → Int} (h : KRow w ki a n c f) {k : Nat} (hk : k ≤ n) : KRow w ki a k c f := by
  obtain ⟨h1, h2, h3⟩ := h
  refine ⟨by omega, h2, ?_⟩
  rcases h3 with h3 | ⟨b, off, e, hb, hc⟩
  · exact .inl (by omega)
  · exact .inr ⟨b, off, e, hb, fun j hj => hc j (by omega)⟩
theorem KRow.from {w : World} {ki : IntKind} {b off : Nat} {n c : Nat} {f : Nat → Int} (h : KRow w ki (some ⟨b, off, none⟩) n c f) {p : Nat} (hp : p ≤ n) : KRow w ki (some ⟨b, off + p, none⟩) (n - p) (c - p) (shf f p) := by
  obtain ⟨h1, h2, h3⟩ := h
  refine ⟨by omega, by omega, ?_⟩
  rcases h3 with h3 | ⟨b', off', e, hb, hc⟩
  · exact .inl (by omega)
  · cases e
    exact .inr ⟨b, off + p, rfl, hb, fun j hj => by rw [Nat.add_assoc]; exact hc (p + j) (by omega)⟩
set_option maxHeartbeats 800000 in
theorem has_any (a : Option Addr) (n c : Nat) (i : Int) (w : World) :
    Calls Tryz.prog 91 #[.slice a n c, .int .i64 i] w fun e w' => e = .returned (.bool (decide (0 ≤ i) && decide (i < n))) ∧ w = w' := by
  by_cases h0 : 0 ≤ i
  · rw [decide_eq_true h0, Bool.true_and]
    go_enter Tryz.func91, Tryz.ntmps91
    go_wp2
    go_ret
    exact ⟨rfl, rfl⟩
  · rw [decide_eq_false h0, Bool.false_and]
    go_enter Tryz.func91, Tryz.ntmps91
    go_wp2
    go_ret
    exact ⟨rfl, rfl⟩
set_option maxHeartbeats 1600000 in
set_option maxRecDepth 100000 in
theorem product_any (a : Option Addr) (n c : Nat) (f : Nat → Int) (w : World) (h : KRow w .i64 a n c f) (hx : axB f n = true) :
    Calls Tryz.prog 94 #[.slice a n c] w fun e w' => e = .returned (.int .i64 (itm f n)) ∧ w = w' := by
  have hl := h.len
  have H := Lib.hid h
  have HX := Lib.hid hx
  clear h hx
  go_enter Tryz.func94, Tryz.ntmps94
  go_wp2
  go_loop [3, 8] (fun t i => ∃ k : Nat, k ≤ n ∧ i = .int .i64 k ∧ t = .int .i64 (itm f k)) (fun _ i => n - (intOf i).toNat)
  case atStart => exact ⟨0, by omega, rfl, rfl⟩
  case round =>
    obtain ⟨k, hk, rfl, rfl⟩ := hrel
    by_cases hlt : k < n
    · obtain ⟨b, off, rfl, hb, hc⟩ := H.out.get hlt
      obtain ⟨_, _, t1, t2⟩ := ax_bd (ax_le (show k + 1 ≤ n by omega) HX.out)
      obtain ⟨_, r2, _, _⟩ := ax_bd (ax_le (show k + 1 ≤ n by omega) HX.out)
      have e2 : itm f (k + 1) = itm f k * f k := rfl
      rw [e2] at t1 t2
      have E2 := Lib.hid e2
      have w2 := IntWalk.i64_in (itm f k * f k) (by omega)
      clear e2 t1 t2 r2
      generalize f k = x at *
      generalize itm f k = t at *
      go_wp2
      go_round
      case rel => exact ⟨k + 1, by omega, by go_num, vint E2.out.symm⟩
      case measure => simp [intOf]; omega
    · obtain rfl : k = n := by omega
      go_wp2
      go_ret
      exact ⟨rfl, rfl⟩
end Go.Proofs.YtifnamlgkooacaaGreatDoor

namespace Go.Proofs.YtifnamlgkooacaaGreatDoor
open Go.RowKit
/-- The place of an index. -/
def plc (f g : Nat → Int) : Nat → Int
  | 0 => 0
  | k + 1 => plc f g k * f k + g k
/-- The first numbers are within the axes. -/
def inB (f g : Nat → Int) : Nat → Bool
  | 0 => true
  | k + 1 => inB f g k && (decide (0 ≤ g k) && decide (g k < f k))
theorem inB_le {f g : Nat → Int} : ∀ {k m : Nat}, k ≤ m → inB f g m = true → inB f g k = true := by
  intro k m
  induction m with
  | zero => intro h h2; obtain rfl : k = 0 := by omega
            exact h2
  | succ m ih =>
    intro h h2
    rcases Nat.lt_or_ge k (m + 1) with h3 | h3
    · refine ih (by omega) ?_
      unfold inB at h2
      rw [Bool.and_eq_true] at h2
      exact h2.1
    · obtain rfl : k = m + 1 := by omega
      exact h2
theorem inB_at {f g : Nat → Int} {n j : Nat} (h : inB f g n = true) (hj : j < n) : 0 ≤ g j ∧ g j < f j := by
  have h1 := inB_le (show j + 1 ≤ n by omega) h
  unfold inB at h1
  rw [Bool.and_eq_true, Bool.and_eq_true, decide_eq_true_eq, decide_eq_true_eq] at h1
  exact h1.2
theorem inB_no {f g : Nat → Int} {n j : Nat} (hj : j < n) (h : ¬ (0 ≤ g j ∧ g j < f j)) : inB f g n = false := by
  cases hx : inB f g n with
  | false => rfl
  | true => exact absurd (inB_at hx hj) h
theorem plc_bd {f g : Nat → Int} : ∀ {k : Nat}, axB f k = true → inB f g k = true → 0 ≤ plc f g k ∧ plc f g k < itm f k := by
  intro k
  induction k with
  | zero => intro _ _; exact ⟨Int.le_refl _, by show (0 : Int) < 1; omega⟩
  | succ k ih =>
    intro h1 h2
    have h3 := inB_at h2 (show k < k + 1 by omega)
    obtain ⟨i1, i2⟩ := ih (ax_le (by omega) h1) (inB_le (by omega) h2)
    have h4 : (plc f g k + 1) * f k ≤ itm f k * f k := Int.mul_le_mul_of_nonneg_right (by omega) (by omega)
    have h5 : 0 ≤ plc f g k * f k := Int.mul_nonneg i1 (by omega)
    rw [Int.add_mul, Int.one_mul] at h4
    show 0 ≤ plc f g k * f k + g k ∧ plc f g k * f k + g k < itm f k * f k
    omega
/-- Has a shape this index? -/
def shP (f : Nat → Int) (n : Nat) (g : Nat → Int) (m : Nat) : Bool := shB f n && (decide (n = m) && inB f g n)
def plI (f : Nat → Int) (n : Nat) (g : Nat → Int) (m : Nat) : Int := if shP f n g m then plc f g n else 0
/-- What Place answers. -/
def PlTold (f : Nat → Int) (n : Nat) (g : Nat → Int) (m : Nat) (w w' : World) (e : Ending) : Prop := e = .returned (.tuple #[.int .i64 (plI f n g m), .bool (shP f n g m)]) ∧ Below w.heap.size w w'
theorem PlTold.no {f g : Nat → Int} {n m : Nat} {w w' : World} (hb : Below w.heap.size w w') (h : shP f n g m = false) : PlTold f n g m w w' (.returned (.tuple #[.int .i64 0, .bool false])) := by
  refine ⟨?_, hb⟩
  unfold plI
  rw [h]
  rfl
theorem PlTold.yes {f g : Nat → Int} {n : Nat} {w w' : World} (hb : Below w.heap.size w w') (h : shB f n = true) (h2 : inB f g n = true) : PlTold f n g n w w' (.returned (.tuple #[.int .i64 (plc f g n), .bool true])) := by
  have : shP f n g n = true := by unfold shP; rw [h, h2, decide_eq_true rfl]; rfl
  refine ⟨?_, hb⟩
  unfold plI
  rw [this]
  rfl
set_option maxHeartbeats 1600000 in
set_option maxRecDepth 100000 in
theorem place_any (a : Option Addr) (n c : Nat) (f : Nat → Int) (a2 : Option Addr) (m c2 : Nat) (g : Nat → Int) (w : World) (h : KRow w .i64 a n c f) (hf : In64 f n) (h2 : KRow w .i64 a2 m c2 g) (hg : In64 g m) :
    Calls Tryz.prog 109 #[.slice a n c, .slice a2 m c2] w fun e w' => PlTold f n g m w w' e := by
  have hl := h.len
  have hl2 := h2.len
  have CN := Lib.hid (fun wz (h : KRow wz .i64 a n c f) => count_any a n c f wz h hf)
  unfold CntTold at CN
  have H := Lib.hid h
  have H2 := Lib.hid h2
  have HG := Lib.hid hg
  clear h h2 hf hg
  cases hs : shB f n with
  | false =>
    have HE := Lib.hid (fun wz (hb : Below w.heap.size w wz) => PlTold.no (f := f) (n := n) (g := g) (m := m) hb (by unfold shP; rw [hs]; rfl))
    rw [hs] at CN
    generalize cntI f n = x at *
    clear hs
    go_enter Tryz.func109, Tryz.ntmps109
    go_wp2_with fail
    go_at_call 74
    (with_reducible refine (CN.out _ H.out).mono ?_)
    rintro e w1 ⟨rfl, rfl⟩
    go_wp2
    go_ret2
    exact HE.out _ (Below.refl _ _)
  | true =>
    rw [hs] at CN
    generalize cntI f n = x at *
    have HS := Lib.hid hs
    clear hs
    by_cases hnm : m = n
    · subst hnm
      have dn : ((m : Int) != m) = false := bne_self_eq_false _
      go_enter Tryz.func109, Tryz.ntmps109
      go_wp2_with fail
      go_at_call 74
      (with_reducible refine (CN.out _ H.out).mono ?_)
      rintro e w1 ⟨rfl, rfl⟩
      go_wp2
      go_loopw [8, 27] (fun t i wr => ∃ k : Nat, k ≤ m ∧ i = .int .i64 k ∧ t = .int .i64 (plc f g k) ∧ Hid (inB f g k = true ∧ Below w.heap.size w wr)) (fun _ i _ => m - (intOf i).toNat)
      case atStart => exact ⟨0, by omega, rfl, rfl, rfl, Below.refl _ _⟩
      case round =>
        obtain ⟨k, hk, rfl, rfl, hrel⟩ := hrel
        obtain ⟨hin, hbl⟩ := hrel.out
        have hax := (sh_ax HS.out).2
        by_cases hlt : k < m
        · obtain ⟨b, off, rfl, hb, hc⟩ := (H.out.below hbl).get hlt
          obtain ⟨b2, off2, rfl, hb2, hc2⟩ := (H2.out.below hbl).get hlt
          have HBL := Lib.hid hbl
          have hk0 : (0 : Int) ≤ k := by omega
          have hk1 : (k : Int) < m := by omega
          by_cases h0 : g k < 0
          · have HN := Lib.hid (PlTold.no (f := f) (n := m) (g := g) (m := m) (w := w) (w' := wr) hbl (by unfold shP; rw [inB_no hlt (by omega), Bool.and_false, Bool.and_false]))
            clear hbl hin hax hrel
            generalize plc f g k = t at *
            generalize g k = y at *
            generalize f k = x' at *
            go_wp2
            go_ret2
            exact HN.out
          · by_cases h1 : f k ≤ g k
            · have HN := Lib.hid (PlTold.no (f := f) (n := m) (g := g) (m := m) (w := w) (w' := wr) hbl (by unfold shP; rw [inB_no hlt (by omega), Bool.and_false, Bool.and_false]))
              clear hbl hin hax hrel
              generalize plc f g k = t at *
              generalize g k = y at *
              generalize f k = x' at *
              go_wp2
              go_ret2
              exact HN.out
            · have hin' : inB f g (k + 1) = true := by unfold inB; rw [hin, decide_eq_true (show 0 ≤ g k by omega), decide_eq_true (show g k < f k by omega)]; rfl
              have hpb := plc_bd (ax_le (show k + 1 ≤ m by omega) hax) hin'
              have hpb0 := plc_bd (ax_le (show k ≤ m by omega) hax) hin
              have hit := (ax_bd (ax_le (show k + 1 ≤ m by omega) hax)).2.2.2
              have hrm := (ax_bd (ax_le (show k + 1 ≤ m by omega) hax)).2.1
              have e2 : plc f g (k + 1) = plc f g k * f k + g k := rfl
              rw [e2] at hpb
              have hm0 : 0 ≤ plc f g k * f k := Int.mul_nonneg hpb0.1 (by omega)
              have E2 := Lib.hid e2
              have w1 := IntWalk.i64_in (plc f g k * f k) (by omega)
              have w2 := IntWalk.i64_in (plc f g k * f k + g k) (by omega)
              have HN := Lib.hid (And.intro hin' hbl)
              clear hbl hin hin' hax hrel e2 hpb hpb0 hit hrm hm0
              generalize plc f g k = t at *
              generalize g k = y at *
              generalize f k = x' at *
              go_wp2
              go_roundw
              case rel => exact ⟨k + 1, by omega, by go_num, vint E2.out.symm, HN.out⟩
              case measure => simp [intOf]; omega
        · obtain rfl : k = m := by omega
          have HY := Lib.hid (PlTold.yes (w := w) hbl HS.out hin)
          generalize plc f g k = t at *
          clear hbl hin hax hrel
          go_wp2
          go_ret2
          exact HY.out
    · have dn : ((m : Int) != n) = true := bne_iff_ne.2 (by omega)
      have HE := Lib.hid (PlTold.no (f := f) (n := n) (g := g) (m := m) (Below.refl w.heap.size w) (by unfold shP; rw [decide_eq_false (Ne.symm hnm), Bool.false_and, Bool.and_false]))
      clear hnm
      go_enter Tryz.func109, Tryz.ntmps109
      go_wp2_with fail
      go_at_call 74
      (with_reducible refine (CN.out _ H.out).mono ?_)
      rintro e w1 ⟨rfl, rfl⟩
      go_wp2
      go_ret2
      exact HE.out
end Go.Proofs.YtifnamlgkooacaaGreatDoor

namespace Go.Proofs.YtifnamlgkooacaaGreatDoor
open Go.RowKit
/-- The numbers of the index at a place, the last one first. -/
def dgs (f : Nat → Int) : Nat → Int → Nat → Int
  | 0, _, _ => 0
  | k + 1, r, j => if j = k then r % f k else dgs f k (r / f k) j
theorem itm_pos {f : Nat → Int} {n : Nat} (h : axB f n = true) {at' : Int} (h0 : 0 ≤ at') (h1 : at' < itm f n) : ∀ j, j < n → 1 ≤ f j := by
  induction n generalizing at' with
  | zero => intro j hj; omega
  | succ n ih =>
    intro j hj
    have hn := ax_nn h (show n < n + 1 by omega)
    have hne : f n ≠ 0 := by
      intro e
      have : itm f (n + 1) = itm f n * f n := rfl
      rw [this, e, Int.mul_zero] at h1
      omega
    by_cases e : j = n
    · subst e; omega
    · have e1 : itm f (n + 1) = itm f n * f n := rfl
      have hb := (ax_bd (ax_le (Nat.le_succ n) h)).2.2.1
      have : 0 < itm f n := by
        rcases Int.lt_or_le 0 (itm f n) with h3 | h3
        · exact h3
        · have h4 : itm f n = 0 := by omega
          rw [e1, h4, Int.zero_mul] at h1
          omega
      exact ih (ax_le (Nat.le_succ n) h) (Int.le_refl 0) this j (by omega)
theorem quo_lt {f : Nat → Int} {k : Nat} {r : Int} (h1 : 1 ≤ f k) (hr0 : 0 ≤ r) (hr : r < itm f (k + 1)) : 0 ≤ r / f k ∧ r / f k < itm f k ∧ 0 ≤ r % f k ∧ r % f k < f k := by
  refine ⟨Int.ediv_nonneg hr0 (by omega), Int.ediv_lt_of_lt_mul (by omega) hr, Int.emod_nonneg _ (by omega), Int.emod_lt_of_pos _ (by omega)⟩
theorem dgs_in {f : Nat → Int} : ∀ {n : Nat} {r : Int}, (∀ j, j < n → 1 ≤ f j) → 0 ≤ r → r < itm f n → inB f (dgs f n r) n = true ∧ plc f (dgs f n r) n = r := by
  intro n
  induction n with
  | zero => intro r _ h0 h1; refine ⟨rfl, ?_⟩; have : itm f 0 = 1 := rfl; show 0 = r; omega
  | succ n ih =>
    intro r hp h0 h1
    obtain ⟨q1, q2, q3, q4⟩ := quo_lt (hp n (by omega)) h0 h1
    obtain ⟨i1, i2⟩ := ih (fun j hj => hp j (by omega)) q1 q2
    have hd : ∀ j, j < n → dgs f (n + 1) r j = dgs f n (r / f n) j := fun j hj => by
      show (if j = n then _ else _) = _
      rw [if_neg (by omega)]
    have hn : dgs f (n + 1) r n = r % f n := by show (if n = n then _ else _) = _; rw [if_pos rfl]
    have hin : ∀ k, k ≤ n → inB f (dgs f (n + 1) r) k = inB f (dgs f n (r / f n)) k := by
      intro k
      induction k with
      | zero => intro _; rfl
      | succ k ihk => intro hk; unfold inB; rw [ihk (by omega), hd k (by omega)]
    have hpl : ∀ k, k ≤ n → plc f (dgs f (n + 1) r) k = plc f (dgs f n (r / f n)) k := by
      intro k
      induction k with
      | zero => intro _; rfl
      | succ k ihk => intro hk; unfold plc; rw [ihk (by omega), hd k (by omega)]
    constructor
    · unfold inB
      rw [hin n (Nat.le_refl _), i1, hn, decide_eq_true q3, decide_eq_true q4]
      rfl
    · unfold plc
      rw [hpl n (Nat.le_refl _), i2, hn, Int.mul_comm]
      exact Int.mul_ediv_add_emod _ _
/-- A block of n integers of its own. -/
def IBox (w : World) (g n : Nat) (h : Nat → Int) : Prop := g < w.heap.size ∧ Free w g ∧ ∀ j, j < n → w.cell? ⟨g, j, none⟩ = some (.int .i64 (h j))
theorem IBox.below {w w' : World} {g n : Nat} {h : Nat → Int} (q : IBox w g n h) (hb : Below w.heap.size w w') : IBox w' g n h :=
  ⟨Nat.lt_of_lt_of_le q.1 hb.size, q.2.1.below hb q.1, fun j hj => (hb.cell (p := ⟨g, j, none⟩) q.1).trans (q.2.2 j hj)⟩
theorem IBox.set {w : World} {g n k : Nat} {h : Nat → Int} (q : IBox w g n h) (hk : k < n) (x : Int) : IBox (w.setCell ⟨g, k, none⟩ (.int .i64 x)) g n (fun j => if j = k then x else h j) := by
  refine ⟨by simpa using q.1, q.2.1.set _ _, fun j hj => ?_⟩
  by_cases e : j = k
  · subst e
    show _ = some (Value.int .i64 (if j = j then x else h j))
    rw [if_pos rfl]
    exact World.cell?_setCell_same _ _ _ (q.2.2 j hj)
  · show _ = some (Value.int .i64 (if j = k then x else h j))
    rw [if_neg e, World.cell?_setCell_other _ _ _ _ (fun h => by injection h with _ h; omega)]
    exact q.2.2 j hj
theorem IBox.congr {w : World} {g n : Nat} {h h' : Nat → Int} (q : IBox w g n h) (e : ∀ j, j < n → h j = h' j) : IBox w g n h' := ⟨q.1, q.2.1, fun j hj => by rw [q.2.2 j hj, e j hj]⟩
theorem IBox.krow {w : World} {g n : Nat} {h : Nat → Int} (q : IBox w g n h) (hn : n ≤ maxLen) : KRow w .i64 (some ⟨g, 0, none⟩) n n h :=
  ⟨Nat.le_refl _, hn, .inr ⟨g, 0, rfl, q.1, fun j hj => by rw [Nat.zero_add]; exact q.2.2 j hj⟩⟩
theorem IBox.made (w : World) (n : Nat) (t : TypeId) {mc : Array Value} (hmc : mc = madeCells (Value.cells (.int .i64 0)) n) : IBox (w.alloc (.cells mc t)) w.heap.size n (fun _ => 0) := by
  subst hmc
  have hR := Row.new w t (madeCells (Value.cells (.int .i64 0)) n)
  refine ⟨hR.lt, fun o => hR.free o, fun j hj => ?_⟩
  rw [hR.cell]
  unfold madeCells
  rw [Array.getElem?_map, Array.getElem?_range, if_pos (by omega), Option.map_some]
  simp [Value.cells, Nat.mod_one]
/-- Is it a place of the shape? -/
def ixB (f : Nat → Int) (n : Nat) (i : Int) : Bool := shB f n && (decide (0 ≤ i) && decide (i < itm f n))
/-- What Index answers. -/
def IxTold (f : Nat → Int) (n : Nat) (i : Int) (w w' : World) (e : Ending) : Prop := ∃ a m c, e = .returned (.tuple #[.slice a m c, .bool (ixB f n i)]) ∧ (if ixB f n i then m = n ∧ KRow w' .i64 a n c (dgs f n i) else a = none ∧ m = 0 ∧ c = 0) ∧ Below w.heap.size w w'
theorem IxTold.no {f : Nat → Int} {n : Nat} {i : Int} {w w' : World} (hb : Below w.heap.size w w') (h : ixB f n i = false) : IxTold f n i w w' (.returned (.tuple #[.slice none 0 0, .bool false])) := by
  refine ⟨none, 0, 0, ?_, ?_, hb⟩
  · rw [h]
  · rw [h, if_neg (by decide)]; exact ⟨rfl, rfl, rfl⟩
end Go.Proofs.YtifnamlgkooacaaGreatDoor
