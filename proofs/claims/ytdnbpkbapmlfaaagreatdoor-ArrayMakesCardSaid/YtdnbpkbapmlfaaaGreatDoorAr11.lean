/-
  Package array: Plain, by contract.
-/
import Derived.Test.YtdnbpkbapmlfaaaGreatDoorAr10
import Derived.Test.YtdnbpkbapmlfaaaGreatDoorInv
namespace Go.Proofs.YtdnbpkbapmlfaaaGreatDoor
open Go.RowKit
attribute [local go_sem ↓] Go.wp_at_zero Go.wp_at_succ

def plZ : Array Value := #[.slice none 0 0, .bool false, .slice none 0 0, .slice none 0 0]
/-- Four cells of a block turned. -/
def put4 (w : World) (k : Nat) (a b c d : Value) : World := (((w.setCell ⟨k, 0, none⟩ a).setCell ⟨k, 1, none⟩ b).setCell ⟨k, 2, none⟩ c).setCell ⟨k, 3, none⟩ d
theorem Far.trans {g : Nat} {a b c : World} (h : Far g a b) (h2 : Far g b c) : Far g a c := ⟨Nat.le_trans h.size h2.size, fun k hk hl => (h2.block k hk (Nat.lt_of_lt_of_le hl h.size)).trans (h.block k hk hl)⟩
theorem Far.refl (g : Nat) (w : World) : Far g w w := ⟨Nat.le_refl _, fun _ _ _ => rfl⟩
theorem Far.of_below {g : Nat} {a b : World} (h : Below a.heap.size a b) : Far g a b := ⟨h.size, fun k _ hl => h.block k hl⟩
theorem Far.of_grown {g : Nat} {a b c : World} {row : Option Nat} (h : Far g a b) (hg : b.grownBy c row) (hr : ∀ x, row = some x → a.heap.size ≤ x) : Far g a c :=
  ⟨Nat.le_trans h.size hg.size, fun k hk hl => (hg.block k (Nat.lt_of_lt_of_le hl h.size) (fun e => by have := hr k e.symm; omega)).trans (h.block k hk hl)⟩
theorem far_put4 (w : World) (k : Nat) (a b c d : Value) : Far k w (put4 w k a b c d) := (((Far.setCell _ _ _ _).trans (Far.setCell _ _ _ _)).trans (Far.setCell _ _ _ _)).trans (Far.setCell _ _ _ _)
theorem row_put4 {w : World} {k : Nat} {t : TypeId} {x0 x1 x2 x3 : Value} (h : Row w k t #[x0, x1, x2, x3]) (a b c d : Value) : Row (put4 w k a b c d) k t #[a, b, c, d] := (((h.set 0 a).set 1 b).set 2 c).set 3 d
theorem below_put4 {w w1 : World} {k : Nat} (h : Below w.heap.size w w1) (hk : w.heap.size ≤ k) (a b c d : Value) : Below w.heap.size w (put4 w1 k a b c d) := (((h.setCell (p := ⟨k, 0, none⟩) hk _).setCell (p := ⟨k, 1, none⟩) hk _).setCell (p := ⟨k, 2, none⟩) hk _).setCell (p := ⟨k, 3, none⟩) hk _
/-- No number lies among the cells. -/
def NoInt (cs : Array Value) : Prop := ∀ (o : Nat) (ki : IntKind) (z : Int), cs[o]? ≠ some (.int ki z)
theorem noInt_pl (sa : Option Addr) (sn sc : Nat) (ch : Bool) (ta : Option Addr) (tn tc : Nat) (na : Option Addr) (nn nc : Nat) : NoInt (plC sa sn sc ch ta tn tc na nn nc) := by
  intro o ki z h
  unfold plC at h
  rcases o with _ | _ | _ | _ | o
  all_goals first | (simp at h; done) | (cases h)
theorem Row.noLimb' {w : World} {g : Nat} {t : TypeId} {cs : Array Value} (h : Row w g t cs) (hn : NoInt cs) : NoLimb w g := by
  intro o z hc
  rw [h.cell o] at hc
  exact hn _ _ _ hc
theorem KRow.apart {w : World} {ki : IntKind} {a : Option Addr} {n c : Nat} {f : Nat → Int} {g : Nat} {t : TypeId} {cs : Array Value} (h : KRow w ki a n c f) (hr : Row w g t cs) (hn : NoInt cs) : n = 0 ∨ ∀ x, a = some x → x.block ≠ g := by
  rcases Nat.eq_zero_or_pos n with h0 | h0
  · exact .inl h0
  · obtain ⟨b, off, rfl, _, hc⟩ := h.2.2.resolve_left (by omega)
    refine .inr fun x hx e => ?_
    obtain rfl := Option.some.inj hx
    have e : b = g := e
    subst e
    have := hc 0 h0
    rw [hr.cell] at this
    exact hn _ _ _ this
theorem own_below {w w' : World} {base : Nat} {e : TypeId} {size : Nat} {v : Value} {n : Nat} {xs : List Value} (h : w.ownsRow base e size v n xs) (hb : Below w.heap.size w w') : w'.ownsRow base e size v n xs := by
  refine h.kept (row := none) ⟨hb.os, hb.tape, hb.output, hb.size, fun k hk _ => hb.block k hk⟩ ?_
  cases v.ownBlock with
  | none => exact .inl rfl
  | some k => exact .inr (by simp)
theorem own_setCell {w : World} {base : Nat} {e : TypeId} {size : Nat} {v : Value} {n : Nat} {xs : List Value} (h : w.ownsRow base e size v n xs) (k o : Nat) (u : Value) (hk : some k ≠ v.ownBlock) : (w.setCell ⟨k, o, none⟩ u).ownsRow base e size v n xs :=
  h.kept (row := some k) ⟨rfl, rfl, rfl, by simp, fun j hj hne => (Far.setCell w k o u).block j (fun e => hne (by rw [e])) hj⟩ (.inr (fun e => hk e.symm))
theorem Bag.own {w0 w : World} {B : World → Prop} {base : Nat} {e : TypeId} {size : Nat} {v : Value} {n : Nat} {xs : List Value} (h : Bag w0 B w) (q : w.ownsRow base e size v n xs) : Bag w0 (fun y => y.ownsRow base e size v n xs ∧ B y) w := h.add (fun _ _ hb q => own_below q hb) q
theorem RRow.older {w : World} {a : Option Addr} {n c : Nat} {fP : Nat → Int} {fQ : Nat → Nat} {g : Nat} (h : RRow w a n c fP fQ) (hg : w.heap.size ≤ g) : n = 0 ∨ ∀ x, a = some x → x.block ≠ g := by
  rcases h.2.2 with h0 | ⟨b, off, rfl, hl, _⟩
  · exact .inl h0
  · refine .inr fun x hx e => ?_
    obtain rfl := Option.some.inj hx
    have e : b = g := e
    omega

theorem QRow.away {w w' : World} {sa : Option Addr} {n c : Nat} {fB : Nat → Bool} {fS fT : Nat → ByteArray} {g : Nat} (h : QRow w sa n c fB fS fT) (hg : n = 0 ∨ ∀ x, sa = some x → x.block ≠ g) (hf : Far g w w') : QRow w' sa n c fB fS fT := by
  refine ⟨h.1, h.2.1, ?_⟩
  rcases h.2.2 with h0 | ⟨b, off, rfl, hl, hcc⟩
  · exact .inl h0
  · rcases hg with h0 | hg
    · exact .inl h0
    · have hbg : b ≠ g := hg _ rfl
      refine .inr ⟨b, off, rfl, Nat.lt_of_lt_of_le hl hf.size, fun j hj => ?_⟩
      obtain ⟨e1, e2, e3⟩ := hcc j hj
      exact ⟨(hf.cell (a := ⟨b, _, none⟩) hbg hl).trans e1, (hf.cell (a := ⟨b, _, none⟩) hbg hl).trans e2, (hf.cell (a := ⟨b, _, none⟩) hbg hl).trans e3⟩
theorem own_ne {w : World} {base : Nat} {e : TypeId} {size : Nat} {a : Option Addr} {n c k : Nat} {xs : List Value} {g : Nat} (h : w.ownsRow base e size (.slice a n c) k xs) (hg : g < base) : n = 0 ∨ ∀ x, a = some x → x.block ≠ g := by
  rcases h.2 with ⟨e, _⟩ | ⟨g', cap, cur, e, _, _⟩
  · cases e; exact .inl rfl
  · have hlt := h.lt
    injection e with e1 e2 e3
    subst e1
    refine .inr fun x hx e => ?_
    obtain rfl := Option.some.inj hx
    have e : g' = g := e
    have := (hlt g' rfl).1
    omega
/-- One number more in the row that a plain array holds. -/
theorem pl_step {w y0 wr w2 : World} {P : Nat} {sa : Option Addr} {sn sc : Nat} {ch : Bool} {ta : Option Addr} {tn tc : Nat} {a : Option Addr} {k c : Nat} {fB : Nat → Bool} {fS fT : Nat → ByteArray} {T E : TypeId} (hbl : Below w.heap.size w wr) (hf : Far P y0 wr) (hb : Below wr.heap.size wr w2)
    (hr : Row w2 P T (plC sa sn sc ch ta tn tc a k c)) (ho : w2.ownsRow y0.heap.size E 3 (.slice a k c) k (qcs fB fS fT k)) (hne : E ≠ T) (hP : w.heap.size ≤ P) (hy : w.heap.size ≤ y0.heap.size) :
    ∀ (g cap : Nat) (w3 : World), w3.ownsRow y0.heap.size E 3 (.slice (some ⟨g, 0, none⟩) (k + 1) cap) (k + 1) (qcs fB fS fT k ++ [.bool (fB k), .string (fS k), .string (fT k)]) → w2.grownBy w3 (Value.slice a k c).ownBlock →
    Below w.heap.size w (w3.setCell ⟨P, 3, none⟩ (.slice (some ⟨g, 0, none⟩) (k + 1) cap)) ∧ Far P y0 (w3.setCell ⟨P, 3, none⟩ (.slice (some ⟨g, 0, none⟩) (k + 1) cap)) ∧ Row (w3.setCell ⟨P, 3, none⟩ (.slice (some ⟨g, 0, none⟩) (k + 1) cap)) P T (plC sa sn sc ch ta tn tc (some ⟨g, 0, none⟩) (k + 1) cap)
      ∧ (w3.setCell ⟨P, 3, none⟩ (.slice (some ⟨g, 0, none⟩) (k + 1) cap)).ownsRow y0.heap.size E 3 (.slice (some ⟨g, 0, none⟩) (k + 1) cap) (k + 1) (qcs fB fS fT (k + 1)) := by
  intro g cap w3 ho3 hg
  have hlt := ho.lt
  have hr3 := hr.grown hg (hr.apart ho hne)
  have hb2 : Below w.heap.size w w2 := hbl.trans (hb.mono hbl.size)
  have hb3 : Below w.heap.size w w3 := hb2.trans ⟨hg.os, hg.tape, hg.output, hg.size, fun j hj => hg.block j (Nat.lt_of_lt_of_le hj hb2.size) (fun e => by have := (hlt j e.symm).1; omega)⟩
  refine ⟨hb3.setCell (p := ⟨P, 3, none⟩) hP _, ((hf.trans (Far.of_below hb)).of_grown hg (fun x hx => (hlt x hx).1)).trans (Far.setCell _ _ _ _), hr3.set 3 _, own_setCell ho3 _ _ _ (hr3.apart ho3 hne)⟩

set_option linter.unusedSimpArgs false in
set_option maxHeartbeats 6400000 in
set_option maxRecDepth 100000 in
theorem plain_any (ch : Bool) (f : Nat → Int) (r : Nat) (na : Option Addr) (n nc : Nat) (ta : Option Addr) (tn tc : Nat) (fP : Nat → Int) (fQ : Nat → Nat) (g : Nat → Int) (w : World) (hr : r ≤ 8) (h : RRow w na n nc fP fQ) (ht : KRow w .i32 ta tn tc g) (hn : n ≤ 1000000) (htn : tn ≤ 1000000)
    (hQ : ∀ j, j < n → 0 < fQ j) (K : Nat) (hK : K ≤ 100000) (h1 : ∀ j, j < n → (fP j).natAbs < 4294967296 ^ K) (h2 : ∀ j, j < n → fQ j < 4294967296 ^ K) :
    Calls Tryz.prog 24 #[.agg (arrC ch ((r : Int) - 1) (dm f r) na n nc ta tn tc)] w fun e w' => ∃ cs, e = .returned (.agg cs) ∧ PlnAt w' cs f r ch g tn (fun j => rB (fP j)) (fun j => rS (fP j)) (fun j => str (dec (fQ j))) n ∧ Below w.heap.size w w' := by
  have SH := Lib.hid (fun wz => shape_any ch f r na n nc ta tn tc wz hr)
  have RU := Lib.hid (fun wz h => runes_any ch ((r : Int) - 1) (dm f r) na n nc ta tn tc g wz h htn)
  obtain ⟨i0, hi, hz0, hz1, hz2⟩ := info_parts infoN
  have NM := Lib.hid (fun a n' c m a2 n2 c2 P Q wz hz hq p1 p2 => num_any a n' c m a2 n2 c2 P Q wz hz hq K hK p1 p2)
  unfold NumTold at NM
  have HQ := Lib.hid hQ
  have H1 := Lib.hid h1
  have H2 := Lib.hid h2
  have HR := Lib.hid h
  have hl := h.len
  have BB := Lib.hid (((((Bag.start w).krow ht).rrow h).newRow (arrC ch ((r : Int) - 1) (dm f r) na n nc ta tn tc) 50).newRow plZ 46)
  simp only [World.size_alloc] at BB
  generalize dm f r = d at *
  generalize (r : Int) - 1 = more at *
  unfold arrC at BB SH RU
  unfold arrC
  unfold plZ at BB
  clear h ht hQ h1 h2
  go_enter Tryz.func24, Tryz.ntmps24
  go_wp2_with fail
  refine wp_region_inv3 ⟨(fun j => ([[6], [7], [8], [9], [10], [11], [12], [3], []] : List (List Nat)).getD j []), (fun j => ([[], [0], [], [2], [], [0, 1, 4], [0, 1, 2, 3, 4, 5], [], [0, 1, 2, 3, 4, 5, 6, 7]] : List (List Nat)).getD j []), [7]⟩ 8 (fun jj vv yy => match jj with | 0 => vv = [some (.agg #[.bool ch, .int .i64 more, .int .i64 (d 0), .int .i64 (d 1), .int .i64 (d 2), .int .i64 (d 3), .int .i64 (d 4), .int .i64 (d 5), .int .i64 (d 6), .int .i64 (d 7), .slice na n nc, .slice ta tn tc])] | 1 => ∃ (x1 : Option Addr), ∃ (c1 : Nat), vv = [some (.slice x1 r c1)] ∧ KRow yy .i64 x1 r c1 f | 2 => vv = [some (.pointer (some ⟨w.heap.size, 0, none⟩))] | 3 => vv = [some (.bool ch)] | 4 => vv = [some (.agg #[.bool ch, .int .i64 more, .int .i64 (d 0), .int .i64 (d 1), .int .i64 (d 2), .int .i64 (d 3), .int .i64 (d 4), .int .i64 (d 5), .int .i64 (d 6), .int .i64 (d 7), .slice na n nc, .slice ta tn tc])] | 5 => ∃ (x5 : Option Addr), ∃ (c5 : Nat), vv = [some (.slice x5 tn c5)] ∧ KRow yy .i32 x5 tn c5 g | 6 => ∃ (x1 : Option Addr), ∃ (c1 : Nat), ∃ (x5 : Option Addr), ∃ (c5 : Nat), vv = [some (.agg #[.slice x1 r c1, .bool ch, .slice x5 tn c5, .slice none 0 0])] ∧ KRow yy .i64 x1 r c1 f ∧ KRow yy .i32 x5 tn c5 g | 7 => ∃ (k7 : Nat), vv = [some (.pointer (some ⟨k7, 0, none⟩))] ∧ Row yy k7 46 #[.slice none 0 0, .bool false, .slice none 0 0, .slice none 0 0] ∧ w.heap.size + 1 < k7 | _ => True) (Bag w (fun y => Row y (w.heap.size + 1) 46 #[.slice none 0 0, .bool false, .slice none 0 0, .slice none 0 0] ∧ Row y w.heap.size 50 #[.bool ch, .int .i64 more, .int .i64 (d 0), .int .i64 (d 1), .int .i64 (d 2), .int .i64 (d 3), .int .i64 (d 4), .int .i64 (d 5), .int .i64 (d 6), .int .i64 (d 7), .slice na n nc, .slice ta tn tc] ∧ RRow y na n nc fP fQ ∧ KRow y .i32 ta tn tc g ∧ True)) (by kernel_rfl) (by kernel_rfl) (by kernel_rfl) (by kernel_rfl) BB.out.drew ?_ ?_ ?_
  · intro jj vv yw yw2 hb h
    match jj, h with
    | 0, h => exact h
    | 1, ⟨x1, c1, e1, g1_0⟩ => exact Exists.intro x1 (Exists.intro c1 (And.intro e1 (g1_0.below hb)))
    | 2, h => exact h
    | 3, h => exact h
    | 4, h => exact h
    | 5, ⟨x5, c5, e5, g5_0⟩ => exact Exists.intro x5 (Exists.intro c5 (And.intro e5 (g5_0.below hb)))
    | 6, ⟨x1, c1, x5, c5, e6, g6_0, g6_1⟩ => exact Exists.intro x1 (Exists.intro c1 (Exists.intro x5 (Exists.intro c5 (And.intro e6 (And.intro (g6_0.below hb) (g6_1.below hb))))))
    | 7, ⟨k7, e7, g7_0, g7_1⟩ => exact Exists.intro k7 (And.intro e7 (And.intro (g7_0.below hb) g7_1))
    | _ + 8, h => exact h
  · intro ac yw hsz hdf hold hB hp
    obtain ⟨P, e7, hp0, hP⟩ := hp 7 (by decide)
    obtain ⟨x1, c1, x5, c5, e6, hk1, hk5⟩ := hp 6 (by decide)
    have t3 : ac.tmps[3]? = some (.pointer (some ⟨P, 0, none⟩)) := (List.cons.inj e7).1
    have t12 : ac.tmps[12]? = some (.agg #[.slice x1 r c1, .bool ch, .slice x5 tn c5, .slice none 0 0]) := (List.cons.inj e6).1
    have t1 : ac.tmps[1]? = some (.pointer (some ⟨w.heap.size, 0, none⟩)) := hold 1 (by kernel_rfl)
    have t2 : ac.tmps[2]? = some (.pointer (some ⟨w.heap.size + 1, 0, none⟩)) := hold 2 (by kernel_rfl)
    clear hold hp e6 e7
    obtain ⟨TV, hTV⟩ : ∃ TV : Nat → Value, ∀ i, (ac.tmps[i]?).getD undef = TV i := ⟨_, fun _ => rfl⟩
    have f1 := (hTV 1).symm.trans (congrArg (fun x => Option.getD x undef) t1)
    have f2 := (hTV 2).symm.trans (congrArg (fun x => Option.getD x undef) t2)
    have f3 := (hTV 3).symm.trans (congrArg (fun x => Option.getD x undef) t3)
    have f12 := (hTV 12).symm.trans (congrArg (fun x => Option.getD x undef) t12)
    have hac := act_eq (n := 29) hsz TV hTV
    rw [show ((List.range 29).map TV).toArray = #[TV 0, TV 1, TV 2, TV 3, TV 4, TV 5, TV 6, TV 7, TV 8, TV 9, TV 10, TV 11, TV 12, TV 13, TV 14, TV 15, TV 16, TV 17, TV 18, TV 19, TV 20, TV 21, TV 22, TV 23, TV 24, TV 25, TV 26, TV 27, TV 28] from rfl, f1, f2, f3, f12, hdf] at hac
    simp only [Option.getD_some] at hac
    subst hac
    clear hTV f1 f2 f3 f12
    have q0 : yw.cell? ⟨P, 0, none⟩ = some (.slice none 0 0) := hp0.cell 0
    have q1 : yw.cell? ⟨P, 1, none⟩ = some (.bool false) := hp0.cell 1
    have q2 : yw.cell? ⟨P, 2, none⟩ = some (.slice none 0 0) := hp0.cell 2
    have q3 : yw.cell? ⟨P, 3, none⟩ = some (.slice none 0 0) := hp0.cell 3
    have g0 := hp0.free 0
    have g1 := hp0.free 1
    have g2 := hp0.free 2
    have g3 := hp0.free 3
    have hnl : NoInt (plC none 0 0 false none 0 0 none 0 0) := noInt_pl _ _ _ _ _ _ _ _ _ _
    have HF := far_put4 yw P (.slice x1 r c1) (.bool ch) (.slice x5 tn c5) (.slice none 0 0)
    have HY : Hid (Below w.heap.size w (put4 yw P (.slice x1 r c1) (.bool ch) (.slice x5 tn c5) (.slice none 0 0)) ∧ Row (put4 yw P (.slice x1 r c1) (.bool ch) (.slice x5 tn c5) (.slice none 0 0)) P 46 (plC x1 r c1 ch x5 tn c5 none 0 0)
        ∧ Row (put4 yw P (.slice x1 r c1) (.bool ch) (.slice x5 tn c5) (.slice none 0 0)) (w.heap.size + 1) 46 #[.slice none 0 0, .bool false, .slice none 0 0, .slice none 0 0] ∧ Row (put4 yw P (.slice x1 r c1) (.bool ch) (.slice x5 tn c5) (.slice none 0 0)) w.heap.size 50 #[.bool ch, .int .i64 more, .int .i64 (d 0), .int .i64 (d 1), .int .i64 (d 2), .int .i64 (d 3), .int .i64 (d 4), .int .i64 (d 5), .int .i64 (d 6), .int .i64 (d 7), .slice na n nc, .slice ta tn tc]
        ∧ RRow (put4 yw P (.slice x1 r c1) (.bool ch) (.slice x5 tn c5) (.slice none 0 0)) na n nc fP fQ ∧ (n = 0 ∨ ∀ x, na = some x → x.block ≠ P)
        ∧ KRow (put4 yw P (.slice x1 r c1) (.bool ch) (.slice x5 tn c5) (.slice none 0 0)) .i64 x1 r c1 f ∧ KRow (put4 yw P (.slice x1 r c1) (.bool ch) (.slice x5 tn c5) (.slice none 0 0)) .i32 x5 tn c5 g) :=
      ⟨below_put4 hB.below (by omega) _ _ _ _, row_put4 hp0 _ _ _ _, (HF.block _ (by omega) hB.now.1.lt).trans hB.now.1, (HF.block _ (by omega) hB.now.2.1.lt).trans hB.now.2.1,
        hB.now.2.2.1.away (hp0.noLimb' hnl) (HR.out.older (by omega)) HF, HR.out.older (by omega), hk1.away (hk1.apart hp0 hnl) HF, hk5.away (hk5.apart hp0 hnl) HF⟩
    unfold put4 at HY
    clear HF hnl hp0 hk1 hk5 hB t1 t2 t3 t12
    refine TailWp.step rfl ?_
    intro K hK
    go_simp
    refine hK.out _ _ ?_
    refine TailWp.end rfl ?_
    generalize (((yw.setCell ⟨P, 0, none⟩ (.slice x1 r c1)).setCell ⟨P, 1, none⟩ (.bool ch)).setCell ⟨P, 2, none⟩ (.slice x5 tn c5)).setCell ⟨P, 3, none⟩ (.slice none 0 0) = y0 at *
    clear q0 q1 q2 q3 g0 g1 g2 g3
    obtain ⟨hbl0, hrp0, hrr0, hrb0, hnn0, hne0, hks0, hkt0⟩ := HY.out
    have qn : y0.cell? ⟨w.heap.size, 10, none⟩ = some (.slice na n nc) := hrb0.cell 10
    have H0 : Hid (Below w.heap.size w y0 ∧ Far P y0 y0 ∧ Row y0 P 46 (plC x1 r c1 ch x5 tn c5 none 0 0) ∧ y0.ownsRow y0.heap.size 34 3 (.slice none 0 0) 0 (qcs (fun j => rB (fP j)) (fun j => rS (fP j)) (fun j => str (dec (fQ j))) 0)) :=
      ⟨hbl0, Far.refl _ _, hrp0, World.ownsRow_nil _ _ _ _⟩
    have HPP := Lib.hid (And.intro (show w.heap.size + 1 < P by omega) hbl0.size)
    clear hbl0 hrp0 hrr0 hrb0 hnn0 hne0 hks0 hkt0 hP
    go_wp2_with fail
    go_loopw [16] (fun i wr => ∃ (k : Nat) (a : Option Addr) (c : Nat), k ≤ n ∧ i = .int .i64 k ∧ Hid (Below w.heap.size w wr ∧ Far P y0 wr ∧ Row wr P 46 (plC x1 r c1 ch x5 tn c5 a k c) ∧ wr.ownsRow y0.heap.size 34 3 (.slice a k c) k (qcs (fun j => rB (fP j)) (fun j => rS (fP j)) (fun j => str (dec (fQ j))) k))) (fun i _ => n - (intOf i).toNat)
    case atStart => exact ⟨0, none, 0, by omega, rfl, H0.out⟩
    case round =>
      obtain ⟨k, a, c, hk, rfl, hrel⟩ := hrel
      obtain ⟨hbl, hfar, hrp, hown⟩ := hrel.out
      obtain ⟨_, hrp0, hrr0, hrb0, hnn0, hne0, hks0, hkt0⟩ := HY.out
      by_cases hlt : k < n
      · obtain ⟨b, off, a', n', c', m', a2', n2', c2', rfl, hlb, e1, e2, e3, hi'⟩ := (hnn0.away (hrp0.noLimb' (noInt_pl _ _ _ _ _ _ _ _ _ _)) hne0 hfar).get hlt
        have BB := Lib.hid (((((Bag.start wr).own hown).row hrp).rat hi').alloc (.cells #[.slice a' n' c', .bool m', .slice a2' n2' c2'] 30))
        have HBL := Lib.hid hbl
        have HF := Lib.hid hfar
        have qp : (wr.alloc (.cells #[.slice a' n' c', .bool m', .slice a2' n2' c2'] 30)).cell? ⟨P, 3, none⟩ = some (.slice a k c) := BB.out.now.2.1.cell 3
        clear hbl hfar hrp hown hrp0 hrr0 hrb0 hnn0 hne0 hks0 hkt0 hi'
        have HMX := Lib.hid (show k + 1 ≤ maxLen by unfold maxLen; omega)
        have HMY := Lib.hid (show (k + 1) * 40 ≤ 140737488355328 by omega)
        have HONE := Lib.hid (show ∀ u ∈ ([.bool (rB (fP k)), .string (rS (fP k)), .string (str (dec (fQ k)))] : List Value), u.oneCell' = true by intro u hu; simp at hu; rcases hu with rfl | rfl | rfl <;> rfl)
        go_wp2_with fail
        go_region_law (first
          | (go_simp; go_at_call 13; (with_reducible refine (NM.out _ _ _ _ _ _ _ (fP k) (fQ k) _ ?_ ?_ ?_ ?_).mono ?_); exact BB.out.drew.now.1; exact HQ.out k hlt; exact H1.out k hlt; exact H2.out k hlt; rintro e w2 ⟨rfl, hb2⟩;
              have B2 := Lib.hid ((BB.out.drew.go hb2).newRow #[.bool (rB (fP k)), .string (rS (fP k)), .string (str (dec (fQ k)))] 34);
              have qp2 : w2.cell? ⟨P, 3, none⟩ = some (.slice a k c) := (BB.out.drew.go hb2).now.2.1.cell 3;
              have qp3 : (w2.alloc (.cells #[.bool (rB (fP k)), .string (rS (fP k)), .string (str (dec (fQ k)))] 34)).cell? ⟨P, 3, none⟩ = some (.slice a k c) := B2.out.now.2.2.1.cell 3;
              have HROW := Lib.hid B2.out.now.2.2.1;
              have HOWN := Lib.hid B2.out.now.2.2.2.1;
              have HNEW := Lib.hid (World.news_of_block B2.out.now.1);
              have HBA := Lib.hid (Nat.le_trans HF.out.size B2.out.below.size);
              have HNX := Lib.hid (pl_step HBL.out HF.out B2.out.below HROW.out HOWN.out (by decide) (by have := HPP.out.1; omega) HPP.out.2);
              clear hb2)
          | (refine step_append_lies _ rfl (.tmp 21) (.tmp 24) 44 rfl y0.heap.size 34 i0 _ 3 40 Tryz.underlying44 hi hz0 hz1 hz2 rfl (by omega) (.slice a k c) k _ rfl HOWN.out ⟨w2.heap.size, 0, none⟩ 1 1 [.bool (rB (fP k)), .string (rS (fP k)), .string (str (dec (fQ k)))] rfl rfl HNEW.out HONE.out (by omega) HMX.out HMY.out HBA.out _ rfl ?_; intro g9 cap9 w3 hown3 hgrow hor hlt3;
              have hx := HOWN.out.lt; have hr3 := HROW.out.grown hgrow (HROW.out.apart HOWN.out (by decide)); have qp : w3.cell? ⟨P, 3, none⟩ = some (.slice a k c) := hr3.cell 3; have fp := hr3.free 3; have HN := Lib.hid (HNX.out g9 cap9 w3 hown3 hgrow); clear hx hown3 hgrow hor hlt3 hr3))
        all_goals
          go_wp2
          go_roundw
          case rel => exact ⟨k + 1, _, cap9, by omega, by go_num, HN.out⟩
          case measure => simp [intOf]; omega
      · obtain rfl : k = n := by omega
        have hnk := noInt_pl x1 r c1 ch x5 tn c5 none 0 0
        have qp : wr.cell? ⟨P, 0, none⟩ = some (.slice x1 r c1) := hrp.cell 0
        have qp1 : wr.cell? ⟨P, 1, none⟩ = some (.bool ch) := hrp.cell 1
        have qp2 : wr.cell? ⟨P, 2, none⟩ = some (.slice x5 tn c5) := hrp.cell 2
        have qp3 : wr.cell? ⟨P, 3, none⟩ = some (.slice a k c) := hrp.cell 3
        have hr2 : Row wr (w.heap.size + 1) 46 #[.slice none 0 0, .bool false, .slice none 0 0, .slice none 0 0] := (hfar.block _ (by have := HPP.out.1; omega) hrr0.lt).trans hrr0
        have c0 : wr.cell? ⟨w.heap.size + 1, 0, none⟩ = some (.slice none 0 0) := hr2.cell 0
        have c1' : wr.cell? ⟨w.heap.size + 1, 1, none⟩ = some (.bool false) := hr2.cell 1
        have c2 : wr.cell? ⟨w.heap.size + 1, 2, none⟩ = some (.slice none 0 0) := hr2.cell 2
        have c3 : wr.cell? ⟨w.heap.size + 1, 3, none⟩ = some (.slice none 0 0) := hr2.cell 3
        have f0 := hr2.free 0
        have f1 := hr2.free 1
        have f2 := hr2.free 2
        have f3 := hr2.free 3
        have hF := far_put4 wr (w.heap.size + 1) (.slice x1 r c1) (.bool ch) (.slice x5 tn c5) (.slice a k c)
        have hR := row_put4 hr2 (.slice x1 r c1) (.bool ch) (.slice x5 tn c5) (.slice a k c)
        have hni : NoInt #[.slice none 0 0, .bool false, .slice none 0 0, .slice none 0 0] := noInt_pl none 0 0 false none 0 0 none 0 0
        have k1 := hks0.away (hks0.apart hrp0 hnk) hfar
        have k5 := hkt0.away (hkt0.apart hrp0 hnk) hfar
        obtain ⟨a1, c9, he, hq⟩ := QRow.of_own hown
        injection he with he1 _ he2
        subst he1 he2
        have HE : Hid ((∃ cs, (Ending.returned (.agg #[.slice x1 r c1, .bool ch, .slice x5 tn c5, .slice a k c])) = .returned (.agg cs) ∧ PlnAt (put4 wr (w.heap.size + 1) (.slice x1 r c1) (.bool ch) (.slice x5 tn c5) (.slice a k c)) cs f r ch g tn (fun j => rB (fP j)) (fun j => rS (fP j)) (fun j => str (dec (fQ j))) k ∧ Below w.heap.size w (put4 wr (w.heap.size + 1) (.slice x1 r c1) (.bool ch) (.slice x5 tn c5) (.slice a k c)))) :=
          ⟨_, rfl, ⟨_, _, _, _, _, _, rfl, k1.away (k1.apart hr2 hni) hF, k5.away (k5.apart hr2 hni) hF, hq.away (own_ne hown (by have := HPP.out; have := hrp0.lt; omega)) hF⟩, below_put4 hbl (by omega) _ _ _ _⟩
        have HS : Hid (∀ i, (put4 wr (w.heap.size + 1) (.slice x1 r c1) (.bool ch) (.slice x5 tn c5) (.slice a k c)).cell? ⟨w.heap.size + 1, i, none⟩ = (#[.slice x1 r c1, .bool ch, .slice x5 tn c5, .slice a k c] : Array Value)[i]?) := fun i => hR.cell i
        have s0 := HS.out 0
        have s1 := HS.out 1
        have s2 := HS.out 2
        have s3 := HS.out 3
        unfold put4 at HE s0 s1 s2 s3
        clear hbl hfar hrp hown hrp0 hrr0 hrb0 hnn0 hne0 hks0 hkt0 hF hR hni k1 k5 hq hr2 hnk HS
        go_wp2
        exact bodyPost_ret (v := .agg #[.slice x1 r c1, .bool ch, .slice x5 tn c5, .slice a k c]) (by simp [results, Tryz.results24, go_sem, s0, s1, s2, s3]) rfl HE.out
  refine Stps2.cons (o := _) ?_ ?_
  · intro ac yw hsz hold hB hp K hK
    have t1 : ac.tmps[1]? = some (.pointer (some ⟨w.heap.size, 0, none⟩)) := hold 1 (by kernel_rfl)
    clear hold hp hsz
    have v0 : yw.cell? ⟨w.heap.size, 0, none⟩ = some (.bool ch) := hB.now.2.1.cell 0
    have v1 : yw.cell? ⟨w.heap.size, 1, none⟩ = some (.int .i64 more) := hB.now.2.1.cell 1
    have v2 : yw.cell? ⟨w.heap.size, 2, none⟩ = some (.int .i64 (d 0)) := hB.now.2.1.cell 2
    have v3 : yw.cell? ⟨w.heap.size, 3, none⟩ = some (.int .i64 (d 1)) := hB.now.2.1.cell 3
    have v4 : yw.cell? ⟨w.heap.size, 4, none⟩ = some (.int .i64 (d 2)) := hB.now.2.1.cell 4
    have v5 : yw.cell? ⟨w.heap.size, 5, none⟩ = some (.int .i64 (d 3)) := hB.now.2.1.cell 5
    have v6 : yw.cell? ⟨w.heap.size, 6, none⟩ = some (.int .i64 (d 4)) := hB.now.2.1.cell 6
    have v7 : yw.cell? ⟨w.heap.size, 7, none⟩ = some (.int .i64 (d 5)) := hB.now.2.1.cell 7
    have v8 : yw.cell? ⟨w.heap.size, 8, none⟩ = some (.int .i64 (d 6)) := hB.now.2.1.cell 8
    have v9 : yw.cell? ⟨w.heap.size, 9, none⟩ = some (.int .i64 (d 7)) := hB.now.2.1.cell 9
    have v10 : yw.cell? ⟨w.heap.size, 10, none⟩ = some (.slice na n nc) := hB.now.2.1.cell 10
    have v11 : yw.cell? ⟨w.heap.size, 11, none⟩ = some (.slice ta tn tc) := hB.now.2.1.cell 11
    go_simp
    exact hK.out _ _ ⟨hB, rfl, Nat.le_refl _, .inl (Below.refl _ _), fun h => absurd h (by decide)⟩
  refine Stps2.cons (o := _) ?_ ?_
  · intro ac yw hsz hold hB hp K hK
    have e0 := hp 0 (by decide)
    have t6 : ac.tmps[6]? = some (.agg #[.bool ch, .int .i64 more, .int .i64 (d 0), .int .i64 (d 1), .int .i64 (d 2), .int .i64 (d 3), .int .i64 (d 4), .int .i64 (d 5), .int .i64 (d 6), .int .i64 (d 7), .slice na n nc, .slice ta tn tc]) := (List.cons.inj e0).1
    clear hold hp hsz e0
    go_simp
    (go_at_call 26; (with_reducible refine (SH.out _).mono ?_); rintro e wz ⟨x1, c1, rfl, h1_0, hbz⟩)
    exact hK.out _ _ ⟨hB.go hbz, Exists.intro x1 (Exists.intro c1 (And.intro rfl h1_0)), hbz.size, .inl hbz, fun h => absurd h (by decide)⟩
  refine Stps2.cons (o := _) ?_ ?_
  · intro ac yw hsz hold hB hp K hK
    have t1 : ac.tmps[1]? = some (.pointer (some ⟨w.heap.size, 0, none⟩)) := hold 1 (by kernel_rfl)
    clear hold hp hsz
    go_simp
    exact hK.out _ _ ⟨hB, rfl, Nat.le_refl _, .inl (Below.refl _ _), fun h => absurd h (by decide)⟩
  refine Stps2.cons (o := _) ?_ ?_
  · intro ac yw hsz hold hB hp K hK
    have e2 := hp 2 (by decide)
    have t8 : ac.tmps[8]? = some (.pointer (some ⟨w.heap.size, 0, none⟩)) := (List.cons.inj e2).1
    clear hold hp hsz e2
    have v0 : yw.cell? ⟨w.heap.size, 0, none⟩ = some (.bool ch) := hB.now.2.1.cell 0
    have v1 : yw.cell? ⟨w.heap.size, 1, none⟩ = some (.int .i64 more) := hB.now.2.1.cell 1
    have v2 : yw.cell? ⟨w.heap.size, 2, none⟩ = some (.int .i64 (d 0)) := hB.now.2.1.cell 2
    have v3 : yw.cell? ⟨w.heap.size, 3, none⟩ = some (.int .i64 (d 1)) := hB.now.2.1.cell 3
    have v4 : yw.cell? ⟨w.heap.size, 4, none⟩ = some (.int .i64 (d 2)) := hB.now.2.1.cell 4
    have v5 : yw.cell? ⟨w.heap.size, 5, none⟩ = some (.int .i64 (d 3)) := hB.now.2.1.cell 5
    have v6 : yw.cell? ⟨w.heap.size, 6, none⟩ = some (.int .i64 (d 4)) := hB.now.2.1.cell 6
    have v7 : yw.cell? ⟨w.heap.size, 7, none⟩ = some (.int .i64 (d 5)) := hB.now.2.1.cell 7
    have v8 : yw.cell? ⟨w.heap.size, 8, none⟩ = some (.int .i64 (d 6)) := hB.now.2.1.cell 8
    have v9 : yw.cell? ⟨w.heap.size, 9, none⟩ = some (.int .i64 (d 7)) := hB.now.2.1.cell 9
    have v10 : yw.cell? ⟨w.heap.size, 10, none⟩ = some (.slice na n nc) := hB.now.2.1.cell 10
    have v11 : yw.cell? ⟨w.heap.size, 11, none⟩ = some (.slice ta tn tc) := hB.now.2.1.cell 11
    go_simp
    exact hK.out _ _ ⟨hB, rfl, Nat.le_refl _, .inl (Below.refl _ _), fun h => absurd h (by decide)⟩
  refine Stps2.cons (o := _) ?_ ?_
  · intro ac yw hsz hold hB hp K hK
    have t1 : ac.tmps[1]? = some (.pointer (some ⟨w.heap.size, 0, none⟩)) := hold 1 (by kernel_rfl)
    clear hold hp hsz
    have v0 : yw.cell? ⟨w.heap.size, 0, none⟩ = some (.bool ch) := hB.now.2.1.cell 0
    have v1 : yw.cell? ⟨w.heap.size, 1, none⟩ = some (.int .i64 more) := hB.now.2.1.cell 1
    have v2 : yw.cell? ⟨w.heap.size, 2, none⟩ = some (.int .i64 (d 0)) := hB.now.2.1.cell 2
    have v3 : yw.cell? ⟨w.heap.size, 3, none⟩ = some (.int .i64 (d 1)) := hB.now.2.1.cell 3
    have v4 : yw.cell? ⟨w.heap.size, 4, none⟩ = some (.int .i64 (d 2)) := hB.now.2.1.cell 4
    have v5 : yw.cell? ⟨w.heap.size, 5, none⟩ = some (.int .i64 (d 3)) := hB.now.2.1.cell 5
    have v6 : yw.cell? ⟨w.heap.size, 6, none⟩ = some (.int .i64 (d 4)) := hB.now.2.1.cell 6
    have v7 : yw.cell? ⟨w.heap.size, 7, none⟩ = some (.int .i64 (d 5)) := hB.now.2.1.cell 7
    have v8 : yw.cell? ⟨w.heap.size, 8, none⟩ = some (.int .i64 (d 6)) := hB.now.2.1.cell 8
    have v9 : yw.cell? ⟨w.heap.size, 9, none⟩ = some (.int .i64 (d 7)) := hB.now.2.1.cell 9
    have v10 : yw.cell? ⟨w.heap.size, 10, none⟩ = some (.slice na n nc) := hB.now.2.1.cell 10
    have v11 : yw.cell? ⟨w.heap.size, 11, none⟩ = some (.slice ta tn tc) := hB.now.2.1.cell 11
    go_simp
    exact hK.out _ _ ⟨hB, rfl, Nat.le_refl _, .inl (Below.refl _ _), fun h => absurd h (by decide)⟩
  refine Stps2.cons (o := _) ?_ ?_
  · intro ac yw hsz hold hB hp K hK
    have e4 := hp 4 (by decide)
    have t10 : ac.tmps[10]? = some (.agg #[.bool ch, .int .i64 more, .int .i64 (d 0), .int .i64 (d 1), .int .i64 (d 2), .int .i64 (d 3), .int .i64 (d 4), .int .i64 (d 5), .int .i64 (d 6), .int .i64 (d 7), .slice na n nc, .slice ta tn tc]) := (List.cons.inj e4).1
    clear hold hp hsz e4
    go_simp
    (go_at_call 34; (with_reducible refine (RU.out _ hB.now.2.2.2.1).mono ?_); rintro e wz ⟨x5, c5, rfl, h5_0, hbz⟩)
    exact hK.out _ _ ⟨hB.go hbz, Exists.intro x5 (Exists.intro c5 (And.intro rfl h5_0)), hbz.size, .inl hbz, fun h => absurd h (by decide)⟩
  refine Stps2.cons (o := _) ?_ ?_
  · intro ac yw hsz hold hB hp K hK
    obtain ⟨x1_1, c1_1, e1, g1_0⟩ := hp 1 (by decide)
    have t7 : ac.tmps[7]? = some (.slice x1_1 r c1_1) := (List.cons.inj e1).1
    have e3 := hp 3 (by decide)
    have t9 : ac.tmps[9]? = some (.bool ch) := (List.cons.inj e3).1
    obtain ⟨x5_5, c5_5, e5, g5_0⟩ := hp 5 (by decide)
    have t11 : ac.tmps[11]? = some (.slice x5_5 tn c5_5) := (List.cons.inj e5).1
    clear hold hp hsz e1 e3 e5
    go_simp
    exact hK.out _ _ ⟨hB, Exists.intro x1_1 (Exists.intro c1_1 (Exists.intro x5_5 (Exists.intro c5_5 (And.intro rfl (And.intro g1_0 g5_0))))), Nat.le_refl _, .inl (Below.refl _ _), fun h => absurd h (by decide)⟩
  refine Stps2.cons (o := _) ?_ ?_
  · intro ac yw hsz hold hB hp K hK
    clear hold hp hsz
    have hk0 := hB.now.1.lt
    have hsl := Row.new yw 46 #[.slice none 0 0, .bool false, .slice none 0 0, .slice none 0 0]
    have hbz : Below yw.heap.size yw (yw.alloc (.cells #[.slice none 0 0, .bool false, .slice none 0 0, .slice none 0 0] 46)) ∧ yw.heap.size < (yw.alloc (.cells #[.slice none 0 0, .bool false, .slice none 0 0, .slice none 0 0] 46)).heap.size := ⟨(Below.refl _ _).alloc (Nat.le_refl _) _, by simp⟩
    go_simp
    exact hK.out _ _ ⟨hB.alloc _, Exists.intro yw.heap.size (And.intro rfl (And.intro hsl hk0)), Nat.le_of_lt hbz.2, .inl hbz.1, fun _ => ⟨_, rfl, Nat.le_refl _, hbz.2⟩⟩
  exact Stps2.nil _

end Go.Proofs.YtdnbpkbapmlfaaaGreatDoor
