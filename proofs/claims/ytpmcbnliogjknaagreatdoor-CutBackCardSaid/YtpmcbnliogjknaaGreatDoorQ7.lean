/-
  Texts of this seat, laid together.
-/
import Derived.Shelf.Abstract
import Derived.Lib.AppendZeros
import Derived.Laws.AppendOwnNone
import Derived.Laws.EntriesVeiled
import Derived.Test.YtpmcbnliogjknaaGreatDoorQ1
import Derived.Test.YtpmcbnliogjknaaGreatDoorQ2
import Derived.Test.YtpmcbnliogjknaaGreatDoorQ3
import Derived.Test.YtpmcbnliogjknaaGreatDoorQ4
import Derived.Test.YtpmcbnliogjknaaGreatDoorQ5
import Derived.Test.YtpmcbnliogjknaaGreatDoorQ6

namespace Go.Proofs.YtpmcbnliogjknaaGreatDoor
open Go.RowKit
/-- The numbers of a plain array, told. -/
def NumOk (fB : Nat → Bool) (fS fT : Nat → ByteArray) (fP : Nat → Int) (fQ : Nat → Nat) (n : Nat) : Prop :=
  ∀ j, j < n → fB j = rB (fP j) ∧ fS j = rS (fP j) ∧ fT j = str (dec (fQ j)) ∧ 0 < fQ j ∧ dl (fP j).natAbs ≤ 60 ∧ dl (fQ j) ≤ 60
theorem ofO_dl {b : Bool} {s t : ByteArray} (h : ofO b s t = true) (hs : s.size ≤ 60) (ht : t.size ≤ 60) : dl (ofP b s t).natAbs ≤ 60 ∧ dl (ofQ b s t) ≤ 60 := by
  obtain ⟨_, h2, h3, _, _⟩ := ofO_facts h
  constructor
  · have := congrArg ByteArray.size h2
    unfold rS at this
    rw [str_size, dec_length] at this
    omega
  · have := congrArg ByteArray.size h3
    rw [str_size, dec_length] at this
    omega
theorem ofO_num {fB : Nat → Bool} {fS fT : Nat → ByteArray} {n : Nat} (h : ∀ j, j < n → ofO (fB j) (fS j) (fT j) = true) (hs : Short fS fT n) : NumOk fB fS fT (fun j => ofP (fB j) (fS j) (fT j)) (fun j => ofQ (fB j) (fS j) (fT j)) n :=
  fun j hj => ⟨(ofO_facts (h j hj)).1.symm, (ofO_facts (h j hj)).2.1.symm, (ofO_facts (h j hj)).2.2.1.symm, (ofO_facts (h j hj)).2.2.2.1, ofO_dl (h j hj) (hs j hj).1 (hs j hj).2⟩
set_option maxHeartbeats 1600000 in
set_option maxRecDepth 100000 in
theorem r6Len_any (cs : Array Value) (S : Nat → Int) (r : Nat) (ch : Bool) (g : Nat → Int) (tn : Nat) (fB : Nat → Bool) (fS fT : Nat → ByteArray) (nn : Nat) (w : World) (h : PlnAt w cs S r ch g tn fB fS fT nn) (h1 : tn ≤ 1000000) (h2 : nn ≤ 1000000) :
    Calls Tryz.prog 85 #[.agg cs] w fun e w' => e = .returned (.int .i64 ((tn + nn : Nat) : Int)) ∧ Below w.heap.size w w' := by
  obtain ⟨sa, sc, ta, tc, na, nc, rfl, _, _, _⟩ := h
  have hw := IntWalk.i64_in ((tn : Int) + nn) (by omega)
  have HE : Hid ((tn : Int) + nn = ((tn + nn : Nat) : Int)) := by show _ = _; omega
  have HB : Hid (Below w.heap.size w (w.alloc (.cells (plC sa r sc ch ta tn tc na nn nc) 26))) := (Below.refl _ _).alloc (Nat.le_refl _) _
  unfold plC at HB
  unfold plC
  go_enter Tryz.func85, Tryz.ntmps85
  go_wp2
  go_ret
  exact ⟨ret_int HE.out, HB.out⟩
/-- Three cells in a row. -/
def Cell3 (w : World) (b o : Nat) (x y z : Value) : Prop := b < w.heap.size ∧ w.cell? ⟨b, o, none⟩ = some x ∧ w.cell? ⟨b, o + 1, none⟩ = some y ∧ w.cell? ⟨b, o + 2, none⟩ = some z
theorem Cell3.below {w w' : World} {b o : Nat} {x y z : Value} (h : Cell3 w b o x y z) (hb : Below w.heap.size w w') : Cell3 w' b o x y z :=
  ⟨Nat.lt_of_lt_of_le h.1 hb.size, (hb.cell (p := ⟨b, _, none⟩) h.1).trans h.2.1, (hb.cell (p := ⟨b, _, none⟩) h.1).trans h.2.2.1, (hb.cell (p := ⟨b, _, none⟩) h.1).trans h.2.2.2⟩
set_option maxHeartbeats 3200000 in
set_option maxRecDepth 100000 in
theorem r6Whole_any (cs : Array Value) (S : Nat → Int) (r : Nat) (ch : Bool) (g : Nat → Int) (tn : Nat) (fB : Nat → Bool) (fS fT : Nat → ByteArray) (nn : Nat) (fP : Nat → Int) (fQ : Nat → Nat) (w : World) (h : PlnAt w cs S r ch g tn fB fS fT nn) (hN : NumOk fB fS fT fP fQ nn) (hn : nn ≤ 1000000) :
    Calls Tryz.prog 53 #[.agg cs] w fun e w' => WhTold (decide (tn = 0) && whB fP fQ nn) nn fP w w' e := by
  obtain ⟨sa, sc, ta, tc, na, nc, rfl, h1, h2, h3⟩ := h
  have hl := h3.len
  have hl2 := h2.len
  obtain ⟨i0, hi, hz0, hz1, hz2⟩ := info_parts infoI
  have BB := Lib.hid (((Bag.start w).qrow h3).newRow (plC sa r sc ch ta tn tc na nn nc) 26)
  have IN : Hid (∀ j, j < nn → ∀ wz, Calls Tryz.prog 84 #[.agg #[.bool (fB j), .string (fS j), .string (fT j)]] wz fun e w' => e = .returned (.tuple #[.int .i64 (if fQ j = 1 then fitI (fP j) else 0), .bool (decide (fQ j = 1) && fitB (fP j))]) ∧ Below wz.heap.size wz w') := fun j hj wz => by
    obtain ⟨e1, e2, e3, _, e4, e5⟩ := hN j hj
    rw [e1, e2, e3]
    exact r3Int_any (fP j) (fQ j) wz (by omega)
  by_cases h0 : tn = 0
  · rw [decide_eq_true h0, Bool.true_and]
    have d0 : ¬ ((0 : Int) < tn) := by omega
    unfold plC at BB
    unfold plC
    have H0 := Lib.hid BB.out.below
    clear h1 h2 h3 hN h0
    go_enter Tryz.func53, Tryz.ntmps53
    go_wp2_with fail
    generalize w.alloc (.cells #[.slice sa r sc, .bool ch, .slice ta tn tc, .slice na nn nc] 26) = y0 at *
    go_loopw [4, 5] (fun v i wr => ∃ (k : Nat) (a1 : Option Addr) (c1 : Nat), k ≤ nn ∧ i = .int .i64 k ∧ v = .slice a1 k c1 ∧ Hid (Below y0.heap.size y0 wr ∧ wr.ownsRow y0.heap.size 3 1 (.slice a1 k c1) k (kcs .i64 fP k) ∧ whB fP fQ k = true)) (fun _ i _ => nn - (intOf i).toNat)
    case atStart => exact ⟨0, none, 0, by omega, rfl, rfl, Below.refl _ _, World.ownsRow_nil _ _ _ _, rfl⟩
    case round =>
      obtain ⟨k, a1, c1, hk, rfl, rfl, hrel⟩ := hrel
      obtain ⟨hbl, hown, hwh⟩ := hrel.out
      have B4 := Lib.hid (BB.out.go hbl)
      obtain ⟨x0, x1, x2, x3⟩ := pl_cells B4.out.now.1
      by_cases hlt : k < nn
      · obtain ⟨b, off, rfl, hb, c1', c2', c3'⟩ := B4.out.now.2.1.get hlt
        have IK := Lib.hid (IN.out k hlt)
        have HBL := Lib.hid hbl
        have HWH := Lib.hid hwh
        have HOWN := Lib.hid hown
        have hwr := hbl.size
        clear hbl hown hwh
        by_cases hok : (decide (fQ k = 1) && fitB (fP k)) = true
        · have hv : (if fQ k = 1 then fitI (fP k) else 0) = fP k := by
            rw [Bool.and_eq_true, decide_eq_true_eq] at hok
            rw [if_pos hok.1]; unfold fitI; rw [if_pos hok.2]
          have HW2 : Hid (whB fP fQ (k + 1) = true) := by show (whB fP fQ k && _) = true; rw [HWH.out, hok]; rfl
          have HMX := Lib.hid (show k + 1 ≤ maxLen by unfold maxLen; omega)
          have HMY := Lib.hid (show (k + 1) * 8 ≤ 140737488355328 by omega)
          have HK2 : Hid (kcs .i64 fP (k + 1) = kcs .i64 fP k ++ [.int .i64 (fP k)]) := rfl
          rw [hok, hv] at IK
          clear hok hv
          generalize fB k = u1 at *
          generalize fS k = u2 at *
          generalize fT k = u3 at *
          generalize hx : fP k = x at *
          clear hx
          go_wp2_with fail
          go_at_call 84
          (with_reducible refine (IK.out _).mono ?_)
          rintro e w4 ⟨rfl, hb4⟩
          have HO2 := Lib.hid (own_below (own_below HOWN.out hb4) ((Below.refl _ _).alloc (Nat.le_refl _) (.cells #[.int .i64 x] 3)))
          have HNEW := Lib.hid (World.news_of_block (Row.new w4 3 #[.int .i64 x]))
          have HBA : Hid (y0.heap.size ≤ (w4.alloc (.cells #[.int .i64 x] 3)).heap.size) := Lib.hid (by have := HBL.out.size; have := hb4.size; rw [World.size_alloc]; omega)
          have HB2 := Lib.hid ((HBL.out.trans (hb4.mono hwr)).trans ((Below.refl _ _).alloc (by have := HBL.out.size; have := hb4.size; omega) (.cells #[.int .i64 x] 3)))
          clear hb4
          go_wp2_with (at_builtin; refine wpList_append_lies _ rfl (.tmp 30) (.tmp 32) 22 rfl y0.heap.size 3 i0 _ 1 8 Tryz.underlying22 hi hz0 hz1 hz2 rfl (by omega) (.slice a1 k c1) k _ rfl HO2.out ⟨w4.heap.size, 0, none⟩ 1 1 [.int .i64 x] rfl rfl HNEW.out ?q1 (by omega) HMX.out HMY.out HBA.out _ rfl ?_)
          case q1 => intro u hu; simp at hu; subst hu; rfl
          intro g9 cap9 w5 hown5 hgrow _ _
          have HN2 : Hid (Below y0.heap.size y0 w5 ∧ w5.ownsRow y0.heap.size 3 1 (.slice (some ⟨g9, 0, none⟩) (k + 1) cap9) (k + 1) (kcs .i64 fP (k + 1)) ∧ whB fP fQ (k + 1) = true) :=
            Lib.hid ⟨HB2.out.trans ⟨hgrow.os, hgrow.tape, hgrow.output, hgrow.size, fun j hj => hgrow.block j (Nat.lt_of_lt_of_le hj HB2.out.size) (fun e => by have := (HO2.out.lt j e.symm).1; omega)⟩, by rw [HK2.out]; exact hown5, HW2.out⟩
          clear hown5 hgrow
          go_wp2
          go_roundw
          case rel => exact ⟨k + 1, _, cap9, by omega, by go_num, rfl, HN2.out⟩
          case measure => simp [intOf]; omega
        · rw [Bool.not_eq_true] at hok
          have hno : whB fP fQ nn = false := by
            cases hx : whB fP fQ nn with
            | false => rfl
            | true =>
              have := whB_le (k := k + 1) (by omega) hx
              unfold whB at this
              rw [hok, Bool.and_false] at this
              exact this.symm
          have HNO := Lib.hid hno
          rw [hok] at IK
          clear hok hno
          generalize (if fQ k = 1 then fitI (fP k) else 0) = x at *
          generalize fB k = u1 at *
          generalize fS k = u2 at *
          generalize fT k = u3 at *
          go_wp2_with fail
          go_at_call 84
          (with_reducible refine (IK.out _).mono ?_)
          rintro e w4 ⟨rfl, hb4⟩
          have HE : Hid (WhTold (whB fP fQ nn) nn fP w w4 (.returned (.tuple #[.slice none 0 0, .bool false]))) := Lib.hid (by
            rw [HNO.out]
            exact ⟨_, _, _, rfl, by rw [if_neg (by decide)]; exact ⟨rfl, rfl, rfl⟩, (B4.out.go hb4).below⟩)
          clear hb4
          go_wp2
          go_ret2
          exact HE.out
      · obtain rfl : k = nn := by omega
        obtain ⟨a9, c9, he, hq⟩ := KRow.of_own hown
        injection he with he1 _ he2
        subst he1 he2
        have HE : Hid (WhTold (whB fP fQ k) k fP w wr (.returned (.tuple #[.slice a1 k c1, .bool true]))) := Lib.hid (by
          rw [hwh]
          exact ⟨_, _, _, rfl, by rw [if_pos rfl]; exact ⟨rfl, hq⟩, B4.out.below⟩)
        clear hbl hown hwh hq
        go_wp2
        go_ret2
        exact HE.out
  · rw [decide_eq_false h0, Bool.false_and]
    have d1 : (0 : Int) < tn := by omega
    have HE : Hid (WhTold false nn fP w (w.alloc (.cells (plC sa r sc ch ta tn tc na nn nc) 26)) (.returned (.tuple #[.slice none 0 0, .bool false]))) := Lib.hid
      ⟨_, _, _, rfl, by rw [if_neg (by decide)]; exact ⟨rfl, rfl, rfl⟩, BB.out.below⟩
    unfold plC at HE
    unfold plC
    clear h1 h2 h3 hN h0
    go_enter Tryz.func53, Tryz.ntmps53
    go_wp2
    go_ret2
    exact HE.out
end Go.Proofs.YtpmcbnliogjknaaGreatDoor

namespace Go.Proofs.YtpmcbnliogjknaaGreatDoor
open Go.RowKit
/-- One element more in the row of characters that a plain array holds. -/
theorem pt_step {w y0 wr w2 : World} {P : Nat} {sa : Option Addr} {sn sc : Nat} {ch : Bool} {na : Option Addr} {nn nc : Nat} {a : Option Addr} {k c : Nat} {ki : IntKind} {f : Nat → Int} {T E : TypeId} (hbl : Below w.heap.size w wr) (hf : Far P y0 wr) (hb : Below wr.heap.size wr w2)
    (hr : Row w2 P T (plC sa sn sc ch a k c na nn nc)) (ho : w2.ownsRow y0.heap.size E 1 (.slice a k c) k (kcs ki f k)) (hne : E ≠ T) (hP : w.heap.size ≤ P) (hy : w.heap.size ≤ y0.heap.size) :
    ∀ (g cap : Nat) (w3 : World) (x : Int), x = f k → w3.ownsRow y0.heap.size E 1 (.slice (some ⟨g, 0, none⟩) (k + 1) cap) (k + 1) (kcs ki f k ++ [.int ki x]) → w2.grownBy w3 (Value.slice a k c).ownBlock →
    Below w.heap.size w (w3.setCell ⟨P, 2, none⟩ (.slice (some ⟨g, 0, none⟩) (k + 1) cap)) ∧ Far P y0 (w3.setCell ⟨P, 2, none⟩ (.slice (some ⟨g, 0, none⟩) (k + 1) cap)) ∧ Row (w3.setCell ⟨P, 2, none⟩ (.slice (some ⟨g, 0, none⟩) (k + 1) cap)) P T (plC sa sn sc ch (some ⟨g, 0, none⟩) (k + 1) cap na nn nc)
      ∧ (w3.setCell ⟨P, 2, none⟩ (.slice (some ⟨g, 0, none⟩) (k + 1) cap)).ownsRow y0.heap.size E 1 (.slice (some ⟨g, 0, none⟩) (k + 1) cap) (k + 1) (kcs ki f (k + 1)) := by
  intro g cap w3 x hx ho3 hg
  subst hx
  have hlt := ho.lt
  have hr3 := hr.grown hg (hr.apart ho hne)
  have hb2 : Below w.heap.size w w2 := hbl.trans (hb.mono hbl.size)
  have hb3 : Below w.heap.size w w3 := hb2.trans ⟨hg.os, hg.tape, hg.output, hg.size, fun j hj => hg.block j (Nat.lt_of_lt_of_le hj hb2.size) (fun e => by have := (hlt j e.symm).1; omega)⟩
  refine ⟨hb3.setCell (p := ⟨P, 2, none⟩) hP _, ((hf.trans (Far.of_below hb)).of_grown hg (fun x hx => (hlt x hx).1)).trans (Far.setCell _ _ _ _), hr3.set 2 _, own_setCell ho3 _ _ _ (hr3.apart ho3 hne)⟩
/-- A number's parts at a place, or nought's. -/
def elB (n : Nat) (fB : Nat → Bool) (i : Int) : Bool := if 0 ≤ i ∧ i < n then fB i.toNat else rB 0
def elS (n : Nat) (fS : Nat → ByteArray) (z : ByteArray) (i : Int) : ByteArray := if 0 ≤ i ∧ i < n then fS i.toNat else z
set_option linter.unusedSimpArgs false in
set_option maxHeartbeats 6400000 in
set_option maxRecDepth 100000 in
theorem r6PickC_any (cs : Array Value) (S : Nat → Int) (r : Nat) (g : Nat → Int) (tn : Nat) (fB : Nat → Bool) (fS fT : Nat → ByteArray) (s1 : Option Addr) (r' c1 : Nat) (S' : Nat → Int) (t1 : Option Addr) (m d1 : Nat) (at' : Nat → Int) (w : World) (h : PlnAt w cs S r true g tn fB fS fT 0) (hs : KRow w .i64 s1 r' c1 S') (ht : KRow w .i64 t1 m d1 at') (hm : m ≤ 1000000) (hL : tn ≤ 1000000) :
    Calls Tryz.prog 57 #[.agg cs, .slice s1 r' c1, .slice t1 m d1] w fun e w' => ∀ fB' fS' fT', PlnTold S' r' true (fun j => elC tn g 32 (at' j)) m fB' fS' fT' 0 w w' e := by
  have LN := Lib.hid (fun wz cs p => r6Len_any cs S r true g tn fB fS fT 0 wz p (by omega) (by omega))
  obtain ⟨sa, sc, ta, tc, na, nc, rfl, h1, h2, h3⟩ := h
  have hl := ht.len
  obtain ⟨i0, hi, hz0, hz1, hz2⟩ := info_parts infoC
  have BB := Lib.hid ((((((((Bag.start w).krow h1).krow h2).qrow h3).krow hs).krow ht).newRow (plC sa r sc true ta tn tc na 0 nc) 26).newRow plZer 26 |>.newRow (plC s1 r' c1 true none 0 0 none 0 0) 26)
  simp only [World.size_alloc] at BB
  have LN := Lib.hid (fun wz a b c => LN.out wz (plC sa r sc true ta tn tc na 0 nc) ⟨sa, sc, ta, tc, na, nc, rfl, a, b, c⟩)
  have eL : ((tn + 0 : Nat) : Int) = (tn : Int) := by omega
  rw [eL] at LN
  have hni := noInt_pl s1 r' c1 true none 0 0 none 0 0
  have hns := noStr_pl s1 r' c1 true none 0 0 none 0 0
  have K1 := BB.out.now.2.2.2.2.2.2.2.1
  have K2 := BB.out.now.2.2.2.2.2.2.1
  have K3 := BB.out.now.2.2.2.2.2.1
  have K4 := BB.out.now.2.2.2.2.1
  have K5 := BB.out.now.2.2.2.1
  have KEEP : Hid (∀ wr, Far (w.heap.size + 1 + 1) (((w.alloc (.cells (plC sa r sc true ta tn tc na 0 nc) 26)).alloc (.cells plZer 26)).alloc (.cells (plC s1 r' c1 true none 0 0 none 0 0) 26)) wr →
      KRow wr .i64 sa r sc S ∧ KRow wr .i32 ta tn tc g ∧ QRow wr na 0 nc fB fS fT ∧ KRow wr .i64 s1 r' c1 S' ∧ KRow wr .i64 t1 m d1 at' ∧ Row wr w.heap.size 26 (plC sa r sc true ta tn tc na 0 nc) ∧ Row wr (w.heap.size + 1) 26 plZer) := Lib.hid fun wr hf =>
    ⟨K1.away (K1.apart BB.out.now.1 hni) hf, K2.away (K2.apart BB.out.now.1 hni) hf, K3.away (K3.apart BB.out.now.1 hns) hf, K4.away (K4.apart BB.out.now.1 hni) hf, K5.away (K5.apart BB.out.now.1 hni) hf,
      (hf.block _ (by omega) BB.out.now.2.2.1.lt).trans BB.out.now.2.2.1, (hf.block _ (by omega) BB.out.now.2.1.lt).trans BB.out.now.2.1⟩
  have hsz := BB.out.now.1.lt
  unfold plZer plC at BB KEEP
  unfold plC at LN
  unfold plC
  clear h1 h2 h3 hs ht K1 K2 K3 K4 K5 eL hni hns
  go_enter Tryz.func57, Tryz.ntmps57
  go_wp2_with fail
  generalize ((w.alloc (.cells #[.slice sa r sc, .bool true, .slice ta tn tc, .slice na 0 nc] 26)).alloc (.cells #[.slice none 0 0, .bool false, .slice none 0 0, .slice none 0 0] 26)).alloc (.cells #[.slice s1 r' c1, .bool true, .slice none 0 0, .slice none 0 0] 26) = y0 at *
  go_loopw [8] (fun i wr => ∃ (k : Nat) (a1 : Option Addr) (ak : Nat), k ≤ m ∧ i = .int .i64 k ∧ Hid (Below w.heap.size w wr ∧ Far (w.heap.size + 1 + 1) y0 wr ∧ Row wr (w.heap.size + 1 + 1) 26 (plC s1 r' c1 true a1 k ak none 0 0) ∧ wr.ownsRow y0.heap.size 21 1 (.slice a1 k ak) k (kcs .i32 (fun j => elC tn g 32 (at' j)) k))) (fun i _ => m - (intOf i).toNat)
  case atStart => exact ⟨0, none, 0, by omega, rfl, BB.out.below, Far.refl _ _, BB.out.now.1, World.ownsRow_nil _ _ _ _⟩
  case round =>
    obtain ⟨k, a1, ak, hk, rfl, hrel⟩ := hrel
    obtain ⟨hbl, hfar, hrp, hown⟩ := hrel.out
    obtain ⟨k1, k2, k3, k4, k5, r0, r1⟩ := KEEP.out wr hfar
    by_cases hlt : k < m
    · obtain ⟨b, off, rfl, hb, hc⟩ := k5.get hlt
      have B1 := Lib.hid ((((((Bag.start wr).krow k1).krow k2).qrow k3).own hown).row hrp |>.row r0)
      have HBL := Lib.hid hbl
      have HF := Lib.hid hfar
      have q3 : wr.cell? ⟨w.heap.size + 1 + 1, 2, none⟩ = some (.slice a1 k ak) := hrp.cell 2
      have p0 : wr.cell? ⟨w.heap.size, 0, none⟩ = some (.slice sa r sc) := r0.cell 0
      have p1 : wr.cell? ⟨w.heap.size, 1, none⟩ = some (.bool true) := r0.cell 1
      have p2 : wr.cell? ⟨w.heap.size, 2, none⟩ = some (.slice ta tn tc) := r0.cell 2
      have p3 : wr.cell? ⟨w.heap.size, 3, none⟩ = some (.slice na 0 nc) := r0.cell 3
      have HMX := Lib.hid (show k + 1 ≤ maxLen by unfold maxLen; omega)
      have HMY := Lib.hid (show (k + 1) * 4 ≤ 140737488355328 by omega)
      have hk0 : (0 : Int) ≤ k := by omega
      have hk1 : (k : Int) < m := by omega
      have hk2 : (k : Int) ≤ m := by omega
      clear hbl hfar hrp hown k1 k2 k3 k4 k5 r0 r1
      by_cases hin : 0 ≤ at' k ∧ at' k < tn
      · obtain ⟨h0, h1⟩ := hin
        obtain ⟨q, hq⟩ : ∃ q : Nat, at' k = q := ⟨(at' k).toNat, by omega⟩
        have hqn : q < tn := by omega
        have HV := Lib.hid (show g q = elC tn g 32 (at' k) by unfold elC; rw [if_pos ⟨h0, h1⟩, hq]; rfl)
        obtain ⟨b2, off2, rfl, hbb2, hcc⟩ := B1.out.now.2.2.2.2.1.get hqn
        rw [hq] at hc h0 h1
        clear hq
        have hq0 : (q : Int) < tn := by omega
        generalize g q = y at *
        go_wp2_with fail
        go_at_call 85
        (with_reducible refine (LN.out _ B1.out.now.2.2.2.2.2.1 B1.out.now.2.2.2.2.1 B1.out.now.2.2.2.1).mono ?_)
        rintro e w2 ⟨rfl, hb2⟩
        have B2 := Lib.hid (B1.out.go hb2)
        have HB2 := Lib.hid hb2
        clear hb2 q3 p0 p1 p2 p3
        have q3 : w2.cell? ⟨w.heap.size + 1 + 1, 2, none⟩ = some (.slice a1 k ak) := B2.out.now.2.1.cell 2
        have p1 : w2.cell? ⟨w.heap.size, 1, none⟩ = some (.bool true) := B2.out.now.1.cell 1
        have p2 : w2.cell? ⟨w.heap.size, 2, none⟩ = some (.slice (some ⟨b2, off2, none⟩) tn tc) := B2.out.now.1.cell 2
        have p3 : w2.cell? ⟨w.heap.size, 3, none⟩ = some (.slice na 0 nc) := B2.out.now.1.cell 3
        have hcc2 : w2.cell? ⟨b2, off2 + q, none⟩ = some (.int .i32 y) := (HB2.out.cell (p := ⟨b2, _, none⟩) hbb2).trans hcc
        have HONE := Lib.hid (show ∀ u ∈ ([.int .i32 y] : List Value), u.oneCell' = true by intro u hu; simp at hu; subst hu; rfl)
        have B3 := Lib.hid ((B2.out.newRow #[.int .i32 y] 21).drew)
        have qp3 : (w2.alloc (.cells #[.int .i32 y] 21)).cell? ⟨w.heap.size + 1 + 1, 2, none⟩ = some (.slice a1 k ak) := B3.out.now.2.2.1.cell 2
        have HROW := Lib.hid B3.out.now.2.2.1
        have HOWN := Lib.hid B3.out.now.2.2.2.1
        have HNEW := Lib.hid (World.news_of_block B3.out.now.1)
        have HBA := Lib.hid (Nat.le_trans HF.out.size B3.out.below.size)
        have HNX := Lib.hid (pt_step HBL.out HF.out B3.out.below HROW.out HOWN.out (by decide) (by omega) BB.out.below.size)
        clear hcc
        go_wp2_with fail
        go_region_law (refine step_append_lies _ rfl (.tmp 39) (.tmp 45) 23 rfl y0.heap.size 21 i0 _ 1 4 Tryz.underlying23 hi hz0 hz1 hz2 rfl (by omega) (.slice a1 k ak) k _ rfl HOWN.out ⟨w2.heap.size, 0, none⟩ 1 1 [.int .i32 y] rfl rfl HNEW.out HONE.out (by omega) HMX.out HMY.out HBA.out _ rfl ?_; intro g9 cap9 w3 hown3 hgrow hor hlt3; have hr3 := HROW.out.grown hgrow (HROW.out.apart HOWN.out (by decide)); have qp : w3.cell? ⟨w.heap.size + 1 + 1, 2, none⟩ = some (.slice a1 k ak) := hr3.cell 2; have fp := hr3.free 2; have HN := Lib.hid (HNX.out g9 cap9 w3 _ HV.out hown3 hgrow); clear hown3 hgrow hor hlt3 hr3)
        all_goals
          go_wp2
          go_roundw
          case rel => exact ⟨k + 1, _, cap9, by omega, by go_num, HN.out⟩
          case measure => simp [intOf]; omega
      · have HV := Lib.hid (show (32 : Int) = elC tn g 32 (at' k) by unfold elC; rw [if_neg hin])
        obtain ⟨x, hx⟩ : ∃ x, at' k = x := ⟨_, rfl⟩
        rw [hx] at hc hin
        clear hx
        by_cases h0 : 0 ≤ x
        · have h1 : ¬ x < (tn : Int) := by omega
          clear hin
          go_wp2_with fail
          go_at_call 85
          (with_reducible refine (LN.out _ B1.out.now.2.2.2.2.2.1 B1.out.now.2.2.2.2.1 B1.out.now.2.2.2.1).mono ?_)
          rintro e w2 ⟨rfl, hb2⟩
          have B2 := Lib.hid (B1.out.go hb2)
          have HB2 := Lib.hid hb2
          clear hb2 q3 p0 p1 p2 p3
          have q3 : w2.cell? ⟨w.heap.size + 1 + 1, 2, none⟩ = some (.slice a1 k ak) := B2.out.now.2.1.cell 2
          have p1 : w2.cell? ⟨w.heap.size, 1, none⟩ = some (.bool true) := B2.out.now.1.cell 1
          have p2 : w2.cell? ⟨w.heap.size, 2, none⟩ = some (.slice ta tn tc) := B2.out.now.1.cell 2
          have p3 : w2.cell? ⟨w.heap.size, 3, none⟩ = some (.slice na 0 nc) := B2.out.now.1.cell 3
          have HONE := Lib.hid (show ∀ u ∈ ([.int .i32 32] : List Value), u.oneCell' = true by intro u hu; simp at hu; subst hu; rfl)
          have B3 := Lib.hid ((B2.out.newRow #[.int .i32 32] 21))
          have qp3 : (w2.alloc (.cells #[.int .i32 32] 21)).cell? ⟨w.heap.size + 1 + 1, 2, none⟩ = some (.slice a1 k ak) := B3.out.now.2.2.1.cell 2
          have HROW := Lib.hid B3.out.now.2.2.1
          have HOWN := Lib.hid B3.out.now.2.2.2.1
          have HNEW := Lib.hid (World.news_of_block B3.out.now.1)
          have HBA := Lib.hid (Nat.le_trans HF.out.size B3.out.below.size)
          have HNX := Lib.hid (pt_step HBL.out HF.out B3.out.below HROW.out HOWN.out (by decide) (by omega) BB.out.below.size)
          go_wp2_with (at_builtin; refine wpList_append_lies _ rfl (.tmp 51) (.tmp 52) 23 rfl y0.heap.size 21 i0 _ 1 4 Tryz.underlying23 hi hz0 hz1 hz2 rfl (by omega) (.slice a1 k ak) k _ rfl HOWN.out ⟨w2.heap.size, 0, none⟩ 1 1 [.int .i32 32] rfl rfl HNEW.out HONE.out (by omega) HMX.out HMY.out HBA.out _ rfl ?_)
          intro g9 cap9 w3 hown3 hgrow hor hlt3
          have hr3 := HROW.out.grown hgrow (HROW.out.apart HOWN.out (by decide)); have qp : w3.cell? ⟨w.heap.size + 1 + 1, 2, none⟩ = some (.slice a1 k ak) := hr3.cell 2; have fp := hr3.free 2; have HN := Lib.hid (HNX.out g9 cap9 w3 _ HV.out hown3 hgrow); clear hown3 hgrow hor hlt3 hr3
          go_wp2
          go_roundw
          case rel => exact ⟨k + 1, _, cap9, by omega, by go_num, HN.out⟩
          case measure => simp [intOf]; omega
        · clear hin
          have HONE := Lib.hid (show ∀ u ∈ ([.int .i32 32] : List Value), u.oneCell' = true by intro u hu; simp at hu; subst hu; rfl)
          have B3 := Lib.hid ((B1.out.newRow #[.int .i32 32] 21))
          have qp3 : (wr.alloc (.cells #[.int .i32 32] 21)).cell? ⟨w.heap.size + 1 + 1, 2, none⟩ = some (.slice a1 k ak) := B3.out.now.2.2.1.cell 2
          have HROW := Lib.hid B3.out.now.2.2.1
          have HOWN := Lib.hid B3.out.now.2.2.2.1
          have HNEW := Lib.hid (World.news_of_block B3.out.now.1)
          have HBA := Lib.hid (Nat.le_trans HF.out.size B3.out.below.size)
          have HNX := Lib.hid (pt_step HBL.out HF.out B3.out.below HROW.out HOWN.out (by decide) (by omega) BB.out.below.size)
          go_wp2_with (at_builtin; refine wpList_append_lies _ rfl (.tmp 51) (.tmp 52) 23 rfl y0.heap.size 21 i0 _ 1 4 Tryz.underlying23 hi hz0 hz1 hz2 rfl (by omega) (.slice a1 k ak) k _ rfl HOWN.out ⟨wr.heap.size, 0, none⟩ 1 1 [.int .i32 32] rfl rfl HNEW.out HONE.out (by omega) HMX.out HMY.out HBA.out _ rfl ?_)
          intro g9 cap9 w3 hown3 hgrow hor hlt3
          have hr3 := HROW.out.grown hgrow (HROW.out.apart HOWN.out (by decide)); have qp : w3.cell? ⟨w.heap.size + 1 + 1, 2, none⟩ = some (.slice a1 k ak) := hr3.cell 2; have fp := hr3.free 2; have HN := Lib.hid (HNX.out g9 cap9 w3 _ HV.out hown3 hgrow); clear hown3 hgrow hor hlt3 hr3
          go_wp2
          go_roundw
          case rel => exact ⟨k + 1, _, cap9, by omega, by go_num, HN.out⟩
          case measure => simp [intOf]; omega
    · obtain rfl : k = m := by omega
      obtain ⟨a9, c9, he, hq⟩ := KRow.of_own hown
      injection he with he1 _ he2
      subst he1 he2
      have HE : Hid (∀ fB' fS' fT', PlnTold S' r' true (fun j => elC tn g 32 (at' j)) k fB' fS' fT' 0 w (wr.setRow (w.heap.size + 1) (plC s1 r' c1 true a1 k ak none 0 0)) (.returned (.agg (plC s1 r' c1 true a1 k ak none 0 0)))) :=
        Lib.hid fun fB' fS' fT' => ans_pln ⟨_, _, _, _, _, _, rfl, k4, hq, QRow.nought _ _ _ (Nat.zero_le _) _ _ _⟩ hbl r1 (Nat.le_succ _)
      have HR0 := Lib.hid r1
      have HRP := Lib.hid hrp
      clear hbl hfar hrp hown k1 k2 k3 k4 k5 r0 r1 hq
      go_wp2_with (first
        | (refine ld_pln rfl (.tmp 7) rfl (w.heap.size + 1 + 1) rfl HRP.out ?_)
        | (refine st_pln rfl (.tmp 6) (.tmp 72) rfl (w.heap.size + 1) rfl _ _ _ _ _ _ _ _ _ _ rfl HR0.out rfl ?_))
      exact bodyPost_ret (res_pln Tryz.results57 rfl (HR0.out.put _) rfl) rfl HE.out
set_option linter.unusedSimpArgs false in
set_option maxHeartbeats 6400000 in
set_option maxRecDepth 100000 in
theorem r6PickN_any (cs : Array Value) (S : Nat → Int) (r : Nat) (g : Nat → Int) (nn : Nat) (fB : Nat → Bool) (fS fT : Nat → ByteArray) (s1 : Option Addr) (r' c1 : Nat) (S' : Nat → Int) (t1 : Option Addr) (m d1 : Nat) (at' : Nat → Int) (w : World) (h : PlnAt w cs S r false g 0 fB fS fT nn) (hs : KRow w .i64 s1 r' c1 S') (ht : KRow w .i64 t1 m d1 at') (hm : m ≤ 1000000) (hL : nn ≤ 1000000) :
    Calls Tryz.prog 57 #[.agg cs, .slice s1 r' c1, .slice t1 m d1] w fun e w' => ∀ g', PlnTold S' r' false g' 0 (fun j => elB nn fB (at' j)) (fun j => elS nn fS (rS 0) (at' j)) (fun j => elS nn fT (str (dec 1)) (at' j)) m w w' e := by
  have LN := Lib.hid (fun wz cs p => r6Len_any cs S r false g 0 fB fS fT nn wz p (by omega) (by omega))
  obtain ⟨sa, sc, ta, tc, na, nc, rfl, h1, h2, h3⟩ := h
  have hl := ht.len
  obtain ⟨i0, hi, hz0, hz1, hz2⟩ := info_parts infoN
  have BB := Lib.hid ((((((((Bag.start w).krow h1).krow h2).qrow h3).krow hs).krow ht).newRow (plC sa r sc false ta 0 tc na nn nc) 26).newRow plZer 26 |>.newRow (plC s1 r' c1 false none 0 0 none 0 0) 26)
  simp only [World.size_alloc] at BB
  have LN := Lib.hid (fun wz a b c => LN.out wz (plC sa r sc false ta 0 tc na nn nc) ⟨sa, sc, ta, tc, na, nc, rfl, a, b, c⟩)
  have eL : ((0 + nn : Nat) : Int) = (nn : Int) := by omega
  rw [eL] at LN
  have hni := noInt_pl s1 r' c1 false none 0 0 none 0 0
  have hns := noStr_pl s1 r' c1 false none 0 0 none 0 0
  have K1 := BB.out.now.2.2.2.2.2.2.2.1
  have K2 := BB.out.now.2.2.2.2.2.2.1
  have K3 := BB.out.now.2.2.2.2.2.1
  have K4 := BB.out.now.2.2.2.2.1
  have K5 := BB.out.now.2.2.2.1
  have KEEP : Hid (∀ wr, Far (w.heap.size + 1 + 1) (((w.alloc (.cells (plC sa r sc false ta 0 tc na nn nc) 26)).alloc (.cells plZer 26)).alloc (.cells (plC s1 r' c1 false none 0 0 none 0 0) 26)) wr →
      KRow wr .i64 sa r sc S ∧ KRow wr .i32 ta 0 tc g ∧ QRow wr na nn nc fB fS fT ∧ KRow wr .i64 s1 r' c1 S' ∧ KRow wr .i64 t1 m d1 at' ∧ Row wr w.heap.size 26 (plC sa r sc false ta 0 tc na nn nc) ∧ Row wr (w.heap.size + 1) 26 plZer) := Lib.hid fun wr hf =>
    ⟨K1.away (K1.apart BB.out.now.1 hni) hf, K2.away (K2.apart BB.out.now.1 hni) hf, K3.away (K3.apart BB.out.now.1 hns) hf, K4.away (K4.apart BB.out.now.1 hni) hf, K5.away (K5.apart BB.out.now.1 hni) hf,
      (hf.block _ (by omega) BB.out.now.2.2.1.lt).trans BB.out.now.2.2.1, (hf.block _ (by omega) BB.out.now.2.1.lt).trans BB.out.now.2.1⟩
  have hsz := BB.out.now.1.lt
  unfold plZer plC at BB KEEP
  unfold plC at LN
  unfold plC
  clear h1 h2 h3 hs ht K1 K2 K3 K4 K5 eL hni hns
  go_enter Tryz.func57, Tryz.ntmps57
  go_wp2_with fail
  generalize ((w.alloc (.cells #[.slice sa r sc, .bool false, .slice ta 0 tc, .slice na nn nc] 26)).alloc (.cells #[.slice none 0 0, .bool false, .slice none 0 0, .slice none 0 0] 26)).alloc (.cells #[.slice s1 r' c1, .bool false, .slice none 0 0, .slice none 0 0] 26) = y0 at *
  go_loopw [8] (fun i wr => ∃ (k : Nat) (a1 : Option Addr) (ak : Nat), k ≤ m ∧ i = .int .i64 k ∧ Hid (Below w.heap.size w wr ∧ Far (w.heap.size + 1 + 1) y0 wr ∧ Row wr (w.heap.size + 1 + 1) 26 (plC s1 r' c1 false none 0 0 a1 k ak) ∧ wr.ownsRow y0.heap.size 82 3 (.slice a1 k ak) k (qcs (fun j => elB nn fB (at' j)) (fun j => elS nn fS (rS 0) (at' j)) (fun j => elS nn fT (str (dec 1)) (at' j)) k))) (fun i _ => m - (intOf i).toNat)
  case atStart => exact ⟨0, none, 0, by omega, rfl, BB.out.below, Far.refl _ _, BB.out.now.1, World.ownsRow_nil _ _ _ _⟩
  case round =>
    obtain ⟨k, a1, ak, hk, rfl, hrel⟩ := hrel
    obtain ⟨hbl, hfar, hrp, hown⟩ := hrel.out
    obtain ⟨k1, k2, k3, k4, k5, r0, r1⟩ := KEEP.out wr hfar
    by_cases hlt : k < m
    · obtain ⟨b, off, rfl, hb, hc⟩ := k5.get hlt
      have B1 := Lib.hid ((((((Bag.start wr).krow k1).krow k2).qrow k3).own hown).row hrp |>.row r0)
      have HBL := Lib.hid hbl
      have HF := Lib.hid hfar
      have q3 : wr.cell? ⟨w.heap.size + 1 + 1, 3, none⟩ = some (.slice a1 k ak) := hrp.cell 3
      have p0 : wr.cell? ⟨w.heap.size, 0, none⟩ = some (.slice sa r sc) := r0.cell 0
      have p1 : wr.cell? ⟨w.heap.size, 1, none⟩ = some (.bool false) := r0.cell 1
      have p2 : wr.cell? ⟨w.heap.size, 2, none⟩ = some (.slice ta 0 tc) := r0.cell 2
      have p3 : wr.cell? ⟨w.heap.size, 3, none⟩ = some (.slice na nn nc) := r0.cell 3
      have HMX := Lib.hid (show k + 1 ≤ maxLen by unfold maxLen; omega)
      have HMY := Lib.hid (show (k + 1) * 40 ≤ 140737488355328 by omega)
      have hk0 : (0 : Int) ≤ k := by omega
      have hk1 : (k : Int) < m := by omega
      have hk2 : (k : Int) ≤ m := by omega
      clear hbl hfar hrp hown k1 k2 k3 k4 k5 r0 r1
      by_cases hin : 0 ≤ at' k ∧ at' k < nn
      · obtain ⟨h0, h1⟩ := hin
        obtain ⟨q, hq⟩ : ∃ q : Nat, at' k = q := ⟨(at' k).toNat, by omega⟩
        have hqn : q < nn := by omega
        have HV := Lib.hid (show fB q = elB nn fB (at' k) ∧ fS q = elS nn fS (rS 0) (at' k) ∧ fT q = elS nn fT (str (dec 1)) (at' k) by unfold elB elS; rw [if_pos ⟨h0, h1⟩, if_pos ⟨h0, h1⟩, if_pos ⟨h0, h1⟩, hq]; exact ⟨rfl, rfl, rfl⟩)
        obtain ⟨b2, off2, rfl, hbb2, hcc, hcd, hce⟩ := B1.out.now.2.2.2.1.get hqn
        rw [hq] at hc h0 h1
        clear hq
        have hq0 : (q : Int) < nn := by omega
        generalize fB q = y1 at *
        generalize fS q = y2 at *
        generalize fT q = y3 at *
        go_wp2_with fail
        go_at_call 85
        (with_reducible refine (LN.out _ B1.out.now.2.2.2.2.2.1 B1.out.now.2.2.2.2.1 B1.out.now.2.2.2.1).mono ?_)
        rintro e w2 ⟨rfl, hb2⟩
        have B2 := Lib.hid (B1.out.go hb2)
        have HB2 := Lib.hid hb2
        clear hb2 q3 p0 p1 p2 p3
        have q3 : w2.cell? ⟨w.heap.size + 1 + 1, 3, none⟩ = some (.slice a1 k ak) := B2.out.now.2.1.cell 3
        have p1 : w2.cell? ⟨w.heap.size, 1, none⟩ = some (.bool false) := B2.out.now.1.cell 1
        have p2 : w2.cell? ⟨w.heap.size, 2, none⟩ = some (.slice ta 0 tc) := B2.out.now.1.cell 2
        have p3 : w2.cell? ⟨w.heap.size, 3, none⟩ = some (.slice (some ⟨b2, off2, none⟩) nn nc) := B2.out.now.1.cell 3
        have hcc2 : w2.cell? ⟨b2, off2 + q * 3, none⟩ = some (.bool y1) := (HB2.out.cell (p := ⟨b2, _, none⟩) hbb2).trans hcc
        have hcd2 : w2.cell? ⟨b2, off2 + q * 3 + 1, none⟩ = some (.string y2) := (HB2.out.cell (p := ⟨b2, _, none⟩) hbb2).trans hcd
        have hce2 : w2.cell? ⟨b2, off2 + q * 3 + 2, none⟩ = some (.string y3) := (HB2.out.cell (p := ⟨b2, _, none⟩) hbb2).trans hce
        have HONE := Lib.hid (show ∀ u ∈ ([.bool y1, .string y2, .string y3] : List Value), u.oneCell' = true by intro u hu; simp at hu; rcases hu with rfl | rfl | rfl <;> rfl)
        have B3 := Lib.hid ((B2.out.newRow #[.bool y1, .string y2, .string y3] 82).drew)
        have qp3 : (w2.alloc (.cells #[.bool y1, .string y2, .string y3] 82)).cell? ⟨w.heap.size + 1 + 1, 3, none⟩ = some (.slice a1 k ak) := B3.out.now.2.2.1.cell 3
        have HROW := Lib.hid B3.out.now.2.2.1
        have HOWN := Lib.hid B3.out.now.2.2.2.1
        have HNEW := Lib.hid (World.news_of_block B3.out.now.1)
        have HBA := Lib.hid (Nat.le_trans HF.out.size B3.out.below.size)
        have HNX := Lib.hid (pl_step HBL.out HF.out B3.out.below HROW.out HOWN.out (by decide) (by omega) BB.out.below.size)
        clear hcc hcd hce
        go_wp2_with fail
        go_region_law (refine step_append_lies _ rfl (.tmp 57) (.tmp 63) 24 rfl y0.heap.size 82 i0 _ 3 40 Tryz.underlying24 hi hz0 hz1 hz2 rfl (by omega) (.slice a1 k ak) k _ rfl HOWN.out ⟨w2.heap.size, 0, none⟩ 1 1 [.bool y1, .string y2, .string y3] rfl rfl HNEW.out HONE.out (by omega) HMX.out HMY.out HBA.out _ rfl ?_; intro g9 cap9 w3 hown3 hgrow hor hlt3; have hr3 := HROW.out.grown hgrow (HROW.out.apart HOWN.out (by decide)); have qp : w3.cell? ⟨w.heap.size + 1 + 1, 3, none⟩ = some (.slice a1 k ak) := hr3.cell 3; have fp := hr3.free 3; have HN := Lib.hid (HNX.out g9 cap9 w3 (by rw [← HV.out.1, ← HV.out.2.1, ← HV.out.2.2]; exact hown3) hgrow); clear hown3 hgrow hor hlt3 hr3)
        all_goals
          go_wp2
          go_roundw
          case rel => exact ⟨k + 1, _, cap9, by omega, by go_num, HN.out⟩
          case measure => simp [intOf]; omega
      · have HV := Lib.hid (show rB 0 = elB nn fB (at' k) ∧ rS 0 = elS nn fS (rS 0) (at' k) ∧ str (dec 1) = elS nn fT (str (dec 1)) (at' k) by unfold elB elS; rw [if_neg hin, if_neg hin, if_neg hin]; exact ⟨rfl, rfl, rfl⟩)
        obtain ⟨z1, hz1'⟩ : ∃ z, elB nn fB (at' k) = z := ⟨_, rfl⟩
        obtain ⟨z2, hz2'⟩ : ∃ z, elS nn fS (rS 0) (at' k) = z := ⟨_, rfl⟩
        obtain ⟨z3, hz3'⟩ : ∃ z, elS nn fT (str (dec 1)) (at' k) = z := ⟨_, rfl⟩
        have ZR := Lib.hid (fun wz => r3Zero_any wz)
        unfold NumTold at ZR
        rw [HV.out.1, HV.out.2.1, HV.out.2.2, hz1', hz2', hz3'] at ZR
        have HV := Lib.hid (And.intro hz1'.symm (And.intro hz2'.symm hz3'.symm))
        clear hz1' hz2' hz3'
        obtain ⟨x, hx⟩ : ∃ x, at' k = x := ⟨_, rfl⟩
        rw [hx] at hc hin
        clear hx
        by_cases h0 : 0 ≤ x
        · have h1 : ¬ x < (nn : Int) := by omega
          clear hin
          go_wp2_with fail
          go_at_call 85
          (with_reducible refine (LN.out _ B1.out.now.2.2.2.2.2.1 B1.out.now.2.2.2.2.1 B1.out.now.2.2.2.1).mono ?_)
          rintro e w2 ⟨rfl, hb2⟩
          have B2 := Lib.hid (B1.out.go hb2)
          have HB2 := Lib.hid hb2
          clear hb2 q3 p0 p1 p2 p3
          have q3 : w2.cell? ⟨w.heap.size + 1 + 1, 3, none⟩ = some (.slice a1 k ak) := B2.out.now.2.1.cell 3
          have p1 : w2.cell? ⟨w.heap.size, 1, none⟩ = some (.bool false) := B2.out.now.1.cell 1
          have p2 : w2.cell? ⟨w.heap.size, 2, none⟩ = some (.slice ta 0 tc) := B2.out.now.1.cell 2
          have p3 : w2.cell? ⟨w.heap.size, 3, none⟩ = some (.slice na nn nc) := B2.out.now.1.cell 3
          have HONE := Lib.hid (show ∀ u ∈ ([.bool z1, .string z2, .string z3] : List Value), u.oneCell' = true by intro u hu; simp at hu; rcases hu with rfl | rfl | rfl <;> rfl)
          go_wp2_with fail
          go_region_law (first
            | (go_simp; go_at_call 86; (with_reducible refine (ZR.out _).mono ?_); rintro e w4 ⟨rfl, hb4⟩;
                have B4 := Lib.hid (B2.out.drew.go hb4);
                have q4 : w4.cell? ⟨w.heap.size + 1 + 1, 3, none⟩ = some (.slice a1 k ak) := B4.out.now.2.1.cell 3;
                have B3 := Lib.hid (B4.out.newRow #[.bool z1, .string z2, .string z3] 82);
                have qp3 : (w4.alloc (.cells #[.bool z1, .string z2, .string z3] 82)).cell? ⟨w.heap.size + 1 + 1, 3, none⟩ = some (.slice a1 k ak) := B3.out.now.2.2.1.cell 3;
                have HROW := Lib.hid B3.out.now.2.2.1;
                have HOWN := Lib.hid B3.out.now.2.2.2.1;
                have HNEW := Lib.hid (World.news_of_block B3.out.now.1);
                have HBA := Lib.hid (Nat.le_trans HF.out.size B3.out.below.size);
                have HNX := Lib.hid (pl_step HBL.out HF.out B3.out.below HROW.out HOWN.out (by decide) (by omega) BB.out.below.size);
                clear hb4)
            | (refine step_append_lies _ rfl (.tmp 67) (.tmp 69) 24 rfl y0.heap.size 82 i0 _ 3 40 Tryz.underlying24 hi hz0 hz1 hz2 rfl (by omega) (.slice a1 k ak) k _ rfl HOWN.out ⟨w4.heap.size, 0, none⟩ 1 1 [.bool z1, .string z2, .string z3] rfl rfl HNEW.out HONE.out (by omega) HMX.out HMY.out HBA.out _ rfl ?_; intro g9 cap9 w3 hown3 hgrow hor hlt3; have hr3 := HROW.out.grown hgrow (HROW.out.apart HOWN.out (by decide)); have qp : w3.cell? ⟨w.heap.size + 1 + 1, 3, none⟩ = some (.slice a1 k ak) := hr3.cell 3; have fp := hr3.free 3; have HN := Lib.hid (HNX.out g9 cap9 w3 (by rw [← HV.out.1, ← HV.out.2.1, ← HV.out.2.2]; exact hown3) hgrow); clear hown3 hgrow hor hlt3 hr3))
          all_goals
            go_wp2
            go_roundw
            case rel => exact ⟨k + 1, _, cap9, by omega, by go_num, HN.out⟩
            case measure => simp [intOf]; omega
        · clear hin
          have HONE := Lib.hid (show ∀ u ∈ ([.bool z1, .string z2, .string z3] : List Value), u.oneCell' = true by intro u hu; simp at hu; rcases hu with rfl | rfl | rfl <;> rfl)
          go_wp2_with fail
          go_region_law (first
            | (go_simp; go_at_call 86; (with_reducible refine (ZR.out _).mono ?_); rintro e w4 ⟨rfl, hb4⟩;
                have B4 := Lib.hid (B1.out.drew.go hb4);
                have q4 : w4.cell? ⟨w.heap.size + 1 + 1, 3, none⟩ = some (.slice a1 k ak) := B4.out.now.2.1.cell 3;
                have B3 := Lib.hid (B4.out.newRow #[.bool z1, .string z2, .string z3] 82);
                have qp3 : (w4.alloc (.cells #[.bool z1, .string z2, .string z3] 82)).cell? ⟨w.heap.size + 1 + 1, 3, none⟩ = some (.slice a1 k ak) := B3.out.now.2.2.1.cell 3;
                have HROW := Lib.hid B3.out.now.2.2.1;
                have HOWN := Lib.hid B3.out.now.2.2.2.1;
                have HNEW := Lib.hid (World.news_of_block B3.out.now.1);
                have HBA := Lib.hid (Nat.le_trans HF.out.size B3.out.below.size);
                have HNX := Lib.hid (pl_step HBL.out HF.out B3.out.below HROW.out HOWN.out (by decide) (by omega) BB.out.below.size);
                clear hb4)
            | (refine step_append_lies _ rfl (.tmp 67) (.tmp 69) 24 rfl y0.heap.size 82 i0 _ 3 40 Tryz.underlying24 hi hz0 hz1 hz2 rfl (by omega) (.slice a1 k ak) k _ rfl HOWN.out ⟨w4.heap.size, 0, none⟩ 1 1 [.bool z1, .string z2, .string z3] rfl rfl HNEW.out HONE.out (by omega) HMX.out HMY.out HBA.out _ rfl ?_; intro g9 cap9 w3 hown3 hgrow hor hlt3; have hr3 := HROW.out.grown hgrow (HROW.out.apart HOWN.out (by decide)); have qp : w3.cell? ⟨w.heap.size + 1 + 1, 3, none⟩ = some (.slice a1 k ak) := hr3.cell 3; have fp := hr3.free 3; have HN := Lib.hid (HNX.out g9 cap9 w3 (by rw [← HV.out.1, ← HV.out.2.1, ← HV.out.2.2]; exact hown3) hgrow); clear hown3 hgrow hor hlt3 hr3))
          all_goals
            go_wp2
            go_roundw
            case rel => exact ⟨k + 1, _, cap9, by omega, by go_num, HN.out⟩
            case measure => simp [intOf]; omega
    · obtain rfl : k = m := by omega
      obtain ⟨a9, c9, he, hq⟩ := QRow.of_own hown
      injection he with he1 _ he2
      subst he1 he2
      have HE : Hid (∀ g', PlnTold S' r' false g' 0 (fun j => elB nn fB (at' j)) (fun j => elS nn fS (rS 0) (at' j)) (fun j => elS nn fT (str (dec 1)) (at' j)) k w (wr.setRow (w.heap.size + 1) (plC s1 r' c1 false none 0 0 a1 k ak)) (.returned (.agg (plC s1 r' c1 false none 0 0 a1 k ak)))) :=
        Lib.hid fun g' => ans_pln ⟨_, _, _, _, _, _, rfl, k4, KRow.nought _ _ _ _ (Nat.zero_le _) _, hq⟩ hbl r1 (Nat.le_succ _)
      have HR0 := Lib.hid r1
      have HRP := Lib.hid hrp
      clear hbl hfar hrp hown k1 k2 k3 k4 k5 r0 r1 hq
      go_wp2_with (first
        | (refine ld_pln rfl (.tmp 7) rfl (w.heap.size + 1 + 1) rfl HRP.out ?_)
        | (refine st_pln rfl (.tmp 6) (.tmp 72) rfl (w.heap.size + 1) rfl _ _ _ _ _ _ _ _ _ _ rfl HR0.out rfl ?_))
      exact bodyPost_ret (res_pln Tryz.results57 rfl (HR0.out.put _) rfl) rfl HE.out
theorem el_same {fB : Nat → Bool} {fS fT : Nat → ByteArray} {fP : Nat → Int} {fQ : Nat → Nat} {n : Nat} (h : NumOk fB fS fT fP fQ n) (i : Int) : elB n fB i = rB (elP n fP i) ∧ elS n fS (rS 0) i = rS (elP n fP i) ∧ elS n fT (str (dec 1)) i = str (dec (elQ n fQ i)) := by
  unfold elB elS elP elQ
  by_cases hi : 0 ≤ i ∧ i < n
  · rw [if_pos hi, if_pos hi, if_pos hi, if_pos hi, if_pos hi]
    obtain ⟨e1, e2, e3, _⟩ := h i.toNat (by omega)
    exact ⟨e1, e2, e3⟩
  · rw [if_neg hi, if_neg hi, if_neg hi, if_neg hi, if_neg hi]
    exact ⟨rfl, rfl, rfl⟩
end Go.Proofs.YtpmcbnliogjknaaGreatDoor

namespace Go.Proofs.YtpmcbnliogjknaaGreatDoor
open Go.RowKit
theorem pl_same {cs cs' : Array Value} {S : Nat → Int} {r : Nat} {ch : Bool} {g : Nat → Int} {tn : Nat} {fB : Nat → Bool} {fS fT : Nat → ByteArray} {nn : Nat} {S' : Nat → Int} {r' : Nat} {ch' : Bool} {g' : Nat → Int} {tn' : Nat} {gB : Nat → Bool} {gS gT : Nat → ByteArray} {nn' : Nat} {w : World} (e : plB ch ch' r r' S S' tn tn' g g' nn nn' fB fS fT gB gS gT = true)
    (h : PlnAt w cs S r ch g tn fB fS fT nn) (h' : PlnAt w cs' S' r' ch' g' tn' gB gS gT nn') :
    Calls Tryz.prog 29 #[.agg cs, .agg cs'] w fun e w' => e = .returned (.bool true) ∧ Below w.heap.size w w' := by
  have := r6PSame_any cs cs' S r ch g tn fB fS fT nn S' r' ch' g' tn' gB gS gT nn' w h h'
  rw [e] at this
  exact this
theorem el_cmp {fP : Nat → Int} {fQ : Nat → Nat} {n : Nat} (h : CmpOk 7 fP fQ n) (at' : Nat → Int) (m : Nat) : CmpOk 7 (fun j => elP n fP (at' j)) (fun j => elQ n fQ (at' j)) m := by
  intro j _
  show 0 < elQ n fQ (at' j) ∧ (elP n fP (at' j)).natAbs < _ ∧ elQ n fQ (at' j) < _
  unfold elP elQ
  by_cases hi : 0 ≤ at' j ∧ at' j < n
  · rw [if_pos hi, if_pos hi]
    exact h (at' j).toNat (by omega)
  · rw [if_neg hi, if_neg hi]
    exact ⟨Nat.one_pos, by decide, by decide⟩
end Go.Proofs.YtpmcbnliogjknaaGreatDoor

namespace Go.Proofs.YtpmcbnliogjknaaGreatDoor
open Go.RowKit
/-- An array of either kind. -/
def Arr (w : World) (cs : Array Value) (S : Nat → Int) (r : Nat) (ch : Bool) (L : Nat) (g : Nat → Int) (fP : Nat → Int) (fQ : Nat → Nat) : Prop := (ch = true → ChrArr w cs S r L g) ∧ (ch = false → NumArr w cs S r L fP fQ)
theorem Arr.below {w w' : World} {cs : Array Value} {S : Nat → Int} {r : Nat} {ch : Bool} {L : Nat} {g fP : Nat → Int} {fQ : Nat → Nat} (h : Arr w cs S r ch L g fP fQ) (hb : Below w.heap.size w w') : Arr w' cs S r ch L g fP fQ := ⟨fun e => (h.1 e).below hb, fun e => (h.2 e).below hb⟩
theorem Bag.arr {w0 w : World} {B : World → Prop} {cs : Array Value} {S : Nat → Int} {r : Nat} {ch : Bool} {L : Nat} {g fP : Nat → Int} {fQ : Nat → Nat} (h : Bag w0 B w) (q : Arr w cs S r ch L g fP fQ) : Bag w0 (fun y => Arr y cs S r ch L g fP fQ ∧ B y) w := h.add (fun _ _ hb q => Arr.below q hb) q
theorem Arr.form {w : World} {cs : Array Value} {S : Nat → Int} {r : Nat} {ch : Bool} {L : Nat} {g fP : Nat → Int} {fQ : Nat → Nat} (h : Arr w cs S r ch L g fP fQ) :
    ∃ na nn nc ta tn tc, cs = arrC ch ((r : Int) - 1) (dm S r) na nn nc ta tn tc ∧ (if ch then tn else nn) = L ∧ (if ch then nn else tn) = 0 := by
  cases ch with
  | true => obtain ⟨ta, tc, e, _⟩ := h.1 rfl; exact ⟨none, 0, 0, ta, L, tc, e, rfl, rfl⟩
  | false => obtain ⟨na, nc, e, _⟩ := h.2 rfl; exact ⟨na, L, nc, none, 0, 0, e, rfl, rfl⟩
theorem Arr.size {w : World} {cs : Array Value} {S : Nat → Int} {r : Nat} {ch : Bool} {L : Nat} {g fP : Nat → Int} {fQ : Nat → Nat} (h : Arr w cs S r ch L g fP fQ) : cs.size = 12 := by
  obtain ⟨_, _, _, _, _, _, rfl, _⟩ := h.form
  rfl
theorem Arr.congr {w : World} {cs : Array Value} {S : Nat → Int} {r : Nat} {ch : Bool} {L : Nat} {g g' fP fP' : Nat → Int} {fQ fQ' : Nat → Nat} (h : Arr w cs S r ch L g fP fQ) (e1 : g = g') (e2 : fP = fP') (e3 : fQ = fQ') : Arr w cs S r ch L g' fP' fQ' := by
  subst e1 e2 e3
  exact h
theorem rank8_any (cs : Array Value) (S : Nat → Int) (r : Nat) (ch : Bool) (L : Nat) (g fP : Nat → Int) (fQ : Nat → Nat) (w : World) (h : Arr w cs S r ch L g fP fQ) (hr : r ≤ 1000) :
    Calls Tryz.prog 44 #[.agg cs] w fun e w' => e = .returned (.int .i64 r) ∧ Below w.heap.size w w' := by
  obtain ⟨na, nn, nc, ta, tn, tc, rfl, _⟩ := h.form
  exact rank_any ch (dm S r) r na nn nc ta tn tc w hr
/-- Are all elements integers of 64 bits? -/
def whC (ch : Bool) (L : Nat) (fP : Nat → Int) (fQ : Nat → Nat) : Bool := if ch then decide (L = 0) else whB fP fQ L
theorem whB_at {fP : Nat → Int} {fQ : Nat → Nat} : ∀ {n : Nat}, whB fP fQ n = true → ∀ j, j < n → fQ j = 1 ∧ fitB (fP j) = true
  | 0, _, j, hj => absurd hj (Nat.not_lt_zero _)
  | n + 1, h, j, hj => by
    unfold whB at h
    rw [Bool.and_eq_true, Bool.and_eq_true, decide_eq_true_eq] at h
    rcases Nat.lt_or_ge j n with h1 | h1
    · exact whB_at h.1 j h1
    · obtain rfl : j = n := by omega
      exact h.2
theorem fitB_at {x : Int} (h : fitB x = true) : -9223372036854775808 ≤ x ∧ x ≤ 9223372036854775807 := by
  unfold fitB at h
  simp at h
  omega
theorem whC_in {ch : Bool} {L : Nat} {fP : Nat → Int} {fQ : Nat → Nat} (h : whC ch L fP fQ = true) : In64 fP L := fun j hj => by
  cases ch with
  | true => have h0 : L = 0 := of_decide_eq_true h; omega
  | false => exact fitB_at (whB_at h j hj).2
/-- The answer of what makes an array, or none. -/
def ArrTold (b : Bool) (S : Nat → Int) (r : Nat) (ch : Bool) (L : Nat) (g fP : Nat → Int) (fQ : Nat → Nat) (w w' : World) (e : Ending) : Prop :=
  ∃ cs, e = .returned (.tuple #[.agg cs, .bool b]) ∧ (if b then Arr w' cs S r ch L g fP fQ else cs = zerC) ∧ Below w.heap.size w w'
theorem pick8_any (cs : Array Value) (S : Nat → Int) (r : Nat) (ch : Bool) (L : Nat) (g fP : Nat → Int) (fQ : Nat → Nat) (sa : Option Addr) (sr sc : Nat) (T : Nat → Int) (ta : Option Addr) (tn tc : Nat) (G : Nat → Int) (w : World) (h : Arr w cs S r ch L g fP fQ)
    (hs : KRow w .i64 sa sr sc T) (hS : In64 T sr) (ht : KRow w .i64 ta tn tc G) (hg : In64 G tn) (hn : tn ≤ 1000000) :
    Calls Tryz.prog 45 #[.agg cs, .slice sa sr sc, .slice ta tn tc] w fun e w' => ArrTold (shB T sr && decide (itm T sr = tn)) T sr ch tn (fun j => elC L g 32 (G j)) (fun j => elP L fP (G j)) (fun j => elQ L fQ (G j)) w w' e := by
  cases ch with
  | true =>
    refine (pickC_any cs S r L g sa sr sc T ta tn tc G w (h.1 rfl) hs hS ht hg hn).mono ?_
    rintro e w' ⟨cs', he, h2, hb⟩
    refine ⟨cs', he, ?_, hb⟩
    split
    · rename_i q; rw [if_pos q] at h2; exact ⟨fun _ => h2, fun e => (by cases e)⟩
    · rename_i q; rw [if_neg q] at h2; exact h2
  | false =>
    refine (pickN_any cs S r L fP fQ sa sr sc T ta tn tc G w (h.2 rfl) hs hS ht hg hn).mono ?_
    rintro e w' ⟨cs', he, h2, hb⟩
    refine ⟨cs', he, ?_, hb⟩
    split
    · rename_i q; rw [if_pos q] at h2; exact ⟨fun e => (by cases e), fun _ => h2⟩
    · rename_i q; rw [if_neg q] at h2; exact h2
theorem ravel8_any (cs : Array Value) (S : Nat → Int) (r : Nat) (ch : Bool) (L : Nat) (g fP : Nat → Int) (fQ : Nat → Nat) (w : World) (h : Arr w cs S r ch L g fP fQ) (hn : L ≤ 4096) :
    Calls Tryz.prog 63 #[.agg cs] w fun e w' => ∃ cs', e = .returned (.agg cs') ∧ Arr w' cs' (fun _ => (L : Int)) 1 ch L g fP fQ ∧ Below w.heap.size w w' := by
  cases ch with
  | true =>
    refine (ravelC_any cs S r L g w (h.1 rfl) hn).mono ?_
    rintro e w' ⟨cs', he, h2, hb⟩
    exact ⟨cs', he, ⟨fun _ => h2, fun e => (by cases e)⟩, hb⟩
  | false =>
    refine (ravelN_any cs S r L fP fQ w (h.2 rfl) hn).mono ?_
    rintro e w' ⟨cs', he, h2, hb⟩
    exact ⟨cs', he, ⟨fun e => (by cases e), fun _ => h2⟩, hb⟩
theorem ints8_any (sa : Option Addr) (sn sc : Nat) (f : Nat → Int) (w : World) (hs : KRow w .i64 sa sn sc f) (hg : In64 f sn) (hn : sn ≤ 4096) :
    Calls Tryz.prog 16 #[.slice sa sn sc] w fun e w' => ∃ cs', e = .returned (.agg cs') ∧ (∀ g, Arr w' cs' (fun _ => (sn : Int)) 1 false sn g f (fun _ => 1)) ∧ Below w.heap.size w w' := by
  refine (ints_any sa sn sc f w hs hg hn).mono ?_
  rintro e w' ⟨cs', he, h2, hb⟩
  exact ⟨cs', he, fun g => ⟨fun e => (by cases e), fun _ => h2⟩, hb⟩
theorem int8_any (X : Int) (w : World) (h : -9223372036854775808 ≤ X ∧ X ≤ 9223372036854775807) :
    Calls Tryz.prog 17 #[.int .i64 X] w fun e w' => ∃ cs', e = .returned (.agg cs') ∧ (∀ g, Arr w' cs' (fun _ => 0) 0 false 1 g (fun _ => X) (fun _ => 1)) ∧ Below w.heap.size w w' := by
  refine (arrInt_any X w h).mono ?_
  rintro e w' ⟨cs', he, h2, hb⟩
  exact ⟨cs', he, fun g => ⟨fun e => (by cases e), fun _ => h2⟩, hb⟩
/-- How many characters, and how many numbers, an array of either kind has. -/
def tnO (ch : Bool) (L : Nat) : Nat := if ch then L else 0
def nnO (ch : Bool) (L : Nat) : Nat := if ch then 0 else L
/-- A plain array of either kind. -/
def Pln (w : World) (cs : Array Value) (S : Nat → Int) (r : Nat) (ch : Bool) (L : Nat) (g : Nat → Int) (fB : Nat → Bool) (fS fT : Nat → ByteArray) : Prop := PlnAt w cs S r ch g (tnO ch L) fB fS fT (nnO ch L)
theorem Pln.below {w w' : World} {cs : Array Value} {S : Nat → Int} {r : Nat} {ch : Bool} {L : Nat} {g : Nat → Int} {fB : Nat → Bool} {fS fT : Nat → ByteArray} (h : Pln w cs S r ch L g fB fS fT) (hb : Below w.heap.size w w') : Pln w' cs S r ch L g fB fS fT := PlnAt.below h hb
theorem QRow.zero {w : World} {sa : Option Addr} {c : Nat} {fB : Nat → Bool} {fS fT : Nat → ByteArray} (h : QRow w sa 0 c fB fS fT) (fB' : Nat → Bool) (fS' fT' : Nat → ByteArray) : QRow w sa 0 c fB' fS' fT' := ⟨h.1, h.2.1, .inl rfl⟩
theorem KRow.zero {w : World} {ki : IntKind} {sa : Option Addr} {c : Nat} {f : Nat → Int} (h : KRow w ki sa 0 c f) (f' : Nat → Int) : KRow w ki sa 0 c f' := ⟨h.1, h.2.1, .inl rfl⟩
theorem QRow.congr {w : World} {sa : Option Addr} {n c : Nat} {fB fB' : Nat → Bool} {fS fT fS' fT' : Nat → ByteArray} (h : QRow w sa n c fB fS fT) (e : ∀ j, j < n → fB j = fB' j ∧ fS j = fS' j ∧ fT j = fT' j) : QRow w sa n c fB' fS' fT' := by
  refine ⟨h.1, h.2.1, h.2.2.imp id fun ⟨b, off, h1, h2, h3⟩ => ⟨b, off, h1, h2, fun j hj => ?_⟩⟩
  obtain ⟨e1, e2, e3⟩ := e j hj
  rw [← e1, ← e2, ← e3]
  exact h3 j hj
/-- Short numbers. -/
def Small (ch : Bool) (L : Nat) (fP : Nat → Int) (fQ : Nat → Nat) : Prop := ch = false → CmpOk 7 fP fQ L
theorem plain8_any (cs : Array Value) (S : Nat → Int) (r : Nat) (ch : Bool) (L : Nat) (g fP : Nat → Int) (fQ : Nat → Nat) (w : World) (hr : r ≤ 8) (h : Arr w cs S r ch L g fP fQ) (hn : L ≤ 1000000) (hs : Small ch L fP fQ) :
    Calls Tryz.prog 30 #[.agg cs] w fun e w' => ∃ cs', e = .returned (.agg cs') ∧ Pln w' cs' S r ch L g (fun j => rB (fP j)) (fun j => rS (fP j)) (fun j => str (dec (fQ j))) ∧ Below w.heap.size w w' := by
  cases ch with
  | true =>
    refine (plainC_any cs S r L g w hr (h.1 rfl) hn).mono ?_
    rintro e w' ⟨cs', he, ⟨sa, sc, ta, tc, na, nc, e1, k1, k2, k3⟩, hb⟩
    exact ⟨cs', he, ⟨sa, sc, ta, tc, na, nc, e1, k1, k2, k3.zero _ _ _⟩, hb⟩
  | false =>
    have hc := hs rfl
    refine (plainN_any cs S r L fP fQ w hr (h.2 rfl) hn (fun j hj => (hc j hj).1) 7 (by omega) (fun j hj => (hc j hj).2.1) (fun j hj => (hc j hj).2.2)).mono ?_
    rintro e w' ⟨cs', he, ⟨sa, sc, ta, tc, na, nc, e1, k1, k2, k3⟩, hb⟩
    exact ⟨cs', he, ⟨sa, sc, ta, tc, na, nc, e1, k1, k2.zero _, k3⟩, hb⟩
theorem rpick8_any (cs : Array Value) (S : Nat → Int) (r : Nat) (ch : Bool) (L : Nat) (g : Nat → Int) (fB : Nat → Bool) (fS fT : Nat → ByteArray) (s1 : Option Addr) (r' c1 : Nat) (T : Nat → Int) (t1 : Option Addr) (m d1 : Nat) (G : Nat → Int) (w : World) (h : Pln w cs S r ch L g fB fS fT) (hs : KRow w .i64 s1 r' c1 T) (ht : KRow w .i64 t1 m d1 G) (hm : m ≤ 1000000) (hL : L ≤ 1000000) :
    Calls Tryz.prog 57 #[.agg cs, .slice s1 r' c1, .slice t1 m d1] w fun e w' => ∃ cs', e = .returned (.agg cs') ∧ Pln w' cs' T r' ch m (fun j => elC L g 32 (G j)) (fun j => elB L fB (G j)) (fun j => elS L fS (rS 0) (G j)) (fun j => elS L fT (str (dec 1)) (G j)) ∧ Below w.heap.size w w' := by
  cases ch with
  | true =>
    refine (r6PickC_any cs S r g L fB fS fT s1 r' c1 T t1 m d1 G w h hs ht hm hL).mono ?_
    intro e w' hq
    exact hq _ _ _
  | false =>
    refine (r6PickN_any cs S r g L fB fS fT s1 r' c1 T t1 m d1 G w h hs ht hm hL).mono ?_
    intro e w' hq
    exact hq _
theorem plB_of2 {ch : Bool} {r : Nat} {S S' : Nat → Int} {tn : Nat} {g g' : Nat → Int} {nn : Nat} {fB gB : Nat → Bool} {fS fT gS gT : Nat → ByteArray} (h1 : ∀ j, j < r → S j = S' j) (h3 : ∀ j, j < tn → g j = g' j) (h2 : ∀ j, j < nn → fB j = gB j ∧ fS j = gS j ∧ fT j = gT j) : plB ch ch r r S S' tn tn g g' nn nn fB fS fT gB gS gT = true := by
  unfold plB
  rw [sameB_iff.2 h1, sameB_iff.2 h3, nsB_iff.2 h2, decide_eq_true rfl, decide_eq_true rfl, decide_eq_true rfl, decide_eq_true rfl]
  rfl
end Go.Proofs.YtpmcbnliogjknaaGreatDoor

namespace Go.Proofs.YtpmcbnliogjknaaGreatDoor
open Go.RowKit
/-- The error of an array as a list of integers. -/
def liE (r : Nat) (b : Bool) : Int := if 1 < r then 23 else if b then 0 else 22
/-- What list answers. -/
def LiTold (E : Int) (L : Nat) (fP : Nat → Int) (w w' : World) (e : Ending) : Prop := ∃ a m c, e = .returned (.tuple #[.slice a m c, .int .i64 E]) ∧ (E = 0 → m = L ∧ KRow w' .i64 a L c fP) ∧ Below w.heap.size w w'
/-- A function value that answers a number at every place, and the number. -/
def Gives (fv : FuncId) (cap : Array Value) (G : Nat → Int) (M : Nat) (w : World) : Prop :=
  ∀ wz, Below w.heap.size w wz → ∀ k : Nat, k < M → Calls Tryz.prog fv (#[.int .i64 (k : Nat)] ++ cap) wz fun e w' => e = .returned (.int .i64 (G k)) ∧ Below wz.heap.size wz w'
theorem Gives.below {fv : FuncId} {cap : Array Value} {G : Nat → Int} {M : Nat} {w w' : World} (h : Gives fv cap G M w) (hb : Below w.heap.size w w') : Gives fv cap G M w' := fun wz hz => h wz (hb.trans (hz.mono hb.size))
end Go.Proofs.YtpmcbnliogjknaaGreatDoor

namespace Go.Proofs.YtpmcbnliogjknaaGreatDoor
open Go.RowKit
/-- A row from a place on. -/
def shf (f : Nat → Int) (p : Nat) : Nat → Int := fun j => f (p + j)
theorem rm_pos (f : Nat → Int) : ∀ k, 1 ≤ rm f k
  | 0 => by show (1 : Int) ≤ 1; omega
  | k + 1 => by
    have h := rm_pos f k
    have e : 1 * 1 ≤ rm f k * max (f k) 1 := Int.mul_le_mul h (by omega) (by omega) (by omega)
    show 1 ≤ rm f k * max (f k) 1
    omega
theorem ax_nn {f : Nat → Int} {n j : Nat} (h : axB f n = true) (hj : j < n) : 0 ≤ f j := by
  have h1 := ax_le (show j + 1 ≤ n by omega) h
  unfold axB at h1
  rw [Bool.and_eq_true, Bool.and_eq_true, decide_eq_true_eq] at h1
  exact h1.2.1
theorem sh_ax {f : Nat → Int} {n : Nat} (h : shB f n = true) : n ≤ 8 ∧ axB f n = true := by
  unfold shB at h
  rw [Bool.and_eq_true, decide_eq_true_eq] at h
  exact h
theorem KRow.take {w : World} {ki : IntKind} {a : Option Addr} {n c : Nat} {f : Nat → Int} (h : KRow w ki a n c f) {k : Nat} (hk : k ≤ n) : KRow w ki a k c f := by
  obtain ⟨h1, h2, h3⟩ := h
  refine ⟨by omega, h2, ?_⟩
  rcases h3 with h3 | ⟨b, off, e, hb, hc⟩
  · exact .inl (by omega)
  · exact .inr ⟨b, off, e, hb, fun j hj => hc j (by omega)⟩
theorem KRow.from {w : World} {ki : IntKind} {b off : Nat} {n c : Nat} {f : Nat → Int} (h : KRow w ki (some ⟨b, off, none⟩) n c f) {p : Nat} (hp : p ≤ n) : KRow w ki (some ⟨b, off + p, none⟩) (n - p) (c - p) (shf f p) := by
  obtain ⟨h1, h2, h3⟩ := h
  refine ⟨by omega, by omega, ?_⟩
  rcases h3 with h3 | ⟨b', off', e, hb, hc⟩
  · exact .inl (by omega)
  · cases e
    exact .inr ⟨b, off + p, rfl, hb, fun j hj => by rw [Nat.add_assoc]; exact hc (p + j) (by omega)⟩
end Go.Proofs.YtpmcbnliogjknaaGreatDoor

namespace Go.Proofs.YtpmcbnliogjknaaGreatDoor
open Go.RowKit
/-- The place of an index. -/
def plc (f g : Nat → Int) : Nat → Int
  | 0 => 0
  | k + 1 => plc f g k * f k + g k
/-- The first numbers are within the axes. -/
def inB (f g : Nat → Int) : Nat → Bool
  | 0 => true
  | k + 1 => inB f g k && (decide (0 ≤ g k) && decide (g k < f k))
theorem inB_le {f g : Nat → Int} : ∀ {k m : Nat}, k ≤ m → inB f g m = true → inB f g k = true := by
  intro k m
  induction m with
  | zero => intro h h2; obtain rfl : k = 0 := by omega
            exact h2
  | succ m ih =>
    intro h h2
    rcases Nat.lt_or_ge k (m + 1) with h3 | h3
    · refine ih (by omega) ?_
      unfold inB at h2
      rw [Bool.and_eq_true] at h2
      exact h2.1
    · obtain rfl : k = m + 1 := by omega
      exact h2
theorem inB_at {f g : Nat → Int} {n j : Nat} (h : inB f g n = true) (hj : j < n) : 0 ≤ g j ∧ g j < f j := by
  have h1 := inB_le (show j + 1 ≤ n by omega) h
  unfold inB at h1
  rw [Bool.and_eq_true, Bool.and_eq_true, decide_eq_true_eq, decide_eq_true_eq] at h1
  exact h1.2
theorem inB_no {f g : Nat → Int} {n j : Nat} (hj : j < n) (h : ¬ (0 ≤ g j ∧ g j < f j)) : inB f g n = false := by
  cases hx : inB f g n with
  | false => rfl
  | true => exact absurd (inB_at hx hj) h
theorem plc_bd {f g : Nat → Int} : ∀ {k : Nat}, axB f k = true → inB f g k = true → 0 ≤ plc f g k ∧ plc f g k < itm f k := by
  intro k
  induction k with
  | zero => intro _ _; exact ⟨Int.le_refl _, by show (0 : Int) < 1; omega⟩
  | succ k ih =>
    intro h1 h2
    have h3 := inB_at h2 (show k < k + 1 by omega)
    obtain ⟨i1, i2⟩ := ih (ax_le (by omega) h1) (inB_le (by omega) h2)
    have h4 : (plc f g k + 1) * f k ≤ itm f k * f k := Int.mul_le_mul_of_nonneg_right (by omega) (by omega)
    have h5 : 0 ≤ plc f g k * f k := Int.mul_nonneg i1 (by omega)
    rw [Int.add_mul, Int.one_mul] at h4
    show 0 ≤ plc f g k * f k + g k ∧ plc f g k * f k + g k < itm f k * f k
    omega
/-- Has a shape this index? -/
def shP (f : Nat → Int) (n : Nat) (g : Nat → Int) (m : Nat) : Bool := shB f n && (decide (n = m) && inB f g n)
def plI (f : Nat → Int) (n : Nat) (g : Nat → Int) (m : Nat) : Int := if shP f n g m then plc f g n else 0
/-- What Place answers. -/
def PlTold (f : Nat → Int) (n : Nat) (g : Nat → Int) (m : Nat) (w w' : World) (e : Ending) : Prop := e = .returned (.tuple #[.int .i64 (plI f n g m), .bool (shP f n g m)]) ∧ Below w.heap.size w w'
theorem PlTold.no {f g : Nat → Int} {n m : Nat} {w w' : World} (hb : Below w.heap.size w w') (h : shP f n g m = false) : PlTold f n g m w w' (.returned (.tuple #[.int .i64 0, .bool false])) := by
  refine ⟨?_, hb⟩
  unfold plI
  rw [h]
  rfl
theorem PlTold.yes {f g : Nat → Int} {n : Nat} {w w' : World} (hb : Below w.heap.size w w') (h : shB f n = true) (h2 : inB f g n = true) : PlTold f n g n w w' (.returned (.tuple #[.int .i64 (plc f g n), .bool true])) := by
  have : shP f n g n = true := by unfold shP; rw [h, h2, decide_eq_true rfl]; rfl
  refine ⟨?_, hb⟩
  unfold plI
  rw [this]
  rfl
set_option maxHeartbeats 1600000 in
set_option maxRecDepth 100000 in
theorem place_any (a : Option Addr) (n c : Nat) (f : Nat → Int) (a2 : Option Addr) (m c2 : Nat) (g : Nat → Int) (w : World) (h : KRow w .i64 a n c f) (hf : In64 f n) (h2 : KRow w .i64 a2 m c2 g) (hg : In64 g m) :
    Calls Tryz.prog 81 #[.slice a n c, .slice a2 m c2] w fun e w' => PlTold f n g m w w' e := by
  have hl := h.len
  have hl2 := h2.len
  have CN := Lib.hid (fun wz (h : KRow wz .i64 a n c f) => count_any a n c f wz h hf)
  unfold CntTold at CN
  have H := Lib.hid h
  have H2 := Lib.hid h2
  have HG := Lib.hid hg
  clear h h2 hf hg
  cases hs : shB f n with
  | false =>
    have HE := Lib.hid (fun wz (hb : Below w.heap.size w wz) => PlTold.no (f := f) (n := n) (g := g) (m := m) hb (by unfold shP; rw [hs]; rfl))
    rw [hs] at CN
    generalize cntI f n = x at *
    clear hs
    go_enter Tryz.func81, Tryz.ntmps81
    go_wp2_with fail
    go_at_call 94
    (with_reducible refine (CN.out _ H.out).mono ?_)
    rintro e w1 ⟨rfl, rfl⟩
    go_wp2
    go_ret2
    exact HE.out _ (Below.refl _ _)
  | true =>
    rw [hs] at CN
    generalize cntI f n = x at *
    have HS := Lib.hid hs
    clear hs
    by_cases hnm : m = n
    · subst hnm
      have dn : ((m : Int) != m) = false := bne_self_eq_false _
      go_enter Tryz.func81, Tryz.ntmps81
      go_wp2_with fail
      go_at_call 94
      (with_reducible refine (CN.out _ H.out).mono ?_)
      rintro e w1 ⟨rfl, rfl⟩
      go_wp2
      go_loopw [8, 27] (fun t i wr => ∃ k : Nat, k ≤ m ∧ i = .int .i64 k ∧ t = .int .i64 (plc f g k) ∧ Hid (inB f g k = true ∧ Below w.heap.size w wr)) (fun _ i _ => m - (intOf i).toNat)
      case atStart => exact ⟨0, by omega, rfl, rfl, rfl, Below.refl _ _⟩
      case round =>
        obtain ⟨k, hk, rfl, rfl, hrel⟩ := hrel
        obtain ⟨hin, hbl⟩ := hrel.out
        have hax := (sh_ax HS.out).2
        by_cases hlt : k < m
        · obtain ⟨b, off, rfl, hb, hc⟩ := (H.out.below hbl).get hlt
          obtain ⟨b2, off2, rfl, hb2, hc2⟩ := (H2.out.below hbl).get hlt
          have HBL := Lib.hid hbl
          have hk0 : (0 : Int) ≤ k := by omega
          have hk1 : (k : Int) < m := by omega
          by_cases h0 : g k < 0
          · have HN := Lib.hid (PlTold.no (f := f) (n := m) (g := g) (m := m) (w := w) (w' := wr) hbl (by unfold shP; rw [inB_no hlt (by omega), Bool.and_false, Bool.and_false]))
            clear hbl hin hax hrel
            generalize plc f g k = t at *
            generalize g k = y at *
            generalize f k = x' at *
            go_wp2
            go_ret2
            exact HN.out
          · by_cases h1 : f k ≤ g k
            · have HN := Lib.hid (PlTold.no (f := f) (n := m) (g := g) (m := m) (w := w) (w' := wr) hbl (by unfold shP; rw [inB_no hlt (by omega), Bool.and_false, Bool.and_false]))
              clear hbl hin hax hrel
              generalize plc f g k = t at *
              generalize g k = y at *
              generalize f k = x' at *
              go_wp2
              go_ret2
              exact HN.out
            · have hin' : inB f g (k + 1) = true := by unfold inB; rw [hin, decide_eq_true (show 0 ≤ g k by omega), decide_eq_true (show g k < f k by omega)]; rfl
              have hpb := plc_bd (ax_le (show k + 1 ≤ m by omega) hax) hin'
              have hpb0 := plc_bd (ax_le (show k ≤ m by omega) hax) hin
              have hit := (ax_bd (ax_le (show k + 1 ≤ m by omega) hax)).2.2.2
              have hrm := (ax_bd (ax_le (show k + 1 ≤ m by omega) hax)).2.1
              have e2 : plc f g (k + 1) = plc f g k * f k + g k := rfl
              rw [e2] at hpb
              have hm0 : 0 ≤ plc f g k * f k := Int.mul_nonneg hpb0.1 (by omega)
              have E2 := Lib.hid e2
              have w1 := IntWalk.i64_in (plc f g k * f k) (by omega)
              have w2 := IntWalk.i64_in (plc f g k * f k + g k) (by omega)
              have HN := Lib.hid (And.intro hin' hbl)
              clear hbl hin hin' hax hrel e2 hpb hpb0 hit hrm hm0
              generalize plc f g k = t at *
              generalize g k = y at *
              generalize f k = x' at *
              go_wp2
              go_roundw
              case rel => exact ⟨k + 1, by omega, by go_num, vint E2.out.symm, HN.out⟩
              case measure => simp [intOf]; omega
        · obtain rfl : k = m := by omega
          have HY := Lib.hid (PlTold.yes (w := w) hbl HS.out hin)
          generalize plc f g k = t at *
          clear hbl hin hax hrel
          go_wp2
          go_ret2
          exact HY.out
    · have dn : ((m : Int) != n) = true := bne_iff_ne.2 (by omega)
      have HE := Lib.hid (PlTold.no (f := f) (n := n) (g := g) (m := m) (Below.refl w.heap.size w) (by unfold shP; rw [decide_eq_false (Ne.symm hnm), Bool.false_and, Bool.and_false]))
      clear hnm
      go_enter Tryz.func81, Tryz.ntmps81
      go_wp2_with fail
      go_at_call 94
      (with_reducible refine (CN.out _ H.out).mono ?_)
      rintro e w1 ⟨rfl, rfl⟩
      go_wp2
      go_ret2
      exact HE.out
end Go.Proofs.YtpmcbnliogjknaaGreatDoor

namespace Go.Proofs.YtpmcbnliogjknaaGreatDoor
open Go.RowKit
/-- The numbers of the index at a place, the last one first. -/
def dgs (f : Nat → Int) : Nat → Int → Nat → Int
  | 0, _, _ => 0
  | k + 1, r, j => if j = k then r % f k else dgs f k (r / f k) j
theorem itm_pos {f : Nat → Int} {n : Nat} (h : axB f n = true) {at' : Int} (h0 : 0 ≤ at') (h1 : at' < itm f n) : ∀ j, j < n → 1 ≤ f j := by
  induction n generalizing at' with
  | zero => intro j hj; omega
  | succ n ih =>
    intro j hj
    have hn := ax_nn h (show n < n + 1 by omega)
    have hne : f n ≠ 0 := by
      intro e
      have : itm f (n + 1) = itm f n * f n := rfl
      rw [this, e, Int.mul_zero] at h1
      omega
    by_cases e : j = n
    · subst e; omega
    · have e1 : itm f (n + 1) = itm f n * f n := rfl
      have hb := (ax_bd (ax_le (Nat.le_succ n) h)).2.2.1
      have : 0 < itm f n := by
        rcases Int.lt_or_le 0 (itm f n) with h3 | h3
        · exact h3
        · have h4 : itm f n = 0 := by omega
          rw [e1, h4, Int.zero_mul] at h1
          omega
      exact ih (ax_le (Nat.le_succ n) h) (Int.le_refl 0) this j (by omega)
theorem quo_lt {f : Nat → Int} {k : Nat} {r : Int} (h1 : 1 ≤ f k) (hr0 : 0 ≤ r) (hr : r < itm f (k + 1)) : 0 ≤ r / f k ∧ r / f k < itm f k ∧ 0 ≤ r % f k ∧ r % f k < f k := by
  refine ⟨Int.ediv_nonneg hr0 (by omega), Int.ediv_lt_of_lt_mul (by omega) hr, Int.emod_nonneg _ (by omega), Int.emod_lt_of_pos _ (by omega)⟩
theorem dgs_in {f : Nat → Int} : ∀ {n : Nat} {r : Int}, (∀ j, j < n → 1 ≤ f j) → 0 ≤ r → r < itm f n → inB f (dgs f n r) n = true ∧ plc f (dgs f n r) n = r := by
  intro n
  induction n with
  | zero => intro r _ h0 h1; refine ⟨rfl, ?_⟩; have : itm f 0 = 1 := rfl; show 0 = r; omega
  | succ n ih =>
    intro r hp h0 h1
    obtain ⟨q1, q2, q3, q4⟩ := quo_lt (hp n (by omega)) h0 h1
    obtain ⟨i1, i2⟩ := ih (fun j hj => hp j (by omega)) q1 q2
    have hd : ∀ j, j < n → dgs f (n + 1) r j = dgs f n (r / f n) j := fun j hj => by
      show (if j = n then _ else _) = _
      rw [if_neg (by omega)]
    have hn : dgs f (n + 1) r n = r % f n := by show (if n = n then _ else _) = _; rw [if_pos rfl]
    have hin : ∀ k, k ≤ n → inB f (dgs f (n + 1) r) k = inB f (dgs f n (r / f n)) k := by
      intro k
      induction k with
      | zero => intro _; rfl
      | succ k ihk => intro hk; unfold inB; rw [ihk (by omega), hd k (by omega)]
    have hpl : ∀ k, k ≤ n → plc f (dgs f (n + 1) r) k = plc f (dgs f n (r / f n)) k := by
      intro k
      induction k with
      | zero => intro _; rfl
      | succ k ihk => intro hk; unfold plc; rw [ihk (by omega), hd k (by omega)]
    constructor
    · unfold inB
      rw [hin n (Nat.le_refl _), i1, hn, decide_eq_true q3, decide_eq_true q4]
      rfl
    · unfold plc
      rw [hpl n (Nat.le_refl _), i2, hn, Int.mul_comm]
      exact Int.mul_ediv_add_emod _ _
/-- A block of n integers of its own. -/
def IBox (w : World) (g n : Nat) (h : Nat → Int) : Prop := g < w.heap.size ∧ Free w g ∧ ∀ j, j < n → w.cell? ⟨g, j, none⟩ = some (.int .i64 (h j))
theorem IBox.below {w w' : World} {g n : Nat} {h : Nat → Int} (q : IBox w g n h) (hb : Below w.heap.size w w') : IBox w' g n h :=
  ⟨Nat.lt_of_lt_of_le q.1 hb.size, q.2.1.below hb q.1, fun j hj => (hb.cell (p := ⟨g, j, none⟩) q.1).trans (q.2.2 j hj)⟩
theorem IBox.set {w : World} {g n k : Nat} {h : Nat → Int} (q : IBox w g n h) (hk : k < n) (x : Int) : IBox (w.setCell ⟨g, k, none⟩ (.int .i64 x)) g n (fun j => if j = k then x else h j) := by
  refine ⟨by simpa using q.1, q.2.1.set _ _, fun j hj => ?_⟩
  by_cases e : j = k
  · subst e
    show _ = some (Value.int .i64 (if j = j then x else h j))
    rw [if_pos rfl]
    exact World.cell?_setCell_same _ _ _ (q.2.2 j hj)
  · show _ = some (Value.int .i64 (if j = k then x else h j))
    rw [if_neg e, World.cell?_setCell_other _ _ _ _ (fun h => by injection h with _ h; omega)]
    exact q.2.2 j hj
theorem IBox.congr {w : World} {g n : Nat} {h h' : Nat → Int} (q : IBox w g n h) (e : ∀ j, j < n → h j = h' j) : IBox w g n h' := ⟨q.1, q.2.1, fun j hj => by rw [q.2.2 j hj, e j hj]⟩
theorem IBox.krow {w : World} {g n : Nat} {h : Nat → Int} (q : IBox w g n h) (hn : n ≤ maxLen) : KRow w .i64 (some ⟨g, 0, none⟩) n n h :=
  ⟨Nat.le_refl _, hn, .inr ⟨g, 0, rfl, q.1, fun j hj => by rw [Nat.zero_add]; exact q.2.2 j hj⟩⟩
theorem IBox.made (w : World) (n : Nat) (t : TypeId) {mc : Array Value} (hmc : mc = madeCells (Value.cells (.int .i64 0)) n) : IBox (w.alloc (.cells mc t)) w.heap.size n (fun _ => 0) := by
  subst hmc
  have hR := Row.new w t (madeCells (Value.cells (.int .i64 0)) n)
  refine ⟨hR.lt, fun o => hR.free o, fun j hj => ?_⟩
  rw [hR.cell]
  unfold madeCells
  rw [Array.getElem?_map, Array.getElem?_range, if_pos (by omega), Option.map_some]
  simp [Value.cells, Nat.mod_one]
/-- Is it a place of the shape? -/
def ixB (f : Nat → Int) (n : Nat) (i : Int) : Bool := shB f n && (decide (0 ≤ i) && decide (i < itm f n))
/-- What Index answers. -/
def IxTold (f : Nat → Int) (n : Nat) (i : Int) (w w' : World) (e : Ending) : Prop := ∃ a m c, e = .returned (.tuple #[.slice a m c, .bool (ixB f n i)]) ∧ (if ixB f n i then m = n ∧ KRow w' .i64 a n c (dgs f n i) else a = none ∧ m = 0 ∧ c = 0) ∧ Below w.heap.size w w'
theorem IxTold.no {f : Nat → Int} {n : Nat} {i : Int} {w w' : World} (hb : Below w.heap.size w w') (h : ixB f n i = false) : IxTold f n i w w' (.returned (.tuple #[.slice none 0 0, .bool false])) := by
  refine ⟨none, 0, 0, ?_, ?_, hb⟩
  · rw [h]
  · rw [h, if_neg (by decide)]; exact ⟨rfl, rfl, rfl⟩
end Go.Proofs.YtpmcbnliogjknaaGreatDoor

namespace Go.Proofs.YtpmcbnliogjknaaGreatDoor
open Go.RowKit
/-- Rows of integers in a row. -/
def LRow (w : World) (a : Option Addr) (m c : Nat) (A : Nat → Option Addr) (N C : Nat → Nat) (F : Nat → Nat → Int) : Prop := m ≤ c ∧ c ≤ maxLen ∧ (m = 0 ∨ ∃ b off, a = some ⟨b, off, none⟩ ∧ b < w.heap.size ∧
  ∀ j, j < m → w.cell? ⟨b, off + j, none⟩ = some (.slice (A j) (N j) (C j)) ∧ KRow w .i64 (A j) (N j) (C j) (F j) ∧ (A j = none → C j = 0))
theorem LRow.below {w w' : World} {a : Option Addr} {m c : Nat} {A : Nat → Option Addr} {N C : Nat → Nat} {F : Nat → Nat → Int} (h : LRow w a m c A N C F) (hb : Below w.heap.size w w') : LRow w' a m c A N C F := by
  obtain ⟨h1, h2, h3⟩ := h
  refine ⟨h1, h2, h3.imp id ?_⟩
  rintro ⟨b, off, rfl, hl, hc⟩
  exact ⟨b, off, rfl, Nat.lt_of_lt_of_le hl hb.size, fun j hj => ⟨(hb.cell (p := ⟨b, off + j, none⟩) hl).trans (hc j hj).1, (hc j hj).2.1.below hb, (hc j hj).2.2⟩⟩
theorem LRow.get {w : World} {a : Option Addr} {m c : Nat} {A : Nat → Option Addr} {N C : Nat → Nat} {F : Nat → Nat → Int} (h : LRow w a m c A N C F) {j : Nat} (hj : j < m) :
    ∃ b off, a = some ⟨b, off, none⟩ ∧ b < w.heap.size ∧ w.cell? ⟨b, off + j, none⟩ = some (.slice (A j) (N j) (C j)) ∧ KRow w .i64 (A j) (N j) (C j) (F j) ∧ (A j = none → C j = 0) := by
  rcases h.2.2 with h | ⟨b, off, rfl, hl, hc⟩
  · omega
  · exact ⟨b, off, rfl, hl, hc j hj⟩
/-- One row behind another one. -/
def app (f : Nat → Int) (n : Nat) (g : Nat → Int) : Nat → Int := fun j => if j < n then f j else g (j - n)
theorem kcs_congr {ki : IntKind} {f g : Nat → Int} : ∀ {n : Nat}, (∀ j, j < n → f j = g j) → kcs ki f n = kcs ki g n
  | 0, _ => rfl
  | n + 1, h => by unfold kcs; rw [kcs_congr (fun j hj => h j (by omega)), h n (by omega)]
theorem kcs_app (ki : IntKind) (f : Nat → Int) (n : Nat) (g : Nat → Int) : ∀ m, kcs ki (app f n g) (n + m) = kcs ki f n ++ kcs ki g m
  | 0 => by
    rw [Nat.add_zero, show kcs ki g 0 = [] from rfl, List.append_nil]
    exact kcs_congr fun j hj => by unfold app; rw [if_pos hj]
  | m + 1 => by
    show kcs ki (app f n g) (n + m) ++ [.int ki (app f n g (n + m))] = kcs ki f n ++ (kcs ki g m ++ [.int ki (g m)])
    rw [kcs_app ki f n g m, show app f n g (n + m) = g m by unfold app; rw [if_neg (by omega), Nat.add_sub_cancel_left], List.append_assoc]
theorem kcs_one (ki : IntKind) (f : Nat → Int) (n : Nat) : ∀ u ∈ kcs ki f n, u.oneCell' = true := by
  induction n with
  | zero => intro u hu; cases hu
  | succ n ih =>
    intro u hu
    unfold kcs at hu
    rcases List.mem_append.1 hu with h | h
    · exact ih u h
    · simp at h; subst h; rfl
theorem krow_news {w : World} {ki : IntKind} {b off n c : Nat} {f : Nat → Int} (h : KRow w ki (some ⟨b, off, none⟩) n c f) : ∀ j u, (kcs ki f n)[j]? = some u → w.cell? ((⟨b, off, none⟩ : Addr).add j) = some u := fun j u hu => by
  have hj : j < n := by
    have := (List.getElem?_eq_some_iff.1 hu).1
    rwa [kcs_length] at this
  rw [kcs_get ki f n j hj] at hu
  obtain rfl := Option.some.inj hu
  obtain ⟨b', off', e, _, hc⟩ := h.get hj
  cases e
  rw [show (⟨b, off, none⟩ : Addr).add j = ⟨b, off + j, none⟩ by simp [Addr.add]]
  exact hc
/-- A row of integers, nil or not, appended to a row that the call owns. -/
theorem run_append_krow {w : World} (ty : TypeId) (base : Nat) (v : Value) (n : Nat) (xs : List Value) (hown : w.ownsRow base 3 1 v n xs) (a : Option Addr) (m c : Nat) (f : Nat → Int) (h : KRow w .i64 a m c f) (hn : a = none → c = 0) (h1 : n + m ≤ 1000000) (hbase : base ≤ w.heap.size) :
    ∃ v' w', (Builtin.append_ #[22, 22] ty #[v, .slice a m c]).run Tryz.prog w = .ok v' w' ∧ w'.ownsRow base 3 1 v' (n + m) (xs ++ kcs .i64 f m) ∧ w.grownBy w' v.ownBlock := by
  obtain ⟨i0, hi, hz0, hz1, hz2⟩ := info_parts infoI
  cases a with
  | none =>
    have hc := hn rfl
    subst hc
    have hm : m = 0 := by have := h.1; omega
    subst hm
    refine ⟨v, w, run_append_owned_none w base _ ty _ i0 1 Tryz.underlying22 hi v n xs hown, ?_, ⟨rfl, rfl, rfl, Nat.le_refl _, fun _ _ _ => rfl⟩⟩
    rw [show kcs .i64 f 0 = [] from rfl, List.append_nil]
    exact hown
  | some ad =>
    obtain ⟨b9, off9, sp⟩ := ad
    have hnews : ∀ i u, (kcs .i64 f m)[i]? = some u → w.cell? ((⟨b9, off9, sp⟩ : Addr).add i) = some u := by
      rcases h.2.2 with h0 | ⟨_, _, e, _⟩
      · rw [h0]; intro i u hu; simp [kcs] at hu
      · cases e; exact krow_news h
    obtain ⟨v', w', e1, e2, e3, _⟩ := run_append_own (P := Tryz.prog) w base 22 ty 3 i0 _ 1 8 Tryz.underlying22 hi hz0 hz1 hz2 rfl (by omega) v n xs hown ⟨b9, off9, sp⟩ m c (kcs .i64 f m) (by rw [kcs_length, Nat.mul_one]) hnews (kcs_one .i64 f m) (by unfold maxLen; omega) (by omega) hbase
    exact ⟨v', w', e1, e2, e3⟩
/-- With another number at one place. -/
def wiF (f : Nat → Int) (i x : Int) : Nat → Int := fun j => if (j : Int) = i then x else f j
end Go.Proofs.YtpmcbnliogjknaaGreatDoor

namespace Go.Proofs.YtpmcbnliogjknaaGreatDoor
open Go.RowKit
theorem LRow.three {w : World} {g : Nat} {t : TypeId} {a1 a2 a3 : Option Addr} {n1 c1 n2 c2 n3 c3 : Nat} {f1 f2 f3 : Nat → Int} (h : Row w g t #[.slice a1 n1 c1, .slice a2 n2 c2, .slice a3 n3 c3]) (k1 : KRow w .i64 a1 n1 c1 f1) (k2 : KRow w .i64 a2 n2 c2 f2) (k3 : KRow w .i64 a3 n3 c3 f3) (e1 : a1 = none → c1 = 0) (e2 : a2 = none → c2 = 0) (e3 : a3 = none → c3 = 0) :
    LRow w (some ⟨g, 0, none⟩) 3 3 (fun j => if j = 0 then a1 else if j = 1 then a2 else a3) (fun j => if j = 0 then n1 else if j = 1 then n2 else n3) (fun j => if j = 0 then c1 else if j = 1 then c2 else c3) (fun j => if j = 0 then f1 else if j = 1 then f2 else f3) := by
  refine ⟨Nat.le_refl _, by unfold maxLen; omega, .inr ⟨g, 0, rfl, h.lt, fun j hj => ?_⟩⟩
  have : j = 0 ∨ j = 1 ∨ j = 2 := by omega
  rcases this with rfl | rfl | rfl
  · exact ⟨h.cell 0, k1, e1⟩
  · exact ⟨h.cell 1, k2, e2⟩
  · exact ⟨h.cell 2, k3, e3⟩
theorem KRow.congr {w : World} {ki : IntKind} {a : Option Addr} {n c : Nat} {f g : Nat → Int} (h : KRow w ki a n c f) (e : ∀ j, j < n → f j = g j) : KRow w ki a n c g := by
  refine ⟨h.1, h.2.1, h.2.2.imp id ?_⟩
  rintro ⟨b, off, rfl, hl, hc⟩
  exact ⟨b, off, rfl, hl, fun j hj => by rw [← e j hj]; exact hc j hj⟩
/-- What Split answers. -/
def spB (f : Nat → Int) (n : Nat) (i : Int) : Bool := shB f n && (decide (0 ≤ i) && decide (i < (n : Int)))
def SpTold (f : Nat → Int) (n : Nat) (i : Int) (w w' : World) (e : Ending) : Prop :=
  e = .returned (.tuple #[.int .i64 (if spB f n i then itm f i.toNat else 0), .int .i64 (if spB f n i then f i.toNat else 0), .int .i64 (if spB f n i then itm (shf f (i.toNat + 1)) (n - (i.toNat + 1)) else 0), .bool (spB f n i)]) ∧ Below w.heap.size w w'
theorem SpTold.no {f : Nat → Int} {n : Nat} {i : Int} {w w' : World} (hb : Below w.heap.size w w') (h : spB f n i = false) : SpTold f n i w w' (.returned (.tuple #[.int .i64 0, .int .i64 0, .int .i64 0, .bool false])) := by
  refine ⟨?_, hb⟩
  rw [h]
  rfl
theorem SpTold.yes {f : Nat → Int} {n k : Nat} {w w' : World} (hb : Below w.heap.size w w') (h : shB f n = true) (hk : k < n) : SpTold f n k w w' (.returned (.tuple #[.int .i64 (itm f k), .int .i64 (f k), .int .i64 (itm (shf f (k + 1)) (n - (k + 1))), .bool true])) := by
  refine ⟨?_, hb⟩
  have : spB f n k = true := by unfold spB; rw [h, decide_eq_true (show (0 : Int) ≤ k by omega), decide_eq_true (show (k : Int) < n by omega)]; rfl
  rw [this]
  rfl
end Go.Proofs.YtpmcbnliogjknaaGreatDoor

namespace Go.Proofs.YtpmcbnliogjknaaGreatDoor
open Go.RowKit
def RPlTold (f : Nat → Int) (n : Nat) (g : Nat → Int) (m : Nat) (w w' : World) (e : Ending) : Prop :=
  ∃ x, e = .returned (.int .i64 x) ∧ (inB f g (min n m) = false → x = -1) ∧ (axB f (min n m) = true → inB f g (min n m) = true → x = plc f g (min n m)) ∧ Below w.heap.size w w'
set_option maxHeartbeats 1600000 in
set_option maxRecDepth 100000 in
theorem r6Place_any (a : Option Addr) (n c : Nat) (f : Nat → Int) (a2 : Option Addr) (m c2 : Nat) (g : Nat → Int) (w : World) (h : KRow w .i64 a n c f) (h2 : KRow w .i64 a2 m c2 g) :
    Calls Tryz.prog 56 #[.slice a n c, .slice a2 m c2] w fun e w' => RPlTold f n g m w w' e := by
  have hl := h.len
  have hl2 := h2.len
  have H1 := Lib.hid h
  have H2 := Lib.hid h2
  clear h h2
  obtain ⟨mn, hmn⟩ : ∃ q, min n m = q := ⟨_, rfl⟩
  have hm1 : mn ≤ n := by omega
  have hm2 : mn ≤ m := by omega
  unfold RPlTold
  rw [hmn]
  go_enter Tryz.func56, Tryz.ntmps56
  go_wp2
  go_loopw [5, 6] (fun t i wr => ∃ (k : Nat) (x : Int), k ≤ mn ∧ i = .int .i64 k ∧ t = .int .i64 x ∧ Hid (inB f g k = true ∧ (axB f k = true → x = plc f g k) ∧ Below w.heap.size w wr)) (fun _ i _ => mn - (intOf i).toNat)
  case atStart => exact ⟨0, 0, by omega, rfl, rfl, rfl, fun _ => rfl, Below.refl _ _⟩
  case round =>
    obtain ⟨k, x, hk, rfl, rfl, hrel⟩ := hrel
    obtain ⟨hin, hpl, hbl⟩ := hrel.out
    by_cases hlt : k < mn
    · obtain ⟨b, off, rfl, hb, hc⟩ := (H1.out.below hbl).get (show k < n by omega)
      obtain ⟨b2, off2, rfl, hb2, hc2⟩ := (H2.out.below hbl).get (show k < m by omega)
      have HBL := Lib.hid hbl
      have hk0 : (0 : Int) ≤ k := by omega
      have hk1 : (k : Int) < n := by omega
      have hk2 : (k : Int) < m := by omega
      by_cases h0 : g k < 0
      · have HN := Lib.hid (inB_no (f := f) (g := g) hlt (by omega))
        clear hbl hin hpl hrel hmn
        generalize g k = y at *
        generalize f k = x' at *
        go_wp2_with fail
        go_quiet (fail)
        have HBE := Lib.hid (below_drewN HBL.out nq)
        go_wp2
        go_ret
        exact ⟨-1, rfl, fun _ => rfl, (fun _ h => by rw [HN.out] at h; cases h), HBE.out⟩
      · by_cases h1 : f k ≤ g k
        · have HN := Lib.hid (inB_no (f := f) (g := g) hlt (by omega))
          clear hbl hin hpl hrel hmn
          generalize g k = y at *
          generalize f k = x' at *
          go_wp2_with fail
          go_quiet (fail)
          have HBE := Lib.hid (below_drewN HBL.out nq)
          go_wp2
          go_ret
          exact ⟨-1, rfl, fun _ => rfl, (fun _ h => by rw [HN.out] at h; cases h), HBE.out⟩
        · have hin' : inB f g (k + 1) = true := by unfold inB; rw [hin, decide_eq_true (show 0 ≤ g k by omega), decide_eq_true (show g k < f k by omega)]; rfl
          have hpl' : axB f (k + 1) = true → wrap64 (wrap64 (x * f k) + g k) = plc f g (k + 1) := fun hax => by
            have hpb := plc_bd hax hin'
            have hpb0 := plc_bd (ax_le (Nat.le_succ k) hax) hin
            have hit := (ax_bd hax).2.2.2
            have hrm := (ax_bd hax).2.1
            have e2 : plc f g (k + 1) = plc f g k * f k + g k := rfl
            rw [e2] at hpb
            have hm0 : 0 ≤ plc f g k * f k := Int.mul_nonneg hpb0.1 (by omega)
            rw [hpl (ax_le (Nat.le_succ k) hax), IntWalk.wrap64_in (plc f g k * f k) (by omega), IntWalk.wrap64_in (plc f g k * f k + g k) (by omega)]
            exact e2.symm
          have HN := Lib.hid (And.intro hin' hpl')
          clear hbl hin hin' hpl hpl' hrel hmn
          generalize g k = y at *
          generalize f k = x' at *
          go_wp2_with fail
          go_quiet (fail)
          go_wp2_with fail
          go_quiet (fail)
          go_wp2
          go_roundw
          case rel => exact ⟨k + 1, _, by omega, by go_num, rfl, HN.out.1, HN.out.2, below_drewN HBL.out _⟩
          case measure => simp [intOf]; omega
    · obtain rfl : k = mn := by omega
      have HE := Lib.hid (And.intro hin (And.intro hpl hbl))
      clear hbl hin hpl hrel
      by_cases hkn : (k : Int) < n
      · have hkm : ¬ (k : Int) < m := by omega
        go_wp2
        go_ret
        exact ⟨x, rfl, fun h => (by rw [HE.out.1] at h; cases h), fun h _ => HE.out.2.1 h, HE.out.2.2⟩
      · go_wp2
        go_ret
        exact ⟨x, rfl, fun h => (by rw [HE.out.1] at h; cases h), fun h _ => HE.out.2.1 h, HE.out.2.2⟩
end Go.Proofs.YtpmcbnliogjknaaGreatDoor

namespace Go.Proofs.YtpmcbnliogjknaaGreatDoor
open Go.RowKit
theorem itm_congr {f f' : Nat → Int} : ∀ {n : Nat}, (∀ j, j < n → f j = f' j) → itm f n = itm f' n
  | 0, _ => rfl
  | n + 1, h => by
    show itm f n * f n = itm f' n * f' n
    rw [itm_congr (fun j hj => h j (by omega)), h n (by omega)]
end Go.Proofs.YtpmcbnliogjknaaGreatDoor

namespace Go.Proofs.YtpmcbnliogjknaaGreatDoor
open Go.RowKit
theorem Arr.away {w w' : World} {cs : Array Value} {S : Nat → Int} {r : Nat} {ch : Bool} {L : Nat} {g fP : Nat → Int} {fQ : Nat → Nat} (h : Arr w cs S r ch L g fP fQ) {k : Nat} {t : TypeId} {ch' : Bool} {more : Int} {d : Nat → Int} {na : Option Addr} {nn nc : Nat} {ta : Option Addr} {tn tc : Nat} (hr : Row w k t (arrC ch' more d na nn nc ta tn tc)) (hf : Far k w w') : Arr w' cs S r ch L g fP fQ := by
  refine ⟨fun e => ?_, fun e => ?_⟩
  · obtain ⟨a, c, h1, h2⟩ := h.1 e
    exact ⟨a, c, h1, h2.away (KRow.ne h2 (by decide) hr) hf⟩
  · obtain ⟨a, c, h1, h2⟩ := h.2 e
    exact ⟨a, c, h1, h2.away (Row.noLimb hr) (RRow.ne h2 hr) hf⟩
theorem Arr.put {w : World} {cs : Array Value} {S : Nat → Int} {r : Nat} {ch : Bool} {L : Nat} {g fP : Nat → Int} {fQ : Nat → Nat} (h : Arr w cs S r ch L g fP fQ) {k : Nat} {t : TypeId} (hr : Row w k t zerC) (cs' : Array Value) : Arr (w.setRow k cs') cs S r ch L g fP fQ := by
  rw [zerC_row] at hr
  exact h.away hr (Far.setRow _ _ _)
end Go.Proofs.YtpmcbnliogjknaaGreatDoor

namespace Go.Proofs.YtpmcbnliogjknaaGreatDoor
open Go.RowKit
/-- Twelve cells that are an array's. -/
def IsA (cs : Array Value) : Prop := ∃ ch more d na nn nc ta tn tc, cs = arrC ch more d na nn nc ta tn tc
theorem IsA.zer : IsA zerC := ⟨_, _, _, _, _, _, _, _, _, rfl⟩
theorem IsA.size {cs : Array Value} (h : IsA cs) : cs.size = 12 := by
  obtain ⟨_, _, _, _, _, _, _, _, _, rfl⟩ := h
  rfl
theorem IsA.one {cs : Array Value} (h : IsA cs) : cs.all (·.oneCell') = true := by
  obtain ⟨_, _, _, _, _, _, _, _, _, rfl⟩ := h
  exact arrC_one _ _ _ _ _ _ _ _ _
theorem Arr.isA {w : World} {cs : Array Value} {S : Nat → Int} {r : Nat} {ch : Bool} {L : Nat} {g fP : Nat → Int} {fQ : Nat → Nat} (h : Arr w cs S r ch L g fP fQ) : IsA cs := by
  obtain ⟨na, nn, nc, ta, tn, tc, rfl, _⟩ := h.form
  exact ⟨_, _, _, _, _, _, _, _, _, rfl⟩
theorem Arr.store {w : World} {cs : Array Value} {S : Nat → Int} {r : Nat} {ch : Bool} {L : Nat} {g fP : Nat → Int} {fQ : Nat → Nat} (h : Arr w cs S r ch L g fP fQ) {k : Nat} {t : TypeId} {z : Array Value} (hr : Row w k t z) (hz : IsA z) (cs' : Array Value) : Arr (w.setRow k cs') cs S r ch L g fP fQ := by
  obtain ⟨_, _, _, _, _, _, _, _, _, rfl⟩ := hz
  exact h.away hr (Far.setRow _ _ _)
theorem ev_tmp {a : Act} {d : Nat} {v : Value} (h : a.tmps[d]? = some v) : a.eval (.tmp d) = v := by
  show a.tmps.getD d undef = v
  rw [Array.getD_eq_getD_getElem?, h]; rfl
theorem ld8 {o : Oper} {a : Act} {w : World} {K : Act → World → Prop} {Q : Exit → Act → World → Prop} (d : Nat) (ho : o.op = .load 32 (.tmp d)) (g : Nat) (cs : Array Value) (hd : a.tmps[d]? = some (.pointer (some ⟨g, 0, none⟩))) (hr : Row w g 32 cs) (hs : cs.size = 12)
    (hK : K (a.put o.dst (.agg cs)) w) : o.wp Tryz.prog a w K Q :=
  wp_load_row 32 (.tmp d) ho g (ev_tmp hd) 32 cs (0, 0) _ hr Tryz.underlying32 rfl (by rw [arr12, hs]) hK
theorem ldP {o : Oper} {a : Act} {w : World} {K : Act → World → Prop} {Q : Exit → Act → World → Prop} (d : Nat) (ho : o.op = .load 26 (.tmp d)) (g : Nat) (cs : Array Value) (hd : a.tmps[d]? = some (.pointer (some ⟨g, 0, none⟩))) (hr : Row w g 26 cs) (hs : cs.size = 4)
    (hK : K (a.put o.dst (.agg cs)) w) : o.wp Tryz.prog a w K Q :=
  wp_load_row 26 (.tmp d) ho g (ev_tmp hd) 26 cs (0, 0) _ hr Tryz.underlying26 rfl (by rw [pln4, hs]) hK
theorem st8 {o : Oper} {a : Act} {w : World} {K : Act → World → Prop} {Q : Exit → Act → World → Prop} (d s : Nat) (ho : o.op = .store 32 (.tmp d) (.tmp s)) (g : Nat) (cs : Array Value) (hd : a.tmps[d]? = some (.pointer (some ⟨g, 0, none⟩))) (hs : a.tmps[s]? = some (.agg cs)) (t : TypeId) (z : Array Value) (hr : Row w g t z) (hz : IsA z) (hc : IsA cs)
    (hK : K (a.put o.dst undef) (w.setRow g cs)) : o.wp Tryz.prog a w K Q :=
  wp_store_row 32 (.tmp d) (.tmp s) ho g cs (ev_tmp hd) (ev_tmp hs) t z hr (by rw [arr12, hc.size]) (by rw [hz.size, hc.size]) hc.one hK
/-- What answers an array and an error. -/
def MoTold (E : Int) (S : Nat → Int) (r : Nat) (ch : Bool) (L : Nat) (g fP : Nat → Int) (fQ : Nat → Nat) (w w' : World) (e : Ending) : Prop :=
  ∃ cs, e = .returned (.tuple #[.agg cs, .int .i64 E]) ∧ (E = 0 → Arr w' cs S r ch L g fP fQ) ∧ (E ≠ 0 → cs = zerC) ∧ Below w.heap.size w w'
theorem MoTold.no {E : Int} (hE : E ≠ 0) {S : Nat → Int} {r : Nat} {ch : Bool} {L : Nat} {g fP : Nat → Int} {fQ : Nat → Nat} {w w' : World} (hb : Below w.heap.size w w') : MoTold E S r ch L g fP fQ w w' (.returned (.tuple #[.agg zerC, .int .i64 E])) :=
  ⟨zerC, rfl, fun e => absurd e hE, fun _ => rfl, hb⟩
theorem MoTold.yes {S : Nat → Int} {r : Nat} {ch : Bool} {L : Nat} {g fP : Nat → Int} {fQ : Nat → Nat} {w w' : World} {cs : Array Value} (h : Arr w' cs S r ch L g fP fQ) (hb : Below w.heap.size w w') : MoTold 0 S r ch L g fP fQ w w' (.returned (.tuple #[.agg cs, .int .i64 0])) :=
  ⟨cs, rfl, fun _ => h, fun e => absurd rfl e, hb⟩
end Go.Proofs.YtpmcbnliogjknaaGreatDoor

namespace Go.Proofs.YtpmcbnliogjknaaGreatDoor
open Go.RowKit
attribute [local go_sem ↓] Go.wp_at_zero Go.wp_at_succ
theorem lenZ_any (w : World) : Calls Tryz.prog 28 #[.agg zerC] w fun e w' => e = .returned (.int .i64 0) ∧ Below w.heap.size w w' :=
  len_any false 0 (fun _ => 0) none 0 0 none 0 0 w
/-- An array and a plain one that say the same. -/
structure Shown (w : World) (cs pcs : Array Value) : Prop where
  ex : ∃ S r ch L g fP fQ S' g' fB fS fT, Arr w cs S r ch L g fP fQ ∧ Pln w pcs S' r ch L g' fB fS fT ∧ r ≤ 8 ∧ L ≤ 1000000 ∧ Small ch L fP fQ ∧ (∀ j, j < r → S j = S' j) ∧ (∀ j, j < tnO ch L → g j = g' j) ∧ ∀ j, j < nnO ch L → rB (fP j) = fB j ∧ rS (fP j) = fS j ∧ str (dec (fQ j)) = fT j
theorem Shown.below {w w' : World} {cs pcs : Array Value} (h : Shown w cs pcs) (hb : Below w.heap.size w w') : Shown w' cs pcs := by
  obtain ⟨S, r, ch, L, g, fP, fQ, S', g', fB, fS, fT, h1, h2, h3⟩ := h.ex
  exact ⟨S, r, ch, L, g, fP, fQ, S', g', fB, fS, fT, h1.below hb, h2.below hb, h3⟩
end Go.Proofs.YtpmcbnliogjknaaGreatDoor

namespace Go.Proofs.YtpmcbnliogjknaaGreatDoor
open Go.RowKit
/-- The numbers of a plain array. -/
def gP (fB : Nat → Bool) (fS fT : Nat → ByteArray) : Nat → Int := fun j => ofP (fB j) (fS j) (fT j)
def gQ (fB : Nat → Bool) (fS fT : Nat → ByteArray) : Nat → Nat := fun j => ofQ (fB j) (fS j) (fT j)
/-- A plain array that is light. -/
structure Good (S : Nat → Int) (r : Nat) (ch : Bool) (L : Nat) (fB : Nat → Bool) (fS fT : Nat → ByteArray) : Prop where
  le : L ≤ 250
  rank : r ≤ 8
  sh : shB S r = true
  cnt : itm S r = (L : Nat)
  short : Short fS fT (nnO ch L)
  of : ofB S r ch (tnO ch L) fB fS fT (nnO ch L) = true
theorem good_of {S : Nat → Int} {r : Nat} {ch : Bool} {tn : Nat} {fB : Nat → Bool} {fS fT : Nat → ByteArray} {nn : Nat} (h : (tn : Int) ≤ 250 ∧ (nn : Int) ≤ 250 ∧ r ≤ 8 ∧ Short fS fT nn ∧ ofB S r ch tn fB fS fT nn = true) :
    ∃ L, tn = tnO ch L ∧ nn = nnO ch L ∧ Good S r ch L fB fS fT := by
  obtain ⟨h1, h2, h3, h4, h5⟩ := h
  obtain ⟨q1, q2, q3, q4, q5⟩ := ofB_true h5
  cases ch with
  | true =>
    obtain rfl := q3 rfl
    exact ⟨tn, rfl, rfl, by omega, h3, q1, q2, h4, h5⟩
  | false =>
    obtain rfl := q4 rfl
    exact ⟨nn, rfl, rfl, by omega, h3, q1, q2, h4, h5⟩
theorem Good.num {S : Nat → Int} {r : Nat} {ch : Bool} {L : Nat} {fB : Nat → Bool} {fS fT : Nat → ByteArray} (h : Good S r ch L fB fS fT) : NumOk fB fS fT (gP fB fS fT) (gQ fB fS fT) (nnO ch L) := ofO_num (ofB_true h.of).2.2.2.2 h.short
theorem Good.small {S : Nat → Int} {r : Nat} {ch : Bool} {L : Nat} {fB : Nat → Bool} {fS fT : Nat → ByteArray} (h : Good S r ch L fB fS fT) : Small ch L (gP fB fS fT) (gQ fB fS fT) := fun e => by
  have := ofO_cmp (ofB_true h.of).2.2.2.2 h.short
  subst e
  exact this
theorem Good.pos {S : Nat → Int} {r : Nat} {ch : Bool} {L : Nat} {fB : Nat → Bool} {fS fT : Nat → ByteArray} (h : Good S r ch L fB fS fT) : ch = false → ∀ j, j < L → 0 < gQ fB fS fT j := fun e j hj => (h.small e j hj).1
theorem Good.told {S : Nat → Int} {r : Nat} {ch : Bool} {L : Nat} {fB : Nat → Bool} {fS fT : Nat → ByteArray} (h : Good S r ch L fB fS fT) : ∀ j, j < nnO ch L → rB (gP fB fS fT j) = fB j ∧ rS (gP fB fS fT j) = fS j ∧ str (dec (gQ fB fS fT j)) = fT j := fun j hj => by
  obtain ⟨e1, e2, e3, _⟩ := h.num j hj
  exact ⟨e1.symm, e2.symm, e3.symm⟩
theorem Good.in64 {S : Nat → Int} {r : Nat} {ch : Bool} {L : Nat} {fB : Nat → Bool} {fS fT : Nat → ByteArray} (h : Good S r ch L fB fS fT) : In64 S r := fun j hj => by
  have h1 := ax_bd (ax_le (show j + 1 ≤ r by omega) (sh_ax h.sh).2)
  have h2 := rm_pos S j
  have h3 : 1 * max (S j) 1 ≤ rm S j * max (S j) 1 := Int.mul_le_mul h2 (Int.le_refl _) (by omega) (by omega)
  have h4 : rm S (j + 1) = rm S j * max (S j) 1 := rfl
  have h5 := ax_nn (sh_ax h.sh).2 hj
  omega
/-- The law's way to the program's array. -/
theorem of8_any (cs : Array Value) (S : Nat → Int) (r : Nat) (ch : Bool) (L : Nat) (g : Nat → Int) (fB : Nat → Bool) (fS fT : Nat → ByteArray) (w : World) (h : Pln w cs S r ch L g fB fS fT) (hg : Good S r ch L fB fS fT) :
    Calls Tryz.prog 9 #[.agg cs] w fun e w' => ∃ a, e = .returned (.agg a) ∧ Arr w' a S r ch L g (gP fB fS fT) (gQ fB fS fT) ∧ Below w.heap.size w w' := by
  have h1 : nnO ch L ≤ 100000 := by have := hg.le; unfold nnO; split <;> omega
  have h2 : tnO ch L ≤ 100000 := by have := hg.le; unfold tnO; split <;> omega
  refine (lof_any cs S r ch g (tnO ch L) fB fS fT (nnO ch L) w h hg.in64 hg.short h1 h2 hg.of).mono ?_
  rintro e w' ⟨na, nc, ta, tc, rfl, k1, k2, k3, k4, hb⟩
  refine ⟨_, rfl, ⟨fun e => ?_, fun e => ?_⟩, hb⟩
  · subst e
    obtain ⟨rfl, rfl⟩ := k4 rfl
    exact ⟨ta, tc, rfl, k2⟩
  · subst e
    obtain ⟨rfl, rfl⟩ := k3 rfl
    exact ⟨na, nc, rfl, k1⟩
end Go.Proofs.YtpmcbnliogjknaaGreatDoor

namespace Go.Proofs.YtpmcbnliogjknaaGreatDoor
open Go.RowKit
/-- The axis that is meant. -/
def axI (r : Nat) (i : Int) : Int := if i < 0 then (r : Int) - 1 else i
/-- Is there such an axis? -/
def axQ (r : Nat) (i : Int) : Bool := decide (0 ≤ axI r i) && decide (axI r i < (r : Int))
theorem arr_cells12 {w : World} {k : Nat} {t : TypeId} {ch : Bool} {more : Int} {d : Nat → Int} {na : Option Addr} {nn nc : Nat} {ta : Option Addr} {tn tc : Nat} (h : Row w k t (arrC ch more d na nn nc ta tn tc)) :
    w.cell? ⟨k, 0, none⟩ = some (.bool ch) ∧ w.cell? ⟨k, 1, none⟩ = some (.int .i64 more) ∧ w.cell? ⟨k, 2, none⟩ = some (.int .i64 (d 0)) ∧ w.cell? ⟨k, 3, none⟩ = some (.int .i64 (d 1)) ∧ w.cell? ⟨k, 4, none⟩ = some (.int .i64 (d 2)) ∧ w.cell? ⟨k, 5, none⟩ = some (.int .i64 (d 3)) ∧ w.cell? ⟨k, 6, none⟩ = some (.int .i64 (d 4)) ∧ w.cell? ⟨k, 7, none⟩ = some (.int .i64 (d 5)) ∧ w.cell? ⟨k, 8, none⟩ = some (.int .i64 (d 6)) ∧ w.cell? ⟨k, 9, none⟩ = some (.int .i64 (d 7)) ∧ w.cell? ⟨k, 10, none⟩ = some (.slice na nn nc) ∧ w.cell? ⟨k, 11, none⟩ = some (.slice ta tn tc) :=
  ⟨h.cell 0, h.cell 1, h.cell 2, h.cell 3, h.cell 4, h.cell 5, h.cell 6, h.cell 7, h.cell 8, h.cell 9, h.cell 10, h.cell 11⟩
set_option maxHeartbeats 1600000 in
set_option maxRecDepth 100000 in
theorem moAxis_any (cs : Array Value) (S : Nat → Int) (r : Nat) (ch : Bool) (L : Nat) (g fP : Nat → Int) (fQ : Nat → Nat) (i : Int) (w : World) (h : Arr w cs S r ch L g fP fQ) (hr : r ≤ 8) :
    Calls Tryz.prog 64 #[.agg cs, .int .i64 i] w fun e w' => e = .returned (.tuple #[.int .i64 (axI r i), .bool (axQ r i)]) ∧ Below w.heap.size w w' := by
  obtain ⟨na, nn, nc, ta, tn, tc, hcs, _⟩ := h.form
  subst hcs
  have H := Lib.hid h
  have RK := Lib.hid (fun wz h => rank8_any (arrC ch ((r : Int) - 1) (dm S r) na nn nc ta tn tc) S r ch L g fP fQ wz h (by omega))
  have RU := RK
  unfold arrC at RU
  have BB := Lib.hid ((Bag.start w).newRow (arrC ch ((r : Int) - 1) (dm S r) na nn nc ta tn tc) 32)
  have HR1 := Lib.hid BB.out.now.1
  have w1 := IntWalk.i64_in ((r : Int) - 1) (by omega)
  clear h
  by_cases hn : i < 0
  · have hx : axI r i = (r : Int) - 1 := by unfold axI; rw [if_pos hn]
    by_cases d1 : 0 ≤ (r : Int) - 1
    · have hq : axQ r i = true := by unfold axQ; rw [hx, decide_eq_true d1, decide_eq_true (show (r : Int) - 1 < r by omega)]; rfl
      rw [hq, hx]
      have d2 : (r : Int) - 1 < r := by omega
      clear hx hq
      unfold arrC
      go_enter Tryz.func64, Tryz.ntmps64
      go_wp2_with (refine ld_arr rfl (.tmp 2) rfl w.heap.size rfl HR1.out ?_)
      go_at_call 44
      (with_reducible refine (RK.out _ ?_).mono ?_)
      · exact H.out.below BB.out.below
      rintro e w2 ⟨rfl, hb2⟩
      have BB := Lib.hid (BB.out.go hb2)
      clear hb2
      obtain ⟨y0, y1, y2, y3, y4, y5, y6, y7, y8, y9, y10, y11⟩ := arr_cells12 BB.out.now.1
      go_wp2_with fail
      go_at_call 44
      (with_reducible refine (RU.out _ ?_).mono ?_)
      · exact H.out.below BB.out.below
      rintro e w3 ⟨rfl, hb2⟩
      have HE := Lib.hid (BB.out.go hb2).below
      clear hb2 y0 y1 y2 y3 y4 y5 y6 y7 y8 y9 y10 y11
      go_wp2
      exact bodyPost_ret (v := .tuple #[.int .i64 ((r : Int) - 1), .bool true]) (by simp [results, Tryz.results64, go_sem]) rfl ⟨rfl, HE.out⟩
    · have hq : axQ r i = false := by unfold axQ; rw [hx, decide_eq_false d1]; rfl
      rw [hq, hx]
      have dz : decide (0 ≤ (r : Int) - 1) = false := decide_eq_false d1
      clear hx hq
      unfold arrC
      go_enter Tryz.func64, Tryz.ntmps64
      go_wp2_with (refine ld_arr rfl (.tmp 2) rfl w.heap.size rfl HR1.out ?_)
      go_at_call 44
      (with_reducible refine (RK.out _ ?_).mono ?_)
      · exact H.out.below BB.out.below
      rintro e w2 ⟨rfl, hb2⟩
      have HE := Lib.hid (BB.out.go hb2).below
      clear hb2
      go_wp2
      exact bodyPost_ret (v := .tuple #[.int .i64 ((r : Int) - 1), .bool false]) (by simp [results, Tryz.results64, go_sem]) rfl ⟨rfl, HE.out⟩
  · have hx : axI r i = i := by unfold axI; rw [if_neg hn]
    have d1 : 0 ≤ i := by omega
    have hq : axQ r i = decide (i < (r : Int)) := by unfold axQ; rw [hx, decide_eq_true d1]; rfl
    rw [hq, hx]
    clear hx hq hn w1
    obtain ⟨b, hb⟩ : ∃ b, decide (i < (r : Int)) = b := ⟨_, rfl⟩
    rw [hb]
    obtain ⟨y0, y1, y2, y3, y4, y5, y6, y7, y8, y9, y10, y11⟩ := arr_cells12 BB.out.now.1
    unfold arrC
    unfold arrC at y0 y1 y2 y3 y4 y5 y6 y7 y8 y9 y10 y11
    go_enter Tryz.func64, Tryz.ntmps64
    go_wp2_with fail
    go_at_call 44
    (with_reducible refine (RU.out _ ?_).mono ?_)
    · exact H.out.below BB.out.below
    rintro e w2 ⟨rfl, hb2⟩
    have HE := Lib.hid (BB.out.go hb2).below
    clear hb2 y0 y1 y2 y3 y4 y5 y6 y7 y8 y9 y10 y11
    go_wp2
    exact bodyPost_ret (v := .tuple #[.int .i64 i, .bool b]) (by simp [results, Tryz.results64, go_sem]) rfl ⟨rfl, HE.out⟩
/-- Where the elements are taken that go again and again. -/
def arG (L : Nat) : Nat → Int := fun j => if L = 0 then (j : Int) else ((j % L : Nat) : Int)
end Go.Proofs.YtpmcbnliogjknaaGreatDoor

namespace Go.Proofs.YtpmcbnliogjknaaGreatDoor
open Go.RowKit
/-- A row of integers that the call makes and that grows. -/
def OwnI (y0 w : World) (a : Option Addr) (k c : Nat) (f : Nat → Int) : Prop := Below y0.heap.size y0 w ∧ w.ownsRow y0.heap.size 3 1 (.slice a k c) k (kcs .i64 f k)
theorem OwnI.nil (y0 : World) (f : Nat → Int) : OwnI y0 y0 none 0 0 f := ⟨Below.refl _ _, World.ownsRow_nil _ _ _ _⟩
theorem OwnI.go {y0 w w' : World} {a : Option Addr} {k c : Nat} {f : Nat → Int} (h : OwnI y0 w a k c f) (hb : Below w.heap.size w w') : OwnI y0 w' a k c f := ⟨h.1.trans (hb.mono h.1.size), own_below h.2 hb⟩
theorem OwnI.krow {y0 w : World} {a : Option Addr} {k c : Nat} {f : Nat → Int} (h : OwnI y0 w a k c f) : KRow w .i64 a k c f := by
  obtain ⟨a', c', e, q⟩ := KRow.of_own h.2
  cases e
  exact q
/-- One number more. -/
theorem app1_step {y0 wr : World} {a : Option Addr} {k c : Nat} {f : Nat → Int} (h : OwnI y0 wr a k c f) {x : Int} (hx : x = f k) (hk : k + 1 ≤ 1000000) :
    ∃ a' c' y1, (Builtin.append_ #[22, 22] 22 #[.slice a k c, .slice (some ⟨wr.heap.size, 0, none⟩) 1 1]).run Tryz.prog (wr.alloc (.cells #[.int .i64 x] 3)) = .ok (.slice a' (k + 1) c') y1 ∧ OwnI y0 y1 a' (k + 1) c' f := by
  have hb : Below wr.heap.size wr (wr.alloc (.cells #[.int .i64 x] 3)) := (Below.refl _ _).alloc (Nat.le_refl _) _
  have h2 := own_below h.2 hb
  obtain ⟨v', w', e1, e2, e3⟩ := run_append_krow 22 y0.heap.size (.slice a k c) k _ h2 (some ⟨wr.heap.size, 0, none⟩) 1 1 (fun _ => x) (KRow.one' wr .i64 x 3) (fun e => by cases e) hk (by have := h.1.size; rw [World.size_alloc]; omega)
  have e4 : kcs .i64 f k ++ kcs .i64 (fun _ => x) 1 = kcs .i64 f (k + 1) := by rw [hx]; rfl
  rw [e4] at e2
  obtain ⟨a', c', rfl, _⟩ := KRow.of_own e2
  refine ⟨a', c', w', e1, ?_, e2⟩
  refine (h.1.trans (hb.mono h.1.size)).trans ⟨e3.os, e3.tape, e3.output, e3.size, fun j hj => e3.block j (Nat.lt_of_lt_of_le hj (by have := h.1.size; rw [World.size_alloc]; omega)) (fun e => ?_)⟩
  have := (h2.lt j e.symm).1
  omega
theorem wh_eq (ch : Bool) (L : Nat) (fP : Nat → Int) (fQ : Nat → Nat) : (decide (tnO ch L = 0) && whB fP fQ (nnO ch L)) = whC ch L fP fQ := by
  cases ch with
  | true => show (decide (L = 0) && true) = decide (L = 0); rw [Bool.and_true]
  | false => rfl
theorem wh_nn {ch : Bool} {L : Nat} {fP : Nat → Int} {fQ : Nat → Nat} (h : whC ch L fP fQ = true) : nnO ch L = L := by
  cases ch with
  | true => have : L = 0 := of_decide_eq_true h; subst this; rfl
  | false => rfl
theorem nnO_le (ch : Bool) (L : Nat) : nnO ch L ≤ L ∧ tnO ch L ≤ L := by unfold nnO tnO; cases ch <;> simp
theorem Pln.put {w : World} {cs : Array Value} {S : Nat → Int} {r : Nat} {ch : Bool} {L : Nat} {g : Nat → Int} {fB : Nat → Bool} {fS fT : Nat → ByteArray} (h : Pln w cs S r ch L g fB fS fT) {k : Nat} {t : TypeId} (hr : Row w k t plZer) (cs' : Array Value) : Pln (w.setRow k cs') cs S r ch L g fB fS fT := PlnAt.away h hr (noInt_pl _ _ _ _ _ _ _ _ _ _) (noStr_pl _ _ _ _ _ _ _ _ _ _) (Far.setRow _ _ _)
/-- What the document's functions answer: a plain array and an error. -/
def PoTold (E : Int) (S : Nat → Int) (r : Nat) (ch : Bool) (L : Nat) (g : Nat → Int) (fB : Nat → Bool) (fS fT : Nat → ByteArray) (w w' : World) (e : Ending) : Prop :=
  ∃ cs, e = .returned (.tuple #[.agg cs, .int .i64 E]) ∧ (E = 0 → Pln w' cs S r ch L g fB fS fT) ∧ (E ≠ 0 → cs = plZer) ∧ Below w.heap.size w w'
theorem PoTold.no {E : Int} (hE : E ≠ 0) {S : Nat → Int} {r : Nat} {ch : Bool} {L : Nat} {g : Nat → Int} {fB : Nat → Bool} {fS fT : Nat → ByteArray} {w w' : World} (hb : Below w.heap.size w w') : PoTold E S r ch L g fB fS fT w w' (.returned (.tuple #[.agg plZer, .int .i64 E])) :=
  ⟨plZer, rfl, fun e => absurd e hE, fun _ => rfl, hb⟩
theorem PoTold.yes {S : Nat → Int} {r : Nat} {ch : Bool} {L : Nat} {g : Nat → Int} {fB : Nat → Bool} {fS fT : Nat → ByteArray} {w w' : World} {cs : Array Value} (h : Pln w' cs S r ch L g fB fS fT) (hb : Below w.heap.size w w') : PoTold 0 S r ch L g fB fS fT w w' (.returned (.tuple #[.agg cs, .int .i64 0])) :=
  ⟨cs, rfl, fun _ => h, fun e => absurd rfl e, hb⟩
theorem Pln.form {w : World} {cs : Array Value} {S : Nat → Int} {r : Nat} {ch : Bool} {L : Nat} {g : Nat → Int} {fB : Nat → Bool} {fS fT : Nat → ByteArray} (h : Pln w cs S r ch L g fB fS fT) : ∃ sa sc ta tc na nc, cs = plC sa r sc ch ta (tnO ch L) tc na (nnO ch L) nc ∧ KRow w .i64 sa r sc S := by
  obtain ⟨sa, sc, ta, tc, na, nc, e, h1, _⟩ := h
  exact ⟨sa, sc, ta, tc, na, nc, e, h1⟩
theorem res_pln2 {fn : Func} {p q : Tmp} {tmps : Array Value} {w : World} {g : Nat} {cs : Array Value} {v : Value} (h : fn.results = #[.cell p 26, .tmp q]) (hp : tmps.getD p undef = .pointer (some ⟨g, 0, none⟩)) (hq : tmps.getD q undef = v) (hg : Row w g 26 cs) (hs : cs.size = 4) :
    (results fn tmps).run Tryz.prog w = .ok (.tuple #[.agg cs, v]) w := by
  have hp' : tmps[p]?.getD undef = .pointer (some ⟨g, 0, none⟩) := by simpa using hp
  have hq' : tmps[q]?.getD undef = v := by simpa using hq
  simp [results, h, hp', hq', asAddr, run_loadVar_row w g 26 26 cs (0, 0) _ hg Tryz.underlying26 rfl (by rw [pln4, hs])]
set_option maxHeartbeats 1600000 in
set_option maxRecDepth 100000 in
theorem rlist_any (cs : Array Value) (S : Nat → Int) (r : Nat) (ch : Bool) (L : Nat) (g : Nat → Int) (fB : Nat → Bool) (fS fT : Nat → ByteArray) (fP : Nat → Int) (fQ : Nat → Nat) (w : World) (h : Pln w cs S r ch L g fB fS fT) (hN : NumOk fB fS fT fP fQ (nnO ch L)) (hL : L ≤ 1000000) :
    Calls Tryz.prog 25 #[.agg cs] w fun e w' => LiTold (liE r (whC ch L fP fQ)) L fP w w' e := by
  have HP := Lib.hid h
  obtain ⟨sa, sc, ta, tc, na, nc, rfl, hk⟩ := h.form
  have hl := hk.len
  have WH : ∀ wz, Pln wz (plC sa r sc ch ta (tnO ch L) tc na (nnO ch L) nc) S r ch L g fB fS fT → Calls Tryz.prog 53 #[.agg (plC sa r sc ch ta (tnO ch L) tc na (nnO ch L) nc)] wz fun e w' => WhTold (whC ch L fP fQ) (nnO ch L) fP wz w' e := fun wz h => by
    have := r6Whole_any (plC sa r sc ch ta (tnO ch L) tc na (nnO ch L) nc) S r ch g (tnO ch L) fB fS fT (nnO ch L) fP fQ wz h hN (by have := nnO_le ch L; omega)
    rw [wh_eq] at this
    exact this
  have hnn : whC ch L fP fQ = true → nnO ch L = L := wh_nn
  have BB := Lib.hid ((Bag.start w).newRow (plC sa r sc ch ta (tnO ch L) tc na (nnO ch L) nc) 26)
  generalize whC ch L fP fQ = b at *
  clear h hN hk
  by_cases h1 : 1 < r
  · have d1 : (1 : Int) < (r : Int) := by omega
    have hE : liE r b = 23 := by unfold liE; rw [if_pos h1]
    rw [hE]
    have HE := Lib.hid BB.out.below
    clear h1 hE WH hnn
    unfold plC at HE
    unfold plC
    go_enter Tryz.func25, Tryz.ntmps25
    go_wp2
    exact bodyPost_ret (v := .tuple #[.slice none 0 0, .int .i64 23]) (by simp [results, Tryz.results25, go_sem]) rfl ⟨none, 0, 0, rfl, fun e => (by cases e), HE.out⟩
  · have d1 : ¬ ((1 : Int) < (r : Int)) := by omega
    have hE : liE r b = if b then 0 else 22 := by unfold liE; rw [if_neg h1]
    rw [hE]
    have HR := Lib.hid BB.out.now.1
    cases b with
    | false =>
      have WH := Lib.hid (fun wz h => (WH wz h).mono (fun _ _ hw => (show _ from by
        obtain ⟨a, m, c, he, h2, hb⟩ := hw
        rw [if_neg (by decide)] at h2
        exact (⟨a, m, c, he, hb⟩ : ∃ a m c, _ = Ending.returned (.tuple #[.slice a m c, .bool false]) ∧ _))))
      clear h1 hE hnn
      unfold plC
      go_enter Tryz.func25, Tryz.ntmps25
      go_wp2_with (refine ld_pln rfl (.tmp 1) rfl w.heap.size rfl HR.out ?_)
      go_at_call 53
      (with_reducible refine (WH.out _ ?_).mono ?_)
      · exact HP.out.below BB.out.below
      rintro e w3 ⟨a, m, c, rfl, hb3⟩
      have HE := Lib.hid (BB.out.go hb3).below
      clear hb3
      go_wp2
      exact bodyPost_ret (v := .tuple #[.slice none 0 0, .int .i64 22]) (by simp [results, Tryz.results25, go_sem]) rfl ⟨none, 0, 0, rfl, fun e => (by cases e), HE.out⟩
    | true =>
      have WH : Hid (∀ wz, Pln wz (plC sa r sc ch ta (tnO ch L) tc na (nnO ch L) nc) S r ch L g fB fS fT → Calls Tryz.prog 53 #[.agg (plC sa r sc ch ta (tnO ch L) tc na (nnO ch L) nc)] wz fun e w' => ∃ a c, e = .returned (.tuple #[.slice a L c, .bool true]) ∧ KRow w' .i64 a L c fP ∧ Below wz.heap.size wz w') := Lib.hid (fun wz h => (WH wz h).mono (by
        rintro e w' ⟨a, m, c, he, h2, hb⟩
        rw [if_pos rfl, hnn rfl] at h2
        obtain ⟨rfl, hk⟩ := h2
        exact ⟨a, c, he, hk, hb⟩))
      clear h1 hE hnn
      unfold plC
      go_enter Tryz.func25, Tryz.ntmps25
      go_wp2_with (refine ld_pln rfl (.tmp 1) rfl w.heap.size rfl HR.out ?_)
      go_at_call 53
      (with_reducible refine (WH.out _ ?_).mono ?_)
      · exact HP.out.below BB.out.below
      rintro e w3 ⟨a, c, rfl, hk, hb3⟩
      have HE := Lib.hid (BB.out.go hb3).below
      have HK := Lib.hid hk
      clear hb3 hk
      go_wp2
      exact bodyPost_ret (v := .tuple #[.slice a L c, .int .i64 0]) (by simp [results, Tryz.results25, go_sem]) rfl ⟨a, L, c, rfl, fun _ => ⟨rfl, HK.out⟩, HE.out⟩
end Go.Proofs.YtpmcbnliogjknaaGreatDoor

namespace Go.Proofs.YtpmcbnliogjknaaGreatDoor
open Go.RowKit
attribute [local go_sem ↓] Go.wp_at_zero Go.wp_at_succ
/-- A function value that goes again and again, for shapes of whatever size. -/
def GiveA (w : World) (fv : FuncId) (cap : Array Value) (L : Nat) : Prop := ∀ M, M ≤ 1000000 → Gives fv cap (arG L) M w
theorem GiveA.below {w w' : World} {fv : FuncId} {cap : Array Value} {L : Nat} (h : GiveA w fv cap L) (hb : Below w.heap.size w w') : GiveA w' fv cap L := fun M hM => (h M hM).below hb
end Go.Proofs.YtpmcbnliogjknaaGreatDoor

namespace Go.Proofs.YtpmcbnliogjknaaGreatDoor
open Go.RowKit
attribute [local go_sem ↓] Go.wp_at_zero Go.wp_at_succ
/-- A function value that answers a number for every row and place in it. -/
def Gives2 (fv : FuncId) (cap : Array Value) (F : Nat → Nat → Int) (R N : Nat) (w : World) : Prop :=
  ∀ wz, Below w.heap.size w wz → ∀ row i : Nat, row < R → i < N → Calls Tryz.prog fv (#[.int .i64 (row : Nat), .int .i64 (i : Nat)] ++ cap) wz fun e w' => e = .returned (.int .i64 (F row i)) ∧ Below wz.heap.size wz w'
theorem Gives2.below {fv : FuncId} {cap : Array Value} {F : Nat → Nat → Int} {R N : Nat} {w w' : World} (h : Gives2 fv cap F R N w) (hb : Below w.heap.size w w') : Gives2 fv cap F R N w' := fun wz hz => h wz (hb.trans (hz.mono hb.size))
end Go.Proofs.YtpmcbnliogjknaaGreatDoor

namespace Go.Proofs.YtpmcbnliogjknaaGreatDoor
open Go.RowKit
theorem RRow.congr {w : World} {sa : Option Addr} {n c : Nat} {fP fP' : Nat → Int} {fQ fQ' : Nat → Nat} (h : RRow w sa n c fP fQ) (e1 : ∀ j, j < n → fP j = fP' j) (e2 : ∀ j, j < n → fQ j = fQ' j) : RRow w sa n c fP' fQ' := by
  refine ⟨h.1, h.2.1, h.2.2.imp id fun ⟨b, off, h1, h2, h3⟩ => ⟨b, off, h1, h2, fun j hj => ?_⟩⟩
  rw [← e1 j hj, ← e2 j hj]
  exact h3 j hj
theorem Arr.on {w : World} {cs : Array Value} {S : Nat → Int} {r : Nat} {ch : Bool} {L : Nat} {g g' fP fP' : Nat → Int} {fQ fQ' : Nat → Nat} (h : Arr w cs S r ch L g fP fQ) (e1 : ∀ j, j < L → g j = g' j) (e2 : ∀ j, j < L → fP j = fP' j) (e3 : ∀ j, j < L → fQ j = fQ' j) : Arr w cs S r ch L g' fP' fQ' := by
  refine ⟨fun e => ?_, fun e => ?_⟩
  · obtain ⟨ta, tc, q, k⟩ := h.1 e
    exact ⟨ta, tc, q, k.congr e1⟩
  · obtain ⟨na, nc, q, k⟩ := h.2 e
    exact ⟨na, nc, q, k.congr e2 e3⟩
theorem axQ_yes {r : Nat} {i : Int} (h : axQ r i = true) : ∃ k : Nat, axI r i = k ∧ k < r := by
  unfold axQ at h
  rw [Bool.and_eq_true, decide_eq_true_eq, decide_eq_true_eq] at h
  exact ⟨(axI r i).toNat, by omega, by omega⟩
end Go.Proofs.YtpmcbnliogjknaaGreatDoor

namespace Go.Proofs.YtpmcbnliogjknaaGreatDoor
open Go.RowKit
attribute [local go_sem ↓] Go.wp_at_zero Go.wp_at_succ
theorem WhTold.yes {n : Nat} {f : Nat → Int} {w w' : World} {e : Ending} (h : WhTold true n f w w' e) : ∃ a c, e = .returned (.tuple #[.slice a n c, .bool true]) ∧ KRow w' .i64 a n c f ∧ Below w.heap.size w w' := by
  obtain ⟨a, m, c, he, h2, hb⟩ := h
  rw [if_pos rfl] at h2
  obtain ⟨rfl, hk⟩ := h2
  exact ⟨a, c, he, hk, hb⟩
theorem WhTold.no {n : Nat} {f : Nat → Int} {w w' : World} {e : Ending} (h : WhTold false n f w w' e) : e = .returned (.tuple #[.slice none 0 0, .bool false]) ∧ Below w.heap.size w w' := by
  obtain ⟨a, m, c, he, h2, hb⟩ := h
  rw [if_neg (by decide)] at h2
  obtain ⟨rfl, rfl, rfl⟩ := h2
  exact ⟨he, hb⟩
end Go.Proofs.YtpmcbnliogjknaaGreatDoor

namespace Go.Proofs.YtpmcbnliogjknaaGreatDoor
open Go.RowKit
theorem dgs_zero {f : Nat → Int} : ∀ (n j : Nat), dgs f n 0 j = 0
  | 0, _ => rfl
  | n + 1, j => by
    show (if j = n then 0 % f n else dgs f n (0 / f n) j) = 0
    rw [Int.zero_emod, Int.zero_ediv, dgs_zero n j]
    split <;> rfl
theorem dgs_top {f : Nat → Int} (n : Nat) (r : Int) : dgs f (n + 1) r n = r % f n := by
  show (if n = n then _ else _) = _
  rw [if_pos rfl]
theorem dgs_low {f : Nat → Int} {n j : Nat} (r : Int) (h : j < n) : dgs f (n + 1) r j = dgs f n (r / f n) j := by
  show (if j = n then _ else _) = _
  rw [if_neg (by omega)]
/-- One more: the last number goes up, or comes to 0 and the others go up. -/
theorem next_up {d q : Int} (hd : 1 ≤ d) (h : q % d + 1 < d) : (q + 1) % d = q % d + 1 ∧ (q + 1) / d = q / d := by
  have h1 := Int.mul_ediv_add_emod q d
  have h2 := Int.emod_nonneg q (show d ≠ 0 by omega)
  have e : q + 1 = (q % d + 1) + d * (q / d) := by omega
  constructor
  · rw [e, Int.add_mul_emod_self_left]
    exact Int.emod_eq_of_lt (by omega) h
  · rw [e, Int.add_mul_ediv_left _ _ (by omega), Int.ediv_eq_zero_of_lt (by omega) h, Int.zero_add]
theorem next_over {d q : Int} (hd : 1 ≤ d) (h : q % d + 1 = d) : (q + 1) % d = 0 ∧ (q + 1) / d = q / d + 1 := by
  have h1 := Int.mul_ediv_add_emod q d
  have e : q + 1 = d * (q / d + 1) := by rw [Int.mul_add]; omega
  constructor
  · rw [e, Int.mul_emod_right]
  · rw [e, Int.mul_ediv_cancel_left _ (by omega)]
theorem IBox.wrote {w w' : World} {g n k lo hi : Nat} {h : Nat → Int} (q : IBox w g n h) (hw : Wrote k lo hi w w') (hk : g ≠ k) : IBox w' g n h :=
  ⟨Nat.lt_of_lt_of_le q.1 hw.size, q.2.1.wrote hw q.1, fun j hj => (World.cell?_of_block (w := w) (w' := w') (a := ⟨g, j, none⟩) (hw.block g q.1 hk)).trans (q.2.2 j hj)⟩
theorem IBox.drewN {w : World} {g n : Nat} {h : Nat → Int} (q : IBox w g n h) (m : Nat) : IBox (w.drewN m) g n h := q
set_option maxHeartbeats 1600000 in
set_option maxRecDepth 100000 in
theorem advance_any (a : Option Addr) (n c : Nat) (f : Nat → Int) (g c2 : Nat) (r : Int) (w0 w : World) (h : KRow w0 .i64 a n c f) (hb : Below w0.heap.size w0 w) (hg : w0.heap.size ≤ g) (hn : n ≤ 8) (hp : ∀ j, j < n → 1 ≤ f j) (hf : ∀ j, j < n → f j ≤ 4096) (hr : 0 ≤ r ∧ r < itm f n) (hx : IBox w g n (dgs f n r)) (hc : n ≤ c2 ∧ c2 ≤ maxLen) :
    Calls Tryz.prog 105 #[.slice a n c, .slice (some ⟨g, 0, none⟩) n c2] w fun e w' => e = .returned (.tuple #[]) ∧ Wrote g 0 n w w' ∧ IBox w' g n (dgs f n (r + 1)) := by
  have hl := h.len
  have H := Lib.hid h
  have HB := Lib.hid hb
  have HP := Lib.hid hp
  have HF := Lib.hid hf
  have H0 : Hid (0 ≤ r ∧ r < itm f n ∧ Wrote g 0 n w w ∧ IBox w g n (fun j => if j < n then dgs f n r j else dgs f n (r + 1) j)) :=
    Lib.hid ⟨hr.1, hr.2, Wrote.refl _ _ _ _, hx.congr (fun j hj => by rw [if_pos hj])⟩
  have hw1 := IntWalk.i64_in ((n : Int) - 1) (by omega)
  have hnn : (0 : Int) ≤ n := by omega
  obtain ⟨hc1, hc2⟩ := hc
  unfold maxLen at hc2
  clear h hb hp hf hr hx
  go_enter Tryz.func105, Tryz.ntmps105
  go_wp2_with fail
  go_loopw [4] (fun ax wr => ∃ (k : Nat) (q z : Int), k ≤ n ∧ z = (k : Int) - 1 ∧ ax = .int .i64 z ∧ Hid (0 ≤ q ∧ q < itm f k ∧ (∀ j, j < k → dgs f n r j = dgs f k q j ∧ dgs f n (r + 1) j = dgs f k (q + 1) j) ∧ Wrote g 0 n w wr ∧ IBox wr g n (fun j => if j < k then dgs f n r j else dgs f n (r + 1) j))) (fun ax _ => (intOf ax + 1).toNat)
  case atStart => exact ⟨n, r, (n : Int) - 1, Nat.le_refl _, rfl, rfl, H0.out.1, H0.out.2.1, fun _ _ => ⟨rfl, rfl⟩, H0.out.2.2⟩
  case round =>
    obtain ⟨k, q, z, hk, hz, rfl, hrel⟩ := hrel
    obtain ⟨q0, q1, hd, hwr, hbox⟩ := hrel.out
    by_cases hk0 : 0 < k
    · obtain ⟨k, rfl⟩ : ∃ k', k = k' + 1 := ⟨k - 1, by omega⟩
      obtain rfl : z = (k : Int) := by omega
      have hlt : k < n := by omega
      have hfk := HP.out k hlt
      have hfm := HF.out k hlt
      obtain ⟨u1, u2, u3, u4⟩ := quo_lt hfk q0 q1
      obtain ⟨b, off, rfl, hbl, hc0⟩ := H.out.get hlt
      have hne : b ≠ g := by omega
      have hcb := (HB.out.cell (p := ⟨b, off + k, none⟩) hbl).trans hc0
      have hlt0 : b < w.heap.size := Nat.lt_of_lt_of_le hbl HB.out.size
      have hcw := (World.cell?_of_block (w := w) (w' := wr) (a := ⟨b, off + k, none⟩) (hwr.block b hlt0 hne)).trans hcb
      have hcs : ∀ v, (wr.setCell ⟨g, k, none⟩ v).cell? ⟨b, off + k, none⟩ = some (.int .i64 (f k)) := fun v => by rw [World.cell?_setCell_other _ _ _ _ (fun e => by injection e with e; omega)]; exact hcw
      have x1 := hbox.2.2 k hlt
      simp only [show k < k + 1 by omega, if_true] at x1
      rw [(hd k (by omega)).1, dgs_top] at x1
      have x2 := hbox.2.1 k
      have hkn : (0 : Int) ≤ k := by omega
      have hkl : (k : Int) < n := by omega
      have w4 := IntWalk.i64_in ((k : Int) - 1) (by omega)
      have w5 := IntWalk.i64_in (q % f k + 1) (by omega)
      have BX := hbox.set hlt (q % f k + 1)
      have y1 := BX.2.2 k hlt
      simp only [if_true] at y1
      have y2 := BX.2.1 k
      by_cases hov : q % f k + 1 < f k
      · obtain ⟨e1, e2⟩ := next_up hfk hov
        have HE : Hid (∀ m, Wrote g 0 n w ((wr.setCell ⟨g, k, none⟩ (.int .i64 (q % f k + 1))).drewN m) ∧ IBox ((wr.setCell ⟨g, k, none⟩ (.int .i64 (q % f k + 1))).drewN m) g n (dgs f n (r + 1))) := Lib.hid (fun m =>
          ⟨(hwr.setCell (Nat.zero_le k) hlt _).drewN m, (BX.congr (fun j hj => by
            by_cases e : j = k
            · subst e
              rw [if_pos rfl, (hd j (by omega)).2, dgs_top, e1]
            · rw [if_neg e]
              by_cases e3 : j < k
              · rw [if_pos (by omega), (hd j (by omega)).1, (hd j (by omega)).2, dgs_low _ e3, dgs_low _ e3, e2]
              · rw [if_neg (by omega)])).drewN m⟩)
        clear hrel q0 q1 hd hwr hbox u1 u2 u3 u4 e1 e2 BX hcb hc0 hz
        generalize q % f k = v0 at *
        generalize f k = x at *
        go_wp2_with fail
        go_quiet (fail)
        have HEE := Lib.hid (HE.out nq)
        go_wp2
        exact bodyPost_ret (v := .tuple #[]) (by simp [results, Tryz.results105, go_sem]) rfl ⟨rfl, HEE.out⟩
      · obtain ⟨e1, e2⟩ := next_over hfk (show q % f k + 1 = f k by omega)
        have HN : Hid (∀ m, 0 ≤ q / f k ∧ q / f k < itm f k ∧ (∀ j, j < k → dgs f n r j = dgs f k (q / f k) j ∧ dgs f n (r + 1) j = dgs f k (q / f k + 1) j) ∧ Wrote g 0 n w (((wr.setCell ⟨g, k, none⟩ (.int .i64 (q % f k + 1))).drewN m).setCell ⟨g, k, none⟩ (.int .i64 0)) ∧ IBox (((wr.setCell ⟨g, k, none⟩ (.int .i64 (q % f k + 1))).drewN m).setCell ⟨g, k, none⟩ (.int .i64 0)) g n (fun j => if j < k then dgs f n r j else dgs f n (r + 1) j)) := Lib.hid (fun m =>
          ⟨u1, u2, fun j hj => ⟨by rw [(hd j (by omega)).1, dgs_low _ hj], by rw [(hd j (by omega)).2, dgs_low _ hj, e2]⟩, ((hwr.setCell (Nat.zero_le k) hlt _).drewN m).setCell (Nat.zero_le k) hlt _, ((BX.drewN m).set hlt 0).congr (fun j hj => by
            by_cases e : j = k
            · subst e
              rw [if_pos rfl, if_neg (by omega), (hd j (by omega)).2, dgs_top, e1]
            · rw [if_neg e, if_neg e]
              by_cases e3 : j < k
              · rw [if_pos (by omega), if_pos e3]
              · rw [if_neg (by omega), if_neg e3])⟩)
        clear hrel q0 q1 hd hwr hbox u1 u2 u3 u4 e1 e2 BX hcb hc0 hz
        generalize q / f k = q' at *
        generalize q % f k = v0 at *
        generalize f k = x at *
        go_wp2_with fail
        go_quiet (fail)
        have HNN := Lib.hid (HN.out nq)
        go_wp2
        go_roundw
        case rel => exact ⟨k, q', (k : Int) - 1, by omega, rfl, by go_num, HNN.out⟩
        case measure => simp [intOf]
    · obtain rfl : k = 0 := by omega
      obtain rfl : z = -1 := by omega
      have HE : Hid (Wrote g 0 n w wr ∧ IBox wr g n (dgs f n (r + 1))) := Lib.hid ⟨hwr, hbox.congr (fun j _ => by rw [if_neg (by omega)])⟩
      clear hrel q0 q1 hd hwr hbox hz
      go_wp2
      go_end0
      exact ⟨rfl, HE.out⟩
/-- A row of integers copied whole over a block of its own. -/
theorem wpList_copy_full {w : World} {ops : Array Oper} {rest : List Oper} {o : Oper} {a : Act} {Q : Exit → Act → World → Prop} (hgd : o.guard = none) (d s : Operand) (dT sT : TypeId)
    (ho : o.op = .call { callee := .builtin .copy, args := #[d, s], argTypes := #[dT, sT] }) (elem : TypeId) (hu : Tryz.prog.underlying dT = some (.slice elem)) (hsz : (Tryz.prog.info? elem).map (·.size) = some 1)
    (g n c1 gi c2 : Nat) (hd : a.eval d = .slice (some ⟨g, 0, none⟩) n c1) (hs : a.eval s = .slice (some ⟨gi, 0, none⟩) n c2)
    (cur : Array Value) (t : TypeId) (hg : Row w g t cur) (hcur : cur.size = n) (h : Nat → Int) (hsrc : IBox w gi n h)
    (k : ∀ w', Row w' g t (kcs .i64 h n).toArray → Wrote g 0 n w w' → wpList Tryz.prog ops Q rest (a.put o.dst (goInt n)) w') : wpList Tryz.prog ops Q (o :: rest) a w := by
  by_cases h0 : n = 0
  · subst h0
    refine wpList_copy_nothing hgd d s dT sT ho elem hu hsz _ _ 0 c1 0 c2 hd hs rfl (k w ?_ (Wrote.refl _ _ _ _))
    have : cur = #[] := Array.eq_empty_of_size_eq_zero hcur
    rw [this] at hg
    exact hg
  · have hl := kcs_length .i64 h n
    refine wpList_copy_own hgd d s dT sT ho elem hu hsz g 0 n c1 ⟨gi, 0, none⟩ n c2 hd hs cur t hg (kcs .i64 h n) (by rw [hl]; exact (Nat.min_self n).symm) (fun j v hj => ?_) (by rw [hl]; omega) (kcs_one .i64 h n) ?_
    · have hj2 : j < n := by
        have := (List.getElem?_eq_some_iff.1 hj).1
        rwa [hl] at this
      rw [kcs_get .i64 h n j hj2] at hj
      obtain rfl := Option.some.inj hj
      rw [show (⟨gi, 0, none⟩ : Addr).add j = ⟨gi, j, none⟩ by unfold Addr.add; split <;> simp_all]
      exact hsrc.2.2 j hj2
    · rw [hl]
      have hrow : Row (w.setRow g (cur.toList.take 0 ++ (kcs .i64 h n ++ cur.toList.drop (0 + n))).toArray) g t (kcs .i64 h n).toArray := by
        have := hg.put (cur.toList.take 0 ++ (kcs .i64 h n ++ cur.toList.drop (0 + n))).toArray
        rw [show (cur.toList.take 0 ++ (kcs .i64 h n ++ cur.toList.drop (0 + n))).toArray = (kcs .i64 h n).toArray by
          rw [List.take_zero, List.nil_append, Nat.zero_add, List.drop_of_length_le (by rw [Array.length_toList]; omega), List.append_nil]] at this ⊢
        exact this
      refine k _ hrow ⟨rfl, rfl, rfl, by simp [World.setRow], fun j hj hne => setRow_other w g j _ hne, fun o ho => ?_, fun o => ?_⟩
      · have ho' : n ≤ o := by omega
        rw [hrow.cell, hg.cell, Array.getElem?_eq_none (by rw [List.size_toArray, hl]; omega), Array.getElem?_eq_none (by omega)]
      · rw [hrow.free, hg.free]
theorem IBox.of_row {w : World} {g n : Nat} {t : TypeId} {h : Nat → Int} (q : Row w g t (kcs .i64 h n).toArray) : IBox w g n h :=
  ⟨q.lt, fun o => q.free o, fun j hj => by rw [q.cell, List.getElem?_toArray]; exact kcs_get .i64 h n j hj⟩
end Go.Proofs.YtpmcbnliogjknaaGreatDoor

namespace Go.Proofs.YtpmcbnliogjknaaGreatDoor
open Go.RowKit
theorem liE_whole {r : Nat} {b : Bool} (h : liE r b = 0) : b = true := by
  unfold liE at h
  split at h
  · cases h
  · cases b
    · cases h
    · rfl
end Go.Proofs.YtpmcbnliogjknaaGreatDoor

namespace Go.Proofs.YtpmcbnliogjknaaGreatDoor
open Go.RowKit
attribute [local go_sem ↓] Go.wp_at_zero Go.wp_at_succ
theorem MoTold.ok {E : Int} {S : Nat → Int} {r : Nat} {ch : Bool} {L : Nat} {g fP : Nat → Int} {fQ : Nat → Nat} {w w' : World} {e : Ending} (h : MoTold E S r ch L g fP fQ w w' e) (hE : E = 0) : ∃ cs, e = .returned (.tuple #[.agg cs, .int .i64 0]) ∧ Arr w' cs S r ch L g fP fQ ∧ Below w.heap.size w w' := by
  obtain ⟨cs, he, h1, _, hb⟩ := h
  rw [hE] at he
  exact ⟨cs, he, h1 hE, hb⟩
theorem Bag.fresh {w y : World} (hb : Below w.heap.size w y) : Bag w (fun _ => True) y := ⟨hb, fun _ _ _ _ => trivial, trivial⟩
/-- A plain list of integers. -/
def PlJ (w : World) (p : Array Value) (l : List Int) (n : Nat) : Prop := ∀ T, Pln w p (fun _ => (n : Int)) 1 false n T (fun j => rB (lt l j)) (fun j => rS (lt l j)) (fun _ => str (dec 1))
theorem PlJ.below {w w' : World} {p : Array Value} {l : List Int} {n : Nat} (h : PlJ w p l n) (hb : Below w.heap.size w w') : PlJ w' p l n := fun T => (h T).below hb
theorem shownJ {w : World} {cs p : Array Value} {S : Nat → Int} {L : Nat} {g fP : Nat → Int} {fQ : Nat → Nat} {l : List Int} (h : Arr w cs S 1 false L g fP fQ) (hp : PlJ w p l L) (hL : L ≤ 10) (hS : S 0 = (L : Int)) (hP : ∀ j, j < L → fP j = lt l j ∧ fQ j = 1 ∧ (fP j).natAbs ≤ 100) : Shown w cs p := by
  refine ⟨S, 1, false, L, g, fP, fQ, fun _ => (L : Int), g, _, _, _, h, hp g, by omega, by omega, fun _ j hj => ?_, fun j hj => ?_, fun _ _ => rfl, fun j hj => ?_⟩
  · obtain ⟨e1, e2, e3⟩ := hP j hj
    rw [e2]
    refine ⟨by omega, ?_, by decide⟩
    have : (100 : Nat) < 4294967296 ^ 7 := by decide
    omega
  · obtain rfl : j = 0 := by omega
    exact hS
  · obtain ⟨e1, e2, e3⟩ := hP j hj
    rw [e1, e2]
    exact ⟨rfl, rfl, rfl⟩
/-- An array of numbers, whatever is said of characters. -/
def ArrA (w : World) (cs : Array Value) (S : Nat → Int) (r : Nat) (ch : Bool) (L : Nat) (fP : Nat → Int) (fQ : Nat → Nat) : Prop := ∀ g, Arr w cs S r ch L g fP fQ
theorem ArrA.below {w w' : World} {cs : Array Value} {S : Nat → Int} {r : Nat} {ch : Bool} {L : Nat} {fP : Nat → Int} {fQ : Nat → Nat} (h : ArrA w cs S r ch L fP fQ) (hb : Below w.heap.size w w') : ArrA w' cs S r ch L fP fQ := fun g => (h g).below hb
theorem ArrA.store {w : World} {cs : Array Value} {S : Nat → Int} {r : Nat} {ch : Bool} {L : Nat} {fP : Nat → Int} {fQ : Nat → Nat} (h : ArrA w cs S r ch L fP fQ) {k : Nat} {t : TypeId} {z : Array Value} (hr : Row w k t z) (hz : IsA z) (cs' : Array Value) : ArrA (w.setRow k cs') cs S r ch L fP fQ := fun g => (h g).store hr hz cs'
theorem less3 {p : Nat → Prop} (h0 : p 0) (h1 : p 1) (h2 : p 2) : ∀ j, j < 3 → p j
  | 0, _ => h0
  | 1, _ => h1
  | 2, _ => h2
  | n + 3, h => absurd h (by omega)
theorem less2 {p : Nat → Prop} (h0 : p 0) (h1 : p 1) : ∀ j, j < 2 → p j
  | 0, _ => h0
  | 1, _ => h1
  | n + 2, h => absurd h (by omega)
end Go.Proofs.YtpmcbnliogjknaaGreatDoor

namespace Go.Proofs.YtpmcbnliogjknaaGreatDoor
open Go.RowKit
/-- An array and an error, as the program answers them. -/
def MoR (w : World) (x : Array Value) (E : Int) (S : Nat → Int) (r : Nat) (ch : Bool) (L : Nat) (g fP : Nat → Int) (fQ : Nat → Nat) : Prop := IsA x ∧ (E = 0 → Arr w x S r ch L g fP fQ) ∧ (E ≠ 0 → x = zerC)
theorem MoR.below {w w' : World} {x : Array Value} {E : Int} {S : Nat → Int} {r : Nat} {ch : Bool} {L : Nat} {g fP : Nat → Int} {fQ : Nat → Nat} (h : MoR w x E S r ch L g fP fQ) (hb : Below w.heap.size w w') : MoR w' x E S r ch L g fP fQ := ⟨h.1, fun e => (h.2.1 e).below hb, h.2.2⟩
theorem MoR.store {w : World} {x : Array Value} {E : Int} {S : Nat → Int} {r : Nat} {ch : Bool} {L : Nat} {g fP : Nat → Int} {fQ : Nat → Nat} (h : MoR w x E S r ch L g fP fQ) {k : Nat} {t : TypeId} {z : Array Value} (hr : Row w k t z) (hz : IsA z) (cs' : Array Value) : MoR (w.setRow k cs') x E S r ch L g fP fQ := ⟨h.1, fun e => (h.2.1 e).store hr hz cs', h.2.2⟩
theorem MoTold.res {E : Int} {S : Nat → Int} {r : Nat} {ch : Bool} {L : Nat} {g fP : Nat → Int} {fQ : Nat → Nat} {w w' : World} {e : Ending} (h : MoTold E S r ch L g fP fQ w w' e) :
    ∃ x, e = .returned (.tuple #[.agg x, .int .i64 E]) ∧ MoR w' x E S r ch L g fP fQ ∧ Below w.heap.size w w' := by
  obtain ⟨x, he, h1, h2, hb⟩ := h
  refine ⟨x, he, ⟨?_, h1, h2⟩, hb⟩
  by_cases hE : E = 0
  · exact (h1 hE).isA
  · rw [h2 hE]
    exact IsA.zer
/-- A plain array and an error, as the document answers them. -/
def IsP (p : Array Value) : Prop := ∃ sa sn sc ch ta tn tc na nn nc, p = plC sa sn sc ch ta tn tc na nn nc
theorem IsP.size {p : Array Value} (h : IsP p) : p.size = 4 := by
  obtain ⟨_, _, _, _, _, _, _, _, _, _, rfl⟩ := h
  rfl
def PoR (w : World) (p : Array Value) (E : Int) (S : Nat → Int) (r : Nat) (ch : Bool) (L : Nat) (g : Nat → Int) (fB : Nat → Bool) (fS fT : Nat → ByteArray) : Prop := IsP p ∧ (E = 0 → Pln w p S r ch L g fB fS fT)
theorem PoR.below {w w' : World} {p : Array Value} {E : Int} {S : Nat → Int} {r : Nat} {ch : Bool} {L : Nat} {g : Nat → Int} {fB : Nat → Bool} {fS fT : Nat → ByteArray} (h : PoR w p E S r ch L g fB fS fT) (hb : Below w.heap.size w w') : PoR w' p E S r ch L g fB fS fT := ⟨h.1, fun e => (h.2 e).below hb⟩
theorem PoR.put {w : World} {p : Array Value} {E : Int} {S : Nat → Int} {r : Nat} {ch : Bool} {L : Nat} {g : Nat → Int} {fB : Nat → Bool} {fS fT : Nat → ByteArray} (h : PoR w p E S r ch L g fB fS fT) {k : Nat} {t : TypeId} (hr : Row w k t plZer) (cs' : Array Value) : PoR (w.setRow k cs') p E S r ch L g fB fS fT := ⟨h.1, fun e => (h.2 e).put hr cs'⟩
theorem PoTold.res {E : Int} {S : Nat → Int} {r : Nat} {ch : Bool} {L : Nat} {g : Nat → Int} {fB : Nat → Bool} {fS fT : Nat → ByteArray} {w w' : World} {e : Ending} (h : PoTold E S r ch L g fB fS fT w w' e) :
    ∃ x, e = .returned (.tuple #[.agg x, .int .i64 E]) ∧ PoR w' x E S r ch L g fB fS fT ∧ Below w.heap.size w w' := by
  obtain ⟨x, he, h1, h2, hb⟩ := h
  refine ⟨x, he, ⟨?_, h1⟩, hb⟩
  by_cases hE : E = 0
  · obtain ⟨_, _, _, _, _, _, e, _⟩ := (h1 hE).form
    exact ⟨_, _, _, _, _, _, _, _, _, _, e⟩
  · rw [h2 hE]
    exact ⟨_, _, _, _, _, _, _, _, _, _, rfl⟩
/-- What the elements say, on both sides. -/
def ElSame (ch : Bool) (L : Nat) (fP : Nat → Int) (fQ : Nat → Nat) (fB : Nat → Bool) (fS fT : Nat → ByteArray) : Prop := Small ch L fP fQ ∧ ∀ j, j < nnO ch L → rB (fP j) = fB j ∧ rS (fP j) = fS j ∧ str (dec (fQ j)) = fT j
theorem Good.els {S : Nat → Int} {r : Nat} {ch : Bool} {L : Nat} {fB : Nat → Bool} {fS fT : Nat → ByteArray} (h : Good S r ch L fB fS fT) (G : Nat → Int) (M : Nat) : ElSame ch M (fun j => elP L (gP fB fS fT) (G j)) (fun j => elQ L (gQ fB fS fT) (G j)) (fun j => elB L fB (G j)) (fun j => elS L fS (rS 0) (G j)) (fun j => elS L fT (str (dec 1)) (G j)) := by
  have h1 := h.num
  have h2 := h.small
  cases ch with
  | true => exact ⟨fun e => (by cases e), fun j hj => absurd hj (Nat.not_lt_zero _)⟩
  | false => exact ⟨fun _ => el_cmp (h2 rfl) G M, fun j _ => ⟨(el_same h1 (G j)).1.symm, (el_same h1 (G j)).2.1.symm, (el_same h1 (G j)).2.2.symm⟩⟩
end Go.Proofs.YtpmcbnliogjknaaGreatDoor

namespace Go.Proofs.YtpmcbnliogjknaaGreatDoor
open Go.RowKit
attribute [local go_sem ↓] Go.wp_at_zero Go.wp_at_succ
set_option maxHeartbeats 800000 in
set_option maxRecDepth 100000 in
theorem lightC_any (cs : Array Value) (S : Nat → Int) (r : Nat) (ch : Bool) (g : Nat → Int) (tn : Nat) (fB : Nat → Bool) (fS fT : Nat → ByteArray) (nn : Nat) (w : World) (h : PlnAt w cs S r ch g tn fB fS fT nn) (hS : In64 S r) (hz : ∀ j, j < nn → (fS j).size ≤ maxLen ∧ (fT j).size ≤ maxLen) :
    Calls Tryz.prog 6 #[.agg cs] w fun e w' => LightTold 250 S r ch tn fB fS fT nn w w' e := by
  have HP := Lib.hid h
  obtain ⟨sa, sc, ta, tc, na, nc, rfl, _⟩ := h
  have LP := Lib.hid (fun wz h => light_any 250 (plC sa r sc ch ta tn tc na nn nc) S r ch g tn fB fS fT nn wz h hS hz)
  unfold LightTold at LP
  have BB := Lib.hid ((Bag.start w).newRow (plC sa r sc ch ta tn tc na nn nc) 26)
  have HR := Lib.hid BB.out.now.1
  clear hS hz
  unfold plC
  go_enter Tryz.func6, Tryz.ntmps6
  go_wp2_with (refine ld_pln rfl (.tmp 1) rfl w.heap.size rfl HR.out ?_)
  go_at_call 21
  (with_reducible refine (LP.out _ ?_).mono ?_)
  · exact HP.out.below BB.out.below
  rintro e w2 ⟨b, rfl, hb, hb2⟩
  have HE := Lib.hid (BB.out.go hb2).below
  have HB := Lib.hid hb
  clear hb hb2
  go_wp2
  go_ret
  exact ⟨b, rfl, HB.out, HE.out⟩
set_option linter.unusedSimpArgs false in
set_option maxHeartbeats 3200000 in
set_option maxRecDepth 100000 in
theorem showsOkC_any (cs pcs : Array Value) (w : World) (h : Shown w cs pcs) :
    Calls Tryz.prog 12 #[.agg cs, .int .i64 0, .agg pcs, .int .i64 0] w fun e w' => e = .returned (.bool true) ∧ Below w.heap.size w w' := by
  obtain ⟨S, r, ch, L, g, fP, fQ, S', g', fB, fS, fT, h1, h2, hr, hL, hs, e1, e2, e3⟩ := h.ex
  have HP := Lib.hid h2
  obtain ⟨na, nn, nc, ta, tn, tc, hcs, _⟩ := h1.form
  subst hcs
  obtain ⟨sa, sc, xa, xc, ya, yc, rfl, _⟩ := h2
  have H := Lib.hid h1
  have PL := Lib.hid (fun wz h => plain8_any (arrC ch ((r : Int) - 1) (dm S r) na nn nc ta tn tc) S r ch L g fP fQ wz hr h hL hs)
  have SM := Lib.hid (fun cs1 wz (q : Pln wz cs1 S r ch L g (fun j => rB (fP j)) (fun j => rS (fP j)) (fun j => str (dec (fQ j)))) (z : Pln wz (plC sa r sc ch xa (tnO ch L) xc ya (nnO ch L) yc) S' r ch L g' fB fS fT) => pl_same (plB_of2 e1 e2 e3) q z)
  have BB := Lib.hid (((Bag.start w).newRow (arrC ch ((r : Int) - 1) (dm S r) na nn nc ta tn tc) 32).newRow (plC sa r sc ch xa (tnO ch L) xc ya (nnO ch L) yc) 26)
  simp only [World.size_alloc] at BB
  clear h h1 hr hL hs e1 e2 e3
  unfold arrC plC
  go_enter Tryz.func12, Tryz.ntmps12
  go_wp2_with fail
  have hWW := BB.out.below
  unfold arrC plC at hWW
  unfold plC at BB
  unfold arrC at BB
  generalize hW : ((w.alloc (.cells _ 32)).alloc (.cells _ 26)) = WW at *
  clear hW hWW
  refine wp_region_inv2 ⟨(fun j => ([[17], [18], [19], [20], [8]] : List (List Nat)).getD j []), (fun j => ([[], [0], [], [0, 1, 2], [0, 1, 2, 3]] : List (List Nat)).getD j []), []⟩ (fun jj vv yy => match jj with | 0 => vv = [some (.agg (arrC ch ((r : Int) - 1) (dm S r) na nn nc ta tn tc))] | 1 => ∃ (x1 : Array Value), vv = [some (.agg x1)] ∧ Pln yy x1 S r ch L g (fun j => rB (fP j)) (fun j => rS (fP j)) (fun j => str (dec (fQ j))) | 2 => vv = [some (.agg (plC sa r sc ch xa (tnO ch L) xc ya (nnO ch L) yc))] | 3 => vv = [some (.bool true)] | 4 => vv = [some (.bool true)] | _ => True) (Bag WW (fun _ => True)) (by kernel_rfl) (by kernel_rfl) (by kernel_rfl) (Bag.start WW).drew ?_ ?_ ?_
  · intro jj vv yw yw2 hb h
    match jj, h with
    | 0, h => exact h
    | 1, ⟨x1, e1, g1_0⟩ => exact Exists.intro x1 (And.intro e1 (g1_0.below hb))
    | 2, h => exact h
    | 3, h => exact h
    | 4, h => exact h
    | _ + 5, h => exact h
  · intro ac yw hsz hdf hold hB hp
    have t8 : ac.tmps[8]? = some (.bool true) := (List.cons.inj (hp 4 (by decide))).1
    have HE := Lib.hid (BB.out.go hB.below).below
    clear hold hp
    obtain ⟨TW, hTW⟩ : ∃ TW : Nat → Value, ∀ i, (ac.tmps[i]?).getD undef = TW i := ⟨_, fun _ => rfl⟩
    have f8 := (hTW 8).symm.trans (congrArg (fun x => Option.getD x undef) t8)
    have hac := act_eq (n := 21) hsz TW hTW
    rw [show ((List.range 21).map TW).toArray = #[TW 0, TW 1, TW 2, TW 3, TW 4, TW 5, TW 6, TW 7, TW 8, TW 9, TW 10, TW 11, TW 12, TW 13, TW 14, TW 15, TW 16, TW 17, TW 18, TW 19, TW 20] from rfl, f8, hdf] at hac
    simp only [Option.getD_some] at hac
    subst hac
    clear hTW f8
    go_wp2
    go_ret
    exact ⟨rfl, HE.out⟩
  refine Stps2.cons (o := _) ?_ ?_
  · intro ac yw hsz hold hB hp K hK
    have t4 : ac.tmps[4]? = some (.pointer (some ⟨w.heap.size, 0, none⟩)) := hold 4 (by kernel_rfl)
    clear hold hp hsz
    rw [if_pos (by rfl)]
    refine ld8 4 rfl (w.heap.size) ((arrC ch ((r : Int) - 1) (dm S r) na nn nc ta tn tc)) t4 ((BB.out.go hB.below).now.2.1) (rfl) ?_
    exact hK.out _ _ ⟨hB, rfl, Nat.le_refl _, .inl (Below.refl _ _), fun h => absurd h (by decide)⟩
  refine Stps2.cons (o := _) ?_ ?_
  · intro ac yw hsz hold hB hp K hK
    have e0 := hp 0 (by decide)
    have t17 : ac.tmps[17]? = some (.agg (arrC ch ((r : Int) - 1) (dm S r) na nn nc ta tn tc)) := (List.cons.inj e0).1
    clear hold hp hsz e0
    go_simp
    (go_at_call 30; (with_reducible refine (PL.out _ (H.out.below (BB.out.go hB.below).below)).mono ?_); rintro e wz ⟨x1, rfl, h1_0, hbz⟩)
    exact hK.out _ _ ⟨hB.go hbz, Exists.intro x1 (And.intro rfl h1_0), hbz.size, .inl hbz, fun h => absurd h (by decide)⟩
  refine Stps2.cons (o := _) ?_ ?_
  · intro ac yw hsz hold hB hp K hK
    have t6 : ac.tmps[6]? = some (.pointer (some ⟨w.heap.size + 1, 0, none⟩)) := hold 6 (by kernel_rfl)
    clear hold hp hsz
    rw [if_pos (by rfl)]
    refine ldP 6 rfl (w.heap.size + 1) ((plC sa r sc ch xa (tnO ch L) xc ya (nnO ch L) yc)) t6 ((BB.out.go hB.below).now.1) (rfl) ?_
    exact hK.out _ _ ⟨hB, rfl, Nat.le_refl _, .inl (Below.refl _ _), fun h => absurd h (by decide)⟩
  refine Stps2.cons (o := _) ?_ ?_
  · intro ac yw hsz hold hB hp K hK
    obtain ⟨x1_1, e1, g1_0⟩ := hp 1 (by decide)
    have t18 : ac.tmps[18]? = some (.agg x1_1) := (List.cons.inj e1).1
    have e2 := hp 2 (by decide)
    have t19 : ac.tmps[19]? = some (.agg (plC sa r sc ch xa (tnO ch L) xc ya (nnO ch L) yc)) := (List.cons.inj e2).1
    clear hold hp hsz e1 e2
    go_simp
    (go_at_call 29; (with_reducible refine (SM.out _ _ g1_0 (HP.out.below (BB.out.go hB.below).below)).mono ?_); rintro e wz ⟨rfl, hbz⟩)
    exact hK.out _ _ ⟨hB.go hbz, rfl, hbz.size, .inl hbz, fun h => absurd h (by decide)⟩
  refine Stps2.cons (o := _) ?_ ?_
  · intro ac yw hsz hold hB hp K hK
    have e3 := hp 3 (by decide)
    have t20 : ac.tmps[20]? = some (.bool true) := (List.cons.inj e3).1
    clear hold hp hsz e3
    go_simp
    exact hK.out _ _ ⟨hB, rfl, Nat.le_refl _, .inl (Below.refl _ _), fun h => absurd h (by decide)⟩
  exact Stps2.nil _
set_option maxHeartbeats 800000 in
set_option maxRecDepth 100000 in
theorem showsNoC_any (E : Int) (hE : E ≠ 0) (sa : Option Addr) (sn sc : Nat) (ch : Bool) (ta : Option Addr) (tn tc : Nat) (na : Option Addr) (nn nc : Nat) (w : World) :
    Calls Tryz.prog 12 #[.agg zerC, .int .i64 E, .agg (plC sa sn sc ch ta tn tc na nn nc), .int .i64 E] w fun e w' => e = .returned (.bool true) ∧ Below w.heap.size w w' := by
  have LZ := Lib.hid (fun wz => lenZ_any wz)
  have BB := Lib.hid (((Bag.start w).newRow zerC 32).newRow (plC sa sn sc ch ta tn tc na nn nc) 26)
  simp only [World.size_alloc] at BB
  have HR := Lib.hid BB.out.now.2.1
  have d1 : (E != E) = false := bne_self_eq_false _
  have d2 : (E != 0) = true := bne_iff_ne.2 hE
  clear hE
  unfold zerC arrC plC
  unfold zerC at LZ
  unfold zerC at HR
  go_enter Tryz.func12, Tryz.ntmps12
  go_wp2_with (refine ld_arr rfl (.tmp 4) rfl w.heap.size rfl HR.out ?_)
  go_at_call 28
  (with_reducible refine (LZ.out _).mono ?_)
  rintro e w2 ⟨rfl, hb2⟩
  have HE := Lib.hid (BB.out.go hb2).below
  clear hb2
  go_wp2
  go_ret
  exact ⟨rfl, HE.out⟩
theorem lightG_any (cs : Array Value) (S : Nat → Int) (r : Nat) (ch : Bool) (g : Nat → Int) (tn : Nat) (fB : Nat → Bool) (fS fT : Nat → ByteArray) (nn : Nat) (w : World) (h : PlnAt w cs S r ch g tn fB fS fT nn) (hS : In64 S r) (hz : ∀ j, j < nn → (fS j).size ≤ maxLen ∧ (fT j).size ≤ maxLen) :
    Calls Tryz.prog 6 #[.agg cs] w fun e w' => ∃ b, e = .returned (.bool b) ∧ (b = true → ∃ L, tn = tnO ch L ∧ nn = nnO ch L ∧ Good S r ch L fB fS fT) ∧ Below w.heap.size w w' :=
  (lightC_any cs S r ch g tn fB fS fT nn w h hS hz).mono fun _ _ ⟨b, he, hb, hw⟩ => ⟨b, he, fun e => good_of (hb e), hw⟩
end Go.Proofs.YtpmcbnliogjknaaGreatDoor

namespace Go.Proofs.YtpmcbnliogjknaaGreatDoor
open Go.RowKit
/-- What Whole answers, and where: the list is new. -/
def WhNew (b : Bool) (n : Nat) (fP : Nat → Int) (w w' : World) (e : Ending) : Prop := ∃ a m c, e = .returned (.tuple #[.slice a m c, .bool b]) ∧ (if b then m = n ∧ KRow w' .i64 a n c fP ∧ (n = 0 ∨ ∀ x, a = some x → w.heap.size ≤ x.block) else a = none ∧ m = 0 ∧ c = 0) ∧ Below w.heap.size w w'
set_option maxHeartbeats 1600000 in
set_option maxRecDepth 100000 in
theorem whole6_new (cs : Array Value) (f : Nat → Int) (r n : Nat) (fP : Nat → Int) (fQ : Nat → Nat) (w : World) (h : NumArr w cs f r n fP fQ) (hQ : ∀ j, j < n → 0 < fQ j) (hn : n ≤ 1000000) :
    Calls Tryz.prog 18 #[.agg cs] w fun e w' => WhNew (whB fP fQ n) n fP w w' e := by
  obtain ⟨i0, hi, hz0, hz1, hz2⟩ := info_parts infoI
  have hmk := fun wz => run_make (P := Tryz.prog) wz 22 3 i0 _ Tryz.underlying22 hi hz0 .i64 .i64 n n (by omega) (by omega) (by rw [hz2]; omega) (by omega)
  simp only [Int.toNat_natCast, hz1, Nat.mul_one] at hmk
  obtain ⟨na, nc, rfl, hr⟩ := h
  have HR := Lib.hid hr
  have hl := hr.len
  have HQ := Lib.hid hQ
  have IN := Lib.hid (fun a n c m a2 n2 c2 P Q wz h hq => ratInt_any a n c m a2 n2 c2 P Q wz h hq)
  have hR0 : Row (w.alloc (.cells (arrC false ((r : Int) - 1) (dm f r) na n nc none 0 0) 32)) w.heap.size 32 _ := Row.new _ _ _
  have H0 : Hid (Below w.heap.size w ((w.alloc (.cells (arrC false ((r : Int) - 1) (dm f r) na n nc none 0 0) 32)).alloc (.cells (madeCells (Value.cells (.int .i64 0)) n) 3)) ∧ KTo ((w.alloc (.cells (arrC false ((r : Int) - 1) (dm f r) na n nc none 0 0) 32)).alloc (.cells (madeCells (Value.cells (.int .i64 0)) n) 3)) (w.heap.size + 1) n 0 fP ∧ whB fP fQ 0 = true) :=
    ⟨((Below.refl _ _).alloc (Nat.le_refl _) _).alloc (by simp) _, by have := KTo.made (w.alloc (.cells (arrC false ((r : Int) - 1) (dm f r) na n nc none 0 0) 32)) n 3 fP rfl; rwa [World.size_alloc] at this, rfl⟩
  unfold arrC at H0
  unfold arrC
  clear hr hi hz0 hz1 hz2 hR0 hQ
  go_enter Tryz.func18, Tryz.ntmps18
  go_wp2_with fail
  go_loopw [20] (fun i wr => ∃ k : Nat, k ≤ n ∧ i = .int .i64 k ∧ Hid (Below w.heap.size w wr ∧ KTo wr (w.heap.size + 1) n k fP ∧ whB fP fQ k = true)) (fun i _ => n - (intOf i).toNat)
  case atStart => exact ⟨0, by omega, rfl, H0.out⟩
  case round =>
    obtain ⟨k, hk, rfl, hrel⟩ := hrel
    obtain ⟨hbl, hto, hwh⟩ := hrel.out
    have hwr := hbl.size
    by_cases hlt : k < n
    · obtain ⟨b, off, a', n', c', m', a2', n2', c2', rfl, hlb, e1, e2, e3, hi'⟩ := (HR.out.below hbl).get hlt
      have BB := Lib.hid ((((Bag.start wr).kto hto).rat hi').alloc (.cells #[.slice a' n' c', .bool m', .slice a2' n2' c2'] 76))
      have HBL := Lib.hid hbl
      have HWH := Lib.hid hwh
      clear hbl hto hi' hwh
      go_wp2_with fail
      go_at_call 40
      (with_reducible refine (IN.out _ _ _ _ _ _ _ (fP k) (fQ k) _ ?_ ?_).mono ?_)
      · exact BB.out.now.1
      · exact HQ.out k hlt
      rintro e w2 ⟨rfl, hb2⟩
      have B2 := BB.out.go hb2
      have hto := B2.now.2.1
      obtain ⟨⟨z, x1⟩, y1⟩ := hto.place hlt
      have hbb := HBL.out.trans (B2.below.mono hwr)
      by_cases hok : (decide (fQ k = 1) && fitB (fP k)) = true
      · have hv : (if fQ k = 1 then fitI (fP k) else 0) = fP k := by
          rw [Bool.and_eq_true, decide_eq_true_eq] at hok
          rw [if_pos hok.1]; unfold fitI; rw [if_pos hok.2]
        have HN : Hid (Below w.heap.size w (w2.setCell ⟨w.heap.size + 1, k, none⟩ (.int .i64 (fP k))) ∧ KTo (w2.setCell ⟨w.heap.size + 1, k, none⟩ (.int .i64 (fP k))) (w.heap.size + 1) n (k + 1) fP ∧ whB fP fQ (k + 1) = true) :=
          ⟨hbb.setCell (p := ⟨w.heap.size + 1, k, none⟩) (Nat.le_succ _) _, hto.step hlt, by show (whB fP fQ k && _) = true; rw [HWH.out, hok]; rfl⟩
        rw [hok, hv]
        clear hto hb2 B2 hbb hv hok e1 e2 e3
        generalize fP k = x at *
        go_wp2
        go_roundw
        case rel => exact ⟨k + 1, by omega, by go_num, HN.out⟩
        case measure => simp [intOf]; omega
      · rw [Bool.not_eq_true] at hok
        have hno : whB fP fQ n = false := by
          cases hx : whB fP fQ n with
          | false => rfl
          | true =>
            have := whB_le (k := k + 1) (by omega) hx
            unfold whB at this
            rw [hok, Bool.and_false] at this
            exact this.symm
        rw [hok]
        have HE : Hid (WhNew (whB fP fQ n) n fP w w2 (.returned (.tuple #[.slice none 0 0, .bool false]))) := by
          rw [hno]
          exact ⟨_, _, _, rfl, by rw [if_neg (by decide)]; exact ⟨rfl, rfl, rfl⟩, hbb⟩
        generalize (if fQ k = 1 then fitI (fP k) else 0) = x at *
        clear hto hb2 B2 hbb hno hok e1 e2 e3
        go_wp2
        go_ret2
        exact HE.out
    · obtain rfl : k = n := by omega
      have HE : Hid (WhNew (whB fP fQ k) k fP w wr (.returned (.tuple #[.slice (some ⟨w.heap.size + 1, 0, none⟩) k k, .bool true]))) := by
        rw [hwh]
        exact ⟨_, _, _, rfl, by rw [if_pos rfl]; exact ⟨rfl, hto.done (by unfold maxLen; omega), .inr (fun x hx => by cases hx; exact Nat.le_succ _)⟩, hbl⟩
      clear hbl hto hwh
      go_wp2
      go_ret2
      exact HE.out
theorem whole8_new (cs : Array Value) (S : Nat → Int) (r : Nat) (ch : Bool) (L : Nat) (g fP : Nat → Int) (fQ : Nat → Nat) (w : World) (h : Arr w cs S r ch L g fP fQ) (hQ : ch = false → ∀ j, j < L → 0 < fQ j) (hL : L ≤ 1000000) :
    Calls Tryz.prog 18 #[.agg cs] w fun e w' => WhNew (whC ch L fP fQ) L fP w w' e := by
  cases ch with
  | true =>
    refine (wholeC_any cs S r L g w (h.1 rfl) hL).mono ?_
    rintro e w' ⟨a, m, c, he, h2, hb⟩
    refine ⟨a, m, c, he, ?_, hb⟩
    show if decide (L = 0) = true then _ else _
    by_cases h0 : L = 0
    · subst h0
      rw [decide_eq_true rfl, if_pos rfl] at h2 ⊢
      exact ⟨h2.1, ⟨h2.2.1, h2.2.2.1, .inl rfl⟩, .inl rfl⟩
    · rw [decide_eq_false h0, if_neg (by decide)] at h2 ⊢
      exact h2
  | false => exact whole6_new cs S r L fP fQ w (h.2 rfl) (hQ rfl) hL
/-- What list answers, and where: the list is new. -/
def LiNew (E : Int) (L : Nat) (fP : Nat → Int) (w w' : World) (e : Ending) : Prop := ∃ a m c, e = .returned (.tuple #[.slice a m c, .int .i64 E]) ∧ (E = 0 → m = L ∧ KRow w' .i64 a L c fP ∧ (L = 0 ∨ ∀ x, a = some x → w.heap.size ≤ x.block)) ∧ Below w.heap.size w w'
end Go.Proofs.YtpmcbnliogjknaaGreatDoor
