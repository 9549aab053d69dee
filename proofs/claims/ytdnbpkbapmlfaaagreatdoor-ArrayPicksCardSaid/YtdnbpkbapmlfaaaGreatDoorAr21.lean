/-
  The document's layer 6: Pick, by contract.
-/
import Derived.Test.YtdnbpkbapmlfaaaGreatDoorAr20
namespace Go.Proofs.YtdnbpkbapmlfaaaGreatDoor
open Go.RowKit

/-- One element more in the row of characters that a plain array holds. -/
theorem pt_step {w y0 wr w2 : World} {P : Nat} {sa : Option Addr} {sn sc : Nat} {ch : Bool} {na : Option Addr} {nn nc : Nat} {a : Option Addr} {k c : Nat} {ki : IntKind} {f : Nat → Int} {T E : TypeId} (hbl : Below w.heap.size w wr) (hf : Far P y0 wr) (hb : Below wr.heap.size wr w2)
    (hr : Row w2 P T (plC sa sn sc ch a k c na nn nc)) (ho : w2.ownsRow y0.heap.size E 1 (.slice a k c) k (kcs ki f k)) (hne : E ≠ T) (hP : w.heap.size ≤ P) (hy : w.heap.size ≤ y0.heap.size) :
    ∀ (g cap : Nat) (w3 : World) (x : Int), x = f k → w3.ownsRow y0.heap.size E 1 (.slice (some ⟨g, 0, none⟩) (k + 1) cap) (k + 1) (kcs ki f k ++ [.int ki x]) → w2.grownBy w3 (Value.slice a k c).ownBlock →
    Below w.heap.size w (w3.setCell ⟨P, 2, none⟩ (.slice (some ⟨g, 0, none⟩) (k + 1) cap)) ∧ Far P y0 (w3.setCell ⟨P, 2, none⟩ (.slice (some ⟨g, 0, none⟩) (k + 1) cap)) ∧ Row (w3.setCell ⟨P, 2, none⟩ (.slice (some ⟨g, 0, none⟩) (k + 1) cap)) P T (plC sa sn sc ch (some ⟨g, 0, none⟩) (k + 1) cap na nn nc)
      ∧ (w3.setCell ⟨P, 2, none⟩ (.slice (some ⟨g, 0, none⟩) (k + 1) cap)).ownsRow y0.heap.size E 1 (.slice (some ⟨g, 0, none⟩) (k + 1) cap) (k + 1) (kcs ki f (k + 1)) := by
  intro g cap w3 x hx ho3 hg
  subst hx
  have hlt := ho.lt
  have hr3 := hr.grown hg (hr.apart ho hne)
  have hb2 : Below w.heap.size w w2 := hbl.trans (hb.mono hbl.size)
  have hb3 : Below w.heap.size w w3 := hb2.trans ⟨hg.os, hg.tape, hg.output, hg.size, fun j hj => hg.block j (Nat.lt_of_lt_of_le hj hb2.size) (fun e => by have := (hlt j e.symm).1; omega)⟩
  refine ⟨hb3.setCell (p := ⟨P, 2, none⟩) hP _, ((hf.trans (Far.of_below hb)).of_grown hg (fun x hx => (hlt x hx).1)).trans (Far.setCell _ _ _ _), hr3.set 2 _, own_setCell ho3 _ _ _ (hr3.apart ho3 hne)⟩

/-- A number's parts at a place, or nought's. -/
def elB (n : Nat) (fB : Nat → Bool) (i : Int) : Bool := if 0 ≤ i ∧ i < n then fB i.toNat else rB 0
def elS (n : Nat) (fS : Nat → ByteArray) (z : ByteArray) (i : Int) : ByteArray := if 0 ≤ i ∧ i < n then fS i.toNat else z

set_option linter.unusedSimpArgs false in
set_option maxHeartbeats 6400000 in
set_option maxRecDepth 100000 in
theorem r6PickC_any (cs : Array Value) (S : Nat → Int) (r : Nat) (g : Nat → Int) (tn : Nat) (fB : Nat → Bool) (fS fT : Nat → ByteArray) (s1 : Option Addr) (r' c1 : Nat) (S' : Nat → Int) (t1 : Option Addr) (m d1 : Nat) (at' : Nat → Int) (w : World) (h : PlnAt w cs S r true g tn fB fS fT 0) (hs : KRow w .i64 s1 r' c1 S') (ht : KRow w .i64 t1 m d1 at') (hm : m ≤ 1000000) (hL : tn ≤ 1000000) :
    Calls Tryz.prog 44 #[.agg cs, .slice s1 r' c1, .slice t1 m d1] w fun e w' => ∀ fB' fS' fT', PlnTold S' r' true (fun j => elC tn g 32 (at' j)) m fB' fS' fT' 0 w w' e := by
  have LN := Lib.hid (fun wz cs p => r6Len_any cs S r true g tn fB fS fT 0 wz p (by omega) (by omega))
  obtain ⟨sa, sc, ta, tc, na, nc, rfl, h1, h2, h3⟩ := h
  have hl := ht.len
  obtain ⟨i0, hi, hz0, hz1, hz2⟩ := info_parts infoC
  have BB := Lib.hid ((((((((Bag.start w).krow h1).krow h2).qrow h3).krow hs).krow ht).newRow (plC sa r sc true ta tn tc na 0 nc) 46).newRow plZer 46 |>.newRow (plC s1 r' c1 true none 0 0 none 0 0) 46)
  simp only [World.size_alloc] at BB
  have LN := Lib.hid (fun wz a b c => LN.out wz (plC sa r sc true ta tn tc na 0 nc) ⟨sa, sc, ta, tc, na, nc, rfl, a, b, c⟩)
  have eL : ((tn + 0 : Nat) : Int) = (tn : Int) := by omega
  rw [eL] at LN
  have hni := noInt_pl s1 r' c1 true none 0 0 none 0 0
  have hns := noStr_pl s1 r' c1 true none 0 0 none 0 0
  have K1 := BB.out.now.2.2.2.2.2.2.2.1
  have K2 := BB.out.now.2.2.2.2.2.2.1
  have K3 := BB.out.now.2.2.2.2.2.1
  have K4 := BB.out.now.2.2.2.2.1
  have K5 := BB.out.now.2.2.2.1
  have KEEP : Hid (∀ wr, Far (w.heap.size + 1 + 1) (((w.alloc (.cells (plC sa r sc true ta tn tc na 0 nc) 46)).alloc (.cells plZer 46)).alloc (.cells (plC s1 r' c1 true none 0 0 none 0 0) 46)) wr →
      KRow wr .i64 sa r sc S ∧ KRow wr .i32 ta tn tc g ∧ QRow wr na 0 nc fB fS fT ∧ KRow wr .i64 s1 r' c1 S' ∧ KRow wr .i64 t1 m d1 at' ∧ Row wr w.heap.size 46 (plC sa r sc true ta tn tc na 0 nc) ∧ Row wr (w.heap.size + 1) 46 plZer) := Lib.hid fun wr hf =>
    ⟨K1.away (K1.apart BB.out.now.1 hni) hf, K2.away (K2.apart BB.out.now.1 hni) hf, K3.away (K3.apart BB.out.now.1 hns) hf, K4.away (K4.apart BB.out.now.1 hni) hf, K5.away (K5.apart BB.out.now.1 hni) hf,
      (hf.block _ (by omega) BB.out.now.2.2.1.lt).trans BB.out.now.2.2.1, (hf.block _ (by omega) BB.out.now.2.1.lt).trans BB.out.now.2.1⟩
  have hsz := BB.out.now.1.lt
  unfold plZer plC at BB KEEP
  unfold plC at LN
  unfold plC
  clear h1 h2 h3 hs ht K1 K2 K3 K4 K5 eL hni hns
  go_enter Tryz.func44, Tryz.ntmps44
  go_wp2_with fail
  generalize ((w.alloc (.cells #[.slice sa r sc, .bool true, .slice ta tn tc, .slice na 0 nc] 46)).alloc (.cells #[.slice none 0 0, .bool false, .slice none 0 0, .slice none 0 0] 46)).alloc (.cells #[.slice s1 r' c1, .bool true, .slice none 0 0, .slice none 0 0] 46) = y0 at *
  go_loopw [8] (fun i wr => ∃ (k : Nat) (a1 : Option Addr) (ak : Nat), k ≤ m ∧ i = .int .i64 k ∧ Hid (Below w.heap.size w wr ∧ Far (w.heap.size + 1 + 1) y0 wr ∧ Row wr (w.heap.size + 1 + 1) 46 (plC s1 r' c1 true a1 k ak none 0 0) ∧ wr.ownsRow y0.heap.size 21 1 (.slice a1 k ak) k (kcs .i32 (fun j => elC tn g 32 (at' j)) k))) (fun i _ => m - (intOf i).toNat)
  case atStart => exact ⟨0, none, 0, by omega, rfl, BB.out.below, Far.refl _ _, BB.out.now.1, World.ownsRow_nil _ _ _ _⟩
  case round =>
    obtain ⟨k, a1, ak, hk, rfl, hrel⟩ := hrel
    obtain ⟨hbl, hfar, hrp, hown⟩ := hrel.out
    obtain ⟨k1, k2, k3, k4, k5, r0, r1⟩ := KEEP.out wr hfar
    by_cases hlt : k < m
    · obtain ⟨b, off, rfl, hb, hc⟩ := k5.get hlt
      have B1 := Lib.hid ((((((Bag.start wr).krow k1).krow k2).qrow k3).own hown).row hrp |>.row r0)
      have HBL := Lib.hid hbl
      have HF := Lib.hid hfar
      have q3 : wr.cell? ⟨w.heap.size + 1 + 1, 2, none⟩ = some (.slice a1 k ak) := hrp.cell 2
      have p0 : wr.cell? ⟨w.heap.size, 0, none⟩ = some (.slice sa r sc) := r0.cell 0
      have p1 : wr.cell? ⟨w.heap.size, 1, none⟩ = some (.bool true) := r0.cell 1
      have p2 : wr.cell? ⟨w.heap.size, 2, none⟩ = some (.slice ta tn tc) := r0.cell 2
      have p3 : wr.cell? ⟨w.heap.size, 3, none⟩ = some (.slice na 0 nc) := r0.cell 3
      have HMX := Lib.hid (show k + 1 ≤ maxLen by unfold maxLen; omega)
      have HMY := Lib.hid (show (k + 1) * 4 ≤ 140737488355328 by omega)
      have hk0 : (0 : Int) ≤ k := by omega
      have hk1 : (k : Int) < m := by omega
      have hk2 : (k : Int) ≤ m := by omega
      clear hbl hfar hrp hown k1 k2 k3 k4 k5 r0 r1
      by_cases hin : 0 ≤ at' k ∧ at' k < tn
      · obtain ⟨h0, h1⟩ := hin
        obtain ⟨q, hq⟩ : ∃ q : Nat, at' k = q := ⟨(at' k).toNat, by omega⟩
        have hqn : q < tn := by omega
        have HV := Lib.hid (show g q = elC tn g 32 (at' k) by unfold elC; rw [if_pos ⟨h0, h1⟩, hq]; rfl)
        obtain ⟨b2, off2, rfl, hbb2, hcc⟩ := B1.out.now.2.2.2.2.1.get hqn
        rw [hq] at hc h0 h1
        clear hq
        have hq0 : (q : Int) < tn := by omega
        generalize g q = y at *
        go_wp2_with fail
        go_at_call 29
        (with_reducible refine (LN.out _ B1.out.now.2.2.2.2.2.1 B1.out.now.2.2.2.2.1 B1.out.now.2.2.2.1).mono ?_)
        rintro e w2 ⟨rfl, hb2⟩
        have B2 := Lib.hid (B1.out.go hb2)
        have HB2 := Lib.hid hb2
        clear hb2 q3 p0 p1 p2 p3
        have q3 : w2.cell? ⟨w.heap.size + 1 + 1, 2, none⟩ = some (.slice a1 k ak) := B2.out.now.2.1.cell 2
        have p1 : w2.cell? ⟨w.heap.size, 1, none⟩ = some (.bool true) := B2.out.now.1.cell 1
        have p2 : w2.cell? ⟨w.heap.size, 2, none⟩ = some (.slice (some ⟨b2, off2, none⟩) tn tc) := B2.out.now.1.cell 2
        have p3 : w2.cell? ⟨w.heap.size, 3, none⟩ = some (.slice na 0 nc) := B2.out.now.1.cell 3
        have hcc2 : w2.cell? ⟨b2, off2 + q, none⟩ = some (.int .i32 y) := (HB2.out.cell (p := ⟨b2, _, none⟩) hbb2).trans hcc
        have HONE := Lib.hid (show ∀ u ∈ ([.int .i32 y] : List Value), u.oneCell' = true by intro u hu; simp at hu; subst hu; rfl)
        have B3 := Lib.hid ((B2.out.newRow #[.int .i32 y] 21).drew)
        have qp3 : (w2.alloc (.cells #[.int .i32 y] 21)).cell? ⟨w.heap.size + 1 + 1, 2, none⟩ = some (.slice a1 k ak) := B3.out.now.2.2.1.cell 2
        have HROW := Lib.hid B3.out.now.2.2.1
        have HOWN := Lib.hid B3.out.now.2.2.2.1
        have HNEW := Lib.hid (World.news_of_block B3.out.now.1)
        have HBA := Lib.hid (Nat.le_trans HF.out.size B3.out.below.size)
        have HNX := Lib.hid (pt_step HBL.out HF.out B3.out.below HROW.out HOWN.out (by decide) (by omega) BB.out.below.size)
        clear hcc
        go_wp2_with fail
        go_region_law (refine step_append_lies _ rfl (.tmp 39) (.tmp 45) 22 rfl y0.heap.size 21 i0 _ 1 4 Tryz.underlying22 hi hz0 hz1 hz2 rfl (by omega) (.slice a1 k ak) k _ rfl HOWN.out ⟨w2.heap.size, 0, none⟩ 1 1 [.int .i32 y] rfl rfl HNEW.out HONE.out (by omega) HMX.out HMY.out HBA.out _ rfl ?_; intro g9 cap9 w3 hown3 hgrow hor hlt3; have hr3 := HROW.out.grown hgrow (HROW.out.apart HOWN.out (by decide)); have qp : w3.cell? ⟨w.heap.size + 1 + 1, 2, none⟩ = some (.slice a1 k ak) := hr3.cell 2; have fp := hr3.free 2; have HN := Lib.hid (HNX.out g9 cap9 w3 _ HV.out hown3 hgrow); clear hown3 hgrow hor hlt3 hr3)
        all_goals
          go_wp2
          go_roundw
          case rel => exact ⟨k + 1, _, cap9, by omega, by go_num, HN.out⟩
          case measure => simp [intOf]; omega
      · have HV := Lib.hid (show (32 : Int) = elC tn g 32 (at' k) by unfold elC; rw [if_neg hin])
        obtain ⟨x, hx⟩ : ∃ x, at' k = x := ⟨_, rfl⟩
        rw [hx] at hc hin
        clear hx
        by_cases h0 : 0 ≤ x
        · have h1 : ¬ x < (tn : Int) := by omega
          clear hin
          go_wp2_with fail
          go_at_call 29
          (with_reducible refine (LN.out _ B1.out.now.2.2.2.2.2.1 B1.out.now.2.2.2.2.1 B1.out.now.2.2.2.1).mono ?_)
          rintro e w2 ⟨rfl, hb2⟩
          have B2 := Lib.hid (B1.out.go hb2)
          have HB2 := Lib.hid hb2
          clear hb2 q3 p0 p1 p2 p3
          have q3 : w2.cell? ⟨w.heap.size + 1 + 1, 2, none⟩ = some (.slice a1 k ak) := B2.out.now.2.1.cell 2
          have p1 : w2.cell? ⟨w.heap.size, 1, none⟩ = some (.bool true) := B2.out.now.1.cell 1
          have p2 : w2.cell? ⟨w.heap.size, 2, none⟩ = some (.slice ta tn tc) := B2.out.now.1.cell 2
          have p3 : w2.cell? ⟨w.heap.size, 3, none⟩ = some (.slice na 0 nc) := B2.out.now.1.cell 3
          have HONE := Lib.hid (show ∀ u ∈ ([.int .i32 32] : List Value), u.oneCell' = true by intro u hu; simp at hu; subst hu; rfl)
          have B3 := Lib.hid ((B2.out.newRow #[.int .i32 32] 21))
          have qp3 : (w2.alloc (.cells #[.int .i32 32] 21)).cell? ⟨w.heap.size + 1 + 1, 2, none⟩ = some (.slice a1 k ak) := B3.out.now.2.2.1.cell 2
          have HROW := Lib.hid B3.out.now.2.2.1
          have HOWN := Lib.hid B3.out.now.2.2.2.1
          have HNEW := Lib.hid (World.news_of_block B3.out.now.1)
          have HBA := Lib.hid (Nat.le_trans HF.out.size B3.out.below.size)
          have HNX := Lib.hid (pt_step HBL.out HF.out B3.out.below HROW.out HOWN.out (by decide) (by omega) BB.out.below.size)
          go_wp2_with (at_builtin; refine wpList_append_lies _ rfl (.tmp 51) (.tmp 52) 22 rfl y0.heap.size 21 i0 _ 1 4 Tryz.underlying22 hi hz0 hz1 hz2 rfl (by omega) (.slice a1 k ak) k _ rfl HOWN.out ⟨w2.heap.size, 0, none⟩ 1 1 [.int .i32 32] rfl rfl HNEW.out HONE.out (by omega) HMX.out HMY.out HBA.out _ rfl ?_)
          intro g9 cap9 w3 hown3 hgrow hor hlt3
          have hr3 := HROW.out.grown hgrow (HROW.out.apart HOWN.out (by decide)); have qp : w3.cell? ⟨w.heap.size + 1 + 1, 2, none⟩ = some (.slice a1 k ak) := hr3.cell 2; have fp := hr3.free 2; have HN := Lib.hid (HNX.out g9 cap9 w3 _ HV.out hown3 hgrow); clear hown3 hgrow hor hlt3 hr3
          go_wp2
          go_roundw
          case rel => exact ⟨k + 1, _, cap9, by omega, by go_num, HN.out⟩
          case measure => simp [intOf]; omega
        · clear hin
          have HONE := Lib.hid (show ∀ u ∈ ([.int .i32 32] : List Value), u.oneCell' = true by intro u hu; simp at hu; subst hu; rfl)
          have B3 := Lib.hid ((B1.out.newRow #[.int .i32 32] 21))
          have qp3 : (wr.alloc (.cells #[.int .i32 32] 21)).cell? ⟨w.heap.size + 1 + 1, 2, none⟩ = some (.slice a1 k ak) := B3.out.now.2.2.1.cell 2
          have HROW := Lib.hid B3.out.now.2.2.1
          have HOWN := Lib.hid B3.out.now.2.2.2.1
          have HNEW := Lib.hid (World.news_of_block B3.out.now.1)
          have HBA := Lib.hid (Nat.le_trans HF.out.size B3.out.below.size)
          have HNX := Lib.hid (pt_step HBL.out HF.out B3.out.below HROW.out HOWN.out (by decide) (by omega) BB.out.below.size)
          go_wp2_with (at_builtin; refine wpList_append_lies _ rfl (.tmp 51) (.tmp 52) 22 rfl y0.heap.size 21 i0 _ 1 4 Tryz.underlying22 hi hz0 hz1 hz2 rfl (by omega) (.slice a1 k ak) k _ rfl HOWN.out ⟨wr.heap.size, 0, none⟩ 1 1 [.int .i32 32] rfl rfl HNEW.out HONE.out (by omega) HMX.out HMY.out HBA.out _ rfl ?_)
          intro g9 cap9 w3 hown3 hgrow hor hlt3
          have hr3 := HROW.out.grown hgrow (HROW.out.apart HOWN.out (by decide)); have qp : w3.cell? ⟨w.heap.size + 1 + 1, 2, none⟩ = some (.slice a1 k ak) := hr3.cell 2; have fp := hr3.free 2; have HN := Lib.hid (HNX.out g9 cap9 w3 _ HV.out hown3 hgrow); clear hown3 hgrow hor hlt3 hr3
          go_wp2
          go_roundw
          case rel => exact ⟨k + 1, _, cap9, by omega, by go_num, HN.out⟩
          case measure => simp [intOf]; omega
    · obtain rfl : k = m := by omega
      obtain ⟨a9, c9, he, hq⟩ := KRow.of_own hown
      injection he with he1 _ he2
      subst he1 he2
      have HE : Hid (∀ fB' fS' fT', PlnTold S' r' true (fun j => elC tn g 32 (at' j)) k fB' fS' fT' 0 w (wr.setRow (w.heap.size + 1) (plC s1 r' c1 true a1 k ak none 0 0)) (.returned (.agg (plC s1 r' c1 true a1 k ak none 0 0)))) :=
        Lib.hid fun fB' fS' fT' => ans_pln ⟨_, _, _, _, _, _, rfl, k4, hq, QRow.nought _ _ _ (Nat.zero_le _) _ _ _⟩ hbl r1 (Nat.le_succ _)
      have HR0 := Lib.hid r1
      have HRP := Lib.hid hrp
      clear hbl hfar hrp hown k1 k2 k3 k4 k5 r0 r1 hq
      go_wp2_with (first
        | (refine ld_pln rfl (.tmp 7) rfl (w.heap.size + 1 + 1) rfl HRP.out ?_)
        | (refine st_pln rfl (.tmp 6) (.tmp 72) rfl (w.heap.size + 1) rfl _ _ _ _ _ _ _ _ _ _ rfl HR0.out rfl ?_))
      exact bodyPost_ret (res_pln Tryz.results44 rfl (HR0.out.put _) rfl) rfl HE.out

set_option linter.unusedSimpArgs false in
set_option maxHeartbeats 6400000 in
set_option maxRecDepth 100000 in
theorem r6PickN_any (cs : Array Value) (S : Nat → Int) (r : Nat) (g : Nat → Int) (nn : Nat) (fB : Nat → Bool) (fS fT : Nat → ByteArray) (s1 : Option Addr) (r' c1 : Nat) (S' : Nat → Int) (t1 : Option Addr) (m d1 : Nat) (at' : Nat → Int) (w : World) (h : PlnAt w cs S r false g 0 fB fS fT nn) (hs : KRow w .i64 s1 r' c1 S') (ht : KRow w .i64 t1 m d1 at') (hm : m ≤ 1000000) (hL : nn ≤ 1000000) :
    Calls Tryz.prog 44 #[.agg cs, .slice s1 r' c1, .slice t1 m d1] w fun e w' => ∀ g', PlnTold S' r' false g' 0 (fun j => elB nn fB (at' j)) (fun j => elS nn fS (rS 0) (at' j)) (fun j => elS nn fT (str (dec 1)) (at' j)) m w w' e := by
  have LN := Lib.hid (fun wz cs p => r6Len_any cs S r false g 0 fB fS fT nn wz p (by omega) (by omega))
  obtain ⟨sa, sc, ta, tc, na, nc, rfl, h1, h2, h3⟩ := h
  have hl := ht.len
  obtain ⟨i0, hi, hz0, hz1, hz2⟩ := info_parts infoN
  have BB := Lib.hid ((((((((Bag.start w).krow h1).krow h2).qrow h3).krow hs).krow ht).newRow (plC sa r sc false ta 0 tc na nn nc) 46).newRow plZer 46 |>.newRow (plC s1 r' c1 false none 0 0 none 0 0) 46)
  simp only [World.size_alloc] at BB
  have LN := Lib.hid (fun wz a b c => LN.out wz (plC sa r sc false ta 0 tc na nn nc) ⟨sa, sc, ta, tc, na, nc, rfl, a, b, c⟩)
  have eL : ((0 + nn : Nat) : Int) = (nn : Int) := by omega
  rw [eL] at LN
  have hni := noInt_pl s1 r' c1 false none 0 0 none 0 0
  have hns := noStr_pl s1 r' c1 false none 0 0 none 0 0
  have K1 := BB.out.now.2.2.2.2.2.2.2.1
  have K2 := BB.out.now.2.2.2.2.2.2.1
  have K3 := BB.out.now.2.2.2.2.2.1
  have K4 := BB.out.now.2.2.2.2.1
  have K5 := BB.out.now.2.2.2.1
  have KEEP : Hid (∀ wr, Far (w.heap.size + 1 + 1) (((w.alloc (.cells (plC sa r sc false ta 0 tc na nn nc) 46)).alloc (.cells plZer 46)).alloc (.cells (plC s1 r' c1 false none 0 0 none 0 0) 46)) wr →
      KRow wr .i64 sa r sc S ∧ KRow wr .i32 ta 0 tc g ∧ QRow wr na nn nc fB fS fT ∧ KRow wr .i64 s1 r' c1 S' ∧ KRow wr .i64 t1 m d1 at' ∧ Row wr w.heap.size 46 (plC sa r sc false ta 0 tc na nn nc) ∧ Row wr (w.heap.size + 1) 46 plZer) := Lib.hid fun wr hf =>
    ⟨K1.away (K1.apart BB.out.now.1 hni) hf, K2.away (K2.apart BB.out.now.1 hni) hf, K3.away (K3.apart BB.out.now.1 hns) hf, K4.away (K4.apart BB.out.now.1 hni) hf, K5.away (K5.apart BB.out.now.1 hni) hf,
      (hf.block _ (by omega) BB.out.now.2.2.1.lt).trans BB.out.now.2.2.1, (hf.block _ (by omega) BB.out.now.2.1.lt).trans BB.out.now.2.1⟩
  have hsz := BB.out.now.1.lt
  unfold plZer plC at BB KEEP
  unfold plC at LN
  unfold plC
  clear h1 h2 h3 hs ht K1 K2 K3 K4 K5 eL hni hns
  go_enter Tryz.func44, Tryz.ntmps44
  go_wp2_with fail
  generalize ((w.alloc (.cells #[.slice sa r sc, .bool false, .slice ta 0 tc, .slice na nn nc] 46)).alloc (.cells #[.slice none 0 0, .bool false, .slice none 0 0, .slice none 0 0] 46)).alloc (.cells #[.slice s1 r' c1, .bool false, .slice none 0 0, .slice none 0 0] 46) = y0 at *
  go_loopw [8] (fun i wr => ∃ (k : Nat) (a1 : Option Addr) (ak : Nat), k ≤ m ∧ i = .int .i64 k ∧ Hid (Below w.heap.size w wr ∧ Far (w.heap.size + 1 + 1) y0 wr ∧ Row wr (w.heap.size + 1 + 1) 46 (plC s1 r' c1 false none 0 0 a1 k ak) ∧ wr.ownsRow y0.heap.size 34 3 (.slice a1 k ak) k (qcs (fun j => elB nn fB (at' j)) (fun j => elS nn fS (rS 0) (at' j)) (fun j => elS nn fT (str (dec 1)) (at' j)) k))) (fun i _ => m - (intOf i).toNat)
  case atStart => exact ⟨0, none, 0, by omega, rfl, BB.out.below, Far.refl _ _, BB.out.now.1, World.ownsRow_nil _ _ _ _⟩
  case round =>
    obtain ⟨k, a1, ak, hk, rfl, hrel⟩ := hrel
    obtain ⟨hbl, hfar, hrp, hown⟩ := hrel.out
    obtain ⟨k1, k2, k3, k4, k5, r0, r1⟩ := KEEP.out wr hfar
    by_cases hlt : k < m
    · obtain ⟨b, off, rfl, hb, hc⟩ := k5.get hlt
      have B1 := Lib.hid ((((((Bag.start wr).krow k1).krow k2).qrow k3).own hown).row hrp |>.row r0)
      have HBL := Lib.hid hbl
      have HF := Lib.hid hfar
      have q3 : wr.cell? ⟨w.heap.size + 1 + 1, 3, none⟩ = some (.slice a1 k ak) := hrp.cell 3
      have p0 : wr.cell? ⟨w.heap.size, 0, none⟩ = some (.slice sa r sc) := r0.cell 0
      have p1 : wr.cell? ⟨w.heap.size, 1, none⟩ = some (.bool false) := r0.cell 1
      have p2 : wr.cell? ⟨w.heap.size, 2, none⟩ = some (.slice ta 0 tc) := r0.cell 2
      have p3 : wr.cell? ⟨w.heap.size, 3, none⟩ = some (.slice na nn nc) := r0.cell 3
      have HMX := Lib.hid (show k + 1 ≤ maxLen by unfold maxLen; omega)
      have HMY := Lib.hid (show (k + 1) * 40 ≤ 140737488355328 by omega)
      have hk0 : (0 : Int) ≤ k := by omega
      have hk1 : (k : Int) < m := by omega
      have hk2 : (k : Int) ≤ m := by omega
      clear hbl hfar hrp hown k1 k2 k3 k4 k5 r0 r1
      by_cases hin : 0 ≤ at' k ∧ at' k < nn
      · obtain ⟨h0, h1⟩ := hin
        obtain ⟨q, hq⟩ : ∃ q : Nat, at' k = q := ⟨(at' k).toNat, by omega⟩
        have hqn : q < nn := by omega
        have HV := Lib.hid (show fB q = elB nn fB (at' k) ∧ fS q = elS nn fS (rS 0) (at' k) ∧ fT q = elS nn fT (str (dec 1)) (at' k) by unfold elB elS; rw [if_pos ⟨h0, h1⟩, if_pos ⟨h0, h1⟩, if_pos ⟨h0, h1⟩, hq]; exact ⟨rfl, rfl, rfl⟩)
        obtain ⟨b2, off2, rfl, hbb2, hcc, hcd, hce⟩ := B1.out.now.2.2.2.1.get hqn
        rw [hq] at hc h0 h1
        clear hq
        have hq0 : (q : Int) < nn := by omega
        generalize fB q = y1 at *
        generalize fS q = y2 at *
        generalize fT q = y3 at *
        go_wp2_with fail
        go_at_call 29
        (with_reducible refine (LN.out _ B1.out.now.2.2.2.2.2.1 B1.out.now.2.2.2.2.1 B1.out.now.2.2.2.1).mono ?_)
        rintro e w2 ⟨rfl, hb2⟩
        have B2 := Lib.hid (B1.out.go hb2)
        have HB2 := Lib.hid hb2
        clear hb2 q3 p0 p1 p2 p3
        have q3 : w2.cell? ⟨w.heap.size + 1 + 1, 3, none⟩ = some (.slice a1 k ak) := B2.out.now.2.1.cell 3
        have p1 : w2.cell? ⟨w.heap.size, 1, none⟩ = some (.bool false) := B2.out.now.1.cell 1
        have p2 : w2.cell? ⟨w.heap.size, 2, none⟩ = some (.slice ta 0 tc) := B2.out.now.1.cell 2
        have p3 : w2.cell? ⟨w.heap.size, 3, none⟩ = some (.slice (some ⟨b2, off2, none⟩) nn nc) := B2.out.now.1.cell 3
        have hcc2 : w2.cell? ⟨b2, off2 + q * 3, none⟩ = some (.bool y1) := (HB2.out.cell (p := ⟨b2, _, none⟩) hbb2).trans hcc
        have hcd2 : w2.cell? ⟨b2, off2 + q * 3 + 1, none⟩ = some (.string y2) := (HB2.out.cell (p := ⟨b2, _, none⟩) hbb2).trans hcd
        have hce2 : w2.cell? ⟨b2, off2 + q * 3 + 2, none⟩ = some (.string y3) := (HB2.out.cell (p := ⟨b2, _, none⟩) hbb2).trans hce
        have HONE := Lib.hid (show ∀ u ∈ ([.bool y1, .string y2, .string y3] : List Value), u.oneCell' = true by intro u hu; simp at hu; rcases hu with rfl | rfl | rfl <;> rfl)
        have B3 := Lib.hid ((B2.out.newRow #[.bool y1, .string y2, .string y3] 34).drew)
        have qp3 : (w2.alloc (.cells #[.bool y1, .string y2, .string y3] 34)).cell? ⟨w.heap.size + 1 + 1, 3, none⟩ = some (.slice a1 k ak) := B3.out.now.2.2.1.cell 3
        have HROW := Lib.hid B3.out.now.2.2.1
        have HOWN := Lib.hid B3.out.now.2.2.2.1
        have HNEW := Lib.hid (World.news_of_block B3.out.now.1)
        have HBA := Lib.hid (Nat.le_trans HF.out.size B3.out.below.size)
        have HNX := Lib.hid (pl_step HBL.out HF.out B3.out.below HROW.out HOWN.out (by decide) (by omega) BB.out.below.size)
        clear hcc hcd hce
        go_wp2_with fail
        go_region_law (refine step_append_lies _ rfl (.tmp 57) (.tmp 63) 44 rfl y0.heap.size 34 i0 _ 3 40 Tryz.underlying44 hi hz0 hz1 hz2 rfl (by omega) (.slice a1 k ak) k _ rfl HOWN.out ⟨w2.heap.size, 0, none⟩ 1 1 [.bool y1, .string y2, .string y3] rfl rfl HNEW.out HONE.out (by omega) HMX.out HMY.out HBA.out _ rfl ?_; intro g9 cap9 w3 hown3 hgrow hor hlt3; have hr3 := HROW.out.grown hgrow (HROW.out.apart HOWN.out (by decide)); have qp : w3.cell? ⟨w.heap.size + 1 + 1, 3, none⟩ = some (.slice a1 k ak) := hr3.cell 3; have fp := hr3.free 3; have HN := Lib.hid (HNX.out g9 cap9 w3 (by rw [← HV.out.1, ← HV.out.2.1, ← HV.out.2.2]; exact hown3) hgrow); clear hown3 hgrow hor hlt3 hr3)
        all_goals
          go_wp2
          go_roundw
          case rel => exact ⟨k + 1, _, cap9, by omega, by go_num, HN.out⟩
          case measure => simp [intOf]; omega
      · have HV := Lib.hid (show rB 0 = elB nn fB (at' k) ∧ rS 0 = elS nn fS (rS 0) (at' k) ∧ str (dec 1) = elS nn fT (str (dec 1)) (at' k) by unfold elB elS; rw [if_neg hin, if_neg hin, if_neg hin]; exact ⟨rfl, rfl, rfl⟩)
        obtain ⟨z1, hz1'⟩ : ∃ z, elB nn fB (at' k) = z := ⟨_, rfl⟩
        obtain ⟨z2, hz2'⟩ : ∃ z, elS nn fS (rS 0) (at' k) = z := ⟨_, rfl⟩
        obtain ⟨z3, hz3'⟩ : ∃ z, elS nn fT (str (dec 1)) (at' k) = z := ⟨_, rfl⟩
        have ZR := Lib.hid (fun wz => r3Zero_any wz)
        unfold NumTold at ZR
        rw [HV.out.1, HV.out.2.1, HV.out.2.2, hz1', hz2', hz3'] at ZR
        have HV := Lib.hid (And.intro hz1'.symm (And.intro hz2'.symm hz3'.symm))
        clear hz1' hz2' hz3'
        obtain ⟨x, hx⟩ : ∃ x, at' k = x := ⟨_, rfl⟩
        rw [hx] at hc hin
        clear hx
        by_cases h0 : 0 ≤ x
        · have h1 : ¬ x < (nn : Int) := by omega
          clear hin
          go_wp2_with fail
          go_at_call 29
          (with_reducible refine (LN.out _ B1.out.now.2.2.2.2.2.1 B1.out.now.2.2.2.2.1 B1.out.now.2.2.2.1).mono ?_)
          rintro e w2 ⟨rfl, hb2⟩
          have B2 := Lib.hid (B1.out.go hb2)
          have HB2 := Lib.hid hb2
          clear hb2 q3 p0 p1 p2 p3
          have q3 : w2.cell? ⟨w.heap.size + 1 + 1, 3, none⟩ = some (.slice a1 k ak) := B2.out.now.2.1.cell 3
          have p1 : w2.cell? ⟨w.heap.size, 1, none⟩ = some (.bool false) := B2.out.now.1.cell 1
          have p2 : w2.cell? ⟨w.heap.size, 2, none⟩ = some (.slice ta 0 tc) := B2.out.now.1.cell 2
          have p3 : w2.cell? ⟨w.heap.size, 3, none⟩ = some (.slice na nn nc) := B2.out.now.1.cell 3
          have HONE := Lib.hid (show ∀ u ∈ ([.bool z1, .string z2, .string z3] : List Value), u.oneCell' = true by intro u hu; simp at hu; rcases hu with rfl | rfl | rfl <;> rfl)
          go_wp2_with fail
          go_region_law (first
            | (go_simp; go_at_call 20; (with_reducible refine (ZR.out _).mono ?_); rintro e w4 ⟨rfl, hb4⟩;
                have B4 := Lib.hid (B2.out.drew.go hb4);
                have q4 : w4.cell? ⟨w.heap.size + 1 + 1, 3, none⟩ = some (.slice a1 k ak) := B4.out.now.2.1.cell 3;
                have B3 := Lib.hid (B4.out.newRow #[.bool z1, .string z2, .string z3] 34);
                have qp3 : (w4.alloc (.cells #[.bool z1, .string z2, .string z3] 34)).cell? ⟨w.heap.size + 1 + 1, 3, none⟩ = some (.slice a1 k ak) := B3.out.now.2.2.1.cell 3;
                have HROW := Lib.hid B3.out.now.2.2.1;
                have HOWN := Lib.hid B3.out.now.2.2.2.1;
                have HNEW := Lib.hid (World.news_of_block B3.out.now.1);
                have HBA := Lib.hid (Nat.le_trans HF.out.size B3.out.below.size);
                have HNX := Lib.hid (pl_step HBL.out HF.out B3.out.below HROW.out HOWN.out (by decide) (by omega) BB.out.below.size);
                clear hb4)
            | (refine step_append_lies _ rfl (.tmp 67) (.tmp 69) 44 rfl y0.heap.size 34 i0 _ 3 40 Tryz.underlying44 hi hz0 hz1 hz2 rfl (by omega) (.slice a1 k ak) k _ rfl HOWN.out ⟨w4.heap.size, 0, none⟩ 1 1 [.bool z1, .string z2, .string z3] rfl rfl HNEW.out HONE.out (by omega) HMX.out HMY.out HBA.out _ rfl ?_; intro g9 cap9 w3 hown3 hgrow hor hlt3; have hr3 := HROW.out.grown hgrow (HROW.out.apart HOWN.out (by decide)); have qp : w3.cell? ⟨w.heap.size + 1 + 1, 3, none⟩ = some (.slice a1 k ak) := hr3.cell 3; have fp := hr3.free 3; have HN := Lib.hid (HNX.out g9 cap9 w3 (by rw [← HV.out.1, ← HV.out.2.1, ← HV.out.2.2]; exact hown3) hgrow); clear hown3 hgrow hor hlt3 hr3))
          all_goals
            go_wp2
            go_roundw
            case rel => exact ⟨k + 1, _, cap9, by omega, by go_num, HN.out⟩
            case measure => simp [intOf]; omega
        · clear hin
          have HONE := Lib.hid (show ∀ u ∈ ([.bool z1, .string z2, .string z3] : List Value), u.oneCell' = true by intro u hu; simp at hu; rcases hu with rfl | rfl | rfl <;> rfl)
          go_wp2_with fail
          go_region_law (first
            | (go_simp; go_at_call 20; (with_reducible refine (ZR.out _).mono ?_); rintro e w4 ⟨rfl, hb4⟩;
                have B4 := Lib.hid (B1.out.drew.go hb4);
                have q4 : w4.cell? ⟨w.heap.size + 1 + 1, 3, none⟩ = some (.slice a1 k ak) := B4.out.now.2.1.cell 3;
                have B3 := Lib.hid (B4.out.newRow #[.bool z1, .string z2, .string z3] 34);
                have qp3 : (w4.alloc (.cells #[.bool z1, .string z2, .string z3] 34)).cell? ⟨w.heap.size + 1 + 1, 3, none⟩ = some (.slice a1 k ak) := B3.out.now.2.2.1.cell 3;
                have HROW := Lib.hid B3.out.now.2.2.1;
                have HOWN := Lib.hid B3.out.now.2.2.2.1;
                have HNEW := Lib.hid (World.news_of_block B3.out.now.1);
                have HBA := Lib.hid (Nat.le_trans HF.out.size B3.out.below.size);
                have HNX := Lib.hid (pl_step HBL.out HF.out B3.out.below HROW.out HOWN.out (by decide) (by omega) BB.out.below.size);
                clear hb4)
            | (refine step_append_lies _ rfl (.tmp 67) (.tmp 69) 44 rfl y0.heap.size 34 i0 _ 3 40 Tryz.underlying44 hi hz0 hz1 hz2 rfl (by omega) (.slice a1 k ak) k _ rfl HOWN.out ⟨w4.heap.size, 0, none⟩ 1 1 [.bool z1, .string z2, .string z3] rfl rfl HNEW.out HONE.out (by omega) HMX.out HMY.out HBA.out _ rfl ?_; intro g9 cap9 w3 hown3 hgrow hor hlt3; have hr3 := HROW.out.grown hgrow (HROW.out.apart HOWN.out (by decide)); have qp : w3.cell? ⟨w.heap.size + 1 + 1, 3, none⟩ = some (.slice a1 k ak) := hr3.cell 3; have fp := hr3.free 3; have HN := Lib.hid (HNX.out g9 cap9 w3 (by rw [← HV.out.1, ← HV.out.2.1, ← HV.out.2.2]; exact hown3) hgrow); clear hown3 hgrow hor hlt3 hr3))
          all_goals
            go_wp2
            go_roundw
            case rel => exact ⟨k + 1, _, cap9, by omega, by go_num, HN.out⟩
            case measure => simp [intOf]; omega
    · obtain rfl : k = m := by omega
      obtain ⟨a9, c9, he, hq⟩ := QRow.of_own hown
      injection he with he1 _ he2
      subst he1 he2
      have HE : Hid (∀ g', PlnTold S' r' false g' 0 (fun j => elB nn fB (at' j)) (fun j => elS nn fS (rS 0) (at' j)) (fun j => elS nn fT (str (dec 1)) (at' j)) k w (wr.setRow (w.heap.size + 1) (plC s1 r' c1 false none 0 0 a1 k ak)) (.returned (.agg (plC s1 r' c1 false none 0 0 a1 k ak)))) :=
        Lib.hid fun g' => ans_pln ⟨_, _, _, _, _, _, rfl, k4, KRow.nought _ _ _ _ (Nat.zero_le _) _, hq⟩ hbl r1 (Nat.le_succ _)
      have HR0 := Lib.hid r1
      have HRP := Lib.hid hrp
      clear hbl hfar hrp hown k1 k2 k3 k4 k5 r0 r1 hq
      go_wp2_with (first
        | (refine ld_pln rfl (.tmp 7) rfl (w.heap.size + 1 + 1) rfl HRP.out ?_)
        | (refine st_pln rfl (.tmp 6) (.tmp 72) rfl (w.heap.size + 1) rfl _ _ _ _ _ _ _ _ _ _ rfl HR0.out rfl ?_))
      exact bodyPost_ret (res_pln Tryz.results44 rfl (HR0.out.put _) rfl) rfl HE.out

end Go.Proofs.YtdnbpkbapmlfaaaGreatDoor
