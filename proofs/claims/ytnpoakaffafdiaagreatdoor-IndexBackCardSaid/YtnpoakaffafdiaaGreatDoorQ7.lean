/-
  Texts of this seat, laid together.
-/
import Derived.Shelf.Abstract
import Derived.Lib.AppendZeros
import Derived.Laws.AppendOwnNone
import Derived.Laws.EntriesVeiled
import Derived.StillTailTactics
import Derived.Laws.OwnMore
import Derived.Deep.RegionHeld3
import Derived.Test.YtnpoakaffafdiaaGreatDoorQ1
import Derived.Test.YtnpoakaffafdiaaGreatDoorQ2
import Derived.Test.YtnpoakaffafdiaaGreatDoorQ3
import Derived.Test.YtnpoakaffafdiaaGreatDoorQ4
import Derived.Test.YtnpoakaffafdiaaGreatDoorQ5
import Derived.Test.YtnpoakaffafdiaaGreatDoorQ6
set_option maxHeartbeats 12800000
set_option maxRecDepth 100000
set_option linter.unusedSimpArgs false
set_option linter.unusedVariables false
namespace Go.Proofs.YtnpoakaffafdiaaGreatDoor
open Go.RowKit
theorem eqItems_int {P : Program} (d : Nat) (e : TypeId) (he : P.underlying e = some (.int .i64)) (xs ys : Array Value) (f g : Nat -> Int) (w : World) : ∀ is : List Nat, (∀ i ∈ is, (part e xs (i * 1)).run P w = .ok (.int .i64 (f i)) w /\ (part e ys (i * 1)).run P w = .ok (.int .i64 (g i)) w) ->
    (Op.eqItems (d + 1) e 1 xs ys is).run P w = .ok (is.all fun i => f i == g i) w := by
 intro is
 induction is with
 | nil => intro _; simp [Op.eqItems]
 | cons i is ih =>
  intro h
  obtain ⟨h1, h2⟩ := h i (by simp)
  have ih := ih (fun j hj => h j (by simp [hj]))
  simp only [Op.eqItems, Sem.run_bind, h1, h2, Result.andThen_ok, run_equalIn_int w d e .i64 .i64 _ _ he, List.all_cons]
  cases hb : (f i == g i)
  · simp
  · simp only [Bool.not_true, Bool.false_eq_true, if_false, Bool.true_and]
    exact ih
theorem eq_dims (d d' : Nat -> Int) (w : World) : (Op.equalIn 10000 33 (.agg #[.int .i64 (d 0), .int .i64 (d 1), .int .i64 (d 2), .int .i64 (d 3), .int .i64 (d 4), .int .i64 (d 5), .int .i64 (d 6), .int .i64 (d 7)]) (.agg #[.int .i64 (d' 0), .int .i64 (d' 1), .int .i64 (d' 2), .int .i64 (d' 3), .int .i64 (d' 4), .int .i64 (d' 5), .int .i64 (d' 6), .int .i64 (d' 7)])).run Tryz.prog w = .ok (sameB d d' 8) w := by
 obtain ⟨i0, hi, _⟩ := info_parts infoI
 have hu : Tryz.prog.underlying 33 = some (.array 8 3) := by kernel_rfl
 have he : Tryz.prog.underlying 3 = some (.int .i64) := by kernel_rfl
 have hc : Tryz.prog.cellsOf 3 = 1 := by kernel_rfl
 have e := run_equalIn_array (P := Tryz.prog) w 9999 #[.int .i64 (d 0), .int .i64 (d 1), .int .i64 (d 2), .int .i64 (d 3), .int .i64 (d 4), .int .i64 (d 5), .int .i64 (d 6), .int .i64 (d 7)] #[.int .i64 (d' 0), .int .i64 (d' 1), .int .i64 (d' 2), .int .i64 (d' 3), .int .i64 (d' 4), .int .i64 (d' 5), .int .i64 (d' 6), .int .i64 (d' 7)] hu hi
 refine e.trans ?_
 rw [hc]
 rw [eqItems_int 9998 3 he _ _ d d' w]
 · congr 1
   rw [Bool.eq_iff_iff, List.all_eq_true, sameB_iff]
   constructor
   · intro h j hj
     exact beq_iff_eq.1 (h j (List.mem_range.2 hj))
   · intro h j hj
     exact beq_iff_eq.2 (h j (List.mem_range.1 hj))
 · intro i hi
   have hi := List.mem_range.1 hi
   have key : ∀ (q : Nat -> Int), (part 3 #[.int .i64 (q 0), .int .i64 (q 1), .int .i64 (q 2), .int .i64 (q 3), .int .i64 (q 4), .int .i64 (q 5), .int .i64 (q 6), .int .i64 (q 7)] (i * 1)).run Tryz.prog w = .ok (.int .i64 (q i)) w := by
    intro q
    match i, hi with
    | 0, _ => simp [part, isAgg, run_underlying he]
    | 1, _ => simp [part, isAgg, run_underlying he]
    | 2, _ => simp [part, isAgg, run_underlying he]
    | 3, _ => simp [part, isAgg, run_underlying he]
    | 4, _ => simp [part, isAgg, run_underlying he]
    | 5, _ => simp [part, isAgg, run_underlying he]
    | 6, _ => simp [part, isAgg, run_underlying he]
    | 7, _ => simp [part, isAgg, run_underlying he]
   exact ⟨key d, key d'⟩
def asB (ch ch' : Bool) (more more' : Int) (d d' : Nat -> Int) (tn tn' : Nat) (g g' : Nat -> Int) (nn nn' : Nat) (fP : Nat -> Int) (fQ : Nat -> Nat) (gP : Nat -> Int) (gQ : Nat -> Nat) : Bool :=
 decide (ch = ch') && (decide (more = more') && (sameB d d' 8 && ((decide (tn = tn') && sameB g g' tn) && (decide (nn = nn') && rsB fP fQ gP gQ nn))))
theorem aSame_any (ch : Bool) (more : Int) (d : Nat -> Int) (na : Option Addr) (nn nc : Nat) (ta : Option Addr) (tn tc : Nat) (fP : Nat -> Int) (fQ : Nat -> Nat) (g : Nat -> Int) (ch' : Bool) (more' : Int) (d' : Nat -> Int) (na' : Option Addr) (nn' nc' : Nat) (ta' : Option Addr) (tn' tc' : Nat) (gP : Nat -> Int) (gQ : Nat -> Nat) (g' : Nat -> Int)
    (w : World) (h1 : RRow w na nn nc fP fQ) (h2 : KRow w .i32 ta tn tc g) (h1' : RRow w na' nn' nc' gP gQ) (h2' : KRow w .i32 ta' tn' tc' g') (K : Nat) (hK : K <= 400000) (q1 : CmpOk K fP fQ nn) (q2 : CmpOk K gP gQ nn') :
    Calls Tryz.prog 18 #[.agg (arrC ch more d na nn nc ta tn tc), .agg (arrC ch' more' d' na' nn' nc' ta' tn' tc')] w fun e w' => SameTold (asB ch ch' more more' d d' tn tn' g g' nn nn' fP fQ gP gQ) w w' e := by
 have ER := Lib.hid (fun wz p q => eqRunes_any ta tn tc g ta' tn' tc' g' wz p q)
 have EF := Lib.hid (fun wz p q => eqFunc_any na nn nc fP fQ na' nn' nc' gP gQ wz p q K hK q1 q2)
 have DM := Lib.hid (fun wz => eq_dims d d' wz)
 have BB := Lib.hid ((((((Bag.start w).rrow h1).krow h2).rrow h1').krow h2').newRow (arrC ch more d na nn nc ta tn tc) 36 |>.newRow (arrC ch' more' d' na' nn' nc' ta' tn' tc') 36)
 simp only [World.size_alloc] at BB
 unfold SameTold at ER EF
 unfold asB
 unfold arrC at BB
 unfold arrC
 generalize sameB d d' 8 = xd at *
 generalize (decide (tn = tn') && sameB g g' tn) = xt at *
 generalize (decide (nn = nn') && rsB fP fQ gP gQ nn) = xn at *
 clear h1 h2 h1' h2' q1 q2
 have H0 := Lib.hid BB.out.below
 by_cases hc : ch = ch'
 · subst hc
   rw [decide_eq_true rfl, Bool.true_and]
   have ec : (ch == ch) = true := beq_self_eq_true ch
   by_cases hm : more = more'
   · subst hm
     rw [decide_eq_true rfl, Bool.true_and]
     have em : (more == more) = true := beq_self_eq_true more
     cases xd with
     | false =>
      have edm := DM.out
      rw [Bool.false_and]
      go_enter Tryz.func18, Tryz.ntmps18
      go_wp2
      go_ret
      exact ⟨rfl, H0.out⟩
     | true =>
      have edm := DM.out
      rw [Bool.true_and]
      cases xt with
      | false =>
       rw [Bool.false_and]
       go_enter Tryz.func18, Tryz.ntmps18
       go_wp2_with fail
       go_at_call 57
       (with_reducible refine (ER.out _ BB.out.now.2.2.2.2.1 BB.out.now.2.2.1).mono ?_)
       rintro e w2 ⟨rfl, hb2⟩
       have HE := Lib.hid (BB.out.go hb2).below
       clear hb2
       go_wp2
       go_ret
       exact ⟨rfl, HE.out⟩
      | true =>
       rw [Bool.true_and]
       go_enter Tryz.func18, Tryz.ntmps18
       go_wp2_with fail
       go_at_call 57
       (with_reducible refine (ER.out _ BB.out.now.2.2.2.2.1 BB.out.now.2.2.1).mono ?_)
       rintro e w2 ⟨rfl, hb2⟩
       have BB := Lib.hid (BB.out.go hb2)
       clear hb2
       have x10 := BB.out.now.2.1.cell 10
       have y10 := BB.out.now.1.cell 10
       go_wp2_with fail
       go_at_call 58
       (with_reducible refine (EF.out _ BB.out.now.2.2.2.2.2.1 BB.out.now.2.2.2.1).mono ?_)
       rintro e w3 ⟨rfl, hb3⟩
       have HE := Lib.hid (BB.out.go hb3).below
       clear hb3 x10 y10
       go_wp2
       go_ret
       exact ⟨rfl, HE.out⟩
   · rw [decide_eq_false hm, Bool.false_and]
     have em : (more == more') = false := beq_eq_false_iff_ne.2 hm
     clear hm
     go_enter Tryz.func18, Tryz.ntmps18
     go_wp2
     go_ret
     exact ⟨rfl, H0.out⟩
 · rw [decide_eq_false hc, Bool.false_and]
   cases ch <;> cases ch'
   · exact absurd rfl hc
   · clear hc
     go_enter Tryz.func18, Tryz.ntmps18
     go_wp2
     go_ret
     exact ⟨rfl, H0.out⟩
   · clear hc
     go_enter Tryz.func18, Tryz.ntmps18
     go_wp2
     go_ret
     exact ⟨rfl, H0.out⟩
   · exact absurd rfl hc
theorem r6Right_any (cs : Array Value) (S : Nat -> Int) (r : Nat) (ch : Bool) (g : Nat -> Int) (tn : Nat) (fB : Nat -> Bool) (fS fT : Nat -> ByteArray) (nn : Nat) (w : World) (h : PlnAt w cs S r ch g tn fB fS fT nn) (hS : In64 S r) (hs : Short fS fT nn) :
    Calls Tryz.prog 35 #[.agg cs] w fun e w' => SameTold (ofB S r ch tn fB fS fT nn) w w' e := by
 obtain ⟨sa, sc, ta, tc, na, nc, rfl, h1, h2, h3⟩ := h
 have hl1 := h1.len
 have hl2 := h2.len
 have hl3 := h3.len
 have BB := Lib.hid (((((Bag.start w).krow h1).krow h2).qrow h3).newRow (plC sa r sc ch ta tn tc na nn nc) 26)
 have RC := Lib.hid (fun wz p => r6Count_any sa r sc S wz p hS)
 unfold CntTold cntI at RC
 have RT := Lib.hid (fun j (hj : j < nn) wz => r3Right_any (fB j) (fS j) (fT j) wz (hs j hj).1 (hs j hj).2)
 unfold plC at BB
 unfold plC
 have H0 := Lib.hid BB.out.below
 clear h1 h2 h3 hs hS
 cases hsh : shB S r with
 | false =>
  have ho : ofB S r ch tn fB fS fT nn = false := by unfold ofB; rw [hsh]; cases ch <;> simp
  rw [ho]
  rw [hsh, if_neg (by decide)] at RC
  clear ho hsh
  go_enter Tryz.func35, Tryz.ntmps35
  go_wp2_with fail
  go_at_call 86
  (with_reducible refine (RC.out _ BB.out.now.2.2.2.1).mono ?_)
  rintro e w2 ⟨rfl, rfl⟩
  go_wp2
  go_ret
  exact ⟨rfl, H0.out⟩
 | true =>
  have hob : ofB S r ch tn fB fS fT nn = if ch then decide (nn = 0) && decide (itm S r = tn) else decide (tn = 0) && (okN fB fS fT nn && decide (itm S r = nn)) := by unfold ofB; rw [hsh, Bool.true_and, Bool.true_and]
  rw [hob]
  rw [hsh, if_pos rfl] at RC
  generalize itm S r = K0 at *
  clear hob hsh
  cases ch with
  | true =>
   rw [if_pos rfl]
   by_cases hk : K0 = (tn : Int)
   · subst hk
     have e1 : ((tn : Int) != tn) = false := bne_self_eq_false _
     by_cases h0 : nn = 0
     · have e2 : ((nn : Int) != 0) = false := by rw [h0]; rfl
       have HT : Hid (okN fB fS fT nn = (decide (nn = 0) && decide ((tn : Int) = tn))) := by show _ = _; rw [h0, decide_eq_true rfl, decide_eq_true rfl]; rfl
       have HN := Lib.hid h0
       clear h0
       generalize (decide (nn = 0) && decide ((tn : Int) = tn)) = ans at *
       go_enter Tryz.func35, Tryz.ntmps35
       go_wp2_with fail
       go_at_call 86
       (with_reducible refine (RC.out _ BB.out.now.2.2.2.1).mono ?_)
       rintro e w2 ⟨rfl, hw2⟩
       have BB := Lib.hid (hw2 ▸ BB.out)
       have HBW : Hid (Below w.heap.size w w2) := Lib.hid BB.out.below
       clear hw2
       obtain ⟨x0, x1, x2, x3⟩ := pl_cells BB.out.now.1
       go_wp2_with fail
       go_loopw [5] (fun i wr => ∃ k : Nat, k <= nn /\ i = .int .i64 k /\ Hid (Below w2.heap.size w2 wr /\ okN fB fS fT k = true)) (fun i _ => nn - (intOf i).toNat)
       case atStart => exact ⟨0, by omega, rfl, Below.refl _ _, rfl⟩
       case round =>
        obtain ⟨k, hk, rfl, hrel⟩ := hrel
        obtain ⟨hbl, hok⟩ := hrel.out
        have B4 := Lib.hid (BB.out.go hbl)
        clear x0 x1 x2 x3
        obtain ⟨x0, x1, x2, x3⟩ := pl_cells B4.out.now.1
        by_cases hlt : k < nn
        · obtain ⟨b, off, rfl, hb, c1, c2, c3⟩ := B4.out.now.2.1.get hlt
          have RK := Lib.hid (RT.out k hlt)
          have HBL := Lib.hid hbl
          cases ho : ofO (fB k) (fS k) (fT k) with
          | false =>
           have hno : okN fB fS fT nn = false := by
            cases hx : okN fB fS fT nn with
            | false => rfl
            | true => rw [okN_iff.1 hx k hlt] at ho; cases ho
           have HNO : Hid (ans = false) := Lib.hid (HT.out.symm.trans hno)
           rw [ho] at RK
           clear hbl hok hno ho
           generalize fB k = u1 at *
           generalize fS k = u2 at *
           generalize fT k = u3 at *
           go_wp2_with fail
           go_at_call 62
           (with_reducible refine (RK.out _).mono ?_)
           rintro e w4 ⟨rfl, hb4⟩
           have HE : Hid (SameTold ans w w4 (.returned (.bool false))) := Lib.hid ⟨by rw [HNO.out], (B4.out.go hb4).below⟩
           clear hb4
           go_wp2
           go_ret
           exact HE.out
          | true =>
           have HO2 : Hid (okN fB fS fT (k + 1) = true) := by show (okN fB fS fT k && _) = true; rw [hok, ho]; rfl
           rw [ho] at RK
           clear hbl hok ho
           generalize fB k = u1 at *
           generalize fS k = u2 at *
           generalize fT k = u3 at *
           go_wp2_with fail
           go_at_call 62
           (with_reducible refine (RK.out _).mono ?_)
           rintro e w4 ⟨rfl, hb4⟩
           have HN2 : Hid (Below w2.heap.size w2 w4 /\ okN fB fS fT (k + 1) = true) := Lib.hid ⟨HBL.out.trans (hb4.mono HBL.out.size), HO2.out⟩
           clear hb4
           go_wp2
           go_roundw
           case rel => exact ⟨k + 1, by omega, by go_num, HN2.out⟩
           case measure => simp [intOf]; omega
        · obtain rfl : k = nn := by omega
          have HE : Hid (SameTold ans w wr (.returned (.bool true))) := Lib.hid ⟨by rw [← HT.out, hok], B4.out.below⟩
          clear hbl hok
          go_wp2
          go_ret
          exact HE.out
     · have e2 : ((nn : Int) != 0) = true := bne_iff_ne.2 (by omega)
       rw [decide_eq_false h0, Bool.false_and]
       clear h0
       go_enter Tryz.func35, Tryz.ntmps35
       go_wp2_with fail
       go_at_call 86
       (with_reducible refine (RC.out _ BB.out.now.2.2.2.1).mono ?_)
       rintro e w2 ⟨rfl, rfl⟩
       go_wp2
       go_ret
       exact ⟨rfl, H0.out⟩
   · have e1 : ((tn : Int) != K0) = true := bne_iff_ne.2 (fun e => hk e.symm)
     rw [decide_eq_false hk, Bool.and_false]
     clear hk
     go_enter Tryz.func35, Tryz.ntmps35
     go_wp2_with fail
     go_at_call 86
     (with_reducible refine (RC.out _ BB.out.now.2.2.2.1).mono ?_)
     rintro e w2 ⟨rfl, rfl⟩
     go_wp2
     go_ret
     exact ⟨rfl, H0.out⟩
  | false =>
   rw [if_neg (by decide)]
   by_cases hk : K0 = (nn : Int)
   · subst hk
     have e1 : ((nn : Int) != nn) = false := bne_self_eq_false _
     by_cases h0 : tn = 0
     · have e2 : ((tn : Int) != 0) = false := by rw [h0]; rfl
       have HT : Hid (okN fB fS fT nn = (decide (tn = 0) && (okN fB fS fT nn && decide ((nn : Int) = nn)))) := by show _ = _; rw [decide_eq_true h0, decide_eq_true rfl, Bool.true_and, Bool.and_true]
       have HN := Lib.hid h0
       clear h0
       generalize (decide (tn = 0) && (okN fB fS fT nn && decide ((nn : Int) = nn))) = ans at *
       go_enter Tryz.func35, Tryz.ntmps35
       go_wp2_with fail
       go_at_call 86
       (with_reducible refine (RC.out _ BB.out.now.2.2.2.1).mono ?_)
       rintro e w2 ⟨rfl, hw2⟩
       have BB := Lib.hid (hw2 ▸ BB.out)
       have HBW : Hid (Below w.heap.size w w2) := Lib.hid BB.out.below
       clear hw2
       obtain ⟨x0, x1, x2, x3⟩ := pl_cells BB.out.now.1
       go_wp2_with fail
       go_loopw [5] (fun i wr => ∃ k : Nat, k <= nn /\ i = .int .i64 k /\ Hid (Below w2.heap.size w2 wr /\ okN fB fS fT k = true)) (fun i _ => nn - (intOf i).toNat)
       case atStart => exact ⟨0, by omega, rfl, Below.refl _ _, rfl⟩
       case round =>
        obtain ⟨k, hk, rfl, hrel⟩ := hrel
        obtain ⟨hbl, hok⟩ := hrel.out
        have B4 := Lib.hid (BB.out.go hbl)
        clear x0 x1 x2 x3
        obtain ⟨x0, x1, x2, x3⟩ := pl_cells B4.out.now.1
        by_cases hlt : k < nn
        · obtain ⟨b, off, rfl, hb, c1, c2, c3⟩ := B4.out.now.2.1.get hlt
          have RK := Lib.hid (RT.out k hlt)
          have HBL := Lib.hid hbl
          cases ho : ofO (fB k) (fS k) (fT k) with
          | false =>
           have hno : okN fB fS fT nn = false := by
            cases hx : okN fB fS fT nn with
            | false => rfl
            | true => rw [okN_iff.1 hx k hlt] at ho; cases ho
           have HNO : Hid (ans = false) := Lib.hid (HT.out.symm.trans hno)
           rw [ho] at RK
           clear hbl hok hno ho
           generalize fB k = u1 at *
           generalize fS k = u2 at *
           generalize fT k = u3 at *
           go_wp2_with fail
           go_at_call 62
           (with_reducible refine (RK.out _).mono ?_)
           rintro e w4 ⟨rfl, hb4⟩
           have HE : Hid (SameTold ans w w4 (.returned (.bool false))) := Lib.hid ⟨by rw [HNO.out], (B4.out.go hb4).below⟩
           clear hb4
           go_wp2
           go_ret
           exact HE.out
          | true =>
           have HO2 : Hid (okN fB fS fT (k + 1) = true) := by show (okN fB fS fT k && _) = true; rw [hok, ho]; rfl
           rw [ho] at RK
           clear hbl hok ho
           generalize fB k = u1 at *
           generalize fS k = u2 at *
           generalize fT k = u3 at *
           go_wp2_with fail
           go_at_call 62
           (with_reducible refine (RK.out _).mono ?_)
           rintro e w4 ⟨rfl, hb4⟩
           have HN2 : Hid (Below w2.heap.size w2 w4 /\ okN fB fS fT (k + 1) = true) := Lib.hid ⟨HBL.out.trans (hb4.mono HBL.out.size), HO2.out⟩
           clear hb4
           go_wp2
           go_roundw
           case rel => exact ⟨k + 1, by omega, by go_num, HN2.out⟩
           case measure => simp [intOf]; omega
        · obtain rfl : k = nn := by omega
          have HE : Hid (SameTold ans w wr (.returned (.bool true))) := Lib.hid ⟨by rw [← HT.out, hok], B4.out.below⟩
          clear hbl hok
          go_wp2
          go_ret
          exact HE.out
     · have e2 : ((tn : Int) != 0) = true := bne_iff_ne.2 (by omega)
       rw [decide_eq_false h0, Bool.false_and]
       clear h0
       go_enter Tryz.func35, Tryz.ntmps35
       go_wp2_with fail
       go_at_call 86
       (with_reducible refine (RC.out _ BB.out.now.2.2.2.1).mono ?_)
       rintro e w2 ⟨rfl, rfl⟩
       go_wp2
       go_ret
       exact ⟨rfl, H0.out⟩
   · have e1 : ((nn : Int) != K0) = true := bne_iff_ne.2 (fun e => hk e.symm)
     rw [decide_eq_false hk, Bool.and_false, Bool.and_false]
     clear hk
     go_enter Tryz.func35, Tryz.ntmps35
     go_wp2_with fail
     go_at_call 86
     (with_reducible refine (RC.out _ BB.out.now.2.2.2.1).mono ?_)
     rintro e w2 ⟨rfl, rfl⟩
     go_wp2
     go_ret
     exact ⟨rfl, H0.out⟩
def LightTold (m : Int) (S : Nat -> Int) (r : Nat) (ch : Bool) (tn : Nat) (fB : Nat -> Bool) (fS fT : Nat -> ByteArray) (nn : Nat) (w w' : World) (e : Ending) : Prop :=
 ∃ b, e = .returned (.bool b) /\ (b = true -> (tn : Int) <= m /\ (nn : Int) <= m /\ r <= 8 /\ Short fS fT nn /\ ofB S r ch tn fB fS fT nn = true) /\ Below w.heap.size w w'
theorem light_any (m : Int) (cs : Array Value) (S : Nat -> Int) (r : Nat) (ch : Bool) (g : Nat -> Int) (tn : Nat) (fB : Nat -> Bool) (fS fT : Nat -> ByteArray) (nn : Nat) (w : World) (h : PlnAt w cs S r ch g tn fB fS fT nn) (hS : In64 S r) (hz : ∀ j, j < nn -> (fS j).size <= maxLen /\ (fT j).size <= maxLen) :
    Calls Tryz.prog 9 #[.agg cs, .int .i64 m] w fun e w' => LightTold m S r ch tn fB fS fT nn w w' e := by
 have RI := Lib.hid (fun wz cs p hs => r6Right_any cs S r ch g tn fB fS fT nn wz p hS hs)
 obtain ⟨sa, sc, ta, tc, na, nc, rfl, h1, h2, h3⟩ := h
 have hl1 := h1.len
 have hl2 := h2.len
 have hl3 := h3.len
 have BB := Lib.hid (((((Bag.start w).krow h1).krow h2).qrow h3).newRow (plC sa r sc ch ta tn tc na nn nc) 26)
 unfold SameTold at RI
 have H0 : Hid (LightTold m S r ch tn fB fS fT nn w (w.alloc (.cells (plC sa r sc ch ta tn tc na nn nc) 26)) (.returned (.bool false))) := Lib.hid ⟨false, rfl, fun h => (by cases h), BB.out.below⟩
 unfold plC at BB H0
 unfold plC
 clear h1 h2 h3 hS
 by_cases h1 : m < (tn : Int)
 · go_enter Tryz.func9, Tryz.ntmps9
   go_wp2
   go_ret
   exact H0.out
 by_cases h2 : m < (nn : Int)
 · go_enter Tryz.func9, Tryz.ntmps9
   go_wp2
   go_ret
   exact H0.out
 by_cases h3 : (8 : Int) < (r : Int)
 · go_enter Tryz.func9, Tryz.ntmps9
   go_wp2
   go_ret
   exact H0.out
 have HZ := Lib.hid hz
 have HC : Hid ((tn : Int) <= m /\ (nn : Int) <= m /\ r <= 8) := ⟨by omega, by omega, by omega⟩
 clear hz
 have HB0 := Lib.hid BB.out.below
 go_enter Tryz.func9, Tryz.ntmps9
 go_wp2_with fail
 go_loopw [5] (fun i wr => ∃ k : Nat, k <= nn /\ i = .int .i64 k /\ Hid (Below (w.heap.size + 1) (w.alloc (.cells #[.slice sa r sc, .bool ch, .slice ta tn tc, .slice na nn nc] 26)) wr /\ ∀ j, j < k -> (fS j).size <= 60 /\ (fT j).size <= 60)) (fun i _ => nn - (intOf i).toNat)
 case atStart => exact ⟨0, by omega, rfl, by have := Below.refl (w.alloc (.cells #[.slice sa r sc, .bool ch, .slice ta tn tc, .slice na nn nc] 26)).heap.size (w.alloc (.cells #[.slice sa r sc, .bool ch, .slice ta tn tc, .slice na nn nc] 26)); simpa using this, fun j hj => absurd hj (Nat.not_lt_zero _)⟩
 case round =>
  obtain ⟨k, hk, rfl, hrel⟩ := hrel
  obtain ⟨hbl, hsm⟩ := hrel.out
  have B4 := Lib.hid (BB.out.go (by simpa using hbl))
  obtain ⟨x0, x1, x2, x3⟩ := pl_cells B4.out.now.1
  by_cases hlt : k < nn
  · obtain ⟨b, off, rfl, hb, c1, c2, c3⟩ := B4.out.now.2.1.get hlt
    obtain ⟨z1, z2⟩ := HZ.out k hlt
    have HE : Hid (LightTold m S r ch tn fB fS fT nn w wr (.returned (.bool false))) := Lib.hid ⟨false, rfl, fun h => (by cases h), B4.out.below⟩
    have HBL := Lib.hid hbl
    have HSM := Lib.hid hsm
    clear hbl hsm
    have hg1 : (fS k).size <= 9223372036854775807 := by unfold maxLen at z1; omega
    have hg2 : (fT k).size <= 9223372036854775807 := by unfold maxLen at z2; omega
    by_cases g1 : (40 : Int) < ((fS k).size : Int)
    · generalize fS k = u1 at *
      generalize fT k = u2 at *
      go_wp2
      go_ret
      exact HE.out
    by_cases g2 : (40 : Int) < ((fT k).size : Int)
    · generalize fS k = u1 at *
      generalize fT k = u2 at *
      go_wp2
      go_ret
      exact HE.out
    have HN : Hid (Below (w.heap.size + 1) (w.alloc (.cells #[.slice sa r sc, .bool ch, .slice ta tn tc, .slice (some ⟨b, off, none⟩) nn nc] 26)) wr /\ ∀ j, j < k + 1 -> (fS j).size <= 60 /\ (fT j).size <= 60) :=
     ⟨HBL.out, fun j hj => by
       rcases Nat.lt_or_ge j k with e | e
       · exact HSM.out j e
       · obtain rfl : j = k := by omega
         exact ⟨by omega, by omega⟩⟩
    generalize hu1 : fS k = u1 at *
    generalize hu2 : fT k = u2 at *
    clear hu1 hu2
    go_wp2
    go_roundw
    case rel => exact ⟨k + 1, by omega, by go_num, HN.out⟩
    case measure => simp [intOf]; omega
  · obtain rfl : k = nn := by omega
    have HR : Hid (Row wr w.heap.size 26 (plC sa r sc ch ta tn tc na k nc)) := Lib.hid B4.out.now.1
    have HP : Hid (PlnAt wr (plC sa r sc ch ta tn tc na k nc) S r ch g tn fB fS fT k) := Lib.hid ⟨sa, sc, ta, tc, na, nc, rfl, B4.out.now.2.2.2.1, B4.out.now.2.2.1, B4.out.now.2.1⟩
    have RW := Lib.hid (RI.out wr _ HP.out hsm)
    have HS := Lib.hid hsm
    clear hbl hsm RI
    go_wp2_with (refine ld_pln rfl (.tmp 2) rfl w.heap.size rfl HR.out ?_)
    go_at_call 35
    (with_reducible refine (RW.out).mono ?_)
    rintro e w3 ⟨rfl, hb3⟩
    have HE : Hid (LightTold m S r ch tn fB fS fT k w w3 (.returned (.bool (ofB S r ch tn fB fS fT k)))) := Lib.hid ⟨_, rfl, fun h => ⟨HC.out.1, HC.out.2.1, HC.out.2.2, HS.out, h⟩, (B4.out.go hb3).below⟩
    generalize ofB S r ch tn fB fS fT k = ob at *
    clear hb3
    go_wp2
    go_ret
    exact HE.out
def LOfTold (S : Nat -> Int) (r : Nat) (ch : Bool) (g : Nat -> Int) (tn : Nat) (fP : Nat -> Int) (fQ : Nat -> Nat) (nn : Nat) (w w' : World) (e : Ending) : Prop :=
 ∃ na nc ta tc, e = .returned (.agg (arrC ch ((r : Int) - 1) (dm S r) na nn nc ta tn tc)) /\ RRow w' na nn nc fP fQ /\ KRow w' .i32 ta tn tc g /\ (ch = false -> ta = none /\ tc = 0) /\ (ch = true -> na = none /\ nc = 0) /\ Below w.heap.size w w'
theorem lof_any (cs : Array Value) (S : Nat -> Int) (r : Nat) (ch : Bool) (g : Nat -> Int) (tn : Nat) (fB : Nat -> Bool) (fS fT : Nat -> ByteArray) (nn : Nat) (w : World) (h : PlnAt w cs S r ch g tn fB fS fT nn) (hS : In64 S r) (hs : Short fS fT nn) (hn : nn <= 100000) (htn : tn <= 100000) (ho : ofB S r ch tn fB fS fT nn = true) :
    Calls Tryz.prog 12 #[.agg cs] w fun e w' => LOfTold S r ch g tn (fun j => ofP (fB j) (fS j) (fT j)) (fun j => ofQ (fB j) (fS j) (fT j)) nn w w' e := by
 have OF := Lib.hid (fun wz cs p => of6_any cs S r ch g tn fB fS fT nn wz p hS hs hn htn)
 unfold OfTold at OF
 rw [ho] at OF
 obtain ⟨sa, sc, ta, tc, na, nc, rfl, h1, h2, h3⟩ := h
 have BB := Lib.hid (((((Bag.start w).krow h1).krow h2).qrow h3).newRow (plC sa r sc ch ta tn tc na nn nc) 26 |>.newRow zerC 36)
 simp only [World.size_alloc] at BB
 have HP := Lib.hid (fun wz a b c => OF.out wz (plC sa r sc ch ta tn tc na nn nc) ⟨sa, sc, ta, tc, na, nc, rfl, a, b, c⟩)
 have HR := Lib.hid BB.out.now.2.1
 clear h1 h2 h3 hS hs hn htn ho OF
 go_enter Tryz.func12, Tryz.ntmps12
 go_wp2_with (refine ld_pln rfl (.tmp 1) rfl w.heap.size rfl HR.out ?_)
 go_at_call 42
 (with_reducible refine (HP.out _ ?_ ?_ ?_).mono ?_)
 · exact BB.out.now.2.2.2.2.1
 · exact BB.out.now.2.2.2.1
 · exact BB.out.now.2.2.1
 rintro e w3 ⟨cs3, rfl, hcs, hb3⟩
 rw [if_pos trivial] at hcs
 obtain ⟨na3, nc3, ta3, tc3, rfl, hr3, ht3, hf3, hg3⟩ := hcs
 have B3 := ((BB.out.go hb3).rrow hr3).krow ht3 |>.newRow (arrC ch ((r : Int) - 1) (dm S r) na3 nn nc3 ta3 tn tc3) 36
 have HR1 := Lib.hid B3.now.1
 have HZ := Lib.hid B3.now.2.2.2.1
 have hz := B3.now.2.2.2.1
 rw [zerC_eq] at hz
 have HE : Hid (LOfTold S r ch g tn (fun j => ofP (fB j) (fS j) (fT j)) (fun j => ofQ (fB j) (fS j) (fT j)) nn w ((w3.alloc (.cells (arrC ch ((r : Int) - 1) (dm S r) na3 nn nc3 ta3 tn tc3) 36)).setRow (w.heap.size + 1) (arrC ch ((r : Int) - 1) (dm S r) na3 nn nc3 ta3 tn tc3)) (.returned (.agg (arrC ch ((r : Int) - 1) (dm S r) na3 nn nc3 ta3 tn tc3)))) :=
  Lib.hid ⟨na3, nc3, ta3, tc3, rfl, B3.now.2.2.1.away (Row.noLimb hz) (RRow.ne B3.now.2.2.1 hz) (Far.setRow _ _ _), B3.now.2.1.away (KRow.ne B3.now.2.1 (by decide) hz) (Far.setRow _ _ _), hf3, hg3, below_put B3.below (Nat.le_succ _) _⟩
 clear hb3 B3 hr3 ht3 hz
 unfold arrC
 unfold arrC at HR1
 go_wp2_with (first
  | (refine ld_arr rfl (.tmp 3) rfl w3.heap.size rfl HR1.out ?_)
  | (refine st_arr rfl (.tmp 2) (.tmp 10) rfl (w.heap.size + 1) rfl _ _ _ _ _ _ _ _ _ rfl HZ.out rfl ?_))
 exact bodyPost_ret (res_arr Tryz.results12 rfl (HZ.out.put _) rfl) rfl HE.out
theorem ofO_facts {b : Bool} {s t : ByteArray} (h : ofO b s t = true) : rB (ofP b s t) = b /\ rS (ofP b s t) = s /\ str (dec (ofQ b s t)) = t /\ 0 < ofQ b s t /\ Nat.gcd (ofP b s t).natAbs (ofQ b s t) = 1 := by
 unfold ofO ofK at h
 simp only [Bool.and_eq_true, decide_eq_true_eq, Bool.not_eq_true', decide_eq_false_iff_not] at h
 obtain ⟨⟨_, h0⟩, h1, h2, h3⟩ := h
 exact ⟨h1, h2, h3, loQ_pos _ (by omega), lo_cop _ (by omega)⟩
theorem ofB_true {S : Nat -> Int} {r : Nat} {ch : Bool} {tn : Nat} {fB : Nat -> Bool} {fS fT : Nat -> ByteArray} {nn : Nat} (h : ofB S r ch tn fB fS fT nn = true) :
    shB S r = true /\ itm S r = (if ch then tn else nn : Nat) /\ (ch = true -> nn = 0) /\ (ch = false -> tn = 0) /\ ∀ j, j < nn -> ofO (fB j) (fS j) (fT j) = true := by
 unfold ofB at h
 cases ch with
 | true =>
  rw [if_pos rfl] at h
  simp only [Bool.and_eq_true, decide_eq_true_eq] at h
  exact ⟨h.2.1, h.2.2, fun _ => h.1, fun h => (by cases h), fun j hj => absurd hj (by omega)⟩
 | false =>
  rw [if_neg (by decide)] at h
  simp only [Bool.and_eq_true, decide_eq_true_eq] at h
  exact ⟨h.2.2.1, h.2.2.2, fun h => (by cases h), fun _ => h.1, okN_iff.1 h.2.1⟩
theorem dec_length (N : Nat) : (dec N).length = dl N := by unfold dec; exact sdig_length _ _
theorem ofO_small {b : Bool} {s t : ByteArray} (h : ofO b s t = true) (hs : s.size <= 60) (ht : t.size <= 60) : (ofP b s t).natAbs < 4294967296 ^ 7 /\ ofQ b s t < 4294967296 ^ 7 := by
 obtain ⟨_, h2, h3, _, _⟩ := ofO_facts h
 have big : (10 : Nat) ^ 60 < 4294967296 ^ 7 := by decide
 have mono : ∀ k, k <= 60 -> (10 : Nat) ^ k <= 10 ^ 60 := fun k hk => Nat.pow_le_pow_right (by decide) hk
 constructor
 · have e : s.size = dl (ofP b s t).natAbs := by
     have := congrArg ByteArray.size h2
     unfold rS at this
     rw [str_size, dec_length] at this
     exact this.symm
   exact Nat.lt_of_lt_of_le (dl_lt _) (Nat.le_trans (mono _ (by omega)) (Nat.le_of_lt big))
 · have e : t.size = dl (ofQ b s t) := by
     have := congrArg ByteArray.size h3
     rw [str_size, dec_length] at this
     exact this.symm
   exact Nat.lt_of_lt_of_le (dl_lt _) (Nat.le_trans (mono _ (by omega)) (Nat.le_of_lt big))
theorem ofO_cmp {fB : Nat -> Bool} {fS fT : Nat -> ByteArray} {n : Nat} (h : ∀ j, j < n -> ofO (fB j) (fS j) (fT j) = true) (hs : Short fS fT n) : CmpOk 7 (fun j => ofP (fB j) (fS j) (fT j)) (fun j => ofQ (fB j) (fS j) (fT j)) n :=
 fun j hj => ⟨(ofO_facts (h j hj)).2.2.2.1, ofO_small (h j hj) (hs j hj).1 (hs j hj).2⟩
def NumOk (fB : Nat -> Bool) (fS fT : Nat -> ByteArray) (fP : Nat -> Int) (fQ : Nat -> Nat) (n : Nat) : Prop :=
 ∀ j, j < n -> fB j = rB (fP j) /\ fS j = rS (fP j) /\ fT j = str (dec (fQ j)) /\ 0 < fQ j /\ dl (fP j).natAbs <= 60 /\ dl (fQ j) <= 60
theorem ofO_dl {b : Bool} {s t : ByteArray} (h : ofO b s t = true) (hs : s.size <= 60) (ht : t.size <= 60) : dl (ofP b s t).natAbs <= 60 /\ dl (ofQ b s t) <= 60 := by
 obtain ⟨_, h2, h3, _, _⟩ := ofO_facts h
 constructor
 · have := congrArg ByteArray.size h2
   unfold rS at this
   rw [str_size, dec_length] at this
   omega
 · have := congrArg ByteArray.size h3
   rw [str_size, dec_length] at this
   omega
theorem ofO_num {fB : Nat -> Bool} {fS fT : Nat -> ByteArray} {n : Nat} (h : ∀ j, j < n -> ofO (fB j) (fS j) (fT j) = true) (hs : Short fS fT n) : NumOk fB fS fT (fun j => ofP (fB j) (fS j) (fT j)) (fun j => ofQ (fB j) (fS j) (fT j)) n :=
 fun j hj => ⟨(ofO_facts (h j hj)).1.symm, (ofO_facts (h j hj)).2.1.symm, (ofO_facts (h j hj)).2.2.1.symm, (ofO_facts (h j hj)).2.2.2.1, ofO_dl (h j hj) (hs j hj).1 (hs j hj).2⟩
theorem r6Len_any (cs : Array Value) (S : Nat -> Int) (r : Nat) (ch : Bool) (g : Nat -> Int) (tn : Nat) (fB : Nat -> Bool) (fS fT : Nat -> ByteArray) (nn : Nat) (w : World) (h : PlnAt w cs S r ch g tn fB fS fT nn) (h1 : tn <= 1000000) (h2 : nn <= 1000000) :
    Calls Tryz.prog 34 #[.agg cs] w fun e w' => e = .returned (.int .i64 ((tn + nn : Nat) : Int)) /\ Below w.heap.size w w' := by
 obtain ⟨sa, sc, ta, tc, na, nc, rfl, _, _, _⟩ := h
 have hw := IntWalk.i64_in ((tn : Int) + nn) (by omega)
 have HE : Hid ((tn : Int) + nn = ((tn + nn : Nat) : Int)) := by show _ = _; omega
 have HB : Hid (Below w.heap.size w (w.alloc (.cells (plC sa r sc ch ta tn tc na nn nc) 26))) := (Below.refl _ _).alloc (Nat.le_refl _) _
 unfold plC at HB
 unfold plC
 go_enter Tryz.func34, Tryz.ntmps34
 go_wp2
 go_ret
 exact ⟨ret_int HE.out, HB.out⟩
def Cell3 (w : World) (b o : Nat) (x y z : Value) : Prop := b < w.heap.size /\ w.cell? ⟨b, o, none⟩ = some x /\ w.cell? ⟨b, o + 1, none⟩ = some y /\ w.cell? ⟨b, o + 2, none⟩ = some z
theorem Cell3.below {w w' : World} {b o : Nat} {x y z : Value} (h : Cell3 w b o x y z) (hb : Below w.heap.size w w') : Cell3 w' b o x y z :=
 ⟨Nat.lt_of_lt_of_le h.1 hb.size, (hb.cell (p := ⟨b, _, none⟩) h.1).trans h.2.1, (hb.cell (p := ⟨b, _, none⟩) h.1).trans h.2.2.1, (hb.cell (p := ⟨b, _, none⟩) h.1).trans h.2.2.2⟩
theorem pl_same {cs cs' : Array Value} {S : Nat -> Int} {r : Nat} {ch : Bool} {g : Nat -> Int} {tn : Nat} {fB : Nat -> Bool} {fS fT : Nat -> ByteArray} {nn : Nat} {S' : Nat -> Int} {r' : Nat} {ch' : Bool} {g' : Nat -> Int} {tn' : Nat} {gB : Nat -> Bool} {gS gT : Nat -> ByteArray} {nn' : Nat} {w : World} (e : plB ch ch' r r' S S' tn tn' g g' nn nn' fB fS fT gB gS gT = true)
    (h : PlnAt w cs S r ch g tn fB fS fT nn) (h' : PlnAt w cs' S' r' ch' g' tn' gB gS gT nn') :
    Calls Tryz.prog 46 #[.agg cs, .agg cs'] w fun e w' => e = .returned (.bool true) /\ Below w.heap.size w w' := by
 have := r6PSame_any cs cs' S r ch g tn fB fS fT nn S' r' ch' g' tn' gB gS gT nn' w h h'
 rw [e] at this
 exact this
def Arr (w : World) (cs : Array Value) (S : Nat -> Int) (r : Nat) (ch : Bool) (L : Nat) (g : Nat -> Int) (fP : Nat -> Int) (fQ : Nat -> Nat) : Prop := (ch = true -> ChrArr w cs S r L g) /\ (ch = false -> NumArr w cs S r L fP fQ)
theorem Arr.below {w w' : World} {cs : Array Value} {S : Nat -> Int} {r : Nat} {ch : Bool} {L : Nat} {g fP : Nat -> Int} {fQ : Nat -> Nat} (h : Arr w cs S r ch L g fP fQ) (hb : Below w.heap.size w w') : Arr w' cs S r ch L g fP fQ := ⟨fun e => (h.1 e).below hb, fun e => (h.2 e).below hb⟩
theorem Bag.arr {w0 w : World} {B : World -> Prop} {cs : Array Value} {S : Nat -> Int} {r : Nat} {ch : Bool} {L : Nat} {g fP : Nat -> Int} {fQ : Nat -> Nat} (h : Bag w0 B w) (q : Arr w cs S r ch L g fP fQ) : Bag w0 (fun y => Arr y cs S r ch L g fP fQ /\ B y) w := h.add (fun _ _ hb q => Arr.below q hb) q
theorem Arr.form {w : World} {cs : Array Value} {S : Nat -> Int} {r : Nat} {ch : Bool} {L : Nat} {g fP : Nat -> Int} {fQ : Nat -> Nat} (h : Arr w cs S r ch L g fP fQ) :
    ∃ na nn nc ta tn tc, cs = arrC ch ((r : Int) - 1) (dm S r) na nn nc ta tn tc /\ (if ch then tn else nn) = L /\ (if ch then nn else tn) = 0 := by
 cases ch with
 | true => obtain ⟨ta, tc, e, _⟩ := h.1 rfl; exact ⟨none, 0, 0, ta, L, tc, e, rfl, rfl⟩
 | false => obtain ⟨na, nc, e, _⟩ := h.2 rfl; exact ⟨na, L, nc, none, 0, 0, e, rfl, rfl⟩
theorem Arr.size {w : World} {cs : Array Value} {S : Nat -> Int} {r : Nat} {ch : Bool} {L : Nat} {g fP : Nat -> Int} {fQ : Nat -> Nat} (h : Arr w cs S r ch L g fP fQ) : cs.size = 12 := by
 obtain ⟨_, _, _, _, _, _, rfl, _⟩ := h.form
 rfl
theorem Arr.congr {w : World} {cs : Array Value} {S : Nat -> Int} {r : Nat} {ch : Bool} {L : Nat} {g g' fP fP' : Nat -> Int} {fQ fQ' : Nat -> Nat} (h : Arr w cs S r ch L g fP fQ) (e1 : g = g') (e2 : fP = fP') (e3 : fQ = fQ') : Arr w cs S r ch L g' fP' fQ' := by
 subst e1 e2 e3
 exact h
theorem rank8_any (cs : Array Value) (S : Nat -> Int) (r : Nat) (ch : Bool) (L : Nat) (g fP : Nat -> Int) (fQ : Nat -> Nat) (w : World) (h : Arr w cs S r ch L g fP fQ) (hr : r <= 1000) :
    Calls Tryz.prog 95 #[.agg cs] w fun e w' => e = .returned (.int .i64 r) /\ Below w.heap.size w w' := by
 obtain ⟨na, nn, nc, ta, tn, tc, rfl, _⟩ := h.form
 exact rank_any ch (dm S r) r na nn nc ta tn tc w hr
theorem len8_any (cs : Array Value) (S : Nat -> Int) (r : Nat) (ch : Bool) (L : Nat) (g fP : Nat -> Int) (fQ : Nat -> Nat) (w : World) (h : Arr w cs S r ch L g fP fQ) :
    Calls Tryz.prog 19 #[.agg cs] w fun e w' => e = .returned (.int .i64 L) /\ Below w.heap.size w w' := by
 obtain ⟨na, nn, nc, ta, tn, tc, rfl, e, _⟩ := h.form
 have := len_any ch ((r : Int) - 1) (dm S r) na nn nc ta tn tc w
 have e2 : (if ch = true then (tn : Int) else (nn : Int)) = (L : Int) := by rw [← e]; split <;> rfl
 rw [e2] at this
 exact this
def whC (ch : Bool) (L : Nat) (fP : Nat -> Int) (fQ : Nat -> Nat) : Bool := if ch then decide (L = 0) else whB fP fQ L
theorem whB_at {fP : Nat -> Int} {fQ : Nat -> Nat} : ∀ {n : Nat}, whB fP fQ n = true -> ∀ j, j < n -> fQ j = 1 /\ fitB (fP j) = true
 | 0, _, j, hj => absurd hj (Nat.not_lt_zero _)
 | n + 1, h, j, hj => by
  unfold whB at h
  rw [Bool.and_eq_true, Bool.and_eq_true, decide_eq_true_eq] at h
  rcases Nat.lt_or_ge j n with h1 | h1
  · exact whB_at h.1 j h1
  · obtain rfl : j = n := by omega
    exact h.2
theorem fitB_at {x : Int} (h : fitB x = true) : -9223372036854775808 <= x /\ x <= 9223372036854775807 := by
 unfold fitB at h
 simp at h
 omega
theorem whC_in {ch : Bool} {L : Nat} {fP : Nat -> Int} {fQ : Nat -> Nat} (h : whC ch L fP fQ = true) : In64 fP L := fun j hj => by
 cases ch with
 | true => have h0 : L = 0 := of_decide_eq_true h; omega
 | false => exact fitB_at (whB_at h j hj).2
theorem whole8_any (cs : Array Value) (S : Nat -> Int) (r : Nat) (ch : Bool) (L : Nat) (g fP : Nat -> Int) (fQ : Nat -> Nat) (w : World) (h : Arr w cs S r ch L g fP fQ) (hQ : ch = false -> ∀ j, j < L -> 0 < fQ j) (hL : L <= 1000000) :
    Calls Tryz.prog 140 #[.agg cs] w fun e w' => WhTold (whC ch L fP fQ) L fP w w' e := by
 cases ch with
 | true =>
  refine (wholeC_any cs S r L g w (h.1 rfl) hL).mono ?_
  rintro e w' ⟨a, m, c, he, h2, hb⟩
  refine ⟨a, m, c, he, ?_, hb⟩
  show if decide (L = 0) = true then _ else _
  by_cases h0 : L = 0
  · subst h0
    rw [decide_eq_true rfl, if_pos rfl] at h2 ⊢
    exact ⟨h2.1, h2.2.1, h2.2.2.1, .inl rfl⟩
  · rw [decide_eq_false h0, if_neg (by decide)] at h2 ⊢
    exact h2
 | false => exact whole6_any cs S r L fP fQ w (h.2 rfl) (hQ rfl) hL
def ArrTold (b : Bool) (S : Nat -> Int) (r : Nat) (ch : Bool) (L : Nat) (g fP : Nat -> Int) (fQ : Nat -> Nat) (w w' : World) (e : Ending) : Prop :=
 ∃ cs, e = .returned (.tuple #[.agg cs, .bool b]) /\ (if b then Arr w' cs S r ch L g fP fQ else cs = zerC) /\ Below w.heap.size w w'
theorem pick8_any (cs : Array Value) (S : Nat -> Int) (r : Nat) (ch : Bool) (L : Nat) (g fP : Nat -> Int) (fQ : Nat -> Nat) (sa : Option Addr) (sr sc : Nat) (T : Nat -> Int) (ta : Option Addr) (tn tc : Nat) (G : Nat -> Int) (w : World) (h : Arr w cs S r ch L g fP fQ)
    (hs : KRow w .i64 sa sr sc T) (hS : In64 T sr) (ht : KRow w .i64 ta tn tc G) (hg : In64 G tn) (hn : tn <= 1000000) :
    Calls Tryz.prog 41 #[.agg cs, .slice sa sr sc, .slice ta tn tc] w fun e w' => ArrTold (shB T sr && decide (itm T sr = tn)) T sr ch tn (fun j => elC L g 32 (G j)) (fun j => elP L fP (G j)) (fun j => elQ L fQ (G j)) w w' e := by
 cases ch with
 | true =>
  refine (pickC_any cs S r L g sa sr sc T ta tn tc G w (h.1 rfl) hs hS ht hg hn).mono ?_
  rintro e w' ⟨cs', he, h2, hb⟩
  refine ⟨cs', he, ?_, hb⟩
  split
  · rename_i q; rw [if_pos q] at h2; exact ⟨fun _ => h2, fun e => (by cases e)⟩
  · rename_i q; rw [if_neg q] at h2; exact h2
 | false =>
  refine (pickN_any cs S r L fP fQ sa sr sc T ta tn tc G w (h.2 rfl) hs hS ht hg hn).mono ?_
  rintro e w' ⟨cs', he, h2, hb⟩
  refine ⟨cs', he, ?_, hb⟩
  split
  · rename_i q; rw [if_pos q] at h2; exact ⟨fun e => (by cases e), fun _ => h2⟩
  · rename_i q; rw [if_neg q] at h2; exact h2
theorem ints8_any (sa : Option Addr) (sn sc : Nat) (f : Nat -> Int) (w : World) (hs : KRow w .i64 sa sn sc f) (hg : In64 f sn) (hn : sn <= 4096) :
    Calls Tryz.prog 36 #[.slice sa sn sc] w fun e w' => ∃ cs', e = .returned (.agg cs') /\ (∀ g, Arr w' cs' (fun _ => (sn : Int)) 1 false sn g f (fun _ => 1)) /\ Below w.heap.size w w' := by
 refine (ints_any sa sn sc f w hs hg hn).mono ?_
 rintro e w' ⟨cs', he, h2, hb⟩
 exact ⟨cs', he, fun g => ⟨fun e => (by cases e), fun _ => h2⟩, hb⟩
theorem int8_any (X : Int) (w : World) (h : -9223372036854775808 <= X /\ X <= 9223372036854775807) :
    Calls Tryz.prog 37 #[.int .i64 X] w fun e w' => ∃ cs', e = .returned (.agg cs') /\ (∀ g, Arr w' cs' (fun _ => 0) 0 false 1 g (fun _ => X) (fun _ => 1)) /\ Below w.heap.size w w' := by
 refine (arrInt_any X w h).mono ?_
 rintro e w' ⟨cs', he, h2, hb⟩
 exact ⟨cs', he, fun g => ⟨fun e => (by cases e), fun _ => h2⟩, hb⟩
def tnO (ch : Bool) (L : Nat) : Nat := if ch then L else 0
def nnO (ch : Bool) (L : Nat) : Nat := if ch then 0 else L
def Pln (w : World) (cs : Array Value) (S : Nat -> Int) (r : Nat) (ch : Bool) (L : Nat) (g : Nat -> Int) (fB : Nat -> Bool) (fS fT : Nat -> ByteArray) : Prop := PlnAt w cs S r ch g (tnO ch L) fB fS fT (nnO ch L)
theorem Pln.below {w w' : World} {cs : Array Value} {S : Nat -> Int} {r : Nat} {ch : Bool} {L : Nat} {g : Nat -> Int} {fB : Nat -> Bool} {fS fT : Nat -> ByteArray} (h : Pln w cs S r ch L g fB fS fT) (hb : Below w.heap.size w w') : Pln w' cs S r ch L g fB fS fT := PlnAt.below h hb
theorem QRow.zero {w : World} {sa : Option Addr} {c : Nat} {fB : Nat -> Bool} {fS fT : Nat -> ByteArray} (h : QRow w sa 0 c fB fS fT) (fB' : Nat -> Bool) (fS' fT' : Nat -> ByteArray) : QRow w sa 0 c fB' fS' fT' := ⟨h.1, h.2.1, .inl rfl⟩
theorem KRow.zero {w : World} {ki : IntKind} {sa : Option Addr} {c : Nat} {f : Nat -> Int} (h : KRow w ki sa 0 c f) (f' : Nat -> Int) : KRow w ki sa 0 c f' := ⟨h.1, h.2.1, .inl rfl⟩
theorem QRow.congr {w : World} {sa : Option Addr} {n c : Nat} {fB fB' : Nat -> Bool} {fS fT fS' fT' : Nat -> ByteArray} (h : QRow w sa n c fB fS fT) (e : ∀ j, j < n -> fB j = fB' j /\ fS j = fS' j /\ fT j = fT' j) : QRow w sa n c fB' fS' fT' := by
 refine ⟨h.1, h.2.1, h.2.2.imp id fun ⟨b, off, h1, h2, h3⟩ => ⟨b, off, h1, h2, fun j hj => ?_⟩⟩
 obtain ⟨e1, e2, e3⟩ := e j hj
 rw [← e1, ← e2, ← e3]
 exact h3 j hj
def Small (ch : Bool) (L : Nat) (fP : Nat -> Int) (fQ : Nat -> Nat) : Prop := ch = false -> CmpOk 7 fP fQ L
theorem plain8_any (cs : Array Value) (S : Nat -> Int) (r : Nat) (ch : Bool) (L : Nat) (g fP : Nat -> Int) (fQ : Nat -> Nat) (w : World) (hr : r <= 8) (h : Arr w cs S r ch L g fP fQ) (hn : L <= 1000000) (hs : Small ch L fP fQ) :
    Calls Tryz.prog 47 #[.agg cs] w fun e w' => ∃ cs', e = .returned (.agg cs') /\ Pln w' cs' S r ch L g (fun j => rB (fP j)) (fun j => rS (fP j)) (fun j => str (dec (fQ j))) /\ Below w.heap.size w w' := by
 cases ch with
 | true =>
  refine (plainC_any cs S r L g w hr (h.1 rfl) hn).mono ?_
  rintro e w' ⟨cs', he, ⟨sa, sc, ta, tc, na, nc, e1, k1, k2, k3⟩, hb⟩
  exact ⟨cs', he, ⟨sa, sc, ta, tc, na, nc, e1, k1, k2, k3.zero _ _ _⟩, hb⟩
 | false =>
  have hc := hs rfl
  refine (plainN_any cs S r L fP fQ w hr (h.2 rfl) hn (fun j hj => (hc j hj).1) 7 (by omega) (fun j hj => (hc j hj).2.1) (fun j hj => (hc j hj).2.2)).mono ?_
  rintro e w' ⟨cs', he, ⟨sa, sc, ta, tc, na, nc, e1, k1, k2, k3⟩, hb⟩
  exact ⟨cs', he, ⟨sa, sc, ta, tc, na, nc, e1, k1, k2.zero _, k3⟩, hb⟩
theorem plB_of2 {ch : Bool} {r : Nat} {S S' : Nat -> Int} {tn : Nat} {g g' : Nat -> Int} {nn : Nat} {fB gB : Nat -> Bool} {fS fT gS gT : Nat -> ByteArray} (h1 : ∀ j, j < r -> S j = S' j) (h3 : ∀ j, j < tn -> g j = g' j) (h2 : ∀ j, j < nn -> fB j = gB j /\ fS j = gS j /\ fT j = gT j) : plB ch ch r r S S' tn tn g g' nn nn fB fS fT gB gS gT = true := by
 unfold plB
 rw [sameB_iff.2 h1, sameB_iff.2 h3, nsB_iff.2 h2, decide_eq_true rfl, decide_eq_true rfl, decide_eq_true rfl, decide_eq_true rfl]
 rfl
def Gives (fv : FuncId) (cap : Array Value) (G : Nat -> Int) (M : Nat) (w : World) : Prop :=
 ∀ wz, Below w.heap.size w wz -> ∀ k : Nat, k < M -> Calls Tryz.prog fv (#[.int .i64 (k : Nat)] ++ cap) wz fun e w' => e = .returned (.int .i64 (G k)) /\ Below wz.heap.size wz w'
theorem Gives.below {fv : FuncId} {cap : Array Value} {G : Nat -> Int} {M : Nat} {w w' : World} (h : Gives fv cap G M w) (hb : Below w.heap.size w w') : Gives fv cap G M w' := fun wz hz => h wz (hb.trans (hz.mono hb.size))
def shf (f : Nat -> Int) (p : Nat) : Nat -> Int := fun j => f (p + j)
theorem rm_pos (f : Nat -> Int) : ∀ k, 1 <= rm f k
 | 0 => by show (1 : Int) <= 1; omega
 | k + 1 => by
  have h := rm_pos f k
  have e : 1 * 1 <= rm f k * max (f k) 1 := Int.mul_le_mul h (by omega) (by omega) (by omega)
  show 1 <= rm f k * max (f k) 1
  omega
theorem rm_add (f : Nat -> Int) (p : Nat) : ∀ k, rm f (p + k) = rm f p * rm (shf f p) k
 | 0 => by show rm f p = rm f p * 1; omega
 | k + 1 => by
  show rm f (p + k) * max (f (p + k)) 1 = rm f p * (rm (shf f p) k * max (f (p + k)) 1)
  rw [rm_add f p k, Int.mul_assoc]
theorem itm_add (f : Nat -> Int) (p : Nat) : ∀ k, itm f (p + k) = itm f p * itm (shf f p) k
 | 0 => by show itm f p = itm f p * 1; omega
 | k + 1 => by
  show itm f (p + k) * f (p + k) = itm f p * (itm (shf f p) k * f (p + k))
  rw [itm_add f p k, Int.mul_assoc]
theorem ax_nn {f : Nat -> Int} {n j : Nat} (h : axB f n = true) (hj : j < n) : 0 <= f j := by
 have h1 := ax_le (show j + 1 <= n by omega) h
 unfold axB at h1
 rw [Bool.and_eq_true, Bool.and_eq_true, decide_eq_true_eq] at h1
 exact h1.2.1
theorem ax_shf {f : Nat -> Int} {n : Nat} (p : Nat) (h : axB f n = true) : ∀ k, p + k <= n -> axB (shf f p) k = true
 | 0, _ => rfl
 | k + 1, hk => by
  have h1 := ax_shf p h k (by omega)
  have h2 := ax_bd (ax_le hk h)
  have h3 := rm_pos f p
  have h4 := rm_pos (shf f p) (k + 1)
  have h0 := ax_nn h (show p + k < n by omega)
  rw [rm_add f p (k + 1)] at h2
  have h5 : 1 * rm (shf f p) (k + 1) <= rm f p * rm (shf f p) (k + 1) := Int.mul_le_mul h3 (Int.le_refl _) (by omega) (by omega)
  unfold axB
  rw [h1, decide_eq_true (show 0 <= shf f p k from h0), decide_eq_true (show rm (shf f p) (k + 1) <= 4096 by omega)]
  rfl
theorem sh_ax {f : Nat -> Int} {n : Nat} (h : shB f n = true) : n <= 8 /\ axB f n = true := by
 unfold shB at h
 rw [Bool.and_eq_true, decide_eq_true_eq] at h
 exact h
theorem KRow.take {w : World} {ki : IntKind} {a : Option Addr} {n c : Nat} {f : Nat -> Int} (h : KRow w ki a n c f) {k : Nat} (hk : k <= n) : KRow w ki a k c f := by
 obtain ⟨h1, h2, h3⟩ := h
 refine ⟨by omega, h2, ?_⟩
 rcases h3 with h3 | ⟨b, off, e, hb, hc⟩
 · exact .inl (by omega)
 · exact .inr ⟨b, off, e, hb, fun j hj => hc j (by omega)⟩
theorem KRow.from {w : World} {ki : IntKind} {b off : Nat} {n c : Nat} {f : Nat -> Int} (h : KRow w ki (some ⟨b, off, none⟩) n c f) {p : Nat} (hp : p <= n) : KRow w ki (some ⟨b, off + p, none⟩) (n - p) (c - p) (shf f p) := by
 obtain ⟨h1, h2, h3⟩ := h
 refine ⟨by omega, by omega, ?_⟩
 rcases h3 with h3 | ⟨b', off', e, hb, hc⟩
 · exact .inl (by omega)
 · cases e
   exact .inr ⟨b, off + p, rfl, hb, fun j hj => by rw [Nat.add_assoc]; exact hc (p + j) (by omega)⟩
def plc (f g : Nat -> Int) : Nat -> Int
 | 0 => 0
 | k + 1 => plc f g k * f k + g k
def inB (f g : Nat -> Int) : Nat -> Bool
 | 0 => true
 | k + 1 => inB f g k && (decide (0 <= g k) && decide (g k < f k))
theorem inB_le {f g : Nat -> Int} : ∀ {k m : Nat}, k <= m -> inB f g m = true -> inB f g k = true := by
 intro k m
 induction m with
 | zero => intro h h2; obtain rfl : k = 0 := by omega
           exact h2
 | succ m ih =>
  intro h h2
  rcases Nat.lt_or_ge k (m + 1) with h3 | h3
  · refine ih (by omega) ?_
    unfold inB at h2
    rw [Bool.and_eq_true] at h2
    exact h2.1
  · obtain rfl : k = m + 1 := by omega
    exact h2
theorem inB_at {f g : Nat -> Int} {n j : Nat} (h : inB f g n = true) (hj : j < n) : 0 <= g j /\ g j < f j := by
 have h1 := inB_le (show j + 1 <= n by omega) h
 unfold inB at h1
 rw [Bool.and_eq_true, Bool.and_eq_true, decide_eq_true_eq, decide_eq_true_eq] at h1
 exact h1.2
theorem plc_bd {f g : Nat -> Int} : ∀ {k : Nat}, axB f k = true -> inB f g k = true -> 0 <= plc f g k /\ plc f g k < itm f k := by
 intro k
 induction k with
 | zero => intro _ _; exact ⟨Int.le_refl _, by show (0 : Int) < 1; omega⟩
 | succ k ih =>
  intro h1 h2
  have h3 := inB_at h2 (show k < k + 1 by omega)
  obtain ⟨i1, i2⟩ := ih (ax_le (by omega) h1) (inB_le (by omega) h2)
  have h4 : (plc f g k + 1) * f k <= itm f k * f k := Int.mul_le_mul_of_nonneg_right (by omega) (by omega)
  have h5 : 0 <= plc f g k * f k := Int.mul_nonneg i1 (by omega)
  rw [Int.add_mul, Int.one_mul] at h4
  show 0 <= plc f g k * f k + g k /\ plc f g k * f k + g k < itm f k * f k
  omega
def shP (f : Nat -> Int) (n : Nat) (g : Nat -> Int) (m : Nat) : Bool := shB f n && (decide (n = m) && inB f g n)
def plI (f : Nat -> Int) (n : Nat) (g : Nat -> Int) (m : Nat) : Int := if shP f n g m then plc f g n else 0
def PlTold (f : Nat -> Int) (n : Nat) (g : Nat -> Int) (m : Nat) (w w' : World) (e : Ending) : Prop := e = .returned (.tuple #[.int .i64 (plI f n g m), .bool (shP f n g m)]) /\ Below w.heap.size w w'
theorem PlTold.no {f g : Nat -> Int} {n m : Nat} {w w' : World} (hb : Below w.heap.size w w') (h : shP f n g m = false) : PlTold f n g m w w' (.returned (.tuple #[.int .i64 0, .bool false])) := by
 refine ⟨?_, hb⟩
 unfold plI
 rw [h]
 rfl
theorem PlTold.yes {f g : Nat -> Int} {n : Nat} {w w' : World} (hb : Below w.heap.size w w') (h : shB f n = true) (h2 : inB f g n = true) : PlTold f n g n w w' (.returned (.tuple #[.int .i64 (plc f g n), .bool true])) := by
 have : shP f n g n = true := by unfold shP; rw [h, h2, decide_eq_true rfl]; rfl
 refine ⟨?_, hb⟩
 unfold plI
 rw [this]
 rfl
def dgs (f : Nat -> Int) : Nat -> Int -> Nat -> Int
 | 0, _, _ => 0
 | k + 1, r, j => if j = k then r % f k else dgs f k (r / f k) j
theorem itm_pos {f : Nat -> Int} {n : Nat} (h : axB f n = true) {at' : Int} (h0 : 0 <= at') (h1 : at' < itm f n) : ∀ j, j < n -> 1 <= f j := by
 induction n generalizing at' with
 | zero => intro j hj; omega
 | succ n ih =>
  intro j hj
  have hn := ax_nn h (show n < n + 1 by omega)
  have hne : f n ≠ 0 := by
   intro e
   have : itm f (n + 1) = itm f n * f n := rfl
   rw [this, e, Int.mul_zero] at h1
   omega
  by_cases e : j = n
  · subst e; omega
  · have e1 : itm f (n + 1) = itm f n * f n := rfl
    have hb := (ax_bd (ax_le (Nat.le_succ n) h)).2.2.1
    have : 0 < itm f n := by
     rcases Int.lt_or_le 0 (itm f n) with h3 | h3
     · exact h3
     · have h4 : itm f n = 0 := by omega
       rw [e1, h4, Int.zero_mul] at h1
       omega
    exact ih (ax_le (Nat.le_succ n) h) (Int.le_refl 0) this j (by omega)
theorem quo_lt {f : Nat -> Int} {k : Nat} {r : Int} (h1 : 1 <= f k) (hr0 : 0 <= r) (hr : r < itm f (k + 1)) : 0 <= r / f k /\ r / f k < itm f k /\ 0 <= r % f k /\ r % f k < f k := by
 refine ⟨Int.ediv_nonneg hr0 (by omega), Int.ediv_lt_of_lt_mul (by omega) hr, Int.emod_nonneg _ (by omega), Int.emod_lt_of_pos _ (by omega)⟩
theorem dgs_in {f : Nat -> Int} : ∀ {n : Nat} {r : Int}, (∀ j, j < n -> 1 <= f j) -> 0 <= r -> r < itm f n -> inB f (dgs f n r) n = true /\ plc f (dgs f n r) n = r := by
 intro n
 induction n with
 | zero => intro r _ h0 h1; refine ⟨rfl, ?_⟩; have : itm f 0 = 1 := rfl; show 0 = r; omega
 | succ n ih =>
  intro r hp h0 h1
  obtain ⟨q1, q2, q3, q4⟩ := quo_lt (hp n (by omega)) h0 h1
  obtain ⟨i1, i2⟩ := ih (fun j hj => hp j (by omega)) q1 q2
  have hd : ∀ j, j < n -> dgs f (n + 1) r j = dgs f n (r / f n) j := fun j hj => by
   show (if j = n then _ else _) = _
   rw [if_neg (by omega)]
  have hn : dgs f (n + 1) r n = r % f n := by show (if n = n then _ else _) = _; rw [if_pos rfl]
  have hin : ∀ k, k <= n -> inB f (dgs f (n + 1) r) k = inB f (dgs f n (r / f n)) k := by
   intro k
   induction k with
   | zero => intro _; rfl
   | succ k ihk => intro hk; unfold inB; rw [ihk (by omega), hd k (by omega)]
  have hpl : ∀ k, k <= n -> plc f (dgs f (n + 1) r) k = plc f (dgs f n (r / f n)) k := by
   intro k
   induction k with
   | zero => intro _; rfl
   | succ k ihk => intro hk; unfold plc; rw [ihk (by omega), hd k (by omega)]
  constructor
  · unfold inB
    rw [hin n (Nat.le_refl _), i1, hn, decide_eq_true q3, decide_eq_true q4]
    rfl
  · unfold plc
    rw [hpl n (Nat.le_refl _), i2, hn, Int.mul_comm]
    exact Int.mul_ediv_add_emod _ _
def IBox (w : World) (g n : Nat) (h : Nat -> Int) : Prop := g < w.heap.size /\ Free w g /\ ∀ j, j < n -> w.cell? ⟨g, j, none⟩ = some (.int .i64 (h j))
theorem IBox.below {w w' : World} {g n : Nat} {h : Nat -> Int} (q : IBox w g n h) (hb : Below w.heap.size w w') : IBox w' g n h :=
 ⟨Nat.lt_of_lt_of_le q.1 hb.size, q.2.1.below hb q.1, fun j hj => (hb.cell (p := ⟨g, j, none⟩) q.1).trans (q.2.2 j hj)⟩
theorem IBox.set {w : World} {g n k : Nat} {h : Nat -> Int} (q : IBox w g n h) (hk : k < n) (x : Int) : IBox (w.setCell ⟨g, k, none⟩ (.int .i64 x)) g n (fun j => if j = k then x else h j) := by
 refine ⟨by simpa using q.1, q.2.1.set _ _, fun j hj => ?_⟩
 by_cases e : j = k
 · subst e
   show _ = some (Value.int .i64 (if j = j then x else h j))
   rw [if_pos rfl]
   exact World.cell?_setCell_same _ _ _ (q.2.2 j hj)
 · show _ = some (Value.int .i64 (if j = k then x else h j))
   rw [if_neg e, World.cell?_setCell_other _ _ _ _ (fun h => by injection h with _ h; omega)]
   exact q.2.2 j hj
theorem IBox.congr {w : World} {g n : Nat} {h h' : Nat -> Int} (q : IBox w g n h) (e : ∀ j, j < n -> h j = h' j) : IBox w g n h' := ⟨q.1, q.2.1, fun j hj => by rw [q.2.2 j hj, e j hj]⟩
theorem IBox.krow {w : World} {g n : Nat} {h : Nat -> Int} (q : IBox w g n h) (hn : n <= maxLen) : KRow w .i64 (some ⟨g, 0, none⟩) n n h :=
 ⟨Nat.le_refl _, hn, .inr ⟨g, 0, rfl, q.1, fun j hj => by rw [Nat.zero_add]; exact q.2.2 j hj⟩⟩
theorem IBox.made (w : World) (n : Nat) (t : TypeId) {mc : Array Value} (hmc : mc = madeCells (Value.cells (.int .i64 0)) n) : IBox (w.alloc (.cells mc t)) w.heap.size n (fun _ => 0) := by
 subst hmc
 have hR := Row.new w t (madeCells (Value.cells (.int .i64 0)) n)
 refine ⟨hR.lt, fun o => hR.free o, fun j hj => ?_⟩
 rw [hR.cell]
 unfold madeCells
 rw [Array.getElem?_map, Array.getElem?_range, if_pos (by omega), Option.map_some]
 simp [Value.cells, Nat.mod_one]
def ixB (f : Nat -> Int) (n : Nat) (i : Int) : Bool := shB f n && (decide (0 <= i) && decide (i < itm f n))
def IxTold (f : Nat -> Int) (n : Nat) (i : Int) (w w' : World) (e : Ending) : Prop := ∃ a m c, e = .returned (.tuple #[.slice a m c, .bool (ixB f n i)]) /\ (if ixB f n i then m = n /\ KRow w' .i64 a n c (dgs f n i) else a = none /\ m = 0 /\ c = 0) /\ Below w.heap.size w w'
theorem IxTold.no {f : Nat -> Int} {n : Nat} {i : Int} {w w' : World} (hb : Below w.heap.size w w') (h : ixB f n i = false) : IxTold f n i w w' (.returned (.tuple #[.slice none 0 0, .bool false])) := by
 refine ⟨none, 0, 0, ?_, ?_, hb⟩
 · rw [h]
 · rw [h, if_neg (by decide)]; exact ⟨rfl, rfl, rfl⟩
theorem growI_any (n : Nat) (w : World) (hn : n <= 1000000) :
    Calls Tryz.prog 190 #[.slice none 0 0, .int .i64 n] w fun e w' => ∃ v, e = .returned v /\ w'.ownsRow w.heap.size 3 1 v 0 [] /\ Below w.heap.size w w' := by
 obtain ⟨i0, hi, hz0, hz1, hz2⟩ := info_parts infoI
 have d0 : ¬ ((n : Int) < 0) := by omega
 have hw0 := IntWalk.i64_in (n : Int) (by omega)
 by_cases h0 : n = 0
 · subst h0
   go_enter Tryz.func190, Tryz.ntmps190
   go_wp2
   go_ret
   exact ⟨_, rfl, World.ownsRow_nil _ _ _ _, Below.refl _ _⟩
 · have d1 : (0 : Int) < n := by omega
   have hr := fun ty => Lib.run_append_nil_zeros (P := Tryz.prog) w 22 3 ty 3 i0 _ .i64 .i64 Tryz.underlying22 Tryz.underlying3 hi hz0 n (by omega) (by rw [hz1]; omega) (by omega) (by rw [hz2]; omega)
   have hge := grownCap_ge w n 0 3
   have hcm := grownCap_le_maxLen w n 0 3 (by unfold maxLen; omega)
   have HE : Hid (∀ z, z = n -> (w.drew.alloc (.cells (Builtin.zeroCells (Value.cells (.int .i64 0)) n ++ Builtin.zeroCells (Value.cells (.int .i64 0)) (grownCap w n 0 3 - n)) 3)).ownsRow w.heap.size 3 1 (.slice (some ⟨w.heap.size, 0, none⟩) 0 (grownCap w n 0 3)) 0 []) :=
    Lib.hid (fun _ _ => ⟨by simp, .inr ⟨w.heap.size, _, _, rfl, Nat.le_refl _, heap_alloc_new w.drew _, Nat.zero_le _, hcm, by rw [Array.size_append, size_zeroCells, size_zeroCells]; simp [Value.cells]; omega, by simp⟩⟩)
   have HB : Hid (Below w.heap.size w (w.drew.alloc (.cells (Builtin.zeroCells (Value.cells (.int .i64 0)) n ++ Builtin.zeroCells (Value.cells (.int .i64 0)) (grownCap w n 0 3 - n)) 3))) := Lib.hid ((Below.refl _ _).drew.alloc (Nat.le_refl _) _)
   generalize grownCap w n 0 3 = cp at *
   generalize w.drew.alloc (.cells (Builtin.zeroCells (Value.cells (.int .i64 0)) n ++ Builtin.zeroCells (Value.cells (.int .i64 0)) (cp - n)) 3) = w9 at *
   have d2 : (0 : Int) <= cp := by omega
   clear hi hz0 hz1 hz2 hcm
   go_enter Tryz.func190, Tryz.ntmps190
   go_wp2_with (at_builtin; refine Lib.wpList_append_run _ rfl _ _ _ _ rfl _ _ rfl rfl _ _ (hr _) ?_)
   go_ret
   exact ⟨_, rfl, HE.out n rfl, HB.out⟩
def LRow (w : World) (a : Option Addr) (m c : Nat) (A : Nat -> Option Addr) (N C : Nat -> Nat) (F : Nat -> Nat -> Int) : Prop := m <= c /\ c <= maxLen /\ (m = 0 ∨ ∃ b off, a = some ⟨b, off, none⟩ /\ b < w.heap.size /\
 ∀ j, j < m -> w.cell? ⟨b, off + j, none⟩ = some (.slice (A j) (N j) (C j)) /\ KRow w .i64 (A j) (N j) (C j) (F j) /\ (A j = none -> C j = 0))
theorem LRow.below {w w' : World} {a : Option Addr} {m c : Nat} {A : Nat -> Option Addr} {N C : Nat -> Nat} {F : Nat -> Nat -> Int} (h : LRow w a m c A N C F) (hb : Below w.heap.size w w') : LRow w' a m c A N C F := by
 obtain ⟨h1, h2, h3⟩ := h
 refine ⟨h1, h2, h3.imp id ?_⟩
 rintro ⟨b, off, rfl, hl, hc⟩
 exact ⟨b, off, rfl, Nat.lt_of_lt_of_le hl hb.size, fun j hj => ⟨(hb.cell (p := ⟨b, off + j, none⟩) hl).trans (hc j hj).1, (hc j hj).2.1.below hb, (hc j hj).2.2⟩⟩
theorem LRow.get {w : World} {a : Option Addr} {m c : Nat} {A : Nat -> Option Addr} {N C : Nat -> Nat} {F : Nat -> Nat -> Int} (h : LRow w a m c A N C F) {j : Nat} (hj : j < m) :
    ∃ b off, a = some ⟨b, off, none⟩ /\ b < w.heap.size /\ w.cell? ⟨b, off + j, none⟩ = some (.slice (A j) (N j) (C j)) /\ KRow w .i64 (A j) (N j) (C j) (F j) /\ (A j = none -> C j = 0) := by
 rcases h.2.2 with h | ⟨b, off, rfl, hl, hc⟩
 · omega
 · exact ⟨b, off, rfl, hl, hc j hj⟩
def app (f : Nat -> Int) (n : Nat) (g : Nat -> Int) : Nat -> Int := fun j => if j < n then f j else g (j - n)
theorem kcs_congr {ki : IntKind} {f g : Nat -> Int} : ∀ {n : Nat}, (∀ j, j < n -> f j = g j) -> kcs ki f n = kcs ki g n
 | 0, _ => rfl
 | n + 1, h => by unfold kcs; rw [kcs_congr (fun j hj => h j (by omega)), h n (by omega)]
theorem kcs_app (ki : IntKind) (f : Nat -> Int) (n : Nat) (g : Nat -> Int) : ∀ m, kcs ki (app f n g) (n + m) = kcs ki f n ++ kcs ki g m
 | 0 => by
  rw [Nat.add_zero, show kcs ki g 0 = [] from rfl, List.append_nil]
  exact kcs_congr fun j hj => by unfold app; rw [if_pos hj]
 | m + 1 => by
  show kcs ki (app f n g) (n + m) ++ [.int ki (app f n g (n + m))] = kcs ki f n ++ (kcs ki g m ++ [.int ki (g m)])
  rw [kcs_app ki f n g m, show app f n g (n + m) = g m by unfold app; rw [if_neg (by omega), Nat.add_sub_cancel_left], List.append_assoc]
def tot (N : Nat -> Nat) : Nat -> Nat
 | 0 => 0
 | k + 1 => tot N k + N k
theorem tot_le (N : Nat -> Nat) : ∀ {k m : Nat}, k <= m -> tot N k <= tot N m := by
 intro k m
 induction m with
 | zero => intro h; obtain rfl : k = 0 := by omega
           exact Nat.le_refl _
 | succ m ih =>
  intro h
  rcases Nat.lt_or_ge k (m + 1) with h3 | h3
  · have := ih (by omega)
    show tot N k <= tot N m + N m
    omega
  · obtain rfl : k = m + 1 := by omega
    exact Nat.le_refl _
def cat (N : Nat -> Nat) (F : Nat -> Nat -> Int) : Nat -> Nat -> Int
 | 0 => fun _ => 0
 | k + 1 => app (cat N F k) (tot N k) (F k)
theorem kcs_one (ki : IntKind) (f : Nat -> Int) (n : Nat) : ∀ u ∈ kcs ki f n, u.oneCell' = true := by
 induction n with
 | zero => intro u hu; cases hu
 | succ n ih =>
  intro u hu
  unfold kcs at hu
  rcases List.mem_append.1 hu with h | h
  · exact ih u h
  · simp at h; subst h; rfl
theorem krow_news {w : World} {ki : IntKind} {b off n c : Nat} {f : Nat -> Int} (h : KRow w ki (some ⟨b, off, none⟩) n c f) : ∀ j u, (kcs ki f n)[j]? = some u -> w.cell? ((⟨b, off, none⟩ : Addr).add j) = some u := fun j u hu => by
 have hj : j < n := by
  have := (List.getElem?_eq_some_iff.1 hu).1
  rwa [kcs_length] at this
 rw [kcs_get ki f n j hj] at hu
 obtain rfl := Option.some.inj hu
 obtain ⟨b', off', e, _, hc⟩ := h.get hj
 cases e
 rw [show (⟨b, off, none⟩ : Addr).add j = ⟨b, off + j, none⟩ by simp [Addr.add]]
 exact hc
theorem run_append_krow {w : World} (ty : TypeId) (base : Nat) (v : Value) (n : Nat) (xs : List Value) (hown : w.ownsRow base 3 1 v n xs) (a : Option Addr) (m c : Nat) (f : Nat -> Int) (h : KRow w .i64 a m c f) (hn : a = none -> c = 0) (h1 : n + m <= 1000000) (hbase : base <= w.heap.size) :
    ∃ v' w', (Builtin.append_ #[22, 22] ty #[v, .slice a m c]).run Tryz.prog w = .ok v' w' /\ w'.ownsRow base 3 1 v' (n + m) (xs ++ kcs .i64 f m) /\ w.grownBy w' v.ownBlock := by
 obtain ⟨i0, hi, hz0, hz1, hz2⟩ := info_parts infoI
 cases a with
 | none =>
  have hc := hn rfl
  subst hc
  have hm : m = 0 := by have := h.1; omega
  subst hm
  refine ⟨v, w, run_append_owned_none w base _ ty _ i0 1 Tryz.underlying22 hi v n xs hown, ?_, ⟨rfl, rfl, rfl, Nat.le_refl _, fun _ _ _ => rfl⟩⟩
  rw [show kcs .i64 f 0 = [] from rfl, List.append_nil]
  exact hown
 | some ad =>
  obtain ⟨b9, off9, sp⟩ := ad
  have hnews : ∀ i u, (kcs .i64 f m)[i]? = some u -> w.cell? ((⟨b9, off9, sp⟩ : Addr).add i) = some u := by
   rcases h.2.2 with h0 | ⟨_, _, e, _⟩
   · rw [h0]; intro i u hu; simp [kcs] at hu
   · cases e; exact krow_news h
  obtain ⟨v', w', e1, e2, e3, _⟩ := run_append_own (P := Tryz.prog) w base 22 ty 3 i0 _ 1 8 Tryz.underlying22 hi hz0 hz1 hz2 rfl (by omega) v n xs hown ⟨b9, off9, sp⟩ m c (kcs .i64 f m) (by rw [kcs_length, Nat.mul_one]) hnews (kcs_one .i64 f m) (by unfold maxLen; omega) (by omega) hbase
  exact ⟨v', w', e1, e2, e3⟩
theorem concat_any (a : Option Addr) (m c : Nat) (A : Nat -> Option Addr) (N C : Nat -> Nat) (F : Nat -> Nat -> Int) (w : World) (h : LRow w a m c A N C F) (hm : m <= 1000) (ht : tot N m <= 1000000) :
    Calls Tryz.prog 174 #[.slice a m c] w fun e w' => ∃ a' c', e = .returned (.slice a' (tot N m) c') /\ KRow w' .i64 a' (tot N m) c' (cat N F m) /\ NewAt w w' a' (tot N m) c' /\ Below w.heap.size w w' := by
 obtain ⟨i0, hi, hz0, hz1, hz2⟩ := info_parts infoI
 have H := Lib.hid h
 have HT : Hid (∀ k, k <= m -> tot N k <= 1000000) := Lib.hid (fun k hk => Nat.le_trans (tot_le N hk) ht)
 have GR := Lib.hid (fun wz => growI_any (tot N m) wz ht)
 have HZ := Lib.hid (show ∀ k, tot N (k + 1) = tot N k + N k from fun _ => rfl)
 have hl := h.1
 clear h ht
 go_enter Tryz.func174, Tryz.ntmps174
 go_wp2
 go_loop [3, 11] (fun t i => ∃ k : Nat, k <= m /\ i = .int .i64 k /\ t = .int .i64 (tot N k : Nat)) (fun _ i => m - (intOf i).toNat)
 case atStart => exact ⟨0, by omega, rfl, rfl⟩
 case round =>
  obtain ⟨k, hk, rfl, rfl⟩ := hrel
  by_cases hlt : k < m
  · obtain ⟨b, off, rfl, hb, hc, _, _⟩ := H.out.get hlt
    have h1 := HT.out (k + 1) (by omega)
    rw [HZ.out k] at h1
    have E := Lib.hid (show ((tot N k : Nat) : Int) + (N k : Nat) = ((tot N (k + 1) : Nat) : Int) by rw [HZ.out k]; omega)
    have w2 := IntWalk.i64_in (((tot N k : Nat) : Int) + (N k : Nat)) (by omega)
    have d0 : ¬ (((tot N k : Nat) : Int) + (N k : Nat) < 0) := by omega
    clear h1
    generalize ((tot N k : Nat) : Int) = t at *
    generalize A k = ak at *
    generalize N k = nk at *
    generalize C k = ck at *
    go_wp2
    go_round
    case rel => exact ⟨k + 1, by omega, by go_num, vint E.out⟩
    case measure => simp [intOf]; omega
  · obtain rfl : k = m := by omega
    clear hlt
    generalize hX : tot N k = X at *
    go_wp2_with fail
    go_at_call 190
    (with_reducible refine (GR.out _).mono ?_)
    rintro e w2 ⟨v2, rfl, hown2, hb2⟩
    have HB2 := Lib.hid hb2
    have HO2 := Lib.hid hown2
    have H2 := Lib.hid (H.out.below hb2)
    clear hown2 hb2
    go_wp2_with fail
    go_loopw [6, 27] (fun v i wr => ∃ (j : Nat) (v6 : Value), j <= k /\ i = .int .i64 j /\ v6 = v /\ Hid (Below w.heap.size w wr /\ wr.ownsRow w.heap.size 3 1 v6 (tot N j) (kcs .i64 (cat N F j) (tot N j)))) (fun _ i _ => k - (intOf i).toNat)
    case atStart => exact ⟨0, _, by omega, rfl, rfl, HB2.out, HO2.out⟩
    case round =>
     obtain ⟨j, v6, hj, rfl, hv6, hrel⟩ := hrel
     subst hv6
     obtain ⟨hbl, hown⟩ := hrel.out
     have hwr := hbl.size
     by_cases hlt : j < k
     · obtain ⟨b, off, rfl, hb, hc, hkr, hnn⟩ := (H.out.below hbl).get hlt
       have HOWN := Lib.hid hown
       have HBL := Lib.hid hbl
       have h1 := HT.out (j + 1) (by omega)
       rw [HZ.out j] at h1
       have HE : Hid (∀ (v5 : Value) (w5 : World), w5.ownsRow w.heap.size 3 1 v5 (tot N j + N j) (kcs .i64 (cat N F j) (tot N j) ++ kcs .i64 (F j) (N j)) -> w5.ownsRow w.heap.size 3 1 v5 (tot N (j + 1)) (kcs .i64 (cat N F (j + 1)) (tot N (j + 1)))) := Lib.hid (fun v5 w5 h => by
        rw [HZ.out j]
        show w5.ownsRow _ _ _ _ _ (kcs .i64 (app (cat N F j) (tot N j) (F j)) (tot N j + N j))
        rw [kcs_app]
        exact h)
       clear hown hbl hrel
       cases hA : A j with
       | none =>
        have hC := hnn hA
        have hN : N j = 0 := by have := hkr.1; omega
        rw [hA, hC, hN] at hc
        rw [hN, show kcs .i64 (F j) 0 = [] from rfl, List.append_nil, Nat.add_zero] at HE
        have HN := Lib.hid (HE.out _ _ HOWN.out)
        clear hkr hnn HE h1
        go_wp2_with (at_builtin; refine wpList_append_own_none rfl _ _ 22 rfl w.heap.size 3 i0 1 Tryz.underlying22 hi _ _ _ rfl HOWN.out rfl ?_)
        go_roundw
        case rel => exact ⟨j + 1, _, by omega, by go_num, rfl, HBL.out, HN.out⟩
        case measure => simp [intOf]; omega
       | some ad =>
        obtain ⟨b9, off9, sp⟩ := ad
        rw [hA] at hc hkr
        have hsp : sp = none ∨ N j = 0 := by
         rcases hkr.2.2 with h | ⟨_, _, e, _⟩
         · exact .inr h
         · cases e; exact .inl rfl
        have HNEWS : Hid (∀ i u, (kcs .i64 (F j) (N j))[i]? = some u -> wr.cell? ((⟨b9, off9, sp⟩ : Addr).add i) = some u) := Lib.hid (by
         rcases hsp with rfl | h0
         · exact krow_news hkr
         · rw [h0]; intro i u hu; simp [kcs] at hu)
        have HL := Lib.hid (show (kcs .i64 (F j) (N j)).length = N j * 1 by rw [kcs_length, Nat.mul_one])
        have HONE := Lib.hid (kcs_one .i64 (F j) (N j))
        have HM := Lib.hid (show tot N j + N j <= maxLen by unfold maxLen; omega)
        have HY := Lib.hid (show (tot N j + N j) * 8 <= 140737488355328 by omega)
        clear hkr hnn h1 hsp
        generalize N j = nj at *
        generalize C j = cj at *
        generalize kcs .i64 (F j) nj = news at *
        generalize tot N j = tj at *
        go_wp2_with (at_builtin; refine wpList_append_own _ rfl _ _ 22 rfl w.heap.size 3 i0 _ 1 8 Tryz.underlying22 hi hz0 hz1 hz2 rfl (by omega) _ _ _ rfl HOWN.out ⟨b9, off9, sp⟩ nj cj news rfl HL.out HNEWS.out HONE.out HM.out HY.out hwr ?_)
        intro v5 w5 hown5 hgrow _
        have HN := Lib.hid (And.intro (HBL.out.grown hgrow hwr (fun q hq => (HOWN.out.lt q hq).1)) (HE.out _ _ hown5))
        clear hown5 hgrow
        go_wp2
        go_roundw
        case rel => exact ⟨j + 1, _, by omega, by go_num, rfl, HN.out⟩
        case measure => simp [intOf]; omega
     · obtain rfl : j = k := by omega
       rw [hX] at hown
       have HE : Hid (∃ a' c', v6 = .slice a' X c' /\ KRow wr .i64 a' X c' (cat N F j) /\ NewAt w wr a' X c') := Lib.hid (by
        obtain ⟨a', c', e, hk⟩ := KRow.of_own hown
        refine ⟨a', c', e, hk, ?_⟩
        rcases hown.2 with ⟨e2, h0⟩ | ⟨g, cap, cur, e2, hge, hh, _⟩
        · rw [e] at e2
          injection e2 with e3 e4 e5
          exact .inl ⟨e3, e4, e5⟩
        · rw [e] at e2
          injection e2 with e3 e4 e5
          exact .inr ⟨g, e3, hge, Free.of_block hh⟩)
       have HBL := Lib.hid hbl
       clear hown hbl hrel hlt
       go_wp2
       go_ret
       obtain ⟨a', c', rfl, hk, hn⟩ := HE.out
       rw [hX]
       exact ⟨a', c', rfl, hk, hn, HBL.out⟩
theorem join_any (a : Option Addr) (m c : Nat) (A : Nat -> Option Addr) (N C : Nat -> Nat) (F : Nat -> Nat -> Int) (w : World) (h : LRow w a m c A N C F) (hm : m <= 1000) (ht : tot N m <= 1000000) :
    Calls Tryz.prog 142 #[.slice a m c] w fun e w' => ∃ a' c', e = .returned (.slice a' (tot N m) c') /\ KRow w' .i64 a' (tot N m) c' (cat N F m) /\ Below w.heap.size w w' := by
 have CO := Lib.hid (concat_any a m c A N C F w h hm ht)
 generalize tot N m = X at *
 generalize cat N F m = G at *
 clear h
 go_enter Tryz.func142, Tryz.ntmps142
 go_wp2_with fail
 go_at_call 174
 (with_reducible refine (CO.out).mono ?_)
 rintro e w1 ⟨a1, c1, rfl, hk, _, hb⟩
 have HE := Lib.hid (And.intro hk hb)
 clear hk hb
 go_wp2
 go_ret
 exact ⟨_, _, rfl, HE.out⟩
theorem LRow.three {w : World} {g : Nat} {t : TypeId} {a1 a2 a3 : Option Addr} {n1 c1 n2 c2 n3 c3 : Nat} {f1 f2 f3 : Nat -> Int} (h : Row w g t #[.slice a1 n1 c1, .slice a2 n2 c2, .slice a3 n3 c3]) (k1 : KRow w .i64 a1 n1 c1 f1) (k2 : KRow w .i64 a2 n2 c2 f2) (k3 : KRow w .i64 a3 n3 c3 f3) (e1 : a1 = none -> c1 = 0) (e2 : a2 = none -> c2 = 0) (e3 : a3 = none -> c3 = 0) :
    LRow w (some ⟨g, 0, none⟩) 3 3 (fun j => if j = 0 then a1 else if j = 1 then a2 else a3) (fun j => if j = 0 then n1 else if j = 1 then n2 else n3) (fun j => if j = 0 then c1 else if j = 1 then c2 else c3) (fun j => if j = 0 then f1 else if j = 1 then f2 else f3) := by
 refine ⟨Nat.le_refl _, by unfold maxLen; omega, .inr ⟨g, 0, rfl, h.lt, fun j hj => ?_⟩⟩
 have : j = 0 ∨ j = 1 ∨ j = 2 := by omega
 rcases this with rfl | rfl | rfl
 · exact ⟨h.cell 0, k1, e1⟩
 · exact ⟨h.cell 1, k2, e2⟩
 · exact ⟨h.cell 2, k3, e3⟩
theorem KRow.congr {w : World} {ki : IntKind} {a : Option Addr} {n c : Nat} {f g : Nat -> Int} (h : KRow w ki a n c f) (e : ∀ j, j < n -> f j = g j) : KRow w ki a n c g := by
 refine ⟨h.1, h.2.1, h.2.2.imp id ?_⟩
 rintro ⟨b, off, rfl, hl, hc⟩
 exact ⟨b, off, rfl, hl, fun j hj => by rw [← e j hj]; exact hc j hj⟩
def spB (f : Nat -> Int) (n : Nat) (i : Int) : Bool := shB f n && (decide (0 <= i) && decide (i < (n : Int)))
def SpTold (f : Nat -> Int) (n : Nat) (i : Int) (w w' : World) (e : Ending) : Prop :=
 e = .returned (.tuple #[.int .i64 (if spB f n i then itm f i.toNat else 0), .int .i64 (if spB f n i then f i.toNat else 0), .int .i64 (if spB f n i then itm (shf f (i.toNat + 1)) (n - (i.toNat + 1)) else 0), .bool (spB f n i)]) /\ Below w.heap.size w w'
theorem SpTold.no {f : Nat -> Int} {n : Nat} {i : Int} {w w' : World} (hb : Below w.heap.size w w') (h : spB f n i = false) : SpTold f n i w w' (.returned (.tuple #[.int .i64 0, .int .i64 0, .int .i64 0, .bool false])) := by
 refine ⟨?_, hb⟩
 rw [h]
 rfl
theorem SpTold.yes {f : Nat -> Int} {n k : Nat} {w w' : World} (hb : Below w.heap.size w w') (h : shB f n = true) (hk : k < n) : SpTold f n k w w' (.returned (.tuple #[.int .i64 (itm f k), .int .i64 (f k), .int .i64 (itm (shf f (k + 1)) (n - (k + 1))), .bool true])) := by
 refine ⟨?_, hb⟩
 have : spB f n k = true := by unfold spB; rw [h, decide_eq_true (show (0 : Int) <= k by omega), decide_eq_true (show (k : Int) < n by omega)]; rfl
 rw [this]
 rfl
theorem equalI_any (a : Option Addr) (n c : Nat) (f : Nat -> Int) (a2 : Option Addr) (n2 c2 : Nat) (g : Nat -> Int) (w : World) (h : KRow w .i64 a n c f) (h2 : KRow w .i64 a2 n2 c2 g) :
    Calls Tryz.prog 144 #[.slice a n c, .slice a2 n2 c2] w fun e w' => SameTold (decide (n = n2) && sameB f g n) w w' e := by
 have hl := h.len
 have hl2 := h2.len
 have H1 := Lib.hid h
 have H2 := Lib.hid h2
 clear h h2
 by_cases hn : n = n2
 · subst hn
   rw [decide_eq_true rfl, Bool.true_and]
   have dn : ((n : Int) != n) = false := bne_self_eq_false _
   go_enter Tryz.func144, Tryz.ntmps144
   go_wp2
   go_loopw [13] (fun i wr => ∃ k : Nat, k <= n /\ i = .int .i64 k /\ Hid (Below w.heap.size w wr /\ sameB f g k = true)) (fun i _ => n - (intOf i).toNat)
   case atStart => exact ⟨0, by omega, rfl, Below.refl _ _, rfl⟩
   case round =>
    obtain ⟨k, hk, rfl, hrel⟩ := hrel
    obtain ⟨hbl, hsm⟩ := hrel.out
    by_cases hlt : k < n
    · obtain ⟨b, off, rfl, hb, hc⟩ := (H1.out.below hbl).get hlt
      obtain ⟨b2, off2, rfl, hb2, hc2⟩ := (H2.out.below hbl).get hlt
      have HBL := Lib.hid hbl
      have hk0 : (0 : Int) <= k := by omega
      have hk1 : (k : Int) < n := by omega
      have hk2 : (k : Int) <= n := by omega
      by_cases hq : f k = g k
      · have hsm2 : Hid (sameB f g (k + 1) = true) := by show (sameB f g k && _) = true; rw [hsm, decide_eq_true hq]; rfl
        clear hbl hsm
        rw [← hq] at hc2
        have hne : (f k != f k) = false := bne_self_eq_false _
        generalize f k = x at *
        clear hq
        go_wp2_with fail
        go_quiet (fail)
        have HBE : Hid (Below w.heap.size w (wr.drewN nq) /\ sameB f g (k + 1) = true) := ⟨below_drewN HBL.out nq, hsm2.out⟩
        go_wp2
        go_roundw
        case rel => exact ⟨k + 1, by omega, by go_num, HBE.out⟩
        case measure => simp [intOf]; omega
      · have hno : sameB f g n = false := by
          cases hx : sameB f g n with
          | false => rfl
          | true => exact absurd ((sameB_iff.1 hx) k hlt) hq
        have HN := Lib.hid hno
        have hne : (f k != g k) = true := bne_iff_ne.2 hq
        clear hbl hsm hno
        generalize f k = x at *
        generalize g k = y at *
        clear hq
        go_wp2_with fail
        go_quiet (fail)
        have HBE : Hid (SameTold (sameB f g n) w (wr.drewN nq) (.returned (.bool false))) := ⟨by rw [HN.out], below_drewN HBL.out nq⟩
        go_wp2
        go_ret
        exact HBE.out
    · obtain rfl : k = n := by omega
      have HE : Hid (SameTold (sameB f g k) w wr (.returned (.bool true))) := ⟨by rw [hsm], hbl⟩
      clear hbl hsm
      go_wp2
      go_ret
      exact HE.out
 · rw [decide_eq_false hn, Bool.false_and]
   have dn : ((n : Int) != n2) = true := bne_iff_ne.2 (by omega)
   have HE : Hid (SameTold false w w (.returned (.bool false))) := ⟨rfl, Below.refl _ _⟩
   clear hn
   go_enter Tryz.func144, Tryz.ntmps144
   go_wp2
   go_ret
   exact HE.out
theorem same_any (a : Option Addr) (n c : Nat) (f : Nat -> Int) (a2 : Option Addr) (n2 c2 : Nat) (g : Nat -> Int) (w : World) (h : KRow w .i64 a n c f) (h2 : KRow w .i64 a2 n2 c2 g) :
    Calls Tryz.prog 103 #[.slice a n c, .slice a2 n2 c2] w fun e w' => SameTold (decide (n = n2) && sameB f g n) w w' e := by
 have EQ := Lib.hid (equalI_any a n c f a2 n2 c2 g w h h2)
 unfold SameTold at EQ
 unfold SameTold
 generalize (decide (n = n2) && sameB f g n) = x at *
 clear h h2
 go_enter Tryz.func103, Tryz.ntmps103
 go_wp2_with fail
 go_at_call 144
 (with_reducible refine (EQ.out).mono ?_)
 rintro e w1 ⟨rfl, hb⟩
 have HB := Lib.hid hb
 clear hb
 go_wp2
 go_ret
 exact ⟨rfl, HB.out⟩
def stF (f : Nat -> Int) (n : Nat) : Nat -> Int := fun j => itm (shf f (j + 1)) (n - (j + 1))
theorem st_step {f : Nat -> Int} {n k : Nat} (hk : k < n) : itm (shf f k) (n - k) = itm (shf f (k + 1)) (n - (k + 1)) * f k := by
 have h := itm_add (shf f k) 1 (n - (k + 1))
 rw [show 1 + (n - (k + 1)) = n - k by omega] at h
 rw [h, show shf (shf f k) 1 = shf f (k + 1) from by funext j; show f (k + (1 + j)) = f (k + 1 + j); rw [Nat.add_assoc], show itm (shf f k) 1 = f k from by show 1 * f (k + 0) = f k; rw [Int.one_mul, Nat.add_zero], Int.mul_comm]
def StTold (f : Nat -> Int) (n : Nat) (w w' : World) (e : Ending) : Prop := ∃ a m c, e = .returned (.slice a m c) /\ (if shB f n then m = n /\ KRow w' .i64 a n c (stF f n) else a = none /\ m = 0 /\ c = 0) /\ Below w.heap.size w w'
theorem strides_any (a : Option Addr) (n c : Nat) (f : Nat -> Int) (w : World) (h : KRow w .i64 a n c f) (hf : In64 f n) :
    Calls Tryz.prog 93 #[.slice a n c] w fun e w' => StTold f n w w' e := by
 have hl := h.len
 have CN := Lib.hid (fun wz (h : KRow wz .i64 a n c f) => count_any a n c f wz h hf)
 unfold CntTold at CN
 have H := Lib.hid h
 clear h hf
 cases hs : shB f n with
 | false =>
  have HE : Hid (StTold f n w w (.returned (.slice none 0 0))) := Lib.hid ⟨none, 0, 0, rfl, by rw [hs, if_neg (by decide)]; exact ⟨rfl, rfl, rfl⟩, Below.refl _ _⟩
  rw [hs] at CN
  generalize cntI f n = x at *
  clear hs
  go_enter Tryz.func93, Tryz.ntmps93
  go_wp2_with fail
  go_at_call 91
  (with_reducible refine (CN.out _ H.out).mono ?_)
  rintro e w1 ⟨rfl, rfl⟩
  go_wp2
  go_ret
  exact HE.out
 | true =>
  rw [hs] at CN
  generalize cntI f n = x at *
  obtain ⟨h8, hax⟩ := sh_ax hs
  have HAX := Lib.hid hax
  have HS := Lib.hid hs
  obtain ⟨i0, hi, hz0, hz1, hz2⟩ := info_parts infoI
  have hmk := fun wz => run_make (P := Tryz.prog) wz 22 3 i0 _ Tryz.underlying22 hi hz0 .i64 .i64 n n (by omega) (by omega) (by rw [hz2]; omega) (by omega)
  simp only [Int.toNat_natCast, hz1, Nat.mul_one] at hmk
  have H0 : Hid (Below w.heap.size w (w.alloc (.cells (madeCells (Value.cells (.int .i64 0)) n) 3)) /\ IBox (w.alloc (.cells (madeCells (Value.cells (.int .i64 0)) n) 3)) w.heap.size n (fun j => if j < n then 0 else stF f n j)) :=
   Lib.hid ⟨(Below.refl _ _).alloc (Nat.le_refl _) _, (IBox.made w n 3 rfl).congr (fun j hj => by rw [if_pos hj])⟩
  have HN0 : Hid ((1 : Int) = itm (shf f n) (n - n)) := Lib.hid (by rw [Nat.sub_self]; rfl)
  have hw1 := IntWalk.i64_in ((n : Int) - 1) (by omega)
  have hnn : (0 : Int) <= n := by omega
  clear hs hax hi hz0 hz1 hz2
  go_enter Tryz.func93, Tryz.ntmps93
  go_wp2_with fail
  go_at_call 91
  (with_reducible refine (CN.out _ H.out).mono ?_)
  rintro e w1 ⟨rfl, rfl⟩
  go_wp2_with fail
  go_loopw [6, 7] (fun q ax wr => ∃ (k : Nat) (r z : Int), k <= n /\ z = (k : Int) - 1 /\ ax = .int .i64 z /\ q = .int .i64 r /\ Hid (r = itm (shf f k) (n - k) /\ Below w.heap.size w wr /\ IBox wr w.heap.size n (fun j => if j < k then 0 else stF f n j))) (fun _ ax _ => (intOf ax + 1).toNat)
  case atStart => exact ⟨n, 1, (n : Int) - 1, Nat.le_refl _, rfl, rfl, rfl, HN0.out, H0.out⟩
  case round =>
   obtain ⟨k, r, z, hk, hz, rfl, rfl, hrel⟩ := hrel
   obtain ⟨hr, hbl, hbox⟩ := hrel.out
   by_cases hk0 : 0 < k
   · obtain ⟨k, rfl⟩ : ∃ k', k = k' + 1 := ⟨k - 1, by omega⟩
     obtain rfl : z = (k : Int) := by omega
     have hlt : k < n := by omega
     obtain ⟨b, off, rfl, hb, hc0⟩ := H.out.get hlt
     have hc := (hbl.cell (p := ⟨b, off + k, none⟩) hb).trans hc0
     have hc2 : ∀ v, (wr.setCell ⟨w.heap.size, k, none⟩ v).cell? ⟨b, off + k, none⟩ = some (.int .i64 (f k)) := fun v => by rw [World.cell?_setCell_other _ _ _ _ (fun e => by injection e with e; omega)]; exact hc
     have hst : stF f n k = r := hr.symm
     have hbox2 : IBox (wr.setCell ⟨w.heap.size, k, none⟩ (.int .i64 r)) w.heap.size n (fun j => if j < k then 0 else stF f n j) :=
      (hbox.set hlt r).congr (fun j hj => by
        by_cases e : j = k
        · subst e; rw [if_pos rfl, if_neg (by omega)]; exact hst.symm
        · rw [if_neg e]
          by_cases e2 : j < k
          · rw [if_pos e2, if_pos (by omega)]
          · rw [if_neg e2, if_neg (by omega)])
     have hbd := ax_bd (ax_shf k HAX.out (n - k) (by omega))
     have hrs := st_step (f := f) hlt
     rw [← hr] at hrs
     rw [hrs] at hbd
     have HN : Hid (r * f k = itm (shf f k) (n - k) /\ Below w.heap.size w (wr.setCell ⟨w.heap.size, k, none⟩ (.int .i64 r)) /\ IBox (wr.setCell ⟨w.heap.size, k, none⟩ (.int .i64 r)) w.heap.size n (fun j => if j < k then 0 else stF f n j)) :=
      Lib.hid ⟨hrs.symm, hbl.setCell (p := ⟨w.heap.size, k, none⟩) (Nat.le_refl _) _, hbox2⟩
     have x1 := hbox.2.2 k hlt
     simp only [show k < k + 1 by omega, if_true] at x1
     have x2 := hbox.2.1 k
     have hkn : (0 : Int) <= k := by omega
     have hkl : (k : Int) < n := by omega
     have w2 := IntWalk.i64_in (r * f k) (by omega)
     have w4 := IntWalk.i64_in ((k : Int) - 1) (by omega)
     clear hbl hbox hbox2 hrel hr hz hst hbd hrs hc hc0
     generalize f k = x at *
     go_wp2
     go_roundw
     case rel => exact ⟨k, r * x, (k : Int) - 1, by omega, rfl, by go_num, rfl, HN.out⟩
     case measure => simp [intOf]
   · obtain rfl : k = 0 := by omega
     obtain rfl : z = -1 := by omega
     have hkr : KRow wr .i64 (some ⟨w.heap.size, 0, none⟩) n n (stF f n) := (hbox.congr (h' := stF f n) (fun j _ => by rw [if_neg (by omega)])).krow (by unfold maxLen; omega)
     have HE : Hid (StTold f n w wr (.returned (.slice (some ⟨w.heap.size, 0, none⟩) n n))) := Lib.hid ⟨_, n, _, rfl, by rw [HS.out, if_pos rfl]; exact ⟨rfl, hkr⟩, hbl⟩
     clear hbl hbox hrel hkr hr hz
     go_wp2
     go_ret
     exact HE.out
theorem itm_congr {f f' : Nat -> Int} : ∀ {n : Nat}, (∀ j, j < n -> f j = f' j) -> itm f n = itm f' n
 | 0, _ => rfl
 | n + 1, h => by
  show itm f n * f n = itm f' n * f' n
  rw [itm_congr (fun j hj => h j (by omega)), h n (by omega)]
theorem Arr.away {w w' : World} {cs : Array Value} {S : Nat -> Int} {r : Nat} {ch : Bool} {L : Nat} {g fP : Nat -> Int} {fQ : Nat -> Nat} (h : Arr w cs S r ch L g fP fQ) {k : Nat} {t : TypeId} {ch' : Bool} {more : Int} {d : Nat -> Int} {na : Option Addr} {nn nc : Nat} {ta : Option Addr} {tn tc : Nat} (hr : Row w k t (arrC ch' more d na nn nc ta tn tc)) (hf : Far k w w') : Arr w' cs S r ch L g fP fQ := by
 refine ⟨fun e => ?_, fun e => ?_⟩
 · obtain ⟨a, c, h1, h2⟩ := h.1 e
   exact ⟨a, c, h1, h2.away (KRow.ne h2 (by decide) hr) hf⟩
 · obtain ⟨a, c, h1, h2⟩ := h.2 e
   exact ⟨a, c, h1, h2.away (Row.noLimb hr) (RRow.ne h2 hr) hf⟩
theorem Arr.put {w : World} {cs : Array Value} {S : Nat -> Int} {r : Nat} {ch : Bool} {L : Nat} {g fP : Nat -> Int} {fQ : Nat -> Nat} (h : Arr w cs S r ch L g fP fQ) {k : Nat} {t : TypeId} (hr : Row w k t zerC) (cs' : Array Value) : Arr (w.setRow k cs') cs S r ch L g fP fQ := by
 rw [zerC_row] at hr
 exact h.away hr (Far.setRow _ _ _)
def arG (L : Nat) : Nat -> Int := fun j => if L = 0 then (j : Int) else ((j % L : Nat) : Int)
def IsA (cs : Array Value) : Prop := ∃ ch more d na nn nc ta tn tc, cs = arrC ch more d na nn nc ta tn tc
theorem IsA.zer : IsA zerC := ⟨_, _, _, _, _, _, _, _, _, rfl⟩
theorem IsA.size {cs : Array Value} (h : IsA cs) : cs.size = 12 := by
 obtain ⟨_, _, _, _, _, _, _, _, _, rfl⟩ := h
 rfl
theorem IsA.one {cs : Array Value} (h : IsA cs) : cs.all (·.oneCell') = true := by
 obtain ⟨_, _, _, _, _, _, _, _, _, rfl⟩ := h
 exact arrC_one _ _ _ _ _ _ _ _ _
theorem Arr.isA {w : World} {cs : Array Value} {S : Nat -> Int} {r : Nat} {ch : Bool} {L : Nat} {g fP : Nat -> Int} {fQ : Nat -> Nat} (h : Arr w cs S r ch L g fP fQ) : IsA cs := by
 obtain ⟨na, nn, nc, ta, tn, tc, rfl, _⟩ := h.form
 exact ⟨_, _, _, _, _, _, _, _, _, rfl⟩
theorem Arr.store {w : World} {cs : Array Value} {S : Nat -> Int} {r : Nat} {ch : Bool} {L : Nat} {g fP : Nat -> Int} {fQ : Nat -> Nat} (h : Arr w cs S r ch L g fP fQ) {k : Nat} {t : TypeId} {z : Array Value} (hr : Row w k t z) (hz : IsA z) (cs' : Array Value) : Arr (w.setRow k cs') cs S r ch L g fP fQ := by
 obtain ⟨_, _, _, _, _, _, _, _, _, rfl⟩ := hz
 exact h.away hr (Far.setRow _ _ _)
theorem ev_tmp {a : Act} {d : Nat} {v : Value} (h : a.tmps[d]? = some v) : a.eval (.tmp d) = v := by
 show a.tmps.getD d undef = v
 rw [Array.getD_eq_getD_getElem?, h]; rfl
theorem ld8 {o : Oper} {a : Act} {w : World} {K : Act -> World -> Prop} {Q : Exit -> Act -> World -> Prop} (d : Nat) (ho : o.op = .load 36 (.tmp d)) (g : Nat) (cs : Array Value) (hd : a.tmps[d]? = some (.pointer (some ⟨g, 0, none⟩))) (hr : Row w g 36 cs) (hs : cs.size = 12)
    (hK : K (a.put o.dst (.agg cs)) w) : o.wp Tryz.prog a w K Q :=
 wp_load_row 36 (.tmp d) ho g (ev_tmp hd) 36 cs (0, 0) _ hr Tryz.underlying36 rfl (by rw [arr12, hs]) hK
theorem ldP {o : Oper} {a : Act} {w : World} {K : Act -> World -> Prop} {Q : Exit -> Act -> World -> Prop} (d : Nat) (ho : o.op = .load 26 (.tmp d)) (g : Nat) (cs : Array Value) (hd : a.tmps[d]? = some (.pointer (some ⟨g, 0, none⟩))) (hr : Row w g 26 cs) (hs : cs.size = 4)
    (hK : K (a.put o.dst (.agg cs)) w) : o.wp Tryz.prog a w K Q :=
 wp_load_row 26 (.tmp d) ho g (ev_tmp hd) 26 cs (0, 0) _ hr Tryz.underlying26 rfl (by rw [pln4, hs]) hK
theorem st8 {o : Oper} {a : Act} {w : World} {K : Act -> World -> Prop} {Q : Exit -> Act -> World -> Prop} (d s : Nat) (ho : o.op = .store 36 (.tmp d) (.tmp s)) (g : Nat) (cs : Array Value) (hd : a.tmps[d]? = some (.pointer (some ⟨g, 0, none⟩))) (hs : a.tmps[s]? = some (.agg cs)) (t : TypeId) (z : Array Value) (hr : Row w g t z) (hz : IsA z) (hc : IsA cs)
    (hK : K (a.put o.dst undef) (w.setRow g cs)) : o.wp Tryz.prog a w K Q :=
 wp_store_row 36 (.tmp d) (.tmp s) ho g cs (ev_tmp hd) (ev_tmp hs) t z hr (by rw [arr12, hc.size]) (by rw [hz.size, hc.size]) hc.one hK
def MoTold (E : Int) (S : Nat -> Int) (r : Nat) (ch : Bool) (L : Nat) (g fP : Nat -> Int) (fQ : Nat -> Nat) (w w' : World) (e : Ending) : Prop :=
 ∃ cs, e = .returned (.tuple #[.agg cs, .int .i64 E]) /\ (E = 0 -> Arr w' cs S r ch L g fP fQ) /\ (E ≠ 0 -> cs = zerC) /\ Below w.heap.size w w'
theorem MoTold.no {E : Int} (hE : E ≠ 0) {S : Nat -> Int} {r : Nat} {ch : Bool} {L : Nat} {g fP : Nat -> Int} {fQ : Nat -> Nat} {w w' : World} (hb : Below w.heap.size w w') : MoTold E S r ch L g fP fQ w w' (.returned (.tuple #[.agg zerC, .int .i64 E])) :=
 ⟨zerC, rfl, fun e => absurd e hE, fun _ => rfl, hb⟩
theorem MoTold.yes {S : Nat -> Int} {r : Nat} {ch : Bool} {L : Nat} {g fP : Nat -> Int} {fQ : Nat -> Nat} {w w' : World} {cs : Array Value} (h : Arr w' cs S r ch L g fP fQ) (hb : Below w.heap.size w w') : MoTold 0 S r ch L g fP fQ w w' (.returned (.tuple #[.agg cs, .int .i64 0])) :=
 ⟨cs, rfl, fun _ => h, fun e => absurd rfl e, hb⟩
end Go.Proofs.YtnpoakaffafdiaaGreatDoor
namespace Go.Proofs.YtnpoakaffafdiaaGreatDoor
open Go.RowKit
attribute [local go_sem ↓] Go.wp_at_zero Go.wp_at_succ
def Gives2 (fv : FuncId) (cap : Array Value) (F : Nat -> Nat -> Int) (R N : Nat) (w : World) : Prop :=
 ∀ wz, Below w.heap.size w wz -> ∀ row i : Nat, row < R -> i < N -> Calls Tryz.prog fv (#[.int .i64 (row : Nat), .int .i64 (i : Nat)] ++ cap) wz fun e w' => e = .returned (.int .i64 (F row i)) /\ Below wz.heap.size wz w'
theorem Gives2.below {fv : FuncId} {cap : Array Value} {F : Nat -> Nat -> Int} {R N : Nat} {w w' : World} (h : Gives2 fv cap F R N w) (hb : Below w.heap.size w w') : Gives2 fv cap F R N w' := fun wz hz => h wz (hb.trans (hz.mono hb.size))
structure Shown (w : World) (cs pcs : Array Value) : Prop where
 ex : ∃ S r ch L g fP fQ S' g' fB fS fT, Arr w cs S r ch L g fP fQ /\ Pln w pcs S' r ch L g' fB fS fT /\ r <= 8 /\ L <= 1000000 /\ Small ch L fP fQ /\ (∀ j, j < r -> S j = S' j) /\ (∀ j, j < tnO ch L -> g j = g' j) /\ ∀ j, j < nnO ch L -> rB (fP j) = fB j /\ rS (fP j) = fS j /\ str (dec (fQ j)) = fT j
theorem Shown.below {w w' : World} {cs pcs : Array Value} (h : Shown w cs pcs) (hb : Below w.heap.size w w') : Shown w' cs pcs := by
 obtain ⟨S, r, ch, L, g, fP, fQ, S', g', fB, fS, fT, h1, h2, h3⟩ := h.ex
 exact ⟨S, r, ch, L, g, fP, fQ, S', g', fB, fS, fT, h1.below hb, h2.below hb, h3⟩
end Go.Proofs.YtnpoakaffafdiaaGreatDoor
namespace Go.Proofs.YtnpoakaffafdiaaGreatDoor
open Go.RowKit
def gP (fB : Nat -> Bool) (fS fT : Nat -> ByteArray) : Nat -> Int := fun j => ofP (fB j) (fS j) (fT j)
def gQ (fB : Nat -> Bool) (fS fT : Nat -> ByteArray) : Nat -> Nat := fun j => ofQ (fB j) (fS j) (fT j)
structure Good (S : Nat -> Int) (r : Nat) (ch : Bool) (L : Nat) (fB : Nat -> Bool) (fS fT : Nat -> ByteArray) : Prop where
 le : L <= 250
 rank : r <= 8
 sh : shB S r = true
 cnt : itm S r = (L : Nat)
 short : Short fS fT (nnO ch L)
 of : ofB S r ch (tnO ch L) fB fS fT (nnO ch L) = true
theorem good_of {S : Nat -> Int} {r : Nat} {ch : Bool} {tn : Nat} {fB : Nat -> Bool} {fS fT : Nat -> ByteArray} {nn : Nat} (h : (tn : Int) <= 250 /\ (nn : Int) <= 250 /\ r <= 8 /\ Short fS fT nn /\ ofB S r ch tn fB fS fT nn = true) :
    ∃ L, tn = tnO ch L /\ nn = nnO ch L /\ Good S r ch L fB fS fT := by
 obtain ⟨h1, h2, h3, h4, h5⟩ := h
 obtain ⟨q1, q2, q3, q4, q5⟩ := ofB_true h5
 cases ch with
 | true =>
  obtain rfl := q3 rfl
  exact ⟨tn, rfl, rfl, by omega, h3, q1, q2, h4, h5⟩
 | false =>
  obtain rfl := q4 rfl
  exact ⟨nn, rfl, rfl, by omega, h3, q1, q2, h4, h5⟩
theorem Good.num {S : Nat -> Int} {r : Nat} {ch : Bool} {L : Nat} {fB : Nat -> Bool} {fS fT : Nat -> ByteArray} (h : Good S r ch L fB fS fT) : NumOk fB fS fT (gP fB fS fT) (gQ fB fS fT) (nnO ch L) := ofO_num (ofB_true h.of).2.2.2.2 h.short
theorem Good.small {S : Nat -> Int} {r : Nat} {ch : Bool} {L : Nat} {fB : Nat -> Bool} {fS fT : Nat -> ByteArray} (h : Good S r ch L fB fS fT) : Small ch L (gP fB fS fT) (gQ fB fS fT) := fun e => by
 have := ofO_cmp (ofB_true h.of).2.2.2.2 h.short
 subst e
 exact this
theorem Good.pos {S : Nat -> Int} {r : Nat} {ch : Bool} {L : Nat} {fB : Nat -> Bool} {fS fT : Nat -> ByteArray} (h : Good S r ch L fB fS fT) : ch = false -> ∀ j, j < L -> 0 < gQ fB fS fT j := fun e j hj => (h.small e j hj).1
theorem Good.told {S : Nat -> Int} {r : Nat} {ch : Bool} {L : Nat} {fB : Nat -> Bool} {fS fT : Nat -> ByteArray} (h : Good S r ch L fB fS fT) : ∀ j, j < nnO ch L -> rB (gP fB fS fT j) = fB j /\ rS (gP fB fS fT j) = fS j /\ str (dec (gQ fB fS fT j)) = fT j := fun j hj => by
 obtain ⟨e1, e2, e3, _⟩ := h.num j hj
 exact ⟨e1.symm, e2.symm, e3.symm⟩
theorem Good.in64 {S : Nat -> Int} {r : Nat} {ch : Bool} {L : Nat} {fB : Nat -> Bool} {fS fT : Nat -> ByteArray} (h : Good S r ch L fB fS fT) : In64 S r := fun j hj => by
 have h1 := ax_bd (ax_le (show j + 1 <= r by omega) (sh_ax h.sh).2)
 have h2 := rm_pos S j
 have h3 : 1 * max (S j) 1 <= rm S j * max (S j) 1 := Int.mul_le_mul h2 (Int.le_refl _) (by omega) (by omega)
 have h4 : rm S (j + 1) = rm S j * max (S j) 1 := rfl
 have h5 := ax_nn (sh_ax h.sh).2 hj
 omega
theorem of8_any (cs : Array Value) (S : Nat -> Int) (r : Nat) (ch : Bool) (L : Nat) (g : Nat -> Int) (fB : Nat -> Bool) (fS fT : Nat -> ByteArray) (w : World) (h : Pln w cs S r ch L g fB fS fT) (hg : Good S r ch L fB fS fT) :
    Calls Tryz.prog 12 #[.agg cs] w fun e w' => ∃ a, e = .returned (.agg a) /\ Arr w' a S r ch L g (gP fB fS fT) (gQ fB fS fT) /\ Below w.heap.size w w' := by
 have h1 : nnO ch L <= 100000 := by have := hg.le; unfold nnO; split <;> omega
 have h2 : tnO ch L <= 100000 := by have := hg.le; unfold tnO; split <;> omega
 refine (lof_any cs S r ch g (tnO ch L) fB fS fT (nnO ch L) w h hg.in64 hg.short h1 h2 hg.of).mono ?_
 rintro e w' ⟨na, nc, ta, tc, rfl, k1, k2, k3, k4, hb⟩
 refine ⟨_, rfl, ⟨fun e => ?_, fun e => ?_⟩, hb⟩
 · subst e
   obtain ⟨rfl, rfl⟩ := k4 rfl
   exact ⟨ta, tc, rfl, k2⟩
 · subst e
   obtain ⟨rfl, rfl⟩ := k3 rfl
   exact ⟨na, nc, rfl, k1⟩
theorem RRow.congr {w : World} {sa : Option Addr} {n c : Nat} {fP fP' : Nat -> Int} {fQ fQ' : Nat -> Nat} (h : RRow w sa n c fP fQ) (e1 : ∀ j, j < n -> fP j = fP' j) (e2 : ∀ j, j < n -> fQ j = fQ' j) : RRow w sa n c fP' fQ' := by
 refine ⟨h.1, h.2.1, h.2.2.imp id fun ⟨b, off, h1, h2, h3⟩ => ⟨b, off, h1, h2, fun j hj => ?_⟩⟩
 rw [← e1 j hj, ← e2 j hj]
 exact h3 j hj
theorem Arr.on {w : World} {cs : Array Value} {S : Nat -> Int} {r : Nat} {ch : Bool} {L : Nat} {g g' fP fP' : Nat -> Int} {fQ fQ' : Nat -> Nat} (h : Arr w cs S r ch L g fP fQ) (e1 : ∀ j, j < L -> g j = g' j) (e2 : ∀ j, j < L -> fP j = fP' j) (e3 : ∀ j, j < L -> fQ j = fQ' j) : Arr w cs S r ch L g' fP' fQ' := by
 refine ⟨fun e => ?_, fun e => ?_⟩
 · obtain ⟨ta, tc, q, k⟩ := h.1 e
   exact ⟨ta, tc, q, k.congr e1⟩
 · obtain ⟨na, nc, q, k⟩ := h.2 e
   exact ⟨na, nc, q, k.congr e2 e3⟩
end Go.Proofs.YtnpoakaffafdiaaGreatDoor
namespace Go.Proofs.YtnpoakaffafdiaaGreatDoor
open Go.RowKit
attribute [local go_sem ↓] Go.wp_at_zero Go.wp_at_succ
theorem WhTold.yes {n : Nat} {f : Nat -> Int} {w w' : World} {e : Ending} (h : WhTold true n f w w' e) : ∃ a c, e = .returned (.tuple #[.slice a n c, .bool true]) /\ KRow w' .i64 a n c f /\ Below w.heap.size w w' := by
 obtain ⟨a, m, c, he, h2, hb⟩ := h
 rw [if_pos rfl] at h2
 obtain ⟨rfl, hk⟩ := h2
 exact ⟨a, c, he, hk, hb⟩
theorem WhTold.no {n : Nat} {f : Nat -> Int} {w w' : World} {e : Ending} (h : WhTold false n f w w' e) : e = .returned (.tuple #[.slice none 0 0, .bool false]) /\ Below w.heap.size w w' := by
 obtain ⟨a, m, c, he, h2, hb⟩ := h
 rw [if_neg (by decide)] at h2
 obtain ⟨rfl, rfl, rfl⟩ := h2
 exact ⟨he, hb⟩
end Go.Proofs.YtnpoakaffafdiaaGreatDoor
namespace Go.Proofs.YtnpoakaffafdiaaGreatDoor
open Go.RowKit
theorem dgs_top {f : Nat -> Int} (n : Nat) (r : Int) : dgs f (n + 1) r n = r % f n := by
 show (if n = n then _ else _) = _
 rw [if_pos rfl]
theorem dgs_low {f : Nat -> Int} {n j : Nat} (r : Int) (h : j < n) : dgs f (n + 1) r j = dgs f n (r / f n) j := by
 show (if j = n then _ else _) = _
 rw [if_neg (by omega)]
theorem IBox.wrote {w w' : World} {g n k lo hi : Nat} {h : Nat -> Int} (q : IBox w g n h) (hw : Wrote k lo hi w w') (hk : g ≠ k) : IBox w' g n h :=
 ⟨Nat.lt_of_lt_of_le q.1 hw.size, q.2.1.wrote hw q.1, fun j hj => (World.cell?_of_block (w := w) (w' := w') (a := ⟨g, j, none⟩) (hw.block g q.1 hk)).trans (q.2.2 j hj)⟩
theorem IBox.drewN {w : World} {g n : Nat} {h : Nat -> Int} (q : IBox w g n h) (m : Nat) : IBox (w.drewN m) g n h := q
theorem ld8G {ops : Array Oper} {rest : List Oper} {o : Oper} {a : Act} {w : World} {Q : Exit -> Act -> World -> Prop} (hw : Region.wanted o (yielded ops a.tmps) = true) (d : Nat) (ho : o.op = .load 36 (.tmp d)) (g : Nat) (cs : Array Value) (hx : a.eval (.tmp d) = .pointer (some ⟨g, 0, none⟩)) (hr : Row w g 36 cs) (hs : cs.size = 12)
    (h : wpList Tryz.prog ops Q rest (a.put o.dst (.agg cs)) w) : wpList Tryz.prog ops Q (o :: rest) a w := by
 show if Region.wanted o (yielded ops a.tmps) = true then _ else _
 rw [if_pos hw]
 exact Or.inl (wp_load_row 36 (.tmp d) ho g hx 36 cs (0, 0) _ hr Tryz.underlying36 rfl (by rw [arr12, hs]) h)
theorem ldPG {ops : Array Oper} {rest : List Oper} {o : Oper} {a : Act} {w : World} {Q : Exit -> Act -> World -> Prop} (hw : Region.wanted o (yielded ops a.tmps) = true) (d : Nat) (ho : o.op = .load 26 (.tmp d)) (g : Nat) (cs : Array Value) (hx : a.eval (.tmp d) = .pointer (some ⟨g, 0, none⟩)) (hr : Row w g 26 cs) (hs : cs.size = 4)
    (h : wpList Tryz.prog ops Q rest (a.put o.dst (.agg cs)) w) : wpList Tryz.prog ops Q (o :: rest) a w := by
 show if Region.wanted o (yielded ops a.tmps) = true then _ else _
 rw [if_pos hw]
 exact Or.inl (wp_load_row 26 (.tmp d) ho g hx 26 cs (0, 0) _ hr Tryz.underlying26 rfl (by rw [pln4, hs]) h)
theorem dgs_congr {f f' : Nat -> Int} : ∀ {n : Nat} (r : Int) (j : Nat), (∀ a, a < n -> f a = f' a) -> dgs f n r j = dgs f' n r j
 | 0, _, _, _ => rfl
 | n + 1, r, j, h => by
  show (if j = n then r % f n else dgs f n (r / f n) j) = if j = n then r % f' n else dgs f' n (r / f' n) j
  rw [h n (by omega), dgs_congr (r / f' n) j (fun a ha => h a (by omega))]
theorem ax_le4 {S : Nat -> Int} {r j : Nat} (h : shB S r = true) (hj : j < r) : 0 <= S j /\ S j <= 4096 := by
 obtain ⟨_, hax⟩ := sh_ax h
 have h1 := ax_bd (ax_le (show j + 1 <= r by omega) hax)
 have h2 := rm_pos S j
 have h3 : 1 * max (S j) 1 <= rm S j * max (S j) 1 := Int.mul_le_mul h2 (Int.le_refl _) (by omega) (by omega)
 have h4 : rm S (j + 1) = rm S j * max (S j) 1 := rfl
 have h5 := ax_nn hax hj
 omega
theorem wv_dm {W i t : Nat} (ht : t < W) : (i * W + t) % W = t /\ (i * W + t) / W = i := by
 constructor
 · rw [Nat.mul_comm, Nat.mul_add_mod]; exact Nat.mod_eq_of_lt ht
 · rw [Nat.mul_comm, Nat.mul_add_div (by omega), Nat.div_eq_of_lt ht, Nat.add_zero]
theorem ax_iff {f : Nat -> Int} : ∀ {n : Nat}, axB f n = true ↔ (∀ j, j < n -> 0 <= f j) /\ rm f n <= 4096
 | 0 => ⟨fun _ => ⟨fun j hj => absurd hj (Nat.not_lt_zero _), by show (1 : Int) <= 4096; decide⟩, fun _ => rfl⟩
 | n + 1 => by
  constructor
  · intro h
    exact ⟨fun j hj => ax_nn h hj, (ax_bd h).2.1⟩
  · rintro ⟨h1, h2⟩
    have h3 := rm_pos f n
    have h4 : rm f n * 1 <= rm f n * max (f n) 1 := Int.mul_le_mul_of_nonneg_left (by omega) (by omega)
    have h5 : rm f (n + 1) = rm f n * max (f n) 1 := rfl
    have h6 : axB f n = true := ax_iff.2 ⟨fun j hj => h1 j (by omega), by omega⟩
    show (axB f n && (decide (0 <= f n) && decide (rm f (n + 1) <= 4096))) = true
    rw [h6, decide_eq_true (h1 n (by omega)), decide_eq_true h2]; rfl
theorem rm_congr {f f' : Nat -> Int} : ∀ {n : Nat}, (∀ j, j < n -> f j = f' j) -> rm f n = rm f' n
 | 0, _ => rfl
 | n + 1, h => by
  show rm f n * max (f n) 1 = rm f' n * max (f' n) 1
  rw [rm_congr (fun j hj => h j (by omega)), h n (by omega)]
def bnd (b x : Int) : Int := min (max x (0 - b)) b
theorem Wrote.over {g k lo hi lo' hi' : Nat} {a b c : World} (h : Wrote g lo hi a b) (q : Wrote k lo' hi' b c) (hk : a.heap.size <= k) (hg : g < a.heap.size) : Wrote g lo hi a c := by
 have hs := h.size
 have hb : c.heap[g]? = b.heap[g]? := q.block g (by omega) (by omega)
 exact ⟨q.os.trans h.os, q.tape.trans h.tape, q.output.trans h.output, Nat.le_trans h.size q.size, fun j hj hne => (q.block j (by omega) (by omega)).trans (h.block j hj hne), fun o ho => (World.cell?_of_block (w := b) (w' := c) (a := ⟨g, o, none⟩) hb).trans (h.cell o ho), fun o => (World.frozen?_of_block (w := b) (w' := c) (a := ⟨g, o, none⟩) hb).trans (h.frozen o)⟩
def Scr (gb nb : Nat) (w0 w : World) : Prop := Wrote gb 0 nb w0 w /\ ∃ h, IBox w gb nb h
theorem Scr.over {gb nb k lo hi : Nat} {a b c : World} (h : Scr gb nb a b) (q : Wrote k lo hi b c) (hk : a.heap.size <= k) (hg : gb < a.heap.size) : Scr gb nb a c := by
 obtain ⟨h1, x, h2⟩ := h
 exact ⟨h1.over q hk hg, x, h2.wrote q (by omega)⟩
theorem Scr.next {gb nb : Nat} {a b c : World} (h : Scr gb nb a b) (q : Scr gb nb b c) : Scr gb nb a c := ⟨h.1.trans q.1, q.2⟩
def pkI (F : Nat -> Nat -> Int) (d : Nat -> Int) : Nat -> Int := fun j => F j (d j).toNat
def pkG (S T : Nat -> Int) (r : Nat) (F : Nat -> Nat -> Int) (k : Nat) : Int := if inB S (pkI F (dgs T r (k : Nat))) r then plc S (pkI F (dgs T r (k : Nat))) r else -1
theorem pkG_bd {S T : Nat -> Int} {r : Nat} {F : Nat -> Nat -> Int} (hsh : shB S r = true) (k : Nat) : -1 <= pkG S T r F k /\ pkG S T r F k < 4096 := by
 obtain ⟨_, hax⟩ := sh_ax hsh
 unfold pkG
 split
 · rename_i h
   have h1 := plc_bd hax h
   have h2 := ax_bd hax
   omega
 · omega
theorem pkI_congr {F F' : Nat -> Nat -> Int} {d : Nat -> Int} {S : Nat -> Int} {r : Nat} (h : ∀ j, j < r -> F j (d j).toNat = F' j (d j).toNat) : inB S (pkI F d) r = inB S (pkI F' d) r /\ plc S (pkI F d) r = plc S (pkI F' d) r := by
 induction r with
 | zero => exact ⟨rfl, rfl⟩
 | succ r ih =>
  obtain ⟨h1, h2⟩ := ih (fun j hj => h j (by omega))
  have h3 : pkI F d r = pkI F' d r := h r (by omega)
  constructor
  · show (inB S (pkI F d) r && (decide (0 <= pkI F d r) && decide (pkI F d r < S r))) = (inB S (pkI F' d) r && (decide (0 <= pkI F' d r) && decide (pkI F' d r < S r)))
    rw [h1, h3]
  · show plc S (pkI F d) r * S r + pkI F d r = plc S (pkI F' d) r * S r + pkI F' d r
    rw [h2, h3]
theorem cloneI_some (ad : Addr) (n c : Nat) (f : Nat -> Int) (w : World) (h : KRow w .i64 (some ad) n c f) (hn : n <= 1000000) :
    Calls Tryz.prog 94 #[.slice (some ad) n c] w fun e w' => ∃ g c', e = .returned (.slice (some ⟨g, 0, none⟩) n c') /\ w.heap.size <= g /\ g < w'.heap.size /\ KRow w' .i64 (some ⟨g, 0, none⟩) n c' f /\ Below w.heap.size w w' := by
 obtain ⟨i0, hi, hz0, hz1, hz2⟩ := info_parts infoI
 have q22 : ∀ (w : World) (a : Option Addr) (n c n' c' : Nat), (binOp .eql 22 (.slice a n c) (.slice none n' c')).run Tryz.prog w = .ok (.bool a.isNone) w := fun w a n c n' c' => Lib.run_eql_slice_nil w _ _ a n c n' c' Tryz.underlying22
 have hex : ∃ news : List Value, news.length = n * 1 /\ (∀ j u, news[j]? = some u -> w.cell? (ad.add j) = some u) /\ (∀ u ∈ news, u.oneCell' = true) /\ ∀ j, j < n -> news[j]? = some (.int .i64 (f j)) := by
  rcases h.2.2 with h0 | ⟨b, off, he, hb, hc⟩
  · subst h0
    exact ⟨[], rfl, fun j u hu => by simp at hu, fun u hu => by simp at hu, fun j hj => by omega⟩
  · obtain rfl := Option.some.inj he
    have hg : ∀ j, j < n -> ((List.range n).map fun j => Value.int .i64 (f j))[j]? = some (.int .i64 (f j)) := fun j hj => by rw [List.getElem?_map, List.getElem?_range hj]; rfl
    refine ⟨(List.range n).map fun j => .int .i64 (f j), by simp, fun j u hu => ?_, fun u hu => ?_, hg⟩
    · have hj : j < n := by
        have := (List.getElem?_eq_some_iff.1 hu).1
        simpa using this
      rw [hg j hj] at hu
      obtain rfl := Option.some.inj hu
      rw [show (⟨b, off, none⟩ : Addr).add j = ⟨b, off + j, none⟩ by simp [Addr.add]]
      exact hc j hj
    · obtain ⟨j, _, rfl⟩ := List.mem_map.1 hu
      rfl
 obtain ⟨news, hl, hcell, hone, hrat⟩ := hex
 have HC := Lib.hid hcell
 have HO := Lib.hid hone
 have HR := Lib.hid hrat
 have HL := Lib.hid hl
 have HN := Lib.hid hn
 clear hcell hone hrat hl h hn
 go_enter Tryz.func94, Tryz.ntmps94
 go_wp2_with (at_builtin; refine wpList_append_own _ rfl _ _ 22 rfl w.heap.size 3 i0 _ 1 8 Tryz.underlying22 hi hz0 hz1 hz2 rfl (by omega) _ _ _ rfl (World.ownsRow_made w #[] 0 (Nat.le_refl _) (Nat.zero_le _) (by simp)) ad n c news rfl ?qc1 ?qc2 ?qc3 ?qc4 ?qc5 ?qc6 ?_)
 case qc1 => exact HL.out
 case qc2 => exact fun j u hj => Lib.cell?_alloc_some _ (HC.out j u hj)
 case qc3 => exact HO.out
 case qc4 => have := HN.out; unfold maxLen; omega
 case qc5 => have := HN.out; omega
 case qc6 => simp
 intro v' w1 hown hgrow hnil
 have hb : Below w.heap.size w w1 := ((Below.refl _ w).alloc (Nat.le_refl _) _).grown hgrow (by simp) (by intro k hk; simp [Value.ownBlock] at hk; omega)
 have HE : Hid (∃ g c', v' = .slice (some ⟨g, 0, none⟩) n c' /\ w.heap.size <= g /\ g < w1.heap.size /\ KRow w1 .i64 (some ⟨g, 0, none⟩) n c' f) := by
  rcases hown.2 with ⟨e0, h0⟩ | ⟨g, cap, cur, rfl, hge, hh, h1, h2, _, hcs⟩
  · exact absurd e0 (by first | exact hnil | (intro e1; have := (hnil.1 e1).1; cases this))
  · try rw [Nat.zero_add] at h1
    refine ⟨g, cap, by first | rfl | rw [Nat.zero_add], hge, Row.lt (t := 3) hh, h1, h2, .inr ⟨g, 0, rfl, Row.lt (t := 3) hh, fun j hj => ?_⟩⟩
    have := hown.cells (g := g) rfl j _ (by first | exact HR.out j hj | (rw [List.nil_append]; exact HR.out j hj))
    rwa [show (⟨g, 0, none⟩ : Addr).add j = ⟨g, 0 + j, none⟩ by unfold Addr.add; split <;> simp_all] at this
 have HB := Lib.hid hb
 clear hown hgrow hnil hb
 go_wp2
 go_ret
 obtain ⟨g, c', rfl, hr⟩ := HE.out
 exact ⟨g, c', rfl, hr.1, hr.2.1, hr.2.2, HB.out⟩
theorem shape_new (cs : Array Value) (S : Nat -> Int) (r : Nat) (ch : Bool) (L : Nat) (g fP : Nat -> Int) (fQ : Nat -> Nat) (w : World) (h : Arr w cs S r ch L g fP fQ) (hr : r <= 8) :
    Calls Tryz.prog 40 #[.agg cs] w fun e w' => ∃ g c', e = .returned (.slice (some ⟨g, 0, none⟩) r c') /\ w.heap.size <= g /\ g < w'.heap.size /\ KRow w' .i64 (some ⟨g, 0, none⟩) r c' S /\ Below w.heap.size w w' := by
 obtain ⟨na, nn, nc, ta, tn, tc, rfl, _⟩ := h.form
 have RK := Lib.hid (fun wz => rank_any ch (dm S r) r na nn nc ta tn tc wz (by omega))
 have CL := Lib.hid (fun a c wz h => cloneI_some a r c S wz h (by omega))
 have BB := Lib.hid ((Bag.start w).newRow (arrC ch ((r : Int) - 1) (dm S r) na nn nc ta tn tc) 36)
 have HR := Lib.hid BB.out.now.1
 have h0 : (0 : Int) <= r := by omega
 have h8 : (r : Int) <= 8 := by omega
 clear h
 unfold arrC
 go_enter Tryz.func40, Tryz.ntmps40
 go_wp2_with (refine ld_arr rfl (.tmp 1) rfl w.heap.size rfl HR.out ?_)
 go_at_call 95
 (with_reducible refine (RK.out _).mono ?_)
 rintro e w2 ⟨rfl, hb2⟩
 have BB := Lib.hid (BB.out.go hb2)
 clear hb2
 go_wp2_with fail
 go_at_call 94
 (with_reducible refine (CL.out _ _ _ ?_).mono ?_)
 · exact KRow.of_box BB.out.now.1 hr
 rintro e w3 ⟨g3, c3, rfl, hg3, hg4, hk3, hb3⟩
 have HE : Hid (w.heap.size <= g3 /\ g3 < w3.heap.size /\ KRow w3 .i64 (some ⟨g3, 0, none⟩) r c3 S /\ Below w.heap.size w w3) := ⟨Nat.le_trans BB.out.below.size hg3, hg4, hk3, (BB.out.go hb3).below⟩
 clear hk3 hb3 hg3 hg4
 go_wp2
 go_ret
 exact ⟨_, _, rfl, HE.out⟩
theorem Scr.cell {gb nb : Nat} {w wz : World} (h : Scr gb nb w wz) {p : Addr} (hl : p.block < w.heap.size) (hne : p.block ≠ gb) : wz.cell? p = w.cell? p := World.cell?_of_block (h.1.block _ hl hne)
theorem Scr.krow {gb nb g n c : Nat} {f : Nat -> Int} {w wz : World} (h : Scr gb nb w wz) (q : KRow w .i64 (some ⟨g, 0, none⟩) n c f) (hne : g ≠ gb) : KRow wz .i64 (some ⟨g, 0, none⟩) n c f := by
 refine ⟨q.1, q.2.1, q.2.2.imp id ?_⟩
 rintro ⟨b, off, e, hl, hc⟩
 cases e
 exact ⟨_, _, rfl, Nat.lt_of_lt_of_le hl h.1.size, fun j hj => (h.cell (p := ⟨g, 0 + j, none⟩) hl hne).trans (hc j hj)⟩
end Go.Proofs.YtnpoakaffafdiaaGreatDoor
namespace Go.Proofs.YtnpoakaffafdiaaGreatDoor
open Go.RowKit
attribute [local go_sem ↓] Go.wp_at_zero Go.wp_at_succ
theorem IBox.setAt {w : World} {g n : Nat} {f : Nat -> Int} {p : Addr} {x : Value} (h : IBox w g n f) (hp : w.cell? p = some x) (hx : ∀ z, x ≠ .int .i64 z) (v : Value) : IBox (w.setCell p v) g n f := by
 refine ⟨by simpa using h.1, h.2.1.set _ _, fun j hj => ?_⟩
 rw [World.cell?_setCell_other _ _ _ _ (fun e => by subst e; rw [h.2.2 j hj] at hp; exact hx _ (Option.some.inj hp).symm)]
 exact h.2.2 j hj
def pkE (T : Nat -> Int) (r : Nat) : Int := if shB T r then 0 else 26
def lnF (N : Nat -> Nat) : Nat -> Int := fun j => (N j : Int)
theorem infoL : (Tryz.prog.info? 22).map (fun i => (i.zero, i.size, i.bytes)) = some (some (.slice none 0 0), 1, 24) := by kernel_rfl
end Go.Proofs.YtnpoakaffafdiaaGreatDoor
namespace Go.Proofs.YtnpoakaffafdiaaGreatDoor
open Go.RowKit
def spF (d st : Nat -> Int) : Nat -> Int
 | 0 => 0
 | n + 1 => spF d st n + d n * st n
theorem sp_congr {d d' st st' : Nat -> Int} : ∀ {n : Nat}, (∀ j, j < n -> d j = d' j /\ st j = st' j) -> spF d st n = spF d' st' n
 | 0, _ => rfl
 | n + 1, h => by
  show spF d st n + d n * st n = spF d' st' n + d' n * st' n
  rw [sp_congr (fun j hj => h j (by omega)), (h n (by omega)).1, (h n (by omega)).2]
theorem sp_mul {d st : Nat -> Int} (c : Int) : ∀ n, spF d (fun j => st j * c) n = spF d st n * c
 | 0 => by show (0 : Int) = 0 * c; rw [Int.zero_mul]
 | n + 1 => by
  show spF d (fun j => st j * c) n + d n * (st n * c) = (spF d st n + d n * st n) * c
  rw [sp_mul c n, Int.add_mul, Int.mul_assoc]
theorem st_low {S : Nat -> Int} {n j : Nat} (hj : j < n) : stF S (n + 1) j = stF S n j * S n := by
 show itm (shf S (j + 1)) (n + 1 - (j + 1)) = itm (shf S (j + 1)) (n - (j + 1)) * S n
 rw [show n + 1 - (j + 1) = (n - (j + 1)) + 1 by omega]
 show itm (shf S (j + 1)) (n - (j + 1)) * S (j + 1 + (n - (j + 1))) = _
 rw [show j + 1 + (n - (j + 1)) = n by omega]
theorem st_top (S : Nat -> Int) (n : Nat) : stF S (n + 1) n = 1 := by
 show itm (shf S (n + 1)) (n + 1 - (n + 1)) = 1
 rw [Nat.sub_self]; rfl
theorem sp_plc (S d : Nat -> Int) : ∀ n, spF d (stF S n) n = plc S d n
 | 0 => rfl
 | n + 1 => by
  show spF d (stF S (n + 1)) n + d n * stF S (n + 1) n = plc S d n * S n + d n
  rw [st_top, Int.mul_one, sp_congr (d' := d) (st' := fun j => stF S n j * S n) (fun j hj => ⟨rfl, st_low hj⟩), sp_mul, sp_plc S d n]
def cbF (T : Nat -> Nat) (F : Nat -> Nat -> Int) (st : Nat -> Int) : Nat -> Nat -> Int
 | 0, _ => 0
 | i + 1, k => cbF T F st i (k / T i) + F i (k % T i) * st i
theorem cb_sp {T : Nat -> Nat} {F : Nat -> Nat -> Int} {st : Nat -> Int} : ∀ (n k : Nat), cbF T F st n k = spF (pkI F (dgs (lnF T) n (k : Nat))) st n
 | 0, _ => rfl
 | n + 1, k => by
  show cbF T F st n (k / T n) + F n (k % T n) * st n = spF (pkI F (dgs (lnF T) (n + 1) (k : Nat))) st n + F n (dgs (lnF T) (n + 1) (k : Nat) n).toNat * st n
  have e0 : (lnF T n) = ((T n : Nat) : Int) := rfl
  have e1 : spF (pkI F (dgs (lnF T) (n + 1) (k : Nat))) st n = spF (pkI F (dgs (lnF T) n ((k / T n : Nat) : Int))) st n := sp_congr (fun j hj => ⟨by
   show F j (dgs (lnF T) (n + 1) (k : Nat) j).toNat = F j (dgs (lnF T) n ((k / T n : Nat) : Int) j).toNat
   rw [dgs_low _ hj, e0, ← Int.natCast_ediv], rfl⟩)
  rw [e1, dgs_top, e0, show (((k : Nat) : Int) % ((T n : Nat) : Int)).toNat = k % T n by rw [← Int.natCast_emod]; rfl, cb_sp n (k / T n)]
theorem cb_step {T : Nat -> Nat} {F : Nat -> Nat -> Int} {st : Nat -> Int} {i k m : Nat} (hm : m < T i) : cbF T F st (i + 1) (k * T i + m) = cbF T F st i k + F i m * st i := by
 show cbF T F st i ((k * T i + m) / T i) + F i ((k * T i + m) % T i) * st i = _
 rw [(wv_dm hm).1, (wv_dm hm).2]
def InAx (S : Nat -> Int) (T : Nat -> Nat) (F : Nat -> Nat -> Int) (n : Nat) : Prop := ∀ j, j < n -> ∀ q, q < T j -> 0 <= F j q /\ F j q < S j
theorem ia_in {S : Nat -> Int} {T : Nat -> Nat} {F : Nat -> Nat -> Int} {n k : Nat} (h : InAx S T F n) (hT : axB (lnF T) n = true) (hk : (k : Int) < itm (lnF T) n) : inB S (pkI F (dgs (lnF T) n (k : Nat))) n = true := by
 have h1 := itm_pos hT (show (0 : Int) <= (k : Nat) by omega) hk
 obtain ⟨h2, _⟩ := dgs_in h1 (show (0 : Int) <= (k : Nat) by omega) hk
 have e : ∀ m, m <= n -> inB S (pkI F (dgs (lnF T) n (k : Nat))) m = true := fun m => by
  induction m with
  | zero => intro _; rfl
  | succ m ih =>
   intro hm
   have h3 := inB_at h2 (show m < n by omega)
   have h4 := h m (by omega) (dgs (lnF T) n (k : Nat) m).toNat (by have : lnF T m = (T m : Int) := rfl; omega)
   show (inB S _ m && (decide (0 <= F m _) && decide (F m _ < S m))) = true
   rw [ih (by omega), decide_eq_true h4.1, decide_eq_true h4.2]; rfl
 exact e n (Nat.le_refl _)
theorem cb_pk {S : Nat -> Int} {T : Nat -> Nat} {F : Nat -> Nat -> Int} {n k : Nat} (h : InAx S T F n) (hT : axB (lnF T) n = true) (hk : (k : Int) < itm (lnF T) n) : cbF T F (stF S n) n k = pkG S (lnF T) n F k := by
 unfold pkG
 rw [if_pos (ia_in h hT hk), cb_sp, sp_plc]
theorem cb_bd {T : Nat -> Nat} {F : Nat -> Nat -> Int} {st : Nat -> Int} : ∀ {n : Nat} (k : Nat), (∀ j, j < n -> 0 < T j) -> (∀ j, j < n -> 0 <= st j /\ st j <= 4096) -> (∀ j, j < n -> ∀ q, q < T j -> 0 <= F j q /\ F j q <= 4096) -> 0 <= cbF T F st n k /\ cbF T F st n k <= (n : Int) * 16777216
 | 0, _, _, _, _ => by show (0 : Int) <= 0 /\ (0 : Int) <= ((0 : Nat) : Int) * 16777216; omega
 | n + 1, k, h0, h1, h2 => by
  obtain ⟨i1, i2⟩ := cb_bd (n := n) (k / T n) (fun j hj => h0 j (by omega)) (fun j hj => h1 j (by omega)) (fun j hj => h2 j (by omega))
  obtain ⟨f1, f2⟩ := h2 n (by omega) (k % T n) (Nat.mod_lt _ (h0 n (by omega)))
  obtain ⟨s1, s2⟩ := h1 n (by omega)
  have h3 : 0 <= F n (k % T n) * st n := Int.mul_nonneg f1 s1
  have h4 : F n (k % T n) * st n <= 4096 * 4096 := Int.mul_le_mul f2 s2 s1 (by omega)
  show 0 <= cbF T F st n (k / T n) + F n (k % T n) * st n /\ cbF T F st n (k / T n) + F n (k % T n) * st n <= ((n + 1 : Nat) : Int) * 16777216
  push_cast
  omega
theorem ax_ln {T : Nat -> Nat} {n i : Nat} (h : axB (lnF T) n = true) (hi : i < n) : ∃ M : Nat, itm (lnF T) i = (M : Nat) /\ itm (lnF T) (i + 1) = ((M * T i : Nat) : Int) /\ M <= 4096 /\ M * T i <= 4096 /\ T i <= 4096 := by
 have h1 := ax_bd (ax_le (show i <= n by omega) h)
 have h2 := ax_bd (ax_le (show i + 1 <= n by omega) h)
 have e : itm (lnF T) (i + 1) = itm (lnF T) i * (T i : Int) := rfl
 have h3 := rm_pos (lnF T) i
 have h4 : 1 * max (lnF T i) 1 <= rm (lnF T) i * max (lnF T i) 1 := Int.mul_le_mul h3 (Int.le_refl _) (by omega) (by omega)
 have h5 : rm (lnF T) (i + 1) = rm (lnF T) i * max (lnF T i) 1 := rfl
 have h6 : lnF T i = (T i : Int) := rfl
 obtain ⟨M, hM⟩ : ∃ M : Nat, itm (lnF T) i = (M : Nat) := ⟨(itm (lnF T) i).toNat, by omega⟩
 have e2 : itm (lnF T) (i + 1) = ((M * T i : Nat) : Int) := by rw [e, hM, Int.natCast_mul]
 rw [e2] at h2
 exact ⟨M, hM, e2, by omega, by omega, by omega⟩
def Sb : Type := Bool × (Nat -> Int) × Nat × Bool × Nat × (Nat -> Int) × (Nat -> Int) × (Nat -> Nat)
def Sb.al (d : Sb) : Bool := d.1
def Sb.S (d : Sb) : Nat -> Int := d.2.1
def Sb.r (d : Sb) : Nat := d.2.2.1
def Sb.ch (d : Sb) : Bool := d.2.2.2.1
def Sb.L (d : Sb) : Nat := d.2.2.2.2.1
def Sb.g (d : Sb) : Nat -> Int := d.2.2.2.2.2.1
def Sb.P (d : Sb) : Nat -> Int := d.2.2.2.2.2.2.1
def Sb.Q (d : Sb) : Nat -> Nat := d.2.2.2.2.2.2.2
def Sb.ok (d : Sb) : Prop := shB d.S d.r = true /\ itm d.S d.r = (d.L : Nat) /\ d.L <= 4096 /\ (d.ch = false -> ∀ j, j < d.L -> 0 < d.Q j)
def Sb.n (d : Sb) (s : Int) : Nat := if d.al then s.toNat else d.L
def Sb.F (d : Sb) (o : Int) (q : Nat) : Int := if d.al then (q : Int) else d.P q - o
def Sb.k (d : Sb) : Nat := if d.al then 1 else d.r
def Sb.T (d : Sb) (s : Int) : Nat -> Int := if d.al then fun _ => s else d.S
def Sb.wh (d : Sb) : Bool := d.al || whC d.ch d.L d.P d.Q
def inAll (o s : Int) (P : Nat -> Int) : Nat -> Bool
 | 0 => true
 | k + 1 => inAll o s P k && (decide (o <= P k) && decide (P k - o < s))
def Sb.is (d : Sb) (o s : Int) : Bool := d.al || inAll o s d.P d.L
theorem inAll_iff {o s : Int} {P : Nat -> Int} : ∀ {n : Nat}, inAll o s P n = true ↔ ∀ j, j < n -> o <= P j /\ P j - o < s
 | 0 => ⟨fun _ j hj => absurd hj (Nat.not_lt_zero _), fun _ => rfl⟩
 | n + 1 => by
  constructor
  · intro h j hj
    have h : (inAll o s P n && (decide (o <= P n) && decide (P n - o < s))) = true := h
    rw [Bool.and_eq_true, Bool.and_eq_true, decide_eq_true_eq, decide_eq_true_eq] at h
    by_cases e : j = n
    · subst e; exact h.2
    · exact inAll_iff.1 h.1 j (by omega)
  · intro h
    show (inAll o s P n && (decide (o <= P n) && decide (P n - o < s))) = true
    rw [inAll_iff.2 (fun j hj => h j (by omega)), decide_eq_true (h n (by omega)).1, decide_eq_true (h n (by omega)).2]; rfl
def allB (p : Nat -> Bool) : Nat -> Bool
 | 0 => true
 | k + 1 => allB p k && p k
theorem allB_iff {p : Nat -> Bool} : ∀ {n : Nat}, allB p n = true ↔ ∀ j, j < n -> p j = true
 | 0 => ⟨fun _ j hj => absurd hj (Nat.not_lt_zero _), fun _ => rfl⟩
 | n + 1 => by
  constructor
  · intro h j hj
    have h : (allB p n && p n) = true := h
    rw [Bool.and_eq_true] at h
    by_cases e : j = n
    · subst e; exact h.2
    · exact allB_iff.1 h.1 j (by omega)
  · intro h
    show (allB p n && p n) = true
    rw [allB_iff.2 (fun j hj => h j (by omega)), h n (by omega)]; rfl
theorem allB_no {p : Nat -> Bool} {n k : Nat} (hk : k < n) (h : p k = false) : allB p n = false := by
 cases hx : allB p n with
 | false => rfl
 | true => rw [allB_iff.1 hx k hk] at h; cases h
def ixN (S : Nat -> Int) (D : Nat -> Sb) : Nat -> Nat := fun j => (D j).n (S j)
def ixF (o : Int) (D : Nat -> Sb) : Nat -> Nat -> Int := fun j q => (D j).F o q
def ixK (D : Nat -> Sb) : Nat -> Nat := fun j => (D j).k
def ixS (S : Nat -> Int) (D : Nat -> Sb) : Nat -> Nat -> Int := fun j => (D j).T (S j)
def ixR (D : Nat -> Sb) (n : Nat) : Nat := tot (ixK D) n
def ixT (S : Nat -> Int) (D : Nat -> Sb) (n : Nat) : Nat -> Int := cat (ixK D) (ixS S D) n
def ixE (o : Int) (S : Nat -> Int) (r : Nat) (D : Nat -> Sb) (n : Nat) : Int :=
 if n ≠ r then 23 else if allB (fun j => (D j).wh) n = false then 22 else if allB (fun j => (D j).is o (S j)) n = false then 25 else if 8 < ixR D n then 23 else pkE (ixT S D n) (ixR D n)
theorem app_parts (f : Nat -> Int) (n : Nat) (g : Nat -> Int) (m : Nat) : (∀ j, j < n -> app f n g j = f j) /\ ∀ j, j < m -> shf (app f n g) n j = g j :=
 ⟨fun j hj => by unfold app; rw [if_pos hj], fun j _ => by
   show app f n g (n + j) = g j
   unfold app
   rw [if_neg (by omega), show n + j - n = j by omega]⟩
theorem itm_app (f : Nat -> Int) (n : Nat) (g : Nat -> Int) (m : Nat) : itm (app f n g) (n + m) = itm f n * itm g m := by
 obtain ⟨h1, h2⟩ := app_parts f n g m
 rw [itm_add, itm_congr h1, itm_congr h2]
theorem rm_app (f : Nat -> Int) (n : Nat) (g : Nat -> Int) (m : Nat) : rm (app f n g) (n + m) = rm f n * rm g m := by
 obtain ⟨h1, h2⟩ := app_parts f n g m
 rw [rm_add, rm_congr h1, rm_congr h2]
theorem Sb.rooms {d : Sb} (h : d.ok) {s : Int} (hs : 0 <= s) : itm (d.T s) d.k = ((d.n s : Nat) : Int) /\ max ((d.n s : Nat) : Int) 1 <= rm (d.T s) d.k /\ ∀ j, j < d.k -> 0 <= d.T s j := by
 unfold Sb.T Sb.k Sb.n
 cases d.al with
 | true =>
  rw [if_pos rfl, if_pos rfl, if_pos rfl]
  refine ⟨?_, ?_, fun j _ => hs⟩
  · show 1 * s = _; omega
  · show _ <= 1 * max s 1; omega
 | false =>
  rw [if_neg (by decide), if_neg (by decide), if_neg (by decide)]
  obtain ⟨h1, h2, _⟩ := h
  have h3 := ax_bd (sh_ax h1).2
  exact ⟨h2, by omega, fun j hj => ax_nn (sh_ax h1).2 hj⟩
theorem ix_rooms {S : Nat -> Int} {D : Nat -> Sb} : ∀ {n : Nat}, (∀ j, j < n -> (D j).ok /\ 0 <= S j) -> itm (ixT S D n) (ixR D n) = itm (lnF (ixN S D)) n /\ rm (lnF (ixN S D)) n <= rm (ixT S D n) (ixR D n) /\ ∀ j, j < ixR D n -> 0 <= ixT S D n j
 | 0, _ => ⟨rfl, Int.le_refl _, fun j hj => absurd hj (Nat.not_lt_zero _)⟩
 | n + 1, h => by
  obtain ⟨i1, i2, i3⟩ := ix_rooms (n := n) (fun j hj => h j (by omega))
  obtain ⟨h1, h2, h3⟩ := Sb.rooms (h n (by omega)).1 (h n (by omega)).2
  have e : ixT S D (n + 1) = app (ixT S D n) (ixR D n) ((D n).T (S n)) := rfl
  have e2 : ixR D (n + 1) = ixR D n + (D n).k := rfl
  have e3 : itm (lnF (ixN S D)) (n + 1) = itm (lnF (ixN S D)) n * (((D n).n (S n) : Nat) : Int) := rfl
  have e4 : rm (lnF (ixN S D)) (n + 1) = rm (lnF (ixN S D)) n * max (((D n).n (S n) : Nat) : Int) 1 := rfl
  rw [e, e2, itm_app, rm_app, e3, e4, i1, h1]
  refine ⟨rfl, Int.mul_le_mul i2 h2 (by omega) (by have := rm_pos (ixT S D n) (ixR D n); omega), fun j hj => ?_⟩
  unfold app
  split
  · exact i3 j (by assumption)
  · exact h3 _ (by omega)
theorem ix_ax {S : Nat -> Int} {D : Nat -> Sb} {n : Nat} (h : ∀ j, j < n -> (D j).ok /\ 0 <= S j) (hT : shB (ixT S D n) (ixR D n) = true) : axB (lnF (ixN S D)) n = true /\ itm (ixT S D n) (ixR D n) = itm (lnF (ixN S D)) n := by
 obtain ⟨h1, h2, _⟩ := ix_rooms h
 have h3 := (ax_iff.1 (sh_ax hT).2).2
 exact ⟨ax_iff.2 ⟨fun j _ => by show (0 : Int) <= ((ixN S D j : Nat) : Int); omega, by omega⟩, h1⟩
theorem ix_in {o : Int} {S : Nat -> Int} {D : Nat -> Sb} {n : Nat} (h : allB (fun j => (D j).is o (S j)) n = true) : InAx S (ixN S D) (ixF o D) n := fun j hj q hq => by
 have h1 := allB_iff.1 h j hj
 unfold ixF Sb.F
 unfold ixN Sb.n at hq
 unfold Sb.is at h1
 cases hx : (D j).al with
 | true =>
  rw [hx] at hq
  rw [if_pos rfl] at hq ⊢
  omega
 | false =>
  rw [hx] at hq h1
  rw [if_neg (by decide)] at hq ⊢
  rw [Bool.false_or] at h1
  have := inAll_iff.1 h1 q hq
  omega
def OwnI (y0 w : World) (a : Option Addr) (k c : Nat) (f : Nat -> Int) : Prop := Below y0.heap.size y0 w /\ w.ownsRow y0.heap.size 3 1 (.slice a k c) k (kcs .i64 f k)
theorem OwnI.nil (y0 : World) (f : Nat -> Int) : OwnI y0 y0 none 0 0 f := ⟨Below.refl _ _, World.ownsRow_nil _ _ _ _⟩
theorem OwnI.go {y0 w w' : World} {a : Option Addr} {k c : Nat} {f : Nat -> Int} (h : OwnI y0 w a k c f) (hb : Below w.heap.size w w') : OwnI y0 w' a k c f := ⟨h.1.trans (hb.mono h.1.size), own_below h.2 hb⟩
theorem OwnI.krow {y0 w : World} {a : Option Addr} {k c : Nat} {f : Nat -> Int} (h : OwnI y0 w a k c f) : KRow w .i64 a k c f := by
 obtain ⟨a', c', e, q⟩ := KRow.of_own h.2
 cases e
 exact q
theorem app1_step {y0 wr : World} {a : Option Addr} {k c : Nat} {f : Nat -> Int} (h : OwnI y0 wr a k c f) {x : Int} (hx : x = f k) (hk : k + 1 <= 1000000) :
    ∃ a' c' y1, (Builtin.append_ #[22, 22] 22 #[.slice a k c, .slice (some ⟨wr.heap.size, 0, none⟩) 1 1]).run Tryz.prog (wr.alloc (.cells #[.int .i64 x] 3)) = .ok (.slice a' (k + 1) c') y1 /\ OwnI y0 y1 a' (k + 1) c' f := by
 have hb : Below wr.heap.size wr (wr.alloc (.cells #[.int .i64 x] 3)) := (Below.refl _ _).alloc (Nat.le_refl _) _
 have h2 := own_below h.2 hb
 obtain ⟨v', w', e1, e2, e3⟩ := run_append_krow 22 y0.heap.size (.slice a k c) k _ h2 (some ⟨wr.heap.size, 0, none⟩) 1 1 (fun _ => x) (KRow.one' wr .i64 x 3) (fun e => by cases e) hk (by have := h.1.size; rw [World.size_alloc]; omega)
 have e4 : kcs .i64 f k ++ kcs .i64 (fun _ => x) 1 = kcs .i64 f (k + 1) := by rw [hx]; rfl
 rw [e4] at e2
 obtain ⟨a', c', rfl, _⟩ := KRow.of_own e2
 refine ⟨a', c', w', e1, ?_, e2⟩
 refine (h.1.trans (hb.mono h.1.size)).trans ⟨e3.os, e3.tape, e3.output, e3.size, fun j hj => e3.block j (Nat.lt_of_lt_of_le hj (by have := h.1.size; rw [World.size_alloc]; omega)) (fun e => ?_)⟩
 have := (h2.lt j e.symm).1
 omega
theorem nnO_le (ch : Bool) (L : Nat) : nnO ch L <= L /\ tnO ch L <= L := by unfold nnO tnO; cases ch <;> simp
theorem Pln.put {w : World} {cs : Array Value} {S : Nat -> Int} {r : Nat} {ch : Bool} {L : Nat} {g : Nat -> Int} {fB : Nat -> Bool} {fS fT : Nat -> ByteArray} (h : Pln w cs S r ch L g fB fS fT) {k : Nat} {t : TypeId} (hr : Row w k t plZer) (cs' : Array Value) : Pln (w.setRow k cs') cs S r ch L g fB fS fT := PlnAt.away h hr (noInt_pl _ _ _ _ _ _ _ _ _ _) (noStr_pl _ _ _ _ _ _ _ _ _ _) (Far.setRow _ _ _)
def PoTold (E : Int) (S : Nat -> Int) (r : Nat) (ch : Bool) (L : Nat) (g : Nat -> Int) (fB : Nat -> Bool) (fS fT : Nat -> ByteArray) (w w' : World) (e : Ending) : Prop :=
 ∃ cs, e = .returned (.tuple #[.agg cs, .int .i64 E]) /\ (E = 0 -> Pln w' cs S r ch L g fB fS fT) /\ (E ≠ 0 -> cs = plZer) /\ Below w.heap.size w w'
theorem PoTold.no {E : Int} (hE : E ≠ 0) {S : Nat -> Int} {r : Nat} {ch : Bool} {L : Nat} {g : Nat -> Int} {fB : Nat -> Bool} {fS fT : Nat -> ByteArray} {w w' : World} (hb : Below w.heap.size w w') : PoTold E S r ch L g fB fS fT w w' (.returned (.tuple #[.agg plZer, .int .i64 E])) :=
 ⟨plZer, rfl, fun e => absurd e hE, fun _ => rfl, hb⟩
theorem PoTold.yes {S : Nat -> Int} {r : Nat} {ch : Bool} {L : Nat} {g : Nat -> Int} {fB : Nat -> Bool} {fS fT : Nat -> ByteArray} {w w' : World} {cs : Array Value} (h : Pln w' cs S r ch L g fB fS fT) (hb : Below w.heap.size w w') : PoTold 0 S r ch L g fB fS fT w w' (.returned (.tuple #[.agg cs, .int .i64 0])) :=
 ⟨cs, rfl, fun _ => h, fun e => absurd rfl e, hb⟩
theorem Pln.form {w : World} {cs : Array Value} {S : Nat -> Int} {r : Nat} {ch : Bool} {L : Nat} {g : Nat -> Int} {fB : Nat -> Bool} {fS fT : Nat -> ByteArray} (h : Pln w cs S r ch L g fB fS fT) : ∃ sa sc ta tc na nc, cs = plC sa r sc ch ta (tnO ch L) tc na (nnO ch L) nc /\ KRow w .i64 sa r sc S := by
 obtain ⟨sa, sc, ta, tc, na, nc, e, h1, _⟩ := h
 exact ⟨sa, sc, ta, tc, na, nc, e, h1⟩
end Go.Proofs.YtnpoakaffafdiaaGreatDoor
namespace Go.Proofs.YtnpoakaffafdiaaGreatDoor
open Go.RowKit
attribute [local go_sem ↓] Go.wp_at_zero Go.wp_at_succ
def subC (al ch : Bool) (more : Int) (d : Nat -> Int) (na : Option Addr) (nn nc : Nat) (ta : Option Addr) (tn tc : Nat) : Array Value :=
 #[.bool al, .bool ch, .int .i64 more, .int .i64 (d 0), .int .i64 (d 1), .int .i64 (d 2), .int .i64 (d 3), .int .i64 (d 4), .int .i64 (d 5), .int .i64 (d 6), .int .i64 (d 7), .slice na nn nc, .slice ta tn tc]
theorem sub13 : (Tryz.prog.info? 79).map (·.size) = some 13 := by kernel_rfl
theorem irun_any (M : Nat) (w : World) (hM : M <= 1000000) :
    Calls Tryz.prog 141 #[.int .i64 M] w fun e w' => e = .returned (.slice (some ⟨w.heap.size, 0, none⟩) M M) /\ KRow w' .i64 (some ⟨w.heap.size, 0, none⟩) M M (fun j => (j : Int)) /\ Below w.heap.size w w' := by
 obtain ⟨i0, hi, hz0, hz1, hz2⟩ := info_parts infoI
 have hmk := fun wz => run_make (P := Tryz.prog) wz 22 3 i0 _ Tryz.underlying22 hi hz0 .i64 .i64 M M (by omega) (by omega) (by rw [hz2]; omega) (by omega)
 simp only [Int.toNat_natCast, hz1, Nat.mul_one] at hmk
 have H0 : Hid (Below w.heap.size w (w.alloc (.cells (madeCells (Value.cells (.int .i64 0)) M) 3)) /\ KTo (w.alloc (.cells (madeCells (Value.cells (.int .i64 0)) M) 3)) w.heap.size M 0 (fun j => (j : Int))) :=
  Lib.hid ⟨(Below.refl _ _).alloc (Nat.le_refl _) _, KTo.made w M 3 _ rfl⟩
 have hMn : (0 : Int) <= M := by omega
 clear hi hz0 hz1 hz2
 go_enter Tryz.func141, Tryz.ntmps141
 go_wp2_with fail
 go_loopw [9] (fun i wr => ∃ k : Nat, k <= M /\ i = .int .i64 k /\ Hid (Below w.heap.size w wr /\ KTo wr w.heap.size M k (fun j => (j : Int)))) (fun i _ => M - (intOf i).toNat)
 case atStart => exact ⟨0, by omega, rfl, H0.out⟩
 case round =>
  obtain ⟨k, hk, rfl, hrel⟩ := hrel
  obtain ⟨hbl, hto⟩ := hrel.out
  by_cases hlt : k < M
  · have hk0 : (0 : Int) <= k := by omega
    have hk1 : (k : Int) < M := by omega
    obtain ⟨⟨z0, x1⟩, y1⟩ := hto.place hlt
    have HN : Hid (Below w.heap.size w (wr.setCell ⟨w.heap.size, k, none⟩ (.int .i64 (k : Int))) /\ KTo (wr.setCell ⟨w.heap.size, k, none⟩ (.int .i64 (k : Int))) w.heap.size M (k + 1) (fun j => (j : Int))) :=
     Lib.hid ⟨hbl.setCell (p := ⟨w.heap.size, k, none⟩) (Nat.le_refl _) _, hto.step hlt⟩
    clear hrel hbl hto
    go_wp2
    go_roundw
    case rel => exact ⟨k + 1, by omega, by go_num, HN.out⟩
    case measure => simp [intOf]; omega
  · obtain rfl : k = M := by omega
    have HE : Hid (KRow wr .i64 (some ⟨w.heap.size, 0, none⟩) k k (fun j => (j : Int)) /\ Below w.heap.size w wr) := Lib.hid ⟨hto.done (by unfold maxLen; omega), hbl⟩
    clear hrel hbl hto
    go_wp2
    go_ret
    exact ⟨rfl, HE.out⟩
def PsTold (b : Bool) (n : Nat) (f : Nat -> Int) (w w' : World) (e : Ending) : Prop :=
 ∃ a m c, e = .returned (.tuple #[.slice a m c, .bool b]) /\ (if b then m = n /\ KRow w' .i64 a n c f /\ ∃ x, a = some x else a = none /\ m = 0 /\ c = 0) /\ Below w.heap.size w w'
theorem inAll_no {o s : Int} {P : Nat -> Int} {n k : Nat} (hk : k < n) (h : ¬ (o <= P k /\ P k - o < s)) : inAll o s P n = false := by
 cases hx : inAll o s P n with
 | false => rfl
 | true => exact absurd (inAll_iff.1 hx k hk) h
theorem positionsA_any (ch : Bool) (more : Int) (d : Nat -> Int) (na : Option Addr) (nn nc : Nat) (ta : Option Addr) (tn tc : Nat) (aN : Option Addr) (m cN : Nat) (o : Int) (M : Nat) (w : World) (hM : M <= 1000000) :
    Calls Tryz.prog 89 #[.agg (subC true ch more d na nn nc ta tn tc), .slice aN m cN, .int .i64 o, .int .i64 M] w fun e w' => PsTold true M (fun j => (j : Int)) w w' e := by
 have RN := Lib.hid (fun wz => irun_any M wz hM)
 have BB := Lib.hid ((Bag.start w).newRow (subC true ch more d na nn nc ta tn tc) 79)
 unfold subC at BB
 unfold subC
 have h0 : (w.alloc (.cells #[.bool true, .bool ch, .int .i64 more, .int .i64 (d 0), .int .i64 (d 1), .int .i64 (d 2), .int .i64 (d 3), .int .i64 (d 4), .int .i64 (d 5), .int .i64 (d 6), .int .i64 (d 7), .slice na nn nc, .slice ta tn tc] 79)).cell? ⟨w.heap.size, 0, none⟩ = some (.bool true) := BB.out.now.1.cell 0
 clear hM
 go_enter Tryz.func89, Tryz.ntmps89
 go_wp2_with fail
 go_at_call 141
 (with_reducible refine (RN.out _).mono ?_)
 rintro e w2 ⟨rfl, hk, hb⟩
 have HE := Lib.hid (And.intro hk (BB.out.go hb).below)
 have HT : Hid (PsTold true M (fun j => (j : Int)) w w2 (.returned (.tuple #[.slice (some ⟨(w.alloc (.cells (subC true ch more d na nn nc ta tn tc) 79)).heap.size, 0, none⟩) M M, .bool true]))) := Lib.hid ⟨_, _, _, rfl, by rw [if_pos rfl]; exact ⟨rfl, HE.out.1, _, rfl⟩, HE.out.2⟩
 unfold subC at HT
 clear hk hb h0 HE
 go_wp2
 exact bodyPost_ret (by simp [results, Tryz.results89, go_sem]) rfl HT.out
theorem positionsN_any (ch : Bool) (more : Int) (d : Nat -> Int) (na : Option Addr) (nn nc : Nat) (ta : Option Addr) (tn tc : Nat) (aN : Option Addr) (m cN : Nat) (P : Nat -> Int) (o : Int) (s : Int) (w : World) (h : KRow w .i64 aN m cN P) (hP : In64 P m) (hm : m <= 1000000) (ho : 0 <= o /\ o <= 1) (hs : 0 <= s /\ s <= 4096) :
    Calls Tryz.prog 89 #[.agg (subC false ch more d na nn nc ta tn tc), .slice aN m cN, .int .i64 o, .int .i64 s] w fun e w' => PsTold (inAll o s P m) m (fun j => P j - o) w w' e := by
 obtain ⟨i0, hi, hz0, hz1, hz2⟩ := info_parts infoI
 have hmk := fun wz => run_make (P := Tryz.prog) wz 22 3 i0 _ Tryz.underlying22 hi hz0 .i64 .i64 m m (by omega) (by omega) (by rw [hz2]; omega) (by omega)
 simp only [Int.toNat_natCast, hz1, Nat.mul_one] at hmk
 have BB := Lib.hid ((Bag.start w).newRow (subC false ch more d na nn nc ta tn tc) 79)
 unfold subC at BB
 unfold subC
 have hl := h.len
 have HP := Lib.hid hP
 have h0 : (w.alloc (.cells #[.bool false, .bool ch, .int .i64 more, .int .i64 (d 0), .int .i64 (d 1), .int .i64 (d 2), .int .i64 (d 3), .int .i64 (d 4), .int .i64 (d 5), .int .i64 (d 6), .int .i64 (d 7), .slice na nn nc, .slice ta tn tc] 79)).cell? ⟨w.heap.size, 0, none⟩ = some (.bool false) := BB.out.now.1.cell 0
 have HK := Lib.hid h
 have H0 : Hid (Below w.heap.size w ((w.alloc (.cells (subC false ch more d na nn nc ta tn tc) 79)).alloc (.cells (madeCells (Value.cells (.int .i64 0)) m) 3)) /\ KTo ((w.alloc (.cells (subC false ch more d na nn nc ta tn tc) 79)).alloc (.cells (madeCells (Value.cells (.int .i64 0)) m) 3)) (w.heap.size + 1) m 0 (fun j => P j - o)) :=
  Lib.hid ⟨((Below.refl _ _).alloc (Nat.le_refl _) _).alloc (by simp) _, by have := KTo.made (w.alloc (.cells (subC false ch more d na nn nc ta tn tc) 79)) m 3 (fun j => P j - o) rfl; rwa [World.size_alloc] at this⟩
 unfold subC at H0
 have hmn : (0 : Int) <= m := by omega
 clear hi hz0 hz1 hz2 h hP BB
 go_enter Tryz.func89, Tryz.ntmps89
 go_wp2_with fail
 go_loopw [22] (fun i wr => ∃ k : Nat, k <= m /\ i = .int .i64 k /\ Hid (Below w.heap.size w wr /\ KTo wr (w.heap.size + 1) m k (fun j => P j - o) /\ inAll o s P k = true)) (fun i _ => m - (intOf i).toNat)
 case atStart => exact ⟨0, by omega, rfl, H0.out.1, H0.out.2, rfl⟩
 case round =>
  obtain ⟨k, hk, rfl, hrel⟩ := hrel
  obtain ⟨hbl, hto, hin⟩ := hrel.out
  by_cases hlt : k < m
  · have hk0 : (0 : Int) <= k := by omega
    have hk1 : (k : Int) < m := by omega
    have hp := HP.out k hlt
    obtain ⟨b, off, rfl, hlb, hc⟩ := (HK.out.below hbl).get hlt
    by_cases hlo : P k < o
    · have HE : Hid (PsTold (inAll o s P m) m (fun j => P j - o) w wr (.returned (.tuple #[.slice none 0 0, .bool false]))) := Lib.hid (by
        rw [inAll_no hlt (by omega)]
        exact ⟨_, _, _, rfl, by rw [if_neg (by decide)]; exact ⟨rfl, rfl, rfl⟩, hbl⟩)
      clear hrel hbl hto hin
      generalize P k = x at *
      go_wp2
      exact bodyPost_ret (by simp [results, Tryz.results89, go_sem]) rfl HE.out
    · have u1 : IntKind.u64.wrap (P k) = P k := IntWalk.u64_in (P k) (by omega)
      have u2 : IntKind.u64.wrap o = o := IntWalk.u64_in o (by omega)
      have u3 : IntKind.u64.wrap s = s := IntWalk.u64_in s (by omega)
      have u4 : IntKind.u64.wrap (P k - o) = P k - o := IntWalk.u64_in (P k - o) (by omega)
      have w4 : IntKind.i64.wrap (P k - o) = P k - o := IntWalk.i64_in (P k - o) (by omega)
      by_cases hhi : P k - o < s
      · obtain ⟨⟨z0, x1⟩, y1⟩ := hto.place hlt
        have HN : Hid (Below w.heap.size w (wr.setCell ⟨w.heap.size + 1, k, none⟩ (.int .i64 (P k - o))) /\ KTo (wr.setCell ⟨w.heap.size + 1, k, none⟩ (.int .i64 (P k - o))) (w.heap.size + 1) m (k + 1) (fun j => P j - o) /\ inAll o s P (k + 1) = true) :=
         Lib.hid ⟨hbl.setCell (p := ⟨w.heap.size + 1, k, none⟩) (Nat.le_succ _) _, hto.step hlt, by
          show (inAll o s P k && (decide (o <= P k) && decide (P k - o < s))) = true
          rw [hin, decide_eq_true (show o <= P k by omega), decide_eq_true hhi]; rfl⟩
        clear hrel hbl hto hin
        generalize P k = x at *
        go_wp2
        go_roundw
        case rel => exact ⟨k + 1, by omega, by go_num, HN.out⟩
        case measure => simp [intOf]; omega
      · have HE : Hid (PsTold (inAll o s P m) m (fun j => P j - o) w wr (.returned (.tuple #[.slice none 0 0, .bool false]))) := Lib.hid (by
          rw [inAll_no hlt (by omega)]
          exact ⟨_, _, _, rfl, by rw [if_neg (by decide)]; exact ⟨rfl, rfl, rfl⟩, hbl⟩)
        clear hrel hbl hto hin
        generalize P k = x at *
        go_wp2
        exact bodyPost_ret (by simp [results, Tryz.results89, go_sem]) rfl HE.out
  · obtain rfl : k = m := by omega
    have HE : Hid (PsTold (inAll o s P k) k (fun j => P j - o) w wr (.returned (.tuple #[.slice (some ⟨w.heap.size + 1, 0, none⟩) k k, .bool true]))) := Lib.hid (by
     rw [hin]
     exact ⟨_, _, _, rfl, by rw [if_pos rfl]; exact ⟨rfl, hto.done (by unfold maxLen; omega), _, rfl⟩, hbl⟩)
    clear hrel hbl hto hin
    go_wp2
    exact bodyPost_ret (by simp [results, Tryz.results89, go_sem]) rfl HE.out
theorem combined_any (a1 : Option Addr) (n c1 : Nat) (st : Nat -> Int) (aL : Option Addr) (cL : Nat) (A : Nat -> Option Addr) (T C : Nat -> Nat) (F : Nat -> Nat -> Int) (M0 : Nat) (w : World) (h1 : KRow w .i64 a1 n c1 st) (hL : LRow w aL n cL A T C F) (hT : axB (lnF T) n = true) (hM0 : itm (lnF T) n = (M0 : Nat))
    (hn : n <= 8) (hst : ∀ j, j < n -> 0 <= st j /\ st j <= 4096) (hF : ∀ j, j < n -> ∀ q, q < T j -> 0 <= F j q /\ F j q <= 4096) :
    Calls Tryz.prog 92 #[.slice a1 n c1, .slice aL n cL] w fun e w' => ∃ a' c', e = .returned (.slice a' M0 c') /\ KRow w' .i64 a' M0 c' (cbF T F st n) /\ Below w.heap.size w w' := by
 have hl := h1.len
 have H1 := Lib.hid h1
 have HL := Lib.hid hL
 have HAX := Lib.hid hT
 have HST := Lib.hid hst
 have HF := Lib.hid hF
 have hlL := hL.1
 have hlM := hL.2.1
 unfold maxLen at hlM
 have H0 : Hid (itm (lnF T) 0 = ((1 : Nat) : Int) /\ Below w.heap.size w (w.alloc (.cells #[.int .i64 0] 3)) /\ KRow (w.alloc (.cells #[.int .i64 0] 3)) .i64 (some ⟨w.heap.size, 0, none⟩) 1 1 (cbF T F st 0)) := Lib.hid (by
  have r1 := Row.new w 3 #[.int .i64 0]
  refine ⟨rfl, (Below.refl _ _).alloc (Nat.le_refl _) _, Nat.le_refl _, by unfold maxLen; omega, .inr ⟨_, 0, rfl, r1.lt, fun j hj => ?_⟩⟩
  obtain rfl : j = 0 := by omega
  exact r1.cell 0)
 clear h1 hL hT hst hF
 go_enter Tryz.func92, Tryz.ntmps92
 go_wp2_with fail
 go_loopw [5, 16] (fun l j wr => ∃ (i M : Nat) (la : Option Addr) (lc : Nat), i <= n /\ j = .int .i64 i /\ l = .slice la M lc /\ Hid (itm (lnF T) i = (M : Nat) /\ Below w.heap.size w wr /\ KRow wr .i64 la M lc (cbF T F st i))) (fun _ j _ => n - (intOf j).toNat)
 case atStart => exact ⟨0, 1, _, 1, by omega, rfl, rfl, H0.out⟩
 case round =>
  obtain ⟨i, M, la, lc, hi, rfl, rfl, hrel⟩ := hrel
  obtain ⟨hM, hbl, hK⟩ := hrel.out
  by_cases hlt : i < n
  · obtain ⟨M', hM1, hMF, hM4, hMF4, hF4⟩ := ax_ln HAX.out hlt
    obtain rfl : M = M' := by rw [hM] at hM1; omega
    obtain ⟨bs, os, ha1, hbs, hcs⟩ := (H1.out.below hbl).get hlt
    subst ha1
    obtain ⟨bL, oL, haL, hbL, hcL, hkL, _⟩ := (HL.out.below hbl).get hlt
    subst haL
    have hlk := hkL.len
    obtain ⟨G, hG⟩ : ∃ G, T i = G := ⟨_, rfl⟩
    rw [hG] at hcL hkL hMF hMF4 hF4 hlk
    have hs := HST.out i hlt
    have HKL := Lib.hid hkL
    have HK := Lib.hid hK
    have HBL := Lib.hid hbl
    have HMF := Lib.hid (And.intro hMF hMF4)
    have HCL := Lib.hid hcL
    have HGG := Lib.hid hG
    have hlen := hK.len
    have HFB : Hid (∀ q, q < G -> 0 <= F i q /\ F i q <= 4096) := Lib.hid (fun q hq => HF.out i hlt q (by rw [hG]; exact hq))
    have HCB : Hid (∀ k, k < M -> 0 < G -> 0 <= cbF T F st i k /\ cbF T F st i k <= 8 * 16777216) := Lib.hid (fun k hk hg => by
     have h0 := itm_pos (ax_le (show i <= n by omega) HAX.out) (show (0 : Int) <= (k : Nat) by omega) (by rw [hM]; omega)
     have := cb_bd (T := T) (F := F) (st := st) (n := i) k (fun j hj => by have := h0 j hj; have e : lnF T j = (T j : Int) := rfl; omega) (fun j hj => HST.out j (by omega)) (fun j hj => HF.out j (by omega))
     omega)
    clear hrel hbl hK hMF hMF4 hM hM1 hcL hkL
    obtain ⟨y0, hy0⟩ : ∃ y0, y0 = wr := ⟨_, rfl⟩
    subst hy0
    generalize hCi : C i = ci at *
    generalize hAi : A i = ai at *
    go_wp2_with fail
    go_loopw [8, 23] (fun v kk wk => ∃ (k : Nat) (a5 : Option Addr) (c5 : Nat), k <= M /\ kk = .int .i64 k /\ v = .slice a5 (k * G) c5 /\ Hid (OwnI y0 wk a5 (k * G) c5 (cbF T F st (i + 1)))) (fun _ kk _ => M - (intOf kk).toNat)
    case atStart => exact ⟨0, none, 0, by omega, rfl, by rw [Nat.zero_mul], by rw [Nat.zero_mul]; exact OwnI.nil _ _⟩
    case round =>
     obtain ⟨k, a5, c5, hk, rfl, rfl, hst⟩ := hrel
     by_cases hkM : k < M
     · have HST2 := Lib.hid hst.out
       have hkF : k * G + G <= M * G := by
        have := Nat.mul_le_mul_right G (show k + 1 <= M by omega)
        rwa [Nat.add_mul, Nat.one_mul] at this
       have hkF4 : k * G + G <= 4096 := by have := HMF.out.2; omega
       have hcl2 := (hst.out.1.cell (p := ⟨bL, oL + i, none⟩) hbL).trans HCL.out
       obtain ⟨bk, ok, hak, hbk, hck⟩ := (HK.out.below hst.out.1).get hkM
       subst hak
       have hlen2 := hst.out.krow.len
       clear hst hkF
       obtain ⟨y1, hy1⟩ : ∃ y1, y1 = wr := ⟨_, rfl⟩
       subst hy1
       generalize hxk : cbF T F st i k = xk at *
       go_wp2_with fail
       go_loopw [8, 32] (fun v mm wm => ∃ (m : Nat) (a6 : Option Addr) (c6 : Nat), m <= G /\ mm = .int .i64 m /\ v = .slice a6 (k * G + m) c6 /\ Hid (OwnI y0 wm a6 (k * G + m) c6 (cbF T F st (i + 1)))) (fun _ mm _ => G - (intOf mm).toNat)
       case atStart => exact ⟨0, _, _, by omega, rfl, rfl, HST2.out⟩
       case round =>
        obtain ⟨m, a6, c6, hm, rfl, rfl, hst⟩ := hrel
        by_cases hmG : m < G
        · obtain ⟨bm, om, ham, hbm, hcm⟩ := (HKL.out.below hst.out.1).get hmG
          subst ham
          have hx := HFB.out m hmG
          have hy := HCB.out k hkM (by omega)
          rw [hxk] at hy
          have hxy : 0 <= F i m * st i /\ F i m * st i <= 16777216 := by
           have h3 : 0 <= F i m * st i := Int.mul_nonneg hx.1 hs.1
           have h4 : F i m * st i <= 4096 * 4096 := Int.mul_le_mul hx.2 hs.2 hs.1 (by omega)
           omega
          have hval : xk + F i m * st i = cbF T F st (i + 1) (k * G + m) := by rw [← hxk, ← HGG.out, cb_step (by rw [HGG.out]; exact hmG)]
          have w1 := IntWalk.i64_in (F i m * st i) (by omega)
          have w2 := IntWalk.i64_in (xk + F i m * st i) (by omega)
          obtain ⟨a', c', y6, hr6, ho6⟩ := app1_step hst.out hval (by omega)
          have HO6 := Lib.hid ho6
          have hm1 : (m : Int) < G := by omega
          clear ho6 hst hval
          generalize F i m = fm at *
          generalize st i = si at *
          go_wp2_with (at_builtin; refine Lib.wpList_append_run _ rfl (.tmp 36) (.tmp 42) 22 22 rfl _ _ rfl rfl _ _ hr6 ?_)
          go_roundw
          case rel => exact ⟨m + 1, a', c', by omega, by go_num, rfl, HO6.out⟩
          case measure => simp [intOf]; omega
        · obtain rfl : m = G := by omega
          have HN : Hid (OwnI y0 wr a6 ((k + 1) * m) c6 (cbF T F st (i + 1))) := Lib.hid (by rw [Nat.add_mul, Nat.one_mul]; exact hst.out)
          clear hst
          go_wp2
          go_roundw
          case rel => exact ⟨k + 1, a6, c6, by omega, by go_num, by rw [Nat.add_mul, Nat.one_mul], HN.out⟩
          case measure => simp [intOf]; omega
     · obtain rfl : k = M := by omega
       have HN : Hid (itm (lnF T) (i + 1) = ((k * G : Nat) : Int) /\ Below w.heap.size w wr /\ KRow wr .i64 a5 (k * G) c5 (cbF T F st (i + 1))) := Lib.hid ⟨HMF.out.1, HBL.out.trans (hst.out.1.mono HBL.out.size), hst.out.krow⟩
       clear hst
       go_wp2
       go_roundw
       case rel => exact ⟨i + 1, k * G, a5, c5, by omega, by go_num, rfl, HN.out⟩
       case measure => simp [intOf]; omega
  · obtain rfl : i = n := by omega
    have hMM : M = M0 := by rw [hM0] at hM; omega
    subst hMM
    have HE := Lib.hid (And.intro hK hbl)
    clear hrel hbl hK hM
    go_wp2
    go_ret
    exact ⟨_, _, rfl, HE.out⟩
end Go.Proofs.YtnpoakaffafdiaaGreatDoor
namespace Go.Proofs.YtnpoakaffafdiaaGreatDoor
open Go.RowKit
theorem KTo.over {w : World} {g n k : Nat} {f : Nat -> Int} (h : KTo w g n k f) (x : Int) : KTo (w.setCell ⟨g, k, none⟩ (.int .i64 x)) g n k f := by
 obtain ⟨h1, h2, h3⟩ := h
 refine ⟨by simpa using h1, h2.set _ _, fun j hj => ?_⟩
 obtain ⟨z, e1, e2⟩ := h3 j hj
 by_cases e : j = k
 · subst e
   exact ⟨x, World.cell?_setCell_same _ _ _ e1, fun h => absurd h (Nat.lt_irrefl _)⟩
 · exact ⟨z, by rw [World.cell?_setCell_other _ _ _ _ (fun h => by injection h with _ h; omega)]; exact e1, e2⟩
end Go.Proofs.YtnpoakaffafdiaaGreatDoor
namespace Go.Proofs.YtnpoakaffafdiaaGreatDoor
open Go.RowKit
attribute [local go_sem ↓] Go.wp_at_zero Go.wp_at_succ
def GiveA (w : World) (fv : FuncId) (cap : Array Value) (L : Nat) : Prop := ∀ M, M <= 1000000 -> Gives fv cap (arG L) M w
theorem GiveA.below {w w' : World} {fv : FuncId} {cap : Array Value} {L : Nat} (h : GiveA w fv cap L) (hb : Below w.heap.size w w') : GiveA w' fv cap L := fun M hM => (h M hM).below hb
end Go.Proofs.YtnpoakaffafdiaaGreatDoor
