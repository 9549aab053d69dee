/-
  array.Same, the document's Right and Light, the statement's Of, by contract.
-/
import Derived.Test.YtdnbpkbapmlfaaaGreatDoorAr16
import Derived.Test.YtdnbpkbapmlfaaaGreatDoorAr14
import Derived.Test.YtdnbpkbapmlfaaaGreatDoorRt1
namespace Go.Proofs.YtdnbpkbapmlfaaaGreatDoor
open Go.RowKit

theorem eqItems_int {P : Program} (d : Nat) (e : TypeId) (he : P.underlying e = some (.int .i64)) (xs ys : Array Value) (f g : Nat → Int) (w : World) : ∀ is : List Nat, (∀ i ∈ is, (part e xs (i * 1)).run P w = .ok (.int .i64 (f i)) w ∧ (part e ys (i * 1)).run P w = .ok (.int .i64 (g i)) w) →
    (Op.eqItems (d + 1) e 1 xs ys is).run P w = .ok (is.all fun i => f i == g i) w := by
  intro is
  induction is with
  | nil => intro _; simp [Op.eqItems]
  | cons i is ih =>
    intro h
    obtain ⟨h1, h2⟩ := h i (by simp)
    have ih := ih (fun j hj => h j (by simp [hj]))
    simp only [Op.eqItems, Sem.run_bind, h1, h2, Result.andThen_ok, run_equalIn_int w d e .i64 .i64 _ _ he, List.all_cons]
    cases hb : (f i == g i)
    · simp
    · simp only [Bool.not_true, Bool.false_eq_true, if_false, Bool.true_and]
      exact ih
set_option maxRecDepth 100000 in
theorem eq_dims (d d' : Nat → Int) (w : World) : (Op.equalIn 10000 47 (.agg #[.int .i64 (d 0), .int .i64 (d 1), .int .i64 (d 2), .int .i64 (d 3), .int .i64 (d 4), .int .i64 (d 5), .int .i64 (d 6), .int .i64 (d 7)]) (.agg #[.int .i64 (d' 0), .int .i64 (d' 1), .int .i64 (d' 2), .int .i64 (d' 3), .int .i64 (d' 4), .int .i64 (d' 5), .int .i64 (d' 6), .int .i64 (d' 7)])).run Tryz.prog w = .ok (sameB d d' 8) w := by
  obtain ⟨i0, hi, _⟩ := info_parts infoI
  have hu : Tryz.prog.underlying 47 = some (.array 8 3) := by kernel_rfl
  have he : Tryz.prog.underlying 3 = some (.int .i64) := by kernel_rfl
  have hc : Tryz.prog.cellsOf 3 = 1 := by kernel_rfl
  have e := run_equalIn_array (P := Tryz.prog) w 9999 #[.int .i64 (d 0), .int .i64 (d 1), .int .i64 (d 2), .int .i64 (d 3), .int .i64 (d 4), .int .i64 (d 5), .int .i64 (d 6), .int .i64 (d 7)] #[.int .i64 (d' 0), .int .i64 (d' 1), .int .i64 (d' 2), .int .i64 (d' 3), .int .i64 (d' 4), .int .i64 (d' 5), .int .i64 (d' 6), .int .i64 (d' 7)] hu hi
  refine e.trans ?_
  rw [hc]
  rw [eqItems_int 9998 3 he _ _ d d' w]
  · congr 1
    rw [Bool.eq_iff_iff, List.all_eq_true, sameB_iff]
    constructor
    · intro h j hj
      exact beq_iff_eq.1 (h j (List.mem_range.2 hj))
    · intro h j hj
      exact beq_iff_eq.2 (h j (List.mem_range.1 hj))
  · intro i hi
    have hi := List.mem_range.1 hi
    have key : ∀ (q : Nat → Int), (part 3 #[.int .i64 (q 0), .int .i64 (q 1), .int .i64 (q 2), .int .i64 (q 3), .int .i64 (q 4), .int .i64 (q 5), .int .i64 (q 6), .int .i64 (q 7)] (i * 1)).run Tryz.prog w = .ok (.int .i64 (q i)) w := by
      intro q
      match i, hi with
      | 0, _ => simp [part, isAgg, run_underlying he]
      | 1, _ => simp [part, isAgg, run_underlying he]
      | 2, _ => simp [part, isAgg, run_underlying he]
      | 3, _ => simp [part, isAgg, run_underlying he]
      | 4, _ => simp [part, isAgg, run_underlying he]
      | 5, _ => simp [part, isAgg, run_underlying he]
      | 6, _ => simp [part, isAgg, run_underlying he]
      | 7, _ => simp [part, isAgg, run_underlying he]
    exact ⟨key d, key d'⟩

/-- Are two arrays the same? -/
def asB (ch ch' : Bool) (more more' : Int) (d d' : Nat → Int) (tn tn' : Nat) (g g' : Nat → Int) (nn nn' : Nat) (fP : Nat → Int) (fQ : Nat → Nat) (gP : Nat → Int) (gQ : Nat → Nat) : Bool :=
  decide (ch = ch') && (decide (more = more') && (sameB d d' 8 && ((decide (tn = tn') && sameB g g' tn) && (decide (nn = nn') && rsB fP fQ gP gQ nn))))

set_option maxHeartbeats 6400000 in
set_option maxRecDepth 100000 in
theorem aSame_any (ch : Bool) (more : Int) (d : Nat → Int) (na : Option Addr) (nn nc : Nat) (ta : Option Addr) (tn tc : Nat) (fP : Nat → Int) (fQ : Nat → Nat) (g : Nat → Int) (ch' : Bool) (more' : Int) (d' : Nat → Int) (na' : Option Addr) (nn' nc' : Nat) (ta' : Option Addr) (tn' tc' : Nat) (gP : Nat → Int) (gQ : Nat → Nat) (g' : Nat → Int)
    (w : World) (h1 : RRow w na nn nc fP fQ) (h2 : KRow w .i32 ta tn tc g) (h1' : RRow w na' nn' nc' gP gQ) (h2' : KRow w .i32 ta' tn' tc' g') (K : Nat) (hK : K ≤ 400000) (q1 : CmpOk K fP fQ nn) (q2 : CmpOk K gP gQ nn') :
    Calls Tryz.prog 46 #[.agg (arrC ch more d na nn nc ta tn tc), .agg (arrC ch' more' d' na' nn' nc' ta' tn' tc')] w fun e w' => SameTold (asB ch ch' more more' d d' tn tn' g g' nn nn' fP fQ gP gQ) w w' e := by
  have ER := Lib.hid (fun wz p q => eqRunes_any ta tn tc g ta' tn' tc' g' wz p q)
  have EF := Lib.hid (fun wz p q => eqFunc_any na nn nc fP fQ na' nn' nc' gP gQ wz p q K hK q1 q2)
  have DM := Lib.hid (fun wz => eq_dims d d' wz)
  have BB := Lib.hid ((((((Bag.start w).rrow h1).krow h2).rrow h1').krow h2').newRow (arrC ch more d na nn nc ta tn tc) 50 |>.newRow (arrC ch' more' d' na' nn' nc' ta' tn' tc') 50)
  simp only [World.size_alloc] at BB
  unfold SameTold at ER EF
  unfold asB
  unfold arrC at BB
  unfold arrC
  generalize sameB d d' 8 = xd at *
  generalize (decide (tn = tn') && sameB g g' tn) = xt at *
  generalize (decide (nn = nn') && rsB fP fQ gP gQ nn) = xn at *
  clear h1 h2 h1' h2' q1 q2
  have H0 := Lib.hid BB.out.below
  by_cases hc : ch = ch'
  · subst hc
    rw [decide_eq_true rfl, Bool.true_and]
    have ec : (ch == ch) = true := beq_self_eq_true ch
    by_cases hm : more = more'
    · subst hm
      rw [decide_eq_true rfl, Bool.true_and]
      have em : (more == more) = true := beq_self_eq_true more
      cases xd with
      | false =>
        have edm := DM.out
        rw [Bool.false_and]
        go_enter Tryz.func46, Tryz.ntmps46
        go_wp2
        go_ret
        exact ⟨rfl, H0.out⟩
      | true =>
        have edm := DM.out
        rw [Bool.true_and]
        cases xt with
        | false =>
          rw [Bool.false_and]
          go_enter Tryz.func46, Tryz.ntmps46
          go_wp2_with fail
          go_at_call 86
          (with_reducible refine (ER.out _ BB.out.now.2.2.2.2.1 BB.out.now.2.2.1).mono ?_)
          rintro e w2 ⟨rfl, hb2⟩
          have HE := Lib.hid (BB.out.go hb2).below
          clear hb2
          go_wp2
          go_ret
          exact ⟨rfl, HE.out⟩
        | true =>
          rw [Bool.true_and]
          go_enter Tryz.func46, Tryz.ntmps46
          go_wp2_with fail
          go_at_call 86
          (with_reducible refine (ER.out _ BB.out.now.2.2.2.2.1 BB.out.now.2.2.1).mono ?_)
          rintro e w2 ⟨rfl, hb2⟩
          have BB := Lib.hid (BB.out.go hb2)
          clear hb2
          have x10 := BB.out.now.2.1.cell 10
          have y10 := BB.out.now.1.cell 10
          go_wp2_with fail
          go_at_call 87
          (with_reducible refine (EF.out _ BB.out.now.2.2.2.2.2.1 BB.out.now.2.2.2.1).mono ?_)
          rintro e w3 ⟨rfl, hb3⟩
          have HE := Lib.hid (BB.out.go hb3).below
          clear hb3 x10 y10
          go_wp2
          go_ret
          exact ⟨rfl, HE.out⟩
    · rw [decide_eq_false hm, Bool.false_and]
      have em : (more == more') = false := beq_eq_false_iff_ne.2 hm
      clear hm
      go_enter Tryz.func46, Tryz.ntmps46
      go_wp2
      go_ret
      exact ⟨rfl, H0.out⟩
  · rw [decide_eq_false hc, Bool.false_and]
    cases ch <;> cases ch'
    · exact absurd rfl hc
    · clear hc
      go_enter Tryz.func46, Tryz.ntmps46
      go_wp2
      go_ret
      exact ⟨rfl, H0.out⟩
    · clear hc
      go_enter Tryz.func46, Tryz.ntmps46
      go_wp2
      go_ret
      exact ⟨rfl, H0.out⟩
    · exact absurd rfl hc

set_option maxHeartbeats 6400000 in
set_option maxRecDepth 100000 in
theorem r6Right_any (cs : Array Value) (S : Nat → Int) (r : Nat) (ch : Bool) (g : Nat → Int) (tn : Nat) (fB : Nat → Bool) (fS fT : Nat → ByteArray) (nn : Nat) (w : World) (h : PlnAt w cs S r ch g tn fB fS fT nn) (hS : In64 S r) (hs : Short fS fT nn) :
    Calls Tryz.prog 19 #[.agg cs] w fun e w' => SameTold (ofB S r ch tn fB fS fT nn) w w' e := by
  obtain ⟨sa, sc, ta, tc, na, nc, rfl, h1, h2, h3⟩ := h
  have hl1 := h1.len
  have hl2 := h2.len
  have hl3 := h3.len
  have BB := Lib.hid (((((Bag.start w).krow h1).krow h2).qrow h3).newRow (plC sa r sc ch ta tn tc na nn nc) 46)
  have RC := Lib.hid (fun wz p => r6Count_any sa r sc S wz p hS)
  unfold CntTold cntI at RC
  have RT := Lib.hid (fun j (hj : j < nn) wz => r3Right_any (fB j) (fS j) (fT j) wz (hs j hj).1 (hs j hj).2)
  unfold plC at BB
  unfold plC
  have H0 := Lib.hid BB.out.below
  clear h1 h2 h3 hs hS
  cases hsh : shB S r with
  | false =>
    have ho : ofB S r ch tn fB fS fT nn = false := by unfold ofB; rw [hsh]; cases ch <;> simp
    rw [ho]
    rw [hsh, if_neg (by decide)] at RC
    clear ho hsh
    go_enter Tryz.func19, Tryz.ntmps19
    go_wp2_with fail
    go_at_call 43
    (with_reducible refine (RC.out _ BB.out.now.2.2.2.1).mono ?_)
    rintro e w2 ⟨rfl, rfl⟩
    go_wp2
    go_ret
    exact ⟨rfl, H0.out⟩
  | true =>
    have hob : ofB S r ch tn fB fS fT nn = if ch then decide (nn = 0) && decide (itm S r = tn) else decide (tn = 0) && (okN fB fS fT nn && decide (itm S r = nn)) := by unfold ofB; rw [hsh, Bool.true_and, Bool.true_and]
    rw [hob]
    rw [hsh, if_pos rfl] at RC
    generalize itm S r = K0 at *
    clear hob hsh
    cases ch with
    | true =>
      rw [if_pos rfl]
      by_cases hk : K0 = (tn : Int)
      · subst hk
        have e1 : ((tn : Int) != tn) = false := bne_self_eq_false _
        by_cases h0 : nn = 0
        · have e2 : ((nn : Int) != 0) = false := by rw [h0]; rfl
          have HT : Hid (okN fB fS fT nn = (decide (nn = 0) && decide ((tn : Int) = tn))) := by show _ = _; rw [h0, decide_eq_true rfl, decide_eq_true rfl]; rfl
          have HN := Lib.hid h0
          clear h0
          generalize (decide (nn = 0) && decide ((tn : Int) = tn)) = ans at *
          go_enter Tryz.func19, Tryz.ntmps19
          go_wp2_with fail
          go_at_call 43
          (with_reducible refine (RC.out _ BB.out.now.2.2.2.1).mono ?_)
          rintro e w2 ⟨rfl, hw2⟩
          have BB := Lib.hid (hw2 ▸ BB.out)
          have HBW : Hid (Below w.heap.size w w2) := Lib.hid BB.out.below
          clear hw2
          obtain ⟨x0, x1, x2, x3⟩ := pl_cells BB.out.now.1
          go_wp2_with fail
          go_loopw [5] (fun i wr => ∃ k : Nat, k ≤ nn ∧ i = .int .i64 k ∧ Hid (Below w2.heap.size w2 wr ∧ okN fB fS fT k = true)) (fun i _ => nn - (intOf i).toNat)
          case atStart => exact ⟨0, by omega, rfl, Below.refl _ _, rfl⟩
          case round =>
            obtain ⟨k, hk, rfl, hrel⟩ := hrel
            obtain ⟨hbl, hok⟩ := hrel.out
            have B4 := Lib.hid (BB.out.go hbl)
            clear x0 x1 x2 x3
            obtain ⟨x0, x1, x2, x3⟩ := pl_cells B4.out.now.1
            by_cases hlt : k < nn
            · obtain ⟨b, off, rfl, hb, c1, c2, c3⟩ := B4.out.now.2.1.get hlt
              have RK := Lib.hid (RT.out k hlt)
              have HBL := Lib.hid hbl
              cases ho : ofO (fB k) (fS k) (fT k) with
              | false =>
                have hno : okN fB fS fT nn = false := by
                  cases hx : okN fB fS fT nn with
                  | false => rfl
                  | true => rw [okN_iff.1 hx k hlt] at ho; cases ho
                have HNO : Hid (ans = false) := Lib.hid (HT.out.symm.trans hno)
                rw [ho] at RK
                clear hbl hok hno ho
                generalize fB k = u1 at *
                generalize fS k = u2 at *
                generalize fT k = u3 at *
                go_wp2_with fail
                go_at_call 63
                (with_reducible refine (RK.out _).mono ?_)
                rintro e w4 ⟨rfl, hb4⟩
                have HE : Hid (SameTold ans w w4 (.returned (.bool false))) := Lib.hid ⟨by rw [HNO.out], (B4.out.go hb4).below⟩
                clear hb4
                go_wp2
                go_ret
                exact HE.out
              | true =>
                have HO2 : Hid (okN fB fS fT (k + 1) = true) := by show (okN fB fS fT k && _) = true; rw [hok, ho]; rfl
                rw [ho] at RK
                clear hbl hok ho
                generalize fB k = u1 at *
                generalize fS k = u2 at *
                generalize fT k = u3 at *
                go_wp2_with fail
                go_at_call 63
                (with_reducible refine (RK.out _).mono ?_)
                rintro e w4 ⟨rfl, hb4⟩
                have HN2 : Hid (Below w2.heap.size w2 w4 ∧ okN fB fS fT (k + 1) = true) := Lib.hid ⟨HBL.out.trans (hb4.mono HBL.out.size), HO2.out⟩
                clear hb4
                go_wp2
                go_roundw
                case rel => exact ⟨k + 1, by omega, by go_num, HN2.out⟩
                case measure => simp [intOf]; omega
            · obtain rfl : k = nn := by omega
              have HE : Hid (SameTold ans w wr (.returned (.bool true))) := Lib.hid ⟨by rw [← HT.out, hok], B4.out.below⟩
              clear hbl hok
              go_wp2
              go_ret
              exact HE.out
        · have e2 : ((nn : Int) != 0) = true := bne_iff_ne.2 (by omega)
          rw [decide_eq_false h0, Bool.false_and]
          clear h0
          go_enter Tryz.func19, Tryz.ntmps19
          go_wp2_with fail
          go_at_call 43
          (with_reducible refine (RC.out _ BB.out.now.2.2.2.1).mono ?_)
          rintro e w2 ⟨rfl, rfl⟩
          go_wp2
          go_ret
          exact ⟨rfl, H0.out⟩
      · have e1 : ((tn : Int) != K0) = true := bne_iff_ne.2 (fun e => hk e.symm)
        rw [decide_eq_false hk, Bool.and_false]
        clear hk
        go_enter Tryz.func19, Tryz.ntmps19
        go_wp2_with fail
        go_at_call 43
        (with_reducible refine (RC.out _ BB.out.now.2.2.2.1).mono ?_)
        rintro e w2 ⟨rfl, rfl⟩
        go_wp2
        go_ret
        exact ⟨rfl, H0.out⟩
    | false =>
      rw [if_neg (by decide)]
      by_cases hk : K0 = (nn : Int)
      · subst hk
        have e1 : ((nn : Int) != nn) = false := bne_self_eq_false _
        by_cases h0 : tn = 0
        · have e2 : ((tn : Int) != 0) = false := by rw [h0]; rfl
          have HT : Hid (okN fB fS fT nn = (decide (tn = 0) && (okN fB fS fT nn && decide ((nn : Int) = nn)))) := by show _ = _; rw [decide_eq_true h0, decide_eq_true rfl, Bool.true_and, Bool.and_true]
          have HN := Lib.hid h0
          clear h0
          generalize (decide (tn = 0) && (okN fB fS fT nn && decide ((nn : Int) = nn))) = ans at *
          go_enter Tryz.func19, Tryz.ntmps19
          go_wp2_with fail
          go_at_call 43
          (with_reducible refine (RC.out _ BB.out.now.2.2.2.1).mono ?_)
          rintro e w2 ⟨rfl, hw2⟩
          have BB := Lib.hid (hw2 ▸ BB.out)
          have HBW : Hid (Below w.heap.size w w2) := Lib.hid BB.out.below
          clear hw2
          obtain ⟨x0, x1, x2, x3⟩ := pl_cells BB.out.now.1
          go_wp2_with fail
          go_loopw [5] (fun i wr => ∃ k : Nat, k ≤ nn ∧ i = .int .i64 k ∧ Hid (Below w2.heap.size w2 wr ∧ okN fB fS fT k = true)) (fun i _ => nn - (intOf i).toNat)
          case atStart => exact ⟨0, by omega, rfl, Below.refl _ _, rfl⟩
          case round =>
            obtain ⟨k, hk, rfl, hrel⟩ := hrel
            obtain ⟨hbl, hok⟩ := hrel.out
            have B4 := Lib.hid (BB.out.go hbl)
            clear x0 x1 x2 x3
            obtain ⟨x0, x1, x2, x3⟩ := pl_cells B4.out.now.1
            by_cases hlt : k < nn
            · obtain ⟨b, off, rfl, hb, c1, c2, c3⟩ := B4.out.now.2.1.get hlt
              have RK := Lib.hid (RT.out k hlt)
              have HBL := Lib.hid hbl
              cases ho : ofO (fB k) (fS k) (fT k) with
              | false =>
                have hno : okN fB fS fT nn = false := by
                  cases hx : okN fB fS fT nn with
                  | false => rfl
                  | true => rw [okN_iff.1 hx k hlt] at ho; cases ho
                have HNO : Hid (ans = false) := Lib.hid (HT.out.symm.trans hno)
                rw [ho] at RK
                clear hbl hok hno ho
                generalize fB k = u1 at *
                generalize fS k = u2 at *
                generalize fT k = u3 at *
                go_wp2_with fail
                go_at_call 63
                (with_reducible refine (RK.out _).mono ?_)
                rintro e w4 ⟨rfl, hb4⟩
                have HE : Hid (SameTold ans w w4 (.returned (.bool false))) := Lib.hid ⟨by rw [HNO.out], (B4.out.go hb4).below⟩
                clear hb4
                go_wp2
                go_ret
                exact HE.out
              | true =>
                have HO2 : Hid (okN fB fS fT (k + 1) = true) := by show (okN fB fS fT k && _) = true; rw [hok, ho]; rfl
                rw [ho] at RK
                clear hbl hok ho
                generalize fB k = u1 at *
                generalize fS k = u2 at *
                generalize fT k = u3 at *
                go_wp2_with fail
                go_at_call 63
                (with_reducible refine (RK.out _).mono ?_)
                rintro e w4 ⟨rfl, hb4⟩
                have HN2 : Hid (Below w2.heap.size w2 w4 ∧ okN fB fS fT (k + 1) = true) := Lib.hid ⟨HBL.out.trans (hb4.mono HBL.out.size), HO2.out⟩
                clear hb4
                go_wp2
                go_roundw
                case rel => exact ⟨k + 1, by omega, by go_num, HN2.out⟩
                case measure => simp [intOf]; omega
            · obtain rfl : k = nn := by omega
              have HE : Hid (SameTold ans w wr (.returned (.bool true))) := Lib.hid ⟨by rw [← HT.out, hok], B4.out.below⟩
              clear hbl hok
              go_wp2
              go_ret
              exact HE.out
        · have e2 : ((tn : Int) != 0) = true := bne_iff_ne.2 (by omega)
          rw [decide_eq_false h0, Bool.false_and]
          clear h0
          go_enter Tryz.func19, Tryz.ntmps19
          go_wp2_with fail
          go_at_call 43
          (with_reducible refine (RC.out _ BB.out.now.2.2.2.1).mono ?_)
          rintro e w2 ⟨rfl, rfl⟩
          go_wp2
          go_ret
          exact ⟨rfl, H0.out⟩
      · have e1 : ((nn : Int) != K0) = true := bne_iff_ne.2 (fun e => hk e.symm)
        rw [decide_eq_false hk, Bool.and_false, Bool.and_false]
        clear hk
        go_enter Tryz.func19, Tryz.ntmps19
        go_wp2_with fail
        go_at_call 43
        (with_reducible refine (RC.out _ BB.out.now.2.2.2.1).mono ?_)
        rintro e w2 ⟨rfl, rfl⟩
        go_wp2
        go_ret
        exact ⟨rfl, H0.out⟩

/-- What Light answers. -/
def LightTold (m : Int) (S : Nat → Int) (r : Nat) (ch : Bool) (tn : Nat) (fB : Nat → Bool) (fS fT : Nat → ByteArray) (nn : Nat) (w w' : World) (e : Ending) : Prop :=
  ∃ b, e = .returned (.bool b) ∧ (b = true → (tn : Int) ≤ m ∧ (nn : Int) ≤ m ∧ r ≤ 8 ∧ Short fS fT nn ∧ ofB S r ch tn fB fS fT nn = true) ∧ Below w.heap.size w w'

set_option maxHeartbeats 6400000 in
set_option maxRecDepth 100000 in
theorem light_any (m : Int) (cs : Array Value) (S : Nat → Int) (r : Nat) (ch : Bool) (g : Nat → Int) (tn : Nat) (fB : Nat → Bool) (fS fT : Nat → ByteArray) (nn : Nat) (w : World) (h : PlnAt w cs S r ch g tn fB fS fT nn) (hS : In64 S r) (hz : ∀ j, j < nn → (fS j).size ≤ maxLen ∧ (fT j).size ≤ maxLen) :
    Calls Tryz.prog 40 #[.agg cs, .int .i64 m] w fun e w' => LightTold m S r ch tn fB fS fT nn w w' e := by
  have RI := Lib.hid (fun wz cs p hs => r6Right_any cs S r ch g tn fB fS fT nn wz p hS hs)
  obtain ⟨sa, sc, ta, tc, na, nc, rfl, h1, h2, h3⟩ := h
  have hl1 := h1.len
  have hl2 := h2.len
  have hl3 := h3.len
  have BB := Lib.hid (((((Bag.start w).krow h1).krow h2).qrow h3).newRow (plC sa r sc ch ta tn tc na nn nc) 46)
  unfold SameTold at RI
  have H0 : Hid (LightTold m S r ch tn fB fS fT nn w (w.alloc (.cells (plC sa r sc ch ta tn tc na nn nc) 46)) (.returned (.bool false))) := Lib.hid ⟨false, rfl, fun h => (by cases h), BB.out.below⟩
  unfold plC at BB H0
  unfold plC
  clear h1 h2 h3 hS
  by_cases h1 : m < (tn : Int)
  · go_enter Tryz.func40, Tryz.ntmps40
    go_wp2
    go_ret
    exact H0.out
  by_cases h2 : m < (nn : Int)
  · go_enter Tryz.func40, Tryz.ntmps40
    go_wp2
    go_ret
    exact H0.out
  by_cases h3 : (8 : Int) < (r : Int)
  · go_enter Tryz.func40, Tryz.ntmps40
    go_wp2
    go_ret
    exact H0.out
  have HZ := Lib.hid hz
  have HC : Hid ((tn : Int) ≤ m ∧ (nn : Int) ≤ m ∧ r ≤ 8) := ⟨by omega, by omega, by omega⟩
  clear hz
  have HB0 := Lib.hid BB.out.below
  go_enter Tryz.func40, Tryz.ntmps40
  go_wp2_with fail
  go_loopw [5] (fun i wr => ∃ k : Nat, k ≤ nn ∧ i = .int .i64 k ∧ Hid (Below (w.heap.size + 1) (w.alloc (.cells #[.slice sa r sc, .bool ch, .slice ta tn tc, .slice na nn nc] 46)) wr ∧ ∀ j, j < k → (fS j).size ≤ 60 ∧ (fT j).size ≤ 60)) (fun i _ => nn - (intOf i).toNat)
  case atStart => exact ⟨0, by omega, rfl, by have := Below.refl (w.alloc (.cells #[.slice sa r sc, .bool ch, .slice ta tn tc, .slice na nn nc] 46)).heap.size (w.alloc (.cells #[.slice sa r sc, .bool ch, .slice ta tn tc, .slice na nn nc] 46)); simpa using this, fun j hj => absurd hj (Nat.not_lt_zero _)⟩
  case round =>
    obtain ⟨k, hk, rfl, hrel⟩ := hrel
    obtain ⟨hbl, hsm⟩ := hrel.out
    have B4 := Lib.hid (BB.out.go (by simpa using hbl))
    obtain ⟨x0, x1, x2, x3⟩ := pl_cells B4.out.now.1
    by_cases hlt : k < nn
    · obtain ⟨b, off, rfl, hb, c1, c2, c3⟩ := B4.out.now.2.1.get hlt
      obtain ⟨z1, z2⟩ := HZ.out k hlt
      have HE : Hid (LightTold m S r ch tn fB fS fT nn w wr (.returned (.bool false))) := Lib.hid ⟨false, rfl, fun h => (by cases h), B4.out.below⟩
      have HBL := Lib.hid hbl
      have HSM := Lib.hid hsm
      clear hbl hsm
      have hg1 : (fS k).size ≤ 9223372036854775807 := by unfold maxLen at z1; omega
      have hg2 : (fT k).size ≤ 9223372036854775807 := by unfold maxLen at z2; omega
      by_cases g1 : (40 : Int) < ((fS k).size : Int)
      · generalize fS k = u1 at *
        generalize fT k = u2 at *
        go_wp2
        go_ret
        exact HE.out
      by_cases g2 : (40 : Int) < ((fT k).size : Int)
      · generalize fS k = u1 at *
        generalize fT k = u2 at *
        go_wp2
        go_ret
        exact HE.out
      have HN : Hid (Below (w.heap.size + 1) (w.alloc (.cells #[.slice sa r sc, .bool ch, .slice ta tn tc, .slice (some ⟨b, off, none⟩) nn nc] 46)) wr ∧ ∀ j, j < k + 1 → (fS j).size ≤ 60 ∧ (fT j).size ≤ 60) :=
        ⟨HBL.out, fun j hj => by
          rcases Nat.lt_or_ge j k with e | e
          · exact HSM.out j e
          · obtain rfl : j = k := by omega
            exact ⟨by omega, by omega⟩⟩
      generalize hu1 : fS k = u1 at *
      generalize hu2 : fT k = u2 at *
      clear hu1 hu2
      go_wp2
      go_roundw
      case rel => exact ⟨k + 1, by omega, by go_num, HN.out⟩
      case measure => simp [intOf]; omega
    · obtain rfl : k = nn := by omega
      have HR : Hid (Row wr w.heap.size 46 (plC sa r sc ch ta tn tc na k nc)) := Lib.hid B4.out.now.1
      have HP : Hid (PlnAt wr (plC sa r sc ch ta tn tc na k nc) S r ch g tn fB fS fT k) := Lib.hid ⟨sa, sc, ta, tc, na, nc, rfl, B4.out.now.2.2.2.1, B4.out.now.2.2.1, B4.out.now.2.1⟩
      have RW := Lib.hid (RI.out wr _ HP.out hsm)
      have HS := Lib.hid hsm
      clear hbl hsm RI
      go_wp2_with (refine ld_pln rfl (.tmp 2) rfl w.heap.size rfl HR.out ?_)
      go_at_call 19
      (with_reducible refine (RW.out).mono ?_)
      rintro e w3 ⟨rfl, hb3⟩
      have HE : Hid (LightTold m S r ch tn fB fS fT k w w3 (.returned (.bool (ofB S r ch tn fB fS fT k)))) := Lib.hid ⟨_, rfl, fun h => ⟨HC.out.1, HC.out.2.1, HC.out.2.2, HS.out, h⟩, (B4.out.go hb3).below⟩
      generalize ofB S r ch tn fB fS fT k = ob at *
      clear hb3
      go_wp2
      go_ret
      exact HE.out

/-- What the statement's Of answers. -/
def LOfTold (S : Nat → Int) (r : Nat) (ch : Bool) (g : Nat → Int) (tn : Nat) (fP : Nat → Int) (fQ : Nat → Nat) (nn : Nat) (w w' : World) (e : Ending) : Prop :=
  ∃ na nc ta tc, e = .returned (.agg (arrC ch ((r : Int) - 1) (dm S r) na nn nc ta tn tc)) ∧ RRow w' na nn nc fP fQ ∧ KRow w' .i32 ta tn tc g ∧ (ch = false → ta = none ∧ tc = 0) ∧ (ch = true → na = none ∧ nc = 0) ∧ Below w.heap.size w w'

set_option maxHeartbeats 3200000 in
set_option maxRecDepth 100000 in
theorem lof_any (cs : Array Value) (S : Nat → Int) (r : Nat) (ch : Bool) (g : Nat → Int) (tn : Nat) (fB : Nat → Bool) (fS fT : Nat → ByteArray) (nn : Nat) (w : World) (h : PlnAt w cs S r ch g tn fB fS fT nn) (hS : In64 S r) (hs : Short fS fT nn) (hn : nn ≤ 100000) (htn : tn ≤ 100000) (ho : ofB S r ch tn fB fS fT nn = true) :
    Calls Tryz.prog 41 #[.agg cs] w fun e w' => LOfTold S r ch g tn (fun j => ofP (fB j) (fS j) (fT j)) (fun j => ofQ (fB j) (fS j) (fT j)) nn w w' e := by
  have OF := Lib.hid (fun wz cs p => of6_any cs S r ch g tn fB fS fT nn wz p hS hs hn htn)
  unfold OfTold at OF
  rw [ho] at OF
  obtain ⟨sa, sc, ta, tc, na, nc, rfl, h1, h2, h3⟩ := h
  have BB := Lib.hid (((((Bag.start w).krow h1).krow h2).qrow h3).newRow (plC sa r sc ch ta tn tc na nn nc) 46 |>.newRow zerC 50)
  simp only [World.size_alloc] at BB
  have HP := Lib.hid (fun wz a b c => OF.out wz (plC sa r sc ch ta tn tc na nn nc) ⟨sa, sc, ta, tc, na, nc, rfl, a, b, c⟩)
  have HR := Lib.hid BB.out.now.2.1
  clear h1 h2 h3 hS hs hn htn ho OF
  go_enter Tryz.func41, Tryz.ntmps41
  go_wp2_with (refine ld_pln rfl (.tmp 1) rfl w.heap.size rfl HR.out ?_)
  go_at_call 18
  (with_reducible refine (HP.out _ ?_ ?_ ?_).mono ?_)
  · exact BB.out.now.2.2.2.2.1
  · exact BB.out.now.2.2.2.1
  · exact BB.out.now.2.2.1
  rintro e w3 ⟨cs3, rfl, hcs, hb3⟩
  rw [if_pos trivial] at hcs
  obtain ⟨na3, nc3, ta3, tc3, rfl, hr3, ht3, hf3, hg3⟩ := hcs
  have B3 := ((BB.out.go hb3).rrow hr3).krow ht3 |>.newRow (arrC ch ((r : Int) - 1) (dm S r) na3 nn nc3 ta3 tn tc3) 50
  have HR1 := Lib.hid B3.now.1
  have HZ := Lib.hid B3.now.2.2.2.1
  have hz := B3.now.2.2.2.1
  rw [zerC_eq] at hz
  have HE : Hid (LOfTold S r ch g tn (fun j => ofP (fB j) (fS j) (fT j)) (fun j => ofQ (fB j) (fS j) (fT j)) nn w ((w3.alloc (.cells (arrC ch ((r : Int) - 1) (dm S r) na3 nn nc3 ta3 tn tc3) 50)).setRow (w.heap.size + 1) (arrC ch ((r : Int) - 1) (dm S r) na3 nn nc3 ta3 tn tc3)) (.returned (.agg (arrC ch ((r : Int) - 1) (dm S r) na3 nn nc3 ta3 tn tc3)))) :=
    Lib.hid ⟨na3, nc3, ta3, tc3, rfl, B3.now.2.2.1.away (Row.noLimb hz) (RRow.ne B3.now.2.2.1 hz) (Far.setRow _ _ _), B3.now.2.1.away (KRow.ne B3.now.2.1 (by decide) hz) (Far.setRow _ _ _), hf3, hg3, below_put B3.below (Nat.le_succ _) _⟩
  clear hb3 B3 hr3 ht3 hz
  unfold arrC
  unfold arrC at HR1
  go_wp2_with (first
    | (refine ld_arr rfl (.tmp 3) rfl w3.heap.size rfl HR1.out ?_)
    | (refine st_arr rfl (.tmp 2) (.tmp 10) rfl (w.heap.size + 1) rfl _ _ _ _ _ _ _ _ _ rfl HZ.out rfl ?_))
  exact bodyPost_ret (res_arr Tryz.results41 rfl (HZ.out.put _) rfl) rfl HE.out

/-- The numbers of an array that the page speaks of: what they are, and that they can be compared. -/
theorem ofO_facts {b : Bool} {s t : ByteArray} (h : ofO b s t = true) : rB (ofP b s t) = b ∧ rS (ofP b s t) = s ∧ str (dec (ofQ b s t)) = t ∧ 0 < ofQ b s t ∧ Nat.gcd (ofP b s t).natAbs (ofQ b s t) = 1 := by
  unfold ofO ofK at h
  simp only [Bool.and_eq_true, decide_eq_true_eq, Bool.not_eq_true', decide_eq_false_iff_not] at h
  obtain ⟨⟨_, h0⟩, h1, h2, h3⟩ := h
  exact ⟨h1, h2, h3, loQ_pos _ (by omega), lo_cop _ (by omega)⟩
theorem ofB_true {S : Nat → Int} {r : Nat} {ch : Bool} {tn : Nat} {fB : Nat → Bool} {fS fT : Nat → ByteArray} {nn : Nat} (h : ofB S r ch tn fB fS fT nn = true) :
    shB S r = true ∧ itm S r = (if ch then tn else nn : Nat) ∧ (ch = true → nn = 0) ∧ (ch = false → tn = 0) ∧ ∀ j, j < nn → ofO (fB j) (fS j) (fT j) = true := by
  unfold ofB at h
  cases ch with
  | true =>
    rw [if_pos rfl] at h
    simp only [Bool.and_eq_true, decide_eq_true_eq] at h
    exact ⟨h.2.1, h.2.2, fun _ => h.1, fun h => (by cases h), fun j hj => absurd hj (by omega)⟩
  | false =>
    rw [if_neg (by decide)] at h
    simp only [Bool.and_eq_true, decide_eq_true_eq] at h
    exact ⟨h.2.2.1, h.2.2.2, fun h => (by cases h), fun _ => h.1, okN_iff.1 h.2.1⟩

end Go.Proofs.YtdnbpkbapmlfaaaGreatDoor
