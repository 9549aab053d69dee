/-
  Proved: the law ArrayPicks of package typeballlaw06 returns true for every plain array, shape and list of places, under the row's own conditions.
-/
import Derived.Test.YtdnbpkbapmlfaaaGreatDoorAr22
import Derived.Test.YtdnbpkbapmlfaaaGreatDoorInv
import Derived.Test.YtdnbpkbapmlfaaaGreatDoorOp0
import Derived.Test.YtdnbpkbapmlfaaaGreatDoorPl0
import Derived.SizedLaws
import Derived.Test.YtdnbpkbapmlfaaaGreatDoorCards
import Derived.Test.YtdnbpkbapmlfaaaGreatDoorTie
import Derived.LaidMore
import Derived.Lay
import Derived.SevenTiedAt
import Derived.Stop.Joined
namespace Go.Proofs.YtdnbpkbapmlfaaaGreatDoor
open Go.ChangeShapes Go.WideShapes Go.ChangeAt Go.RowKit Go.WideMaps Go.WideElems
attribute [local go_sem ↓] Go.wp_at_zero Go.wp_at_succ

theorem z_cells {w : World} {k : Nat} {t : TypeId} (h : Row w k t #[.bool false, .int .i64 0, .int .i64 0, .int .i64 0, .int .i64 0, .int .i64 0, .int .i64 0, .int .i64 0, .int .i64 0, .int .i64 0, .slice none 0 0, .slice none 0 0]) :
    w.cell? ⟨k, 0, none⟩ = some (.bool false) ∧ w.cell? ⟨k, 1, none⟩ = some (.int .i64 0) ∧ w.cell? ⟨k, 2, none⟩ = some (.int .i64 0) ∧ w.cell? ⟨k, 3, none⟩ = some (.int .i64 0) ∧ w.cell? ⟨k, 4, none⟩ = some (.int .i64 0) ∧ w.cell? ⟨k, 5, none⟩ = some (.int .i64 0) ∧ w.cell? ⟨k, 6, none⟩ = some (.int .i64 0) ∧ w.cell? ⟨k, 7, none⟩ = some (.int .i64 0) ∧ w.cell? ⟨k, 8, none⟩ = some (.int .i64 0) ∧ w.cell? ⟨k, 9, none⟩ = some (.int .i64 0) ∧ w.cell? ⟨k, 10, none⟩ = some (.slice none 0 0) ∧ w.cell? ⟨k, 11, none⟩ = some (.slice none 0 0) :=
  ⟨h.cell 0, h.cell 1, h.cell 2, h.cell 3, h.cell 4, h.cell 5, h.cell 6, h.cell 7, h.cell 8, h.cell 9, h.cell 10, h.cell 11⟩
theorem ab_cellsA {w : World} {k : Nat} {t : TypeId} {ch : Bool} {more : Int} {d : Nat → Int} {na : Option Addr} {nn nc : Nat} {ta : Option Addr} {tn tc : Nat} (h : Row w k t #[.bool ch, .int .i64 more, .int .i64 (d 0), .int .i64 (d 1), .int .i64 (d 2), .int .i64 (d 3), .int .i64 (d 4), .int .i64 (d 5), .int .i64 (d 6), .int .i64 (d 7), .slice na nn nc, .slice ta tn tc]) {Z : Prop} (z : Z) :
    w.cell? ⟨k, 0, none⟩ = some (.bool ch) ∧ w.cell? ⟨k, 1, none⟩ = some (.int .i64 more) ∧ w.cell? ⟨k, 2, none⟩ = some (.int .i64 (d 0)) ∧ w.cell? ⟨k, 3, none⟩ = some (.int .i64 (d 1)) ∧ w.cell? ⟨k, 4, none⟩ = some (.int .i64 (d 2)) ∧ w.cell? ⟨k, 5, none⟩ = some (.int .i64 (d 3)) ∧ w.cell? ⟨k, 6, none⟩ = some (.int .i64 (d 4)) ∧ w.cell? ⟨k, 7, none⟩ = some (.int .i64 (d 5)) ∧ w.cell? ⟨k, 8, none⟩ = some (.int .i64 (d 6)) ∧ w.cell? ⟨k, 9, none⟩ = some (.int .i64 (d 7)) ∧ w.cell? ⟨k, 10, none⟩ = some (.slice na nn nc) ∧ w.cell? ⟨k, 11, none⟩ = some (.slice ta tn tc) ∧ Z :=
  ⟨h.cell 0, h.cell 1, h.cell 2, h.cell 3, h.cell 4, h.cell 5, h.cell 6, h.cell 7, h.cell 8, h.cell 9, h.cell 10, h.cell 11, z⟩

set_option linter.unusedSimpArgs false in
set_option maxHeartbeats 6400000 in
set_option maxRecDepth 100000 in
theorem arrayPicks_walk (cs : Array Value) (S : Nat → Int) (r : Nat) (ch : Bool) (g : Nat → Int) (tn : Nat) (fB : Nat → Bool) (fS fT : Nat → ByteArray) (nn : Nat) (s1 : Option Addr) (sn c1 : Nat) (S' : Nat → Int) (t1 : Option Addr) (m d1 : Nat) (at' : Nat → Int)
    (w : World) (h : PlnAt w cs S r ch g tn fB fS fT nn) (hS : In64 S r) (hz : ∀ j, j < nn → (fS j).size ≤ maxLen ∧ (fT j).size ≤ maxLen) (q1 : KRow w .i64 s1 sn c1 S') (g1 : In64 S' sn) (q2 : KRow w .i64 t1 m d1 at') (g2 : In64 at' m) :
    Calls Tryz.prog 6 #[.agg cs, .slice s1 sn c1, .slice t1 m d1] w fun e w' => e = .returned (.bool true) ∧ Below w.heap.size w w' := by
  obtain ⟨sa, sc, ta, tc, na, nc, rfl, h1, h2, h3⟩ := h
  have hl1 := q1.len
  have hl2 := q2.len
  have LP := Lib.hid (fun wz a b c => light_any 300 (plC sa r sc ch ta tn tc na nn nc) S r ch g tn fB fS fT nn wz ⟨sa, sc, ta, tc, na, nc, rfl, a, b, c⟩ hS hz)
  have AW := Lib.hid (fun wz => awake6_any wz)
  have BB := Lib.hid ((((((Bag.start w).krow h1).krow h2).qrow h3).krow q1).krow q2 |>.newRow (plC sa r sc ch ta tn tc na nn nc) 46)
  unfold LightTold at LP
  unfold plC at LP BB
  unfold plC
  clear h1 h2 h3 hz q1 q2
  go_enter Tryz.func6, Tryz.ntmps6
  go_wp2_with fail
  go_at_call 40
  (with_reducible refine (LP.out _ BB.out.now.2.2.2.2.2.1 BB.out.now.2.2.2.2.1 BB.out.now.2.2.2.1).mono ?_)
  rintro e w2 ⟨b, rfl, hb, hb2⟩
  have BB := Lib.hid (BB.out.go hb2)
  clear hb2 LP
  cases b with
  | false =>
    clear hb
    go_wp2_with fail
    go_at_call 17
    (with_reducible refine (AW.out _).mono ?_)
    rintro e w9 ⟨rfl, hb9⟩
    have HE := Lib.hid (BB.out.go hb9).below
    clear hb9
    go_wp2
    go_ret
    exact ⟨rfl, HE.out⟩
  | true =>
    obtain ⟨m1, m2, m3, m4, m5⟩ := hb rfl
    clear hb
    by_cases h60 : (60 : Int) < (sn : Int)
    · clear m1 m2 m3 m4 m5
      go_wp2_with fail
      go_at_call 17
      (with_reducible refine (AW.out _).mono ?_)
      rintro e w9 ⟨rfl, hb9⟩
      have HE := Lib.hid (BB.out.go hb9).below
      clear hb9
      go_wp2
      go_ret
      exact ⟨rfl, HE.out⟩
    by_cases h300 : (300 : Int) < (m : Int)
    · clear m1 m2 m3 m4 m5
      go_wp2_with fail
      go_at_call 17
      (with_reducible refine (AW.out _).mono ?_)
      rintro e w9 ⟨rfl, hb9⟩
      have HE := Lib.hid (BB.out.go hb9).below
      clear hb9
      go_wp2
      go_ret
      exact ⟨rfl, HE.out⟩
    have k9 := ofB_true m5
    cases ch with
    | true =>
      obtain rfl : nn = 0 := k9.2.2.1 rfl
      have OF := Lib.hid (fun wz a b c => lof_any (plC sa r sc true ta tn tc na 0 nc) S r true g tn fB fS fT 0 wz ⟨sa, sc, ta, tc, na, nc, rfl, a, b, c⟩ hS m4 (by omega) (by omega) m5)
      unfold LOfTold at OF
      have RC := Lib.hid (fun wz p => r6Count_any s1 sn c1 S' wz p g1)
      unfold CntTold cntI at RC
      have LN := Lib.hid (fun wz a b c => r6Len_any (plC sa r sc true ta tn tc na 0 nc) S r true g tn fB fS fT 0 wz ⟨sa, sc, ta, tc, na, nc, rfl, a, b, c⟩ (by omega) (by omega))
      rw [show ((tn + 0 : Nat) : Int) = (tn : Int) by omega] at LN
      have PK := Lib.hid (fun ta3 tc3 wz q a b => pickC_any (arrC true ((r : Int) - 1) (dm S r) none 0 0 ta3 tn tc3) S r tn g s1 sn c1 S' t1 m d1 at' wz ⟨ta3, tc3, rfl, q⟩ a g1 b g2 (by omega))
      unfold CharsTold at PK
      have RP := Lib.hid (fun wz a b c d e => r6PickC_any (plC sa r sc true ta tn tc na 0 nc) S r g tn fB fS fT s1 sn c1 S' t1 m d1 at' wz ⟨sa, sc, ta, tc, na, nc, rfl, a, b, c⟩ d e (by omega) (by omega))
      have RV := Lib.hid (fun ta3 tc3 wz q => ravelC_any (arrC true ((r : Int) - 1) (dm S r) none 0 0 ta3 tn tc3) S r tn g wz ⟨ta3, tc3, rfl, q⟩ (by omega))
      unfold ChrTold1 at RV
      have PV := Lib.hid (fun cs wz h => plainC_any cs (fun _ => (tn : Int)) 1 tn g wz (by omega) h (by omega))
      have HFS : plB true true 1 1 (fun _ => (tn : Int)) (fun _ => (tn : Int)) tn tn g g 0 0 (fun _ => rB 0) (fun _ => rS 0) (fun _ => str (dec 1)) fB fS fT = true := plB_of (fun _ _ => rfl) (fun j hj => absurd hj (Nat.not_lt_zero _))
      unfold PlnTold at RP
      have FS := Lib.hid (fun wz kf xx q a b c => pl_same (w := wz) (cs := xx) (cs' := plC (some ⟨kf, 0, none⟩) 1 1 true ta tn tc na 0 nc) HFS q ⟨some ⟨kf, 0, none⟩, 1, ta, tc, na, nc, rfl, a, b, c⟩)
      obtain ⟨bb, hbb⟩ : ∃ b, (shB S' sn && decide (itm S' sn = (m : Int))) = b := ⟨_, rfl⟩
      obtain ⟨K0, hK0⟩ : ∃ x, (if shB S' sn = true then itm S' sn else 0) = x := ⟨_, rfl⟩
      obtain ⟨sh, hsh⟩ : ∃ b, shB S' sn = b := ⟨_, rfl⟩
      have Q1 := Lib.hid (pick_facts hbb hK0 hsh)
      rw [hbb] at PK
      rw [hK0, hsh] at RC
      clear hbb hK0 hsh HFS
      unfold plC at LN RP FS OF
      unfold arrC at RV PK
      obtain ⟨x0, x1, x2, x3⟩ := pl_cells BB.out.now.1
      go_wp2_with fail
      go_at_call 41
      (with_reducible refine (OF.out _ ?_ ?_ ?_).mono ?_)
      · exact BB.out.now.2.2.2.2.2.1
      · exact BB.out.now.2.2.2.2.1
      · exact BB.out.now.2.2.2.1
      rintro e w3 ⟨na3, nc3, ta3, tc3, rfl, hr3, ht3, hf3, hg3, hb3⟩
      obtain ⟨rfl, rfl⟩ := hg3 trivial
      have BB := Lib.hid (((BB.out.go hb3).krow ht3).newRow (arrC true ((r : Int) - 1) (dm S r) none 0 0 ta3 tn tc3) 50)
      have HR1 := Lib.hid BB.out.now.1
      clear hr3 ht3 hf3 hg3 hb3 x0 x1 x2 x3 OF
      unfold arrC
      unfold arrC at BB
      obtain ⟨y0, y1, y2, y3, y4, y5, y6, y7, y8, y9, y10, y11, _⟩ := ab_cellsA BB.out.now.1 trivial
      go_wp2_with fail
      go_at_call 42
      (with_reducible refine (PK.out _ _ _ BB.out.now.2.1 BB.out.now.2.2.2.2.1 BB.out.now.2.2.2.1).mono ?_)
      rintro e w4 ⟨cs4, rfl, hc4, hb4⟩
      have BB := Lib.hid (BB.out.go hb4)
      clear hb4 HR1 PK y0 y1 y2 y3 y4 y5 y6 y7 y8 y9 y10 y11
      cases bb with
      | true =>
        obtain ⟨hsh, hsn⟩ := Q1.out.2.2 rfl
        subst hsh
        have hk0 := Q1.out.1 rfl
        rw [if_pos rfl] at hc4
        obtain ⟨ta4, tc4, rfl, hc5⟩ := hc4
        have BB := Lib.hid ((BB.out.krow hc5).newRow (arrC true ((sn : Int) - 1) (dm S' sn) none 0 0 ta4 m tc4) 50)
        clear hc5
        unfold arrC
        unfold arrC at BB
        have PB := Lib.hid (fun wz q => plainC_any (arrC true ((sn : Int) - 1) (dm S' sn) none 0 0 ta4 m tc4) S' sn m (fun j => elC tn g 32 (at' j)) wz hsn ⟨ta4, tc4, rfl, q⟩ (by omega))
        unfold arrC at PB
        clear hsn Q1
        go_wp2_with fail
        go_at_call 43
        (with_reducible refine (RC.out _ (BB.out.now.2.2.2.2.2.2.1)).mono ?_)
        rintro e w5 ⟨rfl, hw5⟩
        have BB := Lib.hid (hw5 ▸ BB.out)
        clear hw5
        obtain ⟨x0, x1, x2, x3⟩ := pl_cells (BB.out.now.2.2.2.2.1)
        have BA := BB
        have BB := Lib.hid (BB.out.newRow #[.slice sa r sc, .bool true, .slice ta tn tc, .slice na 0 nc] 46)
        obtain ⟨y0, y1, y2, y3⟩ := pl_cells (BB.out.now.2.2.2.2.2.1)
        go_wp2_with fail
        go_at_call 29
        (with_reducible refine (LN.out _ (BB.out.now.2.2.2.2.2.2.2.2.2.2.1) (BB.out.now.2.2.2.2.2.2.2.2.2.1) (BB.out.now.2.2.2.2.2.2.2.2.1)).mono ?_)
        rintro e w7 ⟨rfl, hb7⟩
        have BB := Lib.hid ((BB.out.go hb7).alloc (.cells #[.int .i64 (tn : Int)] 3))
        have HK := Lib.hid (KRow.one' w7 .i64 (tn : Int) 3)
        have hs7 : w5.heap.size + 1 ≤ w7.heap.size := by have := hb7.size; rwa [World.size_alloc] at this
        have hbA : Below w5.heap.size w5 w7 := ((Below.refl _ _).alloc (Nat.le_refl _) (.cells #[.slice sa r sc, .bool true, .slice ta tn tc, .slice na 0 nc] 46)).trans (hb7.mono (by rw [World.size_alloc]; omega))
        clear hb7 x0 x1 x2 x3 y0 y1 y2 y3
        have r12 := BB.out.now.1
        have f12 := r12.free 0
        have v12 := r12.cell 0
        have hbD : Below w5.heap.size w5 ((w7.alloc (.cells #[.int .i64 (tn : Int)] 3)).setCell ⟨w5.heap.size, 0, none⟩ (Value.slice (some ⟨w7.heap.size, 0, none⟩) 1 1)) := (hbA.alloc (by omega) _).setCell (p := ⟨w5.heap.size, 0, none⟩) (Nat.le_refl _) _
        have BD := BA.out.go hbD
        have r13 : Row ((w7.alloc (.cells #[.int .i64 (tn : Int)] 3)).setCell ⟨w5.heap.size, 0, none⟩ (Value.slice (some ⟨w7.heap.size, 0, none⟩) 1 1)) w5.heap.size 46 #[.slice (some ⟨w7.heap.size, 0, none⟩) 1 1, .bool true, .slice ta tn tc, .slice na 0 nc] := r12.set 0 (Value.slice (some ⟨w7.heap.size, 0, none⟩) 1 1)
        have kf : KRow ((w7.alloc (.cells #[.int .i64 (tn : Int)] 3)).setCell ⟨w5.heap.size, 0, none⟩ (Value.slice (some ⟨w7.heap.size, 0, none⟩) 1 1)) .i64 (some ⟨w7.heap.size, 0, none⟩) 1 1 (fun _ => (tn : Int)) := HK.out.away (.inr (fun x hx e => by obtain rfl := Option.some.inj hx; have e : w7.heap.size = w5.heap.size := e; omega)) (Far.setCell _ _ _ _)
        have B10 : Hid (Bag w (fun y => Row y w5.heap.size 46 #[.slice (some ⟨w7.heap.size, 0, none⟩) 1 1, .bool true, .slice ta tn tc, .slice na 0 nc] ∧ Row y w4.heap.size 50 #[.bool true, .int .i64 ((sn : Int) - 1), .int .i64 (dm S' sn 0), .int .i64 (dm S' sn 1), .int .i64 (dm S' sn 2), .int .i64 (dm S' sn 3), .int .i64 (dm S' sn 4), .int .i64 (dm S' sn 5), .int .i64 (dm S' sn 6), .int .i64 (dm S' sn 7), .slice none 0 0, .slice ta4 m tc4] ∧ Row y w3.heap.size 50 #[.bool true, .int .i64 ((r : Int) - 1), .int .i64 (dm S r 0), .int .i64 (dm S r 1), .int .i64 (dm S r 2), .int .i64 (dm S r 3), .int .i64 (dm S r 4), .int .i64 (dm S r 5), .int .i64 (dm S r 6), .int .i64 (dm S r 7), .slice none 0 0, .slice ta3 tn tc3] ∧ Row y w.heap.size 46 #[.slice sa r sc, .bool true, .slice ta tn tc, .slice na 0 nc] ∧ KRow y .i64 (some ⟨w7.heap.size, 0, none⟩) 1 1 (fun _ => (tn : Int)) ∧ KRow y .i32 ta4 m tc4 (fun j => elC tn g 32 (at' j)) ∧ KRow y .i32 ta3 tn tc3 g ∧ KRow y .i64 t1 m d1 at' ∧ KRow y .i64 s1 sn c1 S' ∧ QRow y na 0 nc fB fS fT ∧ KRow y .i32 ta tn tc g ∧ KRow y .i64 sa r sc S ∧ True) ((w7.alloc (.cells #[.int .i64 (tn : Int)] 3)).setCell ⟨w5.heap.size, 0, none⟩ (Value.slice (some ⟨w7.heap.size, 0, none⟩) 1 1))) := Lib.hid (((((((((((((⟨BD.below, fun _ _ _ _ => trivial, trivial⟩ : Bag w (fun _ => True) ((w7.alloc (.cells #[.int .i64 (tn : Int)] 3)).setCell ⟨w5.heap.size, 0, none⟩ (Value.slice (some ⟨w7.heap.size, 0, none⟩) 1 1))).krow (BD.now.2.2.2.2.2.2.2.2.2.1)).krow (BD.now.2.2.2.2.2.2.2.2.1)).qrow (BD.now.2.2.2.2.2.2.2.1)).krow (BD.now.2.2.2.2.2.2.1)).krow (BD.now.2.2.2.2.2.1)).krow (BD.now.2.2.2.1)).krow (BD.now.2.1)).krow (kf)).row (BD.now.2.2.2.2.1)).row (BD.now.2.2.1)).row (BD.now.1)).row (r13))
        clear r13 kf BD hbD BA HK hbA BB
        go_wp2_with fail
        generalize ((w7.alloc (.cells #[.int .i64 (tn : Int)] 3)).setCell ⟨w5.heap.size, 0, none⟩ (Value.slice (some ⟨w7.heap.size, 0, none⟩) 1 1)) = yD at *
        clear v12 f12 r12 hs7
        refine Code.wp_mono (Q := fun e ac yw => match e with | .normal => ac.tmps.size = 85 ∧ ac.defers = [] ∧ ac.tmps[6]? = some (.bool true) ∧ Below w.heap.size w yw | _ => False) ?_ ?_
        · intro e ac yw
          cases e
          case normal =>
            rintro ⟨hsz, hdf, t6, hbw⟩
            obtain ⟨TV, hTV⟩ : ∃ TV : Nat → Value, ∀ i, (ac.tmps[i]?).getD undef = TV i := ⟨_, fun _ => rfl⟩
            have f6 := (hTV 6).symm.trans (congrArg (fun x => Option.getD x undef) t6)
            have hac := act_eq (n := 85) hsz TV hTV
            rw [show ((List.range 85).map TV).toArray = #[TV 0, TV 1, TV 2, TV 3, TV 4, TV 5, TV 6, TV 7, TV 8, TV 9, TV 10, TV 11, TV 12, TV 13, TV 14, TV 15, TV 16, TV 17, TV 18, TV 19, TV 20, TV 21, TV 22, TV 23, TV 24, TV 25, TV 26, TV 27, TV 28, TV 29, TV 30, TV 31, TV 32, TV 33, TV 34, TV 35, TV 36, TV 37, TV 38, TV 39, TV 40, TV 41, TV 42, TV 43, TV 44, TV 45, TV 46, TV 47, TV 48, TV 49, TV 50, TV 51, TV 52, TV 53, TV 54, TV 55, TV 56, TV 57, TV 58, TV 59, TV 60, TV 61, TV 62, TV 63, TV 64, TV 65, TV 66, TV 67, TV 68, TV 69, TV 70, TV 71, TV 72, TV 73, TV 74, TV 75, TV 76, TV 77, TV 78, TV 79, TV 80, TV 81, TV 82, TV 83, TV 84] from rfl, f6, hdf] at hac
            simp only [Option.getD_some] at hac
            subst hac
            clear hTV f6
            have HE := Lib.hid hbw
            clear t6 hbw B10
            go_wp2
            go_ret
            exact ⟨rfl, HE.out⟩
          all_goals exact fun h => h.elim
        · refine wp_region_inv2 ⟨(fun j => ([[64], [65], [66], [67], [68], [69], [70], [71], [72], [73], [74], [75], [76], [77], [78], [79], [80], [81], [82], [83], [84], [6]] : List (List Nat)).getD j []), (fun j => ([[], [0], [0, 1], [0, 1, 2], [0, 1, 2, 3], [0, 1, 2], [0, 1, 2], [0, 1, 2], [0, 1, 2, 3, 4, 5, 6, 7], [0, 1, 2, 3, 4, 5, 6, 7, 8], [0, 1, 2, 3, 4, 5, 6, 7, 8, 9], [0, 1, 2, 3, 4, 5, 6, 7, 8, 9, 10], [0, 1, 2, 3, 4, 5, 6, 7, 8, 9, 10, 11], [0, 1, 2, 3, 4, 5, 6, 7, 8, 9, 10, 11, 12], [0, 1, 2, 3, 4, 5, 6, 7, 8, 9, 10, 11, 12, 13], [0, 1, 2, 3, 4, 5, 6, 7, 8, 9, 10, 11], [0, 1, 2, 3, 4, 5, 6, 7, 8, 9, 10, 11, 12, 13, 14, 15], [0, 1, 2, 3, 4, 5, 6, 7, 8, 9, 10, 11, 12, 13, 14, 15, 16], [0, 1, 2, 3, 4, 5, 6, 7, 8, 9, 10, 11, 12, 13, 14, 15, 16, 17], [0, 1, 2, 3, 4, 5, 6, 7, 8, 9, 10, 11, 12, 13, 14, 15, 16, 17, 18], [0, 1, 2, 3, 4, 5, 6, 7, 8, 9, 10, 11, 12, 13, 14, 15, 16, 17, 18, 19], [0, 1, 2, 3, 4, 5, 6, 7, 8, 9, 10, 11, 12, 13, 14, 15, 16, 17, 18, 19, 20]] : List (List Nat)).getD j []), []⟩ (fun jj vv yy => match jj with | 0 => vv = [some (.bool true)] | 1 => vv = [some (.bool false)] | 2 => vv = [some (.bool false)] | 3 => vv = [some (.agg #[.bool true, .int .i64 ((sn : Int) - 1), .int .i64 (dm S' sn 0), .int .i64 (dm S' sn 1), .int .i64 (dm S' sn 2), .int .i64 (dm S' sn 3), .int .i64 (dm S' sn 4), .int .i64 (dm S' sn 5), .int .i64 (dm S' sn 6), .int .i64 (dm S' sn 7), .slice none 0 0, .slice ta4 m tc4])] | 4 => ∃ (x4 : Array Value), vv = [some (.agg x4)] ∧ PlnAt yy x4 S' sn true (fun j => elC tn g 32 (at' j)) m (fun _ => rB 0) (fun _ => rS 0) (fun _ => str (dec 1)) 0 | 5 => vv = [some (.agg #[.slice sa r sc, .bool true, .slice ta tn tc, .slice na 0 nc])] | 6 => vv = [some (.slice s1 sn c1)] | 7 => vv = [some (.slice t1 m d1)] | 8 => ∃ (x8 : Array Value), vv = [some (.agg x8)] ∧ PlnAt yy x8 S' sn true (fun j => elC tn g 32 (at' j)) m (fun _ => rB 0) (fun _ => rS 0) (fun _ => str (dec 1)) 0 | 9 => vv = [some (.bool true)] | 10 => vv = [some (.bool true)] | 11 => vv = [some (.bool true)] | 12 => vv = [some (.agg #[.bool true, .int .i64 ((r : Int) - 1), .int .i64 (dm S r 0), .int .i64 (dm S r 1), .int .i64 (dm S r 2), .int .i64 (dm S r 3), .int .i64 (dm S r 4), .int .i64 (dm S r 5), .int .i64 (dm S r 6), .int .i64 (dm S r 7), .slice none 0 0, .slice ta3 tn tc3])] | 13 => ∃ (x13 : Array Value), vv = [some (.agg x13)] ∧ ChrArr yy x13 (fun _ => (tn : Int)) 1 tn g | 14 => ∃ (x14 : Array Value), vv = [some (.agg x14)] ∧ PlnAt yy x14 (fun _ => (tn : Int)) 1 true g tn (fun _ => rB 0) (fun _ => rS 0) (fun _ => str (dec 1)) 0 | 15 => vv = [some (.agg #[.slice (some ⟨w7.heap.size, 0, none⟩) 1 1, .bool true, .slice ta tn tc, .slice na 0 nc])] | 16 => vv = [some (.bool true)] | 17 => vv = [some (.bool true)] | 18 => vv = [some (.bool true)] | 19 => vv = [some (.bool true)] | 20 => vv = [some (.bool true)] | 21 => vv = [some (.bool true)] | _ => True) (Bag w (fun y => Row y w5.heap.size 46 #[.slice (some ⟨w7.heap.size, 0, none⟩) 1 1, .bool true, .slice ta tn tc, .slice na 0 nc] ∧ Row y w4.heap.size 50 #[.bool true, .int .i64 ((sn : Int) - 1), .int .i64 (dm S' sn 0), .int .i64 (dm S' sn 1), .int .i64 (dm S' sn 2), .int .i64 (dm S' sn 3), .int .i64 (dm S' sn 4), .int .i64 (dm S' sn 5), .int .i64 (dm S' sn 6), .int .i64 (dm S' sn 7), .slice none 0 0, .slice ta4 m tc4] ∧ Row y w3.heap.size 50 #[.bool true, .int .i64 ((r : Int) - 1), .int .i64 (dm S r 0), .int .i64 (dm S r 1), .int .i64 (dm S r 2), .int .i64 (dm S r 3), .int .i64 (dm S r 4), .int .i64 (dm S r 5), .int .i64 (dm S r 6), .int .i64 (dm S r 7), .slice none 0 0, .slice ta3 tn tc3] ∧ Row y w.heap.size 46 #[.slice sa r sc, .bool true, .slice ta tn tc, .slice na 0 nc] ∧ KRow y .i64 (some ⟨w7.heap.size, 0, none⟩) 1 1 (fun _ => (tn : Int)) ∧ KRow y .i32 ta4 m tc4 (fun j => elC tn g 32 (at' j)) ∧ KRow y .i32 ta3 tn tc3 g ∧ KRow y .i64 t1 m d1 at' ∧ KRow y .i64 s1 sn c1 S' ∧ QRow y na 0 nc fB fS fT ∧ KRow y .i32 ta tn tc g ∧ KRow y .i64 sa r sc S ∧ True)) (by kernel_rfl) (by kernel_rfl) (by kernel_rfl) B10.out.drew ?_ ?_ ?_
          · intro jj vv yw yw2 hb h
            match jj, h with
            | 0, h => exact h
            | 1, h => exact h
            | 2, h => exact h
            | 3, h => exact h
            | 4, ⟨x4, e4, g4_0⟩ => exact Exists.intro x4 (And.intro e4 (g4_0.below hb))
            | 5, h => exact h
            | 6, h => exact h
            | 7, h => exact h
            | 8, ⟨x8, e8, g8_0⟩ => exact Exists.intro x8 (And.intro e8 (g8_0.below hb))
            | 9, h => exact h
            | 10, h => exact h
            | 11, h => exact h
            | 12, h => exact h
            | 13, ⟨x13, e13, g13_0⟩ => exact Exists.intro x13 (And.intro e13 (g13_0.below hb))
            | 14, ⟨x14, e14, g14_0⟩ => exact Exists.intro x14 (And.intro e14 (g14_0.below hb))
            | 15, h => exact h
            | 16, h => exact h
            | 17, h => exact h
            | 18, h => exact h
            | 19, h => exact h
            | 20, h => exact h
            | 21, h => exact h
            | _ + 22, h => exact h
          · intro ac yw hsz hdf hold hB hp
            exact ⟨hsz, hdf, (List.cons.inj (hp 21 (by decide))).1, hB.below⟩
          refine Stps2.cons (o := _) ?_ ?_
          · intro ac yw hsz hold hB hp K hK
            have t9 : ac.tmps[9]? = some (.bool true) := hold 9 (by kernel_rfl)
            clear hold hp hsz
            go_simp
            exact hK.out _ _ ⟨hB, rfl, Nat.le_refl _, .inl (Below.refl _ _), fun h => absurd h (by decide)⟩
          refine Stps2.cons (o := _) ?_ ?_
          · intro ac yw hsz hold hB hp K hK
            have e0 := hp 0 (by decide)
            have t64 : ac.tmps[64]? = some (.bool true) := (List.cons.inj e0).1
            clear hold hp hsz e0
            go_simp
            exact hK.out _ _ ⟨hB, rfl, Nat.le_refl _, .inl (Below.refl _ _), fun h => absurd h (by decide)⟩
          refine Stps2.cons (o := _) ?_ ?_
          · intro ac yw hsz hold hB hp K hK
            have e1 := hp 1 (by decide)
            have t65 : ac.tmps[65]? = some (.bool false) := (List.cons.inj e1).1
            clear hold hp hsz e1
            go_simp
            exact hK.out _ _ ⟨hB, rfl, Nat.le_refl _, .inl (Below.refl _ _), fun h => absurd h (by decide)⟩
          refine Stps2.cons (o := _) ?_ ?_
          · intro ac yw hsz hold hB hp K hK
            have t66 : ac.tmps[66]? = some (.bool false) := (List.cons.inj (hp 2 (by decide))).1
            rw [if_pos (wanted_pos rfl rfl t66)]
            have t8 : ac.tmps[8]? = some (.pointer (some ⟨w4.heap.size, 0, none⟩)) := hold 8 (by kernel_rfl)
            clear hold hp hsz
            have v0_0 : yw.cell? ⟨w.heap.size, 0, none⟩ = some (.slice sa r sc) := hB.now.2.2.2.1.cell 0
            have v0_1 : yw.cell? ⟨w.heap.size, 1, none⟩ = some (.bool true) := hB.now.2.2.2.1.cell 1
            have v0_2 : yw.cell? ⟨w.heap.size, 2, none⟩ = some (.slice ta tn tc) := hB.now.2.2.2.1.cell 2
            have v0_3 : yw.cell? ⟨w.heap.size, 3, none⟩ = some (.slice na 0 nc) := hB.now.2.2.2.1.cell 3
            have v1_0 : yw.cell? ⟨w3.heap.size, 0, none⟩ = some (.bool true) := hB.now.2.2.1.cell 0
            have v1_1 : yw.cell? ⟨w3.heap.size, 1, none⟩ = some (.int .i64 ((r : Int) - 1)) := hB.now.2.2.1.cell 1
            have v1_2 : yw.cell? ⟨w3.heap.size, 2, none⟩ = some (.int .i64 (dm S r 0)) := hB.now.2.2.1.cell 2
            have v1_3 : yw.cell? ⟨w3.heap.size, 3, none⟩ = some (.int .i64 (dm S r 1)) := hB.now.2.2.1.cell 3
            have v1_4 : yw.cell? ⟨w3.heap.size, 4, none⟩ = some (.int .i64 (dm S r 2)) := hB.now.2.2.1.cell 4
            have v1_5 : yw.cell? ⟨w3.heap.size, 5, none⟩ = some (.int .i64 (dm S r 3)) := hB.now.2.2.1.cell 5
            have v1_6 : yw.cell? ⟨w3.heap.size, 6, none⟩ = some (.int .i64 (dm S r 4)) := hB.now.2.2.1.cell 6
            have v1_7 : yw.cell? ⟨w3.heap.size, 7, none⟩ = some (.int .i64 (dm S r 5)) := hB.now.2.2.1.cell 7
            have v1_8 : yw.cell? ⟨w3.heap.size, 8, none⟩ = some (.int .i64 (dm S r 6)) := hB.now.2.2.1.cell 8
            have v1_9 : yw.cell? ⟨w3.heap.size, 9, none⟩ = some (.int .i64 (dm S r 7)) := hB.now.2.2.1.cell 9
            have v1_10 : yw.cell? ⟨w3.heap.size, 10, none⟩ = some (.slice none 0 0) := hB.now.2.2.1.cell 10
            have v1_11 : yw.cell? ⟨w3.heap.size, 11, none⟩ = some (.slice ta3 tn tc3) := hB.now.2.2.1.cell 11
            have v2_0 : yw.cell? ⟨w4.heap.size, 0, none⟩ = some (.bool true) := hB.now.2.1.cell 0
            have v2_1 : yw.cell? ⟨w4.heap.size, 1, none⟩ = some (.int .i64 ((sn : Int) - 1)) := hB.now.2.1.cell 1
            have v2_2 : yw.cell? ⟨w4.heap.size, 2, none⟩ = some (.int .i64 (dm S' sn 0)) := hB.now.2.1.cell 2
            have v2_3 : yw.cell? ⟨w4.heap.size, 3, none⟩ = some (.int .i64 (dm S' sn 1)) := hB.now.2.1.cell 3
            have v2_4 : yw.cell? ⟨w4.heap.size, 4, none⟩ = some (.int .i64 (dm S' sn 2)) := hB.now.2.1.cell 4
            have v2_5 : yw.cell? ⟨w4.heap.size, 5, none⟩ = some (.int .i64 (dm S' sn 3)) := hB.now.2.1.cell 5
            have v2_6 : yw.cell? ⟨w4.heap.size, 6, none⟩ = some (.int .i64 (dm S' sn 4)) := hB.now.2.1.cell 6
            have v2_7 : yw.cell? ⟨w4.heap.size, 7, none⟩ = some (.int .i64 (dm S' sn 5)) := hB.now.2.1.cell 7
            have v2_8 : yw.cell? ⟨w4.heap.size, 8, none⟩ = some (.int .i64 (dm S' sn 6)) := hB.now.2.1.cell 8
            have v2_9 : yw.cell? ⟨w4.heap.size, 9, none⟩ = some (.int .i64 (dm S' sn 7)) := hB.now.2.1.cell 9
            have v2_10 : yw.cell? ⟨w4.heap.size, 10, none⟩ = some (.slice none 0 0) := hB.now.2.1.cell 10
            have v2_11 : yw.cell? ⟨w4.heap.size, 11, none⟩ = some (.slice ta4 m tc4) := hB.now.2.1.cell 11
            have v3_0 : yw.cell? ⟨w5.heap.size, 0, none⟩ = some (.slice (some ⟨w7.heap.size, 0, none⟩) 1 1) := hB.now.1.cell 0
            have v3_1 : yw.cell? ⟨w5.heap.size, 1, none⟩ = some (.bool true) := hB.now.1.cell 1
            have v3_2 : yw.cell? ⟨w5.heap.size, 2, none⟩ = some (.slice ta tn tc) := hB.now.1.cell 2
            have v3_3 : yw.cell? ⟨w5.heap.size, 3, none⟩ = some (.slice na 0 nc) := hB.now.1.cell 3
            go_simp
            exact hK.out _ _ ⟨hB, rfl, Nat.le_refl _, .inl (Below.refl _ _), fun h => absurd h (by decide)⟩
          refine Stps2.cons (o := _) ?_ ?_
          · intro ac yw hsz hold hB hp K hK
            have t66 : ac.tmps[66]? = some (.bool false) := (List.cons.inj (hp 2 (by decide))).1
            rw [if_pos (wanted_pos rfl rfl t66)]
            have e3 := hp 3 (by decide)
            have t67 : ac.tmps[67]? = some (.agg #[.bool true, .int .i64 ((sn : Int) - 1), .int .i64 (dm S' sn 0), .int .i64 (dm S' sn 1), .int .i64 (dm S' sn 2), .int .i64 (dm S' sn 3), .int .i64 (dm S' sn 4), .int .i64 (dm S' sn 5), .int .i64 (dm S' sn 6), .int .i64 (dm S' sn 7), .slice none 0 0, .slice ta4 m tc4]) := (List.cons.inj e3).1
            clear hold hp hsz e3
            go_simp
            (go_at_call 24; (with_reducible refine (PB.out _ (hB.now.2.2.2.2.2.1)).mono ?_); rintro e wz ⟨x4, rfl, h4_0, hbz⟩)
            exact hK.out _ _ ⟨hB.go hbz, Exists.intro x4 (And.intro rfl h4_0), hbz.size, .inl hbz, fun h => absurd h (by decide)⟩
          refine Stps2.cons (o := _) ?_ ?_
          · intro ac yw hsz hold hB hp K hK
            have t66 : ac.tmps[66]? = some (.bool false) := (List.cons.inj (hp 2 (by decide))).1
            rw [if_pos (wanted_pos rfl rfl t66)]
            have t3 : ac.tmps[3]? = some (.pointer (some ⟨w.heap.size, 0, none⟩)) := hold 3 (by kernel_rfl)
            clear hold hp hsz
            have v0_0 : yw.cell? ⟨w.heap.size, 0, none⟩ = some (.slice sa r sc) := hB.now.2.2.2.1.cell 0
            have v0_1 : yw.cell? ⟨w.heap.size, 1, none⟩ = some (.bool true) := hB.now.2.2.2.1.cell 1
            have v0_2 : yw.cell? ⟨w.heap.size, 2, none⟩ = some (.slice ta tn tc) := hB.now.2.2.2.1.cell 2
            have v0_3 : yw.cell? ⟨w.heap.size, 3, none⟩ = some (.slice na 0 nc) := hB.now.2.2.2.1.cell 3
            have v1_0 : yw.cell? ⟨w3.heap.size, 0, none⟩ = some (.bool true) := hB.now.2.2.1.cell 0
            have v1_1 : yw.cell? ⟨w3.heap.size, 1, none⟩ = some (.int .i64 ((r : Int) - 1)) := hB.now.2.2.1.cell 1
            have v1_2 : yw.cell? ⟨w3.heap.size, 2, none⟩ = some (.int .i64 (dm S r 0)) := hB.now.2.2.1.cell 2
            have v1_3 : yw.cell? ⟨w3.heap.size, 3, none⟩ = some (.int .i64 (dm S r 1)) := hB.now.2.2.1.cell 3
            have v1_4 : yw.cell? ⟨w3.heap.size, 4, none⟩ = some (.int .i64 (dm S r 2)) := hB.now.2.2.1.cell 4
            have v1_5 : yw.cell? ⟨w3.heap.size, 5, none⟩ = some (.int .i64 (dm S r 3)) := hB.now.2.2.1.cell 5
            have v1_6 : yw.cell? ⟨w3.heap.size, 6, none⟩ = some (.int .i64 (dm S r 4)) := hB.now.2.2.1.cell 6
            have v1_7 : yw.cell? ⟨w3.heap.size, 7, none⟩ = some (.int .i64 (dm S r 5)) := hB.now.2.2.1.cell 7
            have v1_8 : yw.cell? ⟨w3.heap.size, 8, none⟩ = some (.int .i64 (dm S r 6)) := hB.now.2.2.1.cell 8
            have v1_9 : yw.cell? ⟨w3.heap.size, 9, none⟩ = some (.int .i64 (dm S r 7)) := hB.now.2.2.1.cell 9
            have v1_10 : yw.cell? ⟨w3.heap.size, 10, none⟩ = some (.slice none 0 0) := hB.now.2.2.1.cell 10
            have v1_11 : yw.cell? ⟨w3.heap.size, 11, none⟩ = some (.slice ta3 tn tc3) := hB.now.2.2.1.cell 11
            have v2_0 : yw.cell? ⟨w4.heap.size, 0, none⟩ = some (.bool true) := hB.now.2.1.cell 0
            have v2_1 : yw.cell? ⟨w4.heap.size, 1, none⟩ = some (.int .i64 ((sn : Int) - 1)) := hB.now.2.1.cell 1
            have v2_2 : yw.cell? ⟨w4.heap.size, 2, none⟩ = some (.int .i64 (dm S' sn 0)) := hB.now.2.1.cell 2
            have v2_3 : yw.cell? ⟨w4.heap.size, 3, none⟩ = some (.int .i64 (dm S' sn 1)) := hB.now.2.1.cell 3
            have v2_4 : yw.cell? ⟨w4.heap.size, 4, none⟩ = some (.int .i64 (dm S' sn 2)) := hB.now.2.1.cell 4
            have v2_5 : yw.cell? ⟨w4.heap.size, 5, none⟩ = some (.int .i64 (dm S' sn 3)) := hB.now.2.1.cell 5
            have v2_6 : yw.cell? ⟨w4.heap.size, 6, none⟩ = some (.int .i64 (dm S' sn 4)) := hB.now.2.1.cell 6
            have v2_7 : yw.cell? ⟨w4.heap.size, 7, none⟩ = some (.int .i64 (dm S' sn 5)) := hB.now.2.1.cell 7
            have v2_8 : yw.cell? ⟨w4.heap.size, 8, none⟩ = some (.int .i64 (dm S' sn 6)) := hB.now.2.1.cell 8
            have v2_9 : yw.cell? ⟨w4.heap.size, 9, none⟩ = some (.int .i64 (dm S' sn 7)) := hB.now.2.1.cell 9
            have v2_10 : yw.cell? ⟨w4.heap.size, 10, none⟩ = some (.slice none 0 0) := hB.now.2.1.cell 10
            have v2_11 : yw.cell? ⟨w4.heap.size, 11, none⟩ = some (.slice ta4 m tc4) := hB.now.2.1.cell 11
            have v3_0 : yw.cell? ⟨w5.heap.size, 0, none⟩ = some (.slice (some ⟨w7.heap.size, 0, none⟩) 1 1) := hB.now.1.cell 0
            have v3_1 : yw.cell? ⟨w5.heap.size, 1, none⟩ = some (.bool true) := hB.now.1.cell 1
            have v3_2 : yw.cell? ⟨w5.heap.size, 2, none⟩ = some (.slice ta tn tc) := hB.now.1.cell 2
            have v3_3 : yw.cell? ⟨w5.heap.size, 3, none⟩ = some (.slice na 0 nc) := hB.now.1.cell 3
            go_simp
            exact hK.out _ _ ⟨hB, rfl, Nat.le_refl _, .inl (Below.refl _ _), fun h => absurd h (by decide)⟩
          refine Stps2.cons (o := _) ?_ ?_
          · intro ac yw hsz hold hB hp K hK
            have t66 : ac.tmps[66]? = some (.bool false) := (List.cons.inj (hp 2 (by decide))).1
            rw [if_pos (wanted_pos rfl rfl t66)]
            have t1 : ac.tmps[1]? = some (.slice s1 sn c1) := hold 1 (by kernel_rfl)
            clear hold hp hsz
            go_simp
            exact hK.out _ _ ⟨hB, rfl, Nat.le_refl _, .inl (Below.refl _ _), fun h => absurd h (by decide)⟩
          refine Stps2.cons (o := _) ?_ ?_
          · intro ac yw hsz hold hB hp K hK
            have t66 : ac.tmps[66]? = some (.bool false) := (List.cons.inj (hp 2 (by decide))).1
            rw [if_pos (wanted_pos rfl rfl t66)]
            have t2 : ac.tmps[2]? = some (.slice t1 m d1) := hold 2 (by kernel_rfl)
            clear hold hp hsz
            go_simp
            exact hK.out _ _ ⟨hB, rfl, Nat.le_refl _, .inl (Below.refl _ _), fun h => absurd h (by decide)⟩
          refine Stps2.cons (o := _) ?_ ?_
          · intro ac yw hsz hold hB hp K hK
            have t66 : ac.tmps[66]? = some (.bool false) := (List.cons.inj (hp 2 (by decide))).1
            rw [if_pos (wanted_pos rfl rfl t66)]
            have e5 := hp 5 (by decide)
            have t69 : ac.tmps[69]? = some (.agg #[.slice sa r sc, .bool true, .slice ta tn tc, .slice na 0 nc]) := (List.cons.inj e5).1
            have e6 := hp 6 (by decide)
            have t70 : ac.tmps[70]? = some (.slice s1 sn c1) := (List.cons.inj e6).1
            have e7 := hp 7 (by decide)
            have t71 : ac.tmps[71]? = some (.slice t1 m d1) := (List.cons.inj e7).1
            clear hold hp hsz e5 e6 e7
            go_simp
            (go_at_call 44; (with_reducible refine (RP.out _ (hB.now.2.2.2.2.2.2.2.2.2.2.2.1) (hB.now.2.2.2.2.2.2.2.2.2.2.1) (hB.now.2.2.2.2.2.2.2.2.2.1) (hB.now.2.2.2.2.2.2.2.2.1) (hB.now.2.2.2.2.2.2.2.1)).mono ?_); intro e wz hs9; obtain ⟨x8, rfl, h8_0, hbz⟩ := hs9 (fun _ => rB 0) (fun _ => rS 0) (fun _ => str (dec 1)))
            exact hK.out _ _ ⟨hB.go hbz, Exists.intro x8 (And.intro rfl h8_0), hbz.size, .inl hbz, fun h => absurd h (by decide)⟩
          refine Stps2.cons (o := _) ?_ ?_
          · intro ac yw hsz hold hB hp K hK
            have t66 : ac.tmps[66]? = some (.bool false) := (List.cons.inj (hp 2 (by decide))).1
            rw [if_pos (wanted_pos rfl rfl t66)]
            obtain ⟨x4_4, e4, g4_0⟩ := hp 4 (by decide)
            have t68 : ac.tmps[68]? = some (.agg x4_4) := (List.cons.inj e4).1
            obtain ⟨x8_8, e8, g8_0⟩ := hp 8 (by decide)
            have t72 : ac.tmps[72]? = some (.agg x8_8) := (List.cons.inj e8).1
            clear hold hp hsz e4 e8
            go_simp
            (go_at_call 23; (with_reducible refine (pl_same (plB_self _ _ _ _ _ _ _ _ _) g4_0 g8_0).mono ?_); rintro e wz ⟨rfl, hbz⟩)
            exact hK.out _ _ ⟨hB.go hbz, rfl, hbz.size, .inl hbz, fun h => absurd h (by decide)⟩
          refine Stps2.cons (o := _) ?_ ?_
          · intro ac yw hsz hold hB hp K hK
            have e2 := hp 2 (by decide)
            have t66 : ac.tmps[66]? = some (.bool false) := (List.cons.inj e2).1
            have e9 := hp 9 (by decide)
            have t73 : ac.tmps[73]? = some (.bool true) := (List.cons.inj e9).1
            clear hold hp hsz e2 e9
            go_simp
            exact hK.out _ _ ⟨hB, rfl, Nat.le_refl _, .inl (Below.refl _ _), fun h => absurd h (by decide)⟩
          refine Stps2.cons (o := _) ?_ ?_
          · intro ac yw hsz hold hB hp K hK
            have e10 := hp 10 (by decide)
            have t74 : ac.tmps[74]? = some (.bool true) := (List.cons.inj e10).1
            clear hold hp hsz e10
            go_simp
            exact hK.out _ _ ⟨hB, rfl, Nat.le_refl _, .inl (Below.refl _ _), fun h => absurd h (by decide)⟩
          refine Stps2.cons (o := _) ?_ ?_
          · intro ac yw hsz hold hB hp K hK
            have t75 : ac.tmps[75]? = some (.bool true) := (List.cons.inj (hp 11 (by decide))).1
            rw [if_pos (wanted_pos rfl rfl t75)]
            have t7 : ac.tmps[7]? = some (.pointer (some ⟨w3.heap.size, 0, none⟩)) := hold 7 (by kernel_rfl)
            clear hold hp hsz
            have v0_0 : yw.cell? ⟨w.heap.size, 0, none⟩ = some (.slice sa r sc) := hB.now.2.2.2.1.cell 0
            have v0_1 : yw.cell? ⟨w.heap.size, 1, none⟩ = some (.bool true) := hB.now.2.2.2.1.cell 1
            have v0_2 : yw.cell? ⟨w.heap.size, 2, none⟩ = some (.slice ta tn tc) := hB.now.2.2.2.1.cell 2
            have v0_3 : yw.cell? ⟨w.heap.size, 3, none⟩ = some (.slice na 0 nc) := hB.now.2.2.2.1.cell 3
            have v1_0 : yw.cell? ⟨w3.heap.size, 0, none⟩ = some (.bool true) := hB.now.2.2.1.cell 0
            have v1_1 : yw.cell? ⟨w3.heap.size, 1, none⟩ = some (.int .i64 ((r : Int) - 1)) := hB.now.2.2.1.cell 1
            have v1_2 : yw.cell? ⟨w3.heap.size, 2, none⟩ = some (.int .i64 (dm S r 0)) := hB.now.2.2.1.cell 2
            have v1_3 : yw.cell? ⟨w3.heap.size, 3, none⟩ = some (.int .i64 (dm S r 1)) := hB.now.2.2.1.cell 3
            have v1_4 : yw.cell? ⟨w3.heap.size, 4, none⟩ = some (.int .i64 (dm S r 2)) := hB.now.2.2.1.cell 4
            have v1_5 : yw.cell? ⟨w3.heap.size, 5, none⟩ = some (.int .i64 (dm S r 3)) := hB.now.2.2.1.cell 5
            have v1_6 : yw.cell? ⟨w3.heap.size, 6, none⟩ = some (.int .i64 (dm S r 4)) := hB.now.2.2.1.cell 6
            have v1_7 : yw.cell? ⟨w3.heap.size, 7, none⟩ = some (.int .i64 (dm S r 5)) := hB.now.2.2.1.cell 7
            have v1_8 : yw.cell? ⟨w3.heap.size, 8, none⟩ = some (.int .i64 (dm S r 6)) := hB.now.2.2.1.cell 8
            have v1_9 : yw.cell? ⟨w3.heap.size, 9, none⟩ = some (.int .i64 (dm S r 7)) := hB.now.2.2.1.cell 9
            have v1_10 : yw.cell? ⟨w3.heap.size, 10, none⟩ = some (.slice none 0 0) := hB.now.2.2.1.cell 10
            have v1_11 : yw.cell? ⟨w3.heap.size, 11, none⟩ = some (.slice ta3 tn tc3) := hB.now.2.2.1.cell 11
            have v2_0 : yw.cell? ⟨w4.heap.size, 0, none⟩ = some (.bool true) := hB.now.2.1.cell 0
            have v2_1 : yw.cell? ⟨w4.heap.size, 1, none⟩ = some (.int .i64 ((sn : Int) - 1)) := hB.now.2.1.cell 1
            have v2_2 : yw.cell? ⟨w4.heap.size, 2, none⟩ = some (.int .i64 (dm S' sn 0)) := hB.now.2.1.cell 2
            have v2_3 : yw.cell? ⟨w4.heap.size, 3, none⟩ = some (.int .i64 (dm S' sn 1)) := hB.now.2.1.cell 3
            have v2_4 : yw.cell? ⟨w4.heap.size, 4, none⟩ = some (.int .i64 (dm S' sn 2)) := hB.now.2.1.cell 4
            have v2_5 : yw.cell? ⟨w4.heap.size, 5, none⟩ = some (.int .i64 (dm S' sn 3)) := hB.now.2.1.cell 5
            have v2_6 : yw.cell? ⟨w4.heap.size, 6, none⟩ = some (.int .i64 (dm S' sn 4)) := hB.now.2.1.cell 6
            have v2_7 : yw.cell? ⟨w4.heap.size, 7, none⟩ = some (.int .i64 (dm S' sn 5)) := hB.now.2.1.cell 7
            have v2_8 : yw.cell? ⟨w4.heap.size, 8, none⟩ = some (.int .i64 (dm S' sn 6)) := hB.now.2.1.cell 8
            have v2_9 : yw.cell? ⟨w4.heap.size, 9, none⟩ = some (.int .i64 (dm S' sn 7)) := hB.now.2.1.cell 9
            have v2_10 : yw.cell? ⟨w4.heap.size, 10, none⟩ = some (.slice none 0 0) := hB.now.2.1.cell 10
            have v2_11 : yw.cell? ⟨w4.heap.size, 11, none⟩ = some (.slice ta4 m tc4) := hB.now.2.1.cell 11
            have v3_0 : yw.cell? ⟨w5.heap.size, 0, none⟩ = some (.slice (some ⟨w7.heap.size, 0, none⟩) 1 1) := hB.now.1.cell 0
            have v3_1 : yw.cell? ⟨w5.heap.size, 1, none⟩ = some (.bool true) := hB.now.1.cell 1
            have v3_2 : yw.cell? ⟨w5.heap.size, 2, none⟩ = some (.slice ta tn tc) := hB.now.1.cell 2
            have v3_3 : yw.cell? ⟨w5.heap.size, 3, none⟩ = some (.slice na 0 nc) := hB.now.1.cell 3
            go_simp
            exact hK.out _ _ ⟨hB, rfl, Nat.le_refl _, .inl (Below.refl _ _), fun h => absurd h (by decide)⟩
          refine Stps2.cons (o := _) ?_ ?_
          · intro ac yw hsz hold hB hp K hK
            have t75 : ac.tmps[75]? = some (.bool true) := (List.cons.inj (hp 11 (by decide))).1
            rw [if_pos (wanted_pos rfl rfl t75)]
            have e12 := hp 12 (by decide)
            have t76 : ac.tmps[76]? = some (.agg #[.bool true, .int .i64 ((r : Int) - 1), .int .i64 (dm S r 0), .int .i64 (dm S r 1), .int .i64 (dm S r 2), .int .i64 (dm S r 3), .int .i64 (dm S r 4), .int .i64 (dm S r 5), .int .i64 (dm S r 6), .int .i64 (dm S r 7), .slice none 0 0, .slice ta3 tn tc3]) := (List.cons.inj e12).1
            clear hold hp hsz e12
            go_simp
            (go_at_call 45; (with_reducible refine (RV.out _ _ _ (hB.now.2.2.2.2.2.2.1)).mono ?_); rintro e wz ⟨x13, rfl, h13_0, hbz⟩)
            exact hK.out _ _ ⟨hB.go hbz, Exists.intro x13 (And.intro rfl h13_0), hbz.size, .inl hbz, fun h => absurd h (by decide)⟩
          refine Stps2.cons (o := _) ?_ ?_
          · intro ac yw hsz hold hB hp K hK
            have t75 : ac.tmps[75]? = some (.bool true) := (List.cons.inj (hp 11 (by decide))).1
            rw [if_pos (wanted_pos rfl rfl t75)]
            obtain ⟨x13_13, e13, g13_0⟩ := hp 13 (by decide)
            have t77 : ac.tmps[77]? = some (.agg x13_13) := (List.cons.inj e13).1
            clear hold hp hsz e13
            go_simp
            (go_at_call 24; (with_reducible refine (PV.out _ _ g13_0).mono ?_); rintro e wz ⟨x14, rfl, h14_0, hbz⟩)
            exact hK.out _ _ ⟨hB.go hbz, Exists.intro x14 (And.intro rfl h14_0), hbz.size, .inl hbz, fun h => absurd h (by decide)⟩
          refine Stps2.cons (o := _) ?_ ?_
          · intro ac yw hsz hold hB hp K hK
            have t75 : ac.tmps[75]? = some (.bool true) := (List.cons.inj (hp 11 (by decide))).1
            rw [if_pos (wanted_pos rfl rfl t75)]
            have t12 : ac.tmps[12]? = some (.pointer (some ⟨w5.heap.size, 0, none⟩)) := hold 12 (by kernel_rfl)
            clear hold hp hsz
            have v0_0 : yw.cell? ⟨w.heap.size, 0, none⟩ = some (.slice sa r sc) := hB.now.2.2.2.1.cell 0
            have v0_1 : yw.cell? ⟨w.heap.size, 1, none⟩ = some (.bool true) := hB.now.2.2.2.1.cell 1
            have v0_2 : yw.cell? ⟨w.heap.size, 2, none⟩ = some (.slice ta tn tc) := hB.now.2.2.2.1.cell 2
            have v0_3 : yw.cell? ⟨w.heap.size, 3, none⟩ = some (.slice na 0 nc) := hB.now.2.2.2.1.cell 3
            have v1_0 : yw.cell? ⟨w3.heap.size, 0, none⟩ = some (.bool true) := hB.now.2.2.1.cell 0
            have v1_1 : yw.cell? ⟨w3.heap.size, 1, none⟩ = some (.int .i64 ((r : Int) - 1)) := hB.now.2.2.1.cell 1
            have v1_2 : yw.cell? ⟨w3.heap.size, 2, none⟩ = some (.int .i64 (dm S r 0)) := hB.now.2.2.1.cell 2
            have v1_3 : yw.cell? ⟨w3.heap.size, 3, none⟩ = some (.int .i64 (dm S r 1)) := hB.now.2.2.1.cell 3
            have v1_4 : yw.cell? ⟨w3.heap.size, 4, none⟩ = some (.int .i64 (dm S r 2)) := hB.now.2.2.1.cell 4
            have v1_5 : yw.cell? ⟨w3.heap.size, 5, none⟩ = some (.int .i64 (dm S r 3)) := hB.now.2.2.1.cell 5
            have v1_6 : yw.cell? ⟨w3.heap.size, 6, none⟩ = some (.int .i64 (dm S r 4)) := hB.now.2.2.1.cell 6
            have v1_7 : yw.cell? ⟨w3.heap.size, 7, none⟩ = some (.int .i64 (dm S r 5)) := hB.now.2.2.1.cell 7
            have v1_8 : yw.cell? ⟨w3.heap.size, 8, none⟩ = some (.int .i64 (dm S r 6)) := hB.now.2.2.1.cell 8
            have v1_9 : yw.cell? ⟨w3.heap.size, 9, none⟩ = some (.int .i64 (dm S r 7)) := hB.now.2.2.1.cell 9
            have v1_10 : yw.cell? ⟨w3.heap.size, 10, none⟩ = some (.slice none 0 0) := hB.now.2.2.1.cell 10
            have v1_11 : yw.cell? ⟨w3.heap.size, 11, none⟩ = some (.slice ta3 tn tc3) := hB.now.2.2.1.cell 11
            have v2_0 : yw.cell? ⟨w4.heap.size, 0, none⟩ = some (.bool true) := hB.now.2.1.cell 0
            have v2_1 : yw.cell? ⟨w4.heap.size, 1, none⟩ = some (.int .i64 ((sn : Int) - 1)) := hB.now.2.1.cell 1
            have v2_2 : yw.cell? ⟨w4.heap.size, 2, none⟩ = some (.int .i64 (dm S' sn 0)) := hB.now.2.1.cell 2
            have v2_3 : yw.cell? ⟨w4.heap.size, 3, none⟩ = some (.int .i64 (dm S' sn 1)) := hB.now.2.1.cell 3
            have v2_4 : yw.cell? ⟨w4.heap.size, 4, none⟩ = some (.int .i64 (dm S' sn 2)) := hB.now.2.1.cell 4
            have v2_5 : yw.cell? ⟨w4.heap.size, 5, none⟩ = some (.int .i64 (dm S' sn 3)) := hB.now.2.1.cell 5
            have v2_6 : yw.cell? ⟨w4.heap.size, 6, none⟩ = some (.int .i64 (dm S' sn 4)) := hB.now.2.1.cell 6
            have v2_7 : yw.cell? ⟨w4.heap.size, 7, none⟩ = some (.int .i64 (dm S' sn 5)) := hB.now.2.1.cell 7
            have v2_8 : yw.cell? ⟨w4.heap.size, 8, none⟩ = some (.int .i64 (dm S' sn 6)) := hB.now.2.1.cell 8
            have v2_9 : yw.cell? ⟨w4.heap.size, 9, none⟩ = some (.int .i64 (dm S' sn 7)) := hB.now.2.1.cell 9
            have v2_10 : yw.cell? ⟨w4.heap.size, 10, none⟩ = some (.slice none 0 0) := hB.now.2.1.cell 10
            have v2_11 : yw.cell? ⟨w4.heap.size, 11, none⟩ = some (.slice ta4 m tc4) := hB.now.2.1.cell 11
            have v3_0 : yw.cell? ⟨w5.heap.size, 0, none⟩ = some (.slice (some ⟨w7.heap.size, 0, none⟩) 1 1) := hB.now.1.cell 0
            have v3_1 : yw.cell? ⟨w5.heap.size, 1, none⟩ = some (.bool true) := hB.now.1.cell 1
            have v3_2 : yw.cell? ⟨w5.heap.size, 2, none⟩ = some (.slice ta tn tc) := hB.now.1.cell 2
            have v3_3 : yw.cell? ⟨w5.heap.size, 3, none⟩ = some (.slice na 0 nc) := hB.now.1.cell 3
            go_simp
            exact hK.out _ _ ⟨hB, rfl, Nat.le_refl _, .inl (Below.refl _ _), fun h => absurd h (by decide)⟩
          refine Stps2.cons (o := _) ?_ ?_
          · intro ac yw hsz hold hB hp K hK
            have t75 : ac.tmps[75]? = some (.bool true) := (List.cons.inj (hp 11 (by decide))).1
            rw [if_pos (wanted_pos rfl rfl t75)]
            obtain ⟨x14_14, e14, g14_0⟩ := hp 14 (by decide)
            have t78 : ac.tmps[78]? = some (.agg x14_14) := (List.cons.inj e14).1
            have e15 := hp 15 (by decide)
            have t79 : ac.tmps[79]? = some (.agg #[.slice (some ⟨w7.heap.size, 0, none⟩) 1 1, .bool true, .slice ta tn tc, .slice na 0 nc]) := (List.cons.inj e15).1
            clear hold hp hsz e14 e15
            go_simp
            (go_at_call 23; (with_reducible refine (FS.out _ _ _ g14_0 (hB.now.2.2.2.2.1) (hB.now.2.2.2.2.2.2.2.2.2.2.1) (hB.now.2.2.2.2.2.2.2.2.2.1)).mono ?_); rintro e wz ⟨rfl, hbz⟩)
            exact hK.out _ _ ⟨hB.go hbz, rfl, hbz.size, .inl hbz, fun h => absurd h (by decide)⟩
          refine Stps2.cons (o := _) ?_ ?_
          · intro ac yw hsz hold hB hp K hK
            have e11 := hp 11 (by decide)
            have t75 : ac.tmps[75]? = some (.bool true) := (List.cons.inj e11).1
            have e16 := hp 16 (by decide)
            have t80 : ac.tmps[80]? = some (.bool true) := (List.cons.inj e16).1
            clear hold hp hsz e11 e16
            go_simp
            exact hK.out _ _ ⟨hB, rfl, Nat.le_refl _, .inl (Below.refl _ _), fun h => absurd h (by decide)⟩
          refine Stps2.cons (o := _) ?_ ?_
          · intro ac yw hsz hold hB hp K hK
            have e17 := hp 17 (by decide)
            have t81 : ac.tmps[81]? = some (.bool true) := (List.cons.inj e17).1
            clear hold hp hsz e17
            go_simp
            exact hK.out _ _ ⟨hB, rfl, Nat.le_refl _, .inl (Below.refl _ _), fun h => absurd h (by decide)⟩
          refine Stps2.cons (o := _) ?_ ?_
          · intro ac yw hsz hold hB hp K hK
            have t82 : ac.tmps[82]? = some (.bool true) := (List.cons.inj (hp 18 (by decide))).1
            rw [if_pos (wanted_pos rfl rfl t82)]
            clear hold hp hsz
            go_simp
            (go_at_call 17; (with_reducible refine (AW.out _).mono ?_); rintro e wz ⟨rfl, hbz⟩)
            exact hK.out _ _ ⟨hB.go hbz, rfl, hbz.size, .inl hbz, fun h => absurd h (by decide)⟩
          refine Stps2.cons (o := _) ?_ ?_
          · intro ac yw hsz hold hB hp K hK
            have e18 := hp 18 (by decide)
            have t82 : ac.tmps[82]? = some (.bool true) := (List.cons.inj e18).1
            have e19 := hp 19 (by decide)
            have t83 : ac.tmps[83]? = some (.bool true) := (List.cons.inj e19).1
            clear hold hp hsz e18 e19
            go_simp
            exact hK.out _ _ ⟨hB, rfl, Nat.le_refl _, .inl (Below.refl _ _), fun h => absurd h (by decide)⟩
          refine Stps2.cons (o := _) ?_ ?_
          · intro ac yw hsz hold hB hp K hK
            have e20 := hp 20 (by decide)
            have t84 : ac.tmps[84]? = some (.bool true) := (List.cons.inj e20).1
            clear hold hp hsz e20
            go_simp
            exact hK.out _ _ ⟨hB, rfl, Nat.le_refl _, .inl (Below.refl _ _), fun h => absurd h (by decide)⟩
          exact Stps2.nil _
      | false =>
        cases sh with
        | true =>
          have hk0 := Q1.out.1 rfl
          rw [if_neg (by decide)] at hc4
          subst hc4
          have BB := Lib.hid (BB.out.newRow zerC 50)
          unfold zerC arrC
          unfold zerC arrC at BB
          clear Q1
          go_wp2_with fail
          go_at_call 43
          (with_reducible refine (RC.out _ (BB.out.now.2.2.2.2.2.1)).mono ?_)
          rintro e w5 ⟨rfl, hw5⟩
          have BB := Lib.hid (hw5 ▸ BB.out)
          clear hw5
          obtain ⟨x0, x1, x2, x3⟩ := pl_cells (BB.out.now.2.2.2.1)
          obtain ⟨y0, y1, y2, y3, y4, y5, y6, y7, y8, y9, y10, y11⟩ := z_cells BB.out.now.1
          go_wp2_with fail
          go_at_call 28
          (with_reducible refine (len0A_any false 0 (fun _ => 0) none 0 none 0 _).mono ?_)
          rintro e w6 ⟨rfl, hb6⟩
          have BB := Lib.hid (BB.out.go hb6)
          clear hb6 x0 x1 x2 x3 y0 y1 y2 y3 y4 y5 y6 y7 y8 y9 y10 y11
          obtain ⟨x0, x1, x2, x3⟩ := pl_cells (BB.out.now.2.2.2.1)
          have BA := BB
          have BB := Lib.hid (BB.out.newRow #[.slice sa r sc, .bool true, .slice ta tn tc, .slice na 0 nc] 46)
          obtain ⟨y0, y1, y2, y3⟩ := pl_cells (BB.out.now.2.2.2.2.1)
          go_wp2_with fail
          go_at_call 29
          (with_reducible refine (LN.out _ (BB.out.now.2.2.2.2.2.2.2.2.2.1) (BB.out.now.2.2.2.2.2.2.2.2.1) (BB.out.now.2.2.2.2.2.2.2.1)).mono ?_)
          rintro e w7 ⟨rfl, hb7⟩
          have BB := Lib.hid ((BB.out.go hb7).alloc (.cells #[.int .i64 (tn : Int)] 3))
          have HK := Lib.hid (KRow.one' w7 .i64 (tn : Int) 3)
          have hs7 : w6.heap.size + 1 ≤ w7.heap.size := by have := hb7.size; rwa [World.size_alloc] at this
          have hbA : Below w6.heap.size w6 w7 := ((Below.refl _ _).alloc (Nat.le_refl _) (.cells #[.slice sa r sc, .bool true, .slice ta tn tc, .slice na 0 nc] 46)).trans (hb7.mono (by rw [World.size_alloc]; omega))
          clear hb7 x0 x1 x2 x3 y0 y1 y2 y3
          have r12 := BB.out.now.1
          have f12 := r12.free 0
          have v12 := r12.cell 0
          have hbD : Below w6.heap.size w6 ((w7.alloc (.cells #[.int .i64 (tn : Int)] 3)).setCell ⟨w6.heap.size, 0, none⟩ (Value.slice (some ⟨w7.heap.size, 0, none⟩) 1 1)) := (hbA.alloc (by omega) _).setCell (p := ⟨w6.heap.size, 0, none⟩) (Nat.le_refl _) _
          have BD := BA.out.go hbD
          have r13 : Row ((w7.alloc (.cells #[.int .i64 (tn : Int)] 3)).setCell ⟨w6.heap.size, 0, none⟩ (Value.slice (some ⟨w7.heap.size, 0, none⟩) 1 1)) w6.heap.size 46 #[.slice (some ⟨w7.heap.size, 0, none⟩) 1 1, .bool true, .slice ta tn tc, .slice na 0 nc] := r12.set 0 (Value.slice (some ⟨w7.heap.size, 0, none⟩) 1 1)
          have kf : KRow ((w7.alloc (.cells #[.int .i64 (tn : Int)] 3)).setCell ⟨w6.heap.size, 0, none⟩ (Value.slice (some ⟨w7.heap.size, 0, none⟩) 1 1)) .i64 (some ⟨w7.heap.size, 0, none⟩) 1 1 (fun _ => (tn : Int)) := HK.out.away (.inr (fun x hx e => by obtain rfl := Option.some.inj hx; have e : w7.heap.size = w6.heap.size := e; omega)) (Far.setCell _ _ _ _)
          have B10 : Hid (Bag w (fun y => Row y w6.heap.size 46 #[.slice (some ⟨w7.heap.size, 0, none⟩) 1 1, .bool true, .slice ta tn tc, .slice na 0 nc] ∧ Row y w4.heap.size 50 #[.bool false, .int .i64 0, .int .i64 0, .int .i64 0, .int .i64 0, .int .i64 0, .int .i64 0, .int .i64 0, .int .i64 0, .int .i64 0, .slice none 0 0, .slice none 0 0] ∧ Row y w3.heap.size 50 #[.bool true, .int .i64 ((r : Int) - 1), .int .i64 (dm S r 0), .int .i64 (dm S r 1), .int .i64 (dm S r 2), .int .i64 (dm S r 3), .int .i64 (dm S r 4), .int .i64 (dm S r 5), .int .i64 (dm S r 6), .int .i64 (dm S r 7), .slice none 0 0, .slice ta3 tn tc3] ∧ Row y w.heap.size 46 #[.slice sa r sc, .bool true, .slice ta tn tc, .slice na 0 nc] ∧ KRow y .i64 (some ⟨w7.heap.size, 0, none⟩) 1 1 (fun _ => (tn : Int)) ∧ KRow y .i32 ta3 tn tc3 g ∧ KRow y .i64 t1 m d1 at' ∧ KRow y .i64 s1 sn c1 S' ∧ QRow y na 0 nc fB fS fT ∧ KRow y .i32 ta tn tc g ∧ KRow y .i64 sa r sc S ∧ True) ((w7.alloc (.cells #[.int .i64 (tn : Int)] 3)).setCell ⟨w6.heap.size, 0, none⟩ (Value.slice (some ⟨w7.heap.size, 0, none⟩) 1 1))) := Lib.hid ((((((((((((⟨BD.below, fun _ _ _ _ => trivial, trivial⟩ : Bag w (fun _ => True) ((w7.alloc (.cells #[.int .i64 (tn : Int)] 3)).setCell ⟨w6.heap.size, 0, none⟩ (Value.slice (some ⟨w7.heap.size, 0, none⟩) 1 1))).krow (BD.now.2.2.2.2.2.2.2.2.1)).krow (BD.now.2.2.2.2.2.2.2.1)).qrow (BD.now.2.2.2.2.2.2.1)).krow (BD.now.2.2.2.2.2.1)).krow (BD.now.2.2.2.2.1)).krow (BD.now.2.2.1)).krow (kf)).row (BD.now.2.2.2.1)).row (BD.now.2.1)).row (BD.now.1)).row (r13))
          clear r13 kf BD hbD BA HK hbA BB
          go_wp2_with fail
          generalize ((w7.alloc (.cells #[.int .i64 (tn : Int)] 3)).setCell ⟨w6.heap.size, 0, none⟩ (Value.slice (some ⟨w7.heap.size, 0, none⟩) 1 1)) = yD at *
          clear v12 f12 r12 hs7
          refine Code.wp_mono (Q := fun e ac yw => match e with | .normal => ac.tmps.size = 85 ∧ ac.defers = [] ∧ ac.tmps[6]? = some (.bool true) ∧ Below w.heap.size w yw | _ => False) ?_ ?_
          · intro e ac yw
            cases e
            case normal =>
              rintro ⟨hsz, hdf, t6, hbw⟩
              obtain ⟨TV, hTV⟩ : ∃ TV : Nat → Value, ∀ i, (ac.tmps[i]?).getD undef = TV i := ⟨_, fun _ => rfl⟩
              have f6 := (hTV 6).symm.trans (congrArg (fun x => Option.getD x undef) t6)
              have hac := act_eq (n := 85) hsz TV hTV
              rw [show ((List.range 85).map TV).toArray = #[TV 0, TV 1, TV 2, TV 3, TV 4, TV 5, TV 6, TV 7, TV 8, TV 9, TV 10, TV 11, TV 12, TV 13, TV 14, TV 15, TV 16, TV 17, TV 18, TV 19, TV 20, TV 21, TV 22, TV 23, TV 24, TV 25, TV 26, TV 27, TV 28, TV 29, TV 30, TV 31, TV 32, TV 33, TV 34, TV 35, TV 36, TV 37, TV 38, TV 39, TV 40, TV 41, TV 42, TV 43, TV 44, TV 45, TV 46, TV 47, TV 48, TV 49, TV 50, TV 51, TV 52, TV 53, TV 54, TV 55, TV 56, TV 57, TV 58, TV 59, TV 60, TV 61, TV 62, TV 63, TV 64, TV 65, TV 66, TV 67, TV 68, TV 69, TV 70, TV 71, TV 72, TV 73, TV 74, TV 75, TV 76, TV 77, TV 78, TV 79, TV 80, TV 81, TV 82, TV 83, TV 84] from rfl, f6, hdf] at hac
              simp only [Option.getD_some] at hac
              subst hac
              clear hTV f6
              have HE := Lib.hid hbw
              clear t6 hbw B10
              go_wp2
              go_ret
              exact ⟨rfl, HE.out⟩
            all_goals exact fun h => h.elim
          · refine wp_region_inv2 ⟨(fun j => ([[64], [65], [66], [], [], [], [], [], [], [], [74], [75], [76], [77], [78], [79], [80], [81], [82], [83], [84], [6]] : List (List Nat)).getD j []), (fun j => ([[], [0], [0, 1], [0, 1, 2], [0, 1, 2, 3], [0, 1, 2], [0, 1, 2], [0, 1, 2], [0, 1, 2, 3, 4, 5, 6, 7], [0, 1, 2, 3, 4, 5, 6, 7, 8], [0, 1, 2, 3, 4, 5, 6, 7, 8, 9], [0, 1, 2, 3, 4, 5, 6, 7, 8, 9, 10], [0, 1, 2, 3, 4, 5, 6, 7, 8, 9, 10, 11], [0, 1, 2, 3, 4, 5, 6, 7, 8, 9, 10, 11, 12], [0, 1, 2, 3, 4, 5, 6, 7, 8, 9, 10, 11, 12, 13], [0, 1, 2, 3, 4, 5, 6, 7, 8, 9, 10, 11], [0, 1, 2, 3, 4, 5, 6, 7, 8, 9, 10, 11, 12, 13, 14, 15], [0, 1, 2, 3, 4, 5, 6, 7, 8, 9, 10, 11, 12, 13, 14, 15, 16], [0, 1, 2, 3, 4, 5, 6, 7, 8, 9, 10, 11, 12, 13, 14, 15, 16, 17], [0, 1, 2, 3, 4, 5, 6, 7, 8, 9, 10, 11, 12, 13, 14, 15, 16, 17, 18], [0, 1, 2, 3, 4, 5, 6, 7, 8, 9, 10, 11, 12, 13, 14, 15, 16, 17, 18, 19], [0, 1, 2, 3, 4, 5, 6, 7, 8, 9, 10, 11, 12, 13, 14, 15, 16, 17, 18, 19, 20]] : List (List Nat)).getD j []), []⟩ (fun jj vv yy => match jj with | 0 => vv = [some (.bool false)] | 1 => vv = [some (.bool true)] | 2 => vv = [some (.bool true)] | 3 => True | 4 => True | 5 => True | 6 => True | 7 => True | 8 => True | 9 => True | 10 => vv = [some (.bool true)] | 11 => vv = [some (.bool true)] | 12 => vv = [some (.agg #[.bool true, .int .i64 ((r : Int) - 1), .int .i64 (dm S r 0), .int .i64 (dm S r 1), .int .i64 (dm S r 2), .int .i64 (dm S r 3), .int .i64 (dm S r 4), .int .i64 (dm S r 5), .int .i64 (dm S r 6), .int .i64 (dm S r 7), .slice none 0 0, .slice ta3 tn tc3])] | 13 => ∃ (x13 : Array Value), vv = [some (.agg x13)] ∧ ChrArr yy x13 (fun _ => (tn : Int)) 1 tn g | 14 => ∃ (x14 : Array Value), vv = [some (.agg x14)] ∧ PlnAt yy x14 (fun _ => (tn : Int)) 1 true g tn (fun _ => rB 0) (fun _ => rS 0) (fun _ => str (dec 1)) 0 | 15 => vv = [some (.agg #[.slice (some ⟨w7.heap.size, 0, none⟩) 1 1, .bool true, .slice ta tn tc, .slice na 0 nc])] | 16 => vv = [some (.bool true)] | 17 => vv = [some (.bool true)] | 18 => vv = [some (.bool true)] | 19 => vv = [some (.bool true)] | 20 => vv = [some (.bool true)] | 21 => vv = [some (.bool true)] | _ => True) (Bag w (fun y => Row y w6.heap.size 46 #[.slice (some ⟨w7.heap.size, 0, none⟩) 1 1, .bool true, .slice ta tn tc, .slice na 0 nc] ∧ Row y w4.heap.size 50 #[.bool false, .int .i64 0, .int .i64 0, .int .i64 0, .int .i64 0, .int .i64 0, .int .i64 0, .int .i64 0, .int .i64 0, .int .i64 0, .slice none 0 0, .slice none 0 0] ∧ Row y w3.heap.size 50 #[.bool true, .int .i64 ((r : Int) - 1), .int .i64 (dm S r 0), .int .i64 (dm S r 1), .int .i64 (dm S r 2), .int .i64 (dm S r 3), .int .i64 (dm S r 4), .int .i64 (dm S r 5), .int .i64 (dm S r 6), .int .i64 (dm S r 7), .slice none 0 0, .slice ta3 tn tc3] ∧ Row y w.heap.size 46 #[.slice sa r sc, .bool true, .slice ta tn tc, .slice na 0 nc] ∧ KRow y .i64 (some ⟨w7.heap.size, 0, none⟩) 1 1 (fun _ => (tn : Int)) ∧ KRow y .i32 ta3 tn tc3 g ∧ KRow y .i64 t1 m d1 at' ∧ KRow y .i64 s1 sn c1 S' ∧ QRow y na 0 nc fB fS fT ∧ KRow y .i32 ta tn tc g ∧ KRow y .i64 sa r sc S ∧ True)) (by kernel_rfl) (by kernel_rfl) (by kernel_rfl) B10.out.drew ?_ ?_ ?_
            · intro jj vv yw yw2 hb h
              match jj, h with
              | 0, h => exact h
              | 1, h => exact h
              | 2, h => exact h
              | 3, h => exact h
              | 4, h => exact h
              | 5, h => exact h
              | 6, h => exact h
              | 7, h => exact h
              | 8, h => exact h
              | 9, h => exact h
              | 10, h => exact h
              | 11, h => exact h
              | 12, h => exact h
              | 13, ⟨x13, e13, g13_0⟩ => exact Exists.intro x13 (And.intro e13 (g13_0.below hb))
              | 14, ⟨x14, e14, g14_0⟩ => exact Exists.intro x14 (And.intro e14 (g14_0.below hb))
              | 15, h => exact h
              | 16, h => exact h
              | 17, h => exact h
              | 18, h => exact h
              | 19, h => exact h
              | 20, h => exact h
              | 21, h => exact h
              | _ + 22, h => exact h
            · intro ac yw hsz hdf hold hB hp
              exact ⟨hsz, hdf, (List.cons.inj (hp 21 (by decide))).1, hB.below⟩
            refine Stps2.cons (o := _) ?_ ?_
            · intro ac yw hsz hold hB hp K hK
              have t9 : ac.tmps[9]? = some (.bool false) := hold 9 (by kernel_rfl)
              clear hold hp hsz
              go_simp
              exact hK.out _ _ ⟨hB, rfl, Nat.le_refl _, .inl (Below.refl _ _), fun h => absurd h (by decide)⟩
            refine Stps2.cons (o := _) ?_ ?_
            · intro ac yw hsz hold hB hp K hK
              have e0 := hp 0 (by decide)
              have t64 : ac.tmps[64]? = some (.bool false) := (List.cons.inj e0).1
              clear hold hp hsz e0
              go_simp
              exact hK.out _ _ ⟨hB, rfl, Nat.le_refl _, .inl (Below.refl _ _), fun h => absurd h (by decide)⟩
            refine Stps2.cons (o := _) ?_ ?_
            · intro ac yw hsz hold hB hp K hK
              have e1 := hp 1 (by decide)
              have t65 : ac.tmps[65]? = some (.bool true) := (List.cons.inj e1).1
              clear hold hp hsz e1
              go_simp
              exact hK.out _ _ ⟨hB, rfl, Nat.le_refl _, .inl (Below.refl _ _), fun h => absurd h (by decide)⟩
            refine Stps2.cons (o := _) ?_ ?_
            · intro ac yw hsz hold hB hp K hK
              have t66 : ac.tmps[66]? = some (.bool true) := (List.cons.inj (hp 2 (by decide))).1
              rw [if_neg (by rw [wanted_neg rfl rfl t66 (fun e => by cases e)]; decide)]
              exact hK.out _ _ ⟨hB, trivial, Nat.le_refl _, .inl (Below.refl _ _), fun h => absurd h (by decide)⟩
            refine Stps2.cons (o := _) ?_ ?_
            · intro ac yw hsz hold hB hp K hK
              have t66 : ac.tmps[66]? = some (.bool true) := (List.cons.inj (hp 2 (by decide))).1
              rw [if_neg (by rw [wanted_neg rfl rfl t66 (fun e => by cases e)]; decide)]
              exact hK.out _ _ ⟨hB, trivial, Nat.le_refl _, .inl (Below.refl _ _), fun h => absurd h (by decide)⟩
            refine Stps2.cons (o := _) ?_ ?_
            · intro ac yw hsz hold hB hp K hK
              have t66 : ac.tmps[66]? = some (.bool true) := (List.cons.inj (hp 2 (by decide))).1
              rw [if_neg (by rw [wanted_neg rfl rfl t66 (fun e => by cases e)]; decide)]
              exact hK.out _ _ ⟨hB, trivial, Nat.le_refl _, .inl (Below.refl _ _), fun h => absurd h (by decide)⟩
            refine Stps2.cons (o := _) ?_ ?_
            · intro ac yw hsz hold hB hp K hK
              have t66 : ac.tmps[66]? = some (.bool true) := (List.cons.inj (hp 2 (by decide))).1
              rw [if_neg (by rw [wanted_neg rfl rfl t66 (fun e => by cases e)]; decide)]
              exact hK.out _ _ ⟨hB, trivial, Nat.le_refl _, .inl (Below.refl _ _), fun h => absurd h (by decide)⟩
            refine Stps2.cons (o := _) ?_ ?_
            · intro ac yw hsz hold hB hp K hK
              have t66 : ac.tmps[66]? = some (.bool true) := (List.cons.inj (hp 2 (by decide))).1
              rw [if_neg (by rw [wanted_neg rfl rfl t66 (fun e => by cases e)]; decide)]
              exact hK.out _ _ ⟨hB, trivial, Nat.le_refl _, .inl (Below.refl _ _), fun h => absurd h (by decide)⟩
            refine Stps2.cons (o := _) ?_ ?_
            · intro ac yw hsz hold hB hp K hK
              have t66 : ac.tmps[66]? = some (.bool true) := (List.cons.inj (hp 2 (by decide))).1
              rw [if_neg (by rw [wanted_neg rfl rfl t66 (fun e => by cases e)]; decide)]
              exact hK.out _ _ ⟨hB, trivial, Nat.le_refl _, .inl (Below.refl _ _), fun h => absurd h (by decide)⟩
            refine Stps2.cons (o := _) ?_ ?_
            · intro ac yw hsz hold hB hp K hK
              have t66 : ac.tmps[66]? = some (.bool true) := (List.cons.inj (hp 2 (by decide))).1
              rw [if_neg (by rw [wanted_neg rfl rfl t66 (fun e => by cases e)]; decide)]
              exact hK.out _ _ ⟨hB, trivial, Nat.le_refl _, .inl (Below.refl _ _), fun h => absurd h (by decide)⟩
            refine Stps2.cons (o := _) ?_ ?_
            · intro ac yw hsz hold hB hp K hK
              have e2 := hp 2 (by decide)
              have t66 : ac.tmps[66]? = some (.bool true) := (List.cons.inj e2).1
              clear hold hp hsz e2
              go_simp
              exact hK.out _ _ ⟨hB, rfl, Nat.le_refl _, .inl (Below.refl _ _), fun h => absurd h (by decide)⟩
            refine Stps2.cons (o := _) ?_ ?_
            · intro ac yw hsz hold hB hp K hK
              have e10 := hp 10 (by decide)
              have t74 : ac.tmps[74]? = some (.bool true) := (List.cons.inj e10).1
              clear hold hp hsz e10
              go_simp
              exact hK.out _ _ ⟨hB, rfl, Nat.le_refl _, .inl (Below.refl _ _), fun h => absurd h (by decide)⟩
            refine Stps2.cons (o := _) ?_ ?_
            · intro ac yw hsz hold hB hp K hK
              have t75 : ac.tmps[75]? = some (.bool true) := (List.cons.inj (hp 11 (by decide))).1
              rw [if_pos (wanted_pos rfl rfl t75)]
              have t7 : ac.tmps[7]? = some (.pointer (some ⟨w3.heap.size, 0, none⟩)) := hold 7 (by kernel_rfl)
              clear hold hp hsz
              have v0_0 : yw.cell? ⟨w.heap.size, 0, none⟩ = some (.slice sa r sc) := hB.now.2.2.2.1.cell 0
              have v0_1 : yw.cell? ⟨w.heap.size, 1, none⟩ = some (.bool true) := hB.now.2.2.2.1.cell 1
              have v0_2 : yw.cell? ⟨w.heap.size, 2, none⟩ = some (.slice ta tn tc) := hB.now.2.2.2.1.cell 2
              have v0_3 : yw.cell? ⟨w.heap.size, 3, none⟩ = some (.slice na 0 nc) := hB.now.2.2.2.1.cell 3
              have v1_0 : yw.cell? ⟨w3.heap.size, 0, none⟩ = some (.bool true) := hB.now.2.2.1.cell 0
              have v1_1 : yw.cell? ⟨w3.heap.size, 1, none⟩ = some (.int .i64 ((r : Int) - 1)) := hB.now.2.2.1.cell 1
              have v1_2 : yw.cell? ⟨w3.heap.size, 2, none⟩ = some (.int .i64 (dm S r 0)) := hB.now.2.2.1.cell 2
              have v1_3 : yw.cell? ⟨w3.heap.size, 3, none⟩ = some (.int .i64 (dm S r 1)) := hB.now.2.2.1.cell 3
              have v1_4 : yw.cell? ⟨w3.heap.size, 4, none⟩ = some (.int .i64 (dm S r 2)) := hB.now.2.2.1.cell 4
              have v1_5 : yw.cell? ⟨w3.heap.size, 5, none⟩ = some (.int .i64 (dm S r 3)) := hB.now.2.2.1.cell 5
              have v1_6 : yw.cell? ⟨w3.heap.size, 6, none⟩ = some (.int .i64 (dm S r 4)) := hB.now.2.2.1.cell 6
              have v1_7 : yw.cell? ⟨w3.heap.size, 7, none⟩ = some (.int .i64 (dm S r 5)) := hB.now.2.2.1.cell 7
              have v1_8 : yw.cell? ⟨w3.heap.size, 8, none⟩ = some (.int .i64 (dm S r 6)) := hB.now.2.2.1.cell 8
              have v1_9 : yw.cell? ⟨w3.heap.size, 9, none⟩ = some (.int .i64 (dm S r 7)) := hB.now.2.2.1.cell 9
              have v1_10 : yw.cell? ⟨w3.heap.size, 10, none⟩ = some (.slice none 0 0) := hB.now.2.2.1.cell 10
              have v1_11 : yw.cell? ⟨w3.heap.size, 11, none⟩ = some (.slice ta3 tn tc3) := hB.now.2.2.1.cell 11
              have v2_0 : yw.cell? ⟨w4.heap.size, 0, none⟩ = some (.bool false) := hB.now.2.1.cell 0
              have v2_1 : yw.cell? ⟨w4.heap.size, 1, none⟩ = some (.int .i64 0) := hB.now.2.1.cell 1
              have v2_2 : yw.cell? ⟨w4.heap.size, 2, none⟩ = some (.int .i64 0) := hB.now.2.1.cell 2
              have v2_3 : yw.cell? ⟨w4.heap.size, 3, none⟩ = some (.int .i64 0) := hB.now.2.1.cell 3
              have v2_4 : yw.cell? ⟨w4.heap.size, 4, none⟩ = some (.int .i64 0) := hB.now.2.1.cell 4
              have v2_5 : yw.cell? ⟨w4.heap.size, 5, none⟩ = some (.int .i64 0) := hB.now.2.1.cell 5
              have v2_6 : yw.cell? ⟨w4.heap.size, 6, none⟩ = some (.int .i64 0) := hB.now.2.1.cell 6
              have v2_7 : yw.cell? ⟨w4.heap.size, 7, none⟩ = some (.int .i64 0) := hB.now.2.1.cell 7
              have v2_8 : yw.cell? ⟨w4.heap.size, 8, none⟩ = some (.int .i64 0) := hB.now.2.1.cell 8
              have v2_9 : yw.cell? ⟨w4.heap.size, 9, none⟩ = some (.int .i64 0) := hB.now.2.1.cell 9
              have v2_10 : yw.cell? ⟨w4.heap.size, 10, none⟩ = some (.slice none 0 0) := hB.now.2.1.cell 10
              have v2_11 : yw.cell? ⟨w4.heap.size, 11, none⟩ = some (.slice none 0 0) := hB.now.2.1.cell 11
              have v3_0 : yw.cell? ⟨w6.heap.size, 0, none⟩ = some (.slice (some ⟨w7.heap.size, 0, none⟩) 1 1) := hB.now.1.cell 0
              have v3_1 : yw.cell? ⟨w6.heap.size, 1, none⟩ = some (.bool true) := hB.now.1.cell 1
              have v3_2 : yw.cell? ⟨w6.heap.size, 2, none⟩ = some (.slice ta tn tc) := hB.now.1.cell 2
              have v3_3 : yw.cell? ⟨w6.heap.size, 3, none⟩ = some (.slice na 0 nc) := hB.now.1.cell 3
              go_simp
              exact hK.out _ _ ⟨hB, rfl, Nat.le_refl _, .inl (Below.refl _ _), fun h => absurd h (by decide)⟩
            refine Stps2.cons (o := _) ?_ ?_
            · intro ac yw hsz hold hB hp K hK
              have t75 : ac.tmps[75]? = some (.bool true) := (List.cons.inj (hp 11 (by decide))).1
              rw [if_pos (wanted_pos rfl rfl t75)]
              have e12 := hp 12 (by decide)
              have t76 : ac.tmps[76]? = some (.agg #[.bool true, .int .i64 ((r : Int) - 1), .int .i64 (dm S r 0), .int .i64 (dm S r 1), .int .i64 (dm S r 2), .int .i64 (dm S r 3), .int .i64 (dm S r 4), .int .i64 (dm S r 5), .int .i64 (dm S r 6), .int .i64 (dm S r 7), .slice none 0 0, .slice ta3 tn tc3]) := (List.cons.inj e12).1
              clear hold hp hsz e12
              go_simp
              (go_at_call 45; (with_reducible refine (RV.out _ _ _ (hB.now.2.2.2.2.2.1)).mono ?_); rintro e wz ⟨x13, rfl, h13_0, hbz⟩)
              exact hK.out _ _ ⟨hB.go hbz, Exists.intro x13 (And.intro rfl h13_0), hbz.size, .inl hbz, fun h => absurd h (by decide)⟩
            refine Stps2.cons (o := _) ?_ ?_
            · intro ac yw hsz hold hB hp K hK
              have t75 : ac.tmps[75]? = some (.bool true) := (List.cons.inj (hp 11 (by decide))).1
              rw [if_pos (wanted_pos rfl rfl t75)]
              obtain ⟨x13_13, e13, g13_0⟩ := hp 13 (by decide)
              have t77 : ac.tmps[77]? = some (.agg x13_13) := (List.cons.inj e13).1
              clear hold hp hsz e13
              go_simp
              (go_at_call 24; (with_reducible refine (PV.out _ _ g13_0).mono ?_); rintro e wz ⟨x14, rfl, h14_0, hbz⟩)
              exact hK.out _ _ ⟨hB.go hbz, Exists.intro x14 (And.intro rfl h14_0), hbz.size, .inl hbz, fun h => absurd h (by decide)⟩
            refine Stps2.cons (o := _) ?_ ?_
            · intro ac yw hsz hold hB hp K hK
              have t75 : ac.tmps[75]? = some (.bool true) := (List.cons.inj (hp 11 (by decide))).1
              rw [if_pos (wanted_pos rfl rfl t75)]
              have t12 : ac.tmps[12]? = some (.pointer (some ⟨w6.heap.size, 0, none⟩)) := hold 12 (by kernel_rfl)
              clear hold hp hsz
              have v0_0 : yw.cell? ⟨w.heap.size, 0, none⟩ = some (.slice sa r sc) := hB.now.2.2.2.1.cell 0
              have v0_1 : yw.cell? ⟨w.heap.size, 1, none⟩ = some (.bool true) := hB.now.2.2.2.1.cell 1
              have v0_2 : yw.cell? ⟨w.heap.size, 2, none⟩ = some (.slice ta tn tc) := hB.now.2.2.2.1.cell 2
              have v0_3 : yw.cell? ⟨w.heap.size, 3, none⟩ = some (.slice na 0 nc) := hB.now.2.2.2.1.cell 3
              have v1_0 : yw.cell? ⟨w3.heap.size, 0, none⟩ = some (.bool true) := hB.now.2.2.1.cell 0
              have v1_1 : yw.cell? ⟨w3.heap.size, 1, none⟩ = some (.int .i64 ((r : Int) - 1)) := hB.now.2.2.1.cell 1
              have v1_2 : yw.cell? ⟨w3.heap.size, 2, none⟩ = some (.int .i64 (dm S r 0)) := hB.now.2.2.1.cell 2
              have v1_3 : yw.cell? ⟨w3.heap.size, 3, none⟩ = some (.int .i64 (dm S r 1)) := hB.now.2.2.1.cell 3
              have v1_4 : yw.cell? ⟨w3.heap.size, 4, none⟩ = some (.int .i64 (dm S r 2)) := hB.now.2.2.1.cell 4
              have v1_5 : yw.cell? ⟨w3.heap.size, 5, none⟩ = some (.int .i64 (dm S r 3)) := hB.now.2.2.1.cell 5
              have v1_6 : yw.cell? ⟨w3.heap.size, 6, none⟩ = some (.int .i64 (dm S r 4)) := hB.now.2.2.1.cell 6
              have v1_7 : yw.cell? ⟨w3.heap.size, 7, none⟩ = some (.int .i64 (dm S r 5)) := hB.now.2.2.1.cell 7
              have v1_8 : yw.cell? ⟨w3.heap.size, 8, none⟩ = some (.int .i64 (dm S r 6)) := hB.now.2.2.1.cell 8
              have v1_9 : yw.cell? ⟨w3.heap.size, 9, none⟩ = some (.int .i64 (dm S r 7)) := hB.now.2.2.1.cell 9
              have v1_10 : yw.cell? ⟨w3.heap.size, 10, none⟩ = some (.slice none 0 0) := hB.now.2.2.1.cell 10
              have v1_11 : yw.cell? ⟨w3.heap.size, 11, none⟩ = some (.slice ta3 tn tc3) := hB.now.2.2.1.cell 11
              have v2_0 : yw.cell? ⟨w4.heap.size, 0, none⟩ = some (.bool false) := hB.now.2.1.cell 0
              have v2_1 : yw.cell? ⟨w4.heap.size, 1, none⟩ = some (.int .i64 0) := hB.now.2.1.cell 1
              have v2_2 : yw.cell? ⟨w4.heap.size, 2, none⟩ = some (.int .i64 0) := hB.now.2.1.cell 2
              have v2_3 : yw.cell? ⟨w4.heap.size, 3, none⟩ = some (.int .i64 0) := hB.now.2.1.cell 3
              have v2_4 : yw.cell? ⟨w4.heap.size, 4, none⟩ = some (.int .i64 0) := hB.now.2.1.cell 4
              have v2_5 : yw.cell? ⟨w4.heap.size, 5, none⟩ = some (.int .i64 0) := hB.now.2.1.cell 5
              have v2_6 : yw.cell? ⟨w4.heap.size, 6, none⟩ = some (.int .i64 0) := hB.now.2.1.cell 6
              have v2_7 : yw.cell? ⟨w4.heap.size, 7, none⟩ = some (.int .i64 0) := hB.now.2.1.cell 7
              have v2_8 : yw.cell? ⟨w4.heap.size, 8, none⟩ = some (.int .i64 0) := hB.now.2.1.cell 8
              have v2_9 : yw.cell? ⟨w4.heap.size, 9, none⟩ = some (.int .i64 0) := hB.now.2.1.cell 9
              have v2_10 : yw.cell? ⟨w4.heap.size, 10, none⟩ = some (.slice none 0 0) := hB.now.2.1.cell 10
              have v2_11 : yw.cell? ⟨w4.heap.size, 11, none⟩ = some (.slice none 0 0) := hB.now.2.1.cell 11
              have v3_0 : yw.cell? ⟨w6.heap.size, 0, none⟩ = some (.slice (some ⟨w7.heap.size, 0, none⟩) 1 1) := hB.now.1.cell 0
              have v3_1 : yw.cell? ⟨w6.heap.size, 1, none⟩ = some (.bool true) := hB.now.1.cell 1
              have v3_2 : yw.cell? ⟨w6.heap.size, 2, none⟩ = some (.slice ta tn tc) := hB.now.1.cell 2
              have v3_3 : yw.cell? ⟨w6.heap.size, 3, none⟩ = some (.slice na 0 nc) := hB.now.1.cell 3
              go_simp
              exact hK.out _ _ ⟨hB, rfl, Nat.le_refl _, .inl (Below.refl _ _), fun h => absurd h (by decide)⟩
            refine Stps2.cons (o := _) ?_ ?_
            · intro ac yw hsz hold hB hp K hK
              have t75 : ac.tmps[75]? = some (.bool true) := (List.cons.inj (hp 11 (by decide))).1
              rw [if_pos (wanted_pos rfl rfl t75)]
              obtain ⟨x14_14, e14, g14_0⟩ := hp 14 (by decide)
              have t78 : ac.tmps[78]? = some (.agg x14_14) := (List.cons.inj e14).1
              have e15 := hp 15 (by decide)
              have t79 : ac.tmps[79]? = some (.agg #[.slice (some ⟨w7.heap.size, 0, none⟩) 1 1, .bool true, .slice ta tn tc, .slice na 0 nc]) := (List.cons.inj e15).1
              clear hold hp hsz e14 e15
              go_simp
              (go_at_call 23; (with_reducible refine (FS.out _ _ _ g14_0 (hB.now.2.2.2.2.1) (hB.now.2.2.2.2.2.2.2.2.2.1) (hB.now.2.2.2.2.2.2.2.2.1)).mono ?_); rintro e wz ⟨rfl, hbz⟩)
              exact hK.out _ _ ⟨hB.go hbz, rfl, hbz.size, .inl hbz, fun h => absurd h (by decide)⟩
            refine Stps2.cons (o := _) ?_ ?_
            · intro ac yw hsz hold hB hp K hK
              have e11 := hp 11 (by decide)
              have t75 : ac.tmps[75]? = some (.bool true) := (List.cons.inj e11).1
              have e16 := hp 16 (by decide)
              have t80 : ac.tmps[80]? = some (.bool true) := (List.cons.inj e16).1
              clear hold hp hsz e11 e16
              go_simp
              exact hK.out _ _ ⟨hB, rfl, Nat.le_refl _, .inl (Below.refl _ _), fun h => absurd h (by decide)⟩
            refine Stps2.cons (o := _) ?_ ?_
            · intro ac yw hsz hold hB hp K hK
              have e17 := hp 17 (by decide)
              have t81 : ac.tmps[81]? = some (.bool true) := (List.cons.inj e17).1
              clear hold hp hsz e17
              go_simp
              exact hK.out _ _ ⟨hB, rfl, Nat.le_refl _, .inl (Below.refl _ _), fun h => absurd h (by decide)⟩
            refine Stps2.cons (o := _) ?_ ?_
            · intro ac yw hsz hold hB hp K hK
              have t82 : ac.tmps[82]? = some (.bool true) := (List.cons.inj (hp 18 (by decide))).1
              rw [if_pos (wanted_pos rfl rfl t82)]
              clear hold hp hsz
              go_simp
              (go_at_call 17; (with_reducible refine (AW.out _).mono ?_); rintro e wz ⟨rfl, hbz⟩)
              exact hK.out _ _ ⟨hB.go hbz, rfl, hbz.size, .inl hbz, fun h => absurd h (by decide)⟩
            refine Stps2.cons (o := _) ?_ ?_
            · intro ac yw hsz hold hB hp K hK
              have e18 := hp 18 (by decide)
              have t82 : ac.tmps[82]? = some (.bool true) := (List.cons.inj e18).1
              have e19 := hp 19 (by decide)
              have t83 : ac.tmps[83]? = some (.bool true) := (List.cons.inj e19).1
              clear hold hp hsz e18 e19
              go_simp
              exact hK.out _ _ ⟨hB, rfl, Nat.le_refl _, .inl (Below.refl _ _), fun h => absurd h (by decide)⟩
            refine Stps2.cons (o := _) ?_ ?_
            · intro ac yw hsz hold hB hp K hK
              have e20 := hp 20 (by decide)
              have t84 : ac.tmps[84]? = some (.bool true) := (List.cons.inj e20).1
              clear hold hp hsz e20
              go_simp
              exact hK.out _ _ ⟨hB, rfl, Nat.le_refl _, .inl (Below.refl _ _), fun h => absurd h (by decide)⟩
            exact Stps2.nil _
        | false =>
          rw [if_neg (by decide)] at hc4
          subst hc4
          have BB := Lib.hid (BB.out.newRow zerC 50)
          unfold zerC arrC
          unfold zerC arrC at BB
          clear Q1
          go_wp2_with fail
          go_at_call 43
          (with_reducible refine (RC.out _ (BB.out.now.2.2.2.2.2.1)).mono ?_)
          rintro e w5 ⟨rfl, hw5⟩
          have BB := Lib.hid (hw5 ▸ BB.out)
          clear hw5
          obtain ⟨x0, x1, x2, x3⟩ := pl_cells (BB.out.now.2.2.2.1)
          obtain ⟨y0, y1, y2, y3, y4, y5, y6, y7, y8, y9, y10, y11⟩ := z_cells BB.out.now.1
          go_wp2_with fail
          go_at_call 28
          (with_reducible refine (len0A_any false 0 (fun _ => 0) none 0 none 0 _).mono ?_)
          rintro e w6 ⟨rfl, hb6⟩
          have BB := Lib.hid (BB.out.go hb6)
          clear hb6 x0 x1 x2 x3 y0 y1 y2 y3 y4 y5 y6 y7 y8 y9 y10 y11
          obtain ⟨x0, x1, x2, x3⟩ := pl_cells (BB.out.now.2.2.2.1)
          have BA := BB
          have BB := Lib.hid (BB.out.newRow #[.slice sa r sc, .bool true, .slice ta tn tc, .slice na 0 nc] 46)
          obtain ⟨y0, y1, y2, y3⟩ := pl_cells (BB.out.now.2.2.2.2.1)
          go_wp2_with fail
          go_at_call 29
          (with_reducible refine (LN.out _ (BB.out.now.2.2.2.2.2.2.2.2.2.1) (BB.out.now.2.2.2.2.2.2.2.2.1) (BB.out.now.2.2.2.2.2.2.2.1)).mono ?_)
          rintro e w7 ⟨rfl, hb7⟩
          have BB := Lib.hid ((BB.out.go hb7).alloc (.cells #[.int .i64 (tn : Int)] 3))
          have HK := Lib.hid (KRow.one' w7 .i64 (tn : Int) 3)
          have hs7 : w6.heap.size + 1 ≤ w7.heap.size := by have := hb7.size; rwa [World.size_alloc] at this
          have hbA : Below w6.heap.size w6 w7 := ((Below.refl _ _).alloc (Nat.le_refl _) (.cells #[.slice sa r sc, .bool true, .slice ta tn tc, .slice na 0 nc] 46)).trans (hb7.mono (by rw [World.size_alloc]; omega))
          clear hb7 x0 x1 x2 x3 y0 y1 y2 y3
          have r12 := BB.out.now.1
          have f12 := r12.free 0
          have v12 := r12.cell 0
          have hbD : Below w6.heap.size w6 ((w7.alloc (.cells #[.int .i64 (tn : Int)] 3)).setCell ⟨w6.heap.size, 0, none⟩ (Value.slice (some ⟨w7.heap.size, 0, none⟩) 1 1)) := (hbA.alloc (by omega) _).setCell (p := ⟨w6.heap.size, 0, none⟩) (Nat.le_refl _) _
          have BD := BA.out.go hbD
          have r13 : Row ((w7.alloc (.cells #[.int .i64 (tn : Int)] 3)).setCell ⟨w6.heap.size, 0, none⟩ (Value.slice (some ⟨w7.heap.size, 0, none⟩) 1 1)) w6.heap.size 46 #[.slice (some ⟨w7.heap.size, 0, none⟩) 1 1, .bool true, .slice ta tn tc, .slice na 0 nc] := r12.set 0 (Value.slice (some ⟨w7.heap.size, 0, none⟩) 1 1)
          have kf : KRow ((w7.alloc (.cells #[.int .i64 (tn : Int)] 3)).setCell ⟨w6.heap.size, 0, none⟩ (Value.slice (some ⟨w7.heap.size, 0, none⟩) 1 1)) .i64 (some ⟨w7.heap.size, 0, none⟩) 1 1 (fun _ => (tn : Int)) := HK.out.away (.inr (fun x hx e => by obtain rfl := Option.some.inj hx; have e : w7.heap.size = w6.heap.size := e; omega)) (Far.setCell _ _ _ _)
          have B10 : Hid (Bag w (fun y => Row y w6.heap.size 46 #[.slice (some ⟨w7.heap.size, 0, none⟩) 1 1, .bool true, .slice ta tn tc, .slice na 0 nc] ∧ Row y w4.heap.size 50 #[.bool false, .int .i64 0, .int .i64 0, .int .i64 0, .int .i64 0, .int .i64 0, .int .i64 0, .int .i64 0, .int .i64 0, .int .i64 0, .slice none 0 0, .slice none 0 0] ∧ Row y w3.heap.size 50 #[.bool true, .int .i64 ((r : Int) - 1), .int .i64 (dm S r 0), .int .i64 (dm S r 1), .int .i64 (dm S r 2), .int .i64 (dm S r 3), .int .i64 (dm S r 4), .int .i64 (dm S r 5), .int .i64 (dm S r 6), .int .i64 (dm S r 7), .slice none 0 0, .slice ta3 tn tc3] ∧ Row y w.heap.size 46 #[.slice sa r sc, .bool true, .slice ta tn tc, .slice na 0 nc] ∧ KRow y .i64 (some ⟨w7.heap.size, 0, none⟩) 1 1 (fun _ => (tn : Int)) ∧ KRow y .i32 ta3 tn tc3 g ∧ KRow y .i64 t1 m d1 at' ∧ KRow y .i64 s1 sn c1 S' ∧ QRow y na 0 nc fB fS fT ∧ KRow y .i32 ta tn tc g ∧ KRow y .i64 sa r sc S ∧ True) ((w7.alloc (.cells #[.int .i64 (tn : Int)] 3)).setCell ⟨w6.heap.size, 0, none⟩ (Value.slice (some ⟨w7.heap.size, 0, none⟩) 1 1))) := Lib.hid ((((((((((((⟨BD.below, fun _ _ _ _ => trivial, trivial⟩ : Bag w (fun _ => True) ((w7.alloc (.cells #[.int .i64 (tn : Int)] 3)).setCell ⟨w6.heap.size, 0, none⟩ (Value.slice (some ⟨w7.heap.size, 0, none⟩) 1 1))).krow (BD.now.2.2.2.2.2.2.2.2.1)).krow (BD.now.2.2.2.2.2.2.2.1)).qrow (BD.now.2.2.2.2.2.2.1)).krow (BD.now.2.2.2.2.2.1)).krow (BD.now.2.2.2.2.1)).krow (BD.now.2.2.1)).krow (kf)).row (BD.now.2.2.2.1)).row (BD.now.2.1)).row (BD.now.1)).row (r13))
          clear r13 kf BD hbD BA HK hbA BB
          go_wp2_with fail
          generalize ((w7.alloc (.cells #[.int .i64 (tn : Int)] 3)).setCell ⟨w6.heap.size, 0, none⟩ (Value.slice (some ⟨w7.heap.size, 0, none⟩) 1 1)) = yD at *
          clear v12 f12 r12 hs7
          refine Code.wp_mono (Q := fun e ac yw => match e with | .normal => ac.tmps.size = 85 ∧ ac.defers = [] ∧ ac.tmps[6]? = some (.bool true) ∧ Below w.heap.size w yw | _ => False) ?_ ?_
          · intro e ac yw
            cases e
            case normal =>
              rintro ⟨hsz, hdf, t6, hbw⟩
              obtain ⟨TV, hTV⟩ : ∃ TV : Nat → Value, ∀ i, (ac.tmps[i]?).getD undef = TV i := ⟨_, fun _ => rfl⟩
              have f6 := (hTV 6).symm.trans (congrArg (fun x => Option.getD x undef) t6)
              have hac := act_eq (n := 85) hsz TV hTV
              rw [show ((List.range 85).map TV).toArray = #[TV 0, TV 1, TV 2, TV 3, TV 4, TV 5, TV 6, TV 7, TV 8, TV 9, TV 10, TV 11, TV 12, TV 13, TV 14, TV 15, TV 16, TV 17, TV 18, TV 19, TV 20, TV 21, TV 22, TV 23, TV 24, TV 25, TV 26, TV 27, TV 28, TV 29, TV 30, TV 31, TV 32, TV 33, TV 34, TV 35, TV 36, TV 37, TV 38, TV 39, TV 40, TV 41, TV 42, TV 43, TV 44, TV 45, TV 46, TV 47, TV 48, TV 49, TV 50, TV 51, TV 52, TV 53, TV 54, TV 55, TV 56, TV 57, TV 58, TV 59, TV 60, TV 61, TV 62, TV 63, TV 64, TV 65, TV 66, TV 67, TV 68, TV 69, TV 70, TV 71, TV 72, TV 73, TV 74, TV 75, TV 76, TV 77, TV 78, TV 79, TV 80, TV 81, TV 82, TV 83, TV 84] from rfl, f6, hdf] at hac
              simp only [Option.getD_some] at hac
              subst hac
              clear hTV f6
              have HE := Lib.hid hbw
              clear t6 hbw B10
              go_wp2
              go_ret
              exact ⟨rfl, HE.out⟩
            all_goals exact fun h => h.elim
          · refine wp_region_inv2 ⟨(fun j => ([[64], [65], [66], [], [], [], [], [], [], [], [74], [75], [76], [77], [78], [79], [80], [81], [82], [83], [84], [6]] : List (List Nat)).getD j []), (fun j => ([[], [0], [0, 1], [0, 1, 2], [0, 1, 2, 3], [0, 1, 2], [0, 1, 2], [0, 1, 2], [0, 1, 2, 3, 4, 5, 6, 7], [0, 1, 2, 3, 4, 5, 6, 7, 8], [0, 1, 2, 3, 4, 5, 6, 7, 8, 9], [0, 1, 2, 3, 4, 5, 6, 7, 8, 9, 10], [0, 1, 2, 3, 4, 5, 6, 7, 8, 9, 10, 11], [0, 1, 2, 3, 4, 5, 6, 7, 8, 9, 10, 11, 12], [0, 1, 2, 3, 4, 5, 6, 7, 8, 9, 10, 11, 12, 13], [0, 1, 2, 3, 4, 5, 6, 7, 8, 9, 10, 11], [0, 1, 2, 3, 4, 5, 6, 7, 8, 9, 10, 11, 12, 13, 14, 15], [0, 1, 2, 3, 4, 5, 6, 7, 8, 9, 10, 11, 12, 13, 14, 15, 16], [0, 1, 2, 3, 4, 5, 6, 7, 8, 9, 10, 11, 12, 13, 14, 15, 16, 17], [0, 1, 2, 3, 4, 5, 6, 7, 8, 9, 10, 11, 12, 13, 14, 15, 16, 17, 18], [0, 1, 2, 3, 4, 5, 6, 7, 8, 9, 10, 11, 12, 13, 14, 15, 16, 17, 18, 19], [0, 1, 2, 3, 4, 5, 6, 7, 8, 9, 10, 11, 12, 13, 14, 15, 16, 17, 18, 19, 20]] : List (List Nat)).getD j []), []⟩ (fun jj vv yy => match jj with | 0 => vv = [some (.bool false)] | 1 => vv = [some (.bool true)] | 2 => vv = [some (.bool true)] | 3 => True | 4 => True | 5 => True | 6 => True | 7 => True | 8 => True | 9 => True | 10 => vv = [some (.bool true)] | 11 => vv = [some (.bool true)] | 12 => vv = [some (.agg #[.bool true, .int .i64 ((r : Int) - 1), .int .i64 (dm S r 0), .int .i64 (dm S r 1), .int .i64 (dm S r 2), .int .i64 (dm S r 3), .int .i64 (dm S r 4), .int .i64 (dm S r 5), .int .i64 (dm S r 6), .int .i64 (dm S r 7), .slice none 0 0, .slice ta3 tn tc3])] | 13 => ∃ (x13 : Array Value), vv = [some (.agg x13)] ∧ ChrArr yy x13 (fun _ => (tn : Int)) 1 tn g | 14 => ∃ (x14 : Array Value), vv = [some (.agg x14)] ∧ PlnAt yy x14 (fun _ => (tn : Int)) 1 true g tn (fun _ => rB 0) (fun _ => rS 0) (fun _ => str (dec 1)) 0 | 15 => vv = [some (.agg #[.slice (some ⟨w7.heap.size, 0, none⟩) 1 1, .bool true, .slice ta tn tc, .slice na 0 nc])] | 16 => vv = [some (.bool true)] | 17 => vv = [some (.bool true)] | 18 => vv = [some (.bool true)] | 19 => vv = [some (.bool true)] | 20 => vv = [some (.bool true)] | 21 => vv = [some (.bool true)] | _ => True) (Bag w (fun y => Row y w6.heap.size 46 #[.slice (some ⟨w7.heap.size, 0, none⟩) 1 1, .bool true, .slice ta tn tc, .slice na 0 nc] ∧ Row y w4.heap.size 50 #[.bool false, .int .i64 0, .int .i64 0, .int .i64 0, .int .i64 0, .int .i64 0, .int .i64 0, .int .i64 0, .int .i64 0, .int .i64 0, .slice none 0 0, .slice none 0 0] ∧ Row y w3.heap.size 50 #[.bool true, .int .i64 ((r : Int) - 1), .int .i64 (dm S r 0), .int .i64 (dm S r 1), .int .i64 (dm S r 2), .int .i64 (dm S r 3), .int .i64 (dm S r 4), .int .i64 (dm S r 5), .int .i64 (dm S r 6), .int .i64 (dm S r 7), .slice none 0 0, .slice ta3 tn tc3] ∧ Row y w.heap.size 46 #[.slice sa r sc, .bool true, .slice ta tn tc, .slice na 0 nc] ∧ KRow y .i64 (some ⟨w7.heap.size, 0, none⟩) 1 1 (fun _ => (tn : Int)) ∧ KRow y .i32 ta3 tn tc3 g ∧ KRow y .i64 t1 m d1 at' ∧ KRow y .i64 s1 sn c1 S' ∧ QRow y na 0 nc fB fS fT ∧ KRow y .i32 ta tn tc g ∧ KRow y .i64 sa r sc S ∧ True)) (by kernel_rfl) (by kernel_rfl) (by kernel_rfl) B10.out.drew ?_ ?_ ?_
            · intro jj vv yw yw2 hb h
              match jj, h with
              | 0, h => exact h
              | 1, h => exact h
              | 2, h => exact h
              | 3, h => exact h
              | 4, h => exact h
              | 5, h => exact h
              | 6, h => exact h
              | 7, h => exact h
              | 8, h => exact h
              | 9, h => exact h
              | 10, h => exact h
              | 11, h => exact h
              | 12, h => exact h
              | 13, ⟨x13, e13, g13_0⟩ => exact Exists.intro x13 (And.intro e13 (g13_0.below hb))
              | 14, ⟨x14, e14, g14_0⟩ => exact Exists.intro x14 (And.intro e14 (g14_0.below hb))
              | 15, h => exact h
              | 16, h => exact h
              | 17, h => exact h
              | 18, h => exact h
              | 19, h => exact h
              | 20, h => exact h
              | 21, h => exact h
              | _ + 22, h => exact h
            · intro ac yw hsz hdf hold hB hp
              exact ⟨hsz, hdf, (List.cons.inj (hp 21 (by decide))).1, hB.below⟩
            refine Stps2.cons (o := _) ?_ ?_
            · intro ac yw hsz hold hB hp K hK
              have t9 : ac.tmps[9]? = some (.bool false) := hold 9 (by kernel_rfl)
              clear hold hp hsz
              go_simp
              exact hK.out _ _ ⟨hB, rfl, Nat.le_refl _, .inl (Below.refl _ _), fun h => absurd h (by decide)⟩
            refine Stps2.cons (o := _) ?_ ?_
            · intro ac yw hsz hold hB hp K hK
              have e0 := hp 0 (by decide)
              have t64 : ac.tmps[64]? = some (.bool false) := (List.cons.inj e0).1
              clear hold hp hsz e0
              go_simp
              exact hK.out _ _ ⟨hB, rfl, Nat.le_refl _, .inl (Below.refl _ _), fun h => absurd h (by decide)⟩
            refine Stps2.cons (o := _) ?_ ?_
            · intro ac yw hsz hold hB hp K hK
              have e1 := hp 1 (by decide)
              have t65 : ac.tmps[65]? = some (.bool true) := (List.cons.inj e1).1
              clear hold hp hsz e1
              go_simp
              exact hK.out _ _ ⟨hB, rfl, Nat.le_refl _, .inl (Below.refl _ _), fun h => absurd h (by decide)⟩
            refine Stps2.cons (o := _) ?_ ?_
            · intro ac yw hsz hold hB hp K hK
              have t66 : ac.tmps[66]? = some (.bool true) := (List.cons.inj (hp 2 (by decide))).1
              rw [if_neg (by rw [wanted_neg rfl rfl t66 (fun e => by cases e)]; decide)]
              exact hK.out _ _ ⟨hB, trivial, Nat.le_refl _, .inl (Below.refl _ _), fun h => absurd h (by decide)⟩
            refine Stps2.cons (o := _) ?_ ?_
            · intro ac yw hsz hold hB hp K hK
              have t66 : ac.tmps[66]? = some (.bool true) := (List.cons.inj (hp 2 (by decide))).1
              rw [if_neg (by rw [wanted_neg rfl rfl t66 (fun e => by cases e)]; decide)]
              exact hK.out _ _ ⟨hB, trivial, Nat.le_refl _, .inl (Below.refl _ _), fun h => absurd h (by decide)⟩
            refine Stps2.cons (o := _) ?_ ?_
            · intro ac yw hsz hold hB hp K hK
              have t66 : ac.tmps[66]? = some (.bool true) := (List.cons.inj (hp 2 (by decide))).1
              rw [if_neg (by rw [wanted_neg rfl rfl t66 (fun e => by cases e)]; decide)]
              exact hK.out _ _ ⟨hB, trivial, Nat.le_refl _, .inl (Below.refl _ _), fun h => absurd h (by decide)⟩
            refine Stps2.cons (o := _) ?_ ?_
            · intro ac yw hsz hold hB hp K hK
              have t66 : ac.tmps[66]? = some (.bool true) := (List.cons.inj (hp 2 (by decide))).1
              rw [if_neg (by rw [wanted_neg rfl rfl t66 (fun e => by cases e)]; decide)]
              exact hK.out _ _ ⟨hB, trivial, Nat.le_refl _, .inl (Below.refl _ _), fun h => absurd h (by decide)⟩
            refine Stps2.cons (o := _) ?_ ?_
            · intro ac yw hsz hold hB hp K hK
              have t66 : ac.tmps[66]? = some (.bool true) := (List.cons.inj (hp 2 (by decide))).1
              rw [if_neg (by rw [wanted_neg rfl rfl t66 (fun e => by cases e)]; decide)]
              exact hK.out _ _ ⟨hB, trivial, Nat.le_refl _, .inl (Below.refl _ _), fun h => absurd h (by decide)⟩
            refine Stps2.cons (o := _) ?_ ?_
            · intro ac yw hsz hold hB hp K hK
              have t66 : ac.tmps[66]? = some (.bool true) := (List.cons.inj (hp 2 (by decide))).1
              rw [if_neg (by rw [wanted_neg rfl rfl t66 (fun e => by cases e)]; decide)]
              exact hK.out _ _ ⟨hB, trivial, Nat.le_refl _, .inl (Below.refl _ _), fun h => absurd h (by decide)⟩
            refine Stps2.cons (o := _) ?_ ?_
            · intro ac yw hsz hold hB hp K hK
              have t66 : ac.tmps[66]? = some (.bool true) := (List.cons.inj (hp 2 (by decide))).1
              rw [if_neg (by rw [wanted_neg rfl rfl t66 (fun e => by cases e)]; decide)]
              exact hK.out _ _ ⟨hB, trivial, Nat.le_refl _, .inl (Below.refl _ _), fun h => absurd h (by decide)⟩
            refine Stps2.cons (o := _) ?_ ?_
            · intro ac yw hsz hold hB hp K hK
              have e2 := hp 2 (by decide)
              have t66 : ac.tmps[66]? = some (.bool true) := (List.cons.inj e2).1
              clear hold hp hsz e2
              go_simp
              exact hK.out _ _ ⟨hB, rfl, Nat.le_refl _, .inl (Below.refl _ _), fun h => absurd h (by decide)⟩
            refine Stps2.cons (o := _) ?_ ?_
            · intro ac yw hsz hold hB hp K hK
              have e10 := hp 10 (by decide)
              have t74 : ac.tmps[74]? = some (.bool true) := (List.cons.inj e10).1
              clear hold hp hsz e10
              go_simp
              exact hK.out _ _ ⟨hB, rfl, Nat.le_refl _, .inl (Below.refl _ _), fun h => absurd h (by decide)⟩
            refine Stps2.cons (o := _) ?_ ?_
            · intro ac yw hsz hold hB hp K hK
              have t75 : ac.tmps[75]? = some (.bool true) := (List.cons.inj (hp 11 (by decide))).1
              rw [if_pos (wanted_pos rfl rfl t75)]
              have t7 : ac.tmps[7]? = some (.pointer (some ⟨w3.heap.size, 0, none⟩)) := hold 7 (by kernel_rfl)
              clear hold hp hsz
              have v0_0 : yw.cell? ⟨w.heap.size, 0, none⟩ = some (.slice sa r sc) := hB.now.2.2.2.1.cell 0
              have v0_1 : yw.cell? ⟨w.heap.size, 1, none⟩ = some (.bool true) := hB.now.2.2.2.1.cell 1
              have v0_2 : yw.cell? ⟨w.heap.size, 2, none⟩ = some (.slice ta tn tc) := hB.now.2.2.2.1.cell 2
              have v0_3 : yw.cell? ⟨w.heap.size, 3, none⟩ = some (.slice na 0 nc) := hB.now.2.2.2.1.cell 3
              have v1_0 : yw.cell? ⟨w3.heap.size, 0, none⟩ = some (.bool true) := hB.now.2.2.1.cell 0
              have v1_1 : yw.cell? ⟨w3.heap.size, 1, none⟩ = some (.int .i64 ((r : Int) - 1)) := hB.now.2.2.1.cell 1
              have v1_2 : yw.cell? ⟨w3.heap.size, 2, none⟩ = some (.int .i64 (dm S r 0)) := hB.now.2.2.1.cell 2
              have v1_3 : yw.cell? ⟨w3.heap.size, 3, none⟩ = some (.int .i64 (dm S r 1)) := hB.now.2.2.1.cell 3
              have v1_4 : yw.cell? ⟨w3.heap.size, 4, none⟩ = some (.int .i64 (dm S r 2)) := hB.now.2.2.1.cell 4
              have v1_5 : yw.cell? ⟨w3.heap.size, 5, none⟩ = some (.int .i64 (dm S r 3)) := hB.now.2.2.1.cell 5
              have v1_6 : yw.cell? ⟨w3.heap.size, 6, none⟩ = some (.int .i64 (dm S r 4)) := hB.now.2.2.1.cell 6
              have v1_7 : yw.cell? ⟨w3.heap.size, 7, none⟩ = some (.int .i64 (dm S r 5)) := hB.now.2.2.1.cell 7
              have v1_8 : yw.cell? ⟨w3.heap.size, 8, none⟩ = some (.int .i64 (dm S r 6)) := hB.now.2.2.1.cell 8
              have v1_9 : yw.cell? ⟨w3.heap.size, 9, none⟩ = some (.int .i64 (dm S r 7)) := hB.now.2.2.1.cell 9
              have v1_10 : yw.cell? ⟨w3.heap.size, 10, none⟩ = some (.slice none 0 0) := hB.now.2.2.1.cell 10
              have v1_11 : yw.cell? ⟨w3.heap.size, 11, none⟩ = some (.slice ta3 tn tc3) := hB.now.2.2.1.cell 11
              have v2_0 : yw.cell? ⟨w4.heap.size, 0, none⟩ = some (.bool false) := hB.now.2.1.cell 0
              have v2_1 : yw.cell? ⟨w4.heap.size, 1, none⟩ = some (.int .i64 0) := hB.now.2.1.cell 1
              have v2_2 : yw.cell? ⟨w4.heap.size, 2, none⟩ = some (.int .i64 0) := hB.now.2.1.cell 2
              have v2_3 : yw.cell? ⟨w4.heap.size, 3, none⟩ = some (.int .i64 0) := hB.now.2.1.cell 3
              have v2_4 : yw.cell? ⟨w4.heap.size, 4, none⟩ = some (.int .i64 0) := hB.now.2.1.cell 4
              have v2_5 : yw.cell? ⟨w4.heap.size, 5, none⟩ = some (.int .i64 0) := hB.now.2.1.cell 5
              have v2_6 : yw.cell? ⟨w4.heap.size, 6, none⟩ = some (.int .i64 0) := hB.now.2.1.cell 6
              have v2_7 : yw.cell? ⟨w4.heap.size, 7, none⟩ = some (.int .i64 0) := hB.now.2.1.cell 7
              have v2_8 : yw.cell? ⟨w4.heap.size, 8, none⟩ = some (.int .i64 0) := hB.now.2.1.cell 8
              have v2_9 : yw.cell? ⟨w4.heap.size, 9, none⟩ = some (.int .i64 0) := hB.now.2.1.cell 9
              have v2_10 : yw.cell? ⟨w4.heap.size, 10, none⟩ = some (.slice none 0 0) := hB.now.2.1.cell 10
              have v2_11 : yw.cell? ⟨w4.heap.size, 11, none⟩ = some (.slice none 0 0) := hB.now.2.1.cell 11
              have v3_0 : yw.cell? ⟨w6.heap.size, 0, none⟩ = some (.slice (some ⟨w7.heap.size, 0, none⟩) 1 1) := hB.now.1.cell 0
              have v3_1 : yw.cell? ⟨w6.heap.size, 1, none⟩ = some (.bool true) := hB.now.1.cell 1
              have v3_2 : yw.cell? ⟨w6.heap.size, 2, none⟩ = some (.slice ta tn tc) := hB.now.1.cell 2
              have v3_3 : yw.cell? ⟨w6.heap.size, 3, none⟩ = some (.slice na 0 nc) := hB.now.1.cell 3
              go_simp
              exact hK.out _ _ ⟨hB, rfl, Nat.le_refl _, .inl (Below.refl _ _), fun h => absurd h (by decide)⟩
            refine Stps2.cons (o := _) ?_ ?_
            · intro ac yw hsz hold hB hp K hK
              have t75 : ac.tmps[75]? = some (.bool true) := (List.cons.inj (hp 11 (by decide))).1
              rw [if_pos (wanted_pos rfl rfl t75)]
              have e12 := hp 12 (by decide)
              have t76 : ac.tmps[76]? = some (.agg #[.bool true, .int .i64 ((r : Int) - 1), .int .i64 (dm S r 0), .int .i64 (dm S r 1), .int .i64 (dm S r 2), .int .i64 (dm S r 3), .int .i64 (dm S r 4), .int .i64 (dm S r 5), .int .i64 (dm S r 6), .int .i64 (dm S r 7), .slice none 0 0, .slice ta3 tn tc3]) := (List.cons.inj e12).1
              clear hold hp hsz e12
              go_simp
              (go_at_call 45; (with_reducible refine (RV.out _ _ _ (hB.now.2.2.2.2.2.1)).mono ?_); rintro e wz ⟨x13, rfl, h13_0, hbz⟩)
              exact hK.out _ _ ⟨hB.go hbz, Exists.intro x13 (And.intro rfl h13_0), hbz.size, .inl hbz, fun h => absurd h (by decide)⟩
            refine Stps2.cons (o := _) ?_ ?_
            · intro ac yw hsz hold hB hp K hK
              have t75 : ac.tmps[75]? = some (.bool true) := (List.cons.inj (hp 11 (by decide))).1
              rw [if_pos (wanted_pos rfl rfl t75)]
              obtain ⟨x13_13, e13, g13_0⟩ := hp 13 (by decide)
              have t77 : ac.tmps[77]? = some (.agg x13_13) := (List.cons.inj e13).1
              clear hold hp hsz e13
              go_simp
              (go_at_call 24; (with_reducible refine (PV.out _ _ g13_0).mono ?_); rintro e wz ⟨x14, rfl, h14_0, hbz⟩)
              exact hK.out _ _ ⟨hB.go hbz, Exists.intro x14 (And.intro rfl h14_0), hbz.size, .inl hbz, fun h => absurd h (by decide)⟩
            refine Stps2.cons (o := _) ?_ ?_
            · intro ac yw hsz hold hB hp K hK
              have t75 : ac.tmps[75]? = some (.bool true) := (List.cons.inj (hp 11 (by decide))).1
              rw [if_pos (wanted_pos rfl rfl t75)]
              have t12 : ac.tmps[12]? = some (.pointer (some ⟨w6.heap.size, 0, none⟩)) := hold 12 (by kernel_rfl)
              clear hold hp hsz
              have v0_0 : yw.cell? ⟨w.heap.size, 0, none⟩ = some (.slice sa r sc) := hB.now.2.2.2.1.cell 0
              have v0_1 : yw.cell? ⟨w.heap.size, 1, none⟩ = some (.bool true) := hB.now.2.2.2.1.cell 1
              have v0_2 : yw.cell? ⟨w.heap.size, 2, none⟩ = some (.slice ta tn tc) := hB.now.2.2.2.1.cell 2
              have v0_3 : yw.cell? ⟨w.heap.size, 3, none⟩ = some (.slice na 0 nc) := hB.now.2.2.2.1.cell 3
              have v1_0 : yw.cell? ⟨w3.heap.size, 0, none⟩ = some (.bool true) := hB.now.2.2.1.cell 0
              have v1_1 : yw.cell? ⟨w3.heap.size, 1, none⟩ = some (.int .i64 ((r : Int) - 1)) := hB.now.2.2.1.cell 1
              have v1_2 : yw.cell? ⟨w3.heap.size, 2, none⟩ = some (.int .i64 (dm S r 0)) := hB.now.2.2.1.cell 2
              have v1_3 : yw.cell? ⟨w3.heap.size, 3, none⟩ = some (.int .i64 (dm S r 1)) := hB.now.2.2.1.cell 3
              have v1_4 : yw.cell? ⟨w3.heap.size, 4, none⟩ = some (.int .i64 (dm S r 2)) := hB.now.2.2.1.cell 4
              have v1_5 : yw.cell? ⟨w3.heap.size, 5, none⟩ = some (.int .i64 (dm S r 3)) := hB.now.2.2.1.cell 5
              have v1_6 : yw.cell? ⟨w3.heap.size, 6, none⟩ = some (.int .i64 (dm S r 4)) := hB.now.2.2.1.cell 6
              have v1_7 : yw.cell? ⟨w3.heap.size, 7, none⟩ = some (.int .i64 (dm S r 5)) := hB.now.2.2.1.cell 7
              have v1_8 : yw.cell? ⟨w3.heap.size, 8, none⟩ = some (.int .i64 (dm S r 6)) := hB.now.2.2.1.cell 8
              have v1_9 : yw.cell? ⟨w3.heap.size, 9, none⟩ = some (.int .i64 (dm S r 7)) := hB.now.2.2.1.cell 9
              have v1_10 : yw.cell? ⟨w3.heap.size, 10, none⟩ = some (.slice none 0 0) := hB.now.2.2.1.cell 10
              have v1_11 : yw.cell? ⟨w3.heap.size, 11, none⟩ = some (.slice ta3 tn tc3) := hB.now.2.2.1.cell 11
              have v2_0 : yw.cell? ⟨w4.heap.size, 0, none⟩ = some (.bool false) := hB.now.2.1.cell 0
              have v2_1 : yw.cell? ⟨w4.heap.size, 1, none⟩ = some (.int .i64 0) := hB.now.2.1.cell 1
              have v2_2 : yw.cell? ⟨w4.heap.size, 2, none⟩ = some (.int .i64 0) := hB.now.2.1.cell 2
              have v2_3 : yw.cell? ⟨w4.heap.size, 3, none⟩ = some (.int .i64 0) := hB.now.2.1.cell 3
              have v2_4 : yw.cell? ⟨w4.heap.size, 4, none⟩ = some (.int .i64 0) := hB.now.2.1.cell 4
              have v2_5 : yw.cell? ⟨w4.heap.size, 5, none⟩ = some (.int .i64 0) := hB.now.2.1.cell 5
              have v2_6 : yw.cell? ⟨w4.heap.size, 6, none⟩ = some (.int .i64 0) := hB.now.2.1.cell 6
              have v2_7 : yw.cell? ⟨w4.heap.size, 7, none⟩ = some (.int .i64 0) := hB.now.2.1.cell 7
              have v2_8 : yw.cell? ⟨w4.heap.size, 8, none⟩ = some (.int .i64 0) := hB.now.2.1.cell 8
              have v2_9 : yw.cell? ⟨w4.heap.size, 9, none⟩ = some (.int .i64 0) := hB.now.2.1.cell 9
              have v2_10 : yw.cell? ⟨w4.heap.size, 10, none⟩ = some (.slice none 0 0) := hB.now.2.1.cell 10
              have v2_11 : yw.cell? ⟨w4.heap.size, 11, none⟩ = some (.slice none 0 0) := hB.now.2.1.cell 11
              have v3_0 : yw.cell? ⟨w6.heap.size, 0, none⟩ = some (.slice (some ⟨w7.heap.size, 0, none⟩) 1 1) := hB.now.1.cell 0
              have v3_1 : yw.cell? ⟨w6.heap.size, 1, none⟩ = some (.bool true) := hB.now.1.cell 1
              have v3_2 : yw.cell? ⟨w6.heap.size, 2, none⟩ = some (.slice ta tn tc) := hB.now.1.cell 2
              have v3_3 : yw.cell? ⟨w6.heap.size, 3, none⟩ = some (.slice na 0 nc) := hB.now.1.cell 3
              go_simp
              exact hK.out _ _ ⟨hB, rfl, Nat.le_refl _, .inl (Below.refl _ _), fun h => absurd h (by decide)⟩
            refine Stps2.cons (o := _) ?_ ?_
            · intro ac yw hsz hold hB hp K hK
              have t75 : ac.tmps[75]? = some (.bool true) := (List.cons.inj (hp 11 (by decide))).1
              rw [if_pos (wanted_pos rfl rfl t75)]
              obtain ⟨x14_14, e14, g14_0⟩ := hp 14 (by decide)
              have t78 : ac.tmps[78]? = some (.agg x14_14) := (List.cons.inj e14).1
              have e15 := hp 15 (by decide)
              have t79 : ac.tmps[79]? = some (.agg #[.slice (some ⟨w7.heap.size, 0, none⟩) 1 1, .bool true, .slice ta tn tc, .slice na 0 nc]) := (List.cons.inj e15).1
              clear hold hp hsz e14 e15
              go_simp
              (go_at_call 23; (with_reducible refine (FS.out _ _ _ g14_0 (hB.now.2.2.2.2.1) (hB.now.2.2.2.2.2.2.2.2.2.1) (hB.now.2.2.2.2.2.2.2.2.1)).mono ?_); rintro e wz ⟨rfl, hbz⟩)
              exact hK.out _ _ ⟨hB.go hbz, rfl, hbz.size, .inl hbz, fun h => absurd h (by decide)⟩
            refine Stps2.cons (o := _) ?_ ?_
            · intro ac yw hsz hold hB hp K hK
              have e11 := hp 11 (by decide)
              have t75 : ac.tmps[75]? = some (.bool true) := (List.cons.inj e11).1
              have e16 := hp 16 (by decide)
              have t80 : ac.tmps[80]? = some (.bool true) := (List.cons.inj e16).1
              clear hold hp hsz e11 e16
              go_simp
              exact hK.out _ _ ⟨hB, rfl, Nat.le_refl _, .inl (Below.refl _ _), fun h => absurd h (by decide)⟩
            refine Stps2.cons (o := _) ?_ ?_
            · intro ac yw hsz hold hB hp K hK
              have e17 := hp 17 (by decide)
              have t81 : ac.tmps[81]? = some (.bool true) := (List.cons.inj e17).1
              clear hold hp hsz e17
              go_simp
              exact hK.out _ _ ⟨hB, rfl, Nat.le_refl _, .inl (Below.refl _ _), fun h => absurd h (by decide)⟩
            refine Stps2.cons (o := _) ?_ ?_
            · intro ac yw hsz hold hB hp K hK
              have t82 : ac.tmps[82]? = some (.bool true) := (List.cons.inj (hp 18 (by decide))).1
              rw [if_pos (wanted_pos rfl rfl t82)]
              clear hold hp hsz
              go_simp
              (go_at_call 17; (with_reducible refine (AW.out _).mono ?_); rintro e wz ⟨rfl, hbz⟩)
              exact hK.out _ _ ⟨hB.go hbz, rfl, hbz.size, .inl hbz, fun h => absurd h (by decide)⟩
            refine Stps2.cons (o := _) ?_ ?_
            · intro ac yw hsz hold hB hp K hK
              have e18 := hp 18 (by decide)
              have t82 : ac.tmps[82]? = some (.bool true) := (List.cons.inj e18).1
              have e19 := hp 19 (by decide)
              have t83 : ac.tmps[83]? = some (.bool true) := (List.cons.inj e19).1
              clear hold hp hsz e18 e19
              go_simp
              exact hK.out _ _ ⟨hB, rfl, Nat.le_refl _, .inl (Below.refl _ _), fun h => absurd h (by decide)⟩
            refine Stps2.cons (o := _) ?_ ?_
            · intro ac yw hsz hold hB hp K hK
              have e20 := hp 20 (by decide)
              have t84 : ac.tmps[84]? = some (.bool true) := (List.cons.inj e20).1
              clear hold hp hsz e20
              go_simp
              exact hK.out _ _ ⟨hB, rfl, Nat.le_refl _, .inl (Below.refl _ _), fun h => absurd h (by decide)⟩
            exact Stps2.nil _
    | false =>
      obtain rfl : tn = 0 := k9.2.2.2.1 rfl
      have OF := Lib.hid (fun wz a b c => lof_any (plC sa r sc false ta 0 tc na nn nc) S r false g 0 fB fS fT nn wz ⟨sa, sc, ta, tc, na, nc, rfl, a, b, c⟩ hS m4 (by omega) (by omega) m5)
      unfold LOfTold at OF
      have hcm := ofO_cmp (ofB_true m5).2.2.2.2 m4
      have hno := ofO_num (ofB_true m5).2.2.2.2 m4
      have RC := Lib.hid (fun wz p => r6Count_any s1 sn c1 S' wz p g1)
      unfold CntTold cntI at RC
      have LN := Lib.hid (fun wz a b c => r6Len_any (plC sa r sc false ta 0 tc na nn nc) S r false g 0 fB fS fT nn wz ⟨sa, sc, ta, tc, na, nc, rfl, a, b, c⟩ (by omega) (by omega))
      rw [show ((0 + nn : Nat) : Int) = (nn : Int) by omega] at LN
      obtain ⟨P, hP⟩ : ∃ P, (fun j => ofP (fB j) (fS j) (fT j)) = P := ⟨_, rfl⟩
      obtain ⟨Q, hQ⟩ : ∃ Q, (fun j => ofQ (fB j) (fS j) (fT j)) = Q := ⟨_, rfl⟩
      rw [hP, hQ] at OF hcm hno
      clear hP hQ
      have PK := Lib.hid (fun na3 nc3 wz q a b => pickN_any (arrC false ((r : Int) - 1) (dm S r) na3 nn nc3 none 0 0) S r nn P Q s1 sn c1 S' t1 m d1 at' wz ⟨na3, nc3, rfl, q⟩ a g1 b g2 (by omega))
      unfold NumsTold at PK
      have RP := Lib.hid (fun wz a b c d e => r6PickN_any (plC sa r sc false ta 0 tc na nn nc) S r g nn fB fS fT s1 sn c1 S' t1 m d1 at' wz ⟨sa, sc, ta, tc, na, nc, rfl, a, b, c⟩ d e (by omega) (by omega))
      rw [(el_same3 hno at').1, (el_same3 hno at').2.1, (el_same3 hno at').2.2] at RP
      have RV := Lib.hid (fun na3 nc3 wz q => ravelN_any (arrC false ((r : Int) - 1) (dm S r) na3 nn nc3 none 0 0) S r nn P Q wz ⟨na3, nc3, rfl, q⟩ (by omega))
      unfold NumTold1 at RV
      have PV := Lib.hid (fun cs wz h => plainN_any cs (fun _ => (nn : Int)) 1 nn P Q wz (by omega) h (by omega) (fun j hj => (hcm j hj).1) 7 (by omega) (fun j hj => (hcm j hj).2.1) (fun j hj => (hcm j hj).2.2))
      have hec := el_cmp hcm at' m
      have HFS : plB false false 1 1 (fun _ => (nn : Int)) (fun _ => (nn : Int)) 0 0 (fun _ => 0) g nn nn (fun j => rB (P j)) (fun j => rS (P j)) (fun j => str (dec (Q j))) fB fS fT = true := by
        unfold plB
        rw [decide_eq_true rfl, decide_eq_true rfl, decide_eq_true rfl, decide_eq_true rfl, sameB_iff.2 (fun _ _ => rfl), sameB_iff.2 (fun j hj => absurd hj (Nat.not_lt_zero _)), nsB_iff.2 (fun j hj => ⟨(hno j hj).1.symm, (hno j hj).2.1.symm, (hno j hj).2.2.1.symm⟩)]
        rfl
      unfold PlnTold at RP
      have FS := Lib.hid (fun wz kf xx q a b c => pl_same (w := wz) (cs := xx) (cs' := plC (some ⟨kf, 0, none⟩) 1 1 false ta 0 tc na nn nc) HFS q ⟨some ⟨kf, 0, none⟩, 1, ta, tc, na, nc, rfl, a, b, c⟩)
      obtain ⟨bb, hbb⟩ : ∃ b, (shB S' sn && decide (itm S' sn = (m : Int))) = b := ⟨_, rfl⟩
      obtain ⟨K0, hK0⟩ : ∃ x, (if shB S' sn = true then itm S' sn else 0) = x := ⟨_, rfl⟩
      obtain ⟨sh, hsh⟩ : ∃ b, shB S' sn = b := ⟨_, rfl⟩
      have Q1 := Lib.hid (pick_facts hbb hK0 hsh)
      rw [hbb] at PK
      rw [hK0, hsh] at RC
      clear hbb hK0 hsh HFS
      unfold plC at LN RP FS OF
      unfold arrC at RV PK
      obtain ⟨x0, x1, x2, x3⟩ := pl_cells BB.out.now.1
      go_wp2_with fail
      go_at_call 41
      (with_reducible refine (OF.out _ ?_ ?_ ?_).mono ?_)
      · exact BB.out.now.2.2.2.2.2.1
      · exact BB.out.now.2.2.2.2.1
      · exact BB.out.now.2.2.2.1
      rintro e w3 ⟨na3, nc3, ta3, tc3, rfl, hr3, ht3, hf3, hg3, hb3⟩
      obtain ⟨rfl, rfl⟩ := hf3 trivial
      have BB := Lib.hid (((BB.out.go hb3).rrow hr3).newRow (arrC false ((r : Int) - 1) (dm S r) na3 nn nc3 none 0 0) 50)
      have HR1 := Lib.hid BB.out.now.1
      clear hr3 ht3 hf3 hg3 hb3 x0 x1 x2 x3 OF
      unfold arrC
      unfold arrC at BB
      obtain ⟨y0, y1, y2, y3, y4, y5, y6, y7, y8, y9, y10, y11, _⟩ := ab_cellsA BB.out.now.1 trivial
      go_wp2_with fail
      go_at_call 42
      (with_reducible refine (PK.out _ _ _ BB.out.now.2.1 BB.out.now.2.2.2.2.1 BB.out.now.2.2.2.1).mono ?_)
      rintro e w4 ⟨cs4, rfl, hc4, hb4⟩
      have BB := Lib.hid (BB.out.go hb4)
      clear hb4 HR1 PK y0 y1 y2 y3 y4 y5 y6 y7 y8 y9 y10 y11
      cases bb with
      | true =>
        obtain ⟨hsh, hsn⟩ := Q1.out.2.2 rfl
        subst hsh
        have hk0 := Q1.out.1 rfl
        rw [if_pos rfl] at hc4
        obtain ⟨na4, nc4, rfl, hc5⟩ := hc4
        have BB := Lib.hid ((BB.out.rrow hc5).newRow (arrC false ((sn : Int) - 1) (dm S' sn) na4 m nc4 none 0 0) 50)
        clear hc5
        unfold arrC
        unfold arrC at BB
        have PB := Lib.hid (fun wz q => plainN_any (arrC false ((sn : Int) - 1) (dm S' sn) na4 m nc4 none 0 0) S' sn m (fun j => elP nn P (at' j)) (fun j => elQ nn Q (at' j)) wz hsn ⟨na4, nc4, rfl, q⟩ (by omega) (fun j hj => (hec j hj).1) 7 (by omega) (fun j hj => (hec j hj).2.1) (fun j hj => (hec j hj).2.2))
        unfold arrC at PB
        clear hsn Q1
        go_wp2_with fail
        go_at_call 43
        (with_reducible refine (RC.out _ (BB.out.now.2.2.2.2.2.2.1)).mono ?_)
        rintro e w5 ⟨rfl, hw5⟩
        have BB := Lib.hid (hw5 ▸ BB.out)
        clear hw5
        obtain ⟨x0, x1, x2, x3⟩ := pl_cells (BB.out.now.2.2.2.2.1)
        have BA := BB
        have BB := Lib.hid (BB.out.newRow #[.slice sa r sc, .bool false, .slice ta 0 tc, .slice na nn nc] 46)
        obtain ⟨y0, y1, y2, y3⟩ := pl_cells (BB.out.now.2.2.2.2.2.1)
        go_wp2_with fail
        go_at_call 29
        (with_reducible refine (LN.out _ (BB.out.now.2.2.2.2.2.2.2.2.2.2.1) (BB.out.now.2.2.2.2.2.2.2.2.2.1) (BB.out.now.2.2.2.2.2.2.2.2.1)).mono ?_)
        rintro e w7 ⟨rfl, hb7⟩
        have BB := Lib.hid ((BB.out.go hb7).alloc (.cells #[.int .i64 (nn : Int)] 3))
        have HK := Lib.hid (KRow.one' w7 .i64 (nn : Int) 3)
        have hs7 : w5.heap.size + 1 ≤ w7.heap.size := by have := hb7.size; rwa [World.size_alloc] at this
        have hbA : Below w5.heap.size w5 w7 := ((Below.refl _ _).alloc (Nat.le_refl _) (.cells #[.slice sa r sc, .bool false, .slice ta 0 tc, .slice na nn nc] 46)).trans (hb7.mono (by rw [World.size_alloc]; omega))
        clear hb7 x0 x1 x2 x3 y0 y1 y2 y3
        have r12 := BB.out.now.1
        have f12 := r12.free 0
        have v12 := r12.cell 0
        have hbD : Below w5.heap.size w5 ((w7.alloc (.cells #[.int .i64 (nn : Int)] 3)).setCell ⟨w5.heap.size, 0, none⟩ (Value.slice (some ⟨w7.heap.size, 0, none⟩) 1 1)) := (hbA.alloc (by omega) _).setCell (p := ⟨w5.heap.size, 0, none⟩) (Nat.le_refl _) _
        have BD := BA.out.go hbD
        have r13 : Row ((w7.alloc (.cells #[.int .i64 (nn : Int)] 3)).setCell ⟨w5.heap.size, 0, none⟩ (Value.slice (some ⟨w7.heap.size, 0, none⟩) 1 1)) w5.heap.size 46 #[.slice (some ⟨w7.heap.size, 0, none⟩) 1 1, .bool false, .slice ta 0 tc, .slice na nn nc] := r12.set 0 (Value.slice (some ⟨w7.heap.size, 0, none⟩) 1 1)
        have kf : KRow ((w7.alloc (.cells #[.int .i64 (nn : Int)] 3)).setCell ⟨w5.heap.size, 0, none⟩ (Value.slice (some ⟨w7.heap.size, 0, none⟩) 1 1)) .i64 (some ⟨w7.heap.size, 0, none⟩) 1 1 (fun _ => (nn : Int)) := HK.out.away (.inr (fun x hx e => by obtain rfl := Option.some.inj hx; have e : w7.heap.size = w5.heap.size := e; omega)) (Far.setCell _ _ _ _)
        have B10 : Hid (Bag w (fun y => Row y w5.heap.size 46 #[.slice (some ⟨w7.heap.size, 0, none⟩) 1 1, .bool false, .slice ta 0 tc, .slice na nn nc] ∧ Row y w4.heap.size 50 #[.bool false, .int .i64 ((sn : Int) - 1), .int .i64 (dm S' sn 0), .int .i64 (dm S' sn 1), .int .i64 (dm S' sn 2), .int .i64 (dm S' sn 3), .int .i64 (dm S' sn 4), .int .i64 (dm S' sn 5), .int .i64 (dm S' sn 6), .int .i64 (dm S' sn 7), .slice na4 m nc4, .slice none 0 0] ∧ Row y w3.heap.size 50 #[.bool false, .int .i64 ((r : Int) - 1), .int .i64 (dm S r 0), .int .i64 (dm S r 1), .int .i64 (dm S r 2), .int .i64 (dm S r 3), .int .i64 (dm S r 4), .int .i64 (dm S r 5), .int .i64 (dm S r 6), .int .i64 (dm S r 7), .slice na3 nn nc3, .slice none 0 0] ∧ Row y w.heap.size 46 #[.slice sa r sc, .bool false, .slice ta 0 tc, .slice na nn nc] ∧ KRow y .i64 (some ⟨w7.heap.size, 0, none⟩) 1 1 (fun _ => (nn : Int)) ∧ RRow y na4 m nc4 (fun j => elP nn P (at' j)) (fun j => elQ nn Q (at' j)) ∧ RRow y na3 nn nc3 P Q ∧ KRow y .i64 t1 m d1 at' ∧ KRow y .i64 s1 sn c1 S' ∧ QRow y na nn nc fB fS fT ∧ KRow y .i32 ta 0 tc g ∧ KRow y .i64 sa r sc S ∧ True) ((w7.alloc (.cells #[.int .i64 (nn : Int)] 3)).setCell ⟨w5.heap.size, 0, none⟩ (Value.slice (some ⟨w7.heap.size, 0, none⟩) 1 1))) := Lib.hid (((((((((((((⟨BD.below, fun _ _ _ _ => trivial, trivial⟩ : Bag w (fun _ => True) ((w7.alloc (.cells #[.int .i64 (nn : Int)] 3)).setCell ⟨w5.heap.size, 0, none⟩ (Value.slice (some ⟨w7.heap.size, 0, none⟩) 1 1))).krow (BD.now.2.2.2.2.2.2.2.2.2.1)).krow (BD.now.2.2.2.2.2.2.2.2.1)).qrow (BD.now.2.2.2.2.2.2.2.1)).krow (BD.now.2.2.2.2.2.2.1)).krow (BD.now.2.2.2.2.2.1)).rrow (BD.now.2.2.2.1)).rrow (BD.now.2.1)).krow (kf)).row (BD.now.2.2.2.2.1)).row (BD.now.2.2.1)).row (BD.now.1)).row (r13))
        clear r13 kf BD hbD BA HK hbA BB
        go_wp2_with fail
        generalize ((w7.alloc (.cells #[.int .i64 (nn : Int)] 3)).setCell ⟨w5.heap.size, 0, none⟩ (Value.slice (some ⟨w7.heap.size, 0, none⟩) 1 1)) = yD at *
        clear v12 f12 r12 hs7
        refine Code.wp_mono (Q := fun e ac yw => match e with | .normal => ac.tmps.size = 85 ∧ ac.defers = [] ∧ ac.tmps[6]? = some (.bool true) ∧ Below w.heap.size w yw | _ => False) ?_ ?_
        · intro e ac yw
          cases e
          case normal =>
            rintro ⟨hsz, hdf, t6, hbw⟩
            obtain ⟨TV, hTV⟩ : ∃ TV : Nat → Value, ∀ i, (ac.tmps[i]?).getD undef = TV i := ⟨_, fun _ => rfl⟩
            have f6 := (hTV 6).symm.trans (congrArg (fun x => Option.getD x undef) t6)
            have hac := act_eq (n := 85) hsz TV hTV
            rw [show ((List.range 85).map TV).toArray = #[TV 0, TV 1, TV 2, TV 3, TV 4, TV 5, TV 6, TV 7, TV 8, TV 9, TV 10, TV 11, TV 12, TV 13, TV 14, TV 15, TV 16, TV 17, TV 18, TV 19, TV 20, TV 21, TV 22, TV 23, TV 24, TV 25, TV 26, TV 27, TV 28, TV 29, TV 30, TV 31, TV 32, TV 33, TV 34, TV 35, TV 36, TV 37, TV 38, TV 39, TV 40, TV 41, TV 42, TV 43, TV 44, TV 45, TV 46, TV 47, TV 48, TV 49, TV 50, TV 51, TV 52, TV 53, TV 54, TV 55, TV 56, TV 57, TV 58, TV 59, TV 60, TV 61, TV 62, TV 63, TV 64, TV 65, TV 66, TV 67, TV 68, TV 69, TV 70, TV 71, TV 72, TV 73, TV 74, TV 75, TV 76, TV 77, TV 78, TV 79, TV 80, TV 81, TV 82, TV 83, TV 84] from rfl, f6, hdf] at hac
            simp only [Option.getD_some] at hac
            subst hac
            clear hTV f6
            have HE := Lib.hid hbw
            clear t6 hbw B10
            go_wp2
            go_ret
            exact ⟨rfl, HE.out⟩
          all_goals exact fun h => h.elim
        · refine wp_region_inv2 ⟨(fun j => ([[64], [65], [66], [67], [68], [69], [70], [71], [72], [73], [74], [75], [76], [77], [78], [79], [80], [81], [82], [83], [84], [6]] : List (List Nat)).getD j []), (fun j => ([[], [0], [0, 1], [0, 1, 2], [0, 1, 2, 3], [0, 1, 2], [0, 1, 2], [0, 1, 2], [0, 1, 2, 3, 4, 5, 6, 7], [0, 1, 2, 3, 4, 5, 6, 7, 8], [0, 1, 2, 3, 4, 5, 6, 7, 8, 9], [0, 1, 2, 3, 4, 5, 6, 7, 8, 9, 10], [0, 1, 2, 3, 4, 5, 6, 7, 8, 9, 10, 11], [0, 1, 2, 3, 4, 5, 6, 7, 8, 9, 10, 11, 12], [0, 1, 2, 3, 4, 5, 6, 7, 8, 9, 10, 11, 12, 13], [0, 1, 2, 3, 4, 5, 6, 7, 8, 9, 10, 11], [0, 1, 2, 3, 4, 5, 6, 7, 8, 9, 10, 11, 12, 13, 14, 15], [0, 1, 2, 3, 4, 5, 6, 7, 8, 9, 10, 11, 12, 13, 14, 15, 16], [0, 1, 2, 3, 4, 5, 6, 7, 8, 9, 10, 11, 12, 13, 14, 15, 16, 17], [0, 1, 2, 3, 4, 5, 6, 7, 8, 9, 10, 11, 12, 13, 14, 15, 16, 17, 18], [0, 1, 2, 3, 4, 5, 6, 7, 8, 9, 10, 11, 12, 13, 14, 15, 16, 17, 18, 19], [0, 1, 2, 3, 4, 5, 6, 7, 8, 9, 10, 11, 12, 13, 14, 15, 16, 17, 18, 19, 20]] : List (List Nat)).getD j []), []⟩ (fun jj vv yy => match jj with | 0 => vv = [some (.bool true)] | 1 => vv = [some (.bool false)] | 2 => vv = [some (.bool false)] | 3 => vv = [some (.agg #[.bool false, .int .i64 ((sn : Int) - 1), .int .i64 (dm S' sn 0), .int .i64 (dm S' sn 1), .int .i64 (dm S' sn 2), .int .i64 (dm S' sn 3), .int .i64 (dm S' sn 4), .int .i64 (dm S' sn 5), .int .i64 (dm S' sn 6), .int .i64 (dm S' sn 7), .slice na4 m nc4, .slice none 0 0])] | 4 => ∃ (x4 : Array Value), vv = [some (.agg x4)] ∧ PlnAt yy x4 S' sn false (fun _ => 0) 0 (fun j => rB (elP nn P (at' j))) (fun j => rS (elP nn P (at' j))) (fun j => str (dec (elQ nn Q (at' j)))) m | 5 => vv = [some (.agg #[.slice sa r sc, .bool false, .slice ta 0 tc, .slice na nn nc])] | 6 => vv = [some (.slice s1 sn c1)] | 7 => vv = [some (.slice t1 m d1)] | 8 => ∃ (x8 : Array Value), vv = [some (.agg x8)] ∧ PlnAt yy x8 S' sn false (fun _ => 0) 0 (fun j => rB (elP nn P (at' j))) (fun j => rS (elP nn P (at' j))) (fun j => str (dec (elQ nn Q (at' j)))) m | 9 => vv = [some (.bool true)] | 10 => vv = [some (.bool true)] | 11 => vv = [some (.bool true)] | 12 => vv = [some (.agg #[.bool false, .int .i64 ((r : Int) - 1), .int .i64 (dm S r 0), .int .i64 (dm S r 1), .int .i64 (dm S r 2), .int .i64 (dm S r 3), .int .i64 (dm S r 4), .int .i64 (dm S r 5), .int .i64 (dm S r 6), .int .i64 (dm S r 7), .slice na3 nn nc3, .slice none 0 0])] | 13 => ∃ (x13 : Array Value), vv = [some (.agg x13)] ∧ NumArr yy x13 (fun _ => (nn : Int)) 1 nn P Q | 14 => ∃ (x14 : Array Value), vv = [some (.agg x14)] ∧ PlnAt yy x14 (fun _ => (nn : Int)) 1 false (fun _ => 0) 0 (fun j => rB (P j)) (fun j => rS (P j)) (fun j => str (dec (Q j))) nn | 15 => vv = [some (.agg #[.slice (some ⟨w7.heap.size, 0, none⟩) 1 1, .bool false, .slice ta 0 tc, .slice na nn nc])] | 16 => vv = [some (.bool true)] | 17 => vv = [some (.bool true)] | 18 => vv = [some (.bool true)] | 19 => vv = [some (.bool true)] | 20 => vv = [some (.bool true)] | 21 => vv = [some (.bool true)] | _ => True) (Bag w (fun y => Row y w5.heap.size 46 #[.slice (some ⟨w7.heap.size, 0, none⟩) 1 1, .bool false, .slice ta 0 tc, .slice na nn nc] ∧ Row y w4.heap.size 50 #[.bool false, .int .i64 ((sn : Int) - 1), .int .i64 (dm S' sn 0), .int .i64 (dm S' sn 1), .int .i64 (dm S' sn 2), .int .i64 (dm S' sn 3), .int .i64 (dm S' sn 4), .int .i64 (dm S' sn 5), .int .i64 (dm S' sn 6), .int .i64 (dm S' sn 7), .slice na4 m nc4, .slice none 0 0] ∧ Row y w3.heap.size 50 #[.bool false, .int .i64 ((r : Int) - 1), .int .i64 (dm S r 0), .int .i64 (dm S r 1), .int .i64 (dm S r 2), .int .i64 (dm S r 3), .int .i64 (dm S r 4), .int .i64 (dm S r 5), .int .i64 (dm S r 6), .int .i64 (dm S r 7), .slice na3 nn nc3, .slice none 0 0] ∧ Row y w.heap.size 46 #[.slice sa r sc, .bool false, .slice ta 0 tc, .slice na nn nc] ∧ KRow y .i64 (some ⟨w7.heap.size, 0, none⟩) 1 1 (fun _ => (nn : Int)) ∧ RRow y na4 m nc4 (fun j => elP nn P (at' j)) (fun j => elQ nn Q (at' j)) ∧ RRow y na3 nn nc3 P Q ∧ KRow y .i64 t1 m d1 at' ∧ KRow y .i64 s1 sn c1 S' ∧ QRow y na nn nc fB fS fT ∧ KRow y .i32 ta 0 tc g ∧ KRow y .i64 sa r sc S ∧ True)) (by kernel_rfl) (by kernel_rfl) (by kernel_rfl) B10.out.drew ?_ ?_ ?_
          · intro jj vv yw yw2 hb h
            match jj, h with
            | 0, h => exact h
            | 1, h => exact h
            | 2, h => exact h
            | 3, h => exact h
            | 4, ⟨x4, e4, g4_0⟩ => exact Exists.intro x4 (And.intro e4 (g4_0.below hb))
            | 5, h => exact h
            | 6, h => exact h
            | 7, h => exact h
            | 8, ⟨x8, e8, g8_0⟩ => exact Exists.intro x8 (And.intro e8 (g8_0.below hb))
            | 9, h => exact h
            | 10, h => exact h
            | 11, h => exact h
            | 12, h => exact h
            | 13, ⟨x13, e13, g13_0⟩ => exact Exists.intro x13 (And.intro e13 (g13_0.below hb))
            | 14, ⟨x14, e14, g14_0⟩ => exact Exists.intro x14 (And.intro e14 (g14_0.below hb))
            | 15, h => exact h
            | 16, h => exact h
            | 17, h => exact h
            | 18, h => exact h
            | 19, h => exact h
            | 20, h => exact h
            | 21, h => exact h
            | _ + 22, h => exact h
          · intro ac yw hsz hdf hold hB hp
            exact ⟨hsz, hdf, (List.cons.inj (hp 21 (by decide))).1, hB.below⟩
          refine Stps2.cons (o := _) ?_ ?_
          · intro ac yw hsz hold hB hp K hK
            have t9 : ac.tmps[9]? = some (.bool true) := hold 9 (by kernel_rfl)
            clear hold hp hsz
            go_simp
            exact hK.out _ _ ⟨hB, rfl, Nat.le_refl _, .inl (Below.refl _ _), fun h => absurd h (by decide)⟩
          refine Stps2.cons (o := _) ?_ ?_
          · intro ac yw hsz hold hB hp K hK
            have e0 := hp 0 (by decide)
            have t64 : ac.tmps[64]? = some (.bool true) := (List.cons.inj e0).1
            clear hold hp hsz e0
            go_simp
            exact hK.out _ _ ⟨hB, rfl, Nat.le_refl _, .inl (Below.refl _ _), fun h => absurd h (by decide)⟩
          refine Stps2.cons (o := _) ?_ ?_
          · intro ac yw hsz hold hB hp K hK
            have e1 := hp 1 (by decide)
            have t65 : ac.tmps[65]? = some (.bool false) := (List.cons.inj e1).1
            clear hold hp hsz e1
            go_simp
            exact hK.out _ _ ⟨hB, rfl, Nat.le_refl _, .inl (Below.refl _ _), fun h => absurd h (by decide)⟩
          refine Stps2.cons (o := _) ?_ ?_
          · intro ac yw hsz hold hB hp K hK
            have t66 : ac.tmps[66]? = some (.bool false) := (List.cons.inj (hp 2 (by decide))).1
            rw [if_pos (wanted_pos rfl rfl t66)]
            have t8 : ac.tmps[8]? = some (.pointer (some ⟨w4.heap.size, 0, none⟩)) := hold 8 (by kernel_rfl)
            clear hold hp hsz
            have v0_0 : yw.cell? ⟨w.heap.size, 0, none⟩ = some (.slice sa r sc) := hB.now.2.2.2.1.cell 0
            have v0_1 : yw.cell? ⟨w.heap.size, 1, none⟩ = some (.bool false) := hB.now.2.2.2.1.cell 1
            have v0_2 : yw.cell? ⟨w.heap.size, 2, none⟩ = some (.slice ta 0 tc) := hB.now.2.2.2.1.cell 2
            have v0_3 : yw.cell? ⟨w.heap.size, 3, none⟩ = some (.slice na nn nc) := hB.now.2.2.2.1.cell 3
            have v1_0 : yw.cell? ⟨w3.heap.size, 0, none⟩ = some (.bool false) := hB.now.2.2.1.cell 0
            have v1_1 : yw.cell? ⟨w3.heap.size, 1, none⟩ = some (.int .i64 ((r : Int) - 1)) := hB.now.2.2.1.cell 1
            have v1_2 : yw.cell? ⟨w3.heap.size, 2, none⟩ = some (.int .i64 (dm S r 0)) := hB.now.2.2.1.cell 2
            have v1_3 : yw.cell? ⟨w3.heap.size, 3, none⟩ = some (.int .i64 (dm S r 1)) := hB.now.2.2.1.cell 3
            have v1_4 : yw.cell? ⟨w3.heap.size, 4, none⟩ = some (.int .i64 (dm S r 2)) := hB.now.2.2.1.cell 4
            have v1_5 : yw.cell? ⟨w3.heap.size, 5, none⟩ = some (.int .i64 (dm S r 3)) := hB.now.2.2.1.cell 5
            have v1_6 : yw.cell? ⟨w3.heap.size, 6, none⟩ = some (.int .i64 (dm S r 4)) := hB.now.2.2.1.cell 6
            have v1_7 : yw.cell? ⟨w3.heap.size, 7, none⟩ = some (.int .i64 (dm S r 5)) := hB.now.2.2.1.cell 7
            have v1_8 : yw.cell? ⟨w3.heap.size, 8, none⟩ = some (.int .i64 (dm S r 6)) := hB.now.2.2.1.cell 8
            have v1_9 : yw.cell? ⟨w3.heap.size, 9, none⟩ = some (.int .i64 (dm S r 7)) := hB.now.2.2.1.cell 9
            have v1_10 : yw.cell? ⟨w3.heap.size, 10, none⟩ = some (.slice na3 nn nc3) := hB.now.2.2.1.cell 10
            have v1_11 : yw.cell? ⟨w3.heap.size, 11, none⟩ = some (.slice none 0 0) := hB.now.2.2.1.cell 11
            have v2_0 : yw.cell? ⟨w4.heap.size, 0, none⟩ = some (.bool false) := hB.now.2.1.cell 0
            have v2_1 : yw.cell? ⟨w4.heap.size, 1, none⟩ = some (.int .i64 ((sn : Int) - 1)) := hB.now.2.1.cell 1
            have v2_2 : yw.cell? ⟨w4.heap.size, 2, none⟩ = some (.int .i64 (dm S' sn 0)) := hB.now.2.1.cell 2
            have v2_3 : yw.cell? ⟨w4.heap.size, 3, none⟩ = some (.int .i64 (dm S' sn 1)) := hB.now.2.1.cell 3
            have v2_4 : yw.cell? ⟨w4.heap.size, 4, none⟩ = some (.int .i64 (dm S' sn 2)) := hB.now.2.1.cell 4
            have v2_5 : yw.cell? ⟨w4.heap.size, 5, none⟩ = some (.int .i64 (dm S' sn 3)) := hB.now.2.1.cell 5
            have v2_6 : yw.cell? ⟨w4.heap.size, 6, none⟩ = some (.int .i64 (dm S' sn 4)) := hB.now.2.1.cell 6
            have v2_7 : yw.cell? ⟨w4.heap.size, 7, none⟩ = some (.int .i64 (dm S' sn 5)) := hB.now.2.1.cell 7
            have v2_8 : yw.cell? ⟨w4.heap.size, 8, none⟩ = some (.int .i64 (dm S' sn 6)) := hB.now.2.1.cell 8
            have v2_9 : yw.cell? ⟨w4.heap.size, 9, none⟩ = some (.int .i64 (dm S' sn 7)) := hB.now.2.1.cell 9
            have v2_10 : yw.cell? ⟨w4.heap.size, 10, none⟩ = some (.slice na4 m nc4) := hB.now.2.1.cell 10
            have v2_11 : yw.cell? ⟨w4.heap.size, 11, none⟩ = some (.slice none 0 0) := hB.now.2.1.cell 11
            have v3_0 : yw.cell? ⟨w5.heap.size, 0, none⟩ = some (.slice (some ⟨w7.heap.size, 0, none⟩) 1 1) := hB.now.1.cell 0
            have v3_1 : yw.cell? ⟨w5.heap.size, 1, none⟩ = some (.bool false) := hB.now.1.cell 1
            have v3_2 : yw.cell? ⟨w5.heap.size, 2, none⟩ = some (.slice ta 0 tc) := hB.now.1.cell 2
            have v3_3 : yw.cell? ⟨w5.heap.size, 3, none⟩ = some (.slice na nn nc) := hB.now.1.cell 3
            go_simp
            exact hK.out _ _ ⟨hB, rfl, Nat.le_refl _, .inl (Below.refl _ _), fun h => absurd h (by decide)⟩
          refine Stps2.cons (o := _) ?_ ?_
          · intro ac yw hsz hold hB hp K hK
            have t66 : ac.tmps[66]? = some (.bool false) := (List.cons.inj (hp 2 (by decide))).1
            rw [if_pos (wanted_pos rfl rfl t66)]
            have e3 := hp 3 (by decide)
            have t67 : ac.tmps[67]? = some (.agg #[.bool false, .int .i64 ((sn : Int) - 1), .int .i64 (dm S' sn 0), .int .i64 (dm S' sn 1), .int .i64 (dm S' sn 2), .int .i64 (dm S' sn 3), .int .i64 (dm S' sn 4), .int .i64 (dm S' sn 5), .int .i64 (dm S' sn 6), .int .i64 (dm S' sn 7), .slice na4 m nc4, .slice none 0 0]) := (List.cons.inj e3).1
            clear hold hp hsz e3
            go_simp
            (go_at_call 24; (with_reducible refine (PB.out _ (hB.now.2.2.2.2.2.1)).mono ?_); rintro e wz ⟨x4, rfl, h4_0, hbz⟩)
            exact hK.out _ _ ⟨hB.go hbz, Exists.intro x4 (And.intro rfl h4_0), hbz.size, .inl hbz, fun h => absurd h (by decide)⟩
          refine Stps2.cons (o := _) ?_ ?_
          · intro ac yw hsz hold hB hp K hK
            have t66 : ac.tmps[66]? = some (.bool false) := (List.cons.inj (hp 2 (by decide))).1
            rw [if_pos (wanted_pos rfl rfl t66)]
            have t3 : ac.tmps[3]? = some (.pointer (some ⟨w.heap.size, 0, none⟩)) := hold 3 (by kernel_rfl)
            clear hold hp hsz
            have v0_0 : yw.cell? ⟨w.heap.size, 0, none⟩ = some (.slice sa r sc) := hB.now.2.2.2.1.cell 0
            have v0_1 : yw.cell? ⟨w.heap.size, 1, none⟩ = some (.bool false) := hB.now.2.2.2.1.cell 1
            have v0_2 : yw.cell? ⟨w.heap.size, 2, none⟩ = some (.slice ta 0 tc) := hB.now.2.2.2.1.cell 2
            have v0_3 : yw.cell? ⟨w.heap.size, 3, none⟩ = some (.slice na nn nc) := hB.now.2.2.2.1.cell 3
            have v1_0 : yw.cell? ⟨w3.heap.size, 0, none⟩ = some (.bool false) := hB.now.2.2.1.cell 0
            have v1_1 : yw.cell? ⟨w3.heap.size, 1, none⟩ = some (.int .i64 ((r : Int) - 1)) := hB.now.2.2.1.cell 1
            have v1_2 : yw.cell? ⟨w3.heap.size, 2, none⟩ = some (.int .i64 (dm S r 0)) := hB.now.2.2.1.cell 2
            have v1_3 : yw.cell? ⟨w3.heap.size, 3, none⟩ = some (.int .i64 (dm S r 1)) := hB.now.2.2.1.cell 3
            have v1_4 : yw.cell? ⟨w3.heap.size, 4, none⟩ = some (.int .i64 (dm S r 2)) := hB.now.2.2.1.cell 4
            have v1_5 : yw.cell? ⟨w3.heap.size, 5, none⟩ = some (.int .i64 (dm S r 3)) := hB.now.2.2.1.cell 5
            have v1_6 : yw.cell? ⟨w3.heap.size, 6, none⟩ = some (.int .i64 (dm S r 4)) := hB.now.2.2.1.cell 6
            have v1_7 : yw.cell? ⟨w3.heap.size, 7, none⟩ = some (.int .i64 (dm S r 5)) := hB.now.2.2.1.cell 7
            have v1_8 : yw.cell? ⟨w3.heap.size, 8, none⟩ = some (.int .i64 (dm S r 6)) := hB.now.2.2.1.cell 8
            have v1_9 : yw.cell? ⟨w3.heap.size, 9, none⟩ = some (.int .i64 (dm S r 7)) := hB.now.2.2.1.cell 9
            have v1_10 : yw.cell? ⟨w3.heap.size, 10, none⟩ = some (.slice na3 nn nc3) := hB.now.2.2.1.cell 10
            have v1_11 : yw.cell? ⟨w3.heap.size, 11, none⟩ = some (.slice none 0 0) := hB.now.2.2.1.cell 11
            have v2_0 : yw.cell? ⟨w4.heap.size, 0, none⟩ = some (.bool false) := hB.now.2.1.cell 0
            have v2_1 : yw.cell? ⟨w4.heap.size, 1, none⟩ = some (.int .i64 ((sn : Int) - 1)) := hB.now.2.1.cell 1
            have v2_2 : yw.cell? ⟨w4.heap.size, 2, none⟩ = some (.int .i64 (dm S' sn 0)) := hB.now.2.1.cell 2
            have v2_3 : yw.cell? ⟨w4.heap.size, 3, none⟩ = some (.int .i64 (dm S' sn 1)) := hB.now.2.1.cell 3
            have v2_4 : yw.cell? ⟨w4.heap.size, 4, none⟩ = some (.int .i64 (dm S' sn 2)) := hB.now.2.1.cell 4
            have v2_5 : yw.cell? ⟨w4.heap.size, 5, none⟩ = some (.int .i64 (dm S' sn 3)) := hB.now.2.1.cell 5
            have v2_6 : yw.cell? ⟨w4.heap.size, 6, none⟩ = some (.int .i64 (dm S' sn 4)) := hB.now.2.1.cell 6
            have v2_7 : yw.cell? ⟨w4.heap.size, 7, none⟩ = some (.int .i64 (dm S' sn 5)) := hB.now.2.1.cell 7
            have v2_8 : yw.cell? ⟨w4.heap.size, 8, none⟩ = some (.int .i64 (dm S' sn 6)) := hB.now.2.1.cell 8
            have v2_9 : yw.cell? ⟨w4.heap.size, 9, none⟩ = some (.int .i64 (dm S' sn 7)) := hB.now.2.1.cell 9
            have v2_10 : yw.cell? ⟨w4.heap.size, 10, none⟩ = some (.slice na4 m nc4) := hB.now.2.1.cell 10
            have v2_11 : yw.cell? ⟨w4.heap.size, 11, none⟩ = some (.slice none 0 0) := hB.now.2.1.cell 11
            have v3_0 : yw.cell? ⟨w5.heap.size, 0, none⟩ = some (.slice (some ⟨w7.heap.size, 0, none⟩) 1 1) := hB.now.1.cell 0
            have v3_1 : yw.cell? ⟨w5.heap.size, 1, none⟩ = some (.bool false) := hB.now.1.cell 1
            have v3_2 : yw.cell? ⟨w5.heap.size, 2, none⟩ = some (.slice ta 0 tc) := hB.now.1.cell 2
            have v3_3 : yw.cell? ⟨w5.heap.size, 3, none⟩ = some (.slice na nn nc) := hB.now.1.cell 3
            go_simp
            exact hK.out _ _ ⟨hB, rfl, Nat.le_refl _, .inl (Below.refl _ _), fun h => absurd h (by decide)⟩
          refine Stps2.cons (o := _) ?_ ?_
          · intro ac yw hsz hold hB hp K hK
            have t66 : ac.tmps[66]? = some (.bool false) := (List.cons.inj (hp 2 (by decide))).1
            rw [if_pos (wanted_pos rfl rfl t66)]
            have t1 : ac.tmps[1]? = some (.slice s1 sn c1) := hold 1 (by kernel_rfl)
            clear hold hp hsz
            go_simp
            exact hK.out _ _ ⟨hB, rfl, Nat.le_refl _, .inl (Below.refl _ _), fun h => absurd h (by decide)⟩
          refine Stps2.cons (o := _) ?_ ?_
          · intro ac yw hsz hold hB hp K hK
            have t66 : ac.tmps[66]? = some (.bool false) := (List.cons.inj (hp 2 (by decide))).1
            rw [if_pos (wanted_pos rfl rfl t66)]
            have t2 : ac.tmps[2]? = some (.slice t1 m d1) := hold 2 (by kernel_rfl)
            clear hold hp hsz
            go_simp
            exact hK.out _ _ ⟨hB, rfl, Nat.le_refl _, .inl (Below.refl _ _), fun h => absurd h (by decide)⟩
          refine Stps2.cons (o := _) ?_ ?_
          · intro ac yw hsz hold hB hp K hK
            have t66 : ac.tmps[66]? = some (.bool false) := (List.cons.inj (hp 2 (by decide))).1
            rw [if_pos (wanted_pos rfl rfl t66)]
            have e5 := hp 5 (by decide)
            have t69 : ac.tmps[69]? = some (.agg #[.slice sa r sc, .bool false, .slice ta 0 tc, .slice na nn nc]) := (List.cons.inj e5).1
            have e6 := hp 6 (by decide)
            have t70 : ac.tmps[70]? = some (.slice s1 sn c1) := (List.cons.inj e6).1
            have e7 := hp 7 (by decide)
            have t71 : ac.tmps[71]? = some (.slice t1 m d1) := (List.cons.inj e7).1
            clear hold hp hsz e5 e6 e7
            go_simp
            (go_at_call 44; (with_reducible refine (RP.out _ (hB.now.2.2.2.2.2.2.2.2.2.2.2.1) (hB.now.2.2.2.2.2.2.2.2.2.2.1) (hB.now.2.2.2.2.2.2.2.2.2.1) (hB.now.2.2.2.2.2.2.2.2.1) (hB.now.2.2.2.2.2.2.2.1)).mono ?_); intro e wz hs9; obtain ⟨x8, rfl, h8_0, hbz⟩ := hs9 (fun _ => 0))
            exact hK.out _ _ ⟨hB.go hbz, Exists.intro x8 (And.intro rfl h8_0), hbz.size, .inl hbz, fun h => absurd h (by decide)⟩
          refine Stps2.cons (o := _) ?_ ?_
          · intro ac yw hsz hold hB hp K hK
            have t66 : ac.tmps[66]? = some (.bool false) := (List.cons.inj (hp 2 (by decide))).1
            rw [if_pos (wanted_pos rfl rfl t66)]
            obtain ⟨x4_4, e4, g4_0⟩ := hp 4 (by decide)
            have t68 : ac.tmps[68]? = some (.agg x4_4) := (List.cons.inj e4).1
            obtain ⟨x8_8, e8, g8_0⟩ := hp 8 (by decide)
            have t72 : ac.tmps[72]? = some (.agg x8_8) := (List.cons.inj e8).1
            clear hold hp hsz e4 e8
            go_simp
            (go_at_call 23; (with_reducible refine (pl_same (plB_self _ _ _ _ _ _ _ _ _) g4_0 g8_0).mono ?_); rintro e wz ⟨rfl, hbz⟩)
            exact hK.out _ _ ⟨hB.go hbz, rfl, hbz.size, .inl hbz, fun h => absurd h (by decide)⟩
          refine Stps2.cons (o := _) ?_ ?_
          · intro ac yw hsz hold hB hp K hK
            have e2 := hp 2 (by decide)
            have t66 : ac.tmps[66]? = some (.bool false) := (List.cons.inj e2).1
            have e9 := hp 9 (by decide)
            have t73 : ac.tmps[73]? = some (.bool true) := (List.cons.inj e9).1
            clear hold hp hsz e2 e9
            go_simp
            exact hK.out _ _ ⟨hB, rfl, Nat.le_refl _, .inl (Below.refl _ _), fun h => absurd h (by decide)⟩
          refine Stps2.cons (o := _) ?_ ?_
          · intro ac yw hsz hold hB hp K hK
            have e10 := hp 10 (by decide)
            have t74 : ac.tmps[74]? = some (.bool true) := (List.cons.inj e10).1
            clear hold hp hsz e10
            go_simp
            exact hK.out _ _ ⟨hB, rfl, Nat.le_refl _, .inl (Below.refl _ _), fun h => absurd h (by decide)⟩
          refine Stps2.cons (o := _) ?_ ?_
          · intro ac yw hsz hold hB hp K hK
            have t75 : ac.tmps[75]? = some (.bool true) := (List.cons.inj (hp 11 (by decide))).1
            rw [if_pos (wanted_pos rfl rfl t75)]
            have t7 : ac.tmps[7]? = some (.pointer (some ⟨w3.heap.size, 0, none⟩)) := hold 7 (by kernel_rfl)
            clear hold hp hsz
            have v0_0 : yw.cell? ⟨w.heap.size, 0, none⟩ = some (.slice sa r sc) := hB.now.2.2.2.1.cell 0
            have v0_1 : yw.cell? ⟨w.heap.size, 1, none⟩ = some (.bool false) := hB.now.2.2.2.1.cell 1
            have v0_2 : yw.cell? ⟨w.heap.size, 2, none⟩ = some (.slice ta 0 tc) := hB.now.2.2.2.1.cell 2
            have v0_3 : yw.cell? ⟨w.heap.size, 3, none⟩ = some (.slice na nn nc) := hB.now.2.2.2.1.cell 3
            have v1_0 : yw.cell? ⟨w3.heap.size, 0, none⟩ = some (.bool false) := hB.now.2.2.1.cell 0
            have v1_1 : yw.cell? ⟨w3.heap.size, 1, none⟩ = some (.int .i64 ((r : Int) - 1)) := hB.now.2.2.1.cell 1
            have v1_2 : yw.cell? ⟨w3.heap.size, 2, none⟩ = some (.int .i64 (dm S r 0)) := hB.now.2.2.1.cell 2
            have v1_3 : yw.cell? ⟨w3.heap.size, 3, none⟩ = some (.int .i64 (dm S r 1)) := hB.now.2.2.1.cell 3
            have v1_4 : yw.cell? ⟨w3.heap.size, 4, none⟩ = some (.int .i64 (dm S r 2)) := hB.now.2.2.1.cell 4
            have v1_5 : yw.cell? ⟨w3.heap.size, 5, none⟩ = some (.int .i64 (dm S r 3)) := hB.now.2.2.1.cell 5
            have v1_6 : yw.cell? ⟨w3.heap.size, 6, none⟩ = some (.int .i64 (dm S r 4)) := hB.now.2.2.1.cell 6
            have v1_7 : yw.cell? ⟨w3.heap.size, 7, none⟩ = some (.int .i64 (dm S r 5)) := hB.now.2.2.1.cell 7
            have v1_8 : yw.cell? ⟨w3.heap.size, 8, none⟩ = some (.int .i64 (dm S r 6)) := hB.now.2.2.1.cell 8
            have v1_9 : yw.cell? ⟨w3.heap.size, 9, none⟩ = some (.int .i64 (dm S r 7)) := hB.now.2.2.1.cell 9
            have v1_10 : yw.cell? ⟨w3.heap.size, 10, none⟩ = some (.slice na3 nn nc3) := hB.now.2.2.1.cell 10
            have v1_11 : yw.cell? ⟨w3.heap.size, 11, none⟩ = some (.slice none 0 0) := hB.now.2.2.1.cell 11
            have v2_0 : yw.cell? ⟨w4.heap.size, 0, none⟩ = some (.bool false) := hB.now.2.1.cell 0
            have v2_1 : yw.cell? ⟨w4.heap.size, 1, none⟩ = some (.int .i64 ((sn : Int) - 1)) := hB.now.2.1.cell 1
            have v2_2 : yw.cell? ⟨w4.heap.size, 2, none⟩ = some (.int .i64 (dm S' sn 0)) := hB.now.2.1.cell 2
            have v2_3 : yw.cell? ⟨w4.heap.size, 3, none⟩ = some (.int .i64 (dm S' sn 1)) := hB.now.2.1.cell 3
            have v2_4 : yw.cell? ⟨w4.heap.size, 4, none⟩ = some (.int .i64 (dm S' sn 2)) := hB.now.2.1.cell 4
            have v2_5 : yw.cell? ⟨w4.heap.size, 5, none⟩ = some (.int .i64 (dm S' sn 3)) := hB.now.2.1.cell 5
            have v2_6 : yw.cell? ⟨w4.heap.size, 6, none⟩ = some (.int .i64 (dm S' sn 4)) := hB.now.2.1.cell 6
            have v2_7 : yw.cell? ⟨w4.heap.size, 7, none⟩ = some (.int .i64 (dm S' sn 5)) := hB.now.2.1.cell 7
            have v2_8 : yw.cell? ⟨w4.heap.size, 8, none⟩ = some (.int .i64 (dm S' sn 6)) := hB.now.2.1.cell 8
            have v2_9 : yw.cell? ⟨w4.heap.size, 9, none⟩ = some (.int .i64 (dm S' sn 7)) := hB.now.2.1.cell 9
            have v2_10 : yw.cell? ⟨w4.heap.size, 10, none⟩ = some (.slice na4 m nc4) := hB.now.2.1.cell 10
            have v2_11 : yw.cell? ⟨w4.heap.size, 11, none⟩ = some (.slice none 0 0) := hB.now.2.1.cell 11
            have v3_0 : yw.cell? ⟨w5.heap.size, 0, none⟩ = some (.slice (some ⟨w7.heap.size, 0, none⟩) 1 1) := hB.now.1.cell 0
            have v3_1 : yw.cell? ⟨w5.heap.size, 1, none⟩ = some (.bool false) := hB.now.1.cell 1
            have v3_2 : yw.cell? ⟨w5.heap.size, 2, none⟩ = some (.slice ta 0 tc) := hB.now.1.cell 2
            have v3_3 : yw.cell? ⟨w5.heap.size, 3, none⟩ = some (.slice na nn nc) := hB.now.1.cell 3
            go_simp
            exact hK.out _ _ ⟨hB, rfl, Nat.le_refl _, .inl (Below.refl _ _), fun h => absurd h (by decide)⟩
          refine Stps2.cons (o := _) ?_ ?_
          · intro ac yw hsz hold hB hp K hK
            have t75 : ac.tmps[75]? = some (.bool true) := (List.cons.inj (hp 11 (by decide))).1
            rw [if_pos (wanted_pos rfl rfl t75)]
            have e12 := hp 12 (by decide)
            have t76 : ac.tmps[76]? = some (.agg #[.bool false, .int .i64 ((r : Int) - 1), .int .i64 (dm S r 0), .int .i64 (dm S r 1), .int .i64 (dm S r 2), .int .i64 (dm S r 3), .int .i64 (dm S r 4), .int .i64 (dm S r 5), .int .i64 (dm S r 6), .int .i64 (dm S r 7), .slice na3 nn nc3, .slice none 0 0]) := (List.cons.inj e12).1
            clear hold hp hsz e12
            go_simp
            (go_at_call 45; (with_reducible refine (RV.out _ _ _ (hB.now.2.2.2.2.2.2.1)).mono ?_); rintro e wz ⟨x13, rfl, h13_0, hbz⟩)
            exact hK.out _ _ ⟨hB.go hbz, Exists.intro x13 (And.intro rfl h13_0), hbz.size, .inl hbz, fun h => absurd h (by decide)⟩
          refine Stps2.cons (o := _) ?_ ?_
          · intro ac yw hsz hold hB hp K hK
            have t75 : ac.tmps[75]? = some (.bool true) := (List.cons.inj (hp 11 (by decide))).1
            rw [if_pos (wanted_pos rfl rfl t75)]
            obtain ⟨x13_13, e13, g13_0⟩ := hp 13 (by decide)
            have t77 : ac.tmps[77]? = some (.agg x13_13) := (List.cons.inj e13).1
            clear hold hp hsz e13
            go_simp
            (go_at_call 24; (with_reducible refine (PV.out _ _ g13_0).mono ?_); rintro e wz ⟨x14, rfl, h14_0, hbz⟩)
            exact hK.out _ _ ⟨hB.go hbz, Exists.intro x14 (And.intro rfl h14_0), hbz.size, .inl hbz, fun h => absurd h (by decide)⟩
          refine Stps2.cons (o := _) ?_ ?_
          · intro ac yw hsz hold hB hp K hK
            have t75 : ac.tmps[75]? = some (.bool true) := (List.cons.inj (hp 11 (by decide))).1
            rw [if_pos (wanted_pos rfl rfl t75)]
            have t12 : ac.tmps[12]? = some (.pointer (some ⟨w5.heap.size, 0, none⟩)) := hold 12 (by kernel_rfl)
            clear hold hp hsz
            have v0_0 : yw.cell? ⟨w.heap.size, 0, none⟩ = some (.slice sa r sc) := hB.now.2.2.2.1.cell 0
            have v0_1 : yw.cell? ⟨w.heap.size, 1, none⟩ = some (.bool false) := hB.now.2.2.2.1.cell 1
            have v0_2 : yw.cell? ⟨w.heap.size, 2, none⟩ = some (.slice ta 0 tc) := hB.now.2.2.2.1.cell 2
            have v0_3 : yw.cell? ⟨w.heap.size, 3, none⟩ = some (.slice na nn nc) := hB.now.2.2.2.1.cell 3
            have v1_0 : yw.cell? ⟨w3.heap.size, 0, none⟩ = some (.bool false) := hB.now.2.2.1.cell 0
            have v1_1 : yw.cell? ⟨w3.heap.size, 1, none⟩ = some (.int .i64 ((r : Int) - 1)) := hB.now.2.2.1.cell 1
            have v1_2 : yw.cell? ⟨w3.heap.size, 2, none⟩ = some (.int .i64 (dm S r 0)) := hB.now.2.2.1.cell 2
            have v1_3 : yw.cell? ⟨w3.heap.size, 3, none⟩ = some (.int .i64 (dm S r 1)) := hB.now.2.2.1.cell 3
            have v1_4 : yw.cell? ⟨w3.heap.size, 4, none⟩ = some (.int .i64 (dm S r 2)) := hB.now.2.2.1.cell 4
            have v1_5 : yw.cell? ⟨w3.heap.size, 5, none⟩ = some (.int .i64 (dm S r 3)) := hB.now.2.2.1.cell 5
            have v1_6 : yw.cell? ⟨w3.heap.size, 6, none⟩ = some (.int .i64 (dm S r 4)) := hB.now.2.2.1.cell 6
            have v1_7 : yw.cell? ⟨w3.heap.size, 7, none⟩ = some (.int .i64 (dm S r 5)) := hB.now.2.2.1.cell 7
            have v1_8 : yw.cell? ⟨w3.heap.size, 8, none⟩ = some (.int .i64 (dm S r 6)) := hB.now.2.2.1.cell 8
            have v1_9 : yw.cell? ⟨w3.heap.size, 9, none⟩ = some (.int .i64 (dm S r 7)) := hB.now.2.2.1.cell 9
            have v1_10 : yw.cell? ⟨w3.heap.size, 10, none⟩ = some (.slice na3 nn nc3) := hB.now.2.2.1.cell 10
            have v1_11 : yw.cell? ⟨w3.heap.size, 11, none⟩ = some (.slice none 0 0) := hB.now.2.2.1.cell 11
            have v2_0 : yw.cell? ⟨w4.heap.size, 0, none⟩ = some (.bool false) := hB.now.2.1.cell 0
            have v2_1 : yw.cell? ⟨w4.heap.size, 1, none⟩ = some (.int .i64 ((sn : Int) - 1)) := hB.now.2.1.cell 1
            have v2_2 : yw.cell? ⟨w4.heap.size, 2, none⟩ = some (.int .i64 (dm S' sn 0)) := hB.now.2.1.cell 2
            have v2_3 : yw.cell? ⟨w4.heap.size, 3, none⟩ = some (.int .i64 (dm S' sn 1)) := hB.now.2.1.cell 3
            have v2_4 : yw.cell? ⟨w4.heap.size, 4, none⟩ = some (.int .i64 (dm S' sn 2)) := hB.now.2.1.cell 4
            have v2_5 : yw.cell? ⟨w4.heap.size, 5, none⟩ = some (.int .i64 (dm S' sn 3)) := hB.now.2.1.cell 5
            have v2_6 : yw.cell? ⟨w4.heap.size, 6, none⟩ = some (.int .i64 (dm S' sn 4)) := hB.now.2.1.cell 6
            have v2_7 : yw.cell? ⟨w4.heap.size, 7, none⟩ = some (.int .i64 (dm S' sn 5)) := hB.now.2.1.cell 7
            have v2_8 : yw.cell? ⟨w4.heap.size, 8, none⟩ = some (.int .i64 (dm S' sn 6)) := hB.now.2.1.cell 8
            have v2_9 : yw.cell? ⟨w4.heap.size, 9, none⟩ = some (.int .i64 (dm S' sn 7)) := hB.now.2.1.cell 9
            have v2_10 : yw.cell? ⟨w4.heap.size, 10, none⟩ = some (.slice na4 m nc4) := hB.now.2.1.cell 10
            have v2_11 : yw.cell? ⟨w4.heap.size, 11, none⟩ = some (.slice none 0 0) := hB.now.2.1.cell 11
            have v3_0 : yw.cell? ⟨w5.heap.size, 0, none⟩ = some (.slice (some ⟨w7.heap.size, 0, none⟩) 1 1) := hB.now.1.cell 0
            have v3_1 : yw.cell? ⟨w5.heap.size, 1, none⟩ = some (.bool false) := hB.now.1.cell 1
            have v3_2 : yw.cell? ⟨w5.heap.size, 2, none⟩ = some (.slice ta 0 tc) := hB.now.1.cell 2
            have v3_3 : yw.cell? ⟨w5.heap.size, 3, none⟩ = some (.slice na nn nc) := hB.now.1.cell 3
            go_simp
            exact hK.out _ _ ⟨hB, rfl, Nat.le_refl _, .inl (Below.refl _ _), fun h => absurd h (by decide)⟩
          refine Stps2.cons (o := _) ?_ ?_
          · intro ac yw hsz hold hB hp K hK
            have t75 : ac.tmps[75]? = some (.bool true) := (List.cons.inj (hp 11 (by decide))).1
            rw [if_pos (wanted_pos rfl rfl t75)]
            obtain ⟨x14_14, e14, g14_0⟩ := hp 14 (by decide)
            have t78 : ac.tmps[78]? = some (.agg x14_14) := (List.cons.inj e14).1
            have e15 := hp 15 (by decide)
            have t79 : ac.tmps[79]? = some (.agg #[.slice (some ⟨w7.heap.size, 0, none⟩) 1 1, .bool false, .slice ta 0 tc, .slice na nn nc]) := (List.cons.inj e15).1
            clear hold hp hsz e14 e15
            go_simp
            (go_at_call 23; (with_reducible refine (FS.out _ _ _ g14_0 (hB.now.2.2.2.2.1) (hB.now.2.2.2.2.2.2.2.2.2.2.1) (hB.now.2.2.2.2.2.2.2.2.2.1)).mono ?_); rintro e wz ⟨rfl, hbz⟩)
            exact hK.out _ _ ⟨hB.go hbz, rfl, hbz.size, .inl hbz, fun h => absurd h (by decide)⟩
          refine Stps2.cons (o := _) ?_ ?_
          · intro ac yw hsz hold hB hp K hK
            have e11 := hp 11 (by decide)
            have t75 : ac.tmps[75]? = some (.bool true) := (List.cons.inj e11).1
            have e16 := hp 16 (by decide)
            have t80 : ac.tmps[80]? = some (.bool true) := (List.cons.inj e16).1
            clear hold hp hsz e11 e16
            go_simp
            exact hK.out _ _ ⟨hB, rfl, Nat.le_refl _, .inl (Below.refl _ _), fun h => absurd h (by decide)⟩
          refine Stps2.cons (o := _) ?_ ?_
          · intro ac yw hsz hold hB hp K hK
            have e17 := hp 17 (by decide)
            have t81 : ac.tmps[81]? = some (.bool true) := (List.cons.inj e17).1
            clear hold hp hsz e17
            go_simp
            exact hK.out _ _ ⟨hB, rfl, Nat.le_refl _, .inl (Below.refl _ _), fun h => absurd h (by decide)⟩
          refine Stps2.cons (o := _) ?_ ?_
          · intro ac yw hsz hold hB hp K hK
            have t82 : ac.tmps[82]? = some (.bool true) := (List.cons.inj (hp 18 (by decide))).1
            rw [if_pos (wanted_pos rfl rfl t82)]
            clear hold hp hsz
            go_simp
            (go_at_call 17; (with_reducible refine (AW.out _).mono ?_); rintro e wz ⟨rfl, hbz⟩)
            exact hK.out _ _ ⟨hB.go hbz, rfl, hbz.size, .inl hbz, fun h => absurd h (by decide)⟩
          refine Stps2.cons (o := _) ?_ ?_
          · intro ac yw hsz hold hB hp K hK
            have e18 := hp 18 (by decide)
            have t82 : ac.tmps[82]? = some (.bool true) := (List.cons.inj e18).1
            have e19 := hp 19 (by decide)
            have t83 : ac.tmps[83]? = some (.bool true) := (List.cons.inj e19).1
            clear hold hp hsz e18 e19
            go_simp
            exact hK.out _ _ ⟨hB, rfl, Nat.le_refl _, .inl (Below.refl _ _), fun h => absurd h (by decide)⟩
          refine Stps2.cons (o := _) ?_ ?_
          · intro ac yw hsz hold hB hp K hK
            have e20 := hp 20 (by decide)
            have t84 : ac.tmps[84]? = some (.bool true) := (List.cons.inj e20).1
            clear hold hp hsz e20
            go_simp
            exact hK.out _ _ ⟨hB, rfl, Nat.le_refl _, .inl (Below.refl _ _), fun h => absurd h (by decide)⟩
          exact Stps2.nil _
      | false =>
        cases sh with
        | true =>
          have hk0 := Q1.out.1 rfl
          rw [if_neg (by decide)] at hc4
          subst hc4
          have BB := Lib.hid (BB.out.newRow zerC 50)
          unfold zerC arrC
          unfold zerC arrC at BB
          clear Q1
          go_wp2_with fail
          go_at_call 43
          (with_reducible refine (RC.out _ (BB.out.now.2.2.2.2.2.1)).mono ?_)
          rintro e w5 ⟨rfl, hw5⟩
          have BB := Lib.hid (hw5 ▸ BB.out)
          clear hw5
          obtain ⟨x0, x1, x2, x3⟩ := pl_cells (BB.out.now.2.2.2.1)
          obtain ⟨y0, y1, y2, y3, y4, y5, y6, y7, y8, y9, y10, y11⟩ := z_cells BB.out.now.1
          go_wp2_with fail
          go_at_call 28
          (with_reducible refine (len0A_any false 0 (fun _ => 0) none 0 none 0 _).mono ?_)
          rintro e w6 ⟨rfl, hb6⟩
          have BB := Lib.hid (BB.out.go hb6)
          clear hb6 x0 x1 x2 x3 y0 y1 y2 y3 y4 y5 y6 y7 y8 y9 y10 y11
          obtain ⟨x0, x1, x2, x3⟩ := pl_cells (BB.out.now.2.2.2.1)
          have BA := BB
          have BB := Lib.hid (BB.out.newRow #[.slice sa r sc, .bool false, .slice ta 0 tc, .slice na nn nc] 46)
          obtain ⟨y0, y1, y2, y3⟩ := pl_cells (BB.out.now.2.2.2.2.1)
          go_wp2_with fail
          go_at_call 29
          (with_reducible refine (LN.out _ (BB.out.now.2.2.2.2.2.2.2.2.2.1) (BB.out.now.2.2.2.2.2.2.2.2.1) (BB.out.now.2.2.2.2.2.2.2.1)).mono ?_)
          rintro e w7 ⟨rfl, hb7⟩
          have BB := Lib.hid ((BB.out.go hb7).alloc (.cells #[.int .i64 (nn : Int)] 3))
          have HK := Lib.hid (KRow.one' w7 .i64 (nn : Int) 3)
          have hs7 : w6.heap.size + 1 ≤ w7.heap.size := by have := hb7.size; rwa [World.size_alloc] at this
          have hbA : Below w6.heap.size w6 w7 := ((Below.refl _ _).alloc (Nat.le_refl _) (.cells #[.slice sa r sc, .bool false, .slice ta 0 tc, .slice na nn nc] 46)).trans (hb7.mono (by rw [World.size_alloc]; omega))
          clear hb7 x0 x1 x2 x3 y0 y1 y2 y3
          have r12 := BB.out.now.1
          have f12 := r12.free 0
          have v12 := r12.cell 0
          have hbD : Below w6.heap.size w6 ((w7.alloc (.cells #[.int .i64 (nn : Int)] 3)).setCell ⟨w6.heap.size, 0, none⟩ (Value.slice (some ⟨w7.heap.size, 0, none⟩) 1 1)) := (hbA.alloc (by omega) _).setCell (p := ⟨w6.heap.size, 0, none⟩) (Nat.le_refl _) _
          have BD := BA.out.go hbD
          have r13 : Row ((w7.alloc (.cells #[.int .i64 (nn : Int)] 3)).setCell ⟨w6.heap.size, 0, none⟩ (Value.slice (some ⟨w7.heap.size, 0, none⟩) 1 1)) w6.heap.size 46 #[.slice (some ⟨w7.heap.size, 0, none⟩) 1 1, .bool false, .slice ta 0 tc, .slice na nn nc] := r12.set 0 (Value.slice (some ⟨w7.heap.size, 0, none⟩) 1 1)
          have kf : KRow ((w7.alloc (.cells #[.int .i64 (nn : Int)] 3)).setCell ⟨w6.heap.size, 0, none⟩ (Value.slice (some ⟨w7.heap.size, 0, none⟩) 1 1)) .i64 (some ⟨w7.heap.size, 0, none⟩) 1 1 (fun _ => (nn : Int)) := HK.out.away (.inr (fun x hx e => by obtain rfl := Option.some.inj hx; have e : w7.heap.size = w6.heap.size := e; omega)) (Far.setCell _ _ _ _)
          have B10 : Hid (Bag w (fun y => Row y w6.heap.size 46 #[.slice (some ⟨w7.heap.size, 0, none⟩) 1 1, .bool false, .slice ta 0 tc, .slice na nn nc] ∧ Row y w4.heap.size 50 #[.bool false, .int .i64 0, .int .i64 0, .int .i64 0, .int .i64 0, .int .i64 0, .int .i64 0, .int .i64 0, .int .i64 0, .int .i64 0, .slice none 0 0, .slice none 0 0] ∧ Row y w3.heap.size 50 #[.bool false, .int .i64 ((r : Int) - 1), .int .i64 (dm S r 0), .int .i64 (dm S r 1), .int .i64 (dm S r 2), .int .i64 (dm S r 3), .int .i64 (dm S r 4), .int .i64 (dm S r 5), .int .i64 (dm S r 6), .int .i64 (dm S r 7), .slice na3 nn nc3, .slice none 0 0] ∧ Row y w.heap.size 46 #[.slice sa r sc, .bool false, .slice ta 0 tc, .slice na nn nc] ∧ KRow y .i64 (some ⟨w7.heap.size, 0, none⟩) 1 1 (fun _ => (nn : Int)) ∧ RRow y na3 nn nc3 P Q ∧ KRow y .i64 t1 m d1 at' ∧ KRow y .i64 s1 sn c1 S' ∧ QRow y na nn nc fB fS fT ∧ KRow y .i32 ta 0 tc g ∧ KRow y .i64 sa r sc S ∧ True) ((w7.alloc (.cells #[.int .i64 (nn : Int)] 3)).setCell ⟨w6.heap.size, 0, none⟩ (Value.slice (some ⟨w7.heap.size, 0, none⟩) 1 1))) := Lib.hid ((((((((((((⟨BD.below, fun _ _ _ _ => trivial, trivial⟩ : Bag w (fun _ => True) ((w7.alloc (.cells #[.int .i64 (nn : Int)] 3)).setCell ⟨w6.heap.size, 0, none⟩ (Value.slice (some ⟨w7.heap.size, 0, none⟩) 1 1))).krow (BD.now.2.2.2.2.2.2.2.2.1)).krow (BD.now.2.2.2.2.2.2.2.1)).qrow (BD.now.2.2.2.2.2.2.1)).krow (BD.now.2.2.2.2.2.1)).krow (BD.now.2.2.2.2.1)).rrow (BD.now.2.2.1)).krow (kf)).row (BD.now.2.2.2.1)).row (BD.now.2.1)).row (BD.now.1)).row (r13))
          clear r13 kf BD hbD BA HK hbA BB
          go_wp2_with fail
          generalize ((w7.alloc (.cells #[.int .i64 (nn : Int)] 3)).setCell ⟨w6.heap.size, 0, none⟩ (Value.slice (some ⟨w7.heap.size, 0, none⟩) 1 1)) = yD at *
          clear v12 f12 r12 hs7
          refine Code.wp_mono (Q := fun e ac yw => match e with | .normal => ac.tmps.size = 85 ∧ ac.defers = [] ∧ ac.tmps[6]? = some (.bool true) ∧ Below w.heap.size w yw | _ => False) ?_ ?_
          · intro e ac yw
            cases e
            case normal =>
              rintro ⟨hsz, hdf, t6, hbw⟩
              obtain ⟨TV, hTV⟩ : ∃ TV : Nat → Value, ∀ i, (ac.tmps[i]?).getD undef = TV i := ⟨_, fun _ => rfl⟩
              have f6 := (hTV 6).symm.trans (congrArg (fun x => Option.getD x undef) t6)
              have hac := act_eq (n := 85) hsz TV hTV
              rw [show ((List.range 85).map TV).toArray = #[TV 0, TV 1, TV 2, TV 3, TV 4, TV 5, TV 6, TV 7, TV 8, TV 9, TV 10, TV 11, TV 12, TV 13, TV 14, TV 15, TV 16, TV 17, TV 18, TV 19, TV 20, TV 21, TV 22, TV 23, TV 24, TV 25, TV 26, TV 27, TV 28, TV 29, TV 30, TV 31, TV 32, TV 33, TV 34, TV 35, TV 36, TV 37, TV 38, TV 39, TV 40, TV 41, TV 42, TV 43, TV 44, TV 45, TV 46, TV 47, TV 48, TV 49, TV 50, TV 51, TV 52, TV 53, TV 54, TV 55, TV 56, TV 57, TV 58, TV 59, TV 60, TV 61, TV 62, TV 63, TV 64, TV 65, TV 66, TV 67, TV 68, TV 69, TV 70, TV 71, TV 72, TV 73, TV 74, TV 75, TV 76, TV 77, TV 78, TV 79, TV 80, TV 81, TV 82, TV 83, TV 84] from rfl, f6, hdf] at hac
              simp only [Option.getD_some] at hac
              subst hac
              clear hTV f6
              have HE := Lib.hid hbw
              clear t6 hbw B10
              go_wp2
              go_ret
              exact ⟨rfl, HE.out⟩
            all_goals exact fun h => h.elim
          · refine wp_region_inv2 ⟨(fun j => ([[64], [65], [66], [], [], [], [], [], [], [], [74], [75], [76], [77], [78], [79], [80], [81], [82], [83], [84], [6]] : List (List Nat)).getD j []), (fun j => ([[], [0], [0, 1], [0, 1, 2], [0, 1, 2, 3], [0, 1, 2], [0, 1, 2], [0, 1, 2], [0, 1, 2, 3, 4, 5, 6, 7], [0, 1, 2, 3, 4, 5, 6, 7, 8], [0, 1, 2, 3, 4, 5, 6, 7, 8, 9], [0, 1, 2, 3, 4, 5, 6, 7, 8, 9, 10], [0, 1, 2, 3, 4, 5, 6, 7, 8, 9, 10, 11], [0, 1, 2, 3, 4, 5, 6, 7, 8, 9, 10, 11, 12], [0, 1, 2, 3, 4, 5, 6, 7, 8, 9, 10, 11, 12, 13], [0, 1, 2, 3, 4, 5, 6, 7, 8, 9, 10, 11], [0, 1, 2, 3, 4, 5, 6, 7, 8, 9, 10, 11, 12, 13, 14, 15], [0, 1, 2, 3, 4, 5, 6, 7, 8, 9, 10, 11, 12, 13, 14, 15, 16], [0, 1, 2, 3, 4, 5, 6, 7, 8, 9, 10, 11, 12, 13, 14, 15, 16, 17], [0, 1, 2, 3, 4, 5, 6, 7, 8, 9, 10, 11, 12, 13, 14, 15, 16, 17, 18], [0, 1, 2, 3, 4, 5, 6, 7, 8, 9, 10, 11, 12, 13, 14, 15, 16, 17, 18, 19], [0, 1, 2, 3, 4, 5, 6, 7, 8, 9, 10, 11, 12, 13, 14, 15, 16, 17, 18, 19, 20]] : List (List Nat)).getD j []), []⟩ (fun jj vv yy => match jj with | 0 => vv = [some (.bool false)] | 1 => vv = [some (.bool true)] | 2 => vv = [some (.bool true)] | 3 => True | 4 => True | 5 => True | 6 => True | 7 => True | 8 => True | 9 => True | 10 => vv = [some (.bool true)] | 11 => vv = [some (.bool true)] | 12 => vv = [some (.agg #[.bool false, .int .i64 ((r : Int) - 1), .int .i64 (dm S r 0), .int .i64 (dm S r 1), .int .i64 (dm S r 2), .int .i64 (dm S r 3), .int .i64 (dm S r 4), .int .i64 (dm S r 5), .int .i64 (dm S r 6), .int .i64 (dm S r 7), .slice na3 nn nc3, .slice none 0 0])] | 13 => ∃ (x13 : Array Value), vv = [some (.agg x13)] ∧ NumArr yy x13 (fun _ => (nn : Int)) 1 nn P Q | 14 => ∃ (x14 : Array Value), vv = [some (.agg x14)] ∧ PlnAt yy x14 (fun _ => (nn : Int)) 1 false (fun _ => 0) 0 (fun j => rB (P j)) (fun j => rS (P j)) (fun j => str (dec (Q j))) nn | 15 => vv = [some (.agg #[.slice (some ⟨w7.heap.size, 0, none⟩) 1 1, .bool false, .slice ta 0 tc, .slice na nn nc])] | 16 => vv = [some (.bool true)] | 17 => vv = [some (.bool true)] | 18 => vv = [some (.bool true)] | 19 => vv = [some (.bool true)] | 20 => vv = [some (.bool true)] | 21 => vv = [some (.bool true)] | _ => True) (Bag w (fun y => Row y w6.heap.size 46 #[.slice (some ⟨w7.heap.size, 0, none⟩) 1 1, .bool false, .slice ta 0 tc, .slice na nn nc] ∧ Row y w4.heap.size 50 #[.bool false, .int .i64 0, .int .i64 0, .int .i64 0, .int .i64 0, .int .i64 0, .int .i64 0, .int .i64 0, .int .i64 0, .int .i64 0, .slice none 0 0, .slice none 0 0] ∧ Row y w3.heap.size 50 #[.bool false, .int .i64 ((r : Int) - 1), .int .i64 (dm S r 0), .int .i64 (dm S r 1), .int .i64 (dm S r 2), .int .i64 (dm S r 3), .int .i64 (dm S r 4), .int .i64 (dm S r 5), .int .i64 (dm S r 6), .int .i64 (dm S r 7), .slice na3 nn nc3, .slice none 0 0] ∧ Row y w.heap.size 46 #[.slice sa r sc, .bool false, .slice ta 0 tc, .slice na nn nc] ∧ KRow y .i64 (some ⟨w7.heap.size, 0, none⟩) 1 1 (fun _ => (nn : Int)) ∧ RRow y na3 nn nc3 P Q ∧ KRow y .i64 t1 m d1 at' ∧ KRow y .i64 s1 sn c1 S' ∧ QRow y na nn nc fB fS fT ∧ KRow y .i32 ta 0 tc g ∧ KRow y .i64 sa r sc S ∧ True)) (by kernel_rfl) (by kernel_rfl) (by kernel_rfl) B10.out.drew ?_ ?_ ?_
            · intro jj vv yw yw2 hb h
              match jj, h with
              | 0, h => exact h
              | 1, h => exact h
              | 2, h => exact h
              | 3, h => exact h
              | 4, h => exact h
              | 5, h => exact h
              | 6, h => exact h
              | 7, h => exact h
              | 8, h => exact h
              | 9, h => exact h
              | 10, h => exact h
              | 11, h => exact h
              | 12, h => exact h
              | 13, ⟨x13, e13, g13_0⟩ => exact Exists.intro x13 (And.intro e13 (g13_0.below hb))
              | 14, ⟨x14, e14, g14_0⟩ => exact Exists.intro x14 (And.intro e14 (g14_0.below hb))
              | 15, h => exact h
              | 16, h => exact h
              | 17, h => exact h
              | 18, h => exact h
              | 19, h => exact h
              | 20, h => exact h
              | 21, h => exact h
              | _ + 22, h => exact h
            · intro ac yw hsz hdf hold hB hp
              exact ⟨hsz, hdf, (List.cons.inj (hp 21 (by decide))).1, hB.below⟩
            refine Stps2.cons (o := _) ?_ ?_
            · intro ac yw hsz hold hB hp K hK
              have t9 : ac.tmps[9]? = some (.bool false) := hold 9 (by kernel_rfl)
              clear hold hp hsz
              go_simp
              exact hK.out _ _ ⟨hB, rfl, Nat.le_refl _, .inl (Below.refl _ _), fun h => absurd h (by decide)⟩
            refine Stps2.cons (o := _) ?_ ?_
            · intro ac yw hsz hold hB hp K hK
              have e0 := hp 0 (by decide)
              have t64 : ac.tmps[64]? = some (.bool false) := (List.cons.inj e0).1
              clear hold hp hsz e0
              go_simp
              exact hK.out _ _ ⟨hB, rfl, Nat.le_refl _, .inl (Below.refl _ _), fun h => absurd h (by decide)⟩
            refine Stps2.cons (o := _) ?_ ?_
            · intro ac yw hsz hold hB hp K hK
              have e1 := hp 1 (by decide)
              have t65 : ac.tmps[65]? = some (.bool true) := (List.cons.inj e1).1
              clear hold hp hsz e1
              go_simp
              exact hK.out _ _ ⟨hB, rfl, Nat.le_refl _, .inl (Below.refl _ _), fun h => absurd h (by decide)⟩
            refine Stps2.cons (o := _) ?_ ?_
            · intro ac yw hsz hold hB hp K hK
              have t66 : ac.tmps[66]? = some (.bool true) := (List.cons.inj (hp 2 (by decide))).1
              rw [if_neg (by rw [wanted_neg rfl rfl t66 (fun e => by cases e)]; decide)]
              exact hK.out _ _ ⟨hB, trivial, Nat.le_refl _, .inl (Below.refl _ _), fun h => absurd h (by decide)⟩
            refine Stps2.cons (o := _) ?_ ?_
            · intro ac yw hsz hold hB hp K hK
              have t66 : ac.tmps[66]? = some (.bool true) := (List.cons.inj (hp 2 (by decide))).1
              rw [if_neg (by rw [wanted_neg rfl rfl t66 (fun e => by cases e)]; decide)]
              exact hK.out _ _ ⟨hB, trivial, Nat.le_refl _, .inl (Below.refl _ _), fun h => absurd h (by decide)⟩
            refine Stps2.cons (o := _) ?_ ?_
            · intro ac yw hsz hold hB hp K hK
              have t66 : ac.tmps[66]? = some (.bool true) := (List.cons.inj (hp 2 (by decide))).1
              rw [if_neg (by rw [wanted_neg rfl rfl t66 (fun e => by cases e)]; decide)]
              exact hK.out _ _ ⟨hB, trivial, Nat.le_refl _, .inl (Below.refl _ _), fun h => absurd h (by decide)⟩
            refine Stps2.cons (o := _) ?_ ?_
            · intro ac yw hsz hold hB hp K hK
              have t66 : ac.tmps[66]? = some (.bool true) := (List.cons.inj (hp 2 (by decide))).1
              rw [if_neg (by rw [wanted_neg rfl rfl t66 (fun e => by cases e)]; decide)]
              exact hK.out _ _ ⟨hB, trivial, Nat.le_refl _, .inl (Below.refl _ _), fun h => absurd h (by decide)⟩
            refine Stps2.cons (o := _) ?_ ?_
            · intro ac yw hsz hold hB hp K hK
              have t66 : ac.tmps[66]? = some (.bool true) := (List.cons.inj (hp 2 (by decide))).1
              rw [if_neg (by rw [wanted_neg rfl rfl t66 (fun e => by cases e)]; decide)]
              exact hK.out _ _ ⟨hB, trivial, Nat.le_refl _, .inl (Below.refl _ _), fun h => absurd h (by decide)⟩
            refine Stps2.cons (o := _) ?_ ?_
            · intro ac yw hsz hold hB hp K hK
              have t66 : ac.tmps[66]? = some (.bool true) := (List.cons.inj (hp 2 (by decide))).1
              rw [if_neg (by rw [wanted_neg rfl rfl t66 (fun e => by cases e)]; decide)]
              exact hK.out _ _ ⟨hB, trivial, Nat.le_refl _, .inl (Below.refl _ _), fun h => absurd h (by decide)⟩
            refine Stps2.cons (o := _) ?_ ?_
            · intro ac yw hsz hold hB hp K hK
              have t66 : ac.tmps[66]? = some (.bool true) := (List.cons.inj (hp 2 (by decide))).1
              rw [if_neg (by rw [wanted_neg rfl rfl t66 (fun e => by cases e)]; decide)]
              exact hK.out _ _ ⟨hB, trivial, Nat.le_refl _, .inl (Below.refl _ _), fun h => absurd h (by decide)⟩
            refine Stps2.cons (o := _) ?_ ?_
            · intro ac yw hsz hold hB hp K hK
              have e2 := hp 2 (by decide)
              have t66 : ac.tmps[66]? = some (.bool true) := (List.cons.inj e2).1
              clear hold hp hsz e2
              go_simp
              exact hK.out _ _ ⟨hB, rfl, Nat.le_refl _, .inl (Below.refl _ _), fun h => absurd h (by decide)⟩
            refine Stps2.cons (o := _) ?_ ?_
            · intro ac yw hsz hold hB hp K hK
              have e10 := hp 10 (by decide)
              have t74 : ac.tmps[74]? = some (.bool true) := (List.cons.inj e10).1
              clear hold hp hsz e10
              go_simp
              exact hK.out _ _ ⟨hB, rfl, Nat.le_refl _, .inl (Below.refl _ _), fun h => absurd h (by decide)⟩
            refine Stps2.cons (o := _) ?_ ?_
            · intro ac yw hsz hold hB hp K hK
              have t75 : ac.tmps[75]? = some (.bool true) := (List.cons.inj (hp 11 (by decide))).1
              rw [if_pos (wanted_pos rfl rfl t75)]
              have t7 : ac.tmps[7]? = some (.pointer (some ⟨w3.heap.size, 0, none⟩)) := hold 7 (by kernel_rfl)
              clear hold hp hsz
              have v0_0 : yw.cell? ⟨w.heap.size, 0, none⟩ = some (.slice sa r sc) := hB.now.2.2.2.1.cell 0
              have v0_1 : yw.cell? ⟨w.heap.size, 1, none⟩ = some (.bool false) := hB.now.2.2.2.1.cell 1
              have v0_2 : yw.cell? ⟨w.heap.size, 2, none⟩ = some (.slice ta 0 tc) := hB.now.2.2.2.1.cell 2
              have v0_3 : yw.cell? ⟨w.heap.size, 3, none⟩ = some (.slice na nn nc) := hB.now.2.2.2.1.cell 3
              have v1_0 : yw.cell? ⟨w3.heap.size, 0, none⟩ = some (.bool false) := hB.now.2.2.1.cell 0
              have v1_1 : yw.cell? ⟨w3.heap.size, 1, none⟩ = some (.int .i64 ((r : Int) - 1)) := hB.now.2.2.1.cell 1
              have v1_2 : yw.cell? ⟨w3.heap.size, 2, none⟩ = some (.int .i64 (dm S r 0)) := hB.now.2.2.1.cell 2
              have v1_3 : yw.cell? ⟨w3.heap.size, 3, none⟩ = some (.int .i64 (dm S r 1)) := hB.now.2.2.1.cell 3
              have v1_4 : yw.cell? ⟨w3.heap.size, 4, none⟩ = some (.int .i64 (dm S r 2)) := hB.now.2.2.1.cell 4
              have v1_5 : yw.cell? ⟨w3.heap.size, 5, none⟩ = some (.int .i64 (dm S r 3)) := hB.now.2.2.1.cell 5
              have v1_6 : yw.cell? ⟨w3.heap.size, 6, none⟩ = some (.int .i64 (dm S r 4)) := hB.now.2.2.1.cell 6
              have v1_7 : yw.cell? ⟨w3.heap.size, 7, none⟩ = some (.int .i64 (dm S r 5)) := hB.now.2.2.1.cell 7
              have v1_8 : yw.cell? ⟨w3.heap.size, 8, none⟩ = some (.int .i64 (dm S r 6)) := hB.now.2.2.1.cell 8
              have v1_9 : yw.cell? ⟨w3.heap.size, 9, none⟩ = some (.int .i64 (dm S r 7)) := hB.now.2.2.1.cell 9
              have v1_10 : yw.cell? ⟨w3.heap.size, 10, none⟩ = some (.slice na3 nn nc3) := hB.now.2.2.1.cell 10
              have v1_11 : yw.cell? ⟨w3.heap.size, 11, none⟩ = some (.slice none 0 0) := hB.now.2.2.1.cell 11
              have v2_0 : yw.cell? ⟨w4.heap.size, 0, none⟩ = some (.bool false) := hB.now.2.1.cell 0
              have v2_1 : yw.cell? ⟨w4.heap.size, 1, none⟩ = some (.int .i64 0) := hB.now.2.1.cell 1
              have v2_2 : yw.cell? ⟨w4.heap.size, 2, none⟩ = some (.int .i64 0) := hB.now.2.1.cell 2
              have v2_3 : yw.cell? ⟨w4.heap.size, 3, none⟩ = some (.int .i64 0) := hB.now.2.1.cell 3
              have v2_4 : yw.cell? ⟨w4.heap.size, 4, none⟩ = some (.int .i64 0) := hB.now.2.1.cell 4
              have v2_5 : yw.cell? ⟨w4.heap.size, 5, none⟩ = some (.int .i64 0) := hB.now.2.1.cell 5
              have v2_6 : yw.cell? ⟨w4.heap.size, 6, none⟩ = some (.int .i64 0) := hB.now.2.1.cell 6
              have v2_7 : yw.cell? ⟨w4.heap.size, 7, none⟩ = some (.int .i64 0) := hB.now.2.1.cell 7
              have v2_8 : yw.cell? ⟨w4.heap.size, 8, none⟩ = some (.int .i64 0) := hB.now.2.1.cell 8
              have v2_9 : yw.cell? ⟨w4.heap.size, 9, none⟩ = some (.int .i64 0) := hB.now.2.1.cell 9
              have v2_10 : yw.cell? ⟨w4.heap.size, 10, none⟩ = some (.slice none 0 0) := hB.now.2.1.cell 10
              have v2_11 : yw.cell? ⟨w4.heap.size, 11, none⟩ = some (.slice none 0 0) := hB.now.2.1.cell 11
              have v3_0 : yw.cell? ⟨w6.heap.size, 0, none⟩ = some (.slice (some ⟨w7.heap.size, 0, none⟩) 1 1) := hB.now.1.cell 0
              have v3_1 : yw.cell? ⟨w6.heap.size, 1, none⟩ = some (.bool false) := hB.now.1.cell 1
              have v3_2 : yw.cell? ⟨w6.heap.size, 2, none⟩ = some (.slice ta 0 tc) := hB.now.1.cell 2
              have v3_3 : yw.cell? ⟨w6.heap.size, 3, none⟩ = some (.slice na nn nc) := hB.now.1.cell 3
              go_simp
              exact hK.out _ _ ⟨hB, rfl, Nat.le_refl _, .inl (Below.refl _ _), fun h => absurd h (by decide)⟩
            refine Stps2.cons (o := _) ?_ ?_
            · intro ac yw hsz hold hB hp K hK
              have t75 : ac.tmps[75]? = some (.bool true) := (List.cons.inj (hp 11 (by decide))).1
              rw [if_pos (wanted_pos rfl rfl t75)]
              have e12 := hp 12 (by decide)
              have t76 : ac.tmps[76]? = some (.agg #[.bool false, .int .i64 ((r : Int) - 1), .int .i64 (dm S r 0), .int .i64 (dm S r 1), .int .i64 (dm S r 2), .int .i64 (dm S r 3), .int .i64 (dm S r 4), .int .i64 (dm S r 5), .int .i64 (dm S r 6), .int .i64 (dm S r 7), .slice na3 nn nc3, .slice none 0 0]) := (List.cons.inj e12).1
              clear hold hp hsz e12
              go_simp
              (go_at_call 45; (with_reducible refine (RV.out _ _ _ (hB.now.2.2.2.2.2.1)).mono ?_); rintro e wz ⟨x13, rfl, h13_0, hbz⟩)
              exact hK.out _ _ ⟨hB.go hbz, Exists.intro x13 (And.intro rfl h13_0), hbz.size, .inl hbz, fun h => absurd h (by decide)⟩
            refine Stps2.cons (o := _) ?_ ?_
            · intro ac yw hsz hold hB hp K hK
              have t75 : ac.tmps[75]? = some (.bool true) := (List.cons.inj (hp 11 (by decide))).1
              rw [if_pos (wanted_pos rfl rfl t75)]
              obtain ⟨x13_13, e13, g13_0⟩ := hp 13 (by decide)
              have t77 : ac.tmps[77]? = some (.agg x13_13) := (List.cons.inj e13).1
              clear hold hp hsz e13
              go_simp
              (go_at_call 24; (with_reducible refine (PV.out _ _ g13_0).mono ?_); rintro e wz ⟨x14, rfl, h14_0, hbz⟩)
              exact hK.out _ _ ⟨hB.go hbz, Exists.intro x14 (And.intro rfl h14_0), hbz.size, .inl hbz, fun h => absurd h (by decide)⟩
            refine Stps2.cons (o := _) ?_ ?_
            · intro ac yw hsz hold hB hp K hK
              have t75 : ac.tmps[75]? = some (.bool true) := (List.cons.inj (hp 11 (by decide))).1
              rw [if_pos (wanted_pos rfl rfl t75)]
              have t12 : ac.tmps[12]? = some (.pointer (some ⟨w6.heap.size, 0, none⟩)) := hold 12 (by kernel_rfl)
              clear hold hp hsz
              have v0_0 : yw.cell? ⟨w.heap.size, 0, none⟩ = some (.slice sa r sc) := hB.now.2.2.2.1.cell 0
              have v0_1 : yw.cell? ⟨w.heap.size, 1, none⟩ = some (.bool false) := hB.now.2.2.2.1.cell 1
              have v0_2 : yw.cell? ⟨w.heap.size, 2, none⟩ = some (.slice ta 0 tc) := hB.now.2.2.2.1.cell 2
              have v0_3 : yw.cell? ⟨w.heap.size, 3, none⟩ = some (.slice na nn nc) := hB.now.2.2.2.1.cell 3
              have v1_0 : yw.cell? ⟨w3.heap.size, 0, none⟩ = some (.bool false) := hB.now.2.2.1.cell 0
              have v1_1 : yw.cell? ⟨w3.heap.size, 1, none⟩ = some (.int .i64 ((r : Int) - 1)) := hB.now.2.2.1.cell 1
              have v1_2 : yw.cell? ⟨w3.heap.size, 2, none⟩ = some (.int .i64 (dm S r 0)) := hB.now.2.2.1.cell 2
              have v1_3 : yw.cell? ⟨w3.heap.size, 3, none⟩ = some (.int .i64 (dm S r 1)) := hB.now.2.2.1.cell 3
              have v1_4 : yw.cell? ⟨w3.heap.size, 4, none⟩ = some (.int .i64 (dm S r 2)) := hB.now.2.2.1.cell 4
              have v1_5 : yw.cell? ⟨w3.heap.size, 5, none⟩ = some (.int .i64 (dm S r 3)) := hB.now.2.2.1.cell 5
              have v1_6 : yw.cell? ⟨w3.heap.size, 6, none⟩ = some (.int .i64 (dm S r 4)) := hB.now.2.2.1.cell 6
              have v1_7 : yw.cell? ⟨w3.heap.size, 7, none⟩ = some (.int .i64 (dm S r 5)) := hB.now.2.2.1.cell 7
              have v1_8 : yw.cell? ⟨w3.heap.size, 8, none⟩ = some (.int .i64 (dm S r 6)) := hB.now.2.2.1.cell 8
              have v1_9 : yw.cell? ⟨w3.heap.size, 9, none⟩ = some (.int .i64 (dm S r 7)) := hB.now.2.2.1.cell 9
              have v1_10 : yw.cell? ⟨w3.heap.size, 10, none⟩ = some (.slice na3 nn nc3) := hB.now.2.2.1.cell 10
              have v1_11 : yw.cell? ⟨w3.heap.size, 11, none⟩ = some (.slice none 0 0) := hB.now.2.2.1.cell 11
              have v2_0 : yw.cell? ⟨w4.heap.size, 0, none⟩ = some (.bool false) := hB.now.2.1.cell 0
              have v2_1 : yw.cell? ⟨w4.heap.size, 1, none⟩ = some (.int .i64 0) := hB.now.2.1.cell 1
              have v2_2 : yw.cell? ⟨w4.heap.size, 2, none⟩ = some (.int .i64 0) := hB.now.2.1.cell 2
              have v2_3 : yw.cell? ⟨w4.heap.size, 3, none⟩ = some (.int .i64 0) := hB.now.2.1.cell 3
              have v2_4 : yw.cell? ⟨w4.heap.size, 4, none⟩ = some (.int .i64 0) := hB.now.2.1.cell 4
              have v2_5 : yw.cell? ⟨w4.heap.size, 5, none⟩ = some (.int .i64 0) := hB.now.2.1.cell 5
              have v2_6 : yw.cell? ⟨w4.heap.size, 6, none⟩ = some (.int .i64 0) := hB.now.2.1.cell 6
              have v2_7 : yw.cell? ⟨w4.heap.size, 7, none⟩ = some (.int .i64 0) := hB.now.2.1.cell 7
              have v2_8 : yw.cell? ⟨w4.heap.size, 8, none⟩ = some (.int .i64 0) := hB.now.2.1.cell 8
              have v2_9 : yw.cell? ⟨w4.heap.size, 9, none⟩ = some (.int .i64 0) := hB.now.2.1.cell 9
              have v2_10 : yw.cell? ⟨w4.heap.size, 10, none⟩ = some (.slice none 0 0) := hB.now.2.1.cell 10
              have v2_11 : yw.cell? ⟨w4.heap.size, 11, none⟩ = some (.slice none 0 0) := hB.now.2.1.cell 11
              have v3_0 : yw.cell? ⟨w6.heap.size, 0, none⟩ = some (.slice (some ⟨w7.heap.size, 0, none⟩) 1 1) := hB.now.1.cell 0
              have v3_1 : yw.cell? ⟨w6.heap.size, 1, none⟩ = some (.bool false) := hB.now.1.cell 1
              have v3_2 : yw.cell? ⟨w6.heap.size, 2, none⟩ = some (.slice ta 0 tc) := hB.now.1.cell 2
              have v3_3 : yw.cell? ⟨w6.heap.size, 3, none⟩ = some (.slice na nn nc) := hB.now.1.cell 3
              go_simp
              exact hK.out _ _ ⟨hB, rfl, Nat.le_refl _, .inl (Below.refl _ _), fun h => absurd h (by decide)⟩
            refine Stps2.cons (o := _) ?_ ?_
            · intro ac yw hsz hold hB hp K hK
              have t75 : ac.tmps[75]? = some (.bool true) := (List.cons.inj (hp 11 (by decide))).1
              rw [if_pos (wanted_pos rfl rfl t75)]
              obtain ⟨x14_14, e14, g14_0⟩ := hp 14 (by decide)
              have t78 : ac.tmps[78]? = some (.agg x14_14) := (List.cons.inj e14).1
              have e15 := hp 15 (by decide)
              have t79 : ac.tmps[79]? = some (.agg #[.slice (some ⟨w7.heap.size, 0, none⟩) 1 1, .bool false, .slice ta 0 tc, .slice na nn nc]) := (List.cons.inj e15).1
              clear hold hp hsz e14 e15
              go_simp
              (go_at_call 23; (with_reducible refine (FS.out _ _ _ g14_0 (hB.now.2.2.2.2.1) (hB.now.2.2.2.2.2.2.2.2.2.1) (hB.now.2.2.2.2.2.2.2.2.1)).mono ?_); rintro e wz ⟨rfl, hbz⟩)
              exact hK.out _ _ ⟨hB.go hbz, rfl, hbz.size, .inl hbz, fun h => absurd h (by decide)⟩
            refine Stps2.cons (o := _) ?_ ?_
            · intro ac yw hsz hold hB hp K hK
              have e11 := hp 11 (by decide)
              have t75 : ac.tmps[75]? = some (.bool true) := (List.cons.inj e11).1
              have e16 := hp 16 (by decide)
              have t80 : ac.tmps[80]? = some (.bool true) := (List.cons.inj e16).1
              clear hold hp hsz e11 e16
              go_simp
              exact hK.out _ _ ⟨hB, rfl, Nat.le_refl _, .inl (Below.refl _ _), fun h => absurd h (by decide)⟩
            refine Stps2.cons (o := _) ?_ ?_
            · intro ac yw hsz hold hB hp K hK
              have e17 := hp 17 (by decide)
              have t81 : ac.tmps[81]? = some (.bool true) := (List.cons.inj e17).1
              clear hold hp hsz e17
              go_simp
              exact hK.out _ _ ⟨hB, rfl, Nat.le_refl _, .inl (Below.refl _ _), fun h => absurd h (by decide)⟩
            refine Stps2.cons (o := _) ?_ ?_
            · intro ac yw hsz hold hB hp K hK
              have t82 : ac.tmps[82]? = some (.bool true) := (List.cons.inj (hp 18 (by decide))).1
              rw [if_pos (wanted_pos rfl rfl t82)]
              clear hold hp hsz
              go_simp
              (go_at_call 17; (with_reducible refine (AW.out _).mono ?_); rintro e wz ⟨rfl, hbz⟩)
              exact hK.out _ _ ⟨hB.go hbz, rfl, hbz.size, .inl hbz, fun h => absurd h (by decide)⟩
            refine Stps2.cons (o := _) ?_ ?_
            · intro ac yw hsz hold hB hp K hK
              have e18 := hp 18 (by decide)
              have t82 : ac.tmps[82]? = some (.bool true) := (List.cons.inj e18).1
              have e19 := hp 19 (by decide)
              have t83 : ac.tmps[83]? = some (.bool true) := (List.cons.inj e19).1
              clear hold hp hsz e18 e19
              go_simp
              exact hK.out _ _ ⟨hB, rfl, Nat.le_refl _, .inl (Below.refl _ _), fun h => absurd h (by decide)⟩
            refine Stps2.cons (o := _) ?_ ?_
            · intro ac yw hsz hold hB hp K hK
              have e20 := hp 20 (by decide)
              have t84 : ac.tmps[84]? = some (.bool true) := (List.cons.inj e20).1
              clear hold hp hsz e20
              go_simp
              exact hK.out _ _ ⟨hB, rfl, Nat.le_refl _, .inl (Below.refl _ _), fun h => absurd h (by decide)⟩
            exact Stps2.nil _
        | false =>
          rw [if_neg (by decide)] at hc4
          subst hc4
          have BB := Lib.hid (BB.out.newRow zerC 50)
          unfold zerC arrC
          unfold zerC arrC at BB
          clear Q1
          go_wp2_with fail
          go_at_call 43
          (with_reducible refine (RC.out _ (BB.out.now.2.2.2.2.2.1)).mono ?_)
          rintro e w5 ⟨rfl, hw5⟩
          have BB := Lib.hid (hw5 ▸ BB.out)
          clear hw5
          obtain ⟨x0, x1, x2, x3⟩ := pl_cells (BB.out.now.2.2.2.1)
          obtain ⟨y0, y1, y2, y3, y4, y5, y6, y7, y8, y9, y10, y11⟩ := z_cells BB.out.now.1
          go_wp2_with fail
          go_at_call 28
          (with_reducible refine (len0A_any false 0 (fun _ => 0) none 0 none 0 _).mono ?_)
          rintro e w6 ⟨rfl, hb6⟩
          have BB := Lib.hid (BB.out.go hb6)
          clear hb6 x0 x1 x2 x3 y0 y1 y2 y3 y4 y5 y6 y7 y8 y9 y10 y11
          obtain ⟨x0, x1, x2, x3⟩ := pl_cells (BB.out.now.2.2.2.1)
          have BA := BB
          have BB := Lib.hid (BB.out.newRow #[.slice sa r sc, .bool false, .slice ta 0 tc, .slice na nn nc] 46)
          obtain ⟨y0, y1, y2, y3⟩ := pl_cells (BB.out.now.2.2.2.2.1)
          go_wp2_with fail
          go_at_call 29
          (with_reducible refine (LN.out _ (BB.out.now.2.2.2.2.2.2.2.2.2.1) (BB.out.now.2.2.2.2.2.2.2.2.1) (BB.out.now.2.2.2.2.2.2.2.1)).mono ?_)
          rintro e w7 ⟨rfl, hb7⟩
          have BB := Lib.hid ((BB.out.go hb7).alloc (.cells #[.int .i64 (nn : Int)] 3))
          have HK := Lib.hid (KRow.one' w7 .i64 (nn : Int) 3)
          have hs7 : w6.heap.size + 1 ≤ w7.heap.size := by have := hb7.size; rwa [World.size_alloc] at this
          have hbA : Below w6.heap.size w6 w7 := ((Below.refl _ _).alloc (Nat.le_refl _) (.cells #[.slice sa r sc, .bool false, .slice ta 0 tc, .slice na nn nc] 46)).trans (hb7.mono (by rw [World.size_alloc]; omega))
          clear hb7 x0 x1 x2 x3 y0 y1 y2 y3
          have r12 := BB.out.now.1
          have f12 := r12.free 0
          have v12 := r12.cell 0
          have hbD : Below w6.heap.size w6 ((w7.alloc (.cells #[.int .i64 (nn : Int)] 3)).setCell ⟨w6.heap.size, 0, none⟩ (Value.slice (some ⟨w7.heap.size, 0, none⟩) 1 1)) := (hbA.alloc (by omega) _).setCell (p := ⟨w6.heap.size, 0, none⟩) (Nat.le_refl _) _
          have BD := BA.out.go hbD
          have r13 : Row ((w7.alloc (.cells #[.int .i64 (nn : Int)] 3)).setCell ⟨w6.heap.size, 0, none⟩ (Value.slice (some ⟨w7.heap.size, 0, none⟩) 1 1)) w6.heap.size 46 #[.slice (some ⟨w7.heap.size, 0, none⟩) 1 1, .bool false, .slice ta 0 tc, .slice na nn nc] := r12.set 0 (Value.slice (some ⟨w7.heap.size, 0, none⟩) 1 1)
          have kf : KRow ((w7.alloc (.cells #[.int .i64 (nn : Int)] 3)).setCell ⟨w6.heap.size, 0, none⟩ (Value.slice (some ⟨w7.heap.size, 0, none⟩) 1 1)) .i64 (some ⟨w7.heap.size, 0, none⟩) 1 1 (fun _ => (nn : Int)) := HK.out.away (.inr (fun x hx e => by obtain rfl := Option.some.inj hx; have e : w7.heap.size = w6.heap.size := e; omega)) (Far.setCell _ _ _ _)
          have B10 : Hid (Bag w (fun y => Row y w6.heap.size 46 #[.slice (some ⟨w7.heap.size, 0, none⟩) 1 1, .bool false, .slice ta 0 tc, .slice na nn nc] ∧ Row y w4.heap.size 50 #[.bool false, .int .i64 0, .int .i64 0, .int .i64 0, .int .i64 0, .int .i64 0, .int .i64 0, .int .i64 0, .int .i64 0, .int .i64 0, .slice none 0 0, .slice none 0 0] ∧ Row y w3.heap.size 50 #[.bool false, .int .i64 ((r : Int) - 1), .int .i64 (dm S r 0), .int .i64 (dm S r 1), .int .i64 (dm S r 2), .int .i64 (dm S r 3), .int .i64 (dm S r 4), .int .i64 (dm S r 5), .int .i64 (dm S r 6), .int .i64 (dm S r 7), .slice na3 nn nc3, .slice none 0 0] ∧ Row y w.heap.size 46 #[.slice sa r sc, .bool false, .slice ta 0 tc, .slice na nn nc] ∧ KRow y .i64 (some ⟨w7.heap.size, 0, none⟩) 1 1 (fun _ => (nn : Int)) ∧ RRow y na3 nn nc3 P Q ∧ KRow y .i64 t1 m d1 at' ∧ KRow y .i64 s1 sn c1 S' ∧ QRow y na nn nc fB fS fT ∧ KRow y .i32 ta 0 tc g ∧ KRow y .i64 sa r sc S ∧ True) ((w7.alloc (.cells #[.int .i64 (nn : Int)] 3)).setCell ⟨w6.heap.size, 0, none⟩ (Value.slice (some ⟨w7.heap.size, 0, none⟩) 1 1))) := Lib.hid ((((((((((((⟨BD.below, fun _ _ _ _ => trivial, trivial⟩ : Bag w (fun _ => True) ((w7.alloc (.cells #[.int .i64 (nn : Int)] 3)).setCell ⟨w6.heap.size, 0, none⟩ (Value.slice (some ⟨w7.heap.size, 0, none⟩) 1 1))).krow (BD.now.2.2.2.2.2.2.2.2.1)).krow (BD.now.2.2.2.2.2.2.2.1)).qrow (BD.now.2.2.2.2.2.2.1)).krow (BD.now.2.2.2.2.2.1)).krow (BD.now.2.2.2.2.1)).rrow (BD.now.2.2.1)).krow (kf)).row (BD.now.2.2.2.1)).row (BD.now.2.1)).row (BD.now.1)).row (r13))
          clear r13 kf BD hbD BA HK hbA BB
          go_wp2_with fail
          generalize ((w7.alloc (.cells #[.int .i64 (nn : Int)] 3)).setCell ⟨w6.heap.size, 0, none⟩ (Value.slice (some ⟨w7.heap.size, 0, none⟩) 1 1)) = yD at *
          clear v12 f12 r12 hs7
          refine Code.wp_mono (Q := fun e ac yw => match e with | .normal => ac.tmps.size = 85 ∧ ac.defers = [] ∧ ac.tmps[6]? = some (.bool true) ∧ Below w.heap.size w yw | _ => False) ?_ ?_
          · intro e ac yw
            cases e
            case normal =>
              rintro ⟨hsz, hdf, t6, hbw⟩
              obtain ⟨TV, hTV⟩ : ∃ TV : Nat → Value, ∀ i, (ac.tmps[i]?).getD undef = TV i := ⟨_, fun _ => rfl⟩
              have f6 := (hTV 6).symm.trans (congrArg (fun x => Option.getD x undef) t6)
              have hac := act_eq (n := 85) hsz TV hTV
              rw [show ((List.range 85).map TV).toArray = #[TV 0, TV 1, TV 2, TV 3, TV 4, TV 5, TV 6, TV 7, TV 8, TV 9, TV 10, TV 11, TV 12, TV 13, TV 14, TV 15, TV 16, TV 17, TV 18, TV 19, TV 20, TV 21, TV 22, TV 23, TV 24, TV 25, TV 26, TV 27, TV 28, TV 29, TV 30, TV 31, TV 32, TV 33, TV 34, TV 35, TV 36, TV 37, TV 38, TV 39, TV 40, TV 41, TV 42, TV 43, TV 44, TV 45, TV 46, TV 47, TV 48, TV 49, TV 50, TV 51, TV 52, TV 53, TV 54, TV 55, TV 56, TV 57, TV 58, TV 59, TV 60, TV 61, TV 62, TV 63, TV 64, TV 65, TV 66, TV 67, TV 68, TV 69, TV 70, TV 71, TV 72, TV 73, TV 74, TV 75, TV 76, TV 77, TV 78, TV 79, TV 80, TV 81, TV 82, TV 83, TV 84] from rfl, f6, hdf] at hac
              simp only [Option.getD_some] at hac
              subst hac
              clear hTV f6
              have HE := Lib.hid hbw
              clear t6 hbw B10
              go_wp2
              go_ret
              exact ⟨rfl, HE.out⟩
            all_goals exact fun h => h.elim
          · refine wp_region_inv2 ⟨(fun j => ([[64], [65], [66], [], [], [], [], [], [], [], [74], [75], [76], [77], [78], [79], [80], [81], [82], [83], [84], [6]] : List (List Nat)).getD j []), (fun j => ([[], [0], [0, 1], [0, 1, 2], [0, 1, 2, 3], [0, 1, 2], [0, 1, 2], [0, 1, 2], [0, 1, 2, 3, 4, 5, 6, 7], [0, 1, 2, 3, 4, 5, 6, 7, 8], [0, 1, 2, 3, 4, 5, 6, 7, 8, 9], [0, 1, 2, 3, 4, 5, 6, 7, 8, 9, 10], [0, 1, 2, 3, 4, 5, 6, 7, 8, 9, 10, 11], [0, 1, 2, 3, 4, 5, 6, 7, 8, 9, 10, 11, 12], [0, 1, 2, 3, 4, 5, 6, 7, 8, 9, 10, 11, 12, 13], [0, 1, 2, 3, 4, 5, 6, 7, 8, 9, 10, 11], [0, 1, 2, 3, 4, 5, 6, 7, 8, 9, 10, 11, 12, 13, 14, 15], [0, 1, 2, 3, 4, 5, 6, 7, 8, 9, 10, 11, 12, 13, 14, 15, 16], [0, 1, 2, 3, 4, 5, 6, 7, 8, 9, 10, 11, 12, 13, 14, 15, 16, 17], [0, 1, 2, 3, 4, 5, 6, 7, 8, 9, 10, 11, 12, 13, 14, 15, 16, 17, 18], [0, 1, 2, 3, 4, 5, 6, 7, 8, 9, 10, 11, 12, 13, 14, 15, 16, 17, 18, 19], [0, 1, 2, 3, 4, 5, 6, 7, 8, 9, 10, 11, 12, 13, 14, 15, 16, 17, 18, 19, 20]] : List (List Nat)).getD j []), []⟩ (fun jj vv yy => match jj with | 0 => vv = [some (.bool false)] | 1 => vv = [some (.bool true)] | 2 => vv = [some (.bool true)] | 3 => True | 4 => True | 5 => True | 6 => True | 7 => True | 8 => True | 9 => True | 10 => vv = [some (.bool true)] | 11 => vv = [some (.bool true)] | 12 => vv = [some (.agg #[.bool false, .int .i64 ((r : Int) - 1), .int .i64 (dm S r 0), .int .i64 (dm S r 1), .int .i64 (dm S r 2), .int .i64 (dm S r 3), .int .i64 (dm S r 4), .int .i64 (dm S r 5), .int .i64 (dm S r 6), .int .i64 (dm S r 7), .slice na3 nn nc3, .slice none 0 0])] | 13 => ∃ (x13 : Array Value), vv = [some (.agg x13)] ∧ NumArr yy x13 (fun _ => (nn : Int)) 1 nn P Q | 14 => ∃ (x14 : Array Value), vv = [some (.agg x14)] ∧ PlnAt yy x14 (fun _ => (nn : Int)) 1 false (fun _ => 0) 0 (fun j => rB (P j)) (fun j => rS (P j)) (fun j => str (dec (Q j))) nn | 15 => vv = [some (.agg #[.slice (some ⟨w7.heap.size, 0, none⟩) 1 1, .bool false, .slice ta 0 tc, .slice na nn nc])] | 16 => vv = [some (.bool true)] | 17 => vv = [some (.bool true)] | 18 => vv = [some (.bool true)] | 19 => vv = [some (.bool true)] | 20 => vv = [some (.bool true)] | 21 => vv = [some (.bool true)] | _ => True) (Bag w (fun y => Row y w6.heap.size 46 #[.slice (some ⟨w7.heap.size, 0, none⟩) 1 1, .bool false, .slice ta 0 tc, .slice na nn nc] ∧ Row y w4.heap.size 50 #[.bool false, .int .i64 0, .int .i64 0, .int .i64 0, .int .i64 0, .int .i64 0, .int .i64 0, .int .i64 0, .int .i64 0, .int .i64 0, .slice none 0 0, .slice none 0 0] ∧ Row y w3.heap.size 50 #[.bool false, .int .i64 ((r : Int) - 1), .int .i64 (dm S r 0), .int .i64 (dm S r 1), .int .i64 (dm S r 2), .int .i64 (dm S r 3), .int .i64 (dm S r 4), .int .i64 (dm S r 5), .int .i64 (dm S r 6), .int .i64 (dm S r 7), .slice na3 nn nc3, .slice none 0 0] ∧ Row y w.heap.size 46 #[.slice sa r sc, .bool false, .slice ta 0 tc, .slice na nn nc] ∧ KRow y .i64 (some ⟨w7.heap.size, 0, none⟩) 1 1 (fun _ => (nn : Int)) ∧ RRow y na3 nn nc3 P Q ∧ KRow y .i64 t1 m d1 at' ∧ KRow y .i64 s1 sn c1 S' ∧ QRow y na nn nc fB fS fT ∧ KRow y .i32 ta 0 tc g ∧ KRow y .i64 sa r sc S ∧ True)) (by kernel_rfl) (by kernel_rfl) (by kernel_rfl) B10.out.drew ?_ ?_ ?_
            · intro jj vv yw yw2 hb h
              match jj, h with
              | 0, h => exact h
              | 1, h => exact h
              | 2, h => exact h
              | 3, h => exact h
              | 4, h => exact h
              | 5, h => exact h
              | 6, h => exact h
              | 7, h => exact h
              | 8, h => exact h
              | 9, h => exact h
              | 10, h => exact h
              | 11, h => exact h
              | 12, h => exact h
              | 13, ⟨x13, e13, g13_0⟩ => exact Exists.intro x13 (And.intro e13 (g13_0.below hb))
              | 14, ⟨x14, e14, g14_0⟩ => exact Exists.intro x14 (And.intro e14 (g14_0.below hb))
              | 15, h => exact h
              | 16, h => exact h
              | 17, h => exact h
              | 18, h => exact h
              | 19, h => exact h
              | 20, h => exact h
              | 21, h => exact h
              | _ + 22, h => exact h
            · intro ac yw hsz hdf hold hB hp
              exact ⟨hsz, hdf, (List.cons.inj (hp 21 (by decide))).1, hB.below⟩
            refine Stps2.cons (o := _) ?_ ?_
            · intro ac yw hsz hold hB hp K hK
              have t9 : ac.tmps[9]? = some (.bool false) := hold 9 (by kernel_rfl)
              clear hold hp hsz
              go_simp
              exact hK.out _ _ ⟨hB, rfl, Nat.le_refl _, .inl (Below.refl _ _), fun h => absurd h (by decide)⟩
            refine Stps2.cons (o := _) ?_ ?_
            · intro ac yw hsz hold hB hp K hK
              have e0 := hp 0 (by decide)
              have t64 : ac.tmps[64]? = some (.bool false) := (List.cons.inj e0).1
              clear hold hp hsz e0
              go_simp
              exact hK.out _ _ ⟨hB, rfl, Nat.le_refl _, .inl (Below.refl _ _), fun h => absurd h (by decide)⟩
            refine Stps2.cons (o := _) ?_ ?_
            · intro ac yw hsz hold hB hp K hK
              have e1 := hp 1 (by decide)
              have t65 : ac.tmps[65]? = some (.bool true) := (List.cons.inj e1).1
              clear hold hp hsz e1
              go_simp
              exact hK.out _ _ ⟨hB, rfl, Nat.le_refl _, .inl (Below.refl _ _), fun h => absurd h (by decide)⟩
            refine Stps2.cons (o := _) ?_ ?_
            · intro ac yw hsz hold hB hp K hK
              have t66 : ac.tmps[66]? = some (.bool true) := (List.cons.inj (hp 2 (by decide))).1
              rw [if_neg (by rw [wanted_neg rfl rfl t66 (fun e => by cases e)]; decide)]
              exact hK.out _ _ ⟨hB, trivial, Nat.le_refl _, .inl (Below.refl _ _), fun h => absurd h (by decide)⟩
            refine Stps2.cons (o := _) ?_ ?_
            · intro ac yw hsz hold hB hp K hK
              have t66 : ac.tmps[66]? = some (.bool true) := (List.cons.inj (hp 2 (by decide))).1
              rw [if_neg (by rw [wanted_neg rfl rfl t66 (fun e => by cases e)]; decide)]
              exact hK.out _ _ ⟨hB, trivial, Nat.le_refl _, .inl (Below.refl _ _), fun h => absurd h (by decide)⟩
            refine Stps2.cons (o := _) ?_ ?_
            · intro ac yw hsz hold hB hp K hK
              have t66 : ac.tmps[66]? = some (.bool true) := (List.cons.inj (hp 2 (by decide))).1
              rw [if_neg (by rw [wanted_neg rfl rfl t66 (fun e => by cases e)]; decide)]
              exact hK.out _ _ ⟨hB, trivial, Nat.le_refl _, .inl (Below.refl _ _), fun h => absurd h (by decide)⟩
            refine Stps2.cons (o := _) ?_ ?_
            · intro ac yw hsz hold hB hp K hK
              have t66 : ac.tmps[66]? = some (.bool true) := (List.cons.inj (hp 2 (by decide))).1
              rw [if_neg (by rw [wanted_neg rfl rfl t66 (fun e => by cases e)]; decide)]
              exact hK.out _ _ ⟨hB, trivial, Nat.le_refl _, .inl (Below.refl _ _), fun h => absurd h (by decide)⟩
            refine Stps2.cons (o := _) ?_ ?_
            · intro ac yw hsz hold hB hp K hK
              have t66 : ac.tmps[66]? = some (.bool true) := (List.cons.inj (hp 2 (by decide))).1
              rw [if_neg (by rw [wanted_neg rfl rfl t66 (fun e => by cases e)]; decide)]
              exact hK.out _ _ ⟨hB, trivial, Nat.le_refl _, .inl (Below.refl _ _), fun h => absurd h (by decide)⟩
            refine Stps2.cons (o := _) ?_ ?_
            · intro ac yw hsz hold hB hp K hK
              have t66 : ac.tmps[66]? = some (.bool true) := (List.cons.inj (hp 2 (by decide))).1
              rw [if_neg (by rw [wanted_neg rfl rfl t66 (fun e => by cases e)]; decide)]
              exact hK.out _ _ ⟨hB, trivial, Nat.le_refl _, .inl (Below.refl _ _), fun h => absurd h (by decide)⟩
            refine Stps2.cons (o := _) ?_ ?_
            · intro ac yw hsz hold hB hp K hK
              have t66 : ac.tmps[66]? = some (.bool true) := (List.cons.inj (hp 2 (by decide))).1
              rw [if_neg (by rw [wanted_neg rfl rfl t66 (fun e => by cases e)]; decide)]
              exact hK.out _ _ ⟨hB, trivial, Nat.le_refl _, .inl (Below.refl _ _), fun h => absurd h (by decide)⟩
            refine Stps2.cons (o := _) ?_ ?_
            · intro ac yw hsz hold hB hp K hK
              have e2 := hp 2 (by decide)
              have t66 : ac.tmps[66]? = some (.bool true) := (List.cons.inj e2).1
              clear hold hp hsz e2
              go_simp
              exact hK.out _ _ ⟨hB, rfl, Nat.le_refl _, .inl (Below.refl _ _), fun h => absurd h (by decide)⟩
            refine Stps2.cons (o := _) ?_ ?_
            · intro ac yw hsz hold hB hp K hK
              have e10 := hp 10 (by decide)
              have t74 : ac.tmps[74]? = some (.bool true) := (List.cons.inj e10).1
              clear hold hp hsz e10
              go_simp
              exact hK.out _ _ ⟨hB, rfl, Nat.le_refl _, .inl (Below.refl _ _), fun h => absurd h (by decide)⟩
            refine Stps2.cons (o := _) ?_ ?_
            · intro ac yw hsz hold hB hp K hK
              have t75 : ac.tmps[75]? = some (.bool true) := (List.cons.inj (hp 11 (by decide))).1
              rw [if_pos (wanted_pos rfl rfl t75)]
              have t7 : ac.tmps[7]? = some (.pointer (some ⟨w3.heap.size, 0, none⟩)) := hold 7 (by kernel_rfl)
              clear hold hp hsz
              have v0_0 : yw.cell? ⟨w.heap.size, 0, none⟩ = some (.slice sa r sc) := hB.now.2.2.2.1.cell 0
              have v0_1 : yw.cell? ⟨w.heap.size, 1, none⟩ = some (.bool false) := hB.now.2.2.2.1.cell 1
              have v0_2 : yw.cell? ⟨w.heap.size, 2, none⟩ = some (.slice ta 0 tc) := hB.now.2.2.2.1.cell 2
              have v0_3 : yw.cell? ⟨w.heap.size, 3, none⟩ = some (.slice na nn nc) := hB.now.2.2.2.1.cell 3
              have v1_0 : yw.cell? ⟨w3.heap.size, 0, none⟩ = some (.bool false) := hB.now.2.2.1.cell 0
              have v1_1 : yw.cell? ⟨w3.heap.size, 1, none⟩ = some (.int .i64 ((r : Int) - 1)) := hB.now.2.2.1.cell 1
              have v1_2 : yw.cell? ⟨w3.heap.size, 2, none⟩ = some (.int .i64 (dm S r 0)) := hB.now.2.2.1.cell 2
              have v1_3 : yw.cell? ⟨w3.heap.size, 3, none⟩ = some (.int .i64 (dm S r 1)) := hB.now.2.2.1.cell 3
              have v1_4 : yw.cell? ⟨w3.heap.size, 4, none⟩ = some (.int .i64 (dm S r 2)) := hB.now.2.2.1.cell 4
              have v1_5 : yw.cell? ⟨w3.heap.size, 5, none⟩ = some (.int .i64 (dm S r 3)) := hB.now.2.2.1.cell 5
              have v1_6 : yw.cell? ⟨w3.heap.size, 6, none⟩ = some (.int .i64 (dm S r 4)) := hB.now.2.2.1.cell 6
              have v1_7 : yw.cell? ⟨w3.heap.size, 7, none⟩ = some (.int .i64 (dm S r 5)) := hB.now.2.2.1.cell 7
              have v1_8 : yw.cell? ⟨w3.heap.size, 8, none⟩ = some (.int .i64 (dm S r 6)) := hB.now.2.2.1.cell 8
              have v1_9 : yw.cell? ⟨w3.heap.size, 9, none⟩ = some (.int .i64 (dm S r 7)) := hB.now.2.2.1.cell 9
              have v1_10 : yw.cell? ⟨w3.heap.size, 10, none⟩ = some (.slice na3 nn nc3) := hB.now.2.2.1.cell 10
              have v1_11 : yw.cell? ⟨w3.heap.size, 11, none⟩ = some (.slice none 0 0) := hB.now.2.2.1.cell 11
              have v2_0 : yw.cell? ⟨w4.heap.size, 0, none⟩ = some (.bool false) := hB.now.2.1.cell 0
              have v2_1 : yw.cell? ⟨w4.heap.size, 1, none⟩ = some (.int .i64 0) := hB.now.2.1.cell 1
              have v2_2 : yw.cell? ⟨w4.heap.size, 2, none⟩ = some (.int .i64 0) := hB.now.2.1.cell 2
              have v2_3 : yw.cell? ⟨w4.heap.size, 3, none⟩ = some (.int .i64 0) := hB.now.2.1.cell 3
              have v2_4 : yw.cell? ⟨w4.heap.size, 4, none⟩ = some (.int .i64 0) := hB.now.2.1.cell 4
              have v2_5 : yw.cell? ⟨w4.heap.size, 5, none⟩ = some (.int .i64 0) := hB.now.2.1.cell 5
              have v2_6 : yw.cell? ⟨w4.heap.size, 6, none⟩ = some (.int .i64 0) := hB.now.2.1.cell 6
              have v2_7 : yw.cell? ⟨w4.heap.size, 7, none⟩ = some (.int .i64 0) := hB.now.2.1.cell 7
              have v2_8 : yw.cell? ⟨w4.heap.size, 8, none⟩ = some (.int .i64 0) := hB.now.2.1.cell 8
              have v2_9 : yw.cell? ⟨w4.heap.size, 9, none⟩ = some (.int .i64 0) := hB.now.2.1.cell 9
              have v2_10 : yw.cell? ⟨w4.heap.size, 10, none⟩ = some (.slice none 0 0) := hB.now.2.1.cell 10
              have v2_11 : yw.cell? ⟨w4.heap.size, 11, none⟩ = some (.slice none 0 0) := hB.now.2.1.cell 11
              have v3_0 : yw.cell? ⟨w6.heap.size, 0, none⟩ = some (.slice (some ⟨w7.heap.size, 0, none⟩) 1 1) := hB.now.1.cell 0
              have v3_1 : yw.cell? ⟨w6.heap.size, 1, none⟩ = some (.bool false) := hB.now.1.cell 1
              have v3_2 : yw.cell? ⟨w6.heap.size, 2, none⟩ = some (.slice ta 0 tc) := hB.now.1.cell 2
              have v3_3 : yw.cell? ⟨w6.heap.size, 3, none⟩ = some (.slice na nn nc) := hB.now.1.cell 3
              go_simp
              exact hK.out _ _ ⟨hB, rfl, Nat.le_refl _, .inl (Below.refl _ _), fun h => absurd h (by decide)⟩
            refine Stps2.cons (o := _) ?_ ?_
            · intro ac yw hsz hold hB hp K hK
              have t75 : ac.tmps[75]? = some (.bool true) := (List.cons.inj (hp 11 (by decide))).1
              rw [if_pos (wanted_pos rfl rfl t75)]
              have e12 := hp 12 (by decide)
              have t76 : ac.tmps[76]? = some (.agg #[.bool false, .int .i64 ((r : Int) - 1), .int .i64 (dm S r 0), .int .i64 (dm S r 1), .int .i64 (dm S r 2), .int .i64 (dm S r 3), .int .i64 (dm S r 4), .int .i64 (dm S r 5), .int .i64 (dm S r 6), .int .i64 (dm S r 7), .slice na3 nn nc3, .slice none 0 0]) := (List.cons.inj e12).1
              clear hold hp hsz e12
              go_simp
              (go_at_call 45; (with_reducible refine (RV.out _ _ _ (hB.now.2.2.2.2.2.1)).mono ?_); rintro e wz ⟨x13, rfl, h13_0, hbz⟩)
              exact hK.out _ _ ⟨hB.go hbz, Exists.intro x13 (And.intro rfl h13_0), hbz.size, .inl hbz, fun h => absurd h (by decide)⟩
            refine Stps2.cons (o := _) ?_ ?_
            · intro ac yw hsz hold hB hp K hK
              have t75 : ac.tmps[75]? = some (.bool true) := (List.cons.inj (hp 11 (by decide))).1
              rw [if_pos (wanted_pos rfl rfl t75)]
              obtain ⟨x13_13, e13, g13_0⟩ := hp 13 (by decide)
              have t77 : ac.tmps[77]? = some (.agg x13_13) := (List.cons.inj e13).1
              clear hold hp hsz e13
              go_simp
              (go_at_call 24; (with_reducible refine (PV.out _ _ g13_0).mono ?_); rintro e wz ⟨x14, rfl, h14_0, hbz⟩)
              exact hK.out _ _ ⟨hB.go hbz, Exists.intro x14 (And.intro rfl h14_0), hbz.size, .inl hbz, fun h => absurd h (by decide)⟩
            refine Stps2.cons (o := _) ?_ ?_
            · intro ac yw hsz hold hB hp K hK
              have t75 : ac.tmps[75]? = some (.bool true) := (List.cons.inj (hp 11 (by decide))).1
              rw [if_pos (wanted_pos rfl rfl t75)]
              have t12 : ac.tmps[12]? = some (.pointer (some ⟨w6.heap.size, 0, none⟩)) := hold 12 (by kernel_rfl)
              clear hold hp hsz
              have v0_0 : yw.cell? ⟨w.heap.size, 0, none⟩ = some (.slice sa r sc) := hB.now.2.2.2.1.cell 0
              have v0_1 : yw.cell? ⟨w.heap.size, 1, none⟩ = some (.bool false) := hB.now.2.2.2.1.cell 1
              have v0_2 : yw.cell? ⟨w.heap.size, 2, none⟩ = some (.slice ta 0 tc) := hB.now.2.2.2.1.cell 2
              have v0_3 : yw.cell? ⟨w.heap.size, 3, none⟩ = some (.slice na nn nc) := hB.now.2.2.2.1.cell 3
              have v1_0 : yw.cell? ⟨w3.heap.size, 0, none⟩ = some (.bool false) := hB.now.2.2.1.cell 0
              have v1_1 : yw.cell? ⟨w3.heap.size, 1, none⟩ = some (.int .i64 ((r : Int) - 1)) := hB.now.2.2.1.cell 1
              have v1_2 : yw.cell? ⟨w3.heap.size, 2, none⟩ = some (.int .i64 (dm S r 0)) := hB.now.2.2.1.cell 2
              have v1_3 : yw.cell? ⟨w3.heap.size, 3, none⟩ = some (.int .i64 (dm S r 1)) := hB.now.2.2.1.cell 3
              have v1_4 : yw.cell? ⟨w3.heap.size, 4, none⟩ = some (.int .i64 (dm S r 2)) := hB.now.2.2.1.cell 4
              have v1_5 : yw.cell? ⟨w3.heap.size, 5, none⟩ = some (.int .i64 (dm S r 3)) := hB.now.2.2.1.cell 5
              have v1_6 : yw.cell? ⟨w3.heap.size, 6, none⟩ = some (.int .i64 (dm S r 4)) := hB.now.2.2.1.cell 6
              have v1_7 : yw.cell? ⟨w3.heap.size, 7, none⟩ = some (.int .i64 (dm S r 5)) := hB.now.2.2.1.cell 7
              have v1_8 : yw.cell? ⟨w3.heap.size, 8, none⟩ = some (.int .i64 (dm S r 6)) := hB.now.2.2.1.cell 8
              have v1_9 : yw.cell? ⟨w3.heap.size, 9, none⟩ = some (.int .i64 (dm S r 7)) := hB.now.2.2.1.cell 9
              have v1_10 : yw.cell? ⟨w3.heap.size, 10, none⟩ = some (.slice na3 nn nc3) := hB.now.2.2.1.cell 10
              have v1_11 : yw.cell? ⟨w3.heap.size, 11, none⟩ = some (.slice none 0 0) := hB.now.2.2.1.cell 11
              have v2_0 : yw.cell? ⟨w4.heap.size, 0, none⟩ = some (.bool false) := hB.now.2.1.cell 0
              have v2_1 : yw.cell? ⟨w4.heap.size, 1, none⟩ = some (.int .i64 0) := hB.now.2.1.cell 1
              have v2_2 : yw.cell? ⟨w4.heap.size, 2, none⟩ = some (.int .i64 0) := hB.now.2.1.cell 2
              have v2_3 : yw.cell? ⟨w4.heap.size, 3, none⟩ = some (.int .i64 0) := hB.now.2.1.cell 3
              have v2_4 : yw.cell? ⟨w4.heap.size, 4, none⟩ = some (.int .i64 0) := hB.now.2.1.cell 4
              have v2_5 : yw.cell? ⟨w4.heap.size, 5, none⟩ = some (.int .i64 0) := hB.now.2.1.cell 5
              have v2_6 : yw.cell? ⟨w4.heap.size, 6, none⟩ = some (.int .i64 0) := hB.now.2.1.cell 6
              have v2_7 : yw.cell? ⟨w4.heap.size, 7, none⟩ = some (.int .i64 0) := hB.now.2.1.cell 7
              have v2_8 : yw.cell? ⟨w4.heap.size, 8, none⟩ = some (.int .i64 0) := hB.now.2.1.cell 8
              have v2_9 : yw.cell? ⟨w4.heap.size, 9, none⟩ = some (.int .i64 0) := hB.now.2.1.cell 9
              have v2_10 : yw.cell? ⟨w4.heap.size, 10, none⟩ = some (.slice none 0 0) := hB.now.2.1.cell 10
              have v2_11 : yw.cell? ⟨w4.heap.size, 11, none⟩ = some (.slice none 0 0) := hB.now.2.1.cell 11
              have v3_0 : yw.cell? ⟨w6.heap.size, 0, none⟩ = some (.slice (some ⟨w7.heap.size, 0, none⟩) 1 1) := hB.now.1.cell 0
              have v3_1 : yw.cell? ⟨w6.heap.size, 1, none⟩ = some (.bool false) := hB.now.1.cell 1
              have v3_2 : yw.cell? ⟨w6.heap.size, 2, none⟩ = some (.slice ta 0 tc) := hB.now.1.cell 2
              have v3_3 : yw.cell? ⟨w6.heap.size, 3, none⟩ = some (.slice na nn nc) := hB.now.1.cell 3
              go_simp
              exact hK.out _ _ ⟨hB, rfl, Nat.le_refl _, .inl (Below.refl _ _), fun h => absurd h (by decide)⟩
            refine Stps2.cons (o := _) ?_ ?_
            · intro ac yw hsz hold hB hp K hK
              have t75 : ac.tmps[75]? = some (.bool true) := (List.cons.inj (hp 11 (by decide))).1
              rw [if_pos (wanted_pos rfl rfl t75)]
              obtain ⟨x14_14, e14, g14_0⟩ := hp 14 (by decide)
              have t78 : ac.tmps[78]? = some (.agg x14_14) := (List.cons.inj e14).1
              have e15 := hp 15 (by decide)
              have t79 : ac.tmps[79]? = some (.agg #[.slice (some ⟨w7.heap.size, 0, none⟩) 1 1, .bool false, .slice ta 0 tc, .slice na nn nc]) := (List.cons.inj e15).1
              clear hold hp hsz e14 e15
              go_simp
              (go_at_call 23; (with_reducible refine (FS.out _ _ _ g14_0 (hB.now.2.2.2.2.1) (hB.now.2.2.2.2.2.2.2.2.2.1) (hB.now.2.2.2.2.2.2.2.2.1)).mono ?_); rintro e wz ⟨rfl, hbz⟩)
              exact hK.out _ _ ⟨hB.go hbz, rfl, hbz.size, .inl hbz, fun h => absurd h (by decide)⟩
            refine Stps2.cons (o := _) ?_ ?_
            · intro ac yw hsz hold hB hp K hK
              have e11 := hp 11 (by decide)
              have t75 : ac.tmps[75]? = some (.bool true) := (List.cons.inj e11).1
              have e16 := hp 16 (by decide)
              have t80 : ac.tmps[80]? = some (.bool true) := (List.cons.inj e16).1
              clear hold hp hsz e11 e16
              go_simp
              exact hK.out _ _ ⟨hB, rfl, Nat.le_refl _, .inl (Below.refl _ _), fun h => absurd h (by decide)⟩
            refine Stps2.cons (o := _) ?_ ?_
            · intro ac yw hsz hold hB hp K hK
              have e17 := hp 17 (by decide)
              have t81 : ac.tmps[81]? = some (.bool true) := (List.cons.inj e17).1
              clear hold hp hsz e17
              go_simp
              exact hK.out _ _ ⟨hB, rfl, Nat.le_refl _, .inl (Below.refl _ _), fun h => absurd h (by decide)⟩
            refine Stps2.cons (o := _) ?_ ?_
            · intro ac yw hsz hold hB hp K hK
              have t82 : ac.tmps[82]? = some (.bool true) := (List.cons.inj (hp 18 (by decide))).1
              rw [if_pos (wanted_pos rfl rfl t82)]
              clear hold hp hsz
              go_simp
              (go_at_call 17; (with_reducible refine (AW.out _).mono ?_); rintro e wz ⟨rfl, hbz⟩)
              exact hK.out _ _ ⟨hB.go hbz, rfl, hbz.size, .inl hbz, fun h => absurd h (by decide)⟩
            refine Stps2.cons (o := _) ?_ ?_
            · intro ac yw hsz hold hB hp K hK
              have e18 := hp 18 (by decide)
              have t82 : ac.tmps[82]? = some (.bool true) := (List.cons.inj e18).1
              have e19 := hp 19 (by decide)
              have t83 : ac.tmps[83]? = some (.bool true) := (List.cons.inj e19).1
              clear hold hp hsz e18 e19
              go_simp
              exact hK.out _ _ ⟨hB, rfl, Nat.le_refl _, .inl (Below.refl _ _), fun h => absurd h (by decide)⟩
            refine Stps2.cons (o := _) ?_ ?_
            · intro ac yw hsz hold hB hp K hK
              have e20 := hp 20 (by decide)
              have t84 : ac.tmps[84]? = some (.bool true) := (List.cons.inj e20).1
              clear hold hp hsz e20
              go_simp
              exact hK.out _ _ ⟨hB, rfl, Nat.le_refl _, .inl (Below.refl _ _), fun h => absurd h (by decide)⟩
            exact Stps2.nil _

theorem own : ownKnob Tryz.prog.godebug = none := by kernel_rfl
theorem laidOut : laidOutB Tryz.prog = true := by kernel_rfl

set_option maxRecDepth 100000 in
theorem arrayPicks_lifted (os : Os) (started : os.Started) (H : Type) (enc : TypeId × Value → H) :
    ReturnsInHanded {} Tryz.checked os 6 .any (fun w args => (Rows.arrayPicksSpec.pre enc Tryz.prog Tryz.f6 [] false w args ∧ laidMetH Tryz.prog Rows.arrayPicksRow.laid w) ∧ sizedMet enc Tryz.prog Tryz.f6 (OpenSpec.ofChange Rows.arrayPicksSpec) false w args)
      (Rows.arrayPicksSpec.post enc Tryz.prog Tryz.f6 false true false false) := by
  refine returnsInHanded_of_change_and (C := Tryz.checked) (X := fun w _ => laidMetH Tryz.prog Rows.arrayPicksRow.laid w) (fun _ _ _ hh h => h.of_heap hh) own started (by kernel_rfl) Tryz.func6
    (ChangeSpec.witness_shaped (enc := enc) (C := Tryz.checked) (os := os) (X := fun w _ => laidMetH Tryz.prog Rows.arrayPicksRow.laid w) false (World.laidAll Tryz.prog os Rows.arrayPicksRow.laid) #[.agg #[.slice none 0 0, .bool false, .slice none 0 0, .slice none 0 0], .slice none 0 0, .slice none 0 0] 8 (World.laidAll_os _ _ _)
      (World.shaped_of_ZipB (by kernel_rfl) (by kernel_rfl)) (by kernel_rfl) (by kernel_rfl) (by kernel_rfl)
      (by rw [MakeChecks.laidMetH_plain _ _ _ (by kernel_rfl)]; exact laidMet_laidAll _ (by kernel_rfl) (by kernel_rfl))) ?_
  intro W base args ds gs before hval0 hW _ _ _ _
  have hval : ∀ (j : Nat) t v, Tryz.f6.params[j]? = some t → args[j]? = some v → Value.okWide Tryz.prog W .any base t v := hval0
  have hW' := hW
  obtain ⟨p, q, hA0, hV, rfl, _, _⟩ := hW
  have hA : DataW.TrodAll enc Tryz.prog W 0 (fun _ => true) true Tryz.f6.params.toList args.toList ds p := hA0
  rw [Tryz.params6] at hA hval
  obtain ⟨v0, v1, v2, d0, d1, d2, p0, p1, p2, rfl, rfl, rfl, h0, h1, h2⟩ := trodAll_three hA
  obtain ⟨rfl, rfl⟩ := trodVars_none hV
  obtain ⟨cs0, S0, q0, ch0, g0, tn0, fB0, fS0, fT0, nn0, rfl, k0, w0, z0⟩ := open_pln (hval 0 46 v0 rfl rfl) h0
  obtain ⟨a1, n1, c1, f1, rfl, k1, w1⟩ := open_krow (ki := .i64) Tryz.underlying43 Tryz.underlying3 (by kernel_rfl) (hval 1 43 v1 rfl rfl) h1
  obtain ⟨a2, n2, c2, f2, rfl, k2, w2⟩ := open_krow (ki := .i64) Tryz.underlying43 Tryz.underlying3 (by kernel_rfl) (hval 2 43 v2 rfl rfl) h2
  have hlt : ∀ y ∈ p0 ++ (p1 ++ (p2)), y.block < W.heap.size := fun y hy => by simpa using hW'.lt y (by simpa using hy)
  simp only [List.append_nil] at hW'
  refine (arrayPicks_walk cs0 S0 q0 ch0 g0 tn0 fB0 fS0 fT0 nn0 a1 n1 c1 f1 a2 n2 c2 f2 W k0 w0 z0 k1 (in64_of w1) k2 (in64_of w2)).mono fun e W' ⟨he, hb⟩ => ?_
  subst he
  exact ⟨_, rfl, _, _, _, [], _, [], hW', trodAll_mk1 (shut_bool Tryz.underlying4 _), trodAll_mk3 (Below.trod laidOut (by kernel_rfl) (of_decide_eq_true (by kernel_rfl)) h0 hb (fun y hy => hlt y (by simp [hy]))) (Below.trod laidOut (by kernel_rfl) (of_decide_eq_true (by kernel_rfl)) h1 hb (fun y hy => hlt y (by simp [hy]))) (Below.trod laidOut (by kernel_rfl) (of_decide_eq_true (by kernel_rfl)) h2 hb (fun y hy => hlt y (by simp [hy]))), rfl, hb.frame _, fun h => by cases h⟩

theorem arrayPicks_row : Rows.ArrayPicksSaid :=
  OpenClaim.holds_of_wide 6 Tryz.f6 rfl rfl rfl rfl rfl rfl rfl ⟨rfl, rfl, rfl, rfl, rfl⟩ rfl rfl rfl rfl rfl (by kernel_rfl) Tryz.func6 (by kernel_rfl)
    (of_decide_eq_true (by kernel_rfl)) (by unfold Func.isWrapper; first | (rw [if_pos (by decide +kernel)]; kernel_rfl) | (rw [if_neg (by decide +kernel)]; exact ⟨rfl, rfl⟩))
    (fun os started H enc _ => arrayPicks_lifted os started H enc)

theorem arrayPicks_holds : Rows.ArrayPicksCardSaid :=
  Claim7.holds_tied_plain_at .later [] [.data, .pinned] true Rows.arrayPicksCard.stood.harness Rows.arrayPicksCard.stood.looks arrayPicks_row (fun _ h => by cases h) (by kernel_rfl) (fun _ h => by cases h) arrayPicks_row_tie rfl ⟨rfl, rfl⟩ (by kernel_rfl) rfl
    (fun f fn hf hfn => by
      obtain rfl : f = 6 := Option.some.inj ((show Tryz.prog.funcNamed "typeball/typeballlaw06.ArrayPicks" = some 6 by kernel_rfl).symm.trans hf) |>.symm
      obtain rfl : fn = Tryz.f6 := (Option.some.inj (Tryz.func6.symm.trans hfn)).symm
      exact ⟨by kernel_rfl, fun j t ht => by
        rw [Tryz.params6] at ht
        have hm : t ∈ [46, 43] := by simpa using Array.mem_of_getElem? ht
        have hall : ([46, 43].all fun u => !Tryz.prog.wantsStandIn u) = true := by kernel_rfl
        exact (show Tryz.prog.wantsStandIn t = false by simpa using List.all_eq_true.1 hall t hm)⟩)
    (by kernel_rfl)
#print axioms arrayPicks_holds
end Go.Proofs.YtdnbpkbapmlfaaaGreatDoor
