/-
  Proved: the law ArrayBuilds of package typeballlaw06 returns true for every shape, list of integers, text, character and number, under the row's own conditions.
-/
import Derived.Test.YtphabhddmdpkmaaDoorAr8
import Derived.Test.YtphabhddmdpkmaaDoorAr12
import Derived.Test.YtphabhddmdpkmaaDoorAr14
import Derived.Test.YtphabhddmdpkmaaDoorOw0
import Derived.Test.YtphabhddmdpkmaaDoorOp0
import Derived.SizedLaws
import Derived.Test.YtphabhddmdpkmaaDoorCards
import Derived.Test.YtphabhddmdpkmaaDoorTie
import Derived.LaidMore
import Derived.Lay
import Derived.SevenTiedAt
import Derived.Stop.Joined
namespace Go.Proofs.YtphabhddmdpkmaaDoor
open Go.ChangeShapes Go.WideShapes Go.ChangeAt Go.RowKit Go.WideMaps Go.WideElems

theorem plB_refl (ch : Bool) (r : Nat) (S : Nat → Int) (tn : Nat) (g : Nat → Int) (nn : Nat) (fB : Nat → Bool) (fS fT : Nat → ByteArray) : plB ch ch r r S S tn tn g g nn nn fB fS fT fB fS fT = true := by
  unfold plB
  rw [decide_eq_true rfl, decide_eq_true rfl, decide_eq_true rfl, decide_eq_true rfl, sameB_iff.2 (fun _ _ => rfl), sameB_iff.2 (fun _ _ => rfl), nsB_iff.2 (fun _ _ => ⟨rfl, rfl, rfl⟩)]
  rfl
theorem same_true {cs cs' : Array Value} {S : Nat → Int} {r : Nat} {ch : Bool} {g : Nat → Int} {tn : Nat} {fB : Nat → Bool} {fS fT : Nat → ByteArray} {nn : Nat} {w : World} (h : PlnAt w cs S r ch g tn fB fS fT nn) (h' : PlnAt w cs' S r ch g tn fB fS fT nn) :
    Calls Tryd.prog 11 #[.agg cs, .agg cs'] w fun e w' => e = .returned (.bool true) ∧ Below w.heap.size w w' := by
  have := r6PSame_any cs cs' S r ch g tn fB fS fT nn S r ch g tn fB fS fT nn w h h'
  rw [plB_refl] at this
  exact this
theorem small63 {x : Int} (h : -9223372036854775808 ≤ x ∧ x ≤ 9223372036854775807) : x.natAbs < 4294967296 ^ 2 := by
  have : (4294967296 : Nat) ^ 2 = 18446744073709551616 := by decide
  omega
theorem Bag.chr {w0 w : World} {B : World → Prop} {cs : Array Value} {f : Nat → Int} {r n : Nat} {g : Nat → Int} (h : Bag w0 B w) (q : ChrArr w cs f r n g) : Bag w0 (fun y => ChrArr y cs f r n g ∧ B y) w := h.add (fun _ _ hb q => ChrArr.below q hb) q
theorem xy_cells {w : World} {k k' : Nat} {t t' : TypeId} {sa : Option Addr} {sn sc : Nat} {ch : Bool} {ta : Option Addr} {tn tc : Nat} {na : Option Addr} {nn nc : Nat} {sa' : Option Addr} {sn' sc' : Nat} {ch' : Bool} {ta' : Option Addr} {tn' tc' : Nat} {na' : Option Addr} {nn' nc' : Nat}
    (h : Row w k t #[.slice sa sn sc, .bool ch, .slice ta tn tc, .slice na nn nc]) (h' : Row w k' t' #[.slice sa' sn' sc', .bool ch', .slice ta' tn' tc', .slice na' nn' nc']) :
    w.cell? ⟨k, 0, none⟩ = some (.slice sa sn sc) ∧ w.cell? ⟨k, 1, none⟩ = some (.bool ch) ∧ w.cell? ⟨k, 2, none⟩ = some (.slice ta tn tc) ∧ w.cell? ⟨k, 3, none⟩ = some (.slice na nn nc)
      ∧ w.cell? ⟨k', 0, none⟩ = some (.slice sa' sn' sc') ∧ w.cell? ⟨k', 1, none⟩ = some (.bool ch') ∧ w.cell? ⟨k', 2, none⟩ = some (.slice ta' tn' tc') ∧ w.cell? ⟨k', 3, none⟩ = some (.slice na' nn' nc') := ⟨h.cell 0, h.cell 1, h.cell 2, h.cell 3, h'.cell 0, h'.cell 1, h'.cell 2, h'.cell 3⟩
theorem nums_form {b : Bool} {w : World} {cs : Array Value} {f : Nat → Int} {r n : Nat} {fP : Nat → Int} {fQ : Nat → Nat} (h : if b then NumArr w cs f r n fP fQ else cs = zerC) :
    ∃ more d na nn nc, cs = arrC false more d na nn nc none 0 0 ∧ RRow w na nn nc fP fQ ∧ (b = true → more = (r : Int) - 1 ∧ d = dm f r ∧ nn = n) ∧ (b = false → nn = 0) := by
  cases b with
  | true =>
    rw [if_pos rfl] at h
    obtain ⟨na, nc, e, h2⟩ := h
    exact ⟨_, _, na, n, nc, e, h2, fun _ => ⟨rfl, rfl, rfl⟩, fun h => by cases h⟩
  | false =>
    rw [if_neg (by decide)] at h
    exact ⟨_, _, none, 0, 0, h, RRow.nought _ _ _ (Nat.zero_le _) _ _, fun h => (by cases h), fun _ => rfl⟩
theorem chars_form {b : Bool} {w : World} {cs : Array Value} {f : Nat → Int} {r n : Nat} {g : Nat → Int} (h : if b then ChrArr w cs f r n g else cs = zerC) :
    ∃ ch more d ta tn tc, cs = arrC ch more d none 0 0 ta tn tc ∧ KRow w .i32 ta tn tc g ∧ (b = true → ch = true ∧ more = (r : Int) - 1 ∧ d = dm f r ∧ tn = n) ∧ (b = false → ch = false ∧ tn = 0) := by
  cases b with
  | true =>
    rw [if_pos rfl] at h
    obtain ⟨na, nc, e, h2⟩ := h
    exact ⟨true, _, _, na, n, nc, e, h2, fun _ => ⟨rfl, rfl, rfl, rfl⟩, fun h => by cases h⟩
  | false =>
    rw [if_neg (by decide)] at h
    exact ⟨false, _, _, none, 0, 0, h, KRow.nought _ _ _ _ (Nat.zero_le _) _, fun h => (by cases h), fun _ => ⟨rfl, rfl⟩⟩
theorem beq_dec (x y : Int) : (x == y) = decide (x = y) := by
  by_cases h : x = y
  · rw [decide_eq_true h, beq_iff_eq.2 h]
  · rw [decide_eq_false h, beq_eq_false_iff_ne.2 h]

theorem plainZ_any (b : Bool) (g : Nat → Int) (w : World) : Calls Tryd.prog 13 #[.agg #[.bool b, .int .i64 0, .int .i64 0, .int .i64 0, .int .i64 0, .int .i64 0, .int .i64 0, .int .i64 0, .int .i64 0, .int .i64 0, .slice none 0 0, .slice none 0 0]] w fun e w' =>
    ∃ cs', e = .returned (.agg cs') ∧ PlnAt w' cs' (fun _ => 0) 1 b g 0 (fun _ => rB 0) (fun _ => rS 0) (fun _ => str (dec 1)) 0 ∧ Below w.heap.size w w' := by
  have := plain_any b (fun _ => 0) 1 none 0 0 none 0 0 (fun _ => 0) (fun _ => 1) g w (by omega) (RRow.nought _ _ _ (Nat.zero_le _) _ _) (KRow.nought _ _ _ _ (Nat.zero_le _) _) (by omega) (by omega) (fun _ h => absurd h (Nat.not_lt_zero _)) 1 (by omega) (fun _ h => absurd h (Nat.not_lt_zero _)) (fun _ h => absurd h (Nat.not_lt_zero _))
  rw [dm_zero] at this
  exact this
theorem ab_cells {w : World} {k : Nat} {t : TypeId} {ch : Bool} {more : Int} {d : Nat → Int} {na : Option Addr} {nn nc : Nat} {ta : Option Addr} {tn tc : Nat} (h : Row w k t #[.bool ch, .int .i64 more, .int .i64 (d 0), .int .i64 (d 1), .int .i64 (d 2), .int .i64 (d 3), .int .i64 (d 4), .int .i64 (d 5), .int .i64 (d 6), .int .i64 (d 7), .slice na nn nc, .slice ta tn tc]) {Z : Prop} (z : Z) :
    w.cell? ⟨k, 0, none⟩ = some (.bool ch) ∧ w.cell? ⟨k, 1, none⟩ = some (.int .i64 more) ∧ w.cell? ⟨k, 2, none⟩ = some (.int .i64 (d 0)) ∧ w.cell? ⟨k, 3, none⟩ = some (.int .i64 (d 1)) ∧ w.cell? ⟨k, 4, none⟩ = some (.int .i64 (d 2)) ∧ w.cell? ⟨k, 5, none⟩ = some (.int .i64 (d 3)) ∧ w.cell? ⟨k, 6, none⟩ = some (.int .i64 (d 4)) ∧ w.cell? ⟨k, 7, none⟩ = some (.int .i64 (d 5)) ∧ w.cell? ⟨k, 8, none⟩ = some (.int .i64 (d 6)) ∧ w.cell? ⟨k, 9, none⟩ = some (.int .i64 (d 7)) ∧ w.cell? ⟨k, 10, none⟩ = some (.slice na nn nc) ∧ w.cell? ⟨k, 11, none⟩ = some (.slice ta tn tc) ∧ Z :=
  ⟨h.cell 0, h.cell 1, h.cell 2, h.cell 3, h.cell 4, h.cell 5, h.cell 6, h.cell 7, h.cell 8, h.cell 9, h.cell 10, h.cell 11, z⟩

theorem builds_facts {S : Nat → Int} {sn k tn : Nat} {b1 b2 sh : Bool} {K0 : Int} (hb1 : (shB S sn && decide (itm S sn = (k : Int))) = b1) (hb2 : (shB S sn && decide (itm S sn = (tn : Int))) = b2) (hK : (if shB S sn = true then itm S sn else 0) = K0) (hs : shB S sn = sh) :
    (sh = true → (K0 == (k : Int)) = b1 ∧ (K0 == (tn : Int)) = b2) ∧ (sh = false → b1 = false ∧ b2 = false) ∧ (b1 = true ∨ b2 = true → sn ≤ 8) := by
  subst hs
  refine ⟨fun h => ?_, fun h => ?_, fun h => ?_⟩
  · rw [h] at hb1 hb2 hK
    rw [if_pos rfl] at hK
    rw [← hK, beq_dec, beq_dec, ← hb1, ← hb2]
    exact ⟨rfl, rfl⟩
  · rw [h] at hb1 hb2
    exact ⟨hb1.symm, hb2.symm⟩
  · have hs : shB S sn = true := by
      rcases h with h | h
      · rw [h, Bool.and_eq_true] at hb1; exact hb1.1
      · rw [h, Bool.and_eq_true] at hb2; exact hb2.1
    exact In64.le8 hs
theorem KRow.two {y : World} {ki : IntKind} {a : Option Addr} {n c : Nat} {f : Nat → Int} {k : Nat} {t t' : TypeId} {c0 c1 : Array Value} (h : KRow y ki a n c f) (r0 : Row y k t c0) (r1 : Row y (k + 1) t' c1) (n0 : NoInt c0) (n1 : NoInt c1) (v : Value) : KRow ((y.setCell ⟨k, 0, none⟩ v).setCell ⟨k + 1, 0, none⟩ v) ki a n c f := by
  have h2 := h.away (h.apart r0 n0) (Far.setCell y k 0 v)
  have r1' := r1.far (a := ⟨k, 0, none⟩) (Nat.succ_ne_self k) v
  exact h2.away (h2.apart r1' n1) (Far.setCell _ (k + 1) 0 v)
theorem QRow.two {y : World} {a : Option Addr} {n c : Nat} {fB : Nat → Bool} {fS fT : Nat → ByteArray} {k : Nat} {t t' : TypeId} {c0 c1 : Array Value} (h : QRow y a n c fB fS fT) (r0 : Row y k t c0) (r1 : Row y (k + 1) t' c1) (n0 : NoStr c0) (n1 : NoStr c1) (v : Value) : QRow ((y.setCell ⟨k, 0, none⟩ v).setCell ⟨k + 1, 0, none⟩ v) a n c fB fS fT := by
  have h2 := h.away (h.apart r0 n0) (Far.setCell y k 0 v)
  have r1' := r1.far (a := ⟨k, 0, none⟩) (Nat.succ_ne_self k) v
  exact h2.away (h2.apart r1' n1) (Far.setCell _ (k + 1) 0 v)
theorem RRow.two {y : World} {a : Option Addr} {n c : Nat} {fP : Nat → Int} {fQ : Nat → Nat} {k : Nat} {t t' : TypeId} {c0 c1 : Array Value} (h : RRow y a n c fP fQ) (r0 : Row y k t c0) (r1 : Row y (k + 1) t' c1) (n0 : NoInt c0) (n1 : NoInt c1) (e0 : n = 0 ∨ ∀ x, a = some x → x.block ≠ k) (e1 : n = 0 ∨ ∀ x, a = some x → x.block ≠ k + 1) (v : Value) : RRow ((y.setCell ⟨k, 0, none⟩ v).setCell ⟨k + 1, 0, none⟩ v) a n c fP fQ := by
  have h2 := h.away (r0.noLimb' n0) e0 (Far.setCell y k 0 v)
  have r1' := r1.far (a := ⟨k, 0, none⟩) (Nat.succ_ne_self k) v
  exact h2.away (r1'.noLimb' n1) e1 (Far.setCell _ (k + 1) 0 v)
theorem Row.two {y : World} {g k : Nat} {t : TypeId} {cs : Array Value} (h : Row y g t cs) (e0 : g ≠ k) (e1 : g ≠ k + 1) (v : Value) : Row ((y.setCell ⟨k, 0, none⟩ v).setCell ⟨k + 1, 0, none⟩ v) g t cs := (h.far (a := ⟨k, 0, none⟩) e0 v).far (a := ⟨k + 1, 0, none⟩) e1 v
theorem len0_any (ch : Bool) (more : Int) (d : Nat → Int) (na : Option Addr) (nc : Nat) (ta : Option Addr) (tc : Nat) (w : World) :
    Calls Tryd.prog 15 #[.agg #[.bool ch, .int .i64 more, .int .i64 (d 0), .int .i64 (d 1), .int .i64 (d 2), .int .i64 (d 3), .int .i64 (d 4), .int .i64 (d 5), .int .i64 (d 6), .int .i64 (d 7), .slice na 0 nc, .slice ta 0 tc]] w fun e w' => e = .returned (.int .i64 0) ∧ Below w.heap.size w w' := by
  refine (len_any ch more d na 0 nc ta 0 tc w).mono ?_
  rintro e w' ⟨rfl, hb⟩
  refine ⟨?_, hb⟩
  cases ch <;> rfl

theorem Bag.rebase {w0 w : World} {P : World → Prop} (h : Bag w0 P w) : Bag w P w := ⟨Below.refl _ _, h.stay, h.now⟩

set_option linter.unusedSimpArgs false in
set_option maxHeartbeats 6400000 in
set_option maxRecDepth 100000 in
theorem arrayBuilds_walk (sa : Option Addr) (sn sc : Nat) (S : Nat → Int) (la : Option Addr) (ln lc : Nat) (L : Nat → Int) (ta : Option Addr) (tn tc : Nat) (T : Nat → Int) (c n : Int) (w : World) (h1 : KRow w .i64 sa sn sc S) (g1 : In64 S sn) (h2 : KRow w .i64 la ln lc L) (g2 : In64 L ln) (h3 : KRow w .i32 ta tn tc T) (g4 : -9223372036854775808 ≤ n ∧ n ≤ 9223372036854775807) :
    Calls Tryd.prog 3 #[.slice sa sn sc, .slice la ln lc, .slice ta tn tc, .int .i32 c, .int .i64 n] w fun e w' => e = .returned (.bool true) ∧ Below w.heap.size w w' := by
  have hl1 := h1.len
  have hl2 := h2.len
  have hl3 := h3.len
  by_cases h60 : sn ≤ 60
  · have d1 : ¬ ((60 : Int) < sn) := by omega
    by_cases h200 : ln ≤ 200
    · have d2 : ¬ ((200 : Int) < ln) := by omega
      by_cases h201 : tn ≤ 200
      · have d3 : ¬ ((200 : Int) < tn) := by omega
        obtain ⟨i0, hi, hz0, hz1, hz2⟩ := info_parts infoR
        have FR := Lib.hid (fun X wz hx => ratFrom_any X wz hx)
        unfold RatTold at FR
        have HG := Lib.hid g2
        have H2 := Lib.hid h2
        go_enter Tryd.func3, Tryd.ntmps3
        go_wp2_with fail
        go_loopw [11, 12] (fun v i wr => ∃ k : Nat, k ≤ ln ∧ i = .int .i64 k ∧ (∃ a c, v = .slice a k c) ∧ Hid (Below w.heap.size w wr ∧ ROwn wr w.heap.size v k L (fun _ => 1))) (fun _ i _ => ln - (intOf i).toNat)
        case atStart => exact ⟨0, by omega, rfl, ⟨_, _, rfl⟩, Below.refl _ _, ROwn.nil _ _ _ _⟩
        case round =>
          obtain ⟨k, hk, rfl, ⟨a1, c1, rfl⟩, hrel⟩ := hrel
          obtain ⟨hbl, hown⟩ := hrel.out
          by_cases hlt : k < ln
          · obtain ⟨b, off, rfl, hb, hc⟩ := (H2.out.below hbl).get hlt
            have HX := Lib.hid (HG.out k hlt)
            have HBL := Lib.hid hbl
            have HOWN := Lib.hid hown
            have hk1 : (k : Int) < ln := by omega
            have HMX := Lib.hid (show k + 1 ≤ maxLen by unfold maxLen; omega)
            have HMY := Lib.hid (show (k + 1) * 56 ≤ 140737488355328 by omega)
            clear hbl hown
            go_wp2_with fail
            go_at_call 5
            (with_reducible refine (FR.out _ _ HX.out).mono ?_)
            rintro e w2 ⟨a2, n2, c2, m2, a3, n3, c3, rfl, hr2, hb2⟩
            have ho2 := (HOWN.out.below hb2).below ((Below.refl _ _).alloc (Nat.le_refl _) (.cells #[.slice a2 n2 c2, .bool m2, .slice a3 n3 c3] 32))
            obtain ⟨xs, ho, hp, hx⟩ := ho2
            have HR := Lib.hid (hr2.below ((Below.refl _ _).alloc (Nat.le_refl _) (.cells #[.slice a2 n2 c2, .bool m2, .slice a3 n3 c3] 32)))
            have HO := Lib.hid (And.intro ho (And.intro hp hx))
            have HNEW := Lib.hid (World.news_of_block (Row.new w2 32 #[.slice a2 n2 c2, .bool m2, .slice a3 n3 c3]))
            have HB2 := Lib.hid ((HBL.out.trans (hb2.mono HBL.out.size)).alloc (by have := HBL.out.size; have := hb2.size; omega) (.cells #[.slice a2 n2 c2, .bool m2, .slice a3 n3 c3] 32))
            clear ho hp hx hr2 hb2
            go_wp2_with (at_builtin; refine wpList_append_pure NotLimb _ rfl (.tmp 41) (.tmp 47) 25 rfl w.heap.size 32 i0 _ 3 56 Tryd.underlying25 hi hz0 hz1 hz2 rfl (by omega) (.slice a1 k c1) k xs rfl HO.out.1 HO.out.2.1 ?qz ⟨w2.heap.size, 0, none⟩ 1 1 [.slice a2 n2 c2, .bool m2, .slice a3 n3 c3] rfl rfl HNEW.out ?q1 ?q2 (by omega) HMX.out HMY.out ?q3 ?_)
            case qz => intro u hu z e; subst e; simp [Value.cells] at hu
            case q1 => intro u hu; simp at hu; rcases hu with rfl | rfl | rfl <;> rfl
            case q2 => intro u hu z e; subst e; simp at hu
            case q3 => exact HB2.out.size
            intro v' w3 ho3 hg3 hp3
            have hro := ROwn.step HO.out.1 HO.out.2.1 HO.out.2.2 HR.out ho3 hg3 hp3
            obtain ⟨a4, c4, rfl, _⟩ := hro.slice
            have HN : Hid (Below w.heap.size w w3 ∧ ROwn w3 w.heap.size (.slice a4 (k + 1) c4) (k + 1) L (fun _ => 1)) := Lib.hid ⟨HB2.out.trans ⟨hg3.os, hg3.tape, hg3.output, hg3.size, fun j hj => hg3.block j (Nat.lt_of_lt_of_le hj HB2.out.size) (fun e => by have := (HO.out.1.lt j e.symm).1; omega)⟩, hro⟩
            clear ho3 hg3 hp3 hro
            go_wp2
            go_roundw
            case rel => exact ⟨k + 1, by omega, by go_num, ⟨_, _, rfl⟩, HN.out⟩
            case measure => simp [intOf]; omega
          · obtain rfl : k = ln := by omega
            obtain ⟨a9, c9, e9, hrr⟩ := hown.slice
            injection e9 with e9 _ e10
            subst e9 e10
            have BB := Lib.hid ((((((Bag.start w).krow h1).krow h2).krow h3).go hbl).rrow hrr)
            clear hbl hown hrr h1 h2 h3 H2 hrel hlt FR hi hz0 hz1 hz2
            have NU := Lib.hid (fun wz p q => nums_any sa sn sc S a1 k c1 L (fun _ => 1) wz p g1 q (by omega))
            have CH := Lib.hid (fun wz p q => chars_any sa sn sc S ta tn tc T wz p g1 q (by omega))
            have RC := Lib.hid (fun wz p => r6Count_any sa sn sc S wz p g1)
            have RI := Lib.hid (fun wz p => r6Ints_any la k lc L wz p HG.out (by omega))
            have RT := Lib.hid (fun wz p => r6Text_any ta tn tc T wz p)
            unfold NumsTold at NU
            unfold CharsTold at CH
            unfold CntTold cntI at RC
            unfold PlnTold at RI RT
            have AI := Lib.hid (fun wz p => ints_any la k lc L wz p HG.out (by omega))
            have AT := Lib.hid (fun wz p => arrText_any ta tn tc T wz p (by omega))
            unfold NumTold1 at AI
            unfold ChrTold1 at AT
            have PN := Lib.hid (fun cs wz h => plainN_any cs (fun _ => (k : Int)) 1 k L (fun _ => 1) wz (by omega) h (by omega) (fun _ _ => Nat.one_pos) 2 (by omega) (fun j hj => small63 (HG.out j hj)) (fun _ _ => by decide))
            have PC := Lib.hid (fun cs wz h => plainC_any cs (fun _ => (tn : Int)) 1 tn T wz (by omega) h (by omega))
            obtain ⟨b1, hb1⟩ : ∃ b, (shB S sn && decide (itm S sn = (k : Int))) = b := ⟨_, rfl⟩
            obtain ⟨b2, hb2⟩ : ∃ b, (shB S sn && decide (itm S sn = (tn : Int))) = b := ⟨_, rfl⟩
            obtain ⟨K0, hK0⟩ : ∃ x, (if shB S sn = true then itm S sn else 0) = x := ⟨_, rfl⟩
            obtain ⟨sh, hsh⟩ : ∃ b, shB S sn = b := ⟨_, rfl⟩
            have Q1 := Lib.hid (builds_facts hb1 hb2 hK0 hsh)
            rw [hb1] at NU
            rw [hb2] at CH
            rw [hK0, hsh] at RC
            clear hb1 hb2 hK0 hsh
            go_wp2_with fail
            go_at_call 6
            (with_reducible refine (NU.out _ BB.out.now.2.2.2.1 BB.out.now.1).mono ?_)
            rintro e w2 ⟨cs1, rfl, hcs1, hb2⟩
            obtain ⟨more, d, na1, nn1, nc1, rfl, hq1, f1, f2⟩ := nums_form hcs1
            have F1 := Lib.hid (And.intro f1 f2)
            have BB := Lib.hid (((BB.out.go hb2).rrow hq1).newRow (arrC false more d na1 nn1 nc1 none 0 0) 36)
            clear hb2 hq1 hcs1 f1 f2 NU
            unfold arrC
            unfold arrC at BB
            go_wp2_with fail
            go_at_call 7
            (with_reducible refine (CH.out _ BB.out.now.2.2.2.2.2.1 BB.out.now.2.2.2.1).mono ?_)
            rintro e w3 ⟨cs2, rfl, hcs2, hb3⟩
            obtain ⟨ch2, more2, d2, na2, nn2, nc2, rfl, hq2, f1, f2⟩ := chars_form hcs2
            have F2 := Lib.hid (And.intro f1 f2)
            have BB := Lib.hid (((BB.out.go hb3).krow hq2).newRow (arrC ch2 more2 d2 none 0 0 na2 nn2 nc2) 36)
            clear hb3 hq2 hcs2 f1 f2 CH
            unfold arrC
            unfold arrC at BB
            go_wp2_with fail
            go_at_call 8
            (with_reducible refine (RC.out _ BB.out.now.2.2.2.2.2.2.2.1).mono ?_)
            rintro e w4 ⟨rfl, rfl⟩
            clear RC
            go_wp2_with fail
            go_at_call 9
            (with_reducible refine (RI.out _ BB.out.now.2.2.2.2.2.2.1).mono ?_)
            intro e w5 hsx
            obtain ⟨csx, rfl, hpx, hb5⟩ := hsx (fun _ => 0)
            have BB := Lib.hid ((BB.out.go hb5).pln hpx)
            clear hb5 hpx hsx RI
            go_wp2_with fail
            go_at_call 10
            (with_reducible refine (RT.out _ BB.out.now.2.2.2.2.2.2.1).mono ?_)
            intro e w6 hsy
            obtain ⟨csy, rfl, hpy, hb6⟩ := hsy (fun _ => rB 0) (fun _ => rS 0) (fun _ => str (dec 1))
            have BB := Lib.hid ((BB.out.go hb6).pln hpy)
            clear hb6 hpy hsy RT
            obtain ⟨xa, xc, xta, xtc, xna, xnc, rfl, xs1, xs2, xs3⟩ := BB.out.now.2.1
            obtain ⟨ya, yc, yta, ytc, yna, ync, rfl, ys1, ys2, ys3⟩ := BB.out.now.1
            have OL := Lib.hid (And.intro (BB.out.now.2.2.2.2.2.1.older (Nat.le_refl _)) (And.intro (BB.out.now.2.2.2.2.2.1.older (Nat.le_succ _)) (And.intro BB.out.now.2.2.1.lt (And.intro BB.out.now.2.2.2.2.1.lt BB.out.below.size))))
            have BB := Lib.hid (((((((BB.out.krow xs1).krow xs2).qrow xs3).krow ys2).qrow ys3).newRow (plC xa 1 xc false xta 0 xtc xna k xnc) 44).newRow (plC ya 1 yc true yta tn ytc yna 0 ync) 44)
            simp only [World.size_alloc] at BB
            clear xs1 xs2 xs3 ys1 ys2 ys3
            unfold plC at BB
            unfold plC
            go_wp2_with fail
            generalize (w6.alloc (.cells #[.slice xa 1 xc, .bool false, .slice xta 0 xtc, .slice xna k xnc] 44)).alloc (.cells #[.slice ya 1 yc, .bool true, .slice yta tn ytc, .slice yna 0 ync] 44) = y12 at *
            generalize hkx : w6.heap.size = kx at *
            refine Code.wp_mono (Q := fun e ac yw => match e with | .normal => ac.tmps.size = 185 ∧ ac.defers = [] ∧ ac.tmps[0]? = some (.slice sa sn sc) ∧ ac.tmps[3]? = some (.int .i32 c) ∧ ac.tmps[4]? = some (.int .i64 n) ∧ ac.tmps[13]? = some (.pointer (some ⟨w2.heap.size, 0, none⟩)) ∧ ac.tmps[14]? = some (.bool b1) ∧ ac.tmps[15]? = some (.pointer (some ⟨w3.heap.size, 0, none⟩)) ∧ ac.tmps[16]? = some (.bool b2) ∧ ac.tmps[19]? = some (.pointer (some ⟨kx, 0, none⟩)) ∧ ac.tmps[20]? = some (.pointer (some ⟨kx + 1, 0, none⟩)) ∧ ac.tmps[105]? = some (.bool false) ∧ Below y12.heap.size y12 yw | _ => False) ?_ ?_
            · intro e ac yw
              cases e
              case normal =>
                rintro ⟨hsz, hdf, t0, t3, t4, t13, t14, t15, t16, t19, t20, t105, hb12⟩
                clear AI AT PN PC
                obtain ⟨TV, hTV⟩ : ∃ TV : Nat → Value, ∀ i, (ac.tmps[i]?).getD undef = TV i := ⟨_, fun _ => rfl⟩
                have f0 := (hTV 0).symm.trans (congrArg (fun x => Option.getD x undef) t0)
                have f3 := (hTV 3).symm.trans (congrArg (fun x => Option.getD x undef) t3)
                have f4 := (hTV 4).symm.trans (congrArg (fun x => Option.getD x undef) t4)
                have f13 := (hTV 13).symm.trans (congrArg (fun x => Option.getD x undef) t13)
                have f14 := (hTV 14).symm.trans (congrArg (fun x => Option.getD x undef) t14)
                have f15 := (hTV 15).symm.trans (congrArg (fun x => Option.getD x undef) t15)
                have f16 := (hTV 16).symm.trans (congrArg (fun x => Option.getD x undef) t16)
                have f19 := (hTV 19).symm.trans (congrArg (fun x => Option.getD x undef) t19)
                have f20 := (hTV 20).symm.trans (congrArg (fun x => Option.getD x undef) t20)
                have f105 := (hTV 105).symm.trans (congrArg (fun x => Option.getD x undef) t105)
                have hac := act_eq (n := 185) hsz TV hTV
                rw [show ((List.range 185).map TV).toArray = #[TV 0, TV 1, TV 2, TV 3, TV 4, TV 5, TV 6, TV 7, TV 8, TV 9, TV 10, TV 11, TV 12, TV 13, TV 14, TV 15, TV 16, TV 17, TV 18, TV 19, TV 20, TV 21, TV 22, TV 23, TV 24, TV 25, TV 26, TV 27, TV 28, TV 29, TV 30, TV 31, TV 32, TV 33, TV 34, TV 35, TV 36, TV 37, TV 38, TV 39, TV 40, TV 41, TV 42, TV 43, TV 44, TV 45, TV 46, TV 47, TV 48, TV 49, TV 50, TV 51, TV 52, TV 53, TV 54, TV 55, TV 56, TV 57, TV 58, TV 59, TV 60, TV 61, TV 62, TV 63, TV 64, TV 65, TV 66, TV 67, TV 68, TV 69, TV 70, TV 71, TV 72, TV 73, TV 74, TV 75, TV 76, TV 77, TV 78, TV 79, TV 80, TV 81, TV 82, TV 83, TV 84, TV 85, TV 86, TV 87, TV 88, TV 89, TV 90, TV 91, TV 92, TV 93, TV 94, TV 95, TV 96, TV 97, TV 98, TV 99, TV 100, TV 101, TV 102, TV 103, TV 104, TV 105, TV 106, TV 107, TV 108, TV 109, TV 110, TV 111, TV 112, TV 113, TV 114, TV 115, TV 116, TV 117, TV 118, TV 119, TV 120, TV 121, TV 122, TV 123, TV 124, TV 125, TV 126, TV 127, TV 128, TV 129, TV 130, TV 131, TV 132, TV 133, TV 134, TV 135, TV 136, TV 137, TV 138, TV 139, TV 140, TV 141, TV 142, TV 143, TV 144, TV 145, TV 146, TV 147, TV 148, TV 149, TV 150, TV 151, TV 152, TV 153, TV 154, TV 155, TV 156, TV 157, TV 158, TV 159, TV 160, TV 161, TV 162, TV 163, TV 164, TV 165, TV 166, TV 167, TV 168, TV 169, TV 170, TV 171, TV 172, TV 173, TV 174, TV 175, TV 176, TV 177, TV 178, TV 179, TV 180, TV 181, TV 182, TV 183, TV 184] from rfl, f0, f3, f4, f13, f14, f15, f16, f19, f20, f105, hdf] at hac
                simp only [Option.getD_some] at hac
                subst hac
                clear hTV f0 f3 f4 f13 f14 f15 f16 f19 f20 f105
                have BB0 := BB
                have BB := Lib.hid (BB.out.go hb12)
                clear t0 t3 t4 t13 t14 t15 t16 t19 t20 t105 hb12
                have r0 : Row yw kx 44 (plC xa 1 xc false xta 0 xtc xna k xnc) := BB.out.now.2.1
                have r1 : Row yw (kx + 1) 44 (plC ya 1 yc true yta tn ytc yna 0 ync) := BB.out.now.1
                obtain ⟨u0, u1, u2, u3, v0, v1, v2, v3⟩ := xy_cells BB.out.now.2.1 BB.out.now.1
                have f0 := r0.free 0
                have f1 := r1.free 0
                have i0' := noInt_pl xa 1 xc false xta 0 xtc xna k xnc
                have i1' := noInt_pl ya 1 yc true yta tn ytc yna 0 ync
                have s0' := noStr_pl xa 1 xc false xta 0 xtc xna k xnc
                have s1' := noStr_pl ya 1 yc true yta tn ytc yna 0 ync
                have hkw : w.heap.size ≤ kx := OL.out.2.2.2.2
                have ht1 := (BB.out.now.2.2.2.2.2.2.2.2.2.2.2.2.2.2.2.2.1).two r0 r1 i0' i1' (Value.slice sa sn sc)
                have BZ : Bag w (fun _ => True) ((yw.setCell ⟨kx, 0, none⟩ (Value.slice sa sn sc)).setCell ⟨kx + 1, 0, none⟩ (Value.slice sa sn sc)) := ⟨(BB.out.below.setCell (p := ⟨kx, 0, none⟩) hkw _).setCell (p := ⟨kx + 1, 0, none⟩) (Nat.le_succ_of_le hkw) _, fun _ _ _ _ => trivial, trivial⟩
                have P1 : PlnAt ((yw.setCell ⟨kx, 0, none⟩ (Value.slice sa sn sc)).setCell ⟨kx + 1, 0, none⟩ (Value.slice sa sn sc)) #[.slice sa sn sc, .bool true, .slice yta tn ytc, .slice yna 0 ync] S sn true T tn (fun _ => rB 0) (fun _ => rS 0) (fun _ => str (dec 1)) 0 := ⟨_, _, _, _, _, _, rfl, ht1, (BB.out.now.2.2.2.1).two r0 r1 i0' i1' (Value.slice sa sn sc), (BB.out.now.2.2.1).two r0 r1 s0' s1' (Value.slice sa sn sc)⟩
                have P0 : PlnAt ((yw.setCell ⟨kx, 0, none⟩ (Value.slice sa sn sc)).setCell ⟨kx + 1, 0, none⟩ (Value.slice sa sn sc)) #[.slice sa sn sc, .bool false, .slice xta 0 xtc, .slice xna k xnc] S sn false (fun _ => 0) 0 (fun j => rB (L j)) (fun j => rS (L j)) (fun _ => str (dec 1)) k := ⟨_, _, _, _, _, _, rfl, ht1, (BB.out.now.2.2.2.2.2.1).two r0 r1 i0' i1' (Value.slice sa sn sc), (BB.out.now.2.2.2.2.1).two r0 r1 s0' s1' (Value.slice sa sn sc)⟩
                have z0 : Row ((yw.setCell ⟨kx, 0, none⟩ (Value.slice sa sn sc)).setCell ⟨kx + 1, 0, none⟩ (Value.slice sa sn sc)) kx 44 #[.slice sa sn sc, .bool false, .slice xta 0 xtc, .slice xna k xnc] := (r0.set 0 (Value.slice sa sn sc)).far (a := ⟨kx + 1, 0, none⟩) (show kx ≠ kx + 1 by omega) (Value.slice sa sn sc)
                have z1 : Row ((yw.setCell ⟨kx, 0, none⟩ (Value.slice sa sn sc)).setCell ⟨kx + 1, 0, none⟩ (Value.slice sa sn sc)) (kx + 1) 44 #[.slice sa sn sc, .bool true, .slice yta tn ytc, .slice yna 0 ync] := (r1.far (a := ⟨kx, 0, none⟩) (Nat.succ_ne_self kx) (Value.slice sa sn sc)).set 0 (Value.slice sa sn sc)
                have B15 := Lib.hid (((((((((BZ.pln P1).pln P0).rrow ((BB.out.now.2.2.2.2.2.2.2.2.2.2.2.2.1).two r0 r1 i0' i1' OL.out.1 OL.out.2.1 (Value.slice sa sn sc))).krow ((BB.out.now.2.2.2.2.2.2.2.2.2.2.1).two r0 r1 i0' i1' (Value.slice sa sn sc))).row ((BB.out.now.2.2.2.2.2.2.2.2.2.2.2.1).two (by have := OL.out.2.2.2.1; omega) (by have := OL.out.2.2.2.1; omega) (Value.slice sa sn sc))).row ((BB.out.now.2.2.2.2.2.2.2.2.2.1).two (by have := OL.out.2.2.1; omega) (by have := OL.out.2.2.1; omega) (Value.slice sa sn sc))).row z0)).row z1)
                clear r0 r1 i0' i1' s0' s1' hkw ht1 BZ P1 P0 z0 z1
                go_wp2_with fail
                generalize (yw.setCell ⟨kx, 0, none⟩ (Value.slice sa sn sc)).setCell ⟨kx + 1, 0, none⟩ (Value.slice sa sn sc) = y15 at *
                clear u0 u1 u2 u3 v0 v1 v2 v3 f0 f1 BB OL
                refine Code.wp_mono (Q := fun e ac yw => match e with | .normal => ac.tmps.size = 185 ∧ ac.defers = [] ∧ ac.tmps[3]? = some (.int .i32 c) ∧ ac.tmps[4]? = some (.int .i64 n) ∧ ac.tmps[145]? = some (.bool false) ∧ Below w.heap.size w yw | _ => False) ?_ ?_
                · intro e ac yw
                  cases e
                  case normal =>
                    rintro ⟨hsz, hdf, t3, t4, t145, hbw⟩
                    obtain ⟨TV, hTV⟩ : ∃ TV : Nat → Value, ∀ i, (ac.tmps[i]?).getD undef = TV i := ⟨_, fun _ => rfl⟩
                    have f3 := (hTV 3).symm.trans (congrArg (fun x => Option.getD x undef) t3)
                    have f4 := (hTV 4).symm.trans (congrArg (fun x => Option.getD x undef) t4)
                    have f145 := (hTV 145).symm.trans (congrArg (fun x => Option.getD x undef) t145)
                    have hac := act_eq (n := 185) hsz TV hTV
                    rw [show ((List.range 185).map TV).toArray = #[TV 0, TV 1, TV 2, TV 3, TV 4, TV 5, TV 6, TV 7, TV 8, TV 9, TV 10, TV 11, TV 12, TV 13, TV 14, TV 15, TV 16, TV 17, TV 18, TV 19, TV 20, TV 21, TV 22, TV 23, TV 24, TV 25, TV 26, TV 27, TV 28, TV 29, TV 30, TV 31, TV 32, TV 33, TV 34, TV 35, TV 36, TV 37, TV 38, TV 39, TV 40, TV 41, TV 42, TV 43, TV 44, TV 45, TV 46, TV 47, TV 48, TV 49, TV 50, TV 51, TV 52, TV 53, TV 54, TV 55, TV 56, TV 57, TV 58, TV 59, TV 60, TV 61, TV 62, TV 63, TV 64, TV 65, TV 66, TV 67, TV 68, TV 69, TV 70, TV 71, TV 72, TV 73, TV 74, TV 75, TV 76, TV 77, TV 78, TV 79, TV 80, TV 81, TV 82, TV 83, TV 84, TV 85, TV 86, TV 87, TV 88, TV 89, TV 90, TV 91, TV 92, TV 93, TV 94, TV 95, TV 96, TV 97, TV 98, TV 99, TV 100, TV 101, TV 102, TV 103, TV 104, TV 105, TV 106, TV 107, TV 108, TV 109, TV 110, TV 111, TV 112, TV 113, TV 114, TV 115, TV 116, TV 117, TV 118, TV 119, TV 120, TV 121, TV 122, TV 123, TV 124, TV 125, TV 126, TV 127, TV 128, TV 129, TV 130, TV 131, TV 132, TV 133, TV 134, TV 135, TV 136, TV 137, TV 138, TV 139, TV 140, TV 141, TV 142, TV 143, TV 144, TV 145, TV 146, TV 147, TV 148, TV 149, TV 150, TV 151, TV 152, TV 153, TV 154, TV 155, TV 156, TV 157, TV 158, TV 159, TV 160, TV 161, TV 162, TV 163, TV 164, TV 165, TV 166, TV 167, TV 168, TV 169, TV 170, TV 171, TV 172, TV 173, TV 174, TV 175, TV 176, TV 177, TV 178, TV 179, TV 180, TV 181, TV 182, TV 183, TV 184] from rfl, f3, f4, f145, hdf] at hac
                    simp only [Option.getD_some] at hac
                    subst hac
                    clear hTV f3 f4 f145
                    have BB := Lib.hid (⟨hbw, fun _ _ _ _ => trivial, trivial⟩ : Bag w (fun _ => True) yw)
                    have ZI := Lib.hid (fun wz => arrInt_any n wz g4)
                    have ZF := Lib.hid (fun wz => ratFrom_any n wz g4)
                    have ZN := Lib.hid (fun a k c m a2 k2 c2 wz h => arrNum_any a k c m a2 k2 c2 n 1 wz h)
                    have ZP := Lib.hid (fun cs wz h => plainN_any cs (fun _ => 0) 0 1 (fun _ => n) (fun _ => 1) wz (by omega) h (by omega) (fun _ _ => Nat.one_pos) 2 (by omega) (fun _ _ => small63 g4) (fun _ _ => by decide))
                    have ZR := Lib.hid (fun wz => r6Int_any n wz g4)
                    have ZH := Lib.hid (fun wz => arrChar_any c wz)
                    have ZQ := Lib.hid (fun cs wz h => plainC_any cs (fun _ => 0) 0 1 (fun _ => c) wz (by omega) h (by omega))
                    have NN := Lib.hid (fun b wz => arrNone_any b wz)
                    have ZT : Hid (∀ wz, Calls Tryd.prog 10 #[.slice none 0 0] wz fun e w' => ∀ fB fS fT, PlnTold (fun _ => 0) 1 true (fun _ => 0) 0 fB fS fT 0 wz w' e) := Lib.hid (fun wz => r6Text_any none 0 0 (fun _ => 0) wz (KRow.nought _ _ _ _ (Nat.zero_le _) _))
                    have ZJ : Hid (∀ wz, Calls Tryd.prog 9 #[.slice none 0 0] wz fun e w' => ∀ T, PlnTold (fun _ => 0) 1 false T 0 (fun _ => rB 0) (fun _ => rS 0) (fun _ => str (dec 1)) 0 wz w' e) := Lib.hid (fun wz => r6Ints_any none 0 0 (fun _ => 0) wz (KRow.nought _ _ _ _ (Nat.zero_le _) _) (In64.none _) (by omega))
                    unfold NumTold1 at ZI ZN
                    unfold RatTold at ZF
                    unfold PlnTold at ZR ZT ZJ
                    unfold ChrTold1 at ZH
                    unfold arrC at NN
                    clear t3 t4 t145 hbw B15 Q1 F1 F2
                    go_wp2_with fail
                    go_at_call 16
                    (with_reducible refine (ZI.out _).mono ?_)
                    rintro e y1 ⟨z1, rfl, hz1, hy1⟩
                    have BB := Lib.hid ((BB.out.go hy1).numArr hz1)
                    go_wp2_with fail
                    go_at_call 13
                    (with_reducible refine (ZP.out _ _ (BB.out.now.1)).mono ?_)
                    rintro e y2 ⟨z2, rfl, hz2, hy2⟩
                    have BB := Lib.hid ((BB.out.go hy2).pln hz2)
                    go_wp2_with fail
                    go_at_call 17
                    (with_reducible refine (ZR.out _).mono ?_)
                    intro e y3 hs9
                    obtain ⟨z3, rfl, hz3, hy3⟩ := hs9 (fun _ => 0) (fun _ => 0)
                    have BB := Lib.hid ((BB.out.go hy3).pln hz3)
                    go_wp2_with fail
                    go_at_call 11
                    (with_reducible refine (same_true (BB.out.now.2.1) (BB.out.now.1)).mono ?_)
                    rintro e y4 ⟨rfl, hy4⟩
                    have BB := Lib.hid (BB.out.go hy4)
                    go_wp2_with fail
                    go_at_call 5
                    (with_reducible refine (ZF.out _).mono ?_)
                    rintro e y5 ⟨x8, n8, c8, m8, u8, o8, d8, rfl, hz5, hy5⟩
                    have BB := Lib.hid ((BB.out.go hy5).rat hz5)
                    go_wp2_with fail
                    go_at_call 18
                    (with_reducible refine (ZN.out _ _ _ _ _ _ _ _ (BB.out.now.1)).mono ?_)
                    rintro e y6 ⟨z6, rfl, hz6, hy6⟩
                    have BB := Lib.hid ((BB.out.go hy6).numArr hz6)
                    go_wp2_with fail
                    go_at_call 13
                    (with_reducible refine (ZP.out _ _ (BB.out.now.1)).mono ?_)
                    rintro e y7 ⟨z7, rfl, hz7, hy7⟩
                    have BB := Lib.hid ((BB.out.go hy7).pln hz7)
                    go_wp2_with fail
                    go_at_call 17
                    (with_reducible refine (ZR.out _).mono ?_)
                    intro e y8 hs9
                    obtain ⟨z8, rfl, hz8, hy8⟩ := hs9 (fun _ => 0) (fun _ => 0)
                    have BB := Lib.hid ((BB.out.go hy8).pln hz8)
                    go_wp2_with fail
                    go_at_call 11
                    (with_reducible refine (same_true (BB.out.now.2.1) (BB.out.now.1)).mono ?_)
                    rintro e y9 ⟨rfl, hy9⟩
                    have BB := Lib.hid (BB.out.go hy9)
                    go_wp2_with fail
                    go_at_call 19
                    (with_reducible refine (ZH.out _).mono ?_)
                    rintro e y10 ⟨z10, rfl, hz10, hy10⟩
                    have BB := Lib.hid ((BB.out.go hy10).chr hz10)
                    go_wp2_with fail
                    go_at_call 13
                    (with_reducible refine (ZQ.out _ _ (BB.out.now.1)).mono ?_)
                    rintro e y11 ⟨z11, rfl, hz11, hy11⟩
                    have BB := Lib.hid ((BB.out.go hy11).pln hz11)
                    have HK := Lib.hid (KRow.one' y11 .i32 c 21)
                    have BB := Lib.hid (BB.out.alloc (.cells #[.int .i32 c] 21))
                    have HP : Hid (PlnAt (y11.alloc (.cells #[.int .i32 c] 21)) #[.slice none 0 0, .bool true, .slice (some ⟨y11.heap.size, 0, none⟩) 1 1, .slice none 0 0] (fun _ => 0) 0 true (fun _ => c) 1 (fun _ => rB 0) (fun _ => rS 0) (fun _ => str (dec 1)) 0) := Lib.hid ⟨_, _, _, _, _, _, rfl, KRow.nought _ _ _ _ (Nat.zero_le _) _, HK.out, QRow.nought _ _ _ (Nat.zero_le _) _ _ _⟩
                    go_wp2_with fail
                    go_at_call 11
                    (with_reducible refine (same_true (BB.out.now.1) (HP.out)).mono ?_)
                    rintro e y12 ⟨rfl, hy12⟩
                    have BB := Lib.hid (BB.out.go hy12)
                    go_wp2_with fail
                    go_at_call 20
                    (with_reducible refine (NN.out true _).mono ?_)
                    rintro e y13 ⟨rfl, hy13⟩
                    have BB := Lib.hid (BB.out.go hy13)
                    go_wp2_with fail
                    go_at_call 13
                    (with_reducible refine (plainZ_any true (fun _ => 0) _).mono ?_)
                    rintro e y14 ⟨z14, rfl, hz14, hy14⟩
                    have BB := Lib.hid ((BB.out.go hy14).pln hz14)
                    go_wp2_with fail
                    go_at_call 10
                    (with_reducible refine (ZT.out _).mono ?_)
                    intro e y15 hs9
                    obtain ⟨z15, rfl, hz15, hy15⟩ := hs9 (fun _ => rB 0) (fun _ => rS 0) (fun _ => str (dec 1))
                    have BB := Lib.hid ((BB.out.go hy15).pln hz15)
                    go_wp2_with fail
                    go_at_call 11
                    (with_reducible refine (same_true (BB.out.now.2.1) (BB.out.now.1)).mono ?_)
                    rintro e y16 ⟨rfl, hy16⟩
                    have BB := Lib.hid (BB.out.go hy16)
                    go_wp2_with fail
                    go_at_call 20
                    (with_reducible refine (NN.out false _).mono ?_)
                    rintro e y17 ⟨rfl, hy17⟩
                    have BB := Lib.hid (BB.out.go hy17)
                    go_wp2_with fail
                    go_at_call 13
                    (with_reducible refine (plainZ_any false (fun _ => 0) _).mono ?_)
                    rintro e y18 ⟨z18, rfl, hz18, hy18⟩
                    have BB := Lib.hid ((BB.out.go hy18).pln hz18)
                    go_wp2_with fail
                    go_at_call 9
                    (with_reducible refine (ZJ.out _).mono ?_)
                    intro e y19 hs9
                    obtain ⟨z19, rfl, hz19, hy19⟩ := hs9 (fun _ => 0)
                    have BB := Lib.hid ((BB.out.go hy19).pln hz19)
                    go_wp2_with fail
                    go_at_call 11
                    (with_reducible refine (same_true (BB.out.now.2.1) (BB.out.now.1)).mono ?_)
                    rintro e y20 ⟨rfl, hy20⟩
                    have BB := Lib.hid (BB.out.go hy20)
                    go_wp2_with fail
                    go_at_call 4
                    refine (awake6_any _).mono ?_
                    rintro e y21 ⟨rfl, hy21⟩
                    have HE := Lib.hid (BB.out.go hy21).below
                    clear hy21
                    go_wp2
                    go_ret
                    exact ⟨rfl, HE.out⟩
                  all_goals exact fun h => h.elim
                · have H8 := Lib.hid Q1.out.2.2
                  clear Q1
                  cases b1 with
                  | true =>
                    cases b2 with
                    | true =>
                      obtain ⟨hm, hd, hn⟩ := F1.out.1 rfl
                      subst hm
                      subst hd
                      subst nn1
                      obtain ⟨hch, hm, hd, hn⟩ := F2.out.1 rfl
                      subst hch
                      subst hm
                      subst hd
                      subst nn2
                      have PA := Lib.hid (fun wz q => plain_any false S sn na1 k nc1 none 0 0 L (fun _ => 1) (fun _ => 0) wz (H8.out (.inl rfl)) q (KRow.nought _ _ _ _ (Nat.zero_le _) _) (by omega) (by omega) (fun _ _ => Nat.one_pos) 2 (by omega) (fun j hj => small63 (HG.out j hj)) (fun _ _ => by decide))
                      unfold arrC at PA
                      have PB := Lib.hid (fun wz q => plain_any true S sn none 0 0 na2 tn nc2 (fun _ => 0) (fun _ => 1) T wz (H8.out (.inr rfl)) (RRow.nought _ _ _ (Nat.zero_le _) _ _) q (by omega) (by omega) (fun _ h => absurd h (Nat.not_lt_zero _)) 1 (by omega) (fun _ h => absurd h (Nat.not_lt_zero _)) (fun _ h => absurd h (Nat.not_lt_zero _)))
                      unfold arrC at PB
                      clear F1 F2 H8
                      refine wp_region_inv2 ⟨(fun j => ([[110], [111], [112], [113], [114], [115], [116], [117], [118], [119], [120], [121], [122], [123], [124], [125], [126], [127], [128], [129], [130], [131], [], [], [], [135], [136], [137], [138], [139], [140], [], [], [], [144], [145]] : List (List Nat)).getD j []), (fun j => ([[], [0], [0, 1], [0, 1, 2], [0, 1], [0, 1, 2, 3, 4], [0, 1, 2, 3, 4, 5], [0, 1, 2, 3, 4, 5, 6], [0, 1, 2, 3, 4, 5, 6, 7], [0, 1, 2, 3, 4, 5, 6, 7, 8], [0, 1, 2, 3, 4, 5, 6, 7, 8, 9], [0, 1, 2, 3, 4, 5, 6, 7, 8, 9, 10], [0, 1, 2, 3, 4, 5, 6, 7, 8, 9, 10, 11], [0, 1, 2, 3, 4, 5, 6, 7, 8, 9, 10], [0, 1, 2, 3, 4, 5, 6, 7, 8, 9, 10, 11, 12, 13], [0, 1, 2, 3, 4, 5, 6, 7, 8, 9, 10, 11, 12, 13, 14], [0, 1, 2, 3, 4, 5, 6, 7, 8, 9, 10, 11, 12, 13, 14, 15], [0, 1, 2, 3, 4, 5, 6, 7, 8, 9, 10, 11, 12, 13, 14, 15, 16], [0, 1, 2, 3, 4, 5, 6, 7, 8, 9, 10, 11, 12, 13, 14, 15, 16, 17], [0, 1, 2, 3, 4, 5, 6, 7, 8, 9, 10, 11, 12, 13, 14, 15, 16, 17, 18], [0, 1, 2, 3, 4, 5, 6, 7, 8, 9, 10, 11, 12, 13, 14, 15, 16, 17, 18, 19], [0, 1, 2, 3, 4, 5, 6, 7, 8, 9, 10, 11, 12, 13, 14, 15, 16, 17, 18, 19, 20], [0, 1, 2, 3, 4, 5, 6, 7, 8, 9, 10, 11, 12, 13, 14, 15, 16, 17, 18, 19, 20, 21], [0, 1, 2, 3, 4, 5, 6, 7, 8, 9, 10, 11, 12, 13, 14, 15, 16, 17, 18, 19, 20, 21, 22], [0, 1, 2, 3, 4, 5, 6, 7, 8, 9, 10, 11, 12, 13, 14, 15, 16, 17, 18, 19, 20, 21, 22, 23], [0, 1, 2, 3, 4, 5, 6, 7, 8, 9, 10, 11, 12, 13, 14, 15, 16, 17, 18, 19, 20, 21, 22, 23, 24], [0, 1, 2, 3, 4, 5, 6, 7, 8, 9, 10, 11, 12, 13, 14, 15, 16, 17, 18, 19, 20, 21, 22, 23, 24, 25], [0, 1, 2, 3, 4, 5, 6, 7, 8, 9, 10, 11, 12, 13, 14, 15, 16, 17, 18, 19, 20, 21, 22, 23, 24, 25, 26], [0, 1, 2, 3, 4, 5, 6, 7, 8, 9, 10, 11, 12, 13, 14, 15, 16, 17, 18, 19, 20, 21, 22, 23, 24, 25, 26, 27], [0, 1, 2, 3, 4, 5, 6, 7, 8, 9, 10, 11, 12, 13, 14, 15, 16, 17, 18, 19, 20, 21, 22, 23, 24, 25, 26, 27, 28], [0, 1, 2, 3, 4, 5, 6, 7, 8, 9, 10, 11, 12, 13, 14, 15, 16, 17, 18, 19, 20, 21, 22, 23, 24, 25, 26, 27, 28, 29], [0, 1, 2, 3, 4, 5, 6, 7, 8, 9, 10, 11, 12, 13, 14, 15, 16, 17, 18, 19, 20, 21, 22, 23, 24, 25, 26, 27, 28, 29, 30], [0, 1, 2, 3, 4, 5, 6, 7, 8, 9, 10, 11, 12, 13, 14, 15, 16, 17, 18, 19, 20, 21, 22, 23, 24, 25, 26, 27, 28, 29, 30, 31], [0, 1, 2, 3, 4, 5, 6, 7, 8, 9, 10, 11, 12, 13, 14, 15, 16, 17, 18, 19, 20, 21, 22, 23, 24, 25, 26, 27, 28, 29, 30, 31, 32], [0, 1, 2, 3, 4, 5, 6, 7, 8, 9, 10, 11, 12, 13, 14, 15, 16, 17, 18, 19, 20, 21, 22, 23, 24, 25, 26, 27, 28, 29, 30, 31, 32, 33], [0, 1, 2, 3, 4, 5, 6, 7, 8, 9, 10, 11, 12, 13, 14, 15, 16, 17, 18, 19, 20, 21, 22, 23, 24, 25, 26, 27, 28, 29, 30, 31, 32, 33, 34]] : List (List Nat)).getD j []), []⟩ (fun jj vv yy => match jj with | 0 => vv = [some (.bool true)] | 1 => vv = [some (.bool true)] | 2 => vv = [some (.agg #[.bool false, .int .i64 ((sn : Int) - 1), .int .i64 (dm S sn 0), .int .i64 (dm S sn 1), .int .i64 (dm S sn 2), .int .i64 (dm S sn 3), .int .i64 (dm S sn 4), .int .i64 (dm S sn 5), .int .i64 (dm S sn 6), .int .i64 (dm S sn 7), .slice na1 k nc1, .slice none 0 0])] | 3 => ∃ (x3 : Array Value), vv = [some (.agg x3)] ∧ PlnAt yy x3 S sn false (fun _ => 0) 0 (fun j => rB (L j)) (fun j => rS (L j)) (fun _ => str (dec 1)) k | 4 => vv = [some (.agg #[.slice sa sn sc, .bool false, .slice xta 0 xtc, .slice xna k xnc])] | 5 => vv = [some (.bool true)] | 6 => vv = [some (.bool false)] | 7 => vv = [some (.bool false)] | 8 => vv = [some (.bool false)] | 9 => vv = [some (.bool true)] | 10 => vv = [some (.bool true)] | 11 => vv = [some (.agg #[.bool true, .int .i64 ((sn : Int) - 1), .int .i64 (dm S sn 0), .int .i64 (dm S sn 1), .int .i64 (dm S sn 2), .int .i64 (dm S sn 3), .int .i64 (dm S sn 4), .int .i64 (dm S sn 5), .int .i64 (dm S sn 6), .int .i64 (dm S sn 7), .slice none 0 0, .slice na2 tn nc2])] | 12 => ∃ (x12 : Array Value), vv = [some (.agg x12)] ∧ PlnAt yy x12 S sn true T tn (fun _ => rB 0) (fun _ => rS 0) (fun _ => str (dec 1)) 0 | 13 => vv = [some (.agg #[.slice sa sn sc, .bool true, .slice yta tn ytc, .slice yna 0 ync])] | 14 => vv = [some (.bool true)] | 15 => vv = [some (.bool false)] | 16 => vv = [some (.bool false)] | 17 => vv = [some (.bool false)] | 18 => vv = [some (.bool false)] | 19 => vv = [some (.bool true)] | 20 => vv = [some (.bool false)] | 21 => vv = [some (.bool false)] | 22 => True | 23 => True | 24 => True | 25 => vv = [some (.bool false)] | 26 => vv = [some (.bool false)] | 27 => vv = [some (.bool false)] | 28 => vv = [some (.bool true)] | 29 => vv = [some (.bool false)] | 30 => vv = [some (.bool false)] | 31 => True | 32 => True | 33 => True | 34 => vv = [some (.bool false)] | 35 => vv = [some (.bool false)] | _ => True) (Bag w (fun y => Row y (kx + 1) 44 #[.slice sa sn sc, .bool true, .slice yta tn ytc, .slice yna 0 ync] ∧ Row y kx 44 #[.slice sa sn sc, .bool false, .slice xta 0 xtc, .slice xna k xnc] ∧ Row y w3.heap.size 36 #[.bool true, .int .i64 ((sn : Int) - 1), .int .i64 (dm S sn 0), .int .i64 (dm S sn 1), .int .i64 (dm S sn 2), .int .i64 (dm S sn 3), .int .i64 (dm S sn 4), .int .i64 (dm S sn 5), .int .i64 (dm S sn 6), .int .i64 (dm S sn 7), .slice none 0 0, .slice na2 tn nc2] ∧ Row y w2.heap.size 36 #[.bool false, .int .i64 ((sn : Int) - 1), .int .i64 (dm S sn 0), .int .i64 (dm S sn 1), .int .i64 (dm S sn 2), .int .i64 (dm S sn 3), .int .i64 (dm S sn 4), .int .i64 (dm S sn 5), .int .i64 (dm S sn 6), .int .i64 (dm S sn 7), .slice na1 k nc1, .slice none 0 0] ∧ KRow y .i32 na2 tn nc2 T ∧ RRow y na1 k nc1 L (fun _ => 1) ∧ PlnAt y #[.slice sa sn sc, .bool false, .slice xta 0 xtc, .slice xna k xnc] S sn false (fun _ => 0) 0 (fun j => rB (L j)) (fun j => rS (L j)) (fun _ => str (dec 1)) k ∧ PlnAt y #[.slice sa sn sc, .bool true, .slice yta tn ytc, .slice yna 0 ync] S sn true T tn (fun _ => rB 0) (fun _ => rS 0) (fun _ => str (dec 1)) 0 ∧ True)) (by kernel_rfl) (by kernel_rfl) (by kernel_rfl) B15.out.drew ?_ ?_ ?_
                      · intro jj vv yw yw2 hb h
                        match jj, h with
                        | 0, h => exact h
                        | 1, h => exact h
                        | 2, h => exact h
                        | 3, ⟨x3, e3, g3_0⟩ => exact Exists.intro x3 (And.intro e3 (g3_0.below hb))
                        | 4, h => exact h
                        | 5, h => exact h
                        | 6, h => exact h
                        | 7, h => exact h
                        | 8, h => exact h
                        | 9, h => exact h
                        | 10, h => exact h
                        | 11, h => exact h
                        | 12, ⟨x12, e12, g12_0⟩ => exact Exists.intro x12 (And.intro e12 (g12_0.below hb))
                        | 13, h => exact h
                        | 14, h => exact h
                        | 15, h => exact h
                        | 16, h => exact h
                        | 17, h => exact h
                        | 18, h => exact h
                        | 19, h => exact h
                        | 20, h => exact h
                        | 21, h => exact h
                        | 22, h => exact h
                        | 23, h => exact h
                        | 24, h => exact h
                        | 25, h => exact h
                        | 26, h => exact h
                        | 27, h => exact h
                        | 28, h => exact h
                        | 29, h => exact h
                        | 30, h => exact h
                        | 31, h => exact h
                        | 32, h => exact h
                        | 33, h => exact h
                        | 34, h => exact h
                        | 35, h => exact h
                        | _ + 36, h => exact h
                      · intro ac yw hsz hdf hold hB hp
                        exact ⟨hsz, hdf, hold 3 (by kernel_rfl), hold 4 (by kernel_rfl), (List.cons.inj (hp 35 (by decide))).1, hB.below⟩
                      refine Stps2.cons (o := _) ?_ ?_
                      · intro ac yw hsz hold hB hp K hK
                        have t14 : ac.tmps[14]? = some (.bool true) := hold 14 (by kernel_rfl)
                        clear hold hp hsz
                        go_simp
                        exact hK.out _ _ ⟨hB, rfl, Nat.le_refl _, .inl (Below.refl _ _), fun h => absurd h (by decide)⟩
                      refine Stps2.cons (o := _) ?_ ?_
                      · intro ac yw hsz hold hB hp K hK
                        have e0 := hp 0 (by decide)
                        have t110 : ac.tmps[110]? = some (.bool true) := (List.cons.inj e0).1
                        clear hold hp hsz e0
                        go_simp
                        exact hK.out _ _ ⟨hB, rfl, Nat.le_refl _, .inl (Below.refl _ _), fun h => absurd h (by decide)⟩
                      refine Stps2.cons (o := _) ?_ ?_
                      · intro ac yw hsz hold hB hp K hK
                        have t111 : ac.tmps[111]? = some (.bool true) := (List.cons.inj (hp 1 (by decide))).1
                        rw [if_pos (wanted_pos rfl rfl t111)]
                        have t13 : ac.tmps[13]? = some (.pointer (some ⟨w2.heap.size, 0, none⟩)) := hold 13 (by kernel_rfl)
                        clear hold hp hsz
                        have v0_0 : yw.cell? ⟨kx + 1, 0, none⟩ = some (.slice sa sn sc) := hB.now.1.cell 0
                        have v0_1 : yw.cell? ⟨kx + 1, 1, none⟩ = some (.bool true) := hB.now.1.cell 1
                        have v0_2 : yw.cell? ⟨kx + 1, 2, none⟩ = some (.slice yta tn ytc) := hB.now.1.cell 2
                        have v0_3 : yw.cell? ⟨kx + 1, 3, none⟩ = some (.slice yna 0 ync) := hB.now.1.cell 3
                        have v1_0 : yw.cell? ⟨kx, 0, none⟩ = some (.slice sa sn sc) := hB.now.2.1.cell 0
                        have v1_1 : yw.cell? ⟨kx, 1, none⟩ = some (.bool false) := hB.now.2.1.cell 1
                        have v1_2 : yw.cell? ⟨kx, 2, none⟩ = some (.slice xta 0 xtc) := hB.now.2.1.cell 2
                        have v1_3 : yw.cell? ⟨kx, 3, none⟩ = some (.slice xna k xnc) := hB.now.2.1.cell 3
                        have v2_0 : yw.cell? ⟨w3.heap.size, 0, none⟩ = some (.bool true) := hB.now.2.2.1.cell 0
                        have v2_1 : yw.cell? ⟨w3.heap.size, 1, none⟩ = some (.int .i64 ((sn : Int) - 1)) := hB.now.2.2.1.cell 1
                        have v2_2 : yw.cell? ⟨w3.heap.size, 2, none⟩ = some (.int .i64 (dm S sn 0)) := hB.now.2.2.1.cell 2
                        have v2_3 : yw.cell? ⟨w3.heap.size, 3, none⟩ = some (.int .i64 (dm S sn 1)) := hB.now.2.2.1.cell 3
                        have v2_4 : yw.cell? ⟨w3.heap.size, 4, none⟩ = some (.int .i64 (dm S sn 2)) := hB.now.2.2.1.cell 4
                        have v2_5 : yw.cell? ⟨w3.heap.size, 5, none⟩ = some (.int .i64 (dm S sn 3)) := hB.now.2.2.1.cell 5
                        have v2_6 : yw.cell? ⟨w3.heap.size, 6, none⟩ = some (.int .i64 (dm S sn 4)) := hB.now.2.2.1.cell 6
                        have v2_7 : yw.cell? ⟨w3.heap.size, 7, none⟩ = some (.int .i64 (dm S sn 5)) := hB.now.2.2.1.cell 7
                        have v2_8 : yw.cell? ⟨w3.heap.size, 8, none⟩ = some (.int .i64 (dm S sn 6)) := hB.now.2.2.1.cell 8
                        have v2_9 : yw.cell? ⟨w3.heap.size, 9, none⟩ = some (.int .i64 (dm S sn 7)) := hB.now.2.2.1.cell 9
                        have v2_10 : yw.cell? ⟨w3.heap.size, 10, none⟩ = some (.slice none 0 0) := hB.now.2.2.1.cell 10
                        have v2_11 : yw.cell? ⟨w3.heap.size, 11, none⟩ = some (.slice na2 tn nc2) := hB.now.2.2.1.cell 11
                        have v3_0 : yw.cell? ⟨w2.heap.size, 0, none⟩ = some (.bool false) := hB.now.2.2.2.1.cell 0
                        have v3_1 : yw.cell? ⟨w2.heap.size, 1, none⟩ = some (.int .i64 ((sn : Int) - 1)) := hB.now.2.2.2.1.cell 1
                        have v3_2 : yw.cell? ⟨w2.heap.size, 2, none⟩ = some (.int .i64 (dm S sn 0)) := hB.now.2.2.2.1.cell 2
                        have v3_3 : yw.cell? ⟨w2.heap.size, 3, none⟩ = some (.int .i64 (dm S sn 1)) := hB.now.2.2.2.1.cell 3
                        have v3_4 : yw.cell? ⟨w2.heap.size, 4, none⟩ = some (.int .i64 (dm S sn 2)) := hB.now.2.2.2.1.cell 4
                        have v3_5 : yw.cell? ⟨w2.heap.size, 5, none⟩ = some (.int .i64 (dm S sn 3)) := hB.now.2.2.2.1.cell 5
                        have v3_6 : yw.cell? ⟨w2.heap.size, 6, none⟩ = some (.int .i64 (dm S sn 4)) := hB.now.2.2.2.1.cell 6
                        have v3_7 : yw.cell? ⟨w2.heap.size, 7, none⟩ = some (.int .i64 (dm S sn 5)) := hB.now.2.2.2.1.cell 7
                        have v3_8 : yw.cell? ⟨w2.heap.size, 8, none⟩ = some (.int .i64 (dm S sn 6)) := hB.now.2.2.2.1.cell 8
                        have v3_9 : yw.cell? ⟨w2.heap.size, 9, none⟩ = some (.int .i64 (dm S sn 7)) := hB.now.2.2.2.1.cell 9
                        have v3_10 : yw.cell? ⟨w2.heap.size, 10, none⟩ = some (.slice na1 k nc1) := hB.now.2.2.2.1.cell 10
                        have v3_11 : yw.cell? ⟨w2.heap.size, 11, none⟩ = some (.slice none 0 0) := hB.now.2.2.2.1.cell 11
                        go_simp
                        exact hK.out _ _ ⟨hB, rfl, Nat.le_refl _, .inl (Below.refl _ _), fun h => absurd h (by decide)⟩
                      refine Stps2.cons (o := _) ?_ ?_
                      · intro ac yw hsz hold hB hp K hK
                        have t111 : ac.tmps[111]? = some (.bool true) := (List.cons.inj (hp 1 (by decide))).1
                        rw [if_pos (wanted_pos rfl rfl t111)]
                        have e2 := hp 2 (by decide)
                        have t112 : ac.tmps[112]? = some (.agg #[.bool false, .int .i64 ((sn : Int) - 1), .int .i64 (dm S sn 0), .int .i64 (dm S sn 1), .int .i64 (dm S sn 2), .int .i64 (dm S sn 3), .int .i64 (dm S sn 4), .int .i64 (dm S sn 5), .int .i64 (dm S sn 6), .int .i64 (dm S sn 7), .slice na1 k nc1, .slice none 0 0]) := (List.cons.inj e2).1
                        clear hold hp hsz e2
                        go_simp
                        (go_at_call 13; (with_reducible refine (PA.out _ (hB.now.2.2.2.2.2.1)).mono ?_); rintro e wz ⟨x3, rfl, h3_0, hbz⟩)
                        exact hK.out _ _ ⟨hB.go hbz, Exists.intro x3 (And.intro rfl h3_0), hbz.size, .inl hbz, fun h => absurd h (by decide)⟩
                      refine Stps2.cons (o := _) ?_ ?_
                      · intro ac yw hsz hold hB hp K hK
                        have t111 : ac.tmps[111]? = some (.bool true) := (List.cons.inj (hp 1 (by decide))).1
                        rw [if_pos (wanted_pos rfl rfl t111)]
                        have t19 : ac.tmps[19]? = some (.pointer (some ⟨kx, 0, none⟩)) := hold 19 (by kernel_rfl)
                        clear hold hp hsz
                        have v0_0 : yw.cell? ⟨kx + 1, 0, none⟩ = some (.slice sa sn sc) := hB.now.1.cell 0
                        have v0_1 : yw.cell? ⟨kx + 1, 1, none⟩ = some (.bool true) := hB.now.1.cell 1
                        have v0_2 : yw.cell? ⟨kx + 1, 2, none⟩ = some (.slice yta tn ytc) := hB.now.1.cell 2
                        have v0_3 : yw.cell? ⟨kx + 1, 3, none⟩ = some (.slice yna 0 ync) := hB.now.1.cell 3
                        have v1_0 : yw.cell? ⟨kx, 0, none⟩ = some (.slice sa sn sc) := hB.now.2.1.cell 0
                        have v1_1 : yw.cell? ⟨kx, 1, none⟩ = some (.bool false) := hB.now.2.1.cell 1
                        have v1_2 : yw.cell? ⟨kx, 2, none⟩ = some (.slice xta 0 xtc) := hB.now.2.1.cell 2
                        have v1_3 : yw.cell? ⟨kx, 3, none⟩ = some (.slice xna k xnc) := hB.now.2.1.cell 3
                        have v2_0 : yw.cell? ⟨w3.heap.size, 0, none⟩ = some (.bool true) := hB.now.2.2.1.cell 0
                        have v2_1 : yw.cell? ⟨w3.heap.size, 1, none⟩ = some (.int .i64 ((sn : Int) - 1)) := hB.now.2.2.1.cell 1
                        have v2_2 : yw.cell? ⟨w3.heap.size, 2, none⟩ = some (.int .i64 (dm S sn 0)) := hB.now.2.2.1.cell 2
                        have v2_3 : yw.cell? ⟨w3.heap.size, 3, none⟩ = some (.int .i64 (dm S sn 1)) := hB.now.2.2.1.cell 3
                        have v2_4 : yw.cell? ⟨w3.heap.size, 4, none⟩ = some (.int .i64 (dm S sn 2)) := hB.now.2.2.1.cell 4
                        have v2_5 : yw.cell? ⟨w3.heap.size, 5, none⟩ = some (.int .i64 (dm S sn 3)) := hB.now.2.2.1.cell 5
                        have v2_6 : yw.cell? ⟨w3.heap.size, 6, none⟩ = some (.int .i64 (dm S sn 4)) := hB.now.2.2.1.cell 6
                        have v2_7 : yw.cell? ⟨w3.heap.size, 7, none⟩ = some (.int .i64 (dm S sn 5)) := hB.now.2.2.1.cell 7
                        have v2_8 : yw.cell? ⟨w3.heap.size, 8, none⟩ = some (.int .i64 (dm S sn 6)) := hB.now.2.2.1.cell 8
                        have v2_9 : yw.cell? ⟨w3.heap.size, 9, none⟩ = some (.int .i64 (dm S sn 7)) := hB.now.2.2.1.cell 9
                        have v2_10 : yw.cell? ⟨w3.heap.size, 10, none⟩ = some (.slice none 0 0) := hB.now.2.2.1.cell 10
                        have v2_11 : yw.cell? ⟨w3.heap.size, 11, none⟩ = some (.slice na2 tn nc2) := hB.now.2.2.1.cell 11
                        have v3_0 : yw.cell? ⟨w2.heap.size, 0, none⟩ = some (.bool false) := hB.now.2.2.2.1.cell 0
                        have v3_1 : yw.cell? ⟨w2.heap.size, 1, none⟩ = some (.int .i64 ((sn : Int) - 1)) := hB.now.2.2.2.1.cell 1
                        have v3_2 : yw.cell? ⟨w2.heap.size, 2, none⟩ = some (.int .i64 (dm S sn 0)) := hB.now.2.2.2.1.cell 2
                        have v3_3 : yw.cell? ⟨w2.heap.size, 3, none⟩ = some (.int .i64 (dm S sn 1)) := hB.now.2.2.2.1.cell 3
                        have v3_4 : yw.cell? ⟨w2.heap.size, 4, none⟩ = some (.int .i64 (dm S sn 2)) := hB.now.2.2.2.1.cell 4
                        have v3_5 : yw.cell? ⟨w2.heap.size, 5, none⟩ = some (.int .i64 (dm S sn 3)) := hB.now.2.2.2.1.cell 5
                        have v3_6 : yw.cell? ⟨w2.heap.size, 6, none⟩ = some (.int .i64 (dm S sn 4)) := hB.now.2.2.2.1.cell 6
                        have v3_7 : yw.cell? ⟨w2.heap.size, 7, none⟩ = some (.int .i64 (dm S sn 5)) := hB.now.2.2.2.1.cell 7
                        have v3_8 : yw.cell? ⟨w2.heap.size, 8, none⟩ = some (.int .i64 (dm S sn 6)) := hB.now.2.2.2.1.cell 8
                        have v3_9 : yw.cell? ⟨w2.heap.size, 9, none⟩ = some (.int .i64 (dm S sn 7)) := hB.now.2.2.2.1.cell 9
                        have v3_10 : yw.cell? ⟨w2.heap.size, 10, none⟩ = some (.slice na1 k nc1) := hB.now.2.2.2.1.cell 10
                        have v3_11 : yw.cell? ⟨w2.heap.size, 11, none⟩ = some (.slice none 0 0) := hB.now.2.2.2.1.cell 11
                        go_simp
                        exact hK.out _ _ ⟨hB, rfl, Nat.le_refl _, .inl (Below.refl _ _), fun h => absurd h (by decide)⟩
                      refine Stps2.cons (o := _) ?_ ?_
                      · intro ac yw hsz hold hB hp K hK
                        have t111 : ac.tmps[111]? = some (.bool true) := (List.cons.inj (hp 1 (by decide))).1
                        rw [if_pos (wanted_pos rfl rfl t111)]
                        obtain ⟨x3_3, e3, g3_0⟩ := hp 3 (by decide)
                        have t113 : ac.tmps[113]? = some (.agg x3_3) := (List.cons.inj e3).1
                        have e4 := hp 4 (by decide)
                        have t114 : ac.tmps[114]? = some (.agg #[.slice sa sn sc, .bool false, .slice xta 0 xtc, .slice xna k xnc]) := (List.cons.inj e4).1
                        clear hold hp hsz e3 e4
                        go_simp
                        (go_at_call 11; (with_reducible refine (same_true g3_0 (hB.now.2.2.2.2.2.2.1)).mono ?_); rintro e wz ⟨rfl, hbz⟩)
                        exact hK.out _ _ ⟨hB.go hbz, rfl, hbz.size, .inl hbz, fun h => absurd h (by decide)⟩
                      refine Stps2.cons (o := _) ?_ ?_
                      · intro ac yw hsz hold hB hp K hK
                        have t111 : ac.tmps[111]? = some (.bool true) := (List.cons.inj (hp 1 (by decide))).1
                        rw [if_pos (wanted_pos rfl rfl t111)]
                        have e5 := hp 5 (by decide)
                        have t115 : ac.tmps[115]? = some (.bool true) := (List.cons.inj e5).1
                        clear hold hp hsz e5
                        go_simp
                        exact hK.out _ _ ⟨hB, rfl, Nat.le_refl _, .inl (Below.refl _ _), fun h => absurd h (by decide)⟩
                      refine Stps2.cons (o := _) ?_ ?_
                      · intro ac yw hsz hold hB hp K hK
                        have e1 := hp 1 (by decide)
                        have t111 : ac.tmps[111]? = some (.bool true) := (List.cons.inj e1).1
                        have e6 := hp 6 (by decide)
                        have t116 : ac.tmps[116]? = some (.bool false) := (List.cons.inj e6).1
                        clear hold hp hsz e1 e6
                        go_simp
                        exact hK.out _ _ ⟨hB, rfl, Nat.le_refl _, .inl (Below.refl _ _), fun h => absurd h (by decide)⟩
                      refine Stps2.cons (o := _) ?_ ?_
                      · intro ac yw hsz hold hB hp K hK
                        have e7 := hp 7 (by decide)
                        have t117 : ac.tmps[117]? = some (.bool false) := (List.cons.inj e7).1
                        clear hold hp hsz e7
                        go_simp
                        exact hK.out _ _ ⟨hB, rfl, Nat.le_refl _, .inl (Below.refl _ _), fun h => absurd h (by decide)⟩
                      refine Stps2.cons (o := _) ?_ ?_
                      · intro ac yw hsz hold hB hp K hK
                        have t118 : ac.tmps[118]? = some (.bool false) := (List.cons.inj (hp 8 (by decide))).1
                        rw [if_pos (wanted_pos rfl rfl t118)]
                        have t16 : ac.tmps[16]? = some (.bool true) := hold 16 (by kernel_rfl)
                        clear hold hp hsz
                        go_simp
                        exact hK.out _ _ ⟨hB, rfl, Nat.le_refl _, .inl (Below.refl _ _), fun h => absurd h (by decide)⟩
                      refine Stps2.cons (o := _) ?_ ?_
                      · intro ac yw hsz hold hB hp K hK
                        have t118 : ac.tmps[118]? = some (.bool false) := (List.cons.inj (hp 8 (by decide))).1
                        rw [if_pos (wanted_pos rfl rfl t118)]
                        have e9 := hp 9 (by decide)
                        have t119 : ac.tmps[119]? = some (.bool true) := (List.cons.inj e9).1
                        clear hold hp hsz e9
                        go_simp
                        exact hK.out _ _ ⟨hB, rfl, Nat.le_refl _, .inl (Below.refl _ _), fun h => absurd h (by decide)⟩
                      refine Stps2.cons (o := _) ?_ ?_
                      · intro ac yw hsz hold hB hp K hK
                        have t120 : ac.tmps[120]? = some (.bool true) := (List.cons.inj (hp 10 (by decide))).1
                        rw [if_pos (wanted_pos rfl rfl t120)]
                        have t15 : ac.tmps[15]? = some (.pointer (some ⟨w3.heap.size, 0, none⟩)) := hold 15 (by kernel_rfl)
                        clear hold hp hsz
                        have v0_0 : yw.cell? ⟨kx + 1, 0, none⟩ = some (.slice sa sn sc) := hB.now.1.cell 0
                        have v0_1 : yw.cell? ⟨kx + 1, 1, none⟩ = some (.bool true) := hB.now.1.cell 1
                        have v0_2 : yw.cell? ⟨kx + 1, 2, none⟩ = some (.slice yta tn ytc) := hB.now.1.cell 2
                        have v0_3 : yw.cell? ⟨kx + 1, 3, none⟩ = some (.slice yna 0 ync) := hB.now.1.cell 3
                        have v1_0 : yw.cell? ⟨kx, 0, none⟩ = some (.slice sa sn sc) := hB.now.2.1.cell 0
                        have v1_1 : yw.cell? ⟨kx, 1, none⟩ = some (.bool false) := hB.now.2.1.cell 1
                        have v1_2 : yw.cell? ⟨kx, 2, none⟩ = some (.slice xta 0 xtc) := hB.now.2.1.cell 2
                        have v1_3 : yw.cell? ⟨kx, 3, none⟩ = some (.slice xna k xnc) := hB.now.2.1.cell 3
                        have v2_0 : yw.cell? ⟨w3.heap.size, 0, none⟩ = some (.bool true) := hB.now.2.2.1.cell 0
                        have v2_1 : yw.cell? ⟨w3.heap.size, 1, none⟩ = some (.int .i64 ((sn : Int) - 1)) := hB.now.2.2.1.cell 1
                        have v2_2 : yw.cell? ⟨w3.heap.size, 2, none⟩ = some (.int .i64 (dm S sn 0)) := hB.now.2.2.1.cell 2
                        have v2_3 : yw.cell? ⟨w3.heap.size, 3, none⟩ = some (.int .i64 (dm S sn 1)) := hB.now.2.2.1.cell 3
                        have v2_4 : yw.cell? ⟨w3.heap.size, 4, none⟩ = some (.int .i64 (dm S sn 2)) := hB.now.2.2.1.cell 4
                        have v2_5 : yw.cell? ⟨w3.heap.size, 5, none⟩ = some (.int .i64 (dm S sn 3)) := hB.now.2.2.1.cell 5
                        have v2_6 : yw.cell? ⟨w3.heap.size, 6, none⟩ = some (.int .i64 (dm S sn 4)) := hB.now.2.2.1.cell 6
                        have v2_7 : yw.cell? ⟨w3.heap.size, 7, none⟩ = some (.int .i64 (dm S sn 5)) := hB.now.2.2.1.cell 7
                        have v2_8 : yw.cell? ⟨w3.heap.size, 8, none⟩ = some (.int .i64 (dm S sn 6)) := hB.now.2.2.1.cell 8
                        have v2_9 : yw.cell? ⟨w3.heap.size, 9, none⟩ = some (.int .i64 (dm S sn 7)) := hB.now.2.2.1.cell 9
                        have v2_10 : yw.cell? ⟨w3.heap.size, 10, none⟩ = some (.slice none 0 0) := hB.now.2.2.1.cell 10
                        have v2_11 : yw.cell? ⟨w3.heap.size, 11, none⟩ = some (.slice na2 tn nc2) := hB.now.2.2.1.cell 11
                        have v3_0 : yw.cell? ⟨w2.heap.size, 0, none⟩ = some (.bool false) := hB.now.2.2.2.1.cell 0
                        have v3_1 : yw.cell? ⟨w2.heap.size, 1, none⟩ = some (.int .i64 ((sn : Int) - 1)) := hB.now.2.2.2.1.cell 1
                        have v3_2 : yw.cell? ⟨w2.heap.size, 2, none⟩ = some (.int .i64 (dm S sn 0)) := hB.now.2.2.2.1.cell 2
                        have v3_3 : yw.cell? ⟨w2.heap.size, 3, none⟩ = some (.int .i64 (dm S sn 1)) := hB.now.2.2.2.1.cell 3
                        have v3_4 : yw.cell? ⟨w2.heap.size, 4, none⟩ = some (.int .i64 (dm S sn 2)) := hB.now.2.2.2.1.cell 4
                        have v3_5 : yw.cell? ⟨w2.heap.size, 5, none⟩ = some (.int .i64 (dm S sn 3)) := hB.now.2.2.2.1.cell 5
                        have v3_6 : yw.cell? ⟨w2.heap.size, 6, none⟩ = some (.int .i64 (dm S sn 4)) := hB.now.2.2.2.1.cell 6
                        have v3_7 : yw.cell? ⟨w2.heap.size, 7, none⟩ = some (.int .i64 (dm S sn 5)) := hB.now.2.2.2.1.cell 7
                        have v3_8 : yw.cell? ⟨w2.heap.size, 8, none⟩ = some (.int .i64 (dm S sn 6)) := hB.now.2.2.2.1.cell 8
                        have v3_9 : yw.cell? ⟨w2.heap.size, 9, none⟩ = some (.int .i64 (dm S sn 7)) := hB.now.2.2.2.1.cell 9
                        have v3_10 : yw.cell? ⟨w2.heap.size, 10, none⟩ = some (.slice na1 k nc1) := hB.now.2.2.2.1.cell 10
                        have v3_11 : yw.cell? ⟨w2.heap.size, 11, none⟩ = some (.slice none 0 0) := hB.now.2.2.2.1.cell 11
                        go_simp
                        exact hK.out _ _ ⟨hB, rfl, Nat.le_refl _, .inl (Below.refl _ _), fun h => absurd h (by decide)⟩
                      refine Stps2.cons (o := _) ?_ ?_
                      · intro ac yw hsz hold hB hp K hK
                        have t120 : ac.tmps[120]? = some (.bool true) := (List.cons.inj (hp 10 (by decide))).1
                        rw [if_pos (wanted_pos rfl rfl t120)]
                        have e11 := hp 11 (by decide)
                        have t121 : ac.tmps[121]? = some (.agg #[.bool true, .int .i64 ((sn : Int) - 1), .int .i64 (dm S sn 0), .int .i64 (dm S sn 1), .int .i64 (dm S sn 2), .int .i64 (dm S sn 3), .int .i64 (dm S sn 4), .int .i64 (dm S sn 5), .int .i64 (dm S sn 6), .int .i64 (dm S sn 7), .slice none 0 0, .slice na2 tn nc2]) := (List.cons.inj e11).1
                        clear hold hp hsz e11
                        go_simp
                        (go_at_call 13; (with_reducible refine (PB.out _ (hB.now.2.2.2.2.1)).mono ?_); rintro e wz ⟨x12, rfl, h12_0, hbz⟩)
                        exact hK.out _ _ ⟨hB.go hbz, Exists.intro x12 (And.intro rfl h12_0), hbz.size, .inl hbz, fun h => absurd h (by decide)⟩
                      refine Stps2.cons (o := _) ?_ ?_
                      · intro ac yw hsz hold hB hp K hK
                        have t120 : ac.tmps[120]? = some (.bool true) := (List.cons.inj (hp 10 (by decide))).1
                        rw [if_pos (wanted_pos rfl rfl t120)]
                        have t20 : ac.tmps[20]? = some (.pointer (some ⟨(kx + 1), 0, none⟩)) := hold 20 (by kernel_rfl)
                        clear hold hp hsz
                        have v0_0 : yw.cell? ⟨kx + 1, 0, none⟩ = some (.slice sa sn sc) := hB.now.1.cell 0
                        have v0_1 : yw.cell? ⟨kx + 1, 1, none⟩ = some (.bool true) := hB.now.1.cell 1
                        have v0_2 : yw.cell? ⟨kx + 1, 2, none⟩ = some (.slice yta tn ytc) := hB.now.1.cell 2
                        have v0_3 : yw.cell? ⟨kx + 1, 3, none⟩ = some (.slice yna 0 ync) := hB.now.1.cell 3
                        have v1_0 : yw.cell? ⟨kx, 0, none⟩ = some (.slice sa sn sc) := hB.now.2.1.cell 0
                        have v1_1 : yw.cell? ⟨kx, 1, none⟩ = some (.bool false) := hB.now.2.1.cell 1
                        have v1_2 : yw.cell? ⟨kx, 2, none⟩ = some (.slice xta 0 xtc) := hB.now.2.1.cell 2
                        have v1_3 : yw.cell? ⟨kx, 3, none⟩ = some (.slice xna k xnc) := hB.now.2.1.cell 3
                        have v2_0 : yw.cell? ⟨w3.heap.size, 0, none⟩ = some (.bool true) := hB.now.2.2.1.cell 0
                        have v2_1 : yw.cell? ⟨w3.heap.size, 1, none⟩ = some (.int .i64 ((sn : Int) - 1)) := hB.now.2.2.1.cell 1
                        have v2_2 : yw.cell? ⟨w3.heap.size, 2, none⟩ = some (.int .i64 (dm S sn 0)) := hB.now.2.2.1.cell 2
                        have v2_3 : yw.cell? ⟨w3.heap.size, 3, none⟩ = some (.int .i64 (dm S sn 1)) := hB.now.2.2.1.cell 3
                        have v2_4 : yw.cell? ⟨w3.heap.size, 4, none⟩ = some (.int .i64 (dm S sn 2)) := hB.now.2.2.1.cell 4
                        have v2_5 : yw.cell? ⟨w3.heap.size, 5, none⟩ = some (.int .i64 (dm S sn 3)) := hB.now.2.2.1.cell 5
                        have v2_6 : yw.cell? ⟨w3.heap.size, 6, none⟩ = some (.int .i64 (dm S sn 4)) := hB.now.2.2.1.cell 6
                        have v2_7 : yw.cell? ⟨w3.heap.size, 7, none⟩ = some (.int .i64 (dm S sn 5)) := hB.now.2.2.1.cell 7
                        have v2_8 : yw.cell? ⟨w3.heap.size, 8, none⟩ = some (.int .i64 (dm S sn 6)) := hB.now.2.2.1.cell 8
                        have v2_9 : yw.cell? ⟨w3.heap.size, 9, none⟩ = some (.int .i64 (dm S sn 7)) := hB.now.2.2.1.cell 9
                        have v2_10 : yw.cell? ⟨w3.heap.size, 10, none⟩ = some (.slice none 0 0) := hB.now.2.2.1.cell 10
                        have v2_11 : yw.cell? ⟨w3.heap.size, 11, none⟩ = some (.slice na2 tn nc2) := hB.now.2.2.1.cell 11
                        have v3_0 : yw.cell? ⟨w2.heap.size, 0, none⟩ = some (.bool false) := hB.now.2.2.2.1.cell 0
                        have v3_1 : yw.cell? ⟨w2.heap.size, 1, none⟩ = some (.int .i64 ((sn : Int) - 1)) := hB.now.2.2.2.1.cell 1
                        have v3_2 : yw.cell? ⟨w2.heap.size, 2, none⟩ = some (.int .i64 (dm S sn 0)) := hB.now.2.2.2.1.cell 2
                        have v3_3 : yw.cell? ⟨w2.heap.size, 3, none⟩ = some (.int .i64 (dm S sn 1)) := hB.now.2.2.2.1.cell 3
                        have v3_4 : yw.cell? ⟨w2.heap.size, 4, none⟩ = some (.int .i64 (dm S sn 2)) := hB.now.2.2.2.1.cell 4
                        have v3_5 : yw.cell? ⟨w2.heap.size, 5, none⟩ = some (.int .i64 (dm S sn 3)) := hB.now.2.2.2.1.cell 5
                        have v3_6 : yw.cell? ⟨w2.heap.size, 6, none⟩ = some (.int .i64 (dm S sn 4)) := hB.now.2.2.2.1.cell 6
                        have v3_7 : yw.cell? ⟨w2.heap.size, 7, none⟩ = some (.int .i64 (dm S sn 5)) := hB.now.2.2.2.1.cell 7
                        have v3_8 : yw.cell? ⟨w2.heap.size, 8, none⟩ = some (.int .i64 (dm S sn 6)) := hB.now.2.2.2.1.cell 8
                        have v3_9 : yw.cell? ⟨w2.heap.size, 9, none⟩ = some (.int .i64 (dm S sn 7)) := hB.now.2.2.2.1.cell 9
                        have v3_10 : yw.cell? ⟨w2.heap.size, 10, none⟩ = some (.slice na1 k nc1) := hB.now.2.2.2.1.cell 10
                        have v3_11 : yw.cell? ⟨w2.heap.size, 11, none⟩ = some (.slice none 0 0) := hB.now.2.2.2.1.cell 11
                        go_simp
                        exact hK.out _ _ ⟨hB, rfl, Nat.le_refl _, .inl (Below.refl _ _), fun h => absurd h (by decide)⟩
                      refine Stps2.cons (o := _) ?_ ?_
                      · intro ac yw hsz hold hB hp K hK
                        have t120 : ac.tmps[120]? = some (.bool true) := (List.cons.inj (hp 10 (by decide))).1
                        rw [if_pos (wanted_pos rfl rfl t120)]
                        obtain ⟨x12_12, e12, g12_0⟩ := hp 12 (by decide)
                        have t122 : ac.tmps[122]? = some (.agg x12_12) := (List.cons.inj e12).1
                        have e13 := hp 13 (by decide)
                        have t123 : ac.tmps[123]? = some (.agg #[.slice sa sn sc, .bool true, .slice yta tn ytc, .slice yna 0 ync]) := (List.cons.inj e13).1
                        clear hold hp hsz e12 e13
                        go_simp
                        (go_at_call 11; (with_reducible refine (same_true g12_0 (hB.now.2.2.2.2.2.2.2.1)).mono ?_); rintro e wz ⟨rfl, hbz⟩)
                        exact hK.out _ _ ⟨hB.go hbz, rfl, hbz.size, .inl hbz, fun h => absurd h (by decide)⟩
                      refine Stps2.cons (o := _) ?_ ?_
                      · intro ac yw hsz hold hB hp K hK
                        have t120 : ac.tmps[120]? = some (.bool true) := (List.cons.inj (hp 10 (by decide))).1
                        rw [if_pos (wanted_pos rfl rfl t120)]
                        have e14 := hp 14 (by decide)
                        have t124 : ac.tmps[124]? = some (.bool true) := (List.cons.inj e14).1
                        clear hold hp hsz e14
                        go_simp
                        exact hK.out _ _ ⟨hB, rfl, Nat.le_refl _, .inl (Below.refl _ _), fun h => absurd h (by decide)⟩
                      refine Stps2.cons (o := _) ?_ ?_
                      · intro ac yw hsz hold hB hp K hK
                        have t118 : ac.tmps[118]? = some (.bool false) := (List.cons.inj (hp 8 (by decide))).1
                        rw [if_pos (wanted_pos rfl rfl t118)]
                        have e10 := hp 10 (by decide)
                        have t120 : ac.tmps[120]? = some (.bool true) := (List.cons.inj e10).1
                        have e15 := hp 15 (by decide)
                        have t125 : ac.tmps[125]? = some (.bool false) := (List.cons.inj e15).1
                        clear hold hp hsz e10 e15
                        go_simp
                        exact hK.out _ _ ⟨hB, rfl, Nat.le_refl _, .inl (Below.refl _ _), fun h => absurd h (by decide)⟩
                      refine Stps2.cons (o := _) ?_ ?_
                      · intro ac yw hsz hold hB hp K hK
                        have e8 := hp 8 (by decide)
                        have t118 : ac.tmps[118]? = some (.bool false) := (List.cons.inj e8).1
                        have e16 := hp 16 (by decide)
                        have t126 : ac.tmps[126]? = some (.bool false) := (List.cons.inj e16).1
                        clear hold hp hsz e8 e16
                        go_simp
                        exact hK.out _ _ ⟨hB, rfl, Nat.le_refl _, .inl (Below.refl _ _), fun h => absurd h (by decide)⟩
                      refine Stps2.cons (o := _) ?_ ?_
                      · intro ac yw hsz hold hB hp K hK
                        have e17 := hp 17 (by decide)
                        have t127 : ac.tmps[127]? = some (.bool false) := (List.cons.inj e17).1
                        clear hold hp hsz e17
                        go_simp
                        exact hK.out _ _ ⟨hB, rfl, Nat.le_refl _, .inl (Below.refl _ _), fun h => absurd h (by decide)⟩
                      refine Stps2.cons (o := _) ?_ ?_
                      · intro ac yw hsz hold hB hp K hK
                        have t128 : ac.tmps[128]? = some (.bool false) := (List.cons.inj (hp 18 (by decide))).1
                        rw [if_pos (wanted_pos rfl rfl t128)]
                        have t14 : ac.tmps[14]? = some (.bool true) := hold 14 (by kernel_rfl)
                        clear hold hp hsz
                        go_simp
                        exact hK.out _ _ ⟨hB, rfl, Nat.le_refl _, .inl (Below.refl _ _), fun h => absurd h (by decide)⟩
                      refine Stps2.cons (o := _) ?_ ?_
                      · intro ac yw hsz hold hB hp K hK
                        have t128 : ac.tmps[128]? = some (.bool false) := (List.cons.inj (hp 18 (by decide))).1
                        rw [if_pos (wanted_pos rfl rfl t128)]
                        have e19 := hp 19 (by decide)
                        have t129 : ac.tmps[129]? = some (.bool true) := (List.cons.inj e19).1
                        clear hold hp hsz e19
                        go_simp
                        exact hK.out _ _ ⟨hB, rfl, Nat.le_refl _, .inl (Below.refl _ _), fun h => absurd h (by decide)⟩
                      refine Stps2.cons (o := _) ?_ ?_
                      · intro ac yw hsz hold hB hp K hK
                        have t128 : ac.tmps[128]? = some (.bool false) := (List.cons.inj (hp 18 (by decide))).1
                        rw [if_pos (wanted_pos rfl rfl t128)]
                        have e20 := hp 20 (by decide)
                        have t130 : ac.tmps[130]? = some (.bool false) := (List.cons.inj e20).1
                        clear hold hp hsz e20
                        go_simp
                        exact hK.out _ _ ⟨hB, rfl, Nat.le_refl _, .inl (Below.refl _ _), fun h => absurd h (by decide)⟩
                      refine Stps2.cons (o := _) ?_ ?_
                      · intro ac yw hsz hold hB hp K hK
                        have t131 : ac.tmps[131]? = some (.bool false) := (List.cons.inj (hp 21 (by decide))).1
                        rw [if_neg (by rw [wanted_neg rfl rfl t131 (fun e => by cases e)]; decide)]
                        exact hK.out _ _ ⟨hB, trivial, Nat.le_refl _, .inl (Below.refl _ _), fun h => absurd h (by decide)⟩
                      refine Stps2.cons (o := _) ?_ ?_
                      · intro ac yw hsz hold hB hp K hK
                        have t131 : ac.tmps[131]? = some (.bool false) := (List.cons.inj (hp 21 (by decide))).1
                        rw [if_neg (by rw [wanted_neg rfl rfl t131 (fun e => by cases e)]; decide)]
                        exact hK.out _ _ ⟨hB, trivial, Nat.le_refl _, .inl (Below.refl _ _), fun h => absurd h (by decide)⟩
                      refine Stps2.cons (o := _) ?_ ?_
                      · intro ac yw hsz hold hB hp K hK
                        have t131 : ac.tmps[131]? = some (.bool false) := (List.cons.inj (hp 21 (by decide))).1
                        rw [if_neg (by rw [wanted_neg rfl rfl t131 (fun e => by cases e)]; decide)]
                        exact hK.out _ _ ⟨hB, trivial, Nat.le_refl _, .inl (Below.refl _ _), fun h => absurd h (by decide)⟩
                      refine Stps2.cons (o := _) ?_ ?_
                      · intro ac yw hsz hold hB hp K hK
                        have t128 : ac.tmps[128]? = some (.bool false) := (List.cons.inj (hp 18 (by decide))).1
                        rw [if_pos (wanted_pos rfl rfl t128)]
                        have e21 := hp 21 (by decide)
                        have t131 : ac.tmps[131]? = some (.bool false) := (List.cons.inj e21).1
                        clear hold hp hsz e21
                        go_simp
                        exact hK.out _ _ ⟨hB, rfl, Nat.le_refl _, .inl (Below.refl _ _), fun h => absurd h (by decide)⟩
                      refine Stps2.cons (o := _) ?_ ?_
                      · intro ac yw hsz hold hB hp K hK
                        have e18 := hp 18 (by decide)
                        have t128 : ac.tmps[128]? = some (.bool false) := (List.cons.inj e18).1
                        have e25 := hp 25 (by decide)
                        have t135 : ac.tmps[135]? = some (.bool false) := (List.cons.inj e25).1
                        clear hold hp hsz e18 e25
                        go_simp
                        exact hK.out _ _ ⟨hB, rfl, Nat.le_refl _, .inl (Below.refl _ _), fun h => absurd h (by decide)⟩
                      refine Stps2.cons (o := _) ?_ ?_
                      · intro ac yw hsz hold hB hp K hK
                        have e26 := hp 26 (by decide)
                        have t136 : ac.tmps[136]? = some (.bool false) := (List.cons.inj e26).1
                        clear hold hp hsz e26
                        go_simp
                        exact hK.out _ _ ⟨hB, rfl, Nat.le_refl _, .inl (Below.refl _ _), fun h => absurd h (by decide)⟩
                      refine Stps2.cons (o := _) ?_ ?_
                      · intro ac yw hsz hold hB hp K hK
                        have t137 : ac.tmps[137]? = some (.bool false) := (List.cons.inj (hp 27 (by decide))).1
                        rw [if_pos (wanted_pos rfl rfl t137)]
                        have t16 : ac.tmps[16]? = some (.bool true) := hold 16 (by kernel_rfl)
                        clear hold hp hsz
                        go_simp
                        exact hK.out _ _ ⟨hB, rfl, Nat.le_refl _, .inl (Below.refl _ _), fun h => absurd h (by decide)⟩
                      refine Stps2.cons (o := _) ?_ ?_
                      · intro ac yw hsz hold hB hp K hK
                        have t137 : ac.tmps[137]? = some (.bool false) := (List.cons.inj (hp 27 (by decide))).1
                        rw [if_pos (wanted_pos rfl rfl t137)]
                        have e28 := hp 28 (by decide)
                        have t138 : ac.tmps[138]? = some (.bool true) := (List.cons.inj e28).1
                        clear hold hp hsz e28
                        go_simp
                        exact hK.out _ _ ⟨hB, rfl, Nat.le_refl _, .inl (Below.refl _ _), fun h => absurd h (by decide)⟩
                      refine Stps2.cons (o := _) ?_ ?_
                      · intro ac yw hsz hold hB hp K hK
                        have t137 : ac.tmps[137]? = some (.bool false) := (List.cons.inj (hp 27 (by decide))).1
                        rw [if_pos (wanted_pos rfl rfl t137)]
                        have e29 := hp 29 (by decide)
                        have t139 : ac.tmps[139]? = some (.bool false) := (List.cons.inj e29).1
                        clear hold hp hsz e29
                        go_simp
                        exact hK.out _ _ ⟨hB, rfl, Nat.le_refl _, .inl (Below.refl _ _), fun h => absurd h (by decide)⟩
                      refine Stps2.cons (o := _) ?_ ?_
                      · intro ac yw hsz hold hB hp K hK
                        have t140 : ac.tmps[140]? = some (.bool false) := (List.cons.inj (hp 30 (by decide))).1
                        rw [if_neg (by rw [wanted_neg rfl rfl t140 (fun e => by cases e)]; decide)]
                        exact hK.out _ _ ⟨hB, trivial, Nat.le_refl _, .inl (Below.refl _ _), fun h => absurd h (by decide)⟩
                      refine Stps2.cons (o := _) ?_ ?_
                      · intro ac yw hsz hold hB hp K hK
                        have t140 : ac.tmps[140]? = some (.bool false) := (List.cons.inj (hp 30 (by decide))).1
                        rw [if_neg (by rw [wanted_neg rfl rfl t140 (fun e => by cases e)]; decide)]
                        exact hK.out _ _ ⟨hB, trivial, Nat.le_refl _, .inl (Below.refl _ _), fun h => absurd h (by decide)⟩
                      refine Stps2.cons (o := _) ?_ ?_
                      · intro ac yw hsz hold hB hp K hK
                        have t140 : ac.tmps[140]? = some (.bool false) := (List.cons.inj (hp 30 (by decide))).1
                        rw [if_neg (by rw [wanted_neg rfl rfl t140 (fun e => by cases e)]; decide)]
                        exact hK.out _ _ ⟨hB, trivial, Nat.le_refl _, .inl (Below.refl _ _), fun h => absurd h (by decide)⟩
                      refine Stps2.cons (o := _) ?_ ?_
                      · intro ac yw hsz hold hB hp K hK
                        have t137 : ac.tmps[137]? = some (.bool false) := (List.cons.inj (hp 27 (by decide))).1
                        rw [if_pos (wanted_pos rfl rfl t137)]
                        have e30 := hp 30 (by decide)
                        have t140 : ac.tmps[140]? = some (.bool false) := (List.cons.inj e30).1
                        clear hold hp hsz e30
                        go_simp
                        exact hK.out _ _ ⟨hB, rfl, Nat.le_refl _, .inl (Below.refl _ _), fun h => absurd h (by decide)⟩
                      refine Stps2.cons (o := _) ?_ ?_
                      · intro ac yw hsz hold hB hp K hK
                        have e27 := hp 27 (by decide)
                        have t137 : ac.tmps[137]? = some (.bool false) := (List.cons.inj e27).1
                        have e34 := hp 34 (by decide)
                        have t144 : ac.tmps[144]? = some (.bool false) := (List.cons.inj e34).1
                        clear hold hp hsz e27 e34
                        go_simp
                        exact hK.out _ _ ⟨hB, rfl, Nat.le_refl _, .inl (Below.refl _ _), fun h => absurd h (by decide)⟩
                      exact Stps2.nil _
                    | false =>
                      obtain ⟨hm, hd, hn⟩ := F1.out.1 rfl
                      subst hm
                      subst hd
                      subst nn1
                      obtain ⟨hch, hn⟩ := F2.out.2 rfl
                      subst hch
                      subst nn2
                      have PA := Lib.hid (fun wz q => plain_any false S sn na1 k nc1 none 0 0 L (fun _ => 1) (fun _ => 0) wz (H8.out (.inl rfl)) q (KRow.nought _ _ _ _ (Nat.zero_le _) _) (by omega) (by omega) (fun _ _ => Nat.one_pos) 2 (by omega) (fun j hj => small63 (HG.out j hj)) (fun _ _ => by decide))
                      unfold arrC at PA
                      clear F1 F2 H8
                      refine wp_region_inv2 ⟨(fun j => ([[110], [111], [112], [113], [114], [115], [116], [117], [118], [119], [120], [], [], [], [], [], [126], [127], [128], [129], [130], [131], [], [], [], [135], [136], [137], [138], [139], [140], [141], [142], [143], [144], [145]] : List (List Nat)).getD j []), (fun j => ([[], [0], [0, 1], [0, 1, 2], [0, 1], [0, 1, 2, 3, 4], [0, 1, 2, 3, 4, 5], [0, 1, 2, 3, 4, 5, 6], [0, 1, 2, 3, 4, 5, 6, 7], [0, 1, 2, 3, 4, 5, 6, 7, 8], [0, 1, 2, 3, 4, 5, 6, 7, 8, 9], [0, 1, 2, 3, 4, 5, 6, 7, 8, 9, 10], [0, 1, 2, 3, 4, 5, 6, 7, 8, 9, 10, 11], [0, 1, 2, 3, 4, 5, 6, 7, 8, 9, 10], [0, 1, 2, 3, 4, 5, 6, 7, 8, 9, 10, 11, 12, 13], [0, 1, 2, 3, 4, 5, 6, 7, 8, 9, 10, 11, 12, 13, 14], [0, 1, 2, 3, 4, 5, 6, 7, 8, 9, 10, 11, 12, 13, 14, 15], [0, 1, 2, 3, 4, 5, 6, 7, 8, 9, 10, 11, 12, 13, 14, 15, 16], [0, 1, 2, 3, 4, 5, 6, 7, 8, 9, 10, 11, 12, 13, 14, 15, 16, 17], [0, 1, 2, 3, 4, 5, 6, 7, 8, 9, 10, 11, 12, 13, 14, 15, 16, 17, 18], [0, 1, 2, 3, 4, 5, 6, 7, 8, 9, 10, 11, 12, 13, 14, 15, 16, 17, 18, 19], [0, 1, 2, 3, 4, 5, 6, 7, 8, 9, 10, 11, 12, 13, 14, 15, 16, 17, 18, 19, 20], [0, 1, 2, 3, 4, 5, 6, 7, 8, 9, 10, 11, 12, 13, 14, 15, 16, 17, 18, 19, 20, 21], [0, 1, 2, 3, 4, 5, 6, 7, 8, 9, 10, 11, 12, 13, 14, 15, 16, 17, 18, 19, 20, 21, 22], [0, 1, 2, 3, 4, 5, 6, 7, 8, 9, 10, 11, 12, 13, 14, 15, 16, 17, 18, 19, 20, 21, 22, 23], [0, 1, 2, 3, 4, 5, 6, 7, 8, 9, 10, 11, 12, 13, 14, 15, 16, 17, 18, 19, 20, 21, 22, 23, 24], [0, 1, 2, 3, 4, 5, 6, 7, 8, 9, 10, 11, 12, 13, 14, 15, 16, 17, 18, 19, 20, 21, 22, 23, 24, 25], [0, 1, 2, 3, 4, 5, 6, 7, 8, 9, 10, 11, 12, 13, 14, 15, 16, 17, 18, 19, 20, 21, 22, 23, 24, 25, 26], [0, 1, 2, 3, 4, 5, 6, 7, 8, 9, 10, 11, 12, 13, 14, 15, 16, 17, 18, 19, 20, 21, 22, 23, 24, 25, 26, 27], [0, 1, 2, 3, 4, 5, 6, 7, 8, 9, 10, 11, 12, 13, 14, 15, 16, 17, 18, 19, 20, 21, 22, 23, 24, 25, 26, 27, 28], [0, 1, 2, 3, 4, 5, 6, 7, 8, 9, 10, 11, 12, 13, 14, 15, 16, 17, 18, 19, 20, 21, 22, 23, 24, 25, 26, 27, 28, 29], [0, 1, 2, 3, 4, 5, 6, 7, 8, 9, 10, 11, 12, 13, 14, 15, 16, 17, 18, 19, 20, 21, 22, 23, 24, 25, 26, 27, 28, 29, 30], [0, 1, 2, 3, 4, 5, 6, 7, 8, 9, 10, 11, 12, 13, 14, 15, 16, 17, 18, 19, 20, 21, 22, 23, 24, 25, 26, 27, 28, 29, 30, 31], [0, 1, 2, 3, 4, 5, 6, 7, 8, 9, 10, 11, 12, 13, 14, 15, 16, 17, 18, 19, 20, 21, 22, 23, 24, 25, 26, 27, 28, 29, 30, 31, 32], [0, 1, 2, 3, 4, 5, 6, 7, 8, 9, 10, 11, 12, 13, 14, 15, 16, 17, 18, 19, 20, 21, 22, 23, 24, 25, 26, 27, 28, 29, 30, 31, 32, 33], [0, 1, 2, 3, 4, 5, 6, 7, 8, 9, 10, 11, 12, 13, 14, 15, 16, 17, 18, 19, 20, 21, 22, 23, 24, 25, 26, 27, 28, 29, 30, 31, 32, 33, 34]] : List (List Nat)).getD j []), []⟩ (fun jj vv yy => match jj with | 0 => vv = [some (.bool true)] | 1 => vv = [some (.bool true)] | 2 => vv = [some (.agg #[.bool false, .int .i64 ((sn : Int) - 1), .int .i64 (dm S sn 0), .int .i64 (dm S sn 1), .int .i64 (dm S sn 2), .int .i64 (dm S sn 3), .int .i64 (dm S sn 4), .int .i64 (dm S sn 5), .int .i64 (dm S sn 6), .int .i64 (dm S sn 7), .slice na1 k nc1, .slice none 0 0])] | 3 => ∃ (x3 : Array Value), vv = [some (.agg x3)] ∧ PlnAt yy x3 S sn false (fun _ => 0) 0 (fun j => rB (L j)) (fun j => rS (L j)) (fun _ => str (dec 1)) k | 4 => vv = [some (.agg #[.slice sa sn sc, .bool false, .slice xta 0 xtc, .slice xna k xnc])] | 5 => vv = [some (.bool true)] | 6 => vv = [some (.bool false)] | 7 => vv = [some (.bool false)] | 8 => vv = [some (.bool false)] | 9 => vv = [some (.bool false)] | 10 => vv = [some (.bool false)] | 11 => True | 12 => True | 13 => True | 14 => True | 15 => True | 16 => vv = [some (.bool false)] | 17 => vv = [some (.bool false)] | 18 => vv = [some (.bool false)] | 19 => vv = [some (.bool true)] | 20 => vv = [some (.bool false)] | 21 => vv = [some (.bool false)] | 22 => True | 23 => True | 24 => True | 25 => vv = [some (.bool false)] | 26 => vv = [some (.bool false)] | 27 => vv = [some (.bool false)] | 28 => vv = [some (.bool false)] | 29 => vv = [some (.bool true)] | 30 => vv = [some (.bool true)] | 31 => vv = [some (.agg #[.bool false, .int .i64 more2, .int .i64 (d2 0), .int .i64 (d2 1), .int .i64 (d2 2), .int .i64 (d2 3), .int .i64 (d2 4), .int .i64 (d2 5), .int .i64 (d2 6), .int .i64 (d2 7), .slice none 0 0, .slice na2 0 nc2])] | 32 => vv = [some (.int .i64 0)] | 33 => vv = [some (.bool false)] | 34 => vv = [some (.bool false)] | 35 => vv = [some (.bool false)] | _ => True) (Bag w (fun y => Row y (kx + 1) 44 #[.slice sa sn sc, .bool true, .slice yta tn ytc, .slice yna 0 ync] ∧ Row y kx 44 #[.slice sa sn sc, .bool false, .slice xta 0 xtc, .slice xna k xnc] ∧ Row y w3.heap.size 36 #[.bool false, .int .i64 more2, .int .i64 (d2 0), .int .i64 (d2 1), .int .i64 (d2 2), .int .i64 (d2 3), .int .i64 (d2 4), .int .i64 (d2 5), .int .i64 (d2 6), .int .i64 (d2 7), .slice none 0 0, .slice na2 0 nc2] ∧ Row y w2.heap.size 36 #[.bool false, .int .i64 ((sn : Int) - 1), .int .i64 (dm S sn 0), .int .i64 (dm S sn 1), .int .i64 (dm S sn 2), .int .i64 (dm S sn 3), .int .i64 (dm S sn 4), .int .i64 (dm S sn 5), .int .i64 (dm S sn 6), .int .i64 (dm S sn 7), .slice na1 k nc1, .slice none 0 0] ∧ KRow y .i32 na2 0 nc2 T ∧ RRow y na1 k nc1 L (fun _ => 1) ∧ PlnAt y #[.slice sa sn sc, .bool false, .slice xta 0 xtc, .slice xna k xnc] S sn false (fun _ => 0) 0 (fun j => rB (L j)) (fun j => rS (L j)) (fun _ => str (dec 1)) k ∧ PlnAt y #[.slice sa sn sc, .bool true, .slice yta tn ytc, .slice yna 0 ync] S sn true T tn (fun _ => rB 0) (fun _ => rS 0) (fun _ => str (dec 1)) 0 ∧ True)) (by kernel_rfl) (by kernel_rfl) (by kernel_rfl) B15.out.drew ?_ ?_ ?_
                      · intro jj vv yw yw2 hb h
                        match jj, h with
                        | 0, h => exact h
                        | 1, h => exact h
                        | 2, h => exact h
                        | 3, ⟨x3, e3, g3_0⟩ => exact Exists.intro x3 (And.intro e3 (g3_0.below hb))
                        | 4, h => exact h
                        | 5, h => exact h
                        | 6, h => exact h
                        | 7, h => exact h
                        | 8, h => exact h
                        | 9, h => exact h
                        | 10, h => exact h
                        | 11, h => exact h
                        | 12, h => exact h
                        | 13, h => exact h
                        | 14, h => exact h
                        | 15, h => exact h
                        | 16, h => exact h
                        | 17, h => exact h
                        | 18, h => exact h
                        | 19, h => exact h
                        | 20, h => exact h
                        | 21, h => exact h
                        | 22, h => exact h
                        | 23, h => exact h
                        | 24, h => exact h
                        | 25, h => exact h
                        | 26, h => exact h
                        | 27, h => exact h
                        | 28, h => exact h
                        | 29, h => exact h
                        | 30, h => exact h
                        | 31, h => exact h
                        | 32, h => exact h
                        | 33, h => exact h
                        | 34, h => exact h
                        | 35, h => exact h
                        | _ + 36, h => exact h
                      · intro ac yw hsz hdf hold hB hp
                        exact ⟨hsz, hdf, hold 3 (by kernel_rfl), hold 4 (by kernel_rfl), (List.cons.inj (hp 35 (by decide))).1, hB.below⟩
                      refine Stps2.cons (o := _) ?_ ?_
                      · intro ac yw hsz hold hB hp K hK
                        have t14 : ac.tmps[14]? = some (.bool true) := hold 14 (by kernel_rfl)
                        clear hold hp hsz
                        go_simp
                        exact hK.out _ _ ⟨hB, rfl, Nat.le_refl _, .inl (Below.refl _ _), fun h => absurd h (by decide)⟩
                      refine Stps2.cons (o := _) ?_ ?_
                      · intro ac yw hsz hold hB hp K hK
                        have e0 := hp 0 (by decide)
                        have t110 : ac.tmps[110]? = some (.bool true) := (List.cons.inj e0).1
                        clear hold hp hsz e0
                        go_simp
                        exact hK.out _ _ ⟨hB, rfl, Nat.le_refl _, .inl (Below.refl _ _), fun h => absurd h (by decide)⟩
                      refine Stps2.cons (o := _) ?_ ?_
                      · intro ac yw hsz hold hB hp K hK
                        have t111 : ac.tmps[111]? = some (.bool true) := (List.cons.inj (hp 1 (by decide))).1
                        rw [if_pos (wanted_pos rfl rfl t111)]
                        have t13 : ac.tmps[13]? = some (.pointer (some ⟨w2.heap.size, 0, none⟩)) := hold 13 (by kernel_rfl)
                        clear hold hp hsz
                        have v0_0 : yw.cell? ⟨kx + 1, 0, none⟩ = some (.slice sa sn sc) := hB.now.1.cell 0
                        have v0_1 : yw.cell? ⟨kx + 1, 1, none⟩ = some (.bool true) := hB.now.1.cell 1
                        have v0_2 : yw.cell? ⟨kx + 1, 2, none⟩ = some (.slice yta tn ytc) := hB.now.1.cell 2
                        have v0_3 : yw.cell? ⟨kx + 1, 3, none⟩ = some (.slice yna 0 ync) := hB.now.1.cell 3
                        have v1_0 : yw.cell? ⟨kx, 0, none⟩ = some (.slice sa sn sc) := hB.now.2.1.cell 0
                        have v1_1 : yw.cell? ⟨kx, 1, none⟩ = some (.bool false) := hB.now.2.1.cell 1
                        have v1_2 : yw.cell? ⟨kx, 2, none⟩ = some (.slice xta 0 xtc) := hB.now.2.1.cell 2
                        have v1_3 : yw.cell? ⟨kx, 3, none⟩ = some (.slice xna k xnc) := hB.now.2.1.cell 3
                        have v2_0 : yw.cell? ⟨w3.heap.size, 0, none⟩ = some (.bool false) := hB.now.2.2.1.cell 0
                        have v2_1 : yw.cell? ⟨w3.heap.size, 1, none⟩ = some (.int .i64 more2) := hB.now.2.2.1.cell 1
                        have v2_2 : yw.cell? ⟨w3.heap.size, 2, none⟩ = some (.int .i64 (d2 0)) := hB.now.2.2.1.cell 2
                        have v2_3 : yw.cell? ⟨w3.heap.size, 3, none⟩ = some (.int .i64 (d2 1)) := hB.now.2.2.1.cell 3
                        have v2_4 : yw.cell? ⟨w3.heap.size, 4, none⟩ = some (.int .i64 (d2 2)) := hB.now.2.2.1.cell 4
                        have v2_5 : yw.cell? ⟨w3.heap.size, 5, none⟩ = some (.int .i64 (d2 3)) := hB.now.2.2.1.cell 5
                        have v2_6 : yw.cell? ⟨w3.heap.size, 6, none⟩ = some (.int .i64 (d2 4)) := hB.now.2.2.1.cell 6
                        have v2_7 : yw.cell? ⟨w3.heap.size, 7, none⟩ = some (.int .i64 (d2 5)) := hB.now.2.2.1.cell 7
                        have v2_8 : yw.cell? ⟨w3.heap.size, 8, none⟩ = some (.int .i64 (d2 6)) := hB.now.2.2.1.cell 8
                        have v2_9 : yw.cell? ⟨w3.heap.size, 9, none⟩ = some (.int .i64 (d2 7)) := hB.now.2.2.1.cell 9
                        have v2_10 : yw.cell? ⟨w3.heap.size, 10, none⟩ = some (.slice none 0 0) := hB.now.2.2.1.cell 10
                        have v2_11 : yw.cell? ⟨w3.heap.size, 11, none⟩ = some (.slice na2 0 nc2) := hB.now.2.2.1.cell 11
                        have v3_0 : yw.cell? ⟨w2.heap.size, 0, none⟩ = some (.bool false) := hB.now.2.2.2.1.cell 0
                        have v3_1 : yw.cell? ⟨w2.heap.size, 1, none⟩ = some (.int .i64 ((sn : Int) - 1)) := hB.now.2.2.2.1.cell 1
                        have v3_2 : yw.cell? ⟨w2.heap.size, 2, none⟩ = some (.int .i64 (dm S sn 0)) := hB.now.2.2.2.1.cell 2
                        have v3_3 : yw.cell? ⟨w2.heap.size, 3, none⟩ = some (.int .i64 (dm S sn 1)) := hB.now.2.2.2.1.cell 3
                        have v3_4 : yw.cell? ⟨w2.heap.size, 4, none⟩ = some (.int .i64 (dm S sn 2)) := hB.now.2.2.2.1.cell 4
                        have v3_5 : yw.cell? ⟨w2.heap.size, 5, none⟩ = some (.int .i64 (dm S sn 3)) := hB.now.2.2.2.1.cell 5
                        have v3_6 : yw.cell? ⟨w2.heap.size, 6, none⟩ = some (.int .i64 (dm S sn 4)) := hB.now.2.2.2.1.cell 6
                        have v3_7 : yw.cell? ⟨w2.heap.size, 7, none⟩ = some (.int .i64 (dm S sn 5)) := hB.now.2.2.2.1.cell 7
                        have v3_8 : yw.cell? ⟨w2.heap.size, 8, none⟩ = some (.int .i64 (dm S sn 6)) := hB.now.2.2.2.1.cell 8
                        have v3_9 : yw.cell? ⟨w2.heap.size, 9, none⟩ = some (.int .i64 (dm S sn 7)) := hB.now.2.2.2.1.cell 9
                        have v3_10 : yw.cell? ⟨w2.heap.size, 10, none⟩ = some (.slice na1 k nc1) := hB.now.2.2.2.1.cell 10
                        have v3_11 : yw.cell? ⟨w2.heap.size, 11, none⟩ = some (.slice none 0 0) := hB.now.2.2.2.1.cell 11
                        go_simp
                        exact hK.out _ _ ⟨hB, rfl, Nat.le_refl _, .inl (Below.refl _ _), fun h => absurd h (by decide)⟩
                      refine Stps2.cons (o := _) ?_ ?_
                      · intro ac yw hsz hold hB hp K hK
                        have t111 : ac.tmps[111]? = some (.bool true) := (List.cons.inj (hp 1 (by decide))).1
                        rw [if_pos (wanted_pos rfl rfl t111)]
                        have e2 := hp 2 (by decide)
                        have t112 : ac.tmps[112]? = some (.agg #[.bool false, .int .i64 ((sn : Int) - 1), .int .i64 (dm S sn 0), .int .i64 (dm S sn 1), .int .i64 (dm S sn 2), .int .i64 (dm S sn 3), .int .i64 (dm S sn 4), .int .i64 (dm S sn 5), .int .i64 (dm S sn 6), .int .i64 (dm S sn 7), .slice na1 k nc1, .slice none 0 0]) := (List.cons.inj e2).1
                        clear hold hp hsz e2
                        go_simp
                        (go_at_call 13; (with_reducible refine (PA.out _ (hB.now.2.2.2.2.2.1)).mono ?_); rintro e wz ⟨x3, rfl, h3_0, hbz⟩)
                        exact hK.out _ _ ⟨hB.go hbz, Exists.intro x3 (And.intro rfl h3_0), hbz.size, .inl hbz, fun h => absurd h (by decide)⟩
                      refine Stps2.cons (o := _) ?_ ?_
                      · intro ac yw hsz hold hB hp K hK
                        have t111 : ac.tmps[111]? = some (.bool true) := (List.cons.inj (hp 1 (by decide))).1
                        rw [if_pos (wanted_pos rfl rfl t111)]
                        have t19 : ac.tmps[19]? = some (.pointer (some ⟨kx, 0, none⟩)) := hold 19 (by kernel_rfl)
                        clear hold hp hsz
                        have v0_0 : yw.cell? ⟨kx + 1, 0, none⟩ = some (.slice sa sn sc) := hB.now.1.cell 0
                        have v0_1 : yw.cell? ⟨kx + 1, 1, none⟩ = some (.bool true) := hB.now.1.cell 1
                        have v0_2 : yw.cell? ⟨kx + 1, 2, none⟩ = some (.slice yta tn ytc) := hB.now.1.cell 2
                        have v0_3 : yw.cell? ⟨kx + 1, 3, none⟩ = some (.slice yna 0 ync) := hB.now.1.cell 3
                        have v1_0 : yw.cell? ⟨kx, 0, none⟩ = some (.slice sa sn sc) := hB.now.2.1.cell 0
                        have v1_1 : yw.cell? ⟨kx, 1, none⟩ = some (.bool false) := hB.now.2.1.cell 1
                        have v1_2 : yw.cell? ⟨kx, 2, none⟩ = some (.slice xta 0 xtc) := hB.now.2.1.cell 2
                        have v1_3 : yw.cell? ⟨kx, 3, none⟩ = some (.slice xna k xnc) := hB.now.2.1.cell 3
                        have v2_0 : yw.cell? ⟨w3.heap.size, 0, none⟩ = some (.bool false) := hB.now.2.2.1.cell 0
                        have v2_1 : yw.cell? ⟨w3.heap.size, 1, none⟩ = some (.int .i64 more2) := hB.now.2.2.1.cell 1
                        have v2_2 : yw.cell? ⟨w3.heap.size, 2, none⟩ = some (.int .i64 (d2 0)) := hB.now.2.2.1.cell 2
                        have v2_3 : yw.cell? ⟨w3.heap.size, 3, none⟩ = some (.int .i64 (d2 1)) := hB.now.2.2.1.cell 3
                        have v2_4 : yw.cell? ⟨w3.heap.size, 4, none⟩ = some (.int .i64 (d2 2)) := hB.now.2.2.1.cell 4
                        have v2_5 : yw.cell? ⟨w3.heap.size, 5, none⟩ = some (.int .i64 (d2 3)) := hB.now.2.2.1.cell 5
                        have v2_6 : yw.cell? ⟨w3.heap.size, 6, none⟩ = some (.int .i64 (d2 4)) := hB.now.2.2.1.cell 6
                        have v2_7 : yw.cell? ⟨w3.heap.size, 7, none⟩ = some (.int .i64 (d2 5)) := hB.now.2.2.1.cell 7
                        have v2_8 : yw.cell? ⟨w3.heap.size, 8, none⟩ = some (.int .i64 (d2 6)) := hB.now.2.2.1.cell 8
                        have v2_9 : yw.cell? ⟨w3.heap.size, 9, none⟩ = some (.int .i64 (d2 7)) := hB.now.2.2.1.cell 9
                        have v2_10 : yw.cell? ⟨w3.heap.size, 10, none⟩ = some (.slice none 0 0) := hB.now.2.2.1.cell 10
                        have v2_11 : yw.cell? ⟨w3.heap.size, 11, none⟩ = some (.slice na2 0 nc2) := hB.now.2.2.1.cell 11
                        have v3_0 : yw.cell? ⟨w2.heap.size, 0, none⟩ = some (.bool false) := hB.now.2.2.2.1.cell 0
                        have v3_1 : yw.cell? ⟨w2.heap.size, 1, none⟩ = some (.int .i64 ((sn : Int) - 1)) := hB.now.2.2.2.1.cell 1
                        have v3_2 : yw.cell? ⟨w2.heap.size, 2, none⟩ = some (.int .i64 (dm S sn 0)) := hB.now.2.2.2.1.cell 2
                        have v3_3 : yw.cell? ⟨w2.heap.size, 3, none⟩ = some (.int .i64 (dm S sn 1)) := hB.now.2.2.2.1.cell 3
                        have v3_4 : yw.cell? ⟨w2.heap.size, 4, none⟩ = some (.int .i64 (dm S sn 2)) := hB.now.2.2.2.1.cell 4
                        have v3_5 : yw.cell? ⟨w2.heap.size, 5, none⟩ = some (.int .i64 (dm S sn 3)) := hB.now.2.2.2.1.cell 5
                        have v3_6 : yw.cell? ⟨w2.heap.size, 6, none⟩ = some (.int .i64 (dm S sn 4)) := hB.now.2.2.2.1.cell 6
                        have v3_7 : yw.cell? ⟨w2.heap.size, 7, none⟩ = some (.int .i64 (dm S sn 5)) := hB.now.2.2.2.1.cell 7
                        have v3_8 : yw.cell? ⟨w2.heap.size, 8, none⟩ = some (.int .i64 (dm S sn 6)) := hB.now.2.2.2.1.cell 8
                        have v3_9 : yw.cell? ⟨w2.heap.size, 9, none⟩ = some (.int .i64 (dm S sn 7)) := hB.now.2.2.2.1.cell 9
                        have v3_10 : yw.cell? ⟨w2.heap.size, 10, none⟩ = some (.slice na1 k nc1) := hB.now.2.2.2.1.cell 10
                        have v3_11 : yw.cell? ⟨w2.heap.size, 11, none⟩ = some (.slice none 0 0) := hB.now.2.2.2.1.cell 11
                        go_simp
                        exact hK.out _ _ ⟨hB, rfl, Nat.le_refl _, .inl (Below.refl _ _), fun h => absurd h (by decide)⟩
                      refine Stps2.cons (o := _) ?_ ?_
                      · intro ac yw hsz hold hB hp K hK
                        have t111 : ac.tmps[111]? = some (.bool true) := (List.cons.inj (hp 1 (by decide))).1
                        rw [if_pos (wanted_pos rfl rfl t111)]
                        obtain ⟨x3_3, e3, g3_0⟩ := hp 3 (by decide)
                        have t113 : ac.tmps[113]? = some (.agg x3_3) := (List.cons.inj e3).1
                        have e4 := hp 4 (by decide)
                        have t114 : ac.tmps[114]? = some (.agg #[.slice sa sn sc, .bool false, .slice xta 0 xtc, .slice xna k xnc]) := (List.cons.inj e4).1
                        clear hold hp hsz e3 e4
                        go_simp
                        (go_at_call 11; (with_reducible refine (same_true g3_0 (hB.now.2.2.2.2.2.2.1)).mono ?_); rintro e wz ⟨rfl, hbz⟩)
                        exact hK.out _ _ ⟨hB.go hbz, rfl, hbz.size, .inl hbz, fun h => absurd h (by decide)⟩
                      refine Stps2.cons (o := _) ?_ ?_
                      · intro ac yw hsz hold hB hp K hK
                        have t111 : ac.tmps[111]? = some (.bool true) := (List.cons.inj (hp 1 (by decide))).1
                        rw [if_pos (wanted_pos rfl rfl t111)]
                        have e5 := hp 5 (by decide)
                        have t115 : ac.tmps[115]? = some (.bool true) := (List.cons.inj e5).1
                        clear hold hp hsz e5
                        go_simp
                        exact hK.out _ _ ⟨hB, rfl, Nat.le_refl _, .inl (Below.refl _ _), fun h => absurd h (by decide)⟩
                      refine Stps2.cons (o := _) ?_ ?_
                      · intro ac yw hsz hold hB hp K hK
                        have e1 := hp 1 (by decide)
                        have t111 : ac.tmps[111]? = some (.bool true) := (List.cons.inj e1).1
                        have e6 := hp 6 (by decide)
                        have t116 : ac.tmps[116]? = some (.bool false) := (List.cons.inj e6).1
                        clear hold hp hsz e1 e6
                        go_simp
                        exact hK.out _ _ ⟨hB, rfl, Nat.le_refl _, .inl (Below.refl _ _), fun h => absurd h (by decide)⟩
                      refine Stps2.cons (o := _) ?_ ?_
                      · intro ac yw hsz hold hB hp K hK
                        have e7 := hp 7 (by decide)
                        have t117 : ac.tmps[117]? = some (.bool false) := (List.cons.inj e7).1
                        clear hold hp hsz e7
                        go_simp
                        exact hK.out _ _ ⟨hB, rfl, Nat.le_refl _, .inl (Below.refl _ _), fun h => absurd h (by decide)⟩
                      refine Stps2.cons (o := _) ?_ ?_
                      · intro ac yw hsz hold hB hp K hK
                        have t118 : ac.tmps[118]? = some (.bool false) := (List.cons.inj (hp 8 (by decide))).1
                        rw [if_pos (wanted_pos rfl rfl t118)]
                        have t16 : ac.tmps[16]? = some (.bool false) := hold 16 (by kernel_rfl)
                        clear hold hp hsz
                        go_simp
                        exact hK.out _ _ ⟨hB, rfl, Nat.le_refl _, .inl (Below.refl _ _), fun h => absurd h (by decide)⟩
                      refine Stps2.cons (o := _) ?_ ?_
                      · intro ac yw hsz hold hB hp K hK
                        have t118 : ac.tmps[118]? = some (.bool false) := (List.cons.inj (hp 8 (by decide))).1
                        rw [if_pos (wanted_pos rfl rfl t118)]
                        have e9 := hp 9 (by decide)
                        have t119 : ac.tmps[119]? = some (.bool false) := (List.cons.inj e9).1
                        clear hold hp hsz e9
                        go_simp
                        exact hK.out _ _ ⟨hB, rfl, Nat.le_refl _, .inl (Below.refl _ _), fun h => absurd h (by decide)⟩
                      refine Stps2.cons (o := _) ?_ ?_
                      · intro ac yw hsz hold hB hp K hK
                        have t120 : ac.tmps[120]? = some (.bool false) := (List.cons.inj (hp 10 (by decide))).1
                        rw [if_neg (by rw [wanted_neg rfl rfl t120 (fun e => by cases e)]; decide)]
                        exact hK.out _ _ ⟨hB, trivial, Nat.le_refl _, .inl (Below.refl _ _), fun h => absurd h (by decide)⟩
                      refine Stps2.cons (o := _) ?_ ?_
                      · intro ac yw hsz hold hB hp K hK
                        have t120 : ac.tmps[120]? = some (.bool false) := (List.cons.inj (hp 10 (by decide))).1
                        rw [if_neg (by rw [wanted_neg rfl rfl t120 (fun e => by cases e)]; decide)]
                        exact hK.out _ _ ⟨hB, trivial, Nat.le_refl _, .inl (Below.refl _ _), fun h => absurd h (by decide)⟩
                      refine Stps2.cons (o := _) ?_ ?_
                      · intro ac yw hsz hold hB hp K hK
                        have t120 : ac.tmps[120]? = some (.bool false) := (List.cons.inj (hp 10 (by decide))).1
                        rw [if_neg (by rw [wanted_neg rfl rfl t120 (fun e => by cases e)]; decide)]
                        exact hK.out _ _ ⟨hB, trivial, Nat.le_refl _, .inl (Below.refl _ _), fun h => absurd h (by decide)⟩
                      refine Stps2.cons (o := _) ?_ ?_
                      · intro ac yw hsz hold hB hp K hK
                        have t120 : ac.tmps[120]? = some (.bool false) := (List.cons.inj (hp 10 (by decide))).1
                        rw [if_neg (by rw [wanted_neg rfl rfl t120 (fun e => by cases e)]; decide)]
                        exact hK.out _ _ ⟨hB, trivial, Nat.le_refl _, .inl (Below.refl _ _), fun h => absurd h (by decide)⟩
                      refine Stps2.cons (o := _) ?_ ?_
                      · intro ac yw hsz hold hB hp K hK
                        have t120 : ac.tmps[120]? = some (.bool false) := (List.cons.inj (hp 10 (by decide))).1
                        rw [if_neg (by rw [wanted_neg rfl rfl t120 (fun e => by cases e)]; decide)]
                        exact hK.out _ _ ⟨hB, trivial, Nat.le_refl _, .inl (Below.refl _ _), fun h => absurd h (by decide)⟩
                      refine Stps2.cons (o := _) ?_ ?_
                      · intro ac yw hsz hold hB hp K hK
                        have t118 : ac.tmps[118]? = some (.bool false) := (List.cons.inj (hp 8 (by decide))).1
                        rw [if_pos (wanted_pos rfl rfl t118)]
                        have e10 := hp 10 (by decide)
                        have t120 : ac.tmps[120]? = some (.bool false) := (List.cons.inj e10).1
                        clear hold hp hsz e10
                        go_simp
                        exact hK.out _ _ ⟨hB, rfl, Nat.le_refl _, .inl (Below.refl _ _), fun h => absurd h (by decide)⟩
                      refine Stps2.cons (o := _) ?_ ?_
                      · intro ac yw hsz hold hB hp K hK
                        have e8 := hp 8 (by decide)
                        have t118 : ac.tmps[118]? = some (.bool false) := (List.cons.inj e8).1
                        have e16 := hp 16 (by decide)
                        have t126 : ac.tmps[126]? = some (.bool false) := (List.cons.inj e16).1
                        clear hold hp hsz e8 e16
                        go_simp
                        exact hK.out _ _ ⟨hB, rfl, Nat.le_refl _, .inl (Below.refl _ _), fun h => absurd h (by decide)⟩
                      refine Stps2.cons (o := _) ?_ ?_
                      · intro ac yw hsz hold hB hp K hK
                        have e17 := hp 17 (by decide)
                        have t127 : ac.tmps[127]? = some (.bool false) := (List.cons.inj e17).1
                        clear hold hp hsz e17
                        go_simp
                        exact hK.out _ _ ⟨hB, rfl, Nat.le_refl _, .inl (Below.refl _ _), fun h => absurd h (by decide)⟩
                      refine Stps2.cons (o := _) ?_ ?_
                      · intro ac yw hsz hold hB hp K hK
                        have t128 : ac.tmps[128]? = some (.bool false) := (List.cons.inj (hp 18 (by decide))).1
                        rw [if_pos (wanted_pos rfl rfl t128)]
                        have t14 : ac.tmps[14]? = some (.bool true) := hold 14 (by kernel_rfl)
                        clear hold hp hsz
                        go_simp
                        exact hK.out _ _ ⟨hB, rfl, Nat.le_refl _, .inl (Below.refl _ _), fun h => absurd h (by decide)⟩
                      refine Stps2.cons (o := _) ?_ ?_
                      · intro ac yw hsz hold hB hp K hK
                        have t128 : ac.tmps[128]? = some (.bool false) := (List.cons.inj (hp 18 (by decide))).1
                        rw [if_pos (wanted_pos rfl rfl t128)]
                        have e19 := hp 19 (by decide)
                        have t129 : ac.tmps[129]? = some (.bool true) := (List.cons.inj e19).1
                        clear hold hp hsz e19
                        go_simp
                        exact hK.out _ _ ⟨hB, rfl, Nat.le_refl _, .inl (Below.refl _ _), fun h => absurd h (by decide)⟩
                      refine Stps2.cons (o := _) ?_ ?_
                      · intro ac yw hsz hold hB hp K hK
                        have t128 : ac.tmps[128]? = some (.bool false) := (List.cons.inj (hp 18 (by decide))).1
                        rw [if_pos (wanted_pos rfl rfl t128)]
                        have e20 := hp 20 (by decide)
                        have t130 : ac.tmps[130]? = some (.bool false) := (List.cons.inj e20).1
                        clear hold hp hsz e20
                        go_simp
                        exact hK.out _ _ ⟨hB, rfl, Nat.le_refl _, .inl (Below.refl _ _), fun h => absurd h (by decide)⟩
                      refine Stps2.cons (o := _) ?_ ?_
                      · intro ac yw hsz hold hB hp K hK
                        have t131 : ac.tmps[131]? = some (.bool false) := (List.cons.inj (hp 21 (by decide))).1
                        rw [if_neg (by rw [wanted_neg rfl rfl t131 (fun e => by cases e)]; decide)]
                        exact hK.out _ _ ⟨hB, trivial, Nat.le_refl _, .inl (Below.refl _ _), fun h => absurd h (by decide)⟩
                      refine Stps2.cons (o := _) ?_ ?_
                      · intro ac yw hsz hold hB hp K hK
                        have t131 : ac.tmps[131]? = some (.bool false) := (List.cons.inj (hp 21 (by decide))).1
                        rw [if_neg (by rw [wanted_neg rfl rfl t131 (fun e => by cases e)]; decide)]
                        exact hK.out _ _ ⟨hB, trivial, Nat.le_refl _, .inl (Below.refl _ _), fun h => absurd h (by decide)⟩
                      refine Stps2.cons (o := _) ?_ ?_
                      · intro ac yw hsz hold hB hp K hK
                        have t131 : ac.tmps[131]? = some (.bool false) := (List.cons.inj (hp 21 (by decide))).1
                        rw [if_neg (by rw [wanted_neg rfl rfl t131 (fun e => by cases e)]; decide)]
                        exact hK.out _ _ ⟨hB, trivial, Nat.le_refl _, .inl (Below.refl _ _), fun h => absurd h (by decide)⟩
                      refine Stps2.cons (o := _) ?_ ?_
                      · intro ac yw hsz hold hB hp K hK
                        have t128 : ac.tmps[128]? = some (.bool false) := (List.cons.inj (hp 18 (by decide))).1
                        rw [if_pos (wanted_pos rfl rfl t128)]
                        have e21 := hp 21 (by decide)
                        have t131 : ac.tmps[131]? = some (.bool false) := (List.cons.inj e21).1
                        clear hold hp hsz e21
                        go_simp
                        exact hK.out _ _ ⟨hB, rfl, Nat.le_refl _, .inl (Below.refl _ _), fun h => absurd h (by decide)⟩
                      refine Stps2.cons (o := _) ?_ ?_
                      · intro ac yw hsz hold hB hp K hK
                        have e18 := hp 18 (by decide)
                        have t128 : ac.tmps[128]? = some (.bool false) := (List.cons.inj e18).1
                        have e25 := hp 25 (by decide)
                        have t135 : ac.tmps[135]? = some (.bool false) := (List.cons.inj e25).1
                        clear hold hp hsz e18 e25
                        go_simp
                        exact hK.out _ _ ⟨hB, rfl, Nat.le_refl _, .inl (Below.refl _ _), fun h => absurd h (by decide)⟩
                      refine Stps2.cons (o := _) ?_ ?_
                      · intro ac yw hsz hold hB hp K hK
                        have e26 := hp 26 (by decide)
                        have t136 : ac.tmps[136]? = some (.bool false) := (List.cons.inj e26).1
                        clear hold hp hsz e26
                        go_simp
                        exact hK.out _ _ ⟨hB, rfl, Nat.le_refl _, .inl (Below.refl _ _), fun h => absurd h (by decide)⟩
                      refine Stps2.cons (o := _) ?_ ?_
                      · intro ac yw hsz hold hB hp K hK
                        have t137 : ac.tmps[137]? = some (.bool false) := (List.cons.inj (hp 27 (by decide))).1
                        rw [if_pos (wanted_pos rfl rfl t137)]
                        have t16 : ac.tmps[16]? = some (.bool false) := hold 16 (by kernel_rfl)
                        clear hold hp hsz
                        go_simp
                        exact hK.out _ _ ⟨hB, rfl, Nat.le_refl _, .inl (Below.refl _ _), fun h => absurd h (by decide)⟩
                      refine Stps2.cons (o := _) ?_ ?_
                      · intro ac yw hsz hold hB hp K hK
                        have t137 : ac.tmps[137]? = some (.bool false) := (List.cons.inj (hp 27 (by decide))).1
                        rw [if_pos (wanted_pos rfl rfl t137)]
                        have e28 := hp 28 (by decide)
                        have t138 : ac.tmps[138]? = some (.bool false) := (List.cons.inj e28).1
                        clear hold hp hsz e28
                        go_simp
                        exact hK.out _ _ ⟨hB, rfl, Nat.le_refl _, .inl (Below.refl _ _), fun h => absurd h (by decide)⟩
                      refine Stps2.cons (o := _) ?_ ?_
                      · intro ac yw hsz hold hB hp K hK
                        have t137 : ac.tmps[137]? = some (.bool false) := (List.cons.inj (hp 27 (by decide))).1
                        rw [if_pos (wanted_pos rfl rfl t137)]
                        have e29 := hp 29 (by decide)
                        have t139 : ac.tmps[139]? = some (.bool true) := (List.cons.inj e29).1
                        clear hold hp hsz e29
                        go_simp
                        exact hK.out _ _ ⟨hB, rfl, Nat.le_refl _, .inl (Below.refl _ _), fun h => absurd h (by decide)⟩
                      refine Stps2.cons (o := _) ?_ ?_
                      · intro ac yw hsz hold hB hp K hK
                        have t140 : ac.tmps[140]? = some (.bool true) := (List.cons.inj (hp 30 (by decide))).1
                        rw [if_pos (wanted_pos rfl rfl t140)]
                        have t15 : ac.tmps[15]? = some (.pointer (some ⟨w3.heap.size, 0, none⟩)) := hold 15 (by kernel_rfl)
                        clear hold hp hsz
                        have v0_0 : yw.cell? ⟨kx + 1, 0, none⟩ = some (.slice sa sn sc) := hB.now.1.cell 0
                        have v0_1 : yw.cell? ⟨kx + 1, 1, none⟩ = some (.bool true) := hB.now.1.cell 1
                        have v0_2 : yw.cell? ⟨kx + 1, 2, none⟩ = some (.slice yta tn ytc) := hB.now.1.cell 2
                        have v0_3 : yw.cell? ⟨kx + 1, 3, none⟩ = some (.slice yna 0 ync) := hB.now.1.cell 3
                        have v1_0 : yw.cell? ⟨kx, 0, none⟩ = some (.slice sa sn sc) := hB.now.2.1.cell 0
                        have v1_1 : yw.cell? ⟨kx, 1, none⟩ = some (.bool false) := hB.now.2.1.cell 1
                        have v1_2 : yw.cell? ⟨kx, 2, none⟩ = some (.slice xta 0 xtc) := hB.now.2.1.cell 2
                        have v1_3 : yw.cell? ⟨kx, 3, none⟩ = some (.slice xna k xnc) := hB.now.2.1.cell 3
                        have v2_0 : yw.cell? ⟨w3.heap.size, 0, none⟩ = some (.bool false) := hB.now.2.2.1.cell 0
                        have v2_1 : yw.cell? ⟨w3.heap.size, 1, none⟩ = some (.int .i64 more2) := hB.now.2.2.1.cell 1
                        have v2_2 : yw.cell? ⟨w3.heap.size, 2, none⟩ = some (.int .i64 (d2 0)) := hB.now.2.2.1.cell 2
                        have v2_3 : yw.cell? ⟨w3.heap.size, 3, none⟩ = some (.int .i64 (d2 1)) := hB.now.2.2.1.cell 3
                        have v2_4 : yw.cell? ⟨w3.heap.size, 4, none⟩ = some (.int .i64 (d2 2)) := hB.now.2.2.1.cell 4
                        have v2_5 : yw.cell? ⟨w3.heap.size, 5, none⟩ = some (.int .i64 (d2 3)) := hB.now.2.2.1.cell 5
                        have v2_6 : yw.cell? ⟨w3.heap.size, 6, none⟩ = some (.int .i64 (d2 4)) := hB.now.2.2.1.cell 6
                        have v2_7 : yw.cell? ⟨w3.heap.size, 7, none⟩ = some (.int .i64 (d2 5)) := hB.now.2.2.1.cell 7
                        have v2_8 : yw.cell? ⟨w3.heap.size, 8, none⟩ = some (.int .i64 (d2 6)) := hB.now.2.2.1.cell 8
                        have v2_9 : yw.cell? ⟨w3.heap.size, 9, none⟩ = some (.int .i64 (d2 7)) := hB.now.2.2.1.cell 9
                        have v2_10 : yw.cell? ⟨w3.heap.size, 10, none⟩ = some (.slice none 0 0) := hB.now.2.2.1.cell 10
                        have v2_11 : yw.cell? ⟨w3.heap.size, 11, none⟩ = some (.slice na2 0 nc2) := hB.now.2.2.1.cell 11
                        have v3_0 : yw.cell? ⟨w2.heap.size, 0, none⟩ = some (.bool false) := hB.now.2.2.2.1.cell 0
                        have v3_1 : yw.cell? ⟨w2.heap.size, 1, none⟩ = some (.int .i64 ((sn : Int) - 1)) := hB.now.2.2.2.1.cell 1
                        have v3_2 : yw.cell? ⟨w2.heap.size, 2, none⟩ = some (.int .i64 (dm S sn 0)) := hB.now.2.2.2.1.cell 2
                        have v3_3 : yw.cell? ⟨w2.heap.size, 3, none⟩ = some (.int .i64 (dm S sn 1)) := hB.now.2.2.2.1.cell 3
                        have v3_4 : yw.cell? ⟨w2.heap.size, 4, none⟩ = some (.int .i64 (dm S sn 2)) := hB.now.2.2.2.1.cell 4
                        have v3_5 : yw.cell? ⟨w2.heap.size, 5, none⟩ = some (.int .i64 (dm S sn 3)) := hB.now.2.2.2.1.cell 5
                        have v3_6 : yw.cell? ⟨w2.heap.size, 6, none⟩ = some (.int .i64 (dm S sn 4)) := hB.now.2.2.2.1.cell 6
                        have v3_7 : yw.cell? ⟨w2.heap.size, 7, none⟩ = some (.int .i64 (dm S sn 5)) := hB.now.2.2.2.1.cell 7
                        have v3_8 : yw.cell? ⟨w2.heap.size, 8, none⟩ = some (.int .i64 (dm S sn 6)) := hB.now.2.2.2.1.cell 8
                        have v3_9 : yw.cell? ⟨w2.heap.size, 9, none⟩ = some (.int .i64 (dm S sn 7)) := hB.now.2.2.2.1.cell 9
                        have v3_10 : yw.cell? ⟨w2.heap.size, 10, none⟩ = some (.slice na1 k nc1) := hB.now.2.2.2.1.cell 10
                        have v3_11 : yw.cell? ⟨w2.heap.size, 11, none⟩ = some (.slice none 0 0) := hB.now.2.2.2.1.cell 11
                        go_simp
                        exact hK.out _ _ ⟨hB, rfl, Nat.le_refl _, .inl (Below.refl _ _), fun h => absurd h (by decide)⟩
                      refine Stps2.cons (o := _) ?_ ?_
                      · intro ac yw hsz hold hB hp K hK
                        have t140 : ac.tmps[140]? = some (.bool true) := (List.cons.inj (hp 30 (by decide))).1
                        rw [if_pos (wanted_pos rfl rfl t140)]
                        have e31 := hp 31 (by decide)
                        have t141 : ac.tmps[141]? = some (.agg #[.bool false, .int .i64 more2, .int .i64 (d2 0), .int .i64 (d2 1), .int .i64 (d2 2), .int .i64 (d2 3), .int .i64 (d2 4), .int .i64 (d2 5), .int .i64 (d2 6), .int .i64 (d2 7), .slice none 0 0, .slice na2 0 nc2]) := (List.cons.inj e31).1
                        clear hold hp hsz e31
                        go_simp
                        (go_at_call 15; (with_reducible refine (len0_any false more2 d2 none 0 na2 nc2 _).mono ?_); rintro e wz ⟨rfl, hbz⟩)
                        exact hK.out _ _ ⟨hB.go hbz, rfl, hbz.size, .inl hbz, fun h => absurd h (by decide)⟩
                      refine Stps2.cons (o := _) ?_ ?_
                      · intro ac yw hsz hold hB hp K hK
                        have t140 : ac.tmps[140]? = some (.bool true) := (List.cons.inj (hp 30 (by decide))).1
                        rw [if_pos (wanted_pos rfl rfl t140)]
                        have e32 := hp 32 (by decide)
                        have t142 : ac.tmps[142]? = some (.int .i64 0) := (List.cons.inj e32).1
                        clear hold hp hsz e32
                        go_simp
                        exact hK.out _ _ ⟨hB, rfl, Nat.le_refl _, .inl (Below.refl _ _), fun h => absurd h (by decide)⟩
                      refine Stps2.cons (o := _) ?_ ?_
                      · intro ac yw hsz hold hB hp K hK
                        have t137 : ac.tmps[137]? = some (.bool false) := (List.cons.inj (hp 27 (by decide))).1
                        rw [if_pos (wanted_pos rfl rfl t137)]
                        have e30 := hp 30 (by decide)
                        have t140 : ac.tmps[140]? = some (.bool true) := (List.cons.inj e30).1
                        have e33 := hp 33 (by decide)
                        have t143 : ac.tmps[143]? = some (.bool false) := (List.cons.inj e33).1
                        clear hold hp hsz e30 e33
                        go_simp
                        exact hK.out _ _ ⟨hB, rfl, Nat.le_refl _, .inl (Below.refl _ _), fun h => absurd h (by decide)⟩
                      refine Stps2.cons (o := _) ?_ ?_
                      · intro ac yw hsz hold hB hp K hK
                        have e27 := hp 27 (by decide)
                        have t137 : ac.tmps[137]? = some (.bool false) := (List.cons.inj e27).1
                        have e34 := hp 34 (by decide)
                        have t144 : ac.tmps[144]? = some (.bool false) := (List.cons.inj e34).1
                        clear hold hp hsz e27 e34
                        go_simp
                        exact hK.out _ _ ⟨hB, rfl, Nat.le_refl _, .inl (Below.refl _ _), fun h => absurd h (by decide)⟩
                      exact Stps2.nil _
                  | false =>
                    cases b2 with
                    | true =>
                      have hn := F1.out.2 rfl
                      subst nn1
                      obtain ⟨hch, hm, hd, hn⟩ := F2.out.1 rfl
                      subst hch
                      subst hm
                      subst hd
                      subst nn2
                      have PB := Lib.hid (fun wz q => plain_any true S sn none 0 0 na2 tn nc2 (fun _ => 0) (fun _ => 1) T wz (H8.out (.inr rfl)) (RRow.nought _ _ _ (Nat.zero_le _) _ _) q (by omega) (by omega) (fun _ h => absurd h (Nat.not_lt_zero _)) 1 (by omega) (fun _ h => absurd h (Nat.not_lt_zero _)) (fun _ h => absurd h (Nat.not_lt_zero _)))
                      unfold arrC at PB
                      clear F1 F2 H8
                      refine wp_region_inv2 ⟨(fun j => ([[110], [111], [], [], [], [], [], [117], [118], [119], [120], [121], [122], [123], [124], [125], [126], [127], [128], [129], [130], [131], [132], [133], [134], [135], [136], [137], [138], [139], [140], [], [], [], [144], [145]] : List (List Nat)).getD j []), (fun j => ([[], [0], [0, 1], [0, 1, 2], [0, 1], [0, 1, 2, 3, 4], [0, 1, 2, 3, 4, 5], [0, 1, 2, 3, 4, 5, 6], [0, 1, 2, 3, 4, 5, 6, 7], [0, 1, 2, 3, 4, 5, 6, 7, 8], [0, 1, 2, 3, 4, 5, 6, 7, 8, 9], [0, 1, 2, 3, 4, 5, 6, 7, 8, 9, 10], [0, 1, 2, 3, 4, 5, 6, 7, 8, 9, 10, 11], [0, 1, 2, 3, 4, 5, 6, 7, 8, 9, 10], [0, 1, 2, 3, 4, 5, 6, 7, 8, 9, 10, 11, 12, 13], [0, 1, 2, 3, 4, 5, 6, 7, 8, 9, 10, 11, 12, 13, 14], [0, 1, 2, 3, 4, 5, 6, 7, 8, 9, 10, 11, 12, 13, 14, 15], [0, 1, 2, 3, 4, 5, 6, 7, 8, 9, 10, 11, 12, 13, 14, 15, 16], [0, 1, 2, 3, 4, 5, 6, 7, 8, 9, 10, 11, 12, 13, 14, 15, 16, 17], [0, 1, 2, 3, 4, 5, 6, 7, 8, 9, 10, 11, 12, 13, 14, 15, 16, 17, 18], [0, 1, 2, 3, 4, 5, 6, 7, 8, 9, 10, 11, 12, 13, 14, 15, 16, 17, 18, 19], [0, 1, 2, 3, 4, 5, 6, 7, 8, 9, 10, 11, 12, 13, 14, 15, 16, 17, 18, 19, 20], [0, 1, 2, 3, 4, 5, 6, 7, 8, 9, 10, 11, 12, 13, 14, 15, 16, 17, 18, 19, 20, 21], [0, 1, 2, 3, 4, 5, 6, 7, 8, 9, 10, 11, 12, 13, 14, 15, 16, 17, 18, 19, 20, 21, 22], [0, 1, 2, 3, 4, 5, 6, 7, 8, 9, 10, 11, 12, 13, 14, 15, 16, 17, 18, 19, 20, 21, 22, 23], [0, 1, 2, 3, 4, 5, 6, 7, 8, 9, 10, 11, 12, 13, 14, 15, 16, 17, 18, 19, 20, 21, 22, 23, 24], [0, 1, 2, 3, 4, 5, 6, 7, 8, 9, 10, 11, 12, 13, 14, 15, 16, 17, 18, 19, 20, 21, 22, 23, 24, 25], [0, 1, 2, 3, 4, 5, 6, 7, 8, 9, 10, 11, 12, 13, 14, 15, 16, 17, 18, 19, 20, 21, 22, 23, 24, 25, 26], [0, 1, 2, 3, 4, 5, 6, 7, 8, 9, 10, 11, 12, 13, 14, 15, 16, 17, 18, 19, 20, 21, 22, 23, 24, 25, 26, 27], [0, 1, 2, 3, 4, 5, 6, 7, 8, 9, 10, 11, 12, 13, 14, 15, 16, 17, 18, 19, 20, 21, 22, 23, 24, 25, 26, 27, 28], [0, 1, 2, 3, 4, 5, 6, 7, 8, 9, 10, 11, 12, 13, 14, 15, 16, 17, 18, 19, 20, 21, 22, 23, 24, 25, 26, 27, 28, 29], [0, 1, 2, 3, 4, 5, 6, 7, 8, 9, 10, 11, 12, 13, 14, 15, 16, 17, 18, 19, 20, 21, 22, 23, 24, 25, 26, 27, 28, 29, 30], [0, 1, 2, 3, 4, 5, 6, 7, 8, 9, 10, 11, 12, 13, 14, 15, 16, 17, 18, 19, 20, 21, 22, 23, 24, 25, 26, 27, 28, 29, 30, 31], [0, 1, 2, 3, 4, 5, 6, 7, 8, 9, 10, 11, 12, 13, 14, 15, 16, 17, 18, 19, 20, 21, 22, 23, 24, 25, 26, 27, 28, 29, 30, 31, 32], [0, 1, 2, 3, 4, 5, 6, 7, 8, 9, 10, 11, 12, 13, 14, 15, 16, 17, 18, 19, 20, 21, 22, 23, 24, 25, 26, 27, 28, 29, 30, 31, 32, 33], [0, 1, 2, 3, 4, 5, 6, 7, 8, 9, 10, 11, 12, 13, 14, 15, 16, 17, 18, 19, 20, 21, 22, 23, 24, 25, 26, 27, 28, 29, 30, 31, 32, 33, 34]] : List (List Nat)).getD j []), []⟩ (fun jj vv yy => match jj with | 0 => vv = [some (.bool false)] | 1 => vv = [some (.bool false)] | 2 => True | 3 => True | 4 => True | 5 => True | 6 => True | 7 => vv = [some (.bool false)] | 8 => vv = [some (.bool false)] | 9 => vv = [some (.bool true)] | 10 => vv = [some (.bool true)] | 11 => vv = [some (.agg #[.bool true, .int .i64 ((sn : Int) - 1), .int .i64 (dm S sn 0), .int .i64 (dm S sn 1), .int .i64 (dm S sn 2), .int .i64 (dm S sn 3), .int .i64 (dm S sn 4), .int .i64 (dm S sn 5), .int .i64 (dm S sn 6), .int .i64 (dm S sn 7), .slice none 0 0, .slice na2 tn nc2])] | 12 => ∃ (x12 : Array Value), vv = [some (.agg x12)] ∧ PlnAt yy x12 S sn true T tn (fun _ => rB 0) (fun _ => rS 0) (fun _ => str (dec 1)) 0 | 13 => vv = [some (.agg #[.slice sa sn sc, .bool true, .slice yta tn ytc, .slice yna 0 ync])] | 14 => vv = [some (.bool true)] | 15 => vv = [some (.bool false)] | 16 => vv = [some (.bool false)] | 17 => vv = [some (.bool false)] | 18 => vv = [some (.bool false)] | 19 => vv = [some (.bool false)] | 20 => vv = [some (.bool true)] | 21 => vv = [some (.bool true)] | 22 => vv = [some (.agg #[.bool false, .int .i64 more, .int .i64 (d 0), .int .i64 (d 1), .int .i64 (d 2), .int .i64 (d 3), .int .i64 (d 4), .int .i64 (d 5), .int .i64 (d 6), .int .i64 (d 7), .slice na1 0 nc1, .slice none 0 0])] | 23 => vv = [some (.int .i64 0)] | 24 => vv = [some (.bool false)] | 25 => vv = [some (.bool false)] | 26 => vv = [some (.bool false)] | 27 => vv = [some (.bool false)] | 28 => vv = [some (.bool true)] | 29 => vv = [some (.bool false)] | 30 => vv = [some (.bool false)] | 31 => True | 32 => True | 33 => True | 34 => vv = [some (.bool false)] | 35 => vv = [some (.bool false)] | _ => True) (Bag w (fun y => Row y (kx + 1) 44 #[.slice sa sn sc, .bool true, .slice yta tn ytc, .slice yna 0 ync] ∧ Row y kx 44 #[.slice sa sn sc, .bool false, .slice xta 0 xtc, .slice xna k xnc] ∧ Row y w3.heap.size 36 #[.bool true, .int .i64 ((sn : Int) - 1), .int .i64 (dm S sn 0), .int .i64 (dm S sn 1), .int .i64 (dm S sn 2), .int .i64 (dm S sn 3), .int .i64 (dm S sn 4), .int .i64 (dm S sn 5), .int .i64 (dm S sn 6), .int .i64 (dm S sn 7), .slice none 0 0, .slice na2 tn nc2] ∧ Row y w2.heap.size 36 #[.bool false, .int .i64 more, .int .i64 (d 0), .int .i64 (d 1), .int .i64 (d 2), .int .i64 (d 3), .int .i64 (d 4), .int .i64 (d 5), .int .i64 (d 6), .int .i64 (d 7), .slice na1 0 nc1, .slice none 0 0] ∧ KRow y .i32 na2 tn nc2 T ∧ RRow y na1 0 nc1 L (fun _ => 1) ∧ PlnAt y #[.slice sa sn sc, .bool false, .slice xta 0 xtc, .slice xna k xnc] S sn false (fun _ => 0) 0 (fun j => rB (L j)) (fun j => rS (L j)) (fun _ => str (dec 1)) k ∧ PlnAt y #[.slice sa sn sc, .bool true, .slice yta tn ytc, .slice yna 0 ync] S sn true T tn (fun _ => rB 0) (fun _ => rS 0) (fun _ => str (dec 1)) 0 ∧ True)) (by kernel_rfl) (by kernel_rfl) (by kernel_rfl) B15.out.drew ?_ ?_ ?_
                      · intro jj vv yw yw2 hb h
                        match jj, h with
                        | 0, h => exact h
                        | 1, h => exact h
                        | 2, h => exact h
                        | 3, h => exact h
                        | 4, h => exact h
                        | 5, h => exact h
                        | 6, h => exact h
                        | 7, h => exact h
                        | 8, h => exact h
                        | 9, h => exact h
                        | 10, h => exact h
                        | 11, h => exact h
                        | 12, ⟨x12, e12, g12_0⟩ => exact Exists.intro x12 (And.intro e12 (g12_0.below hb))
                        | 13, h => exact h
                        | 14, h => exact h
                        | 15, h => exact h
                        | 16, h => exact h
                        | 17, h => exact h
                        | 18, h => exact h
                        | 19, h => exact h
                        | 20, h => exact h
                        | 21, h => exact h
                        | 22, h => exact h
                        | 23, h => exact h
                        | 24, h => exact h
                        | 25, h => exact h
                        | 26, h => exact h
                        | 27, h => exact h
                        | 28, h => exact h
                        | 29, h => exact h
                        | 30, h => exact h
                        | 31, h => exact h
                        | 32, h => exact h
                        | 33, h => exact h
                        | 34, h => exact h
                        | 35, h => exact h
                        | _ + 36, h => exact h
                      · intro ac yw hsz hdf hold hB hp
                        exact ⟨hsz, hdf, hold 3 (by kernel_rfl), hold 4 (by kernel_rfl), (List.cons.inj (hp 35 (by decide))).1, hB.below⟩
                      refine Stps2.cons (o := _) ?_ ?_
                      · intro ac yw hsz hold hB hp K hK
                        have t14 : ac.tmps[14]? = some (.bool false) := hold 14 (by kernel_rfl)
                        clear hold hp hsz
                        go_simp
                        exact hK.out _ _ ⟨hB, rfl, Nat.le_refl _, .inl (Below.refl _ _), fun h => absurd h (by decide)⟩
                      refine Stps2.cons (o := _) ?_ ?_
                      · intro ac yw hsz hold hB hp K hK
                        have e0 := hp 0 (by decide)
                        have t110 : ac.tmps[110]? = some (.bool false) := (List.cons.inj e0).1
                        clear hold hp hsz e0
                        go_simp
                        exact hK.out _ _ ⟨hB, rfl, Nat.le_refl _, .inl (Below.refl _ _), fun h => absurd h (by decide)⟩
                      refine Stps2.cons (o := _) ?_ ?_
                      · intro ac yw hsz hold hB hp K hK
                        have t111 : ac.tmps[111]? = some (.bool false) := (List.cons.inj (hp 1 (by decide))).1
                        rw [if_neg (by rw [wanted_neg rfl rfl t111 (fun e => by cases e)]; decide)]
                        exact hK.out _ _ ⟨hB, trivial, Nat.le_refl _, .inl (Below.refl _ _), fun h => absurd h (by decide)⟩
                      refine Stps2.cons (o := _) ?_ ?_
                      · intro ac yw hsz hold hB hp K hK
                        have t111 : ac.tmps[111]? = some (.bool false) := (List.cons.inj (hp 1 (by decide))).1
                        rw [if_neg (by rw [wanted_neg rfl rfl t111 (fun e => by cases e)]; decide)]
                        exact hK.out _ _ ⟨hB, trivial, Nat.le_refl _, .inl (Below.refl _ _), fun h => absurd h (by decide)⟩
                      refine Stps2.cons (o := _) ?_ ?_
                      · intro ac yw hsz hold hB hp K hK
                        have t111 : ac.tmps[111]? = some (.bool false) := (List.cons.inj (hp 1 (by decide))).1
                        rw [if_neg (by rw [wanted_neg rfl rfl t111 (fun e => by cases e)]; decide)]
                        exact hK.out _ _ ⟨hB, trivial, Nat.le_refl _, .inl (Below.refl _ _), fun h => absurd h (by decide)⟩
                      refine Stps2.cons (o := _) ?_ ?_
                      · intro ac yw hsz hold hB hp K hK
                        have t111 : ac.tmps[111]? = some (.bool false) := (List.cons.inj (hp 1 (by decide))).1
                        rw [if_neg (by rw [wanted_neg rfl rfl t111 (fun e => by cases e)]; decide)]
                        exact hK.out _ _ ⟨hB, trivial, Nat.le_refl _, .inl (Below.refl _ _), fun h => absurd h (by decide)⟩
                      refine Stps2.cons (o := _) ?_ ?_
                      · intro ac yw hsz hold hB hp K hK
                        have t111 : ac.tmps[111]? = some (.bool false) := (List.cons.inj (hp 1 (by decide))).1
                        rw [if_neg (by rw [wanted_neg rfl rfl t111 (fun e => by cases e)]; decide)]
                        exact hK.out _ _ ⟨hB, trivial, Nat.le_refl _, .inl (Below.refl _ _), fun h => absurd h (by decide)⟩
                      refine Stps2.cons (o := _) ?_ ?_
                      · intro ac yw hsz hold hB hp K hK
                        have e1 := hp 1 (by decide)
                        have t111 : ac.tmps[111]? = some (.bool false) := (List.cons.inj e1).1
                        clear hold hp hsz e1
                        go_simp
                        exact hK.out _ _ ⟨hB, rfl, Nat.le_refl _, .inl (Below.refl _ _), fun h => absurd h (by decide)⟩
                      refine Stps2.cons (o := _) ?_ ?_
                      · intro ac yw hsz hold hB hp K hK
                        have e7 := hp 7 (by decide)
                        have t117 : ac.tmps[117]? = some (.bool false) := (List.cons.inj e7).1
                        clear hold hp hsz e7
                        go_simp
                        exact hK.out _ _ ⟨hB, rfl, Nat.le_refl _, .inl (Below.refl _ _), fun h => absurd h (by decide)⟩
                      refine Stps2.cons (o := _) ?_ ?_
                      · intro ac yw hsz hold hB hp K hK
                        have t118 : ac.tmps[118]? = some (.bool false) := (List.cons.inj (hp 8 (by decide))).1
                        rw [if_pos (wanted_pos rfl rfl t118)]
                        have t16 : ac.tmps[16]? = some (.bool true) := hold 16 (by kernel_rfl)
                        clear hold hp hsz
                        go_simp
                        exact hK.out _ _ ⟨hB, rfl, Nat.le_refl _, .inl (Below.refl _ _), fun h => absurd h (by decide)⟩
                      refine Stps2.cons (o := _) ?_ ?_
                      · intro ac yw hsz hold hB hp K hK
                        have t118 : ac.tmps[118]? = some (.bool false) := (List.cons.inj (hp 8 (by decide))).1
                        rw [if_pos (wanted_pos rfl rfl t118)]
                        have e9 := hp 9 (by decide)
                        have t119 : ac.tmps[119]? = some (.bool true) := (List.cons.inj e9).1
                        clear hold hp hsz e9
                        go_simp
                        exact hK.out _ _ ⟨hB, rfl, Nat.le_refl _, .inl (Below.refl _ _), fun h => absurd h (by decide)⟩
                      refine Stps2.cons (o := _) ?_ ?_
                      · intro ac yw hsz hold hB hp K hK
                        have t120 : ac.tmps[120]? = some (.bool true) := (List.cons.inj (hp 10 (by decide))).1
                        rw [if_pos (wanted_pos rfl rfl t120)]
                        have t15 : ac.tmps[15]? = some (.pointer (some ⟨w3.heap.size, 0, none⟩)) := hold 15 (by kernel_rfl)
                        clear hold hp hsz
                        have v0_0 : yw.cell? ⟨kx + 1, 0, none⟩ = some (.slice sa sn sc) := hB.now.1.cell 0
                        have v0_1 : yw.cell? ⟨kx + 1, 1, none⟩ = some (.bool true) := hB.now.1.cell 1
                        have v0_2 : yw.cell? ⟨kx + 1, 2, none⟩ = some (.slice yta tn ytc) := hB.now.1.cell 2
                        have v0_3 : yw.cell? ⟨kx + 1, 3, none⟩ = some (.slice yna 0 ync) := hB.now.1.cell 3
                        have v1_0 : yw.cell? ⟨kx, 0, none⟩ = some (.slice sa sn sc) := hB.now.2.1.cell 0
                        have v1_1 : yw.cell? ⟨kx, 1, none⟩ = some (.bool false) := hB.now.2.1.cell 1
                        have v1_2 : yw.cell? ⟨kx, 2, none⟩ = some (.slice xta 0 xtc) := hB.now.2.1.cell 2
                        have v1_3 : yw.cell? ⟨kx, 3, none⟩ = some (.slice xna k xnc) := hB.now.2.1.cell 3
                        have v2_0 : yw.cell? ⟨w3.heap.size, 0, none⟩ = some (.bool true) := hB.now.2.2.1.cell 0
                        have v2_1 : yw.cell? ⟨w3.heap.size, 1, none⟩ = some (.int .i64 ((sn : Int) - 1)) := hB.now.2.2.1.cell 1
                        have v2_2 : yw.cell? ⟨w3.heap.size, 2, none⟩ = some (.int .i64 (dm S sn 0)) := hB.now.2.2.1.cell 2
                        have v2_3 : yw.cell? ⟨w3.heap.size, 3, none⟩ = some (.int .i64 (dm S sn 1)) := hB.now.2.2.1.cell 3
                        have v2_4 : yw.cell? ⟨w3.heap.size, 4, none⟩ = some (.int .i64 (dm S sn 2)) := hB.now.2.2.1.cell 4
                        have v2_5 : yw.cell? ⟨w3.heap.size, 5, none⟩ = some (.int .i64 (dm S sn 3)) := hB.now.2.2.1.cell 5
                        have v2_6 : yw.cell? ⟨w3.heap.size, 6, none⟩ = some (.int .i64 (dm S sn 4)) := hB.now.2.2.1.cell 6
                        have v2_7 : yw.cell? ⟨w3.heap.size, 7, none⟩ = some (.int .i64 (dm S sn 5)) := hB.now.2.2.1.cell 7
                        have v2_8 : yw.cell? ⟨w3.heap.size, 8, none⟩ = some (.int .i64 (dm S sn 6)) := hB.now.2.2.1.cell 8
                        have v2_9 : yw.cell? ⟨w3.heap.size, 9, none⟩ = some (.int .i64 (dm S sn 7)) := hB.now.2.2.1.cell 9
                        have v2_10 : yw.cell? ⟨w3.heap.size, 10, none⟩ = some (.slice none 0 0) := hB.now.2.2.1.cell 10
                        have v2_11 : yw.cell? ⟨w3.heap.size, 11, none⟩ = some (.slice na2 tn nc2) := hB.now.2.2.1.cell 11
                        have v3_0 : yw.cell? ⟨w2.heap.size, 0, none⟩ = some (.bool false) := hB.now.2.2.2.1.cell 0
                        have v3_1 : yw.cell? ⟨w2.heap.size, 1, none⟩ = some (.int .i64 more) := hB.now.2.2.2.1.cell 1
                        have v3_2 : yw.cell? ⟨w2.heap.size, 2, none⟩ = some (.int .i64 (d 0)) := hB.now.2.2.2.1.cell 2
                        have v3_3 : yw.cell? ⟨w2.heap.size, 3, none⟩ = some (.int .i64 (d 1)) := hB.now.2.2.2.1.cell 3
                        have v3_4 : yw.cell? ⟨w2.heap.size, 4, none⟩ = some (.int .i64 (d 2)) := hB.now.2.2.2.1.cell 4
                        have v3_5 : yw.cell? ⟨w2.heap.size, 5, none⟩ = some (.int .i64 (d 3)) := hB.now.2.2.2.1.cell 5
                        have v3_6 : yw.cell? ⟨w2.heap.size, 6, none⟩ = some (.int .i64 (d 4)) := hB.now.2.2.2.1.cell 6
                        have v3_7 : yw.cell? ⟨w2.heap.size, 7, none⟩ = some (.int .i64 (d 5)) := hB.now.2.2.2.1.cell 7
                        have v3_8 : yw.cell? ⟨w2.heap.size, 8, none⟩ = some (.int .i64 (d 6)) := hB.now.2.2.2.1.cell 8
                        have v3_9 : yw.cell? ⟨w2.heap.size, 9, none⟩ = some (.int .i64 (d 7)) := hB.now.2.2.2.1.cell 9
                        have v3_10 : yw.cell? ⟨w2.heap.size, 10, none⟩ = some (.slice na1 0 nc1) := hB.now.2.2.2.1.cell 10
                        have v3_11 : yw.cell? ⟨w2.heap.size, 11, none⟩ = some (.slice none 0 0) := hB.now.2.2.2.1.cell 11
                        go_simp
                        exact hK.out _ _ ⟨hB, rfl, Nat.le_refl _, .inl (Below.refl _ _), fun h => absurd h (by decide)⟩
                      refine Stps2.cons (o := _) ?_ ?_
                      · intro ac yw hsz hold hB hp K hK
                        have t120 : ac.tmps[120]? = some (.bool true) := (List.cons.inj (hp 10 (by decide))).1
                        rw [if_pos (wanted_pos rfl rfl t120)]
                        have e11 := hp 11 (by decide)
                        have t121 : ac.tmps[121]? = some (.agg #[.bool true, .int .i64 ((sn : Int) - 1), .int .i64 (dm S sn 0), .int .i64 (dm S sn 1), .int .i64 (dm S sn 2), .int .i64 (dm S sn 3), .int .i64 (dm S sn 4), .int .i64 (dm S sn 5), .int .i64 (dm S sn 6), .int .i64 (dm S sn 7), .slice none 0 0, .slice na2 tn nc2]) := (List.cons.inj e11).1
                        clear hold hp hsz e11
                        go_simp
                        (go_at_call 13; (with_reducible refine (PB.out _ (hB.now.2.2.2.2.1)).mono ?_); rintro e wz ⟨x12, rfl, h12_0, hbz⟩)
                        exact hK.out _ _ ⟨hB.go hbz, Exists.intro x12 (And.intro rfl h12_0), hbz.size, .inl hbz, fun h => absurd h (by decide)⟩
                      refine Stps2.cons (o := _) ?_ ?_
                      · intro ac yw hsz hold hB hp K hK
                        have t120 : ac.tmps[120]? = some (.bool true) := (List.cons.inj (hp 10 (by decide))).1
                        rw [if_pos (wanted_pos rfl rfl t120)]
                        have t20 : ac.tmps[20]? = some (.pointer (some ⟨(kx + 1), 0, none⟩)) := hold 20 (by kernel_rfl)
                        clear hold hp hsz
                        have v0_0 : yw.cell? ⟨kx + 1, 0, none⟩ = some (.slice sa sn sc) := hB.now.1.cell 0
                        have v0_1 : yw.cell? ⟨kx + 1, 1, none⟩ = some (.bool true) := hB.now.1.cell 1
                        have v0_2 : yw.cell? ⟨kx + 1, 2, none⟩ = some (.slice yta tn ytc) := hB.now.1.cell 2
                        have v0_3 : yw.cell? ⟨kx + 1, 3, none⟩ = some (.slice yna 0 ync) := hB.now.1.cell 3
                        have v1_0 : yw.cell? ⟨kx, 0, none⟩ = some (.slice sa sn sc) := hB.now.2.1.cell 0
                        have v1_1 : yw.cell? ⟨kx, 1, none⟩ = some (.bool false) := hB.now.2.1.cell 1
                        have v1_2 : yw.cell? ⟨kx, 2, none⟩ = some (.slice xta 0 xtc) := hB.now.2.1.cell 2
                        have v1_3 : yw.cell? ⟨kx, 3, none⟩ = some (.slice xna k xnc) := hB.now.2.1.cell 3
                        have v2_0 : yw.cell? ⟨w3.heap.size, 0, none⟩ = some (.bool true) := hB.now.2.2.1.cell 0
                        have v2_1 : yw.cell? ⟨w3.heap.size, 1, none⟩ = some (.int .i64 ((sn : Int) - 1)) := hB.now.2.2.1.cell 1
                        have v2_2 : yw.cell? ⟨w3.heap.size, 2, none⟩ = some (.int .i64 (dm S sn 0)) := hB.now.2.2.1.cell 2
                        have v2_3 : yw.cell? ⟨w3.heap.size, 3, none⟩ = some (.int .i64 (dm S sn 1)) := hB.now.2.2.1.cell 3
                        have v2_4 : yw.cell? ⟨w3.heap.size, 4, none⟩ = some (.int .i64 (dm S sn 2)) := hB.now.2.2.1.cell 4
                        have v2_5 : yw.cell? ⟨w3.heap.size, 5, none⟩ = some (.int .i64 (dm S sn 3)) := hB.now.2.2.1.cell 5
                        have v2_6 : yw.cell? ⟨w3.heap.size, 6, none⟩ = some (.int .i64 (dm S sn 4)) := hB.now.2.2.1.cell 6
                        have v2_7 : yw.cell? ⟨w3.heap.size, 7, none⟩ = some (.int .i64 (dm S sn 5)) := hB.now.2.2.1.cell 7
                        have v2_8 : yw.cell? ⟨w3.heap.size, 8, none⟩ = some (.int .i64 (dm S sn 6)) := hB.now.2.2.1.cell 8
                        have v2_9 : yw.cell? ⟨w3.heap.size, 9, none⟩ = some (.int .i64 (dm S sn 7)) := hB.now.2.2.1.cell 9
                        have v2_10 : yw.cell? ⟨w3.heap.size, 10, none⟩ = some (.slice none 0 0) := hB.now.2.2.1.cell 10
                        have v2_11 : yw.cell? ⟨w3.heap.size, 11, none⟩ = some (.slice na2 tn nc2) := hB.now.2.2.1.cell 11
                        have v3_0 : yw.cell? ⟨w2.heap.size, 0, none⟩ = some (.bool false) := hB.now.2.2.2.1.cell 0
                        have v3_1 : yw.cell? ⟨w2.heap.size, 1, none⟩ = some (.int .i64 more) := hB.now.2.2.2.1.cell 1
                        have v3_2 : yw.cell? ⟨w2.heap.size, 2, none⟩ = some (.int .i64 (d 0)) := hB.now.2.2.2.1.cell 2
                        have v3_3 : yw.cell? ⟨w2.heap.size, 3, none⟩ = some (.int .i64 (d 1)) := hB.now.2.2.2.1.cell 3
                        have v3_4 : yw.cell? ⟨w2.heap.size, 4, none⟩ = some (.int .i64 (d 2)) := hB.now.2.2.2.1.cell 4
                        have v3_5 : yw.cell? ⟨w2.heap.size, 5, none⟩ = some (.int .i64 (d 3)) := hB.now.2.2.2.1.cell 5
                        have v3_6 : yw.cell? ⟨w2.heap.size, 6, none⟩ = some (.int .i64 (d 4)) := hB.now.2.2.2.1.cell 6
                        have v3_7 : yw.cell? ⟨w2.heap.size, 7, none⟩ = some (.int .i64 (d 5)) := hB.now.2.2.2.1.cell 7
                        have v3_8 : yw.cell? ⟨w2.heap.size, 8, none⟩ = some (.int .i64 (d 6)) := hB.now.2.2.2.1.cell 8
                        have v3_9 : yw.cell? ⟨w2.heap.size, 9, none⟩ = some (.int .i64 (d 7)) := hB.now.2.2.2.1.cell 9
                        have v3_10 : yw.cell? ⟨w2.heap.size, 10, none⟩ = some (.slice na1 0 nc1) := hB.now.2.2.2.1.cell 10
                        have v3_11 : yw.cell? ⟨w2.heap.size, 11, none⟩ = some (.slice none 0 0) := hB.now.2.2.2.1.cell 11
                        go_simp
                        exact hK.out _ _ ⟨hB, rfl, Nat.le_refl _, .inl (Below.refl _ _), fun h => absurd h (by decide)⟩
                      refine Stps2.cons (o := _) ?_ ?_
                      · intro ac yw hsz hold hB hp K hK
                        have t120 : ac.tmps[120]? = some (.bool true) := (List.cons.inj (hp 10 (by decide))).1
                        rw [if_pos (wanted_pos rfl rfl t120)]
                        obtain ⟨x12_12, e12, g12_0⟩ := hp 12 (by decide)
                        have t122 : ac.tmps[122]? = some (.agg x12_12) := (List.cons.inj e12).1
                        have e13 := hp 13 (by decide)
                        have t123 : ac.tmps[123]? = some (.agg #[.slice sa sn sc, .bool true, .slice yta tn ytc, .slice yna 0 ync]) := (List.cons.inj e13).1
                        clear hold hp hsz e12 e13
                        go_simp
                        (go_at_call 11; (with_reducible refine (same_true g12_0 (hB.now.2.2.2.2.2.2.2.1)).mono ?_); rintro e wz ⟨rfl, hbz⟩)
                        exact hK.out _ _ ⟨hB.go hbz, rfl, hbz.size, .inl hbz, fun h => absurd h (by decide)⟩
                      refine Stps2.cons (o := _) ?_ ?_
                      · intro ac yw hsz hold hB hp K hK
                        have t120 : ac.tmps[120]? = some (.bool true) := (List.cons.inj (hp 10 (by decide))).1
                        rw [if_pos (wanted_pos rfl rfl t120)]
                        have e14 := hp 14 (by decide)
                        have t124 : ac.tmps[124]? = some (.bool true) := (List.cons.inj e14).1
                        clear hold hp hsz e14
                        go_simp
                        exact hK.out _ _ ⟨hB, rfl, Nat.le_refl _, .inl (Below.refl _ _), fun h => absurd h (by decide)⟩
                      refine Stps2.cons (o := _) ?_ ?_
                      · intro ac yw hsz hold hB hp K hK
                        have t118 : ac.tmps[118]? = some (.bool false) := (List.cons.inj (hp 8 (by decide))).1
                        rw [if_pos (wanted_pos rfl rfl t118)]
                        have e10 := hp 10 (by decide)
                        have t120 : ac.tmps[120]? = some (.bool true) := (List.cons.inj e10).1
                        have e15 := hp 15 (by decide)
                        have t125 : ac.tmps[125]? = some (.bool false) := (List.cons.inj e15).1
                        clear hold hp hsz e10 e15
                        go_simp
                        exact hK.out _ _ ⟨hB, rfl, Nat.le_refl _, .inl (Below.refl _ _), fun h => absurd h (by decide)⟩
                      refine Stps2.cons (o := _) ?_ ?_
                      · intro ac yw hsz hold hB hp K hK
                        have e8 := hp 8 (by decide)
                        have t118 : ac.tmps[118]? = some (.bool false) := (List.cons.inj e8).1
                        have e16 := hp 16 (by decide)
                        have t126 : ac.tmps[126]? = some (.bool false) := (List.cons.inj e16).1
                        clear hold hp hsz e8 e16
                        go_simp
                        exact hK.out _ _ ⟨hB, rfl, Nat.le_refl _, .inl (Below.refl _ _), fun h => absurd h (by decide)⟩
                      refine Stps2.cons (o := _) ?_ ?_
                      · intro ac yw hsz hold hB hp K hK
                        have e17 := hp 17 (by decide)
                        have t127 : ac.tmps[127]? = some (.bool false) := (List.cons.inj e17).1
                        clear hold hp hsz e17
                        go_simp
                        exact hK.out _ _ ⟨hB, rfl, Nat.le_refl _, .inl (Below.refl _ _), fun h => absurd h (by decide)⟩
                      refine Stps2.cons (o := _) ?_ ?_
                      · intro ac yw hsz hold hB hp K hK
                        have t128 : ac.tmps[128]? = some (.bool false) := (List.cons.inj (hp 18 (by decide))).1
                        rw [if_pos (wanted_pos rfl rfl t128)]
                        have t14 : ac.tmps[14]? = some (.bool false) := hold 14 (by kernel_rfl)
                        clear hold hp hsz
                        go_simp
                        exact hK.out _ _ ⟨hB, rfl, Nat.le_refl _, .inl (Below.refl _ _), fun h => absurd h (by decide)⟩
                      refine Stps2.cons (o := _) ?_ ?_
                      · intro ac yw hsz hold hB hp K hK
                        have t128 : ac.tmps[128]? = some (.bool false) := (List.cons.inj (hp 18 (by decide))).1
                        rw [if_pos (wanted_pos rfl rfl t128)]
                        have e19 := hp 19 (by decide)
                        have t129 : ac.tmps[129]? = some (.bool false) := (List.cons.inj e19).1
                        clear hold hp hsz e19
                        go_simp
                        exact hK.out _ _ ⟨hB, rfl, Nat.le_refl _, .inl (Below.refl _ _), fun h => absurd h (by decide)⟩
                      refine Stps2.cons (o := _) ?_ ?_
                      · intro ac yw hsz hold hB hp K hK
                        have t128 : ac.tmps[128]? = some (.bool false) := (List.cons.inj (hp 18 (by decide))).1
                        rw [if_pos (wanted_pos rfl rfl t128)]
                        have e20 := hp 20 (by decide)
                        have t130 : ac.tmps[130]? = some (.bool true) := (List.cons.inj e20).1
                        clear hold hp hsz e20
                        go_simp
                        exact hK.out _ _ ⟨hB, rfl, Nat.le_refl _, .inl (Below.refl _ _), fun h => absurd h (by decide)⟩
                      refine Stps2.cons (o := _) ?_ ?_
                      · intro ac yw hsz hold hB hp K hK
                        have t131 : ac.tmps[131]? = some (.bool true) := (List.cons.inj (hp 21 (by decide))).1
                        rw [if_pos (wanted_pos rfl rfl t131)]
                        have t13 : ac.tmps[13]? = some (.pointer (some ⟨w2.heap.size, 0, none⟩)) := hold 13 (by kernel_rfl)
                        clear hold hp hsz
                        have v0_0 : yw.cell? ⟨kx + 1, 0, none⟩ = some (.slice sa sn sc) := hB.now.1.cell 0
                        have v0_1 : yw.cell? ⟨kx + 1, 1, none⟩ = some (.bool true) := hB.now.1.cell 1
                        have v0_2 : yw.cell? ⟨kx + 1, 2, none⟩ = some (.slice yta tn ytc) := hB.now.1.cell 2
                        have v0_3 : yw.cell? ⟨kx + 1, 3, none⟩ = some (.slice yna 0 ync) := hB.now.1.cell 3
                        have v1_0 : yw.cell? ⟨kx, 0, none⟩ = some (.slice sa sn sc) := hB.now.2.1.cell 0
                        have v1_1 : yw.cell? ⟨kx, 1, none⟩ = some (.bool false) := hB.now.2.1.cell 1
                        have v1_2 : yw.cell? ⟨kx, 2, none⟩ = some (.slice xta 0 xtc) := hB.now.2.1.cell 2
                        have v1_3 : yw.cell? ⟨kx, 3, none⟩ = some (.slice xna k xnc) := hB.now.2.1.cell 3
                        have v2_0 : yw.cell? ⟨w3.heap.size, 0, none⟩ = some (.bool true) := hB.now.2.2.1.cell 0
                        have v2_1 : yw.cell? ⟨w3.heap.size, 1, none⟩ = some (.int .i64 ((sn : Int) - 1)) := hB.now.2.2.1.cell 1
                        have v2_2 : yw.cell? ⟨w3.heap.size, 2, none⟩ = some (.int .i64 (dm S sn 0)) := hB.now.2.2.1.cell 2
                        have v2_3 : yw.cell? ⟨w3.heap.size, 3, none⟩ = some (.int .i64 (dm S sn 1)) := hB.now.2.2.1.cell 3
                        have v2_4 : yw.cell? ⟨w3.heap.size, 4, none⟩ = some (.int .i64 (dm S sn 2)) := hB.now.2.2.1.cell 4
                        have v2_5 : yw.cell? ⟨w3.heap.size, 5, none⟩ = some (.int .i64 (dm S sn 3)) := hB.now.2.2.1.cell 5
                        have v2_6 : yw.cell? ⟨w3.heap.size, 6, none⟩ = some (.int .i64 (dm S sn 4)) := hB.now.2.2.1.cell 6
                        have v2_7 : yw.cell? ⟨w3.heap.size, 7, none⟩ = some (.int .i64 (dm S sn 5)) := hB.now.2.2.1.cell 7
                        have v2_8 : yw.cell? ⟨w3.heap.size, 8, none⟩ = some (.int .i64 (dm S sn 6)) := hB.now.2.2.1.cell 8
                        have v2_9 : yw.cell? ⟨w3.heap.size, 9, none⟩ = some (.int .i64 (dm S sn 7)) := hB.now.2.2.1.cell 9
                        have v2_10 : yw.cell? ⟨w3.heap.size, 10, none⟩ = some (.slice none 0 0) := hB.now.2.2.1.cell 10
                        have v2_11 : yw.cell? ⟨w3.heap.size, 11, none⟩ = some (.slice na2 tn nc2) := hB.now.2.2.1.cell 11
                        have v3_0 : yw.cell? ⟨w2.heap.size, 0, none⟩ = some (.bool false) := hB.now.2.2.2.1.cell 0
                        have v3_1 : yw.cell? ⟨w2.heap.size, 1, none⟩ = some (.int .i64 more) := hB.now.2.2.2.1.cell 1
                        have v3_2 : yw.cell? ⟨w2.heap.size, 2, none⟩ = some (.int .i64 (d 0)) := hB.now.2.2.2.1.cell 2
                        have v3_3 : yw.cell? ⟨w2.heap.size, 3, none⟩ = some (.int .i64 (d 1)) := hB.now.2.2.2.1.cell 3
                        have v3_4 : yw.cell? ⟨w2.heap.size, 4, none⟩ = some (.int .i64 (d 2)) := hB.now.2.2.2.1.cell 4
                        have v3_5 : yw.cell? ⟨w2.heap.size, 5, none⟩ = some (.int .i64 (d 3)) := hB.now.2.2.2.1.cell 5
                        have v3_6 : yw.cell? ⟨w2.heap.size, 6, none⟩ = some (.int .i64 (d 4)) := hB.now.2.2.2.1.cell 6
                        have v3_7 : yw.cell? ⟨w2.heap.size, 7, none⟩ = some (.int .i64 (d 5)) := hB.now.2.2.2.1.cell 7
                        have v3_8 : yw.cell? ⟨w2.heap.size, 8, none⟩ = some (.int .i64 (d 6)) := hB.now.2.2.2.1.cell 8
                        have v3_9 : yw.cell? ⟨w2.heap.size, 9, none⟩ = some (.int .i64 (d 7)) := hB.now.2.2.2.1.cell 9
                        have v3_10 : yw.cell? ⟨w2.heap.size, 10, none⟩ = some (.slice na1 0 nc1) := hB.now.2.2.2.1.cell 10
                        have v3_11 : yw.cell? ⟨w2.heap.size, 11, none⟩ = some (.slice none 0 0) := hB.now.2.2.2.1.cell 11
                        go_simp
                        exact hK.out _ _ ⟨hB, rfl, Nat.le_refl _, .inl (Below.refl _ _), fun h => absurd h (by decide)⟩
                      refine Stps2.cons (o := _) ?_ ?_
                      · intro ac yw hsz hold hB hp K hK
                        have t131 : ac.tmps[131]? = some (.bool true) := (List.cons.inj (hp 21 (by decide))).1
                        rw [if_pos (wanted_pos rfl rfl t131)]
                        have e22 := hp 22 (by decide)
                        have t132 : ac.tmps[132]? = some (.agg #[.bool false, .int .i64 more, .int .i64 (d 0), .int .i64 (d 1), .int .i64 (d 2), .int .i64 (d 3), .int .i64 (d 4), .int .i64 (d 5), .int .i64 (d 6), .int .i64 (d 7), .slice na1 0 nc1, .slice none 0 0]) := (List.cons.inj e22).1
                        clear hold hp hsz e22
                        go_simp
                        (go_at_call 15; (with_reducible refine (len0_any false more d na1 nc1 none 0 _).mono ?_); rintro e wz ⟨rfl, hbz⟩)
                        exact hK.out _ _ ⟨hB.go hbz, rfl, hbz.size, .inl hbz, fun h => absurd h (by decide)⟩
                      refine Stps2.cons (o := _) ?_ ?_
                      · intro ac yw hsz hold hB hp K hK
                        have t131 : ac.tmps[131]? = some (.bool true) := (List.cons.inj (hp 21 (by decide))).1
                        rw [if_pos (wanted_pos rfl rfl t131)]
                        have e23 := hp 23 (by decide)
                        have t133 : ac.tmps[133]? = some (.int .i64 0) := (List.cons.inj e23).1
                        clear hold hp hsz e23
                        go_simp
                        exact hK.out _ _ ⟨hB, rfl, Nat.le_refl _, .inl (Below.refl _ _), fun h => absurd h (by decide)⟩
                      refine Stps2.cons (o := _) ?_ ?_
                      · intro ac yw hsz hold hB hp K hK
                        have t128 : ac.tmps[128]? = some (.bool false) := (List.cons.inj (hp 18 (by decide))).1
                        rw [if_pos (wanted_pos rfl rfl t128)]
                        have e21 := hp 21 (by decide)
                        have t131 : ac.tmps[131]? = some (.bool true) := (List.cons.inj e21).1
                        have e24 := hp 24 (by decide)
                        have t134 : ac.tmps[134]? = some (.bool false) := (List.cons.inj e24).1
                        clear hold hp hsz e21 e24
                        go_simp
                        exact hK.out _ _ ⟨hB, rfl, Nat.le_refl _, .inl (Below.refl _ _), fun h => absurd h (by decide)⟩
                      refine Stps2.cons (o := _) ?_ ?_
                      · intro ac yw hsz hold hB hp K hK
                        have e18 := hp 18 (by decide)
                        have t128 : ac.tmps[128]? = some (.bool false) := (List.cons.inj e18).1
                        have e25 := hp 25 (by decide)
                        have t135 : ac.tmps[135]? = some (.bool false) := (List.cons.inj e25).1
                        clear hold hp hsz e18 e25
                        go_simp
                        exact hK.out _ _ ⟨hB, rfl, Nat.le_refl _, .inl (Below.refl _ _), fun h => absurd h (by decide)⟩
                      refine Stps2.cons (o := _) ?_ ?_
                      · intro ac yw hsz hold hB hp K hK
                        have e26 := hp 26 (by decide)
                        have t136 : ac.tmps[136]? = some (.bool false) := (List.cons.inj e26).1
                        clear hold hp hsz e26
                        go_simp
                        exact hK.out _ _ ⟨hB, rfl, Nat.le_refl _, .inl (Below.refl _ _), fun h => absurd h (by decide)⟩
                      refine Stps2.cons (o := _) ?_ ?_
                      · intro ac yw hsz hold hB hp K hK
                        have t137 : ac.tmps[137]? = some (.bool false) := (List.cons.inj (hp 27 (by decide))).1
                        rw [if_pos (wanted_pos rfl rfl t137)]
                        have t16 : ac.tmps[16]? = some (.bool true) := hold 16 (by kernel_rfl)
                        clear hold hp hsz
                        go_simp
                        exact hK.out _ _ ⟨hB, rfl, Nat.le_refl _, .inl (Below.refl _ _), fun h => absurd h (by decide)⟩
                      refine Stps2.cons (o := _) ?_ ?_
                      · intro ac yw hsz hold hB hp K hK
                        have t137 : ac.tmps[137]? = some (.bool false) := (List.cons.inj (hp 27 (by decide))).1
                        rw [if_pos (wanted_pos rfl rfl t137)]
                        have e28 := hp 28 (by decide)
                        have t138 : ac.tmps[138]? = some (.bool true) := (List.cons.inj e28).1
                        clear hold hp hsz e28
                        go_simp
                        exact hK.out _ _ ⟨hB, rfl, Nat.le_refl _, .inl (Below.refl _ _), fun h => absurd h (by decide)⟩
                      refine Stps2.cons (o := _) ?_ ?_
                      · intro ac yw hsz hold hB hp K hK
                        have t137 : ac.tmps[137]? = some (.bool false) := (List.cons.inj (hp 27 (by decide))).1
                        rw [if_pos (wanted_pos rfl rfl t137)]
                        have e29 := hp 29 (by decide)
                        have t139 : ac.tmps[139]? = some (.bool false) := (List.cons.inj e29).1
                        clear hold hp hsz e29
                        go_simp
                        exact hK.out _ _ ⟨hB, rfl, Nat.le_refl _, .inl (Below.refl _ _), fun h => absurd h (by decide)⟩
                      refine Stps2.cons (o := _) ?_ ?_
                      · intro ac yw hsz hold hB hp K hK
                        have t140 : ac.tmps[140]? = some (.bool false) := (List.cons.inj (hp 30 (by decide))).1
                        rw [if_neg (by rw [wanted_neg rfl rfl t140 (fun e => by cases e)]; decide)]
                        exact hK.out _ _ ⟨hB, trivial, Nat.le_refl _, .inl (Below.refl _ _), fun h => absurd h (by decide)⟩
                      refine Stps2.cons (o := _) ?_ ?_
                      · intro ac yw hsz hold hB hp K hK
                        have t140 : ac.tmps[140]? = some (.bool false) := (List.cons.inj (hp 30 (by decide))).1
                        rw [if_neg (by rw [wanted_neg rfl rfl t140 (fun e => by cases e)]; decide)]
                        exact hK.out _ _ ⟨hB, trivial, Nat.le_refl _, .inl (Below.refl _ _), fun h => absurd h (by decide)⟩
                      refine Stps2.cons (o := _) ?_ ?_
                      · intro ac yw hsz hold hB hp K hK
                        have t140 : ac.tmps[140]? = some (.bool false) := (List.cons.inj (hp 30 (by decide))).1
                        rw [if_neg (by rw [wanted_neg rfl rfl t140 (fun e => by cases e)]; decide)]
                        exact hK.out _ _ ⟨hB, trivial, Nat.le_refl _, .inl (Below.refl _ _), fun h => absurd h (by decide)⟩
                      refine Stps2.cons (o := _) ?_ ?_
                      · intro ac yw hsz hold hB hp K hK
                        have t137 : ac.tmps[137]? = some (.bool false) := (List.cons.inj (hp 27 (by decide))).1
                        rw [if_pos (wanted_pos rfl rfl t137)]
                        have e30 := hp 30 (by decide)
                        have t140 : ac.tmps[140]? = some (.bool false) := (List.cons.inj e30).1
                        clear hold hp hsz e30
                        go_simp
                        exact hK.out _ _ ⟨hB, rfl, Nat.le_refl _, .inl (Below.refl _ _), fun h => absurd h (by decide)⟩
                      refine Stps2.cons (o := _) ?_ ?_
                      · intro ac yw hsz hold hB hp K hK
                        have e27 := hp 27 (by decide)
                        have t137 : ac.tmps[137]? = some (.bool false) := (List.cons.inj e27).1
                        have e34 := hp 34 (by decide)
                        have t144 : ac.tmps[144]? = some (.bool false) := (List.cons.inj e34).1
                        clear hold hp hsz e27 e34
                        go_simp
                        exact hK.out _ _ ⟨hB, rfl, Nat.le_refl _, .inl (Below.refl _ _), fun h => absurd h (by decide)⟩
                      exact Stps2.nil _
                    | false =>
                      have hn := F1.out.2 rfl
                      subst nn1
                      obtain ⟨hch, hn⟩ := F2.out.2 rfl
                      subst hch
                      subst nn2
                      clear F1 F2 H8
                      refine wp_region_inv2 ⟨(fun j => ([[110], [111], [], [], [], [], [], [117], [118], [119], [120], [], [], [], [], [], [126], [127], [128], [129], [130], [131], [132], [133], [134], [135], [136], [137], [138], [139], [140], [141], [142], [143], [144], [145]] : List (List Nat)).getD j []), (fun j => ([[], [0], [0, 1], [0, 1, 2], [0, 1], [0, 1, 2, 3, 4], [0, 1, 2, 3, 4, 5], [0, 1, 2, 3, 4, 5, 6], [0, 1, 2, 3, 4, 5, 6, 7], [0, 1, 2, 3, 4, 5, 6, 7, 8], [0, 1, 2, 3, 4, 5, 6, 7, 8, 9], [0, 1, 2, 3, 4, 5, 6, 7, 8, 9, 10], [0, 1, 2, 3, 4, 5, 6, 7, 8, 9, 10, 11], [0, 1, 2, 3, 4, 5, 6, 7, 8, 9, 10], [0, 1, 2, 3, 4, 5, 6, 7, 8, 9, 10, 11, 12, 13], [0, 1, 2, 3, 4, 5, 6, 7, 8, 9, 10, 11, 12, 13, 14], [0, 1, 2, 3, 4, 5, 6, 7, 8, 9, 10, 11, 12, 13, 14, 15], [0, 1, 2, 3, 4, 5, 6, 7, 8, 9, 10, 11, 12, 13, 14, 15, 16], [0, 1, 2, 3, 4, 5, 6, 7, 8, 9, 10, 11, 12, 13, 14, 15, 16, 17], [0, 1, 2, 3, 4, 5, 6, 7, 8, 9, 10, 11, 12, 13, 14, 15, 16, 17, 18], [0, 1, 2, 3, 4, 5, 6, 7, 8, 9, 10, 11, 12, 13, 14, 15, 16, 17, 18, 19], [0, 1, 2, 3, 4, 5, 6, 7, 8, 9, 10, 11, 12, 13, 14, 15, 16, 17, 18, 19, 20], [0, 1, 2, 3, 4, 5, 6, 7, 8, 9, 10, 11, 12, 13, 14, 15, 16, 17, 18, 19, 20, 21], [0, 1, 2, 3, 4, 5, 6, 7, 8, 9, 10, 11, 12, 13, 14, 15, 16, 17, 18, 19, 20, 21, 22], [0, 1, 2, 3, 4, 5, 6, 7, 8, 9, 10, 11, 12, 13, 14, 15, 16, 17, 18, 19, 20, 21, 22, 23], [0, 1, 2, 3, 4, 5, 6, 7, 8, 9, 10, 11, 12, 13, 14, 15, 16, 17, 18, 19, 20, 21, 22, 23, 24], [0, 1, 2, 3, 4, 5, 6, 7, 8, 9, 10, 11, 12, 13, 14, 15, 16, 17, 18, 19, 20, 21, 22, 23, 24, 25], [0, 1, 2, 3, 4, 5, 6, 7, 8, 9, 10, 11, 12, 13, 14, 15, 16, 17, 18, 19, 20, 21, 22, 23, 24, 25, 26], [0, 1, 2, 3, 4, 5, 6, 7, 8, 9, 10, 11, 12, 13, 14, 15, 16, 17, 18, 19, 20, 21, 22, 23, 24, 25, 26, 27], [0, 1, 2, 3, 4, 5, 6, 7, 8, 9, 10, 11, 12, 13, 14, 15, 16, 17, 18, 19, 20, 21, 22, 23, 24, 25, 26, 27, 28], [0, 1, 2, 3, 4, 5, 6, 7, 8, 9, 10, 11, 12, 13, 14, 15, 16, 17, 18, 19, 20, 21, 22, 23, 24, 25, 26, 27, 28, 29], [0, 1, 2, 3, 4, 5, 6, 7, 8, 9, 10, 11, 12, 13, 14, 15, 16, 17, 18, 19, 20, 21, 22, 23, 24, 25, 26, 27, 28, 29, 30], [0, 1, 2, 3, 4, 5, 6, 7, 8, 9, 10, 11, 12, 13, 14, 15, 16, 17, 18, 19, 20, 21, 22, 23, 24, 25, 26, 27, 28, 29, 30, 31], [0, 1, 2, 3, 4, 5, 6, 7, 8, 9, 10, 11, 12, 13, 14, 15, 16, 17, 18, 19, 20, 21, 22, 23, 24, 25, 26, 27, 28, 29, 30, 31, 32], [0, 1, 2, 3, 4, 5, 6, 7, 8, 9, 10, 11, 12, 13, 14, 15, 16, 17, 18, 19, 20, 21, 22, 23, 24, 25, 26, 27, 28, 29, 30, 31, 32, 33], [0, 1, 2, 3, 4, 5, 6, 7, 8, 9, 10, 11, 12, 13, 14, 15, 16, 17, 18, 19, 20, 21, 22, 23, 24, 25, 26, 27, 28, 29, 30, 31, 32, 33, 34]] : List (List Nat)).getD j []), []⟩ (fun jj vv yy => match jj with | 0 => vv = [some (.bool false)] | 1 => vv = [some (.bool false)] | 2 => True | 3 => True | 4 => True | 5 => True | 6 => True | 7 => vv = [some (.bool false)] | 8 => vv = [some (.bool false)] | 9 => vv = [some (.bool false)] | 10 => vv = [some (.bool false)] | 11 => True | 12 => True | 13 => True | 14 => True | 15 => True | 16 => vv = [some (.bool false)] | 17 => vv = [some (.bool false)] | 18 => vv = [some (.bool false)] | 19 => vv = [some (.bool false)] | 20 => vv = [some (.bool true)] | 21 => vv = [some (.bool true)] | 22 => vv = [some (.agg #[.bool false, .int .i64 more, .int .i64 (d 0), .int .i64 (d 1), .int .i64 (d 2), .int .i64 (d 3), .int .i64 (d 4), .int .i64 (d 5), .int .i64 (d 6), .int .i64 (d 7), .slice na1 0 nc1, .slice none 0 0])] | 23 => vv = [some (.int .i64 0)] | 24 => vv = [some (.bool false)] | 25 => vv = [some (.bool false)] | 26 => vv = [some (.bool false)] | 27 => vv = [some (.bool false)] | 28 => vv = [some (.bool false)] | 29 => vv = [some (.bool true)] | 30 => vv = [some (.bool true)] | 31 => vv = [some (.agg #[.bool false, .int .i64 more2, .int .i64 (d2 0), .int .i64 (d2 1), .int .i64 (d2 2), .int .i64 (d2 3), .int .i64 (d2 4), .int .i64 (d2 5), .int .i64 (d2 6), .int .i64 (d2 7), .slice none 0 0, .slice na2 0 nc2])] | 32 => vv = [some (.int .i64 0)] | 33 => vv = [some (.bool false)] | 34 => vv = [some (.bool false)] | 35 => vv = [some (.bool false)] | _ => True) (Bag w (fun y => Row y (kx + 1) 44 #[.slice sa sn sc, .bool true, .slice yta tn ytc, .slice yna 0 ync] ∧ Row y kx 44 #[.slice sa sn sc, .bool false, .slice xta 0 xtc, .slice xna k xnc] ∧ Row y w3.heap.size 36 #[.bool false, .int .i64 more2, .int .i64 (d2 0), .int .i64 (d2 1), .int .i64 (d2 2), .int .i64 (d2 3), .int .i64 (d2 4), .int .i64 (d2 5), .int .i64 (d2 6), .int .i64 (d2 7), .slice none 0 0, .slice na2 0 nc2] ∧ Row y w2.heap.size 36 #[.bool false, .int .i64 more, .int .i64 (d 0), .int .i64 (d 1), .int .i64 (d 2), .int .i64 (d 3), .int .i64 (d 4), .int .i64 (d 5), .int .i64 (d 6), .int .i64 (d 7), .slice na1 0 nc1, .slice none 0 0] ∧ KRow y .i32 na2 0 nc2 T ∧ RRow y na1 0 nc1 L (fun _ => 1) ∧ PlnAt y #[.slice sa sn sc, .bool false, .slice xta 0 xtc, .slice xna k xnc] S sn false (fun _ => 0) 0 (fun j => rB (L j)) (fun j => rS (L j)) (fun _ => str (dec 1)) k ∧ PlnAt y #[.slice sa sn sc, .bool true, .slice yta tn ytc, .slice yna 0 ync] S sn true T tn (fun _ => rB 0) (fun _ => rS 0) (fun _ => str (dec 1)) 0 ∧ True)) (by kernel_rfl) (by kernel_rfl) (by kernel_rfl) B15.out.drew ?_ ?_ ?_
                      · intro jj vv yw yw2 hb h
                        match jj, h with
                        | 0, h => exact h
                        | 1, h => exact h
                        | 2, h => exact h
                        | 3, h => exact h
                        | 4, h => exact h
                        | 5, h => exact h
                        | 6, h => exact h
                        | 7, h => exact h
                        | 8, h => exact h
                        | 9, h => exact h
                        | 10, h => exact h
                        | 11, h => exact h
                        | 12, h => exact h
                        | 13, h => exact h
                        | 14, h => exact h
                        | 15, h => exact h
                        | 16, h => exact h
                        | 17, h => exact h
                        | 18, h => exact h
                        | 19, h => exact h
                        | 20, h => exact h
                        | 21, h => exact h
                        | 22, h => exact h
                        | 23, h => exact h
                        | 24, h => exact h
                        | 25, h => exact h
                        | 26, h => exact h
                        | 27, h => exact h
                        | 28, h => exact h
                        | 29, h => exact h
                        | 30, h => exact h
                        | 31, h => exact h
                        | 32, h => exact h
                        | 33, h => exact h
                        | 34, h => exact h
                        | 35, h => exact h
                        | _ + 36, h => exact h
                      · intro ac yw hsz hdf hold hB hp
                        exact ⟨hsz, hdf, hold 3 (by kernel_rfl), hold 4 (by kernel_rfl), (List.cons.inj (hp 35 (by decide))).1, hB.below⟩
                      refine Stps2.cons (o := _) ?_ ?_
                      · intro ac yw hsz hold hB hp K hK
                        have t14 : ac.tmps[14]? = some (.bool false) := hold 14 (by kernel_rfl)
                        clear hold hp hsz
                        go_simp
                        exact hK.out _ _ ⟨hB, rfl, Nat.le_refl _, .inl (Below.refl _ _), fun h => absurd h (by decide)⟩
                      refine Stps2.cons (o := _) ?_ ?_
                      · intro ac yw hsz hold hB hp K hK
                        have e0 := hp 0 (by decide)
                        have t110 : ac.tmps[110]? = some (.bool false) := (List.cons.inj e0).1
                        clear hold hp hsz e0
                        go_simp
                        exact hK.out _ _ ⟨hB, rfl, Nat.le_refl _, .inl (Below.refl _ _), fun h => absurd h (by decide)⟩
                      refine Stps2.cons (o := _) ?_ ?_
                      · intro ac yw hsz hold hB hp K hK
                        have t111 : ac.tmps[111]? = some (.bool false) := (List.cons.inj (hp 1 (by decide))).1
                        rw [if_neg (by rw [wanted_neg rfl rfl t111 (fun e => by cases e)]; decide)]
                        exact hK.out _ _ ⟨hB, trivial, Nat.le_refl _, .inl (Below.refl _ _), fun h => absurd h (by decide)⟩
                      refine Stps2.cons (o := _) ?_ ?_
                      · intro ac yw hsz hold hB hp K hK
                        have t111 : ac.tmps[111]? = some (.bool false) := (List.cons.inj (hp 1 (by decide))).1
                        rw [if_neg (by rw [wanted_neg rfl rfl t111 (fun e => by cases e)]; decide)]
                        exact hK.out _ _ ⟨hB, trivial, Nat.le_refl _, .inl (Below.refl _ _), fun h => absurd h (by decide)⟩
                      refine Stps2.cons (o := _) ?_ ?_
                      · intro ac yw hsz hold hB hp K hK
                        have t111 : ac.tmps[111]? = some (.bool false) := (List.cons.inj (hp 1 (by decide))).1
                        rw [if_neg (by rw [wanted_neg rfl rfl t111 (fun e => by cases e)]; decide)]
                        exact hK.out _ _ ⟨hB, trivial, Nat.le_refl _, .inl (Below.refl _ _), fun h => absurd h (by decide)⟩
                      refine Stps2.cons (o := _) ?_ ?_
                      · intro ac yw hsz hold hB hp K hK
                        have t111 : ac.tmps[111]? = some (.bool false) := (List.cons.inj (hp 1 (by decide))).1
                        rw [if_neg (by rw [wanted_neg rfl rfl t111 (fun e => by cases e)]; decide)]
                        exact hK.out _ _ ⟨hB, trivial, Nat.le_refl _, .inl (Below.refl _ _), fun h => absurd h (by decide)⟩
                      refine Stps2.cons (o := _) ?_ ?_
                      · intro ac yw hsz hold hB hp K hK
                        have t111 : ac.tmps[111]? = some (.bool false) := (List.cons.inj (hp 1 (by decide))).1
                        rw [if_neg (by rw [wanted_neg rfl rfl t111 (fun e => by cases e)]; decide)]
                        exact hK.out _ _ ⟨hB, trivial, Nat.le_refl _, .inl (Below.refl _ _), fun h => absurd h (by decide)⟩
                      refine Stps2.cons (o := _) ?_ ?_
                      · intro ac yw hsz hold hB hp K hK
                        have e1 := hp 1 (by decide)
                        have t111 : ac.tmps[111]? = some (.bool false) := (List.cons.inj e1).1
                        clear hold hp hsz e1
                        go_simp
                        exact hK.out _ _ ⟨hB, rfl, Nat.le_refl _, .inl (Below.refl _ _), fun h => absurd h (by decide)⟩
                      refine Stps2.cons (o := _) ?_ ?_
                      · intro ac yw hsz hold hB hp K hK
                        have e7 := hp 7 (by decide)
                        have t117 : ac.tmps[117]? = some (.bool false) := (List.cons.inj e7).1
                        clear hold hp hsz e7
                        go_simp
                        exact hK.out _ _ ⟨hB, rfl, Nat.le_refl _, .inl (Below.refl _ _), fun h => absurd h (by decide)⟩
                      refine Stps2.cons (o := _) ?_ ?_
                      · intro ac yw hsz hold hB hp K hK
                        have t118 : ac.tmps[118]? = some (.bool false) := (List.cons.inj (hp 8 (by decide))).1
                        rw [if_pos (wanted_pos rfl rfl t118)]
                        have t16 : ac.tmps[16]? = some (.bool false) := hold 16 (by kernel_rfl)
                        clear hold hp hsz
                        go_simp
                        exact hK.out _ _ ⟨hB, rfl, Nat.le_refl _, .inl (Below.refl _ _), fun h => absurd h (by decide)⟩
                      refine Stps2.cons (o := _) ?_ ?_
                      · intro ac yw hsz hold hB hp K hK
                        have t118 : ac.tmps[118]? = some (.bool false) := (List.cons.inj (hp 8 (by decide))).1
                        rw [if_pos (wanted_pos rfl rfl t118)]
                        have e9 := hp 9 (by decide)
                        have t119 : ac.tmps[119]? = some (.bool false) := (List.cons.inj e9).1
                        clear hold hp hsz e9
                        go_simp
                        exact hK.out _ _ ⟨hB, rfl, Nat.le_refl _, .inl (Below.refl _ _), fun h => absurd h (by decide)⟩
                      refine Stps2.cons (o := _) ?_ ?_
                      · intro ac yw hsz hold hB hp K hK
                        have t120 : ac.tmps[120]? = some (.bool false) := (List.cons.inj (hp 10 (by decide))).1
                        rw [if_neg (by rw [wanted_neg rfl rfl t120 (fun e => by cases e)]; decide)]
                        exact hK.out _ _ ⟨hB, trivial, Nat.le_refl _, .inl (Below.refl _ _), fun h => absurd h (by decide)⟩
                      refine Stps2.cons (o := _) ?_ ?_
                      · intro ac yw hsz hold hB hp K hK
                        have t120 : ac.tmps[120]? = some (.bool false) := (List.cons.inj (hp 10 (by decide))).1
                        rw [if_neg (by rw [wanted_neg rfl rfl t120 (fun e => by cases e)]; decide)]
                        exact hK.out _ _ ⟨hB, trivial, Nat.le_refl _, .inl (Below.refl _ _), fun h => absurd h (by decide)⟩
                      refine Stps2.cons (o := _) ?_ ?_
                      · intro ac yw hsz hold hB hp K hK
                        have t120 : ac.tmps[120]? = some (.bool false) := (List.cons.inj (hp 10 (by decide))).1
                        rw [if_neg (by rw [wanted_neg rfl rfl t120 (fun e => by cases e)]; decide)]
                        exact hK.out _ _ ⟨hB, trivial, Nat.le_refl _, .inl (Below.refl _ _), fun h => absurd h (by decide)⟩
                      refine Stps2.cons (o := _) ?_ ?_
                      · intro ac yw hsz hold hB hp K hK
                        have t120 : ac.tmps[120]? = some (.bool false) := (List.cons.inj (hp 10 (by decide))).1
                        rw [if_neg (by rw [wanted_neg rfl rfl t120 (fun e => by cases e)]; decide)]
                        exact hK.out _ _ ⟨hB, trivial, Nat.le_refl _, .inl (Below.refl _ _), fun h => absurd h (by decide)⟩
                      refine Stps2.cons (o := _) ?_ ?_
                      · intro ac yw hsz hold hB hp K hK
                        have t120 : ac.tmps[120]? = some (.bool false) := (List.cons.inj (hp 10 (by decide))).1
                        rw [if_neg (by rw [wanted_neg rfl rfl t120 (fun e => by cases e)]; decide)]
                        exact hK.out _ _ ⟨hB, trivial, Nat.le_refl _, .inl (Below.refl _ _), fun h => absurd h (by decide)⟩
                      refine Stps2.cons (o := _) ?_ ?_
                      · intro ac yw hsz hold hB hp K hK
                        have t118 : ac.tmps[118]? = some (.bool false) := (List.cons.inj (hp 8 (by decide))).1
                        rw [if_pos (wanted_pos rfl rfl t118)]
                        have e10 := hp 10 (by decide)
                        have t120 : ac.tmps[120]? = some (.bool false) := (List.cons.inj e10).1
                        clear hold hp hsz e10
                        go_simp
                        exact hK.out _ _ ⟨hB, rfl, Nat.le_refl _, .inl (Below.refl _ _), fun h => absurd h (by decide)⟩
                      refine Stps2.cons (o := _) ?_ ?_
                      · intro ac yw hsz hold hB hp K hK
                        have e8 := hp 8 (by decide)
                        have t118 : ac.tmps[118]? = some (.bool false) := (List.cons.inj e8).1
                        have e16 := hp 16 (by decide)
                        have t126 : ac.tmps[126]? = some (.bool false) := (List.cons.inj e16).1
                        clear hold hp hsz e8 e16
                        go_simp
                        exact hK.out _ _ ⟨hB, rfl, Nat.le_refl _, .inl (Below.refl _ _), fun h => absurd h (by decide)⟩
                      refine Stps2.cons (o := _) ?_ ?_
                      · intro ac yw hsz hold hB hp K hK
                        have e17 := hp 17 (by decide)
                        have t127 : ac.tmps[127]? = some (.bool false) := (List.cons.inj e17).1
                        clear hold hp hsz e17
                        go_simp
                        exact hK.out _ _ ⟨hB, rfl, Nat.le_refl _, .inl (Below.refl _ _), fun h => absurd h (by decide)⟩
                      refine Stps2.cons (o := _) ?_ ?_
                      · intro ac yw hsz hold hB hp K hK
                        have t128 : ac.tmps[128]? = some (.bool false) := (List.cons.inj (hp 18 (by decide))).1
                        rw [if_pos (wanted_pos rfl rfl t128)]
                        have t14 : ac.tmps[14]? = some (.bool false) := hold 14 (by kernel_rfl)
                        clear hold hp hsz
                        go_simp
                        exact hK.out _ _ ⟨hB, rfl, Nat.le_refl _, .inl (Below.refl _ _), fun h => absurd h (by decide)⟩
                      refine Stps2.cons (o := _) ?_ ?_
                      · intro ac yw hsz hold hB hp K hK
                        have t128 : ac.tmps[128]? = some (.bool false) := (List.cons.inj (hp 18 (by decide))).1
                        rw [if_pos (wanted_pos rfl rfl t128)]
                        have e19 := hp 19 (by decide)
                        have t129 : ac.tmps[129]? = some (.bool false) := (List.cons.inj e19).1
                        clear hold hp hsz e19
                        go_simp
                        exact hK.out _ _ ⟨hB, rfl, Nat.le_refl _, .inl (Below.refl _ _), fun h => absurd h (by decide)⟩
                      refine Stps2.cons (o := _) ?_ ?_
                      · intro ac yw hsz hold hB hp K hK
                        have t128 : ac.tmps[128]? = some (.bool false) := (List.cons.inj (hp 18 (by decide))).1
                        rw [if_pos (wanted_pos rfl rfl t128)]
                        have e20 := hp 20 (by decide)
                        have t130 : ac.tmps[130]? = some (.bool true) := (List.cons.inj e20).1
                        clear hold hp hsz e20
                        go_simp
                        exact hK.out _ _ ⟨hB, rfl, Nat.le_refl _, .inl (Below.refl _ _), fun h => absurd h (by decide)⟩
                      refine Stps2.cons (o := _) ?_ ?_
                      · intro ac yw hsz hold hB hp K hK
                        have t131 : ac.tmps[131]? = some (.bool true) := (List.cons.inj (hp 21 (by decide))).1
                        rw [if_pos (wanted_pos rfl rfl t131)]
                        have t13 : ac.tmps[13]? = some (.pointer (some ⟨w2.heap.size, 0, none⟩)) := hold 13 (by kernel_rfl)
                        clear hold hp hsz
                        have v0_0 : yw.cell? ⟨kx + 1, 0, none⟩ = some (.slice sa sn sc) := hB.now.1.cell 0
                        have v0_1 : yw.cell? ⟨kx + 1, 1, none⟩ = some (.bool true) := hB.now.1.cell 1
                        have v0_2 : yw.cell? ⟨kx + 1, 2, none⟩ = some (.slice yta tn ytc) := hB.now.1.cell 2
                        have v0_3 : yw.cell? ⟨kx + 1, 3, none⟩ = some (.slice yna 0 ync) := hB.now.1.cell 3
                        have v1_0 : yw.cell? ⟨kx, 0, none⟩ = some (.slice sa sn sc) := hB.now.2.1.cell 0
                        have v1_1 : yw.cell? ⟨kx, 1, none⟩ = some (.bool false) := hB.now.2.1.cell 1
                        have v1_2 : yw.cell? ⟨kx, 2, none⟩ = some (.slice xta 0 xtc) := hB.now.2.1.cell 2
                        have v1_3 : yw.cell? ⟨kx, 3, none⟩ = some (.slice xna k xnc) := hB.now.2.1.cell 3
                        have v2_0 : yw.cell? ⟨w3.heap.size, 0, none⟩ = some (.bool false) := hB.now.2.2.1.cell 0
                        have v2_1 : yw.cell? ⟨w3.heap.size, 1, none⟩ = some (.int .i64 more2) := hB.now.2.2.1.cell 1
                        have v2_2 : yw.cell? ⟨w3.heap.size, 2, none⟩ = some (.int .i64 (d2 0)) := hB.now.2.2.1.cell 2
                        have v2_3 : yw.cell? ⟨w3.heap.size, 3, none⟩ = some (.int .i64 (d2 1)) := hB.now.2.2.1.cell 3
                        have v2_4 : yw.cell? ⟨w3.heap.size, 4, none⟩ = some (.int .i64 (d2 2)) := hB.now.2.2.1.cell 4
                        have v2_5 : yw.cell? ⟨w3.heap.size, 5, none⟩ = some (.int .i64 (d2 3)) := hB.now.2.2.1.cell 5
                        have v2_6 : yw.cell? ⟨w3.heap.size, 6, none⟩ = some (.int .i64 (d2 4)) := hB.now.2.2.1.cell 6
                        have v2_7 : yw.cell? ⟨w3.heap.size, 7, none⟩ = some (.int .i64 (d2 5)) := hB.now.2.2.1.cell 7
                        have v2_8 : yw.cell? ⟨w3.heap.size, 8, none⟩ = some (.int .i64 (d2 6)) := hB.now.2.2.1.cell 8
                        have v2_9 : yw.cell? ⟨w3.heap.size, 9, none⟩ = some (.int .i64 (d2 7)) := hB.now.2.2.1.cell 9
                        have v2_10 : yw.cell? ⟨w3.heap.size, 10, none⟩ = some (.slice none 0 0) := hB.now.2.2.1.cell 10
                        have v2_11 : yw.cell? ⟨w3.heap.size, 11, none⟩ = some (.slice na2 0 nc2) := hB.now.2.2.1.cell 11
                        have v3_0 : yw.cell? ⟨w2.heap.size, 0, none⟩ = some (.bool false) := hB.now.2.2.2.1.cell 0
                        have v3_1 : yw.cell? ⟨w2.heap.size, 1, none⟩ = some (.int .i64 more) := hB.now.2.2.2.1.cell 1
                        have v3_2 : yw.cell? ⟨w2.heap.size, 2, none⟩ = some (.int .i64 (d 0)) := hB.now.2.2.2.1.cell 2
                        have v3_3 : yw.cell? ⟨w2.heap.size, 3, none⟩ = some (.int .i64 (d 1)) := hB.now.2.2.2.1.cell 3
                        have v3_4 : yw.cell? ⟨w2.heap.size, 4, none⟩ = some (.int .i64 (d 2)) := hB.now.2.2.2.1.cell 4
                        have v3_5 : yw.cell? ⟨w2.heap.size, 5, none⟩ = some (.int .i64 (d 3)) := hB.now.2.2.2.1.cell 5
                        have v3_6 : yw.cell? ⟨w2.heap.size, 6, none⟩ = some (.int .i64 (d 4)) := hB.now.2.2.2.1.cell 6
                        have v3_7 : yw.cell? ⟨w2.heap.size, 7, none⟩ = some (.int .i64 (d 5)) := hB.now.2.2.2.1.cell 7
                        have v3_8 : yw.cell? ⟨w2.heap.size, 8, none⟩ = some (.int .i64 (d 6)) := hB.now.2.2.2.1.cell 8
                        have v3_9 : yw.cell? ⟨w2.heap.size, 9, none⟩ = some (.int .i64 (d 7)) := hB.now.2.2.2.1.cell 9
                        have v3_10 : yw.cell? ⟨w2.heap.size, 10, none⟩ = some (.slice na1 0 nc1) := hB.now.2.2.2.1.cell 10
                        have v3_11 : yw.cell? ⟨w2.heap.size, 11, none⟩ = some (.slice none 0 0) := hB.now.2.2.2.1.cell 11
                        go_simp
                        exact hK.out _ _ ⟨hB, rfl, Nat.le_refl _, .inl (Below.refl _ _), fun h => absurd h (by decide)⟩
                      refine Stps2.cons (o := _) ?_ ?_
                      · intro ac yw hsz hold hB hp K hK
                        have t131 : ac.tmps[131]? = some (.bool true) := (List.cons.inj (hp 21 (by decide))).1
                        rw [if_pos (wanted_pos rfl rfl t131)]
                        have e22 := hp 22 (by decide)
                        have t132 : ac.tmps[132]? = some (.agg #[.bool false, .int .i64 more, .int .i64 (d 0), .int .i64 (d 1), .int .i64 (d 2), .int .i64 (d 3), .int .i64 (d 4), .int .i64 (d 5), .int .i64 (d 6), .int .i64 (d 7), .slice na1 0 nc1, .slice none 0 0]) := (List.cons.inj e22).1
                        clear hold hp hsz e22
                        go_simp
                        (go_at_call 15; (with_reducible refine (len0_any false more d na1 nc1 none 0 _).mono ?_); rintro e wz ⟨rfl, hbz⟩)
                        exact hK.out _ _ ⟨hB.go hbz, rfl, hbz.size, .inl hbz, fun h => absurd h (by decide)⟩
                      refine Stps2.cons (o := _) ?_ ?_
                      · intro ac yw hsz hold hB hp K hK
                        have t131 : ac.tmps[131]? = some (.bool true) := (List.cons.inj (hp 21 (by decide))).1
                        rw [if_pos (wanted_pos rfl rfl t131)]
                        have e23 := hp 23 (by decide)
                        have t133 : ac.tmps[133]? = some (.int .i64 0) := (List.cons.inj e23).1
                        clear hold hp hsz e23
                        go_simp
                        exact hK.out _ _ ⟨hB, rfl, Nat.le_refl _, .inl (Below.refl _ _), fun h => absurd h (by decide)⟩
                      refine Stps2.cons (o := _) ?_ ?_
                      · intro ac yw hsz hold hB hp K hK
                        have t128 : ac.tmps[128]? = some (.bool false) := (List.cons.inj (hp 18 (by decide))).1
                        rw [if_pos (wanted_pos rfl rfl t128)]
                        have e21 := hp 21 (by decide)
                        have t131 : ac.tmps[131]? = some (.bool true) := (List.cons.inj e21).1
                        have e24 := hp 24 (by decide)
                        have t134 : ac.tmps[134]? = some (.bool false) := (List.cons.inj e24).1
                        clear hold hp hsz e21 e24
                        go_simp
                        exact hK.out _ _ ⟨hB, rfl, Nat.le_refl _, .inl (Below.refl _ _), fun h => absurd h (by decide)⟩
                      refine Stps2.cons (o := _) ?_ ?_
                      · intro ac yw hsz hold hB hp K hK
                        have e18 := hp 18 (by decide)
                        have t128 : ac.tmps[128]? = some (.bool false) := (List.cons.inj e18).1
                        have e25 := hp 25 (by decide)
                        have t135 : ac.tmps[135]? = some (.bool false) := (List.cons.inj e25).1
                        clear hold hp hsz e18 e25
                        go_simp
                        exact hK.out _ _ ⟨hB, rfl, Nat.le_refl _, .inl (Below.refl _ _), fun h => absurd h (by decide)⟩
                      refine Stps2.cons (o := _) ?_ ?_
                      · intro ac yw hsz hold hB hp K hK
                        have e26 := hp 26 (by decide)
                        have t136 : ac.tmps[136]? = some (.bool false) := (List.cons.inj e26).1
                        clear hold hp hsz e26
                        go_simp
                        exact hK.out _ _ ⟨hB, rfl, Nat.le_refl _, .inl (Below.refl _ _), fun h => absurd h (by decide)⟩
                      refine Stps2.cons (o := _) ?_ ?_
                      · intro ac yw hsz hold hB hp K hK
                        have t137 : ac.tmps[137]? = some (.bool false) := (List.cons.inj (hp 27 (by decide))).1
                        rw [if_pos (wanted_pos rfl rfl t137)]
                        have t16 : ac.tmps[16]? = some (.bool false) := hold 16 (by kernel_rfl)
                        clear hold hp hsz
                        go_simp
                        exact hK.out _ _ ⟨hB, rfl, Nat.le_refl _, .inl (Below.refl _ _), fun h => absurd h (by decide)⟩
                      refine Stps2.cons (o := _) ?_ ?_
                      · intro ac yw hsz hold hB hp K hK
                        have t137 : ac.tmps[137]? = some (.bool false) := (List.cons.inj (hp 27 (by decide))).1
                        rw [if_pos (wanted_pos rfl rfl t137)]
                        have e28 := hp 28 (by decide)
                        have t138 : ac.tmps[138]? = some (.bool false) := (List.cons.inj e28).1
                        clear hold hp hsz e28
                        go_simp
                        exact hK.out _ _ ⟨hB, rfl, Nat.le_refl _, .inl (Below.refl _ _), fun h => absurd h (by decide)⟩
                      refine Stps2.cons (o := _) ?_ ?_
                      · intro ac yw hsz hold hB hp K hK
                        have t137 : ac.tmps[137]? = some (.bool false) := (List.cons.inj (hp 27 (by decide))).1
                        rw [if_pos (wanted_pos rfl rfl t137)]
                        have e29 := hp 29 (by decide)
                        have t139 : ac.tmps[139]? = some (.bool true) := (List.cons.inj e29).1
                        clear hold hp hsz e29
                        go_simp
                        exact hK.out _ _ ⟨hB, rfl, Nat.le_refl _, .inl (Below.refl _ _), fun h => absurd h (by decide)⟩
                      refine Stps2.cons (o := _) ?_ ?_
                      · intro ac yw hsz hold hB hp K hK
                        have t140 : ac.tmps[140]? = some (.bool true) := (List.cons.inj (hp 30 (by decide))).1
                        rw [if_pos (wanted_pos rfl rfl t140)]
                        have t15 : ac.tmps[15]? = some (.pointer (some ⟨w3.heap.size, 0, none⟩)) := hold 15 (by kernel_rfl)
                        clear hold hp hsz
                        have v0_0 : yw.cell? ⟨kx + 1, 0, none⟩ = some (.slice sa sn sc) := hB.now.1.cell 0
                        have v0_1 : yw.cell? ⟨kx + 1, 1, none⟩ = some (.bool true) := hB.now.1.cell 1
                        have v0_2 : yw.cell? ⟨kx + 1, 2, none⟩ = some (.slice yta tn ytc) := hB.now.1.cell 2
                        have v0_3 : yw.cell? ⟨kx + 1, 3, none⟩ = some (.slice yna 0 ync) := hB.now.1.cell 3
                        have v1_0 : yw.cell? ⟨kx, 0, none⟩ = some (.slice sa sn sc) := hB.now.2.1.cell 0
                        have v1_1 : yw.cell? ⟨kx, 1, none⟩ = some (.bool false) := hB.now.2.1.cell 1
                        have v1_2 : yw.cell? ⟨kx, 2, none⟩ = some (.slice xta 0 xtc) := hB.now.2.1.cell 2
                        have v1_3 : yw.cell? ⟨kx, 3, none⟩ = some (.slice xna k xnc) := hB.now.2.1.cell 3
                        have v2_0 : yw.cell? ⟨w3.heap.size, 0, none⟩ = some (.bool false) := hB.now.2.2.1.cell 0
                        have v2_1 : yw.cell? ⟨w3.heap.size, 1, none⟩ = some (.int .i64 more2) := hB.now.2.2.1.cell 1
                        have v2_2 : yw.cell? ⟨w3.heap.size, 2, none⟩ = some (.int .i64 (d2 0)) := hB.now.2.2.1.cell 2
                        have v2_3 : yw.cell? ⟨w3.heap.size, 3, none⟩ = some (.int .i64 (d2 1)) := hB.now.2.2.1.cell 3
                        have v2_4 : yw.cell? ⟨w3.heap.size, 4, none⟩ = some (.int .i64 (d2 2)) := hB.now.2.2.1.cell 4
                        have v2_5 : yw.cell? ⟨w3.heap.size, 5, none⟩ = some (.int .i64 (d2 3)) := hB.now.2.2.1.cell 5
                        have v2_6 : yw.cell? ⟨w3.heap.size, 6, none⟩ = some (.int .i64 (d2 4)) := hB.now.2.2.1.cell 6
                        have v2_7 : yw.cell? ⟨w3.heap.size, 7, none⟩ = some (.int .i64 (d2 5)) := hB.now.2.2.1.cell 7
                        have v2_8 : yw.cell? ⟨w3.heap.size, 8, none⟩ = some (.int .i64 (d2 6)) := hB.now.2.2.1.cell 8
                        have v2_9 : yw.cell? ⟨w3.heap.size, 9, none⟩ = some (.int .i64 (d2 7)) := hB.now.2.2.1.cell 9
                        have v2_10 : yw.cell? ⟨w3.heap.size, 10, none⟩ = some (.slice none 0 0) := hB.now.2.2.1.cell 10
                        have v2_11 : yw.cell? ⟨w3.heap.size, 11, none⟩ = some (.slice na2 0 nc2) := hB.now.2.2.1.cell 11
                        have v3_0 : yw.cell? ⟨w2.heap.size, 0, none⟩ = some (.bool false) := hB.now.2.2.2.1.cell 0
                        have v3_1 : yw.cell? ⟨w2.heap.size, 1, none⟩ = some (.int .i64 more) := hB.now.2.2.2.1.cell 1
                        have v3_2 : yw.cell? ⟨w2.heap.size, 2, none⟩ = some (.int .i64 (d 0)) := hB.now.2.2.2.1.cell 2
                        have v3_3 : yw.cell? ⟨w2.heap.size, 3, none⟩ = some (.int .i64 (d 1)) := hB.now.2.2.2.1.cell 3
                        have v3_4 : yw.cell? ⟨w2.heap.size, 4, none⟩ = some (.int .i64 (d 2)) := hB.now.2.2.2.1.cell 4
                        have v3_5 : yw.cell? ⟨w2.heap.size, 5, none⟩ = some (.int .i64 (d 3)) := hB.now.2.2.2.1.cell 5
                        have v3_6 : yw.cell? ⟨w2.heap.size, 6, none⟩ = some (.int .i64 (d 4)) := hB.now.2.2.2.1.cell 6
                        have v3_7 : yw.cell? ⟨w2.heap.size, 7, none⟩ = some (.int .i64 (d 5)) := hB.now.2.2.2.1.cell 7
                        have v3_8 : yw.cell? ⟨w2.heap.size, 8, none⟩ = some (.int .i64 (d 6)) := hB.now.2.2.2.1.cell 8
                        have v3_9 : yw.cell? ⟨w2.heap.size, 9, none⟩ = some (.int .i64 (d 7)) := hB.now.2.2.2.1.cell 9
                        have v3_10 : yw.cell? ⟨w2.heap.size, 10, none⟩ = some (.slice na1 0 nc1) := hB.now.2.2.2.1.cell 10
                        have v3_11 : yw.cell? ⟨w2.heap.size, 11, none⟩ = some (.slice none 0 0) := hB.now.2.2.2.1.cell 11
                        go_simp
                        exact hK.out _ _ ⟨hB, rfl, Nat.le_refl _, .inl (Below.refl _ _), fun h => absurd h (by decide)⟩
                      refine Stps2.cons (o := _) ?_ ?_
                      · intro ac yw hsz hold hB hp K hK
                        have t140 : ac.tmps[140]? = some (.bool true) := (List.cons.inj (hp 30 (by decide))).1
                        rw [if_pos (wanted_pos rfl rfl t140)]
                        have e31 := hp 31 (by decide)
                        have t141 : ac.tmps[141]? = some (.agg #[.bool false, .int .i64 more2, .int .i64 (d2 0), .int .i64 (d2 1), .int .i64 (d2 2), .int .i64 (d2 3), .int .i64 (d2 4), .int .i64 (d2 5), .int .i64 (d2 6), .int .i64 (d2 7), .slice none 0 0, .slice na2 0 nc2]) := (List.cons.inj e31).1
                        clear hold hp hsz e31
                        go_simp
                        (go_at_call 15; (with_reducible refine (len0_any false more2 d2 none 0 na2 nc2 _).mono ?_); rintro e wz ⟨rfl, hbz⟩)
                        exact hK.out _ _ ⟨hB.go hbz, rfl, hbz.size, .inl hbz, fun h => absurd h (by decide)⟩
                      refine Stps2.cons (o := _) ?_ ?_
                      · intro ac yw hsz hold hB hp K hK
                        have t140 : ac.tmps[140]? = some (.bool true) := (List.cons.inj (hp 30 (by decide))).1
                        rw [if_pos (wanted_pos rfl rfl t140)]
                        have e32 := hp 32 (by decide)
                        have t142 : ac.tmps[142]? = some (.int .i64 0) := (List.cons.inj e32).1
                        clear hold hp hsz e32
                        go_simp
                        exact hK.out _ _ ⟨hB, rfl, Nat.le_refl _, .inl (Below.refl _ _), fun h => absurd h (by decide)⟩
                      refine Stps2.cons (o := _) ?_ ?_
                      · intro ac yw hsz hold hB hp K hK
                        have t137 : ac.tmps[137]? = some (.bool false) := (List.cons.inj (hp 27 (by decide))).1
                        rw [if_pos (wanted_pos rfl rfl t137)]
                        have e30 := hp 30 (by decide)
                        have t140 : ac.tmps[140]? = some (.bool true) := (List.cons.inj e30).1
                        have e33 := hp 33 (by decide)
                        have t143 : ac.tmps[143]? = some (.bool false) := (List.cons.inj e33).1
                        clear hold hp hsz e30 e33
                        go_simp
                        exact hK.out _ _ ⟨hB, rfl, Nat.le_refl _, .inl (Below.refl _ _), fun h => absurd h (by decide)⟩
                      refine Stps2.cons (o := _) ?_ ?_
                      · intro ac yw hsz hold hB hp K hK
                        have e27 := hp 27 (by decide)
                        have t137 : ac.tmps[137]? = some (.bool false) := (List.cons.inj e27).1
                        have e34 := hp 34 (by decide)
                        have t144 : ac.tmps[144]? = some (.bool false) := (List.cons.inj e34).1
                        clear hold hp hsz e27 e34
                        go_simp
                        exact hK.out _ _ ⟨hB, rfl, Nat.le_refl _, .inl (Below.refl _ _), fun h => absurd h (by decide)⟩
                      exact Stps2.nil _
              all_goals exact fun h => h.elim
            · have B12 := Lib.hid (((((((⟨Below.refl _ _, fun _ _ _ _ => trivial, trivial⟩ : Bag y12 (fun _ => True) y12).krow (BB.out.now.2.2.2.2.2.2.2.2.2.2.2.2.2.2.2.1)).krow (BB.out.now.2.2.2.2.2.2.2.2.2.2.2.2.2.2.1)).pln (BB.out.now.2.2.2.2.2.2.2.2.1)).pln (BB.out.now.2.2.2.2.2.2.2.1)).row (BB.out.now.2.1)).row (BB.out.now.1))
              have Q2 := Q1.out
              clear Q1
              cases sh with
              | true =>
                obtain ⟨q1, q2⟩ := Q2.1 rfl
                clear Q2
                refine wp_region_inv2 ⟨(fun j => ([[70], [71], [72], [73], [74], [75], [76], [77], [78], [79], [80], [81], [82], [83], [84], [85], [86], [87], [88], [89], [90], [91], [92], [93], [94], [95], [96], [97], [98], [99], [100], [101], [102], [103], [104], [105]] : List (List Nat)).getD j []), (fun j => ([[], [], [1], [1, 2], [1, 2], [1, 2, 4], [1, 2, 3, 4, 5], [1, 2, 3, 4, 5, 6], [0, 1, 2, 3, 4, 5, 6, 7], [0, 1, 2, 3, 4, 5, 6, 7, 8], [0, 1, 2, 3, 4, 5, 6, 7, 8, 9], [0, 1, 2, 3, 4, 5, 6, 7, 8, 9], [0, 1, 2, 3, 4, 5, 6, 7, 8, 9, 11], [0, 1, 2, 3, 4, 5, 6, 7, 8, 9, 11, 12], [0, 1, 2, 3, 4, 5, 6, 7, 8, 9, 11, 12], [0, 1, 2, 3, 4, 5, 6, 7, 8, 9, 11, 12, 14], [0, 1, 2, 3, 4, 5, 6, 7, 8, 9, 11, 12, 13, 14, 15], [0, 1, 2, 3, 4, 5, 6, 7, 8, 9, 11, 12, 13, 14, 15, 16], [0, 1, 2, 3, 4, 5, 6, 7, 8, 9, 10, 11, 12, 13, 14, 15, 16, 17], [0, 1, 2, 3, 4, 5, 6, 7, 8, 9, 10, 11, 12, 13, 14, 15, 16, 17, 18], [0, 1, 2, 3, 4, 5, 6, 7, 8, 9, 10, 11, 12, 13, 14, 15, 16, 17, 18, 19], [0, 1, 2, 3, 4, 5, 6, 7, 8, 9, 10, 11, 12, 13, 14, 15, 16, 17, 18, 19, 20], [0, 1, 2, 3, 4, 5, 6, 7, 8, 9, 10, 11, 12, 13, 14, 15, 16, 17, 18, 19, 20, 21], [0, 1, 2, 3, 4, 5, 6, 7, 8, 9, 10, 11, 12, 13, 14, 15, 16, 17, 18, 19, 20, 21, 22], [0, 1, 2, 3, 4, 5, 6, 7, 8, 9, 10, 11, 12, 13, 14, 15, 16, 17, 18, 19, 20], [0, 1, 2, 3, 4, 5, 6, 7, 8, 9, 10, 11, 12, 13, 14, 15, 16, 17, 18, 19, 20, 21, 22, 23, 24], [0, 1, 2, 3, 4, 5, 6, 7, 8, 9, 10, 11, 12, 13, 14, 15, 16, 17, 18, 19, 20, 21, 22, 23, 24, 25], [0, 1, 2, 3, 4, 5, 6, 7, 8, 9, 10, 11, 12, 13, 14, 15, 16, 17, 18, 19, 20, 21, 22, 23, 24, 25, 26], [0, 1, 2, 3, 4, 5, 6, 7, 8, 9, 10, 11, 12, 13, 14, 15, 16, 17, 18, 19, 20, 21, 22, 23, 24, 25, 26, 27], [0, 1, 2, 3, 4, 5, 6, 7, 8, 9, 10, 11, 12, 13, 14, 15, 16, 17, 18, 19, 20, 21, 22, 23, 24, 25, 26, 27, 28], [0, 1, 2, 3, 4, 5, 6, 7, 8, 9, 10, 11, 12, 13, 14, 15, 16, 17, 18, 19, 20, 21, 22, 23, 24, 25, 26, 27, 28, 29], [0, 1, 2, 3, 4, 5, 6, 7, 8, 9, 10, 11, 12, 13, 14, 15, 16, 17, 18, 19, 20, 21, 22, 23, 24, 25, 26, 27, 28, 29, 30], [0, 1, 2, 3, 4, 5, 6, 7, 8, 9, 10, 11, 12, 13, 14, 15, 16, 17, 18, 19, 20, 21, 22, 23, 24, 25, 26, 27, 28], [0, 1, 2, 3, 4, 5, 6, 7, 8, 9, 10, 11, 12, 13, 14, 15, 16, 17, 18, 19, 20, 21, 22, 23, 24, 25, 26, 27, 28, 29, 30, 31, 32], [0, 1, 2, 3, 4, 5, 6, 7, 8, 9, 10, 11, 12, 13, 14, 15, 16, 17, 18, 19, 20, 21, 22, 23, 24, 25, 26, 27, 28, 29, 30, 31, 32, 33], [0, 1, 2, 3, 4, 5, 6, 7, 8, 9, 10, 11, 12, 13, 14, 15, 16, 17, 18, 19, 20, 21, 22, 23, 24, 25, 26, 27, 28, 29, 30, 31, 32, 33, 34]] : List (List Nat)).getD j []), []⟩ (fun jj vv yy => match jj with | 0 => vv = [some (.bool b1)] | 1 => vv = [some (.bool true)] | 2 => vv = [some (.bool true)] | 3 => vv = [some (.int .i64 K0)] | 4 => vv = [some (.slice la k lc)] | 5 => vv = [some (.int .i64 k)] | 6 => vv = [some (.bool b1)] | 7 => vv = [some (.bool b1)] | 8 => vv = [some (.bool false)] | 9 => vv = [some (.bool false)] | 10 => vv = [some (.bool b2)] | 11 => vv = [some (.bool true)] | 12 => vv = [some (.bool true)] | 13 => vv = [some (.int .i64 K0)] | 14 => vv = [some (.slice ta tn tc)] | 15 => vv = [some (.int .i64 tn)] | 16 => vv = [some (.bool b2)] | 17 => vv = [some (.bool b2)] | 18 => vv = [some (.bool false)] | 19 => vv = [some (.bool false)] | 20 => vv = [some (.bool false)] | 21 => vv = [some (.slice la k lc)] | 22 => ∃ (x22 : Array Value), vv = [some (.agg x22)] ∧ NumArr yy x22 (fun _ => (k : Int)) 1 k L (fun _ => 1) | 23 => ∃ (x23 : Array Value), vv = [some (.agg x23)] ∧ PlnAt yy x23 (fun _ => (k : Int)) 1 false (fun _ => 0) 0 (fun j => rB (L j)) (fun j => rS (L j)) (fun _ => str (dec 1)) k | 24 => vv = [some (.agg #[.slice xa 1 xc, .bool false, .slice xta 0 xtc, .slice xna k xnc])] | 25 => vv = [some (.bool true)] | 26 => vv = [some (.bool false)] | 27 => vv = [some (.bool false)] | 28 => vv = [some (.bool false)] | 29 => vv = [some (.slice ta tn tc)] | 30 => ∃ (x30 : Array Value), vv = [some (.agg x30)] ∧ ChrArr yy x30 (fun _ => (tn : Int)) 1 tn T | 31 => ∃ (x31 : Array Value), vv = [some (.agg x31)] ∧ PlnAt yy x31 (fun _ => (tn : Int)) 1 true T tn (fun _ => rB 0) (fun _ => rS 0) (fun _ => str (dec 1)) 0 | 32 => vv = [some (.agg #[.slice ya 1 yc, .bool true, .slice yta tn ytc, .slice yna 0 ync])] | 33 => vv = [some (.bool true)] | 34 => vv = [some (.bool false)] | 35 => vv = [some (.bool false)] | _ => True) (Bag y12 (fun y => Row y (kx + 1) 44 #[.slice ya 1 yc, .bool true, .slice yta tn ytc, .slice yna 0 ync] ∧ Row y kx 44 #[.slice xa 1 xc, .bool false, .slice xta 0 xtc, .slice xna k xnc] ∧ PlnAt y #[.slice ya 1 yc, .bool true, .slice yta tn ytc, .slice yna 0 ync] (fun _ => (tn : Int)) 1 true T tn (fun _ => rB 0) (fun _ => rS 0) (fun _ => str (dec 1)) 0 ∧ PlnAt y #[.slice xa 1 xc, .bool false, .slice xta 0 xtc, .slice xna k xnc] (fun _ => (k : Int)) 1 false (fun _ => 0) 0 (fun j => rB (L j)) (fun j => rS (L j)) (fun _ => str (dec 1)) k ∧ KRow y .i32 ta tn tc T ∧ KRow y .i64 la k lc L ∧ True)) (by kernel_rfl) (by kernel_rfl) (by kernel_rfl) B12.out.drew ?_ ?_ ?_
                · intro jj vv yw yw2 hb h
                  match jj, h with
                  | 0, h => exact h
                  | 1, h => exact h
                  | 2, h => exact h
                  | 3, h => exact h
                  | 4, h => exact h
                  | 5, h => exact h
                  | 6, h => exact h
                  | 7, h => exact h
                  | 8, h => exact h
                  | 9, h => exact h
                  | 10, h => exact h
                  | 11, h => exact h
                  | 12, h => exact h
                  | 13, h => exact h
                  | 14, h => exact h
                  | 15, h => exact h
                  | 16, h => exact h
                  | 17, h => exact h
                  | 18, h => exact h
                  | 19, h => exact h
                  | 20, h => exact h
                  | 21, h => exact h
                  | 22, ⟨x22, e22, g22_0⟩ => exact Exists.intro x22 (And.intro e22 (g22_0.below hb))
                  | 23, ⟨x23, e23, g23_0⟩ => exact Exists.intro x23 (And.intro e23 (g23_0.below hb))
                  | 24, h => exact h
                  | 25, h => exact h
                  | 26, h => exact h
                  | 27, h => exact h
                  | 28, h => exact h
                  | 29, h => exact h
                  | 30, ⟨x30, e30, g30_0⟩ => exact Exists.intro x30 (And.intro e30 (g30_0.below hb))
                  | 31, ⟨x31, e31, g31_0⟩ => exact Exists.intro x31 (And.intro e31 (g31_0.below hb))
                  | 32, h => exact h
                  | 33, h => exact h
                  | 34, h => exact h
                  | 35, h => exact h
                  | _ + 36, h => exact h
                · intro ac yw hsz hdf hold hB hp
                  exact ⟨hsz, hdf, hold 0 (by kernel_rfl), hold 3 (by kernel_rfl), hold 4 (by kernel_rfl), hold 13 (by kernel_rfl), hold 14 (by kernel_rfl), hold 15 (by kernel_rfl), hold 16 (by kernel_rfl), hold 19 (by kernel_rfl), hold 20 (by kernel_rfl), (List.cons.inj (hp 35 (by decide))).1, hB.below⟩
                refine Stps2.cons (o := _) ?_ ?_
                · intro ac yw hsz hold hB hp K hK
                  have t14 : ac.tmps[14]? = some (.bool b1) := hold 14 (by kernel_rfl)
                  clear hold hp hsz
                  go_simp
                  exact hK.out _ _ ⟨hB, rfl, Nat.le_refl _, .inl (Below.refl _ _), fun h => absurd h (by decide)⟩
                refine Stps2.cons (o := _) ?_ ?_
                · intro ac yw hsz hold hB hp K hK
                  have t18 : ac.tmps[18]? = some (.bool true) := hold 18 (by kernel_rfl)
                  clear hold hp hsz
                  go_simp
                  exact hK.out _ _ ⟨hB, rfl, Nat.le_refl _, .inl (Below.refl _ _), fun h => absurd h (by decide)⟩
                refine Stps2.cons (o := _) ?_ ?_
                · intro ac yw hsz hold hB hp K hK
                  have e1 := hp 1 (by decide)
                  have t71 : ac.tmps[71]? = some (.bool true) := (List.cons.inj e1).1
                  clear hold hp hsz e1
                  go_simp
                  exact hK.out _ _ ⟨hB, rfl, Nat.le_refl _, .inl (Below.refl _ _), fun h => absurd h (by decide)⟩
                refine Stps2.cons (o := _) ?_ ?_
                · intro ac yw hsz hold hB hp K hK
                  have t72 : ac.tmps[72]? = some (.bool true) := (List.cons.inj (hp 2 (by decide))).1
                  rw [if_pos (wanted_pos rfl rfl t72)]
                  have t17 : ac.tmps[17]? = some (.int .i64 K0) := hold 17 (by kernel_rfl)
                  clear hold hp hsz
                  go_simp
                  exact hK.out _ _ ⟨hB, rfl, Nat.le_refl _, .inl (Below.refl _ _), fun h => absurd h (by decide)⟩
                refine Stps2.cons (o := _) ?_ ?_
                · intro ac yw hsz hold hB hp K hK
                  have t72 : ac.tmps[72]? = some (.bool true) := (List.cons.inj (hp 2 (by decide))).1
                  rw [if_pos (wanted_pos rfl rfl t72)]
                  have t1 : ac.tmps[1]? = some (.slice la k lc) := hold 1 (by kernel_rfl)
                  clear hold hp hsz
                  go_simp
                  exact hK.out _ _ ⟨hB, rfl, Nat.le_refl _, .inl (Below.refl _ _), fun h => absurd h (by decide)⟩
                refine Stps2.cons (o := _) ?_ ?_
                · intro ac yw hsz hold hB hp K hK
                  have t72 : ac.tmps[72]? = some (.bool true) := (List.cons.inj (hp 2 (by decide))).1
                  rw [if_pos (wanted_pos rfl rfl t72)]
                  have e4 := hp 4 (by decide)
                  have t74 : ac.tmps[74]? = some (.slice la k lc) := (List.cons.inj e4).1
                  clear hold hp hsz e4
                  go_simp
                  exact hK.out _ _ ⟨hB, rfl, Nat.le_refl _, .inl (Below.refl _ _), fun h => absurd h (by decide)⟩
                refine Stps2.cons (o := _) ?_ ?_
                · intro ac yw hsz hold hB hp K hK
                  have t72 : ac.tmps[72]? = some (.bool true) := (List.cons.inj (hp 2 (by decide))).1
                  rw [if_pos (wanted_pos rfl rfl t72)]
                  have e3 := hp 3 (by decide)
                  have t73 : ac.tmps[73]? = some (.int .i64 K0) := (List.cons.inj e3).1
                  have e5 := hp 5 (by decide)
                  have t75 : ac.tmps[75]? = some (.int .i64 k) := (List.cons.inj e5).1
                  clear hold hp hsz e3 e5
                  go_simp
                  exact hK.out _ _ ⟨hB, rfl, Nat.le_refl _, .inl (Below.refl _ _), fun h => absurd h (by decide)⟩
                refine Stps2.cons (o := _) ?_ ?_
                · intro ac yw hsz hold hB hp K hK
                  have e2 := hp 2 (by decide)
                  have t72 : ac.tmps[72]? = some (.bool true) := (List.cons.inj e2).1
                  have e6 := hp 6 (by decide)
                  have t76 : ac.tmps[76]? = some (.bool b1) := (List.cons.inj e6).1
                  clear hold hp hsz e2 e6
                  go_simp
                  exact hK.out _ _ ⟨hB, rfl, Nat.le_refl _, .inl (Below.refl _ _), fun h => absurd h (by decide)⟩
                refine Stps2.cons (o := _) ?_ ?_
                · intro ac yw hsz hold hB hp K hK
                  have e0 := hp 0 (by decide)
                  have t70 : ac.tmps[70]? = some (.bool b1) := (List.cons.inj e0).1
                  have e7 := hp 7 (by decide)
                  have t77 : ac.tmps[77]? = some (.bool b1) := (List.cons.inj e7).1
                  clear hold hp hsz e0 e7
                  go_simp
                  exact hK.out _ _ ⟨hB, rfl, Nat.le_refl _, .inl (Below.refl _ _), fun h => absurd h (by decide)⟩
                refine Stps2.cons (o := _) ?_ ?_
                · intro ac yw hsz hold hB hp K hK
                  have e8 := hp 8 (by decide)
                  have t78 : ac.tmps[78]? = some (.bool false) := (List.cons.inj e8).1
                  clear hold hp hsz e8
                  go_simp
                  exact hK.out _ _ ⟨hB, rfl, Nat.le_refl _, .inl (Below.refl _ _), fun h => absurd h (by decide)⟩
                refine Stps2.cons (o := _) ?_ ?_
                · intro ac yw hsz hold hB hp K hK
                  have t79 : ac.tmps[79]? = some (.bool false) := (List.cons.inj (hp 9 (by decide))).1
                  rw [if_pos (wanted_pos rfl rfl t79)]
                  have t16 : ac.tmps[16]? = some (.bool b2) := hold 16 (by kernel_rfl)
                  clear hold hp hsz
                  go_simp
                  exact hK.out _ _ ⟨hB, rfl, Nat.le_refl _, .inl (Below.refl _ _), fun h => absurd h (by decide)⟩
                refine Stps2.cons (o := _) ?_ ?_
                · intro ac yw hsz hold hB hp K hK
                  have t79 : ac.tmps[79]? = some (.bool false) := (List.cons.inj (hp 9 (by decide))).1
                  rw [if_pos (wanted_pos rfl rfl t79)]
                  have t18 : ac.tmps[18]? = some (.bool true) := hold 18 (by kernel_rfl)
                  clear hold hp hsz
                  go_simp
                  exact hK.out _ _ ⟨hB, rfl, Nat.le_refl _, .inl (Below.refl _ _), fun h => absurd h (by decide)⟩
                refine Stps2.cons (o := _) ?_ ?_
                · intro ac yw hsz hold hB hp K hK
                  have t79 : ac.tmps[79]? = some (.bool false) := (List.cons.inj (hp 9 (by decide))).1
                  rw [if_pos (wanted_pos rfl rfl t79)]
                  have e11 := hp 11 (by decide)
                  have t81 : ac.tmps[81]? = some (.bool true) := (List.cons.inj e11).1
                  clear hold hp hsz e11
                  go_simp
                  exact hK.out _ _ ⟨hB, rfl, Nat.le_refl _, .inl (Below.refl _ _), fun h => absurd h (by decide)⟩
                refine Stps2.cons (o := _) ?_ ?_
                · intro ac yw hsz hold hB hp K hK
                  have t82 : ac.tmps[82]? = some (.bool true) := (List.cons.inj (hp 12 (by decide))).1
                  rw [if_pos (wanted_pos rfl rfl t82)]
                  have t17 : ac.tmps[17]? = some (.int .i64 K0) := hold 17 (by kernel_rfl)
                  clear hold hp hsz
                  go_simp
                  exact hK.out _ _ ⟨hB, rfl, Nat.le_refl _, .inl (Below.refl _ _), fun h => absurd h (by decide)⟩
                refine Stps2.cons (o := _) ?_ ?_
                · intro ac yw hsz hold hB hp K hK
                  have t82 : ac.tmps[82]? = some (.bool true) := (List.cons.inj (hp 12 (by decide))).1
                  rw [if_pos (wanted_pos rfl rfl t82)]
                  have t2 : ac.tmps[2]? = some (.slice ta tn tc) := hold 2 (by kernel_rfl)
                  clear hold hp hsz
                  go_simp
                  exact hK.out _ _ ⟨hB, rfl, Nat.le_refl _, .inl (Below.refl _ _), fun h => absurd h (by decide)⟩
                refine Stps2.cons (o := _) ?_ ?_
                · intro ac yw hsz hold hB hp K hK
                  have t82 : ac.tmps[82]? = some (.bool true) := (List.cons.inj (hp 12 (by decide))).1
                  rw [if_pos (wanted_pos rfl rfl t82)]
                  have e14 := hp 14 (by decide)
                  have t84 : ac.tmps[84]? = some (.slice ta tn tc) := (List.cons.inj e14).1
                  clear hold hp hsz e14
                  go_simp
                  exact hK.out _ _ ⟨hB, rfl, Nat.le_refl _, .inl (Below.refl _ _), fun h => absurd h (by decide)⟩
                refine Stps2.cons (o := _) ?_ ?_
                · intro ac yw hsz hold hB hp K hK
                  have t82 : ac.tmps[82]? = some (.bool true) := (List.cons.inj (hp 12 (by decide))).1
                  rw [if_pos (wanted_pos rfl rfl t82)]
                  have e13 := hp 13 (by decide)
                  have t83 : ac.tmps[83]? = some (.int .i64 K0) := (List.cons.inj e13).1
                  have e15 := hp 15 (by decide)
                  have t85 : ac.tmps[85]? = some (.int .i64 tn) := (List.cons.inj e15).1
                  clear hold hp hsz e13 e15
                  go_simp
                  exact hK.out _ _ ⟨hB, rfl, Nat.le_refl _, .inl (Below.refl _ _), fun h => absurd h (by decide)⟩
                refine Stps2.cons (o := _) ?_ ?_
                · intro ac yw hsz hold hB hp K hK
                  have t79 : ac.tmps[79]? = some (.bool false) := (List.cons.inj (hp 9 (by decide))).1
                  rw [if_pos (wanted_pos rfl rfl t79)]
                  have e12 := hp 12 (by decide)
                  have t82 : ac.tmps[82]? = some (.bool true) := (List.cons.inj e12).1
                  have e16 := hp 16 (by decide)
                  have t86 : ac.tmps[86]? = some (.bool b2) := (List.cons.inj e16).1
                  clear hold hp hsz e12 e16
                  go_simp
                  exact hK.out _ _ ⟨hB, rfl, Nat.le_refl _, .inl (Below.refl _ _), fun h => absurd h (by decide)⟩
                refine Stps2.cons (o := _) ?_ ?_
                · intro ac yw hsz hold hB hp K hK
                  have t79 : ac.tmps[79]? = some (.bool false) := (List.cons.inj (hp 9 (by decide))).1
                  rw [if_pos (wanted_pos rfl rfl t79)]
                  have e10 := hp 10 (by decide)
                  have t80 : ac.tmps[80]? = some (.bool b2) := (List.cons.inj e10).1
                  have e17 := hp 17 (by decide)
                  have t87 : ac.tmps[87]? = some (.bool b2) := (List.cons.inj e17).1
                  clear hold hp hsz e10 e17
                  go_simp
                  exact hK.out _ _ ⟨hB, rfl, Nat.le_refl _, .inl (Below.refl _ _), fun h => absurd h (by decide)⟩
                refine Stps2.cons (o := _) ?_ ?_
                · intro ac yw hsz hold hB hp K hK
                  have e9 := hp 9 (by decide)
                  have t79 : ac.tmps[79]? = some (.bool false) := (List.cons.inj e9).1
                  have e18 := hp 18 (by decide)
                  have t88 : ac.tmps[88]? = some (.bool false) := (List.cons.inj e18).1
                  clear hold hp hsz e9 e18
                  go_simp
                  exact hK.out _ _ ⟨hB, rfl, Nat.le_refl _, .inl (Below.refl _ _), fun h => absurd h (by decide)⟩
                refine Stps2.cons (o := _) ?_ ?_
                · intro ac yw hsz hold hB hp K hK
                  have e19 := hp 19 (by decide)
                  have t89 : ac.tmps[89]? = some (.bool false) := (List.cons.inj e19).1
                  clear hold hp hsz e19
                  go_simp
                  exact hK.out _ _ ⟨hB, rfl, Nat.le_refl _, .inl (Below.refl _ _), fun h => absurd h (by decide)⟩
                refine Stps2.cons (o := _) ?_ ?_
                · intro ac yw hsz hold hB hp K hK
                  have t90 : ac.tmps[90]? = some (.bool false) := (List.cons.inj (hp 20 (by decide))).1
                  rw [if_pos (wanted_pos rfl rfl t90)]
                  have t1 : ac.tmps[1]? = some (.slice la k lc) := hold 1 (by kernel_rfl)
                  clear hold hp hsz
                  go_simp
                  exact hK.out _ _ ⟨hB, rfl, Nat.le_refl _, .inl (Below.refl _ _), fun h => absurd h (by decide)⟩
                refine Stps2.cons (o := _) ?_ ?_
                · intro ac yw hsz hold hB hp K hK
                  have t90 : ac.tmps[90]? = some (.bool false) := (List.cons.inj (hp 20 (by decide))).1
                  rw [if_pos (wanted_pos rfl rfl t90)]
                  have e21 := hp 21 (by decide)
                  have t91 : ac.tmps[91]? = some (.slice la k lc) := (List.cons.inj e21).1
                  clear hold hp hsz e21
                  go_simp
                  (go_at_call 12; (with_reducible refine (AI.out _ (hB.now.2.2.2.2.2.1)).mono ?_); rintro e wz ⟨x22, rfl, h22_0, hbz⟩)
                  exact hK.out _ _ ⟨hB.go hbz, Exists.intro x22 (And.intro rfl h22_0), hbz.size, .inl hbz, fun h => absurd h (by decide)⟩
                refine Stps2.cons (o := _) ?_ ?_
                · intro ac yw hsz hold hB hp K hK
                  have t90 : ac.tmps[90]? = some (.bool false) := (List.cons.inj (hp 20 (by decide))).1
                  rw [if_pos (wanted_pos rfl rfl t90)]
                  obtain ⟨x22_22, e22, g22_0⟩ := hp 22 (by decide)
                  have t92 : ac.tmps[92]? = some (.agg x22_22) := (List.cons.inj e22).1
                  clear hold hp hsz e22
                  go_simp
                  (go_at_call 13; (with_reducible refine (PN.out _ _ g22_0).mono ?_); rintro e wz ⟨x23, rfl, h23_0, hbz⟩)
                  exact hK.out _ _ ⟨hB.go hbz, Exists.intro x23 (And.intro rfl h23_0), hbz.size, .inl hbz, fun h => absurd h (by decide)⟩
                refine Stps2.cons (o := _) ?_ ?_
                · intro ac yw hsz hold hB hp K hK
                  have t90 : ac.tmps[90]? = some (.bool false) := (List.cons.inj (hp 20 (by decide))).1
                  rw [if_pos (wanted_pos rfl rfl t90)]
                  have t19 : ac.tmps[19]? = some (.pointer (some ⟨kx, 0, none⟩)) := hold 19 (by kernel_rfl)
                  clear hold hp hsz
                  have v0_0 : yw.cell? ⟨kx + 1, 0, none⟩ = some (.slice ya 1 yc) := hB.now.1.cell 0
                  have v0_1 : yw.cell? ⟨kx + 1, 1, none⟩ = some (.bool true) := hB.now.1.cell 1
                  have v0_2 : yw.cell? ⟨kx + 1, 2, none⟩ = some (.slice yta tn ytc) := hB.now.1.cell 2
                  have v0_3 : yw.cell? ⟨kx + 1, 3, none⟩ = some (.slice yna 0 ync) := hB.now.1.cell 3
                  have v1_0 : yw.cell? ⟨kx, 0, none⟩ = some (.slice xa 1 xc) := hB.now.2.1.cell 0
                  have v1_1 : yw.cell? ⟨kx, 1, none⟩ = some (.bool false) := hB.now.2.1.cell 1
                  have v1_2 : yw.cell? ⟨kx, 2, none⟩ = some (.slice xta 0 xtc) := hB.now.2.1.cell 2
                  have v1_3 : yw.cell? ⟨kx, 3, none⟩ = some (.slice xna k xnc) := hB.now.2.1.cell 3
                  go_simp
                  exact hK.out _ _ ⟨hB, rfl, Nat.le_refl _, .inl (Below.refl _ _), fun h => absurd h (by decide)⟩
                refine Stps2.cons (o := _) ?_ ?_
                · intro ac yw hsz hold hB hp K hK
                  have t90 : ac.tmps[90]? = some (.bool false) := (List.cons.inj (hp 20 (by decide))).1
                  rw [if_pos (wanted_pos rfl rfl t90)]
                  obtain ⟨x23_23, e23, g23_0⟩ := hp 23 (by decide)
                  have t93 : ac.tmps[93]? = some (.agg x23_23) := (List.cons.inj e23).1
                  have e24 := hp 24 (by decide)
                  have t94 : ac.tmps[94]? = some (.agg #[.slice xa 1 xc, .bool false, .slice xta 0 xtc, .slice xna k xnc]) := (List.cons.inj e24).1
                  clear hold hp hsz e23 e24
                  go_simp
                  (go_at_call 11; (with_reducible refine (same_true g23_0 (hB.now.2.2.2.1)).mono ?_); rintro e wz ⟨rfl, hbz⟩)
                  exact hK.out _ _ ⟨hB.go hbz, rfl, hbz.size, .inl hbz, fun h => absurd h (by decide)⟩
                refine Stps2.cons (o := _) ?_ ?_
                · intro ac yw hsz hold hB hp K hK
                  have t90 : ac.tmps[90]? = some (.bool false) := (List.cons.inj (hp 20 (by decide))).1
                  rw [if_pos (wanted_pos rfl rfl t90)]
                  have e25 := hp 25 (by decide)
                  have t95 : ac.tmps[95]? = some (.bool true) := (List.cons.inj e25).1
                  clear hold hp hsz e25
                  go_simp
                  exact hK.out _ _ ⟨hB, rfl, Nat.le_refl _, .inl (Below.refl _ _), fun h => absurd h (by decide)⟩
                refine Stps2.cons (o := _) ?_ ?_
                · intro ac yw hsz hold hB hp K hK
                  have e20 := hp 20 (by decide)
                  have t90 : ac.tmps[90]? = some (.bool false) := (List.cons.inj e20).1
                  have e26 := hp 26 (by decide)
                  have t96 : ac.tmps[96]? = some (.bool false) := (List.cons.inj e26).1
                  clear hold hp hsz e20 e26
                  go_simp
                  exact hK.out _ _ ⟨hB, rfl, Nat.le_refl _, .inl (Below.refl _ _), fun h => absurd h (by decide)⟩
                refine Stps2.cons (o := _) ?_ ?_
                · intro ac yw hsz hold hB hp K hK
                  have e27 := hp 27 (by decide)
                  have t97 : ac.tmps[97]? = some (.bool false) := (List.cons.inj e27).1
                  clear hold hp hsz e27
                  go_simp
                  exact hK.out _ _ ⟨hB, rfl, Nat.le_refl _, .inl (Below.refl _ _), fun h => absurd h (by decide)⟩
                refine Stps2.cons (o := _) ?_ ?_
                · intro ac yw hsz hold hB hp K hK
                  have t98 : ac.tmps[98]? = some (.bool false) := (List.cons.inj (hp 28 (by decide))).1
                  rw [if_pos (wanted_pos rfl rfl t98)]
                  have t2 : ac.tmps[2]? = some (.slice ta tn tc) := hold 2 (by kernel_rfl)
                  clear hold hp hsz
                  go_simp
                  exact hK.out _ _ ⟨hB, rfl, Nat.le_refl _, .inl (Below.refl _ _), fun h => absurd h (by decide)⟩
                refine Stps2.cons (o := _) ?_ ?_
                · intro ac yw hsz hold hB hp K hK
                  have t98 : ac.tmps[98]? = some (.bool false) := (List.cons.inj (hp 28 (by decide))).1
                  rw [if_pos (wanted_pos rfl rfl t98)]
                  have e29 := hp 29 (by decide)
                  have t99 : ac.tmps[99]? = some (.slice ta tn tc) := (List.cons.inj e29).1
                  clear hold hp hsz e29
                  go_simp
                  (go_at_call 14; (with_reducible refine (AT.out _ (hB.now.2.2.2.2.1)).mono ?_); rintro e wz ⟨x30, rfl, h30_0, hbz⟩)
                  exact hK.out _ _ ⟨hB.go hbz, Exists.intro x30 (And.intro rfl h30_0), hbz.size, .inl hbz, fun h => absurd h (by decide)⟩
                refine Stps2.cons (o := _) ?_ ?_
                · intro ac yw hsz hold hB hp K hK
                  have t98 : ac.tmps[98]? = some (.bool false) := (List.cons.inj (hp 28 (by decide))).1
                  rw [if_pos (wanted_pos rfl rfl t98)]
                  obtain ⟨x30_30, e30, g30_0⟩ := hp 30 (by decide)
                  have t100 : ac.tmps[100]? = some (.agg x30_30) := (List.cons.inj e30).1
                  clear hold hp hsz e30
                  go_simp
                  (go_at_call 13; (with_reducible refine (PC.out _ _ g30_0).mono ?_); rintro e wz ⟨x31, rfl, h31_0, hbz⟩)
                  exact hK.out _ _ ⟨hB.go hbz, Exists.intro x31 (And.intro rfl h31_0), hbz.size, .inl hbz, fun h => absurd h (by decide)⟩
                refine Stps2.cons (o := _) ?_ ?_
                · intro ac yw hsz hold hB hp K hK
                  have t98 : ac.tmps[98]? = some (.bool false) := (List.cons.inj (hp 28 (by decide))).1
                  rw [if_pos (wanted_pos rfl rfl t98)]
                  have t20 : ac.tmps[20]? = some (.pointer (some ⟨(kx + 1), 0, none⟩)) := hold 20 (by kernel_rfl)
                  clear hold hp hsz
                  have v0_0 : yw.cell? ⟨kx + 1, 0, none⟩ = some (.slice ya 1 yc) := hB.now.1.cell 0
                  have v0_1 : yw.cell? ⟨kx + 1, 1, none⟩ = some (.bool true) := hB.now.1.cell 1
                  have v0_2 : yw.cell? ⟨kx + 1, 2, none⟩ = some (.slice yta tn ytc) := hB.now.1.cell 2
                  have v0_3 : yw.cell? ⟨kx + 1, 3, none⟩ = some (.slice yna 0 ync) := hB.now.1.cell 3
                  have v1_0 : yw.cell? ⟨kx, 0, none⟩ = some (.slice xa 1 xc) := hB.now.2.1.cell 0
                  have v1_1 : yw.cell? ⟨kx, 1, none⟩ = some (.bool false) := hB.now.2.1.cell 1
                  have v1_2 : yw.cell? ⟨kx, 2, none⟩ = some (.slice xta 0 xtc) := hB.now.2.1.cell 2
                  have v1_3 : yw.cell? ⟨kx, 3, none⟩ = some (.slice xna k xnc) := hB.now.2.1.cell 3
                  go_simp
                  exact hK.out _ _ ⟨hB, rfl, Nat.le_refl _, .inl (Below.refl _ _), fun h => absurd h (by decide)⟩
                refine Stps2.cons (o := _) ?_ ?_
                · intro ac yw hsz hold hB hp K hK
                  have t98 : ac.tmps[98]? = some (.bool false) := (List.cons.inj (hp 28 (by decide))).1
                  rw [if_pos (wanted_pos rfl rfl t98)]
                  obtain ⟨x31_31, e31, g31_0⟩ := hp 31 (by decide)
                  have t101 : ac.tmps[101]? = some (.agg x31_31) := (List.cons.inj e31).1
                  have e32 := hp 32 (by decide)
                  have t102 : ac.tmps[102]? = some (.agg #[.slice ya 1 yc, .bool true, .slice yta tn ytc, .slice yna 0 ync]) := (List.cons.inj e32).1
                  clear hold hp hsz e31 e32
                  go_simp
                  (go_at_call 11; (with_reducible refine (same_true g31_0 (hB.now.2.2.1)).mono ?_); rintro e wz ⟨rfl, hbz⟩)
                  exact hK.out _ _ ⟨hB.go hbz, rfl, hbz.size, .inl hbz, fun h => absurd h (by decide)⟩
                refine Stps2.cons (o := _) ?_ ?_
                · intro ac yw hsz hold hB hp K hK
                  have t98 : ac.tmps[98]? = some (.bool false) := (List.cons.inj (hp 28 (by decide))).1
                  rw [if_pos (wanted_pos rfl rfl t98)]
                  have e33 := hp 33 (by decide)
                  have t103 : ac.tmps[103]? = some (.bool true) := (List.cons.inj e33).1
                  clear hold hp hsz e33
                  go_simp
                  exact hK.out _ _ ⟨hB, rfl, Nat.le_refl _, .inl (Below.refl _ _), fun h => absurd h (by decide)⟩
                refine Stps2.cons (o := _) ?_ ?_
                · intro ac yw hsz hold hB hp K hK
                  have e28 := hp 28 (by decide)
                  have t98 : ac.tmps[98]? = some (.bool false) := (List.cons.inj e28).1
                  have e34 := hp 34 (by decide)
                  have t104 : ac.tmps[104]? = some (.bool false) := (List.cons.inj e34).1
                  clear hold hp hsz e28 e34
                  go_simp
                  exact hK.out _ _ ⟨hB, rfl, Nat.le_refl _, .inl (Below.refl _ _), fun h => absurd h (by decide)⟩
                exact Stps2.nil _
              | false =>
                obtain ⟨q1, q2⟩ := Q2.2.1 rfl
                subst q1 q2
                clear Q2
                refine wp_region_inv2 ⟨(fun j => ([[70], [71], [72], [], [], [], [], [77], [78], [79], [80], [81], [82], [], [], [], [], [87], [88], [89], [90], [91], [92], [93], [94], [95], [96], [97], [98], [99], [100], [101], [102], [103], [104], [105]] : List (List Nat)).getD j []), (fun j => ([[], [], [1], [1, 2], [1, 2], [1, 2, 4], [1, 2, 3, 4, 5], [1, 2, 3, 4, 5, 6], [0, 1, 2, 3, 4, 5, 6, 7], [0, 1, 2, 3, 4, 5, 6, 7, 8], [0, 1, 2, 3, 4, 5, 6, 7, 8, 9], [0, 1, 2, 3, 4, 5, 6, 7, 8, 9], [0, 1, 2, 3, 4, 5, 6, 7, 8, 9, 11], [0, 1, 2, 3, 4, 5, 6, 7, 8, 9, 11, 12], [0, 1, 2, 3, 4, 5, 6, 7, 8, 9, 11, 12], [0, 1, 2, 3, 4, 5, 6, 7, 8, 9, 11, 12, 14], [0, 1, 2, 3, 4, 5, 6, 7, 8, 9, 11, 12, 13, 14, 15], [0, 1, 2, 3, 4, 5, 6, 7, 8, 9, 11, 12, 13, 14, 15, 16], [0, 1, 2, 3, 4, 5, 6, 7, 8, 9, 10, 11, 12, 13, 14, 15, 16, 17], [0, 1, 2, 3, 4, 5, 6, 7, 8, 9, 10, 11, 12, 13, 14, 15, 16, 17, 18], [0, 1, 2, 3, 4, 5, 6, 7, 8, 9, 10, 11, 12, 13, 14, 15, 16, 17, 18, 19], [0, 1, 2, 3, 4, 5, 6, 7, 8, 9, 10, 11, 12, 13, 14, 15, 16, 17, 18, 19, 20], [0, 1, 2, 3, 4, 5, 6, 7, 8, 9, 10, 11, 12, 13, 14, 15, 16, 17, 18, 19, 20, 21], [0, 1, 2, 3, 4, 5, 6, 7, 8, 9, 10, 11, 12, 13, 14, 15, 16, 17, 18, 19, 20, 21, 22], [0, 1, 2, 3, 4, 5, 6, 7, 8, 9, 10, 11, 12, 13, 14, 15, 16, 17, 18, 19, 20], [0, 1, 2, 3, 4, 5, 6, 7, 8, 9, 10, 11, 12, 13, 14, 15, 16, 17, 18, 19, 20, 21, 22, 23, 24], [0, 1, 2, 3, 4, 5, 6, 7, 8, 9, 10, 11, 12, 13, 14, 15, 16, 17, 18, 19, 20, 21, 22, 23, 24, 25], [0, 1, 2, 3, 4, 5, 6, 7, 8, 9, 10, 11, 12, 13, 14, 15, 16, 17, 18, 19, 20, 21, 22, 23, 24, 25, 26], [0, 1, 2, 3, 4, 5, 6, 7, 8, 9, 10, 11, 12, 13, 14, 15, 16, 17, 18, 19, 20, 21, 22, 23, 24, 25, 26, 27], [0, 1, 2, 3, 4, 5, 6, 7, 8, 9, 10, 11, 12, 13, 14, 15, 16, 17, 18, 19, 20, 21, 22, 23, 24, 25, 26, 27, 28], [0, 1, 2, 3, 4, 5, 6, 7, 8, 9, 10, 11, 12, 13, 14, 15, 16, 17, 18, 19, 20, 21, 22, 23, 24, 25, 26, 27, 28, 29], [0, 1, 2, 3, 4, 5, 6, 7, 8, 9, 10, 11, 12, 13, 14, 15, 16, 17, 18, 19, 20, 21, 22, 23, 24, 25, 26, 27, 28, 29, 30], [0, 1, 2, 3, 4, 5, 6, 7, 8, 9, 10, 11, 12, 13, 14, 15, 16, 17, 18, 19, 20, 21, 22, 23, 24, 25, 26, 27, 28], [0, 1, 2, 3, 4, 5, 6, 7, 8, 9, 10, 11, 12, 13, 14, 15, 16, 17, 18, 19, 20, 21, 22, 23, 24, 25, 26, 27, 28, 29, 30, 31, 32], [0, 1, 2, 3, 4, 5, 6, 7, 8, 9, 10, 11, 12, 13, 14, 15, 16, 17, 18, 19, 20, 21, 22, 23, 24, 25, 26, 27, 28, 29, 30, 31, 32, 33], [0, 1, 2, 3, 4, 5, 6, 7, 8, 9, 10, 11, 12, 13, 14, 15, 16, 17, 18, 19, 20, 21, 22, 23, 24, 25, 26, 27, 28, 29, 30, 31, 32, 33, 34]] : List (List Nat)).getD j []), []⟩ (fun jj vv yy => match jj with | 0 => vv = [some (.bool false)] | 1 => vv = [some (.bool false)] | 2 => vv = [some (.bool false)] | 3 => True | 4 => True | 5 => True | 6 => True | 7 => vv = [some (.bool false)] | 8 => vv = [some (.bool false)] | 9 => vv = [some (.bool false)] | 10 => vv = [some (.bool false)] | 11 => vv = [some (.bool false)] | 12 => vv = [some (.bool false)] | 13 => True | 14 => True | 15 => True | 16 => True | 17 => vv = [some (.bool false)] | 18 => vv = [some (.bool false)] | 19 => vv = [some (.bool false)] | 20 => vv = [some (.bool false)] | 21 => vv = [some (.slice la k lc)] | 22 => ∃ (x22 : Array Value), vv = [some (.agg x22)] ∧ NumArr yy x22 (fun _ => (k : Int)) 1 k L (fun _ => 1) | 23 => ∃ (x23 : Array Value), vv = [some (.agg x23)] ∧ PlnAt yy x23 (fun _ => (k : Int)) 1 false (fun _ => 0) 0 (fun j => rB (L j)) (fun j => rS (L j)) (fun _ => str (dec 1)) k | 24 => vv = [some (.agg #[.slice xa 1 xc, .bool false, .slice xta 0 xtc, .slice xna k xnc])] | 25 => vv = [some (.bool true)] | 26 => vv = [some (.bool false)] | 27 => vv = [some (.bool false)] | 28 => vv = [some (.bool false)] | 29 => vv = [some (.slice ta tn tc)] | 30 => ∃ (x30 : Array Value), vv = [some (.agg x30)] ∧ ChrArr yy x30 (fun _ => (tn : Int)) 1 tn T | 31 => ∃ (x31 : Array Value), vv = [some (.agg x31)] ∧ PlnAt yy x31 (fun _ => (tn : Int)) 1 true T tn (fun _ => rB 0) (fun _ => rS 0) (fun _ => str (dec 1)) 0 | 32 => vv = [some (.agg #[.slice ya 1 yc, .bool true, .slice yta tn ytc, .slice yna 0 ync])] | 33 => vv = [some (.bool true)] | 34 => vv = [some (.bool false)] | 35 => vv = [some (.bool false)] | _ => True) (Bag y12 (fun y => Row y (kx + 1) 44 #[.slice ya 1 yc, .bool true, .slice yta tn ytc, .slice yna 0 ync] ∧ Row y kx 44 #[.slice xa 1 xc, .bool false, .slice xta 0 xtc, .slice xna k xnc] ∧ PlnAt y #[.slice ya 1 yc, .bool true, .slice yta tn ytc, .slice yna 0 ync] (fun _ => (tn : Int)) 1 true T tn (fun _ => rB 0) (fun _ => rS 0) (fun _ => str (dec 1)) 0 ∧ PlnAt y #[.slice xa 1 xc, .bool false, .slice xta 0 xtc, .slice xna k xnc] (fun _ => (k : Int)) 1 false (fun _ => 0) 0 (fun j => rB (L j)) (fun j => rS (L j)) (fun _ => str (dec 1)) k ∧ KRow y .i32 ta tn tc T ∧ KRow y .i64 la k lc L ∧ True)) (by kernel_rfl) (by kernel_rfl) (by kernel_rfl) B12.out.drew ?_ ?_ ?_
                · intro jj vv yw yw2 hb h
                  match jj, h with
                  | 0, h => exact h
                  | 1, h => exact h
                  | 2, h => exact h
                  | 3, h => exact h
                  | 4, h => exact h
                  | 5, h => exact h
                  | 6, h => exact h
                  | 7, h => exact h
                  | 8, h => exact h
                  | 9, h => exact h
                  | 10, h => exact h
                  | 11, h => exact h
                  | 12, h => exact h
                  | 13, h => exact h
                  | 14, h => exact h
                  | 15, h => exact h
                  | 16, h => exact h
                  | 17, h => exact h
                  | 18, h => exact h
                  | 19, h => exact h
                  | 20, h => exact h
                  | 21, h => exact h
                  | 22, ⟨x22, e22, g22_0⟩ => exact Exists.intro x22 (And.intro e22 (g22_0.below hb))
                  | 23, ⟨x23, e23, g23_0⟩ => exact Exists.intro x23 (And.intro e23 (g23_0.below hb))
                  | 24, h => exact h
                  | 25, h => exact h
                  | 26, h => exact h
                  | 27, h => exact h
                  | 28, h => exact h
                  | 29, h => exact h
                  | 30, ⟨x30, e30, g30_0⟩ => exact Exists.intro x30 (And.intro e30 (g30_0.below hb))
                  | 31, ⟨x31, e31, g31_0⟩ => exact Exists.intro x31 (And.intro e31 (g31_0.below hb))
                  | 32, h => exact h
                  | 33, h => exact h
                  | 34, h => exact h
                  | 35, h => exact h
                  | _ + 36, h => exact h
                · intro ac yw hsz hdf hold hB hp
                  exact ⟨hsz, hdf, hold 0 (by kernel_rfl), hold 3 (by kernel_rfl), hold 4 (by kernel_rfl), hold 13 (by kernel_rfl), hold 14 (by kernel_rfl), hold 15 (by kernel_rfl), hold 16 (by kernel_rfl), hold 19 (by kernel_rfl), hold 20 (by kernel_rfl), (List.cons.inj (hp 35 (by decide))).1, hB.below⟩
                refine Stps2.cons (o := _) ?_ ?_
                · intro ac yw hsz hold hB hp K hK
                  have t14 : ac.tmps[14]? = some (.bool false) := hold 14 (by kernel_rfl)
                  clear hold hp hsz
                  go_simp
                  exact hK.out _ _ ⟨hB, rfl, Nat.le_refl _, .inl (Below.refl _ _), fun h => absurd h (by decide)⟩
                refine Stps2.cons (o := _) ?_ ?_
                · intro ac yw hsz hold hB hp K hK
                  have t18 : ac.tmps[18]? = some (.bool false) := hold 18 (by kernel_rfl)
                  clear hold hp hsz
                  go_simp
                  exact hK.out _ _ ⟨hB, rfl, Nat.le_refl _, .inl (Below.refl _ _), fun h => absurd h (by decide)⟩
                refine Stps2.cons (o := _) ?_ ?_
                · intro ac yw hsz hold hB hp K hK
                  have e1 := hp 1 (by decide)
                  have t71 : ac.tmps[71]? = some (.bool false) := (List.cons.inj e1).1
                  clear hold hp hsz e1
                  go_simp
                  exact hK.out _ _ ⟨hB, rfl, Nat.le_refl _, .inl (Below.refl _ _), fun h => absurd h (by decide)⟩
                refine Stps2.cons (o := _) ?_ ?_
                · intro ac yw hsz hold hB hp K hK
                  have t72 : ac.tmps[72]? = some (.bool false) := (List.cons.inj (hp 2 (by decide))).1
                  rw [if_neg (by rw [wanted_neg rfl rfl t72 (fun e => by cases e)]; decide)]
                  exact hK.out _ _ ⟨hB, trivial, Nat.le_refl _, .inl (Below.refl _ _), fun h => absurd h (by decide)⟩
                refine Stps2.cons (o := _) ?_ ?_
                · intro ac yw hsz hold hB hp K hK
                  have t72 : ac.tmps[72]? = some (.bool false) := (List.cons.inj (hp 2 (by decide))).1
                  rw [if_neg (by rw [wanted_neg rfl rfl t72 (fun e => by cases e)]; decide)]
                  exact hK.out _ _ ⟨hB, trivial, Nat.le_refl _, .inl (Below.refl _ _), fun h => absurd h (by decide)⟩
                refine Stps2.cons (o := _) ?_ ?_
                · intro ac yw hsz hold hB hp K hK
                  have t72 : ac.tmps[72]? = some (.bool false) := (List.cons.inj (hp 2 (by decide))).1
                  rw [if_neg (by rw [wanted_neg rfl rfl t72 (fun e => by cases e)]; decide)]
                  exact hK.out _ _ ⟨hB, trivial, Nat.le_refl _, .inl (Below.refl _ _), fun h => absurd h (by decide)⟩
                refine Stps2.cons (o := _) ?_ ?_
                · intro ac yw hsz hold hB hp K hK
                  have t72 : ac.tmps[72]? = some (.bool false) := (List.cons.inj (hp 2 (by decide))).1
                  rw [if_neg (by rw [wanted_neg rfl rfl t72 (fun e => by cases e)]; decide)]
                  exact hK.out _ _ ⟨hB, trivial, Nat.le_refl _, .inl (Below.refl _ _), fun h => absurd h (by decide)⟩
                refine Stps2.cons (o := _) ?_ ?_
                · intro ac yw hsz hold hB hp K hK
                  have e2 := hp 2 (by decide)
                  have t72 : ac.tmps[72]? = some (.bool false) := (List.cons.inj e2).1
                  clear hold hp hsz e2
                  go_simp
                  exact hK.out _ _ ⟨hB, rfl, Nat.le_refl _, .inl (Below.refl _ _), fun h => absurd h (by decide)⟩
                refine Stps2.cons (o := _) ?_ ?_
                · intro ac yw hsz hold hB hp K hK
                  have e0 := hp 0 (by decide)
                  have t70 : ac.tmps[70]? = some (.bool false) := (List.cons.inj e0).1
                  have e7 := hp 7 (by decide)
                  have t77 : ac.tmps[77]? = some (.bool false) := (List.cons.inj e7).1
                  clear hold hp hsz e0 e7
                  go_simp
                  exact hK.out _ _ ⟨hB, rfl, Nat.le_refl _, .inl (Below.refl _ _), fun h => absurd h (by decide)⟩
                refine Stps2.cons (o := _) ?_ ?_
                · intro ac yw hsz hold hB hp K hK
                  have e8 := hp 8 (by decide)
                  have t78 : ac.tmps[78]? = some (.bool false) := (List.cons.inj e8).1
                  clear hold hp hsz e8
                  go_simp
                  exact hK.out _ _ ⟨hB, rfl, Nat.le_refl _, .inl (Below.refl _ _), fun h => absurd h (by decide)⟩
                refine Stps2.cons (o := _) ?_ ?_
                · intro ac yw hsz hold hB hp K hK
                  have t79 : ac.tmps[79]? = some (.bool false) := (List.cons.inj (hp 9 (by decide))).1
                  rw [if_pos (wanted_pos rfl rfl t79)]
                  have t16 : ac.tmps[16]? = some (.bool false) := hold 16 (by kernel_rfl)
                  clear hold hp hsz
                  go_simp
                  exact hK.out _ _ ⟨hB, rfl, Nat.le_refl _, .inl (Below.refl _ _), fun h => absurd h (by decide)⟩
                refine Stps2.cons (o := _) ?_ ?_
                · intro ac yw hsz hold hB hp K hK
                  have t79 : ac.tmps[79]? = some (.bool false) := (List.cons.inj (hp 9 (by decide))).1
                  rw [if_pos (wanted_pos rfl rfl t79)]
                  have t18 : ac.tmps[18]? = some (.bool false) := hold 18 (by kernel_rfl)
                  clear hold hp hsz
                  go_simp
                  exact hK.out _ _ ⟨hB, rfl, Nat.le_refl _, .inl (Below.refl _ _), fun h => absurd h (by decide)⟩
                refine Stps2.cons (o := _) ?_ ?_
                · intro ac yw hsz hold hB hp K hK
                  have t79 : ac.tmps[79]? = some (.bool false) := (List.cons.inj (hp 9 (by decide))).1
                  rw [if_pos (wanted_pos rfl rfl t79)]
                  have e11 := hp 11 (by decide)
                  have t81 : ac.tmps[81]? = some (.bool false) := (List.cons.inj e11).1
                  clear hold hp hsz e11
                  go_simp
                  exact hK.out _ _ ⟨hB, rfl, Nat.le_refl _, .inl (Below.refl _ _), fun h => absurd h (by decide)⟩
                refine Stps2.cons (o := _) ?_ ?_
                · intro ac yw hsz hold hB hp K hK
                  have t82 : ac.tmps[82]? = some (.bool false) := (List.cons.inj (hp 12 (by decide))).1
                  rw [if_neg (by rw [wanted_neg rfl rfl t82 (fun e => by cases e)]; decide)]
                  exact hK.out _ _ ⟨hB, trivial, Nat.le_refl _, .inl (Below.refl _ _), fun h => absurd h (by decide)⟩
                refine Stps2.cons (o := _) ?_ ?_
                · intro ac yw hsz hold hB hp K hK
                  have t82 : ac.tmps[82]? = some (.bool false) := (List.cons.inj (hp 12 (by decide))).1
                  rw [if_neg (by rw [wanted_neg rfl rfl t82 (fun e => by cases e)]; decide)]
                  exact hK.out _ _ ⟨hB, trivial, Nat.le_refl _, .inl (Below.refl _ _), fun h => absurd h (by decide)⟩
                refine Stps2.cons (o := _) ?_ ?_
                · intro ac yw hsz hold hB hp K hK
                  have t82 : ac.tmps[82]? = some (.bool false) := (List.cons.inj (hp 12 (by decide))).1
                  rw [if_neg (by rw [wanted_neg rfl rfl t82 (fun e => by cases e)]; decide)]
                  exact hK.out _ _ ⟨hB, trivial, Nat.le_refl _, .inl (Below.refl _ _), fun h => absurd h (by decide)⟩
                refine Stps2.cons (o := _) ?_ ?_
                · intro ac yw hsz hold hB hp K hK
                  have t82 : ac.tmps[82]? = some (.bool false) := (List.cons.inj (hp 12 (by decide))).1
                  rw [if_neg (by rw [wanted_neg rfl rfl t82 (fun e => by cases e)]; decide)]
                  exact hK.out _ _ ⟨hB, trivial, Nat.le_refl _, .inl (Below.refl _ _), fun h => absurd h (by decide)⟩
                refine Stps2.cons (o := _) ?_ ?_
                · intro ac yw hsz hold hB hp K hK
                  have t79 : ac.tmps[79]? = some (.bool false) := (List.cons.inj (hp 9 (by decide))).1
                  rw [if_pos (wanted_pos rfl rfl t79)]
                  have e12 := hp 12 (by decide)
                  have t82 : ac.tmps[82]? = some (.bool false) := (List.cons.inj e12).1
                  clear hold hp hsz e12
                  go_simp
                  exact hK.out _ _ ⟨hB, rfl, Nat.le_refl _, .inl (Below.refl _ _), fun h => absurd h (by decide)⟩
                refine Stps2.cons (o := _) ?_ ?_
                · intro ac yw hsz hold hB hp K hK
                  have t79 : ac.tmps[79]? = some (.bool false) := (List.cons.inj (hp 9 (by decide))).1
                  rw [if_pos (wanted_pos rfl rfl t79)]
                  have e10 := hp 10 (by decide)
                  have t80 : ac.tmps[80]? = some (.bool false) := (List.cons.inj e10).1
                  have e17 := hp 17 (by decide)
                  have t87 : ac.tmps[87]? = some (.bool false) := (List.cons.inj e17).1
                  clear hold hp hsz e10 e17
                  go_simp
                  exact hK.out _ _ ⟨hB, rfl, Nat.le_refl _, .inl (Below.refl _ _), fun h => absurd h (by decide)⟩
                refine Stps2.cons (o := _) ?_ ?_
                · intro ac yw hsz hold hB hp K hK
                  have e9 := hp 9 (by decide)
                  have t79 : ac.tmps[79]? = some (.bool false) := (List.cons.inj e9).1
                  have e18 := hp 18 (by decide)
                  have t88 : ac.tmps[88]? = some (.bool false) := (List.cons.inj e18).1
                  clear hold hp hsz e9 e18
                  go_simp
                  exact hK.out _ _ ⟨hB, rfl, Nat.le_refl _, .inl (Below.refl _ _), fun h => absurd h (by decide)⟩
                refine Stps2.cons (o := _) ?_ ?_
                · intro ac yw hsz hold hB hp K hK
                  have e19 := hp 19 (by decide)
                  have t89 : ac.tmps[89]? = some (.bool false) := (List.cons.inj e19).1
                  clear hold hp hsz e19
                  go_simp
                  exact hK.out _ _ ⟨hB, rfl, Nat.le_refl _, .inl (Below.refl _ _), fun h => absurd h (by decide)⟩
                refine Stps2.cons (o := _) ?_ ?_
                · intro ac yw hsz hold hB hp K hK
                  have t90 : ac.tmps[90]? = some (.bool false) := (List.cons.inj (hp 20 (by decide))).1
                  rw [if_pos (wanted_pos rfl rfl t90)]
                  have t1 : ac.tmps[1]? = some (.slice la k lc) := hold 1 (by kernel_rfl)
                  clear hold hp hsz
                  go_simp
                  exact hK.out _ _ ⟨hB, rfl, Nat.le_refl _, .inl (Below.refl _ _), fun h => absurd h (by decide)⟩
                refine Stps2.cons (o := _) ?_ ?_
                · intro ac yw hsz hold hB hp K hK
                  have t90 : ac.tmps[90]? = some (.bool false) := (List.cons.inj (hp 20 (by decide))).1
                  rw [if_pos (wanted_pos rfl rfl t90)]
                  have e21 := hp 21 (by decide)
                  have t91 : ac.tmps[91]? = some (.slice la k lc) := (List.cons.inj e21).1
                  clear hold hp hsz e21
                  go_simp
                  (go_at_call 12; (with_reducible refine (AI.out _ (hB.now.2.2.2.2.2.1)).mono ?_); rintro e wz ⟨x22, rfl, h22_0, hbz⟩)
                  exact hK.out _ _ ⟨hB.go hbz, Exists.intro x22 (And.intro rfl h22_0), hbz.size, .inl hbz, fun h => absurd h (by decide)⟩
                refine Stps2.cons (o := _) ?_ ?_
                · intro ac yw hsz hold hB hp K hK
                  have t90 : ac.tmps[90]? = some (.bool false) := (List.cons.inj (hp 20 (by decide))).1
                  rw [if_pos (wanted_pos rfl rfl t90)]
                  obtain ⟨x22_22, e22, g22_0⟩ := hp 22 (by decide)
                  have t92 : ac.tmps[92]? = some (.agg x22_22) := (List.cons.inj e22).1
                  clear hold hp hsz e22
                  go_simp
                  (go_at_call 13; (with_reducible refine (PN.out _ _ g22_0).mono ?_); rintro e wz ⟨x23, rfl, h23_0, hbz⟩)
                  exact hK.out _ _ ⟨hB.go hbz, Exists.intro x23 (And.intro rfl h23_0), hbz.size, .inl hbz, fun h => absurd h (by decide)⟩
                refine Stps2.cons (o := _) ?_ ?_
                · intro ac yw hsz hold hB hp K hK
                  have t90 : ac.tmps[90]? = some (.bool false) := (List.cons.inj (hp 20 (by decide))).1
                  rw [if_pos (wanted_pos rfl rfl t90)]
                  have t19 : ac.tmps[19]? = some (.pointer (some ⟨kx, 0, none⟩)) := hold 19 (by kernel_rfl)
                  clear hold hp hsz
                  have v0_0 : yw.cell? ⟨kx + 1, 0, none⟩ = some (.slice ya 1 yc) := hB.now.1.cell 0
                  have v0_1 : yw.cell? ⟨kx + 1, 1, none⟩ = some (.bool true) := hB.now.1.cell 1
                  have v0_2 : yw.cell? ⟨kx + 1, 2, none⟩ = some (.slice yta tn ytc) := hB.now.1.cell 2
                  have v0_3 : yw.cell? ⟨kx + 1, 3, none⟩ = some (.slice yna 0 ync) := hB.now.1.cell 3
                  have v1_0 : yw.cell? ⟨kx, 0, none⟩ = some (.slice xa 1 xc) := hB.now.2.1.cell 0
                  have v1_1 : yw.cell? ⟨kx, 1, none⟩ = some (.bool false) := hB.now.2.1.cell 1
                  have v1_2 : yw.cell? ⟨kx, 2, none⟩ = some (.slice xta 0 xtc) := hB.now.2.1.cell 2
                  have v1_3 : yw.cell? ⟨kx, 3, none⟩ = some (.slice xna k xnc) := hB.now.2.1.cell 3
                  go_simp
                  exact hK.out _ _ ⟨hB, rfl, Nat.le_refl _, .inl (Below.refl _ _), fun h => absurd h (by decide)⟩
                refine Stps2.cons (o := _) ?_ ?_
                · intro ac yw hsz hold hB hp K hK
                  have t90 : ac.tmps[90]? = some (.bool false) := (List.cons.inj (hp 20 (by decide))).1
                  rw [if_pos (wanted_pos rfl rfl t90)]
                  obtain ⟨x23_23, e23, g23_0⟩ := hp 23 (by decide)
                  have t93 : ac.tmps[93]? = some (.agg x23_23) := (List.cons.inj e23).1
                  have e24 := hp 24 (by decide)
                  have t94 : ac.tmps[94]? = some (.agg #[.slice xa 1 xc, .bool false, .slice xta 0 xtc, .slice xna k xnc]) := (List.cons.inj e24).1
                  clear hold hp hsz e23 e24
                  go_simp
                  (go_at_call 11; (with_reducible refine (same_true g23_0 (hB.now.2.2.2.1)).mono ?_); rintro e wz ⟨rfl, hbz⟩)
                  exact hK.out _ _ ⟨hB.go hbz, rfl, hbz.size, .inl hbz, fun h => absurd h (by decide)⟩
                refine Stps2.cons (o := _) ?_ ?_
                · intro ac yw hsz hold hB hp K hK
                  have t90 : ac.tmps[90]? = some (.bool false) := (List.cons.inj (hp 20 (by decide))).1
                  rw [if_pos (wanted_pos rfl rfl t90)]
                  have e25 := hp 25 (by decide)
                  have t95 : ac.tmps[95]? = some (.bool true) := (List.cons.inj e25).1
                  clear hold hp hsz e25
                  go_simp
                  exact hK.out _ _ ⟨hB, rfl, Nat.le_refl _, .inl (Below.refl _ _), fun h => absurd h (by decide)⟩
                refine Stps2.cons (o := _) ?_ ?_
                · intro ac yw hsz hold hB hp K hK
                  have e20 := hp 20 (by decide)
                  have t90 : ac.tmps[90]? = some (.bool false) := (List.cons.inj e20).1
                  have e26 := hp 26 (by decide)
                  have t96 : ac.tmps[96]? = some (.bool false) := (List.cons.inj e26).1
                  clear hold hp hsz e20 e26
                  go_simp
                  exact hK.out _ _ ⟨hB, rfl, Nat.le_refl _, .inl (Below.refl _ _), fun h => absurd h (by decide)⟩
                refine Stps2.cons (o := _) ?_ ?_
                · intro ac yw hsz hold hB hp K hK
                  have e27 := hp 27 (by decide)
                  have t97 : ac.tmps[97]? = some (.bool false) := (List.cons.inj e27).1
                  clear hold hp hsz e27
                  go_simp
                  exact hK.out _ _ ⟨hB, rfl, Nat.le_refl _, .inl (Below.refl _ _), fun h => absurd h (by decide)⟩
                refine Stps2.cons (o := _) ?_ ?_
                · intro ac yw hsz hold hB hp K hK
                  have t98 : ac.tmps[98]? = some (.bool false) := (List.cons.inj (hp 28 (by decide))).1
                  rw [if_pos (wanted_pos rfl rfl t98)]
                  have t2 : ac.tmps[2]? = some (.slice ta tn tc) := hold 2 (by kernel_rfl)
                  clear hold hp hsz
                  go_simp
                  exact hK.out _ _ ⟨hB, rfl, Nat.le_refl _, .inl (Below.refl _ _), fun h => absurd h (by decide)⟩
                refine Stps2.cons (o := _) ?_ ?_
                · intro ac yw hsz hold hB hp K hK
                  have t98 : ac.tmps[98]? = some (.bool false) := (List.cons.inj (hp 28 (by decide))).1
                  rw [if_pos (wanted_pos rfl rfl t98)]
                  have e29 := hp 29 (by decide)
                  have t99 : ac.tmps[99]? = some (.slice ta tn tc) := (List.cons.inj e29).1
                  clear hold hp hsz e29
                  go_simp
                  (go_at_call 14; (with_reducible refine (AT.out _ (hB.now.2.2.2.2.1)).mono ?_); rintro e wz ⟨x30, rfl, h30_0, hbz⟩)
                  exact hK.out _ _ ⟨hB.go hbz, Exists.intro x30 (And.intro rfl h30_0), hbz.size, .inl hbz, fun h => absurd h (by decide)⟩
                refine Stps2.cons (o := _) ?_ ?_
                · intro ac yw hsz hold hB hp K hK
                  have t98 : ac.tmps[98]? = some (.bool false) := (List.cons.inj (hp 28 (by decide))).1
                  rw [if_pos (wanted_pos rfl rfl t98)]
                  obtain ⟨x30_30, e30, g30_0⟩ := hp 30 (by decide)
                  have t100 : ac.tmps[100]? = some (.agg x30_30) := (List.cons.inj e30).1
                  clear hold hp hsz e30
                  go_simp
                  (go_at_call 13; (with_reducible refine (PC.out _ _ g30_0).mono ?_); rintro e wz ⟨x31, rfl, h31_0, hbz⟩)
                  exact hK.out _ _ ⟨hB.go hbz, Exists.intro x31 (And.intro rfl h31_0), hbz.size, .inl hbz, fun h => absurd h (by decide)⟩
                refine Stps2.cons (o := _) ?_ ?_
                · intro ac yw hsz hold hB hp K hK
                  have t98 : ac.tmps[98]? = some (.bool false) := (List.cons.inj (hp 28 (by decide))).1
                  rw [if_pos (wanted_pos rfl rfl t98)]
                  have t20 : ac.tmps[20]? = some (.pointer (some ⟨(kx + 1), 0, none⟩)) := hold 20 (by kernel_rfl)
                  clear hold hp hsz
                  have v0_0 : yw.cell? ⟨kx + 1, 0, none⟩ = some (.slice ya 1 yc) := hB.now.1.cell 0
                  have v0_1 : yw.cell? ⟨kx + 1, 1, none⟩ = some (.bool true) := hB.now.1.cell 1
                  have v0_2 : yw.cell? ⟨kx + 1, 2, none⟩ = some (.slice yta tn ytc) := hB.now.1.cell 2
                  have v0_3 : yw.cell? ⟨kx + 1, 3, none⟩ = some (.slice yna 0 ync) := hB.now.1.cell 3
                  have v1_0 : yw.cell? ⟨kx, 0, none⟩ = some (.slice xa 1 xc) := hB.now.2.1.cell 0
                  have v1_1 : yw.cell? ⟨kx, 1, none⟩ = some (.bool false) := hB.now.2.1.cell 1
                  have v1_2 : yw.cell? ⟨kx, 2, none⟩ = some (.slice xta 0 xtc) := hB.now.2.1.cell 2
                  have v1_3 : yw.cell? ⟨kx, 3, none⟩ = some (.slice xna k xnc) := hB.now.2.1.cell 3
                  go_simp
                  exact hK.out _ _ ⟨hB, rfl, Nat.le_refl _, .inl (Below.refl _ _), fun h => absurd h (by decide)⟩
                refine Stps2.cons (o := _) ?_ ?_
                · intro ac yw hsz hold hB hp K hK
                  have t98 : ac.tmps[98]? = some (.bool false) := (List.cons.inj (hp 28 (by decide))).1
                  rw [if_pos (wanted_pos rfl rfl t98)]
                  obtain ⟨x31_31, e31, g31_0⟩ := hp 31 (by decide)
                  have t101 : ac.tmps[101]? = some (.agg x31_31) := (List.cons.inj e31).1
                  have e32 := hp 32 (by decide)
                  have t102 : ac.tmps[102]? = some (.agg #[.slice ya 1 yc, .bool true, .slice yta tn ytc, .slice yna 0 ync]) := (List.cons.inj e32).1
                  clear hold hp hsz e31 e32
                  go_simp
                  (go_at_call 11; (with_reducible refine (same_true g31_0 (hB.now.2.2.1)).mono ?_); rintro e wz ⟨rfl, hbz⟩)
                  exact hK.out _ _ ⟨hB.go hbz, rfl, hbz.size, .inl hbz, fun h => absurd h (by decide)⟩
                refine Stps2.cons (o := _) ?_ ?_
                · intro ac yw hsz hold hB hp K hK
                  have t98 : ac.tmps[98]? = some (.bool false) := (List.cons.inj (hp 28 (by decide))).1
                  rw [if_pos (wanted_pos rfl rfl t98)]
                  have e33 := hp 33 (by decide)
                  have t103 : ac.tmps[103]? = some (.bool true) := (List.cons.inj e33).1
                  clear hold hp hsz e33
                  go_simp
                  exact hK.out _ _ ⟨hB, rfl, Nat.le_refl _, .inl (Below.refl _ _), fun h => absurd h (by decide)⟩
                refine Stps2.cons (o := _) ?_ ?_
                · intro ac yw hsz hold hB hp K hK
                  have e28 := hp 28 (by decide)
                  have t98 : ac.tmps[98]? = some (.bool false) := (List.cons.inj e28).1
                  have e34 := hp 34 (by decide)
                  have t104 : ac.tmps[104]? = some (.bool false) := (List.cons.inj e34).1
                  clear hold hp hsz e28 e34
                  go_simp
                  exact hK.out _ _ ⟨hB, rfl, Nat.le_refl _, .inl (Below.refl _ _), fun h => absurd h (by decide)⟩
                exact Stps2.nil _
      · have d3 : (200 : Int) < tn := by omega
        clear h1 h2 h3 g1 g2
        go_enter Tryd.func3, Tryd.ntmps3
        go_wp2_with fail
        go_at_call 4
        refine (awake6_any _).mono ?_
        rintro e w3 ⟨rfl, hb3⟩
        have HB := Lib.hid hb3
        clear hb3
        go_wp2
        go_ret
        exact ⟨rfl, HB.out⟩
    · have d2 : (200 : Int) < ln := by omega
      clear h1 h2 h3 g1 g2
      go_enter Tryd.func3, Tryd.ntmps3
      go_wp2_with fail
      go_at_call 4
      refine (awake6_any _).mono ?_
      rintro e w3 ⟨rfl, hb3⟩
      have HB := Lib.hid hb3
      clear hb3
      go_wp2
      go_ret
      exact ⟨rfl, HB.out⟩
  · have d1 : (60 : Int) < sn := by omega
    clear h1 h2 h3 g1 g2
    go_enter Tryd.func3, Tryd.ntmps3
    go_wp2_with fail
    go_at_call 4
    refine (awake6_any _).mono ?_
    rintro e w3 ⟨rfl, hb3⟩
    have HB := Lib.hid hb3
    clear hb3
    go_wp2
    go_ret
    exact ⟨rfl, HB.out⟩

theorem own : ownKnob Tryd.prog.godebug = none := by kernel_rfl
theorem laidOut : laidOutB Tryd.prog = true := by kernel_rfl

set_option maxRecDepth 100000 in
theorem arrayBuilds_lifted (os : Os) (started : os.Started) (H : Type) (enc : TypeId × Value → H) :
    ReturnsInHanded {} Tryd.checked os 3 .any (fun w args => (Rows.arrayBuildsSpec.pre enc Tryd.prog Tryd.f3 [] false w args ∧ laidMetH Tryd.prog Rows.arrayBuildsRow.laid w) ∧ sizedMet enc Tryd.prog Tryd.f3 (OpenSpec.ofChange Rows.arrayBuildsSpec) false w args)
      (Rows.arrayBuildsSpec.post enc Tryd.prog Tryd.f3 false true false false) := by
  refine returnsInHanded_of_change_and (C := Tryd.checked) (X := fun w _ => laidMetH Tryd.prog Rows.arrayBuildsRow.laid w) (fun _ _ _ hh h => h.of_heap hh) own started (by kernel_rfl) Tryd.func3
    (ChangeSpec.witness_shaped (enc := enc) (C := Tryd.checked) (os := os) (X := fun w _ => laidMetH Tryd.prog Rows.arrayBuildsRow.laid w) false (World.laidAll Tryd.prog os Rows.arrayBuildsRow.laid) #[.slice none 0 0, .slice none 0 0, .slice none 0 0, .int .i32 0, .int .i64 0] 8 (World.laidAll_os _ _ _)
      (World.shaped_of_ZipB (by kernel_rfl) (by kernel_rfl)) (by kernel_rfl) (by kernel_rfl) (by kernel_rfl)
      (by rw [MakeChecks.laidMetH_plain _ _ _ (by kernel_rfl)]; exact laidMet_laidAll _ (by kernel_rfl) (by kernel_rfl))) ?_
  intro W base args ds gs before hval0 hW _ _ _ _
  have hval : ∀ (j : Nat) t v, Tryd.f3.params[j]? = some t → args[j]? = some v → Value.okWide Tryd.prog W .any base t v := hval0
  have hW' := hW
  obtain ⟨p, q, hA0, hV, rfl, _, _⟩ := hW
  have hA : DataW.TrodAll enc Tryd.prog W 0 (fun _ => true) true Tryd.f3.params.toList args.toList ds p := hA0
  rw [Tryd.params3] at hA hval
  obtain ⟨v0, v1, v2, v3, v4, d0, d1, d2, d3, d4, p0, p1, p2, p3, p4, rfl, rfl, rfl, h0, h1, h2, h3, h4⟩ := trodAll_five hA
  obtain ⟨rfl, rfl⟩ := trodVars_none hV
  obtain ⟨a0, n0, c0, f0, rfl, k0, w0⟩ := open_krow (ki := .i64) Tryd.underlying22 Tryd.underlying3 (by kernel_rfl) (hval 0 22 v0 rfl rfl) h0
  obtain ⟨a1, n1, c1, f1, rfl, k1, w1⟩ := open_krow (ki := .i64) Tryd.underlying22 Tryd.underlying3 (by kernel_rfl) (hval 1 22 v1 rfl rfl) h1
  obtain ⟨a2, n2, c2, f2, rfl, k2, w2⟩ := open_krow (ki := .i32) Tryd.underlying23 Tryd.underlying21 (by kernel_rfl) (hval 2 23 v2 rfl rfl) h2
  obtain ⟨x3, rfl, rfl, rfl, w3⟩ := open_int Tryd.underlying21 (hval 3 21 v3 rfl rfl) h3
  obtain ⟨x4, rfl, rfl, rfl, w4⟩ := open_int Tryd.underlying3 (hval 4 3 v4 rfl rfl) h4
  have b4 : -9223372036854775808 ≤ x4 ∧ x4 ≤ 9223372036854775807 := by simpa [Lit.wf, IntKind.min, IntKind.max, IntKind.signed, IntKind.bits] using w4
  have hlt : ∀ y ∈ p0 ++ (p1 ++ (p2 ++ ([] ++ ([])))), y.block < W.heap.size := fun y hy => by simpa using hW'.lt y (by simpa using hy)
  simp only [List.append_nil] at hW'
  refine (arrayBuilds_walk a0 n0 c0 f0 a1 n1 c1 f1 a2 n2 c2 f2 x3 x4 W k0 (in64_of w0) k1 (in64_of w1) k2 b4).mono fun e W' ⟨he, hb⟩ => ?_
  subst he
  exact ⟨_, rfl, _, _, _, [], _, [], hW', trodAll_mk1 (shut_bool Tryd.underlying4 _), trodAll_mk5 (Below.trod laidOut (by kernel_rfl) (of_decide_eq_true (by kernel_rfl)) h0 hb (fun y hy => hlt y (by simp [hy]))) (Below.trod laidOut (by kernel_rfl) (of_decide_eq_true (by kernel_rfl)) h1 hb (fun y hy => hlt y (by simp [hy]))) (Below.trod laidOut (by kernel_rfl) (of_decide_eq_true (by kernel_rfl)) h2 hb (fun y hy => hlt y (by simp [hy]))) (shut_int Tryd.underlying21 w3) (shut_int Tryd.underlying3 w4), rfl, hb.frame _, fun h => by cases h⟩

theorem arrayBuilds_row : Rows.ArrayBuildsSaid :=
  OpenClaim.holds_of_wide 3 Tryd.f3 rfl rfl rfl rfl rfl rfl rfl ⟨rfl, rfl, rfl, rfl, rfl⟩ rfl rfl rfl rfl rfl (by kernel_rfl) Tryd.func3 (by kernel_rfl)
    (of_decide_eq_true (by kernel_rfl)) (by unfold Func.isWrapper; first | (rw [if_pos (by decide +kernel)]; kernel_rfl) | (rw [if_neg (by decide +kernel)]; exact ⟨rfl, rfl⟩))
    (fun os started H enc _ => arrayBuilds_lifted os started H enc)

theorem arrayBuilds_holds : Rows.ArrayBuildsCardSaid :=
  Claim7.holds_tied_plain_at .later [] [.data, .pinned] true Rows.arrayBuildsCard.stood.harness Rows.arrayBuildsCard.stood.looks arrayBuilds_row (fun _ h => by cases h) (by kernel_rfl) (fun _ h => by cases h) arrayBuilds_row_tie rfl ⟨rfl, rfl⟩ (by kernel_rfl) rfl
    (fun f fn hf hfn => by
      obtain rfl : f = 3 := Option.some.inj ((show Tryd.prog.funcNamed "typeball/typeballlaw06.ArrayBuilds" = some 3 by kernel_rfl).symm.trans hf) |>.symm
      obtain rfl : fn = Tryd.f3 := (Option.some.inj (Tryd.func3.symm.trans hfn)).symm
      exact ⟨by kernel_rfl, fun j t ht => by
        rw [Tryd.params3] at ht
        have hm : t ∈ [22, 23, 21, 3] := by simpa using Array.mem_of_getElem? ht
        have hall : ([22, 23, 21, 3].all fun u => !Tryd.prog.wantsStandIn u) = true := by kernel_rfl
        exact (show Tryd.prog.wantsStandIn t = false by simpa using List.all_eq_true.1 hall t hm)⟩)
    (by kernel_rfl)
#print axioms arrayBuilds_holds
end Go.Proofs.YtphabhddmdpkmaaDoor
