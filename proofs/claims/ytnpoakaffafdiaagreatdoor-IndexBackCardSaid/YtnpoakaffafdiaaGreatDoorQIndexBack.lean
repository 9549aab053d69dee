/-
  Proved: the law IndexBack of package typeballlaw11 returns true for every two plain arrays and every row of what stands for axes, under the row's own conditions.
-/
import Derived.Test.YtnpoakaffafdiaaGreatDoorQ1
import Derived.Test.YtnpoakaffafdiaaGreatDoorQ2
import Derived.Test.YtnpoakaffafdiaaGreatDoorQ3
import Derived.Test.YtnpoakaffafdiaaGreatDoorQ4
import Derived.Test.YtnpoakaffafdiaaGreatDoorQ5
import Derived.Test.YtnpoakaffafdiaaGreatDoorQ6
import Derived.Test.YtnpoakaffafdiaaGreatDoorQ7
import Derived.Test.YtnpoakaffafdiaaGreatDoorQ8
import Derived.Test.YtnpoakaffafdiaaGreatDoorQ9
import Derived.Test.YtnpoakaffafdiaaGreatDoorQ10
import Derived.SizedLaws
import Derived.Test.YtnpoakaffafdiaaGreatDoorCards
import Derived.Test.YtnpoakaffafdiaaGreatDoorTie
import Derived.LaidMore
import Derived.Lay
import Derived.SevenTiedAt
import Derived.Stop.Joined
set_option maxHeartbeats 12800000
set_option maxRecDepth 100000
set_option linter.unusedSimpArgs false
set_option linter.unusedVariables false
namespace Go.Proofs.YtnpoakaffafdiaaGreatDoor
open Go.ChangeShapes Go.WideShapes Go.ChangeAt Go.RowKit Go.WideMaps Go.WideElems
attribute [local go_sem ↓] Go.wp_at_zero Go.wp_at_succ
theorem of_light {S : Nat -> Int} {r : Nat} {ch : Bool} {tn : Nat} {fB : Nat -> Bool} {fS fT : Nat -> ByteArray} {nn : Nat} {w w' : World} {e : Ending} (h : LightTold 200 S r ch tn fB fS fT nn w w' e) : ∃ b, e = .returned (.bool b) /\ (b = true -> ∃ L, tn = tnO ch L /\ nn = nnO ch L /\ Good S r ch L fB fS fT) /\ Below w.heap.size w w' := by
 obtain ⟨b, e1, h1, h2⟩ := h
 refine ⟨b, e1, fun hb => ?_, h2⟩
 obtain ⟨q1, q2, q3, q4, q5⟩ := h1 hb
 exact good_of ⟨by omega, by omega, q3, q4, q5⟩
theorem Sr.ok {d : Sr} (h : d.good) : d.sb.ok := by
 obtain ⟨_, _, h3, h4⟩ := h
 exact ⟨h3.sh, h3.cnt, (show d.L <= 4096 by omega), h3.pos⟩
theorem indexBack_walk (cs0 : Array Value) (S0 : Nat -> Int) (r0 : Nat) (ch0 : Bool) (g0 : Nat -> Int) (tn0 : Nat) (fB0 : Nat -> Bool) (fS0 fT0 : Nat -> ByteArray) (nn0 : Nat) (cs : Array Value) (S : Nat -> Int) (r : Nat) (ch : Bool) (g : Nat -> Int) (tn : Nat) (fB : Nat -> Bool) (fS fT : Nat -> ByteArray) (nn : Nat) (al : Option Addr) (nl cl : Nat) (E : Nat -> Sr)
    (w : World) (h0 : PlnAt w cs0 S0 r0 ch0 g0 tn0 fB0 fS0 fT0 nn0) (hS0 : In64 S0 r0) (hz0 : ∀ j, j < nn0 -> (fS0 j).size <= maxLen /\ (fT0 j).size <= maxLen) (h : PlnAt w cs S r ch g tn fB fS fT nn) (hS : In64 S r) (hz : ∀ j, j < nn -> (fS j).size <= maxLen /\ (fT j).size <= maxLen) (hl : DRow w al nl cl E) (hbd : ∀ j, j < nl -> (E j).bd) :
    Calls Tryz.prog 5 #[.agg cs0, .agg cs, .slice al nl cl] w fun e w' => e = .returned (.bool true) /\ Below w.heap.size w w' := by
 have HP0 := Lib.hid h0
 have HP := Lib.hid h
 have HD := Lib.hid hl
 have hll := hl.len
 obtain ⟨sb, scb, tb, tcb, nb, ncb, rfl, _⟩ := h0
 obtain ⟨sa, sc, ta, tc, na, nc, rfl, _⟩ := h
 have SB := Lib.hid (fun wz q => subs_any al nl cl E wz q hbd)
 have LP0 := Lib.hid (fun wz h => (light_any 200 (plC sb r0 scb ch0 tb tn0 tcb nb nn0 ncb) S0 r0 ch0 g0 tn0 fB0 fS0 fT0 nn0 wz h hS0 hz0).mono (fun _ _ q => of_light q))
 have LP := Lib.hid (fun wz h => (light_any 200 (plC sa r sc ch ta tn tc na nn nc) S r ch g tn fB fS fT nn wz h hS hz).mono (fun _ _ q => of_light q))
 have AW := Lib.hid (fun wz => awake11_any wz)
 have BB := Lib.hid (((Bag.start w).newRow (plC sb r0 scb ch0 tb tn0 tcb nb nn0 ncb) 26).newRow (plC sa r sc ch ta tn tc na nn nc) 26)
 simp only [World.size_alloc] at BB
 clear hS0 hz0 hS hz hl hbd
 unfold plC
 go_enter Tryz.func5, Tryz.ntmps5
 go_wp2_with fail
 go_at_call 8
 (refine (SB.out _ (HD.out.below BB.out.below)).mono ?_)
 rintro e w1 ⟨ok, ax, mx, cx, rfl, hok, hb1⟩
 have BB := Lib.hid (BB.out.go hb1)
 clear hb1 SB HD
 cases ok with
 | false =>
  clear hok LP0 LP HP0 HP
  go_wp2_with fail
  go_at_call 10
  (with_reducible refine (AW.out _).mono ?_)
  rintro e w9 ⟨rfl, hb9⟩
  have HE := Lib.hid (BB.out.go hb9).below
  clear hb9
  go_wp2
  go_ret
  exact ⟨rfl, HE.out⟩
 | true =>
 obtain ⟨rfl, hsr, hn20, hgd⟩ := hok rfl
 have HSR := Lib.hid hsr
 have HGD := Lib.hid hgd
 have HR := Lib.hid BB.out.now.2.1
 clear hok hsr hgd
 go_wp2_with (refine ldPG (by rfl) 3 rfl w.heap.size (plC sb r0 scb ch0 tb tn0 tcb nb nn0 ncb) (by rfl) HR.out rfl ?_)
 go_at_call 9
 (with_reducible refine (LP0.out _ ?_).mono ?_)
 · exact HP0.out.below BB.out.below
 rintro e w2 ⟨b0, rfl, hb0, hb2⟩
 have BB := Lib.hid (BB.out.go hb2)
 have HSR := Lib.hid (HSR.out.below hb2)
 clear hb2 LP0
 cases b0 with
 | false =>
  clear hb0 HR LP HP0 HP HSR HGD
  go_wp2_with fail
  go_at_call 10
  (with_reducible refine (AW.out _).mono ?_)
  rintro e w9 ⟨rfl, hb9⟩
  have HE := Lib.hid (BB.out.go hb9).below
  clear hb9
  go_wp2
  go_ret
  exact ⟨rfl, HE.out⟩
 | true =>
 obtain ⟨L0, rfl, rfl, hG0⟩ := hb0 rfl
 clear hb0
 have HR := Lib.hid BB.out.now.1
 go_wp2_with (refine ldPG (by rfl) 4 rfl (w.heap.size + 1) (plC sa r sc ch ta tn tc na nn nc) (by rfl) HR.out rfl ?_)
 go_at_call 9
 (with_reducible refine (LP.out _ ?_).mono ?_)
 · exact HP.out.below BB.out.below
 rintro e w3 ⟨b, rfl, hb, hb3⟩
 have BB := Lib.hid (BB.out.go hb3)
 have HSR := Lib.hid (HSR.out.below hb3)
 clear hb3 LP
 cases b with
 | false =>
  clear hb HR hG0 HP0 HP HSR HGD
  go_wp2_with fail
  go_at_call 10
  (with_reducible refine (AW.out _).mono ?_)
  rintro e w9 ⟨rfl, hb9⟩
  have HE := Lib.hid (BB.out.go hb9).below
  clear hb9
  go_wp2
  go_ret
  exact ⟨rfl, HE.out⟩
 | true =>
 obtain ⟨L, rfl, rfl, hG⟩ := hb rfl
 clear hb HR
 have OF0 := Lib.hid (fun wz h => of8_any (plC sb r0 scb ch0 tb (tnO ch0 L0) tcb nb (nnO ch0 L0) ncb) S0 r0 ch0 L0 g0 fB0 fS0 fT0 wz h hG0)
 have OF := Lib.hid (fun wz h => of8_any (plC sa r sc ch ta (tnO ch L) tc na (nnO ch L) nc) S r ch L g fB fS fT wz h hG)
 have HSM := Lib.hid hG0.small
 have h8 := hG.rank
 have h80 := hG0.rank
 have hGL0 := hG0.le
 have hGL := hG.le
 have HSH := Lib.hid (And.intro hG0.sh hG0.cnt)
 have HG := Lib.hid hG
 obtain ⟨mP, hmP⟩ : ∃ f, (gP fB0 fS0 fT0) = f := ⟨_, rfl⟩
 obtain ⟨mQ, hmQ⟩ : ∃ f, (gQ fB0 fS0 fT0) = f := ⟨_, rfl⟩
 rw [hmP, hmQ] at OF0 HSM
 obtain ⟨D, hD⟩ : ∃ D : Nat -> Sb, (fun j => (E j).sb) = D := ⟨_, rfl⟩
 rw [hD] at HSR
 have HOK : Hid (∀ j, j < mx -> (D j).ok) := Lib.hid (fun j hj => by rw [← hD]; exact Sr.ok (HGD.out j hj))
 clear hG hG0 hmP hmQ hD HGD
 have HR := Lib.hid BB.out.now.2.1
 go_wp2_with (refine ld_pln rfl (.tmp 3) rfl w.heap.size rfl HR.out ?_)
 go_at_call 12
 (refine (OF0.out _ (HP0.out.below BB.out.below)).mono ?_)
 rintro e w4 ⟨x, rfl, hx, hb4⟩
 have BB := Lib.hid (BB.out.go hb4)
 have HSR := Lib.hid (HSR.out.below hb4)
 obtain ⟨n1, m1, d1, u1, v1, y1, rfl, _⟩ := hx.form
 have BB := Lib.hid ((BB.out.arr hx).newRow (arrC ch0 ((r0 : Int) - 1) (dm S0 r0) n1 m1 d1 u1 v1 y1) 36)
 have HSR := Lib.hid (HSR.out.below ((Below.refl w4.heap.size w4).alloc (Nat.le_refl _) (.cells (arrC ch0 ((r0 : Int) - 1) (dm S0 r0) n1 m1 d1 u1 v1 y1) 36)))
 clear hx hb4 HR OF0
 have HRa := Lib.hid BB.out.now.1
 unfold arrC
 unfold arrC at HRa
 go_wp2_with (refine ld_arr rfl (.tmp 9) rfl w4.heap.size rfl HRa.out ?_)
 by_cases hE : ixE 0 S0 r0 D mx = 0
 case neg =>
  have II : Hid (∀ wz, Arr wz (arrC ch0 ((r0 : Int) - 1) (dm S0 r0) n1 m1 d1 u1 v1 y1) S0 r0 ch0 L0 g0 mP mQ -> SRow wz ax mx cx D -> Calls Tryz.prog 11 #[.agg (arrC ch0 ((r0 : Int) - 1) (dm S0 r0) n1 m1 d1 u1 v1 y1), .int .i64 0, .slice ax mx cx] wz fun e w' => e = .returned (.tuple #[.agg zerC, .int .i64 (ixE 0 S0 r0 D mx)]) /\ Below wz.heap.size wz w') := Lib.hid (fun wz q q2 => (iindex_any (arrC ch0 ((r0 : Int) - 1) (dm S0 r0) n1 m1 d1 u1 v1 y1) S0 r0 ch0 L0 g0 mP mQ 0 ax mx cx D wz q HSH.out.1 q2 HOK.out (by omega) (by omega)).mono (by
   intro e w' hq
   obtain ⟨y, e1, e2, e3⟩ := hq.res
   rw [e2.2.2 hE] at e1
   exact ⟨e1, e3⟩))
  have dE : (ixE 0 S0 r0 D mx != 0) = true := bne_iff_ne.2 hE
  obtain ⟨EE, hEE⟩ : ∃ z, ixE 0 S0 r0 D mx = z := ⟨_, rfl⟩
  rw [hEE] at II dE
  clear hEE hE
  unfold zerC arrC at II
  go_at_call 11
  (refine (II.out _ (BB.out.now.2.1.below (Below.refl _ _)) HSR.out).mono ?_)
  rintro e w5 ⟨rfl, hb5⟩
  have BB := Lib.hid ((BB.out.go hb5).alloc (.cells zerC 36))
  unfold zerC arrC at BB
  clear hb5 II HRa HSR
  go_wp2_with fail
  go_at_call 10
  (with_reducible refine (AW.out _).mono ?_)
  rintro e w9 ⟨rfl, hb9⟩
  have HE := Lib.hid (BB.out.go hb9).below
  clear hb9
  go_wp2
  go_ret
  exact ⟨rfl, HE.out⟩
 case pos =>
  obtain ⟨qG, qT, qM⟩ := ix_pos HSH.out.1 HSH.out.2 HOK.out hE
  have qR := (sh_count (ixE_zero hE).2.2).1
  have TK1 := fun x wz q q2 => iindex_any x S0 r0 ch0 L0 g0 mP mQ 0 ax mx cx D wz q HSH.out.1 q2 HOK.out (by omega) (by omega)
  have ST1 := fun x1 x2 wz q q2 q3 => set_taken x1 S0 r0 ch0 L0 g0 mP mQ x2 0 ax mx cx D wz q q2 HSH.out.1 HSH.out.2 q3 HOK.out (by omega) (by omega) hE
  have ST2 := fun x1 x2 wz q q2 q3 => set_one x1 S0 r0 ch0 L0 g0 mP mQ x2 S g (gP fB fS fT) (gQ fB fS fT) 0 ax mx cx D wz q q2 HSH.out.1 HSH.out.2 q3 HOK.out (by omega) (by omega) hE
  have TK2 := fun x wz q q3 => take_one x S0 r0 ch0 L0 g0 mP mQ g (gP fB fS fT) (gQ fB fS fT) 0 ax mx cx D wz q HSH.out.1 HSH.out.2 q3 HOK.out (by omega) (by omega) hE
  rw [hE] at TK1
  obtain ⟨G, hG⟩ : ∃ f, pkG S0 (lnF (ixN S0 D)) r0 (ixF 0 D) = f := ⟨_, rfl⟩
  obtain ⟨M, hM⟩ : ∃ f, (itm (lnF (ixN S0 D)) r0).toNat = f := ⟨_, rfl⟩
  obtain ⟨T, hT⟩ : ∃ f, ixT S0 D r0 = f := ⟨_, rfl⟩
  obtain ⟨R, hR⟩ : ∃ f, ixR D r0 = f := ⟨_, rfl⟩
  simp only [hG, hM, hT, hR] at TK1 ST1 ST2 TK2 qR qM
  obtain ⟨W1, hW1⟩ : ∃ f, puF G (fun j => g (j % 1)) M g0 = f := ⟨_, rfl⟩
  obtain ⟨W2, hW2⟩ : ∃ f, puF G (fun j => gP fB fS fT (j % 1)) M mP = f := ⟨_, rfl⟩
  obtain ⟨W3, hW3⟩ : ∃ f, puF G (fun j => gQ fB fS fT (j % 1)) M mQ = f := ⟨_, rfl⟩
  simp only [hW1, hW2, hW3] at ST2 TK2
  have TK1 : Hid (∀ x wz, Arr wz x S0 r0 ch0 L0 g0 mP mQ -> SRow wz ax mx cx D -> Calls Tryz.prog 11 #[.agg x, .int .i64 0, .slice ax mx cx] wz fun e w' => ∃ y, e = .returned (.tuple #[.agg y, .int .i64 0]) /\ Arr w' y T R ch0 M (fun j => elC L0 g0 32 (G j)) (fun j => elP L0 mP (G j)) (fun j => elQ L0 mQ (G j)) /\ Below wz.heap.size wz w') := Lib.hid (fun x wz q q2 => (TK1 x wz q q2).mono (fun _ _ h => h.ok rfl))
  have ST1 := Lib.hid ST1
  have ST2 := Lib.hid ST2
  have TK2 := Lib.hid TK2
  clear qG qT hE hG hM hT hR hW1 hW2 hW3
  go_at_call 11
  (refine (TK1.out _ _ (BB.out.now.2.1.below (Below.refl _ _)) HSR.out).mono ?_)
  rintro e w5 ⟨y, rfl, hy, hb5⟩
  have BB := Lib.hid (BB.out.go hb5)
  have HSR := Lib.hid (HSR.out.below hb5)
  obtain ⟨n2, m2, d2, u2, v2, y2, rfl, _⟩ := hy.form
  have BB := Lib.hid ((BB.out.arr hy).newRow (arrC ch0 ((R : Int) - 1) (dm T R) n2 m2 d2 u2 v2 y2) 36)
  have HSR := Lib.hid (HSR.out.below ((Below.refl w5.heap.size w5).alloc (Nat.le_refl _) (.cells (arrC ch0 ((R : Int) - 1) (dm T R) n2 m2 d2 u2 v2 y2) 36)))
  clear hy hb5 HRa TK1
  have HRa := Lib.hid BB.out.now.2.2.1
  have HRb := Lib.hid BB.out.now.1
  unfold arrC
  unfold arrC at HRa HRb
  go_wp2_with (first | refine ld_arr rfl (.tmp 9) rfl w4.heap.size rfl HRa.out ?_ | refine ld_arr rfl (.tmp 10) rfl w5.heap.size rfl HRb.out ?_)
  go_at_call 16
  (refine (ST1.out _ _ _ (BB.out.now.2.2.2.1.below (Below.refl _ _)) (BB.out.now.2.1.below (Below.refl _ _)) HSR.out).mono ?_)
  rintro e w6 ⟨z, rfl, hz, hb6⟩
  have BB := Lib.hid (BB.out.go hb6)
  have HSR := Lib.hid (HSR.out.below hb6)
  obtain ⟨n3, m3, d3, u3, v3, y3, rfl, _⟩ := hz.form
  have BB := Lib.hid ((BB.out.arr hz).newRow (arrC ch0 ((r0 : Int) - 1) (dm S0 r0) n3 m3 d3 u3 v3 y3) 36)
  have HSR := Lib.hid (HSR.out.below ((Below.refl w6.heap.size w6).alloc (Nat.le_refl _) (.cells (arrC ch0 ((r0 : Int) - 1) (dm S0 r0) n3 m3 d3 u3 v3 y3) 36)))
  clear hz hb6 HRa HRb ST1
  have HRa := Lib.hid BB.out.now.2.2.2.2.1
  have HRc := Lib.hid BB.out.now.1
  unfold arrC
  unfold arrC at HRa HRc
  go_wp2_with (first | refine ld8G (by rfl) 9 rfl w4.heap.size _ (by rfl) HRa.out rfl ?_ | refine ld8G (by rfl) 12 rfl w6.heap.size _ (by rfl) HRc.out rfl ?_)
  go_at_call 18
  (refine (sameA (BB.out.now.2.2.2.2.2.1.below (Below.refl _ _)) (BB.out.now.2.1.below (Below.refl _ _)) HSM.out).mono ?_)
  rintro e w7 ⟨rfl, hb7⟩
  have BB := Lib.hid (BB.out.go hb7)
  have HSR7 := Lib.hid (HSR.out.below hb7)
  clear hb7 HRa HRc
  have HRv := Lib.hid BB.out.now.2.2.2.2.2.2.1
  have HRp := Lib.hid BB.out.now.2.2.2.2.2.2.2.1
  have HRv2 := HRv.out
  have HRp2 := HRp.out
  unfold plC at HRv2 HRp2
  obtain ⟨l0, l1, l2, l3⟩ := pl_cells HRv2
  obtain ⟨k0, k1, k2, k3⟩ := pl_cells HRp2
  clear HRv2 HRp2
  by_cases hr : r = 0
  case neg =>
   have dr : (((r : Nat) : Int) != 0) = true := bne_iff_ne.2 (by omega)
   clear hr
   go_wp2_with fail
   go_at_call 10
   (with_reducible refine (AW.out _).mono ?_)
   rintro e w9 ⟨rfl, hb9⟩
   have HE := Lib.hid (BB.out.go hb9).below
   clear hb9
   go_wp2
   go_ret
   exact ⟨rfl, HE.out⟩
  case pos =>
   subst hr
   cases ch with
   | true =>
    cases ch0 with
    | false =>
     go_wp2_with fail
     go_at_call 10
     (with_reducible refine (AW.out _).mono ?_)
     rintro e w9 ⟨rfl, hb9⟩
     have HE := Lib.hid (BB.out.go hb9).below
     clear hb9
     go_wp2
     go_ret
     exact ⟨rfl, HE.out⟩
    | true =>
     obtain rfl : L = 1 := by
      have h1 : (1 : Int) = (L : Nat) := HG.out.cnt
      omega
     have RW4 : Hid (∀ yz, Below w7.heap.size w7 yz -> Row yz w4.heap.size 36 (arrC true ((r0 : Int) - 1) (dm S0 r0) n1 m1 d1 u1 v1 y1)) := Lib.hid (fun yz hb => Row.below BB.out.now.2.2.2.2.1 hb)
     have A4 : Hid (∀ yz, Below w7.heap.size w7 yz -> Arr yz (arrC true ((r0 : Int) - 1) (dm S0 r0) n1 m1 d1 u1 v1 y1) S0 r0 true L0 g0 mP mQ) := Lib.hid (fun yz hb => Arr.below BB.out.now.2.2.2.2.2.1 hb)
     have RW5 : Hid (∀ yz, Below w7.heap.size w7 yz -> Row yz w5.heap.size 36 (arrC true ((R : Int) - 1) (dm T R) n2 m2 d2 u2 v2 y2)) := Lib.hid (fun yz hb => Row.below BB.out.now.2.2.1 hb)
     have A5 : Hid (∀ yz, Below w7.heap.size w7 yz -> Arr yz (arrC true ((R : Int) - 1) (dm T R) n2 m2 d2 u2 v2 y2) T R true M (fun j => elC L0 g0 32 (G j)) (fun j => elP L0 mP (G j)) (fun j => elQ L0 mQ (G j))) := Lib.hid (fun yz hb => Arr.below BB.out.now.2.2.2.1 hb)
     have RWv : Hid (∀ yz, Below w7.heap.size w7 yz -> Row yz (w.heap.size + 1) 26 (plC sa 0 sc true ta (tnO true 1) tc na (nnO true 1) nc)) := Lib.hid (fun yz hb => Row.below HRv.out hb)
     have RWp : Hid (∀ yz, Below w7.heap.size w7 yz -> Row yz (w.heap.size) 26 (plC sb r0 scb true tb (tnO true L0) tcb nb (nnO true L0) ncb)) := Lib.hid (fun yz hb => Row.below HRp.out hb)
     have SRW : Hid (∀ yz, Below w7.heap.size w7 yz -> SRow yz ax mx cx D) := Lib.hid (fun yz hb => SRow.below HSR7.out hb)
     have HPv : Hid (∀ yz, Below w7.heap.size w7 yz -> Pln yz (plC sa 0 sc true ta (tnO true 1) tc na (nnO true 1) nc) S 0 true 1 g fB fS fT) := Lib.hid (fun yz hb => HP.out.below (BB.out.go hb).below)
     have LU : Hid (∀ x wz, Arr wz x T R true M (fun _ => g 0) (fun _ => gP fB fS fT 0) (fun _ => gQ fB fS fT 0) -> Calls Tryz.prog 19 #[.agg x] wz fun e w' => e = .returned (.int .i64 (M : Nat)) /\ Below wz.heap.size wz w') := Lib.hid (fun x wz q => len8_any _ _ _ _ _ _ _ _ _ q)
     have LY : Hid (∀ x wz, Arr wz x T R true M (fun j => elC L0 g0 32 (G j)) (fun j => elP L0 mP (G j)) (fun j => elQ L0 mQ (G j)) -> Calls Tryz.prog 19 #[.agg x] wz fun e w' => e = .returned (.int .i64 (M : Nat)) /\ Below wz.heap.size wz w') := Lib.hid (fun x wz q => len8_any _ _ _ _ _ _ _ _ _ q)
     have SZ4 : Hid (IsA (arrC true ((r0 : Int) - 1) (dm S0 r0) n1 m1 d1 u1 v1 y1)) := Lib.hid ⟨_, _, _, _, _, _, _, _, _, rfl⟩
     have SZ5 : Hid (IsA (arrC true ((R : Int) - 1) (dm T R) n2 m2 d2 u2 v2 y2)) := Lib.hid ⟨_, _, _, _, _, _, _, _, _, rfl⟩
     have BB := Lib.hid (Bag.fresh BB.out.below)
     clear HRv HRp HSR7 HP HP0
     go_wp2_with fail
     clear l0 l1 l2 l3 k0 k1 k2 k3
     generalize (arrC true ((r0 : Int) - 1) (dm S0 r0) n1 m1 d1 u1 v1 y1) = X1 at RW4 A4 SZ4
     generalize (arrC true ((R : Int) - 1) (dm T R) n2 m2 d2 u2 v2 y2) = Y1 at RW5 A5 SZ5
     refine wp_region_inv2 ⟨(fun j => ([[76], [77], [78], [79], [80], [75], [81], [82], [14], [14], [15]] : List (List Nat)).getD j []), (fun j => ([[], [], [1], [], [0, 1, 2, 3], [0, 1, 2, 3, 4], [0, 1, 2, 3, 4, 5], [0, 1, 2, 3, 4, 5], [], [0, 1, 2, 3, 4, 5, 6, 8], [0, 1, 2, 3, 4, 5, 6, 7, 8, 9]] : List (List Nat)).getD j []), [8]⟩ (fun jj vv yy => match jj with | 0 => vv = [some (.agg X1)] | 1 => vv = [some (.agg (plC sa 0 sc true ta (tnO true 1) tc na (nnO true 1) nc))] | 2 => ∃ (x2 : Array Value), vv = [some (.agg x2)] /\ Arr yy x2 S 0 true 1 g (gP fB fS fT) (gQ fB fS fT) | 3 => vv = [some (.slice ax mx cx)] | 4 => ∃ (x4 : Array Value), vv = [some (.tuple #[.agg x4, .int .i64 0])] /\ Arr yy x4 S0 r0 true L0 W1 W2 W3 /\ IsA x4 | 5 => ∃ (x4 : Array Value), vv = [some (.tuple #[.agg x4, .int .i64 0])] /\ Arr yy x4 S0 r0 true L0 W1 W2 W3 /\ IsA x4 | 6 => ∃ (x4 : Array Value), vv = [some (.agg x4)] /\ Arr yy x4 S0 r0 true L0 W1 W2 W3 /\ IsA x4 | 7 => vv = [some (.int .i64 0)] | 8 => ∃ (k8 : Nat), ∃ (z8 : Array Value), vv = [some (.pointer (some ⟨k8, 0, none⟩))] /\ Row yy k8 36 z8 /\ IsA z8 /\ w7.heap.size <= k8 | 9 => ∃ (k8 : Nat), ∃ (x4 : Array Value), vv = [some (.pointer (some ⟨k8, 0, none⟩))] /\ Row yy k8 36 x4 /\ Arr yy x4 S0 r0 true L0 W1 W2 W3 /\ IsA x4 | 10 => vv = [some (.int .i64 0)] | _ => True) (Bag w7 (fun _ => True)) (by kernel_rfl) (by kernel_rfl) (by kernel_rfl) (Bag.start w7).drew ?_ ?_ ?_
     · intro jj vv yw yw2 hb h
       match jj, h with
       | 0, h => exact h
       | 1, h => exact h
       | 2, ⟨x2, e2, g2_0⟩ => exact Exists.intro x2 (And.intro e2 (g2_0.below hb))
       | 3, h => exact h
       | 4, ⟨x4, e4, g4_0, g4_1⟩ => exact Exists.intro x4 (And.intro e4 (And.intro (g4_0.below hb) g4_1))
       | 5, ⟨x4, e5, g5_0, g5_1⟩ => exact Exists.intro x4 (And.intro e5 (And.intro (g5_0.below hb) g5_1))
       | 6, ⟨x4, e6, g6_0, g6_1⟩ => exact Exists.intro x4 (And.intro e6 (And.intro (g6_0.below hb) g6_1))
       | 7, h => exact h
       | 8, ⟨k8, z8, e8, g8_0, g8_1, g8_2⟩ => exact Exists.intro k8 (Exists.intro z8 (And.intro e8 (And.intro (g8_0.below hb) (And.intro g8_1 g8_2))))
       | 9, ⟨k8, x4, e9, g9_0, g9_1, g9_2⟩ => exact Exists.intro k8 (Exists.intro x4 (And.intro e9 (And.intro (g9_0.below hb) (And.intro (g9_1.below hb) g9_2))))
       | 10, h => exact h
       | _ + 11, h => exact h
     · intro ac yw hsz hdf hold hB hp
       obtain ⟨kd, xd, es, rs, ms, zs⟩ := hp 9 (by decide)
       have t14 : ac.tmps[14]? = some (.pointer (some ⟨kd, 0, none⟩)) := (List.cons.inj es).1
       have t15 : ac.tmps[15]? = some (.int .i64 0) := (List.cons.inj (hp 10 (by decide))).1
       have t3 : ac.tmps[3]? = some (.pointer (some ⟨w.heap.size, 0, none⟩)) := hold 3 (by kernel_rfl)
       have t4 : ac.tmps[4]? = some (.pointer (some ⟨w.heap.size + 1, 0, none⟩)) := hold 4 (by kernel_rfl)
       have t7 : ac.tmps[7]? = some (.slice ax mx cx) := hold 7 (by kernel_rfl)
       have t10 : ac.tmps[10]? = some (.pointer (some ⟨w5.heap.size, 0, none⟩)) := hold 10 (by kernel_rfl)
       have RW5 := Lib.hid (fun yz hb => RW5.out yz (hB.below.trans (Below.mono hb hB.below.size)))
       have A5 := Lib.hid (fun yz hb => A5.out yz (hB.below.trans (Below.mono hb hB.below.size)))
       have RWv := Lib.hid (fun yz hb => RWv.out yz (hB.below.trans (Below.mono hb hB.below.size)))
       have RWp := Lib.hid (fun yz hb => RWp.out yz (hB.below.trans (Below.mono hb hB.below.size)))
       have SRW := Lib.hid (fun yz hb => SRW.out yz (hB.below.trans (Below.mono hb hB.below.size)))
       have HPv := Lib.hid (fun yz hb => HPv.out yz (hB.below.trans (Below.mono hb hB.below.size)))
       have HRd := Lib.hid rs
       have HAd := Lib.hid ms
       have SZd := Lib.hid zs
       have BB := Lib.hid (BB.out.go hB.below)
       clear hold hp es rs ms zs hB RW4 A4 SZ4
       obtain ⟨TU, hTU⟩ : ∃ TU : Nat -> Value, ∀ i, (ac.tmps[i]?).getD undef = TU i := ⟨_, fun _ => rfl⟩
       have f3 := (hTU 3).symm.trans (congrArg (fun x => Option.getD x undef) t3)
       have f4 := (hTU 4).symm.trans (congrArg (fun x => Option.getD x undef) t4)
       have f7 := (hTU 7).symm.trans (congrArg (fun x => Option.getD x undef) t7)
       have f10 := (hTU 10).symm.trans (congrArg (fun x => Option.getD x undef) t10)
       have f14 := (hTU 14).symm.trans (congrArg (fun x => Option.getD x undef) t14)
       have f15 := (hTU 15).symm.trans (congrArg (fun x => Option.getD x undef) t15)
       have hac := act_eq (n := 137) hsz TU hTU
       rw [show ((List.range 137).map TU).toArray = #[TU 0, TU 1, TU 2, TU 3, TU 4, TU 5, TU 6, TU 7, TU 8, TU 9, TU 10, TU 11, TU 12, TU 13, TU 14, TU 15, TU 16, TU 17, TU 18, TU 19, TU 20, TU 21, TU 22, TU 23, TU 24, TU 25, TU 26, TU 27, TU 28, TU 29, TU 30, TU 31, TU 32, TU 33, TU 34, TU 35, TU 36, TU 37, TU 38, TU 39, TU 40, TU 41, TU 42, TU 43, TU 44, TU 45, TU 46, TU 47, TU 48, TU 49, TU 50, TU 51, TU 52, TU 53, TU 54, TU 55, TU 56, TU 57, TU 58, TU 59, TU 60, TU 61, TU 62, TU 63, TU 64, TU 65, TU 66, TU 67, TU 68, TU 69, TU 70, TU 71, TU 72, TU 73, TU 74, TU 75, TU 76, TU 77, TU 78, TU 79, TU 80, TU 81, TU 82, TU 83, TU 84, TU 85, TU 86, TU 87, TU 88, TU 89, TU 90, TU 91, TU 92, TU 93, TU 94, TU 95, TU 96, TU 97, TU 98, TU 99, TU 100, TU 101, TU 102, TU 103, TU 104, TU 105, TU 106, TU 107, TU 108, TU 109, TU 110, TU 111, TU 112, TU 113, TU 114, TU 115, TU 116, TU 117, TU 118, TU 119, TU 120, TU 121, TU 122, TU 123, TU 124, TU 125, TU 126, TU 127, TU 128, TU 129, TU 130, TU 131, TU 132, TU 133, TU 134, TU 135, TU 136] from rfl, f3, f4, f7, f10, f14, f15, hdf] at hac
       simp only [Option.getD_some] at hac
       subst hac
       clear hTU f3 f4 f7 f10 f14 f15
       clear hsz hdf t3 t4 t7 t10 t14 t15
       generalize yw = Y7 at *
       go_wp2_with (refine ld8G (by rfl) 14 rfl kd xd (by rfl) HRd.out SZd.out.size ?_)
       go_at_call 11
       (refine (TK2.out _ _ HAd.out (SRW.out _ (Below.refl _ _))).mono ?_)
       rintro e w8 ⟨u, rfl, hu, hb8⟩
       obtain ⟨n8, m8, d8, u8, v8, y8, rfl, _⟩ := hu.form
       have HB8 := Lib.hid (hb8.alloc hb8.size (.cells (arrC true ((R : Int) - 1) (dm T R) n8 m8 d8 u8 v8 y8) 36))
       have HA8 := Lib.hid (hu.below ((Below.refl _ _).alloc (Nat.le_refl _) (.cells (arrC true ((R : Int) - 1) (dm T R) n8 m8 d8 u8 v8 y8) 36)))
       have HR8 := Lib.hid (Row.new w8 36 (arrC true ((R : Int) - 1) (dm T R) n8 m8 d8 u8 v8 y8))
       clear hu hb8 HRd HAd SZd
       have RW5 := Lib.hid (fun yz hb => RW5.out yz (HB8.out.trans (Below.mono hb HB8.out.size)))
       have A5 := Lib.hid (fun yz hb => A5.out yz (HB8.out.trans (Below.mono hb HB8.out.size)))
       have RWv := Lib.hid (fun yz hb => RWv.out yz (HB8.out.trans (Below.mono hb HB8.out.size)))
       have RWp := Lib.hid (fun yz hb => RWp.out yz (HB8.out.trans (Below.mono hb HB8.out.size)))
       have HPv := Lib.hid (fun yz hb => HPv.out yz (HB8.out.trans (Below.mono hb HB8.out.size)))
       have BB := Lib.hid (BB.out.go HB8.out)
       unfold arrC
       unfold arrC at HB8 HA8 HR8
       go_wp2_with fail
       unfold arrC at BB RW5 A5 RWv RWp HPv
       generalize hY8 : w8.alloc (.cells _ 36) = Y8 at *
       clear hY8
       have RW8 : Hid (∀ yz, Below Y8.heap.size Y8 yz -> Row yz w8.heap.size 36 (arrC true ((R : Int) - 1) (dm T R) n8 m8 d8 u8 v8 y8)) := Lib.hid (fun yz hb => Row.below HR8.out hb)
       have A8 : Hid (∀ yz, Below Y8.heap.size Y8 yz -> Arr yz (arrC true ((R : Int) - 1) (dm T R) n8 m8 d8 u8 v8 y8) T R true M (fun _ => g 0) (fun _ => gP fB fS fT 0) (fun _ => gQ fB fS fT 0)) := Lib.hid (fun yz hb => Arr.below HA8.out hb)
       have SZ8 : Hid (IsA (arrC true ((R : Int) - 1) (dm T R) n8 m8 d8 u8 v8 y8)) := Lib.hid ⟨_, _, _, _, _, _, _, _, _, rfl⟩
       clear HR8 HA8 HB8
       obtain ⟨U1, hU1⟩ : ∃ z, (arrC true ((R : Int) - 1) (dm T R) n8 m8 d8 u8 v8 y8) = z := ⟨_, rfl⟩
       rw [hU1] at RW8 A8 SZ8
       have HU := Lib.hid hU1
       clear hU1
       refine wp_region_inv2 ⟨(fun j => ([[89], [90], [91], [92], [93], [94], [95], [96], [97], [98], [99], [100], [101]] : List (List Nat)).getD j []), (fun j => ([[], [0], [0, 1], [0, 1, 2], [0, 1, 2, 3], [0, 1, 2, 3, 4], [0, 1, 2, 3, 4, 5], [0, 1, 2, 3, 4, 5, 6], [0, 1, 2, 3, 4, 5, 6, 7], [0, 1, 2, 3, 4, 5, 6], [0, 1, 2, 3, 4, 5, 6, 7, 8, 9], [0, 1, 2, 3, 4, 5, 6, 7, 8, 9, 10], [0, 1, 2, 3, 4, 5, 6, 7, 8, 9, 10, 11]] : List (List Nat)).getD j []), []⟩ (fun jj vv yy => match jj with | 0 => vv = [some (.int .i64 0)] | 1 => vv = [some (.bool false)] | 2 => vv = [some (.bool false)] | 3 => vv = [some (.int .i64 0)] | 4 => vv = [some (.bool false)] | 5 => vv = [some (.bool false)] | 6 => vv = [some (.bool false)] | 7 => vv = [some (.agg U1)] | 8 => vv = [some (.int .i64 (M : Nat))] | 9 => vv = [some (.agg Y1)] | 10 => vv = [some (.int .i64 (M : Nat))] | 11 => vv = [some (.bool false)] | 12 => vv = [some (.bool false)] | _ => True) (Bag Y8 (fun _ => True)) (by kernel_rfl) (by kernel_rfl) (by kernel_rfl) (Bag.start Y8).drew ?_ ?_ ?_
       · intro jj vv yw yw2 hb h
         match jj, h with
         | 0, h => exact h
         | 1, h => exact h
         | 2, h => exact h
         | 3, h => exact h
         | 4, h => exact h
         | 5, h => exact h
         | 6, h => exact h
         | 7, h => exact h
         | 8, h => exact h
         | 9, h => exact h
         | 10, h => exact h
         | 11, h => exact h
         | 12, h => exact h
         | _ + 13, h => exact h
       · intro ac yw hsz hdf hold hB hp
         have t101 : ac.tmps[101]? = some (.bool false) := (List.cons.inj (hp 12 (by decide))).1
         have t3 : ac.tmps[3]? = some (.pointer (some ⟨w.heap.size, 0, none⟩)) := hold 3 (by kernel_rfl)
         have t4 : ac.tmps[4]? = some (.pointer (some ⟨w.heap.size + 1, 0, none⟩)) := hold 4 (by kernel_rfl)
         have t16 : ac.tmps[16]? = some (.pointer (some ⟨w8.heap.size, 0, none⟩)) := hold 16 (by kernel_rfl)
         have RW8 := Lib.hid (fun yz hb => RW8.out yz (hB.below.trans (Below.mono hb hB.below.size)))
         have A8 := Lib.hid (fun yz hb => A8.out yz (hB.below.trans (Below.mono hb hB.below.size)))
         have RWv := Lib.hid (fun yz hb => RWv.out yz (hB.below.trans (Below.mono hb hB.below.size)))
         have RWp := Lib.hid (fun yz hb => RWp.out yz (hB.below.trans (Below.mono hb hB.below.size)))
         have HPv := Lib.hid (fun yz hb => HPv.out yz (hB.below.trans (Below.mono hb hB.below.size)))
         have BB := Lib.hid (BB.out.go hB.below)
         clear hold hp hB
         obtain ⟨TV, hTV⟩ : ∃ TV : Nat -> Value, ∀ i, (ac.tmps[i]?).getD undef = TV i := ⟨_, fun _ => rfl⟩
         have f3 := (hTV 3).symm.trans (congrArg (fun x => Option.getD x undef) t3)
         have f4 := (hTV 4).symm.trans (congrArg (fun x => Option.getD x undef) t4)
         have f16 := (hTV 16).symm.trans (congrArg (fun x => Option.getD x undef) t16)
         have f101 := (hTV 101).symm.trans (congrArg (fun x => Option.getD x undef) t101)
         have hac := act_eq (n := 137) hsz TV hTV
         rw [show ((List.range 137).map TV).toArray = #[TV 0, TV 1, TV 2, TV 3, TV 4, TV 5, TV 6, TV 7, TV 8, TV 9, TV 10, TV 11, TV 12, TV 13, TV 14, TV 15, TV 16, TV 17, TV 18, TV 19, TV 20, TV 21, TV 22, TV 23, TV 24, TV 25, TV 26, TV 27, TV 28, TV 29, TV 30, TV 31, TV 32, TV 33, TV 34, TV 35, TV 36, TV 37, TV 38, TV 39, TV 40, TV 41, TV 42, TV 43, TV 44, TV 45, TV 46, TV 47, TV 48, TV 49, TV 50, TV 51, TV 52, TV 53, TV 54, TV 55, TV 56, TV 57, TV 58, TV 59, TV 60, TV 61, TV 62, TV 63, TV 64, TV 65, TV 66, TV 67, TV 68, TV 69, TV 70, TV 71, TV 72, TV 73, TV 74, TV 75, TV 76, TV 77, TV 78, TV 79, TV 80, TV 81, TV 82, TV 83, TV 84, TV 85, TV 86, TV 87, TV 88, TV 89, TV 90, TV 91, TV 92, TV 93, TV 94, TV 95, TV 96, TV 97, TV 98, TV 99, TV 100, TV 101, TV 102, TV 103, TV 104, TV 105, TV 106, TV 107, TV 108, TV 109, TV 110, TV 111, TV 112, TV 113, TV 114, TV 115, TV 116, TV 117, TV 118, TV 119, TV 120, TV 121, TV 122, TV 123, TV 124, TV 125, TV 126, TV 127, TV 128, TV 129, TV 130, TV 131, TV 132, TV 133, TV 134, TV 135, TV 136] from rfl, f3, f4, f16, f101, hdf] at hac
         simp only [Option.getD_some] at hac
         subst hac
         clear hTV f3 f4 f16 f101
         clear hsz hdf t3 t4 t16 t101
         generalize yw = Y9 at *
         go_wp2_with fail
         go_loopw [18] (fun i wr => ∃ q : Nat, q <= M /\ i = .int .i64 q /\ Hid (Below Y9.heap.size Y9 wr)) (fun i _ => M - (intOf i).toNat)
         case atStart => exact ⟨0, by omega, rfl, Below.refl _ _⟩
         case round =>
          obtain ⟨q, hq, rfl, hbq⟩ := hrel
          have HBQ := Lib.hid hbq.out
          have HRq := Lib.hid (RW8.out _ HBQ.out)
          clear hbq
          go_wp2_with (refine ld8G (by rfl) 16 rfl w8.heap.size U1 (by rfl) HRq.out SZ8.out.size ?_)
          go_at_call 19
          (refine (LU.out _ _ (A8.out _ HBQ.out)).mono ?_)
          rintro e wl ⟨rfl, hbl⟩
          have HBL := Lib.hid (HBQ.out.trans (hbl.mono HBQ.out.size))
          clear hbl HRq HBQ
          by_cases hlt : q < M
          · have hq0 : (0 : Int) <= q := by omega
            have hq1 : (q : Int) < M := by omega
            obtain ⟨xa, xc, xta, xtc, xna, xnc, ex, k1, k2, k3⟩ := HPv.out _ HBL.out
            have e5 : ta = xta := by
             simp [plC] at ex
             exact ex.2.1.1
            rw [← e5] at k2
            clear ex k1 k3 e5
            obtain ⟨bv, ov, rfl, hbv, hcv⟩ := k2.get (show 0 < tnO true 1 by decide)
            have HCV := Lib.hid hcv
            obtain ⟨gz, hgz⟩ : ∃ z, g 0 = z := ⟨_, rfl⟩
            have HGZ := Lib.hid hgz
            clear k2 hcv hgz
            have HSF : Hid (∀ y, Below wl.heap.size wl y -> y.cell? ⟨w.heap.size, 1, none⟩ = some (.bool true) /\ y.cell? ⟨w.heap.size + 1, 2, none⟩ = some (.slice (some ⟨bv, ov, none⟩) 1 tc) /\ y.cell? ⟨bv, ov, none⟩ = some (.int .i32 gz)) := Lib.hid (fun y hb => ⟨(RWp.out _ (HBL.out.trans (hb.mono HBL.out.size))).cell 1, (RWv.out _ (HBL.out.trans (hb.mono HBL.out.size))).cell 2, (hb.cell (p := ⟨bv, ov, none⟩) hbv).trans (by rw [← HGZ.out]; exact HCV.out)⟩)
            have RU : Hid (∀ x y, Arr y x T R true M (fun _ => g 0) (fun _ => gP fB fS fT 0) (fun _ => gQ fB fS fT 0) -> Calls Tryz.prog 20 #[.agg x, .int .i64 q] y fun e w' => e = .returned (.int .i32 gz) /\ Below y.heap.size y w') := Lib.hid (fun x y p => by
             have := rune8_any p hlt
             rw [← HGZ.out]
             exact this)
            have dG : (gz != gz) = false := bne_self_eq_false _
            have DG := Lib.hid dG
            clear dG
            go_wp2_with fail
            refine wp_region_inv2 ⟨(fun j => ([[108], [109], [110], [111], [112], [113], [114], [115], [116], [117], [118], [119], [120], [121], [122], [123], [124], [125], [126], [127], [128], [129], [130], [131], [132], [133], [134], [135]] : List (List Nat)).getD j []), (fun j => ([[], [0], [0, 1], [0, 1, 2], [0, 1, 2], [0, 1, 2, 3, 4], [0, 1, 2], [0, 1, 2, 6], [0, 1, 2, 6, 7], [0, 1, 2, 6, 7, 8], [0, 1, 2, 3, 4, 5, 6, 7, 8, 9], [0, 1, 2, 3, 4, 5, 6, 7, 8, 9, 10], [0, 1, 2, 3, 4, 5, 6, 7, 8, 9, 10, 11], [0, 1, 2, 3, 4, 5, 6, 7, 8, 9, 10, 11, 12], [0, 1, 2, 3, 4, 5, 6, 7, 8, 9, 10, 11, 12, 13], [0, 1, 2, 3, 4, 5, 6, 7, 8, 9, 10, 11, 12, 13, 14], [0, 1, 2, 3, 4, 5, 6, 7, 8, 9, 10, 11, 12, 13, 14, 15], [0, 1, 2, 3, 4, 5, 6, 7, 8, 9, 10, 11, 12, 13, 14, 15, 16], [0, 1, 2, 3, 4, 5, 6, 7, 8, 9, 10, 11, 12, 13, 14, 15, 16], [0, 1, 2, 3, 4, 5, 6, 7, 8, 9, 10, 11, 12, 13, 14, 15, 16, 17, 18], [0, 1, 2, 3, 4, 5, 6, 7, 8, 9, 10, 11, 12, 13, 14, 15, 16, 17, 18, 19], [0, 1, 2, 3, 4, 5, 6, 7, 8, 9, 10, 11, 12, 13, 14, 15, 16], [0, 1, 2, 3, 4, 5, 6, 7, 8, 9, 10, 11, 12, 13, 14, 15, 16, 21], [0, 1, 2, 3, 4, 5, 6, 7, 8, 9, 10, 11, 12, 13, 14, 15, 16, 21, 22], [0, 1, 2, 3, 4, 5, 6, 7, 8, 9, 10, 11, 12, 13, 14, 15, 16, 21, 22, 23], [0, 1, 2, 3, 4, 5, 6, 7, 8, 9, 10, 11, 12, 13, 14, 15, 16, 17, 18, 19, 20, 21, 22, 23, 24], [0, 1, 2, 3, 4, 5, 6, 7, 8, 9, 10, 11, 12, 13, 14, 15, 16, 17, 18, 19, 20, 21, 22, 23, 24, 25], [0, 1, 2, 3, 4, 5, 6, 7, 8, 9, 10, 11, 12, 13, 14, 15, 16, 17, 18, 19, 20, 21, 22, 23, 24, 25, 26]] : List (List Nat)).getD j []), []⟩ (fun jj vv yy => match jj with | 0 => vv = [some (.pointer (some ⟨w.heap.size, 1, none⟩))] | 1 => vv = [some (.bool true)] | 2 => vv = [some (.bool true)] | 3 => vv = [some (.agg U1)] | 4 => vv = [some (.int .i64 q)] | 5 => vv = [some (.int .i32 gz)] | 6 => vv = [some (.pointer (some ⟨w.heap.size + 1, 2, none⟩))] | 7 => vv = [some (.slice (some ⟨bv, ov, none⟩) 1 tc)] | 8 => vv = [some (.pointer (some ⟨bv, ov, none⟩))] | 9 => vv = [some (.int .i32 gz)] | 10 => vv = [some (.bool false)] | 11 => vv = [some (.bool false)] | 12 => vv = [some (.bool false)] | 13 => vv = [some (.pointer (some ⟨w.heap.size, 1, none⟩))] | 14 => vv = [some (.bool true)] | 15 => vv = [some (.bool false)] | 16 => vv = [some (.bool false)] | 17 => vv = [some undef] | 18 => vv = [some undef] | 19 => vv = [some undef] | 20 => vv = [some undef] | 21 => vv = [some undef] | 22 => vv = [some undef] | 23 => vv = [some undef] | 24 => vv = [some undef] | 25 => vv = [some undef] | 26 => vv = [some (.bool false)] | 27 => vv = [some (.bool false)] | _ => True) (Bag wl (fun _ => True)) (by kernel_rfl) (by kernel_rfl) (by kernel_rfl) (Bag.start wl).drew ?_ ?_ ?_
            · intro jj vv yw yw2 hb h
              match jj, h with
              | 0, h => exact h
              | 1, h => exact h
              | 2, h => exact h
              | 3, h => exact h
              | 4, h => exact h
              | 5, h => exact h
              | 6, h => exact h
              | 7, h => exact h
              | 8, h => exact h
              | 9, h => exact h
              | 10, h => exact h
              | 11, h => exact h
              | 12, h => exact h
              | 13, h => exact h
              | 14, h => exact h
              | 15, h => exact h
              | 16, h => exact h
              | 17, h => exact h
              | 18, h => exact h
              | 19, h => exact h
              | 20, h => exact h
              | 21, h => exact h
              | 22, h => exact h
              | 23, h => exact h
              | 24, h => exact h
              | 25, h => exact h
              | 26, h => exact h
              | 27, h => exact h
              | _ + 28, h => exact h
            · intro ac yw hsz hdf hold hB hp
              have t0 : ac.tmps[0]? = some (TV 0) := hold 0 (by kernel_rfl)
              have t1 : ac.tmps[1]? = some (TV 1) := hold 1 (by kernel_rfl)
              have t2 : ac.tmps[2]? = some (TV 2) := hold 2 (by kernel_rfl)
              have t3 : ac.tmps[3]? = some (.pointer (some ⟨w.heap.size, 0, none⟩)) := hold 3 (by kernel_rfl)
              have t4 : ac.tmps[4]? = some (.pointer (some ⟨w.heap.size + 1, 0, none⟩)) := hold 4 (by kernel_rfl)
              have t5 : ac.tmps[5]? = some (TV 5) := hold 5 (by kernel_rfl)
              have t7 : ac.tmps[7]? = some (TV 7) := hold 7 (by kernel_rfl)
              have t8 : ac.tmps[8]? = some (TV 8) := hold 8 (by kernel_rfl)
              have t9 : ac.tmps[9]? = some (TV 9) := hold 9 (by kernel_rfl)
              have t10 : ac.tmps[10]? = some (TV 10) := hold 10 (by kernel_rfl)
              have t11 : ac.tmps[11]? = some (TV 11) := hold 11 (by kernel_rfl)
              have t12 : ac.tmps[12]? = some (TV 12) := hold 12 (by kernel_rfl)
              have t13 : ac.tmps[13]? = some (TV 13) := hold 13 (by kernel_rfl)
              have t14 : ac.tmps[14]? = some (TV 14) := hold 14 (by kernel_rfl)
              have t15 : ac.tmps[15]? = some (TV 15) := hold 15 (by kernel_rfl)
              have t16 : ac.tmps[16]? = some (.pointer (some ⟨w8.heap.size, 0, none⟩)) := hold 16 (by kernel_rfl)
              have t17 : ac.tmps[17]? = some (TV 17) := hold 17 (by kernel_rfl)
              have t18 : ac.tmps[18]? = some (.int .i64 q) := hold 18 (by kernel_rfl)
              have t19 : ac.tmps[19]? = some (TV 19) := hold 19 (by kernel_rfl)
              have t20 : ac.tmps[20]? = some (TV 20) := hold 20 (by kernel_rfl)
              have t21 : ac.tmps[21]? = some (TV 21) := hold 21 (by kernel_rfl)
              have t22 : ac.tmps[22]? = some (TV 22) := hold 22 (by kernel_rfl)
              have t23 : ac.tmps[23]? = some (TV 23) := hold 23 (by kernel_rfl)
              have t24 : ac.tmps[24]? = some (TV 24) := hold 24 (by kernel_rfl)
              have t25 : ac.tmps[25]? = some (TV 25) := hold 25 (by kernel_rfl)
              have t26 : ac.tmps[26]? = some (TV 26) := hold 26 (by kernel_rfl)
              have t27 : ac.tmps[27]? = some (TV 27) := hold 27 (by kernel_rfl)
              have t28 : ac.tmps[28]? = some (TV 28) := hold 28 (by kernel_rfl)
              have t29 : ac.tmps[29]? = some (TV 29) := hold 29 (by kernel_rfl)
              have t30 : ac.tmps[30]? = some (TV 30) := hold 30 (by kernel_rfl)
              have t31 : ac.tmps[31]? = some (TV 31) := hold 31 (by kernel_rfl)
              have t32 : ac.tmps[32]? = some (TV 32) := hold 32 (by kernel_rfl)
              have t33 : ac.tmps[33]? = some (TV 33) := hold 33 (by kernel_rfl)
              have t34 : ac.tmps[34]? = some (TV 34) := hold 34 (by kernel_rfl)
              have t35 : ac.tmps[35]? = some (TV 35) := hold 35 (by kernel_rfl)
              have t36 : ac.tmps[36]? = some (TV 36) := hold 36 (by kernel_rfl)
              have t37 : ac.tmps[37]? = some (TV 37) := hold 37 (by kernel_rfl)
              have t38 : ac.tmps[38]? = some (TV 38) := hold 38 (by kernel_rfl)
              have t39 : ac.tmps[39]? = some (TV 39) := hold 39 (by kernel_rfl)
              have t40 : ac.tmps[40]? = some (TV 40) := hold 40 (by kernel_rfl)
              have t41 : ac.tmps[41]? = some (TV 41) := hold 41 (by kernel_rfl)
              have t42 : ac.tmps[42]? = some (TV 42) := hold 42 (by kernel_rfl)
              have t43 : ac.tmps[43]? = some (TV 43) := hold 43 (by kernel_rfl)
              have t44 : ac.tmps[44]? = some (TV 44) := hold 44 (by kernel_rfl)
              have t45 : ac.tmps[45]? = some (TV 45) := hold 45 (by kernel_rfl)
              have t46 : ac.tmps[46]? = some (TV 46) := hold 46 (by kernel_rfl)
              have t47 : ac.tmps[47]? = some (TV 47) := hold 47 (by kernel_rfl)
              have t48 : ac.tmps[48]? = some (TV 48) := hold 48 (by kernel_rfl)
              have t49 : ac.tmps[49]? = some (TV 49) := hold 49 (by kernel_rfl)
              have t50 : ac.tmps[50]? = some (TV 50) := hold 50 (by kernel_rfl)
              have t51 : ac.tmps[51]? = some (TV 51) := hold 51 (by kernel_rfl)
              have t52 : ac.tmps[52]? = some (TV 52) := hold 52 (by kernel_rfl)
              have t53 : ac.tmps[53]? = some (TV 53) := hold 53 (by kernel_rfl)
              have t54 : ac.tmps[54]? = some (TV 54) := hold 54 (by kernel_rfl)
              have t55 : ac.tmps[55]? = some (TV 55) := hold 55 (by kernel_rfl)
              have t56 : ac.tmps[56]? = some (TV 56) := hold 56 (by kernel_rfl)
              have t57 : ac.tmps[57]? = some (TV 57) := hold 57 (by kernel_rfl)
              have t58 : ac.tmps[58]? = some (TV 58) := hold 58 (by kernel_rfl)
              have t59 : ac.tmps[59]? = some (TV 59) := hold 59 (by kernel_rfl)
              have t60 : ac.tmps[60]? = some (TV 60) := hold 60 (by kernel_rfl)
              have t61 : ac.tmps[61]? = some (TV 61) := hold 61 (by kernel_rfl)
              have t62 : ac.tmps[62]? = some (TV 62) := hold 62 (by kernel_rfl)
              have t63 : ac.tmps[63]? = some (TV 63) := hold 63 (by kernel_rfl)
              have t64 : ac.tmps[64]? = some (TV 64) := hold 64 (by kernel_rfl)
              have t65 : ac.tmps[65]? = some (TV 65) := hold 65 (by kernel_rfl)
              have t66 : ac.tmps[66]? = some (TV 66) := hold 66 (by kernel_rfl)
              have t67 : ac.tmps[67]? = some (TV 67) := hold 67 (by kernel_rfl)
              have t68 : ac.tmps[68]? = some (TV 68) := hold 68 (by kernel_rfl)
              have t69 : ac.tmps[69]? = some (TV 69) := hold 69 (by kernel_rfl)
              have t70 : ac.tmps[70]? = some (TV 70) := hold 70 (by kernel_rfl)
              have t71 : ac.tmps[71]? = some (TV 71) := hold 71 (by kernel_rfl)
              have t72 : ac.tmps[72]? = some (TV 72) := hold 72 (by kernel_rfl)
              have t73 : ac.tmps[73]? = some (TV 73) := hold 73 (by kernel_rfl)
              have t74 : ac.tmps[74]? = some (TV 74) := hold 74 (by kernel_rfl)
              have t75 : ac.tmps[75]? = some (TV 75) := hold 75 (by kernel_rfl)
              have t76 : ac.tmps[76]? = some (TV 76) := hold 76 (by kernel_rfl)
              have t77 : ac.tmps[77]? = some (TV 77) := hold 77 (by kernel_rfl)
              have t78 : ac.tmps[78]? = some (TV 78) := hold 78 (by kernel_rfl)
              have t79 : ac.tmps[79]? = some (TV 79) := hold 79 (by kernel_rfl)
              have t80 : ac.tmps[80]? = some (TV 80) := hold 80 (by kernel_rfl)
              have t81 : ac.tmps[81]? = some (TV 81) := hold 81 (by kernel_rfl)
              have t82 : ac.tmps[82]? = some (TV 82) := hold 82 (by kernel_rfl)
              have t83 : ac.tmps[83]? = some (TV 83) := hold 83 (by kernel_rfl)
              have t84 : ac.tmps[84]? = some (TV 84) := hold 84 (by kernel_rfl)
              have t85 : ac.tmps[85]? = some (TV 85) := hold 85 (by kernel_rfl)
              have t86 : ac.tmps[86]? = some (TV 86) := hold 86 (by kernel_rfl)
              have t87 : ac.tmps[87]? = some (TV 87) := hold 87 (by kernel_rfl)
              have t88 : ac.tmps[88]? = some (TV 88) := hold 88 (by kernel_rfl)
              have t89 : ac.tmps[89]? = some (TV 89) := hold 89 (by kernel_rfl)
              have t90 : ac.tmps[90]? = some (TV 90) := hold 90 (by kernel_rfl)
              have t91 : ac.tmps[91]? = some (TV 91) := hold 91 (by kernel_rfl)
              have t92 : ac.tmps[92]? = some (TV 92) := hold 92 (by kernel_rfl)
              have t93 : ac.tmps[93]? = some (TV 93) := hold 93 (by kernel_rfl)
              have t94 : ac.tmps[94]? = some (TV 94) := hold 94 (by kernel_rfl)
              have t95 : ac.tmps[95]? = some (TV 95) := hold 95 (by kernel_rfl)
              have t96 : ac.tmps[96]? = some (TV 96) := hold 96 (by kernel_rfl)
              have t97 : ac.tmps[97]? = some (TV 97) := hold 97 (by kernel_rfl)
              have t98 : ac.tmps[98]? = some (TV 98) := hold 98 (by kernel_rfl)
              have t99 : ac.tmps[99]? = some (TV 99) := hold 99 (by kernel_rfl)
              have t100 : ac.tmps[100]? = some (TV 100) := hold 100 (by kernel_rfl)
              have t101 : ac.tmps[101]? = some (.bool false) := hold 101 (by kernel_rfl)
              have t135 : ac.tmps[135]? = some (.bool false) := (List.cons.inj (hp 27 (by decide))).1
              have t136 : ac.tmps[136]? = some (TV 136) := hold 136 (by kernel_rfl)
              have HBN := Lib.hid (HBL.out.trans (hB.below.mono HBL.out.size))
              clear hold hp hB
              obtain ⟨TX, hTX⟩ : ∃ TX : Nat -> Value, ∀ i, (ac.tmps[i]?).getD undef = TX i := ⟨_, fun _ => rfl⟩
              have f0 := (hTX 0).symm.trans (congrArg (fun x => Option.getD x undef) t0)
              have f1 := (hTX 1).symm.trans (congrArg (fun x => Option.getD x undef) t1)
              have f2 := (hTX 2).symm.trans (congrArg (fun x => Option.getD x undef) t2)
              have f3 := (hTX 3).symm.trans (congrArg (fun x => Option.getD x undef) t3)
              have f4 := (hTX 4).symm.trans (congrArg (fun x => Option.getD x undef) t4)
              have f5 := (hTX 5).symm.trans (congrArg (fun x => Option.getD x undef) t5)
              have f7 := (hTX 7).symm.trans (congrArg (fun x => Option.getD x undef) t7)
              have f8 := (hTX 8).symm.trans (congrArg (fun x => Option.getD x undef) t8)
              have f9 := (hTX 9).symm.trans (congrArg (fun x => Option.getD x undef) t9)
              have f10 := (hTX 10).symm.trans (congrArg (fun x => Option.getD x undef) t10)
              have f11 := (hTX 11).symm.trans (congrArg (fun x => Option.getD x undef) t11)
              have f12 := (hTX 12).symm.trans (congrArg (fun x => Option.getD x undef) t12)
              have f13 := (hTX 13).symm.trans (congrArg (fun x => Option.getD x undef) t13)
              have f14 := (hTX 14).symm.trans (congrArg (fun x => Option.getD x undef) t14)
              have f15 := (hTX 15).symm.trans (congrArg (fun x => Option.getD x undef) t15)
              have f16 := (hTX 16).symm.trans (congrArg (fun x => Option.getD x undef) t16)
              have f17 := (hTX 17).symm.trans (congrArg (fun x => Option.getD x undef) t17)
              have f18 := (hTX 18).symm.trans (congrArg (fun x => Option.getD x undef) t18)
              have f19 := (hTX 19).symm.trans (congrArg (fun x => Option.getD x undef) t19)
              have f20 := (hTX 20).symm.trans (congrArg (fun x => Option.getD x undef) t20)
              have f21 := (hTX 21).symm.trans (congrArg (fun x => Option.getD x undef) t21)
              have f22 := (hTX 22).symm.trans (congrArg (fun x => Option.getD x undef) t22)
              have f23 := (hTX 23).symm.trans (congrArg (fun x => Option.getD x undef) t23)
              have f24 := (hTX 24).symm.trans (congrArg (fun x => Option.getD x undef) t24)
              have f25 := (hTX 25).symm.trans (congrArg (fun x => Option.getD x undef) t25)
              have f26 := (hTX 26).symm.trans (congrArg (fun x => Option.getD x undef) t26)
              have f27 := (hTX 27).symm.trans (congrArg (fun x => Option.getD x undef) t27)
              have f28 := (hTX 28).symm.trans (congrArg (fun x => Option.getD x undef) t28)
              have f29 := (hTX 29).symm.trans (congrArg (fun x => Option.getD x undef) t29)
              have f30 := (hTX 30).symm.trans (congrArg (fun x => Option.getD x undef) t30)
              have f31 := (hTX 31).symm.trans (congrArg (fun x => Option.getD x undef) t31)
              have f32 := (hTX 32).symm.trans (congrArg (fun x => Option.getD x undef) t32)
              have f33 := (hTX 33).symm.trans (congrArg (fun x => Option.getD x undef) t33)
              have f34 := (hTX 34).symm.trans (congrArg (fun x => Option.getD x undef) t34)
              have f35 := (hTX 35).symm.trans (congrArg (fun x => Option.getD x undef) t35)
              have f36 := (hTX 36).symm.trans (congrArg (fun x => Option.getD x undef) t36)
              have f37 := (hTX 37).symm.trans (congrArg (fun x => Option.getD x undef) t37)
              have f38 := (hTX 38).symm.trans (congrArg (fun x => Option.getD x undef) t38)
              have f39 := (hTX 39).symm.trans (congrArg (fun x => Option.getD x undef) t39)
              have f40 := (hTX 40).symm.trans (congrArg (fun x => Option.getD x undef) t40)
              have f41 := (hTX 41).symm.trans (congrArg (fun x => Option.getD x undef) t41)
              have f42 := (hTX 42).symm.trans (congrArg (fun x => Option.getD x undef) t42)
              have f43 := (hTX 43).symm.trans (congrArg (fun x => Option.getD x undef) t43)
              have f44 := (hTX 44).symm.trans (congrArg (fun x => Option.getD x undef) t44)
              have f45 := (hTX 45).symm.trans (congrArg (fun x => Option.getD x undef) t45)
              have f46 := (hTX 46).symm.trans (congrArg (fun x => Option.getD x undef) t46)
              have f47 := (hTX 47).symm.trans (congrArg (fun x => Option.getD x undef) t47)
              have f48 := (hTX 48).symm.trans (congrArg (fun x => Option.getD x undef) t48)
              have f49 := (hTX 49).symm.trans (congrArg (fun x => Option.getD x undef) t49)
              have f50 := (hTX 50).symm.trans (congrArg (fun x => Option.getD x undef) t50)
              have f51 := (hTX 51).symm.trans (congrArg (fun x => Option.getD x undef) t51)
              have f52 := (hTX 52).symm.trans (congrArg (fun x => Option.getD x undef) t52)
              have f53 := (hTX 53).symm.trans (congrArg (fun x => Option.getD x undef) t53)
              have f54 := (hTX 54).symm.trans (congrArg (fun x => Option.getD x undef) t54)
              have f55 := (hTX 55).symm.trans (congrArg (fun x => Option.getD x undef) t55)
              have f56 := (hTX 56).symm.trans (congrArg (fun x => Option.getD x undef) t56)
              have f57 := (hTX 57).symm.trans (congrArg (fun x => Option.getD x undef) t57)
              have f58 := (hTX 58).symm.trans (congrArg (fun x => Option.getD x undef) t58)
              have f59 := (hTX 59).symm.trans (congrArg (fun x => Option.getD x undef) t59)
              have f60 := (hTX 60).symm.trans (congrArg (fun x => Option.getD x undef) t60)
              have f61 := (hTX 61).symm.trans (congrArg (fun x => Option.getD x undef) t61)
              have f62 := (hTX 62).symm.trans (congrArg (fun x => Option.getD x undef) t62)
              have f63 := (hTX 63).symm.trans (congrArg (fun x => Option.getD x undef) t63)
              have f64 := (hTX 64).symm.trans (congrArg (fun x => Option.getD x undef) t64)
              have f65 := (hTX 65).symm.trans (congrArg (fun x => Option.getD x undef) t65)
              have f66 := (hTX 66).symm.trans (congrArg (fun x => Option.getD x undef) t66)
              have f67 := (hTX 67).symm.trans (congrArg (fun x => Option.getD x undef) t67)
              have f68 := (hTX 68).symm.trans (congrArg (fun x => Option.getD x undef) t68)
              have f69 := (hTX 69).symm.trans (congrArg (fun x => Option.getD x undef) t69)
              have f70 := (hTX 70).symm.trans (congrArg (fun x => Option.getD x undef) t70)
              have f71 := (hTX 71).symm.trans (congrArg (fun x => Option.getD x undef) t71)
              have f72 := (hTX 72).symm.trans (congrArg (fun x => Option.getD x undef) t72)
              have f73 := (hTX 73).symm.trans (congrArg (fun x => Option.getD x undef) t73)
              have f74 := (hTX 74).symm.trans (congrArg (fun x => Option.getD x undef) t74)
              have f75 := (hTX 75).symm.trans (congrArg (fun x => Option.getD x undef) t75)
              have f76 := (hTX 76).symm.trans (congrArg (fun x => Option.getD x undef) t76)
              have f77 := (hTX 77).symm.trans (congrArg (fun x => Option.getD x undef) t77)
              have f78 := (hTX 78).symm.trans (congrArg (fun x => Option.getD x undef) t78)
              have f79 := (hTX 79).symm.trans (congrArg (fun x => Option.getD x undef) t79)
              have f80 := (hTX 80).symm.trans (congrArg (fun x => Option.getD x undef) t80)
              have f81 := (hTX 81).symm.trans (congrArg (fun x => Option.getD x undef) t81)
              have f82 := (hTX 82).symm.trans (congrArg (fun x => Option.getD x undef) t82)
              have f83 := (hTX 83).symm.trans (congrArg (fun x => Option.getD x undef) t83)
              have f84 := (hTX 84).symm.trans (congrArg (fun x => Option.getD x undef) t84)
              have f85 := (hTX 85).symm.trans (congrArg (fun x => Option.getD x undef) t85)
              have f86 := (hTX 86).symm.trans (congrArg (fun x => Option.getD x undef) t86)
              have f87 := (hTX 87).symm.trans (congrArg (fun x => Option.getD x undef) t87)
              have f88 := (hTX 88).symm.trans (congrArg (fun x => Option.getD x undef) t88)
              have f89 := (hTX 89).symm.trans (congrArg (fun x => Option.getD x undef) t89)
              have f90 := (hTX 90).symm.trans (congrArg (fun x => Option.getD x undef) t90)
              have f91 := (hTX 91).symm.trans (congrArg (fun x => Option.getD x undef) t91)
              have f92 := (hTX 92).symm.trans (congrArg (fun x => Option.getD x undef) t92)
              have f93 := (hTX 93).symm.trans (congrArg (fun x => Option.getD x undef) t93)
              have f94 := (hTX 94).symm.trans (congrArg (fun x => Option.getD x undef) t94)
              have f95 := (hTX 95).symm.trans (congrArg (fun x => Option.getD x undef) t95)
              have f96 := (hTX 96).symm.trans (congrArg (fun x => Option.getD x undef) t96)
              have f97 := (hTX 97).symm.trans (congrArg (fun x => Option.getD x undef) t97)
              have f98 := (hTX 98).symm.trans (congrArg (fun x => Option.getD x undef) t98)
              have f99 := (hTX 99).symm.trans (congrArg (fun x => Option.getD x undef) t99)
              have f100 := (hTX 100).symm.trans (congrArg (fun x => Option.getD x undef) t100)
              have f101 := (hTX 101).symm.trans (congrArg (fun x => Option.getD x undef) t101)
              have f135 := (hTX 135).symm.trans (congrArg (fun x => Option.getD x undef) t135)
              have f136 := (hTX 136).symm.trans (congrArg (fun x => Option.getD x undef) t136)
              have hac := act_eq (n := 137) hsz TX hTX
              rw [show ((List.range 137).map TX).toArray = #[TX 0, TX 1, TX 2, TX 3, TX 4, TX 5, TX 6, TX 7, TX 8, TX 9, TX 10, TX 11, TX 12, TX 13, TX 14, TX 15, TX 16, TX 17, TX 18, TX 19, TX 20, TX 21, TX 22, TX 23, TX 24, TX 25, TX 26, TX 27, TX 28, TX 29, TX 30, TX 31, TX 32, TX 33, TX 34, TX 35, TX 36, TX 37, TX 38, TX 39, TX 40, TX 41, TX 42, TX 43, TX 44, TX 45, TX 46, TX 47, TX 48, TX 49, TX 50, TX 51, TX 52, TX 53, TX 54, TX 55, TX 56, TX 57, TX 58, TX 59, TX 60, TX 61, TX 62, TX 63, TX 64, TX 65, TX 66, TX 67, TX 68, TX 69, TX 70, TX 71, TX 72, TX 73, TX 74, TX 75, TX 76, TX 77, TX 78, TX 79, TX 80, TX 81, TX 82, TX 83, TX 84, TX 85, TX 86, TX 87, TX 88, TX 89, TX 90, TX 91, TX 92, TX 93, TX 94, TX 95, TX 96, TX 97, TX 98, TX 99, TX 100, TX 101, TX 102, TX 103, TX 104, TX 105, TX 106, TX 107, TX 108, TX 109, TX 110, TX 111, TX 112, TX 113, TX 114, TX 115, TX 116, TX 117, TX 118, TX 119, TX 120, TX 121, TX 122, TX 123, TX 124, TX 125, TX 126, TX 127, TX 128, TX 129, TX 130, TX 131, TX 132, TX 133, TX 134, TX 135, TX 136] from rfl, f0, f1, f2, f3, f4, f5, f7, f8, f9, f10, f11, f12, f13, f14, f15, f16, f17, f18, f19, f20, f21, f22, f23, f24, f25, f26, f27, f28, f29, f30, f31, f32, f33, f34, f35, f36, f37, f38, f39, f40, f41, f42, f43, f44, f45, f46, f47, f48, f49, f50, f51, f52, f53, f54, f55, f56, f57, f58, f59, f60, f61, f62, f63, f64, f65, f66, f67, f68, f69, f70, f71, f72, f73, f74, f75, f76, f77, f78, f79, f80, f81, f82, f83, f84, f85, f86, f87, f88, f89, f90, f91, f92, f93, f94, f95, f96, f97, f98, f99, f100, f101, f135, f136, hdf] at hac
              simp only [Option.getD_some] at hac
              subst hac
              clear hTX f0 f1 f2 f3 f4 f5 f7 f8 f9 f10 f11 f12 f13 f14 f15 f16 f17 f18 f19 f20 f21 f22 f23 f24 f25 f26 f27 f28 f29 f30 f31 f32 f33 f34 f35 f36 f37 f38 f39 f40 f41 f42 f43 f44 f45 f46 f47 f48 f49 f50 f51 f52 f53 f54 f55 f56 f57 f58 f59 f60 f61 f62 f63 f64 f65 f66 f67 f68 f69 f70 f71 f72 f73 f74 f75 f76 f77 f78 f79 f80 f81 f82 f83 f84 f85 f86 f87 f88 f89 f90 f91 f92 f93 f94 f95 f96 f97 f98 f99 f100 f101 f135 f136
              clear hsz hdf t0 t1 t2 t3 t4 t5 t7 t8 t9 t10 t11 t12 t13 t14 t15 t16 t17 t18 t19 t20 t21 t22 t23 t24 t25 t26 t27 t28 t29 t30 t31 t32 t33 t34 t35 t36 t37 t38 t39 t40 t41 t42 t43 t44 t45 t46 t47 t48 t49 t50 t51 t52 t53 t54 t55 t56 t57 t58 t59 t60 t61 t62 t63 t64 t65 t66 t67 t68 t69 t70 t71 t72 t73 t74 t75 t76 t77 t78 t79 t80 t81 t82 t83 t84 t85 t86 t87 t88 t89 t90 t91 t92 t93 t94 t95 t96 t97 t98 t99 t100 t101 t135 t136
              generalize yw = Y10 at *
              go_wp2_with fail
              go_roundw
              case rel => exact ⟨q + 1, by omega, by go_num, HBN.out⟩
              case measure => simp [intOf]; omega
            refine Stps2.cons (o := _) ?_ ?_
            · intro ac yw hsz hold hB hp K hK
              have t3 : ac.tmps[3]? = some (.pointer (some ⟨w.heap.size, 0, none⟩)) := hold 3 (by kernel_rfl)
              clear hold hp hsz
              go_simp
              exact hK.out _ _ ⟨hB, rfl, Nat.le_refl _, .inl (Below.refl _ _), fun h => absurd h (by decide)⟩
            refine Stps2.cons (o := _) ?_ ?_
            · intro ac yw hsz hold hB hp K hK
              have e0 := hp 0 (by decide)
              have t108 : ac.tmps[108]? = some (.pointer (some ⟨w.heap.size, 1, none⟩)) := (List.cons.inj e0).1
              clear hold hp hsz e0
              obtain ⟨v0, v1, v2⟩ := HSF.out _ hB.below
              go_simp
              exact hK.out _ _ ⟨hB, rfl, Nat.le_refl _, .inl (Below.refl _ _), fun h => absurd h (by decide)⟩
            refine Stps2.cons (o := _) ?_ ?_
            · intro ac yw hsz hold hB hp K hK
              have e1 := hp 1 (by decide)
              have t109 : ac.tmps[109]? = some (.bool true) := (List.cons.inj e1).1
              clear hold hp hsz e1
              go_simp
              exact hK.out _ _ ⟨hB, rfl, Nat.le_refl _, .inl (Below.refl _ _), fun h => absurd h (by decide)⟩
            refine Stps2.cons (o := _) ?_ ?_
            · intro ac yw hsz hold hB hp K hK
              have t110 : ac.tmps[110]? = some (.bool true) := (List.cons.inj (hp 2 (by decide))).1
              rw [if_pos (wanted_pos rfl rfl t110)]
              have t16 : ac.tmps[16]? = some (.pointer (some ⟨w8.heap.size, 0, none⟩)) := hold 16 (by kernel_rfl)
              clear hold hp hsz
              refine ld8 16 rfl (w8.heap.size) (U1) t16 (RW8.out _ (HBL.out.trans (hB.below.mono HBL.out.size))) (SZ8.out.size) ?_
              exact hK.out _ _ ⟨hB, rfl, Nat.le_refl _, .inl (Below.refl _ _), fun h => absurd h (by decide)⟩
            refine Stps2.cons (o := _) ?_ ?_
            · intro ac yw hsz hold hB hp K hK
              have t110 : ac.tmps[110]? = some (.bool true) := (List.cons.inj (hp 2 (by decide))).1
              rw [if_pos (wanted_pos rfl rfl t110)]
              have t18 : ac.tmps[18]? = some (.int .i64 q) := hold 18 (by kernel_rfl)
              clear hold hp hsz
              go_simp
              exact hK.out _ _ ⟨hB, rfl, Nat.le_refl _, .inl (Below.refl _ _), fun h => absurd h (by decide)⟩
            refine Stps2.cons (o := _) ?_ ?_
            · intro ac yw hsz hold hB hp K hK
              have t110 : ac.tmps[110]? = some (.bool true) := (List.cons.inj (hp 2 (by decide))).1
              rw [if_pos (wanted_pos rfl rfl t110)]
              have e3 := hp 3 (by decide)
              have t111 : ac.tmps[111]? = some (.agg U1) := (List.cons.inj e3).1
              have e4 := hp 4 (by decide)
              have t112 : ac.tmps[112]? = some (.int .i64 q) := (List.cons.inj e4).1
              clear hold hp hsz e3 e4
              go_simp
              (go_at_call 20; (refine (RU.out _ _ (A8.out _ (HBL.out.trans (hB.below.mono HBL.out.size)))).mono ?_); rintro e wz ⟨rfl, hbz⟩)
              exact hK.out _ _ ⟨hB.go hbz, rfl, hbz.size, .inl hbz, fun h => absurd h (by decide)⟩
            refine Stps2.cons (o := _) ?_ ?_
            · intro ac yw hsz hold hB hp K hK
              have t110 : ac.tmps[110]? = some (.bool true) := (List.cons.inj (hp 2 (by decide))).1
              rw [if_pos (wanted_pos rfl rfl t110)]
              have t4 : ac.tmps[4]? = some (.pointer (some ⟨w.heap.size + 1, 0, none⟩)) := hold 4 (by kernel_rfl)
              clear hold hp hsz
              go_simp
              exact hK.out _ _ ⟨hB, rfl, Nat.le_refl _, .inl (Below.refl _ _), fun h => absurd h (by decide)⟩
            refine Stps2.cons (o := _) ?_ ?_
            · intro ac yw hsz hold hB hp K hK
              have t110 : ac.tmps[110]? = some (.bool true) := (List.cons.inj (hp 2 (by decide))).1
              rw [if_pos (wanted_pos rfl rfl t110)]
              have e6 := hp 6 (by decide)
              have t114 : ac.tmps[114]? = some (.pointer (some ⟨w.heap.size + 1, 2, none⟩)) := (List.cons.inj e6).1
              clear hold hp hsz e6
              obtain ⟨v0, v1, v2⟩ := HSF.out _ hB.below
              go_simp
              exact hK.out _ _ ⟨hB, rfl, Nat.le_refl _, .inl (Below.refl _ _), fun h => absurd h (by decide)⟩
            refine Stps2.cons (o := _) ?_ ?_
            · intro ac yw hsz hold hB hp K hK
              have t110 : ac.tmps[110]? = some (.bool true) := (List.cons.inj (hp 2 (by decide))).1
              rw [if_pos (wanted_pos rfl rfl t110)]
              have e7 := hp 7 (by decide)
              have t115 : ac.tmps[115]? = some (.slice (some ⟨bv, ov, none⟩) 1 tc) := (List.cons.inj e7).1
              clear hold hp hsz e7
              go_simp
              exact hK.out _ _ ⟨hB, rfl, Nat.le_refl _, .inl (Below.refl _ _), fun h => absurd h (by decide)⟩
            refine Stps2.cons (o := _) ?_ ?_
            · intro ac yw hsz hold hB hp K hK
              have t110 : ac.tmps[110]? = some (.bool true) := (List.cons.inj (hp 2 (by decide))).1
              rw [if_pos (wanted_pos rfl rfl t110)]
              have e8 := hp 8 (by decide)
              have t116 : ac.tmps[116]? = some (.pointer (some ⟨bv, ov, none⟩)) := (List.cons.inj e8).1
              clear hold hp hsz e8
              obtain ⟨v0, v1, v2⟩ := HSF.out _ hB.below
              go_simp
              exact hK.out _ _ ⟨hB, rfl, Nat.le_refl _, .inl (Below.refl _ _), fun h => absurd h (by decide)⟩
            refine Stps2.cons (o := _) ?_ ?_
            · intro ac yw hsz hold hB hp K hK
              have t110 : ac.tmps[110]? = some (.bool true) := (List.cons.inj (hp 2 (by decide))).1
              rw [if_pos (wanted_pos rfl rfl t110)]
              have e5 := hp 5 (by decide)
              have t113 : ac.tmps[113]? = some (.int .i32 gz) := (List.cons.inj e5).1
              have e9 := hp 9 (by decide)
              have t117 : ac.tmps[117]? = some (.int .i32 gz) := (List.cons.inj e9).1
              clear hold hp hsz e5 e9
              have dG := DG.out
              go_simp
              exact hK.out _ _ ⟨hB, rfl, Nat.le_refl _, .inl (Below.refl _ _), fun h => absurd h (by decide)⟩
            refine Stps2.cons (o := _) ?_ ?_
            · intro ac yw hsz hold hB hp K hK
              have e2 := hp 2 (by decide)
              have t110 : ac.tmps[110]? = some (.bool true) := (List.cons.inj e2).1
              have e10 := hp 10 (by decide)
              have t118 : ac.tmps[118]? = some (.bool false) := (List.cons.inj e10).1
              clear hold hp hsz e2 e10
              go_simp
              exact hK.out _ _ ⟨hB, rfl, Nat.le_refl _, .inl (Below.refl _ _), fun h => absurd h (by decide)⟩
            refine Stps2.cons (o := _) ?_ ?_
            · intro ac yw hsz hold hB hp K hK
              have e11 := hp 11 (by decide)
              have t119 : ac.tmps[119]? = some (.bool false) := (List.cons.inj e11).1
              clear hold hp hsz e11
              go_simp
              exact hK.out _ _ ⟨hB, rfl, Nat.le_refl _, .inl (Below.refl _ _), fun h => absurd h (by decide)⟩
            refine Stps2.cons (o := _) ?_ ?_
            · intro ac yw hsz hold hB hp K hK
              have t120 : ac.tmps[120]? = some (.bool false) := (List.cons.inj (hp 12 (by decide))).1
              rw [if_pos (wanted_pos rfl rfl t120)]
              have t3 : ac.tmps[3]? = some (.pointer (some ⟨w.heap.size, 0, none⟩)) := hold 3 (by kernel_rfl)
              clear hold hp hsz
              go_simp
              exact hK.out _ _ ⟨hB, rfl, Nat.le_refl _, .inl (Below.refl _ _), fun h => absurd h (by decide)⟩
            refine Stps2.cons (o := _) ?_ ?_
            · intro ac yw hsz hold hB hp K hK
              have t120 : ac.tmps[120]? = some (.bool false) := (List.cons.inj (hp 12 (by decide))).1
              rw [if_pos (wanted_pos rfl rfl t120)]
              have e13 := hp 13 (by decide)
              have t121 : ac.tmps[121]? = some (.pointer (some ⟨w.heap.size, 1, none⟩)) := (List.cons.inj e13).1
              clear hold hp hsz e13
              obtain ⟨v0, v1, v2⟩ := HSF.out _ hB.below
              go_simp
              exact hK.out _ _ ⟨hB, rfl, Nat.le_refl _, .inl (Below.refl _ _), fun h => absurd h (by decide)⟩
            refine Stps2.cons (o := _) ?_ ?_
            · intro ac yw hsz hold hB hp K hK
              have t120 : ac.tmps[120]? = some (.bool false) := (List.cons.inj (hp 12 (by decide))).1
              rw [if_pos (wanted_pos rfl rfl t120)]
              have e14 := hp 14 (by decide)
              have t122 : ac.tmps[122]? = some (.bool true) := (List.cons.inj e14).1
              clear hold hp hsz e14
              go_simp
              exact hK.out _ _ ⟨hB, rfl, Nat.le_refl _, .inl (Below.refl _ _), fun h => absurd h (by decide)⟩
            refine Stps2.cons (o := _) ?_ ?_
            · intro ac yw hsz hold hB hp K hK
              have t120 : ac.tmps[120]? = some (.bool false) := (List.cons.inj (hp 12 (by decide))).1
              rw [if_pos (wanted_pos rfl rfl t120)]
              have e15 := hp 15 (by decide)
              have t123 : ac.tmps[123]? = some (.bool false) := (List.cons.inj e15).1
              clear hold hp hsz e15
              go_simp
              exact hK.out _ _ ⟨hB, rfl, Nat.le_refl _, .inl (Below.refl _ _), fun h => absurd h (by decide)⟩
            refine Stps2.cons (o := _) ?_ ?_
            · intro ac yw hsz hold hB hp K hK
              have t124 : ac.tmps[124]? = some (.bool false) := (List.cons.inj (hp 16 (by decide))).1
              rw [if_neg (by rw [wanted_neg rfl rfl t124 (fun e => by cases e)]; decide)]
              exact hK.out _ _ ⟨hB, rfl, Nat.le_refl _, .inl (Below.refl _ _), fun h => absurd h (by decide)⟩
            refine Stps2.cons (o := _) ?_ ?_
            · intro ac yw hsz hold hB hp K hK
              have t124 : ac.tmps[124]? = some (.bool false) := (List.cons.inj (hp 16 (by decide))).1
              rw [if_neg (by rw [wanted_neg rfl rfl t124 (fun e => by cases e)]; decide)]
              exact hK.out _ _ ⟨hB, rfl, Nat.le_refl _, .inl (Below.refl _ _), fun h => absurd h (by decide)⟩
            refine Stps2.cons (o := _) ?_ ?_
            · intro ac yw hsz hold hB hp K hK
              have t124 : ac.tmps[124]? = some (.bool false) := (List.cons.inj (hp 16 (by decide))).1
              rw [if_neg (by rw [wanted_neg rfl rfl t124 (fun e => by cases e)]; decide)]
              exact hK.out _ _ ⟨hB, rfl, Nat.le_refl _, .inl (Below.refl _ _), fun h => absurd h (by decide)⟩
            refine Stps2.cons (o := _) ?_ ?_
            · intro ac yw hsz hold hB hp K hK
              have t124 : ac.tmps[124]? = some (.bool false) := (List.cons.inj (hp 16 (by decide))).1
              rw [if_neg (by rw [wanted_neg rfl rfl t124 (fun e => by cases e)]; decide)]
              exact hK.out _ _ ⟨hB, rfl, Nat.le_refl _, .inl (Below.refl _ _), fun h => absurd h (by decide)⟩
            refine Stps2.cons (o := _) ?_ ?_
            · intro ac yw hsz hold hB hp K hK
              have t124 : ac.tmps[124]? = some (.bool false) := (List.cons.inj (hp 16 (by decide))).1
              rw [if_neg (by rw [wanted_neg rfl rfl t124 (fun e => by cases e)]; decide)]
              exact hK.out _ _ ⟨hB, rfl, Nat.le_refl _, .inl (Below.refl _ _), fun h => absurd h (by decide)⟩
            refine Stps2.cons (o := _) ?_ ?_
            · intro ac yw hsz hold hB hp K hK
              have t124 : ac.tmps[124]? = some (.bool false) := (List.cons.inj (hp 16 (by decide))).1
              rw [if_neg (by rw [wanted_neg rfl rfl t124 (fun e => by cases e)]; decide)]
              exact hK.out _ _ ⟨hB, rfl, Nat.le_refl _, .inl (Below.refl _ _), fun h => absurd h (by decide)⟩
            refine Stps2.cons (o := _) ?_ ?_
            · intro ac yw hsz hold hB hp K hK
              have t124 : ac.tmps[124]? = some (.bool false) := (List.cons.inj (hp 16 (by decide))).1
              rw [if_neg (by rw [wanted_neg rfl rfl t124 (fun e => by cases e)]; decide)]
              exact hK.out _ _ ⟨hB, rfl, Nat.le_refl _, .inl (Below.refl _ _), fun h => absurd h (by decide)⟩
            refine Stps2.cons (o := _) ?_ ?_
            · intro ac yw hsz hold hB hp K hK
              have t124 : ac.tmps[124]? = some (.bool false) := (List.cons.inj (hp 16 (by decide))).1
              rw [if_neg (by rw [wanted_neg rfl rfl t124 (fun e => by cases e)]; decide)]
              exact hK.out _ _ ⟨hB, rfl, Nat.le_refl _, .inl (Below.refl _ _), fun h => absurd h (by decide)⟩
            refine Stps2.cons (o := _) ?_ ?_
            · intro ac yw hsz hold hB hp K hK
              have t124 : ac.tmps[124]? = some (.bool false) := (List.cons.inj (hp 16 (by decide))).1
              rw [if_neg (by rw [wanted_neg rfl rfl t124 (fun e => by cases e)]; decide)]
              exact hK.out _ _ ⟨hB, rfl, Nat.le_refl _, .inl (Below.refl _ _), fun h => absurd h (by decide)⟩
            refine Stps2.cons (o := _) ?_ ?_
            · intro ac yw hsz hold hB hp K hK
              have t120 : ac.tmps[120]? = some (.bool false) := (List.cons.inj (hp 12 (by decide))).1
              rw [if_pos (wanted_pos rfl rfl t120)]
              have e16 := hp 16 (by decide)
              have t124 : ac.tmps[124]? = some (.bool false) := (List.cons.inj e16).1
              clear hold hp hsz e16
              go_simp
              exact hK.out _ _ ⟨hB, rfl, Nat.le_refl _, .inl (Below.refl _ _), fun h => absurd h (by decide)⟩
            refine Stps2.cons (o := _) ?_ ?_
            · intro ac yw hsz hold hB hp K hK
              have e12 := hp 12 (by decide)
              have t120 : ac.tmps[120]? = some (.bool false) := (List.cons.inj e12).1
              have e26 := hp 26 (by decide)
              have t134 : ac.tmps[134]? = some (.bool false) := (List.cons.inj e26).1
              clear hold hp hsz e12 e26
              go_simp
              exact hK.out _ _ ⟨hB, rfl, Nat.le_refl _, .inl (Below.refl _ _), fun h => absurd h (by decide)⟩
            exact Stps2.nil _
          · have hq1 : ¬ (q : Int) < M := by omega
            have BQ := Lib.hid (BB.out.go HBL.out)
            clear hlt hq A8 RW8 RWv RWp HPv LU LY HG BB HBL SZ8 HU
            go_wp2_with fail
            go_at_call 10
            (with_reducible refine (AW.out _).mono ?_)
            rintro e w9 ⟨rfl, hb9⟩
            have HE := Lib.hid (BQ.out.go hb9).below
            clear hb9
            go_wp2
            go_ret
            exact ⟨rfl, HE.out⟩
       refine Stps2.cons (o := _) ?_ ?_
       · intro ac yw hsz hold hB hp K hK
         have t15 : ac.tmps[15]? = some (.int .i64 0) := hold 15 (by kernel_rfl)
         clear hold hp hsz
         go_simp
         exact hK.out _ _ ⟨hB, rfl, Nat.le_refl _, .inl (Below.refl _ _), fun h => absurd h (by decide)⟩
       refine Stps2.cons (o := _) ?_ ?_
       · intro ac yw hsz hold hB hp K hK
         have e0 := hp 0 (by decide)
         have t89 : ac.tmps[89]? = some (.int .i64 0) := (List.cons.inj e0).1
         clear hold hp hsz e0
         go_simp
         exact hK.out _ _ ⟨hB, rfl, Nat.le_refl _, .inl (Below.refl _ _), fun h => absurd h (by decide)⟩
       refine Stps2.cons (o := _) ?_ ?_
       · intro ac yw hsz hold hB hp K hK
         have e1 := hp 1 (by decide)
         have t90 : ac.tmps[90]? = some (.bool false) := (List.cons.inj e1).1
         clear hold hp hsz e1
         go_simp
         exact hK.out _ _ ⟨hB, rfl, Nat.le_refl _, .inl (Below.refl _ _), fun h => absurd h (by decide)⟩
       refine Stps2.cons (o := _) ?_ ?_
       · intro ac yw hsz hold hB hp K hK
         have t91 : ac.tmps[91]? = some (.bool false) := (List.cons.inj (hp 2 (by decide))).1
         rw [if_pos (wanted_pos rfl rfl t91)]
         have t17 : ac.tmps[17]? = some (.int .i64 0) := hold 17 (by kernel_rfl)
         clear hold hp hsz
         go_simp
         exact hK.out _ _ ⟨hB, rfl, Nat.le_refl _, .inl (Below.refl _ _), fun h => absurd h (by decide)⟩
       refine Stps2.cons (o := _) ?_ ?_
       · intro ac yw hsz hold hB hp K hK
         have t91 : ac.tmps[91]? = some (.bool false) := (List.cons.inj (hp 2 (by decide))).1
         rw [if_pos (wanted_pos rfl rfl t91)]
         have e3 := hp 3 (by decide)
         have t92 : ac.tmps[92]? = some (.int .i64 0) := (List.cons.inj e3).1
         clear hold hp hsz e3
         go_simp
         exact hK.out _ _ ⟨hB, rfl, Nat.le_refl _, .inl (Below.refl _ _), fun h => absurd h (by decide)⟩
       refine Stps2.cons (o := _) ?_ ?_
       · intro ac yw hsz hold hB hp K hK
         have e2 := hp 2 (by decide)
         have t91 : ac.tmps[91]? = some (.bool false) := (List.cons.inj e2).1
         have e4 := hp 4 (by decide)
         have t93 : ac.tmps[93]? = some (.bool false) := (List.cons.inj e4).1
         clear hold hp hsz e2 e4
         go_simp
         exact hK.out _ _ ⟨hB, rfl, Nat.le_refl _, .inl (Below.refl _ _), fun h => absurd h (by decide)⟩
       refine Stps2.cons (o := _) ?_ ?_
       · intro ac yw hsz hold hB hp K hK
         have e5 := hp 5 (by decide)
         have t94 : ac.tmps[94]? = some (.bool false) := (List.cons.inj e5).1
         clear hold hp hsz e5
         go_simp
         exact hK.out _ _ ⟨hB, rfl, Nat.le_refl _, .inl (Below.refl _ _), fun h => absurd h (by decide)⟩
       refine Stps2.cons (o := _) ?_ ?_
       · intro ac yw hsz hold hB hp K hK
         have t95 : ac.tmps[95]? = some (.bool false) := (List.cons.inj (hp 6 (by decide))).1
         rw [if_pos (wanted_pos rfl rfl t95)]
         have t16 : ac.tmps[16]? = some (.pointer (some ⟨w8.heap.size, 0, none⟩)) := hold 16 (by kernel_rfl)
         clear hold hp hsz
         refine ld8 16 rfl (w8.heap.size) (U1) t16 (RW8.out _ hB.below) (SZ8.out.size) ?_
         exact hK.out _ _ ⟨hB, rfl, Nat.le_refl _, .inl (Below.refl _ _), fun h => absurd h (by decide)⟩
       refine Stps2.cons (o := _) ?_ ?_
       · intro ac yw hsz hold hB hp K hK
         have t95 : ac.tmps[95]? = some (.bool false) := (List.cons.inj (hp 6 (by decide))).1
         rw [if_pos (wanted_pos rfl rfl t95)]
         have e7 := hp 7 (by decide)
         have t96 : ac.tmps[96]? = some (.agg U1) := (List.cons.inj e7).1
         clear hold hp hsz e7
         go_simp
         (go_at_call 19; (with_reducible refine (LU.out _ _ (A8.out _ hB.below)).mono ?_); rintro e wz ⟨rfl, hbz⟩)
         exact hK.out _ _ ⟨hB.go hbz, rfl, hbz.size, .inl hbz, fun h => absurd h (by decide)⟩
       refine Stps2.cons (o := _) ?_ ?_
       · intro ac yw hsz hold hB hp K hK
         have t95 : ac.tmps[95]? = some (.bool false) := (List.cons.inj (hp 6 (by decide))).1
         rw [if_pos (wanted_pos rfl rfl t95)]
         have t10 : ac.tmps[10]? = some (.pointer (some ⟨w5.heap.size, 0, none⟩)) := hold 10 (by kernel_rfl)
         clear hold hp hsz
         refine ld8 10 rfl (w5.heap.size) (Y1) t10 (RW5.out _ hB.below) (SZ5.out.size) ?_
         exact hK.out _ _ ⟨hB, rfl, Nat.le_refl _, .inl (Below.refl _ _), fun h => absurd h (by decide)⟩
       refine Stps2.cons (o := _) ?_ ?_
       · intro ac yw hsz hold hB hp K hK
         have t95 : ac.tmps[95]? = some (.bool false) := (List.cons.inj (hp 6 (by decide))).1
         rw [if_pos (wanted_pos rfl rfl t95)]
         have e9 := hp 9 (by decide)
         have t98 : ac.tmps[98]? = some (.agg Y1) := (List.cons.inj e9).1
         clear hold hp hsz e9
         go_simp
         (go_at_call 19; (with_reducible refine (LY.out _ _ (A5.out _ hB.below)).mono ?_); rintro e wz ⟨rfl, hbz⟩)
         exact hK.out _ _ ⟨hB.go hbz, rfl, hbz.size, .inl hbz, fun h => absurd h (by decide)⟩
       refine Stps2.cons (o := _) ?_ ?_
       · intro ac yw hsz hold hB hp K hK
         have t95 : ac.tmps[95]? = some (.bool false) := (List.cons.inj (hp 6 (by decide))).1
         rw [if_pos (wanted_pos rfl rfl t95)]
         have e8 := hp 8 (by decide)
         have t97 : ac.tmps[97]? = some (.int .i64 (M : Nat)) := (List.cons.inj e8).1
         have e10 := hp 10 (by decide)
         have t99 : ac.tmps[99]? = some (.int .i64 (M : Nat)) := (List.cons.inj e10).1
         clear hold hp hsz e8 e10
         have dM : (((M : Nat) : Int) != (M : Nat)) = false := bne_self_eq_false _
         go_simp
         exact hK.out _ _ ⟨hB, rfl, Nat.le_refl _, .inl (Below.refl _ _), fun h => absurd h (by decide)⟩
       refine Stps2.cons (o := _) ?_ ?_
       · intro ac yw hsz hold hB hp K hK
         have e6 := hp 6 (by decide)
         have t95 : ac.tmps[95]? = some (.bool false) := (List.cons.inj e6).1
         have e11 := hp 11 (by decide)
         have t100 : ac.tmps[100]? = some (.bool false) := (List.cons.inj e11).1
         clear hold hp hsz e6 e11
         go_simp
         exact hK.out _ _ ⟨hB, rfl, Nat.le_refl _, .inl (Below.refl _ _), fun h => absurd h (by decide)⟩
       exact Stps2.nil _
     refine Stps2.cons (o := _) ?_ ?_
     · intro ac yw hsz hold hB hp K hK
       have t9 : ac.tmps[9]? = some (.pointer (some ⟨w4.heap.size, 0, none⟩)) := hold 9 (by kernel_rfl)
       clear hold hp hsz
       rw [if_pos (by rfl)]
       refine ld8 9 rfl (w4.heap.size) (X1) t9 (RW4.out _ hB.below) (SZ4.out.size) ?_
       exact hK.out _ _ ⟨hB, rfl, Nat.le_refl _, .inl (Below.refl _ _), fun h => absurd h (by decide)⟩
     refine Stps2.cons (o := _) ?_ ?_
     · intro ac yw hsz hold hB hp K hK
       have t4 : ac.tmps[4]? = some (.pointer (some ⟨w.heap.size + 1, 0, none⟩)) := hold 4 (by kernel_rfl)
       clear hold hp hsz
       rw [if_pos (by rfl)]
       refine ldP 4 rfl (w.heap.size + 1) ((plC sa 0 sc true ta (tnO true 1) tc na (nnO true 1) nc)) t4 (RWv.out _ hB.below) (rfl) ?_
       exact hK.out _ _ ⟨hB, rfl, Nat.le_refl _, .inl (Below.refl _ _), fun h => absurd h (by decide)⟩
     refine Stps2.cons (o := _) ?_ ?_
     · intro ac yw hsz hold hB hp K hK
       have e1 := hp 1 (by decide)
       have t77 : ac.tmps[77]? = some (.agg (plC sa 0 sc true ta (tnO true 1) tc na (nnO true 1) nc)) := (List.cons.inj e1).1
       clear hold hp hsz e1
       go_simp
       (go_at_call 12; (refine (OF.out _ (HPv.out _ hB.below)).mono ?_); rintro e wz ⟨x2, rfl, h2_0, hbz⟩)
       exact hK.out _ _ ⟨hB.go hbz, Exists.intro x2 (And.intro rfl h2_0), hbz.size, .inl hbz, fun h => absurd h (by decide)⟩
     refine Stps2.cons (o := _) ?_ ?_
     · intro ac yw hsz hold hB hp K hK
       have t7 : ac.tmps[7]? = some (.slice ax mx cx) := hold 7 (by kernel_rfl)
       clear hold hp hsz
       go_simp
       exact hK.out _ _ ⟨hB, rfl, Nat.le_refl _, .inl (Below.refl _ _), fun h => absurd h (by decide)⟩
     refine Stps2.cons (o := _) ?_ ?_
     · intro ac yw hsz hold hB hp K hK
       have e0 := hp 0 (by decide)
       have t76 : ac.tmps[76]? = some (.agg X1) := (List.cons.inj e0).1
       obtain ⟨x2_2, e2, g2_0⟩ := hp 2 (by decide)
       have t78 : ac.tmps[78]? = some (.agg x2_2) := (List.cons.inj e2).1
       have e3 := hp 3 (by decide)
       have t79 : ac.tmps[79]? = some (.slice ax mx cx) := (List.cons.inj e3).1
       clear hold hp hsz e0 e2 e3
       go_simp
       (go_at_call 16; (refine (ST2.out _ _ _ (A4.out _ hB.below) g2_0 (SRW.out _ hB.below)).mono ?_); rintro e wz ⟨x4, rfl, h4_0, hbz⟩)
       exact hK.out _ _ ⟨hB.go hbz, Exists.intro x4 (And.intro rfl (And.intro h4_0 h4_0.isA)), hbz.size, .inl hbz, fun h => absurd h (by decide)⟩
     refine Stps2.cons (o := _) ?_ ?_
     · intro ac yw hsz hold hB hp K hK
       obtain ⟨x4_4, e4, g4_0, g4_1⟩ := hp 4 (by decide)
       have t80 : ac.tmps[80]? = some (.tuple #[.agg x4_4, .int .i64 0]) := (List.cons.inj e4).1
       clear hold hp hsz e4
       go_simp
       exact hK.out _ _ ⟨hB, Exists.intro x4_4 (And.intro rfl (And.intro g4_0 g4_1)), Nat.le_refl _, .inl (Below.refl _ _), fun h => absurd h (by decide)⟩
     refine Stps2.cons (o := _) ?_ ?_
     · intro ac yw hsz hold hB hp K hK
       obtain ⟨x4_5, e5, g5_0, g5_1⟩ := hp 5 (by decide)
       have t75 : ac.tmps[75]? = some (.tuple #[.agg x4_5, .int .i64 0]) := (List.cons.inj e5).1
       clear hold hp hsz e5
       go_simp
       exact hK.out _ _ ⟨hB, Exists.intro x4_5 (And.intro rfl (And.intro g5_0 g5_1)), Nat.le_refl _, .inl (Below.refl _ _), fun h => absurd h (by decide)⟩
     refine Stps2.cons (o := _) ?_ ?_
     · intro ac yw hsz hold hB hp K hK
       obtain ⟨x4_5, e5, g5_0, g5_1⟩ := hp 5 (by decide)
       have t75 : ac.tmps[75]? = some (.tuple #[.agg x4_5, .int .i64 0]) := (List.cons.inj e5).1
       clear hold hp hsz e5
       go_simp
       exact hK.out _ _ ⟨hB, rfl, Nat.le_refl _, .inl (Below.refl _ _), fun h => absurd h (by decide)⟩
     refine Stps2.cons (o := _) ?_ ?_
     · intro ac yw hsz hold hB hp K hK
       clear hold hp hsz
       have hbz : Below yw.heap.size yw (yw.alloc (.cells zerC 36)) /\ yw.heap.size < (yw.alloc (.cells zerC 36)).heap.size := ⟨(Below.refl _ _).alloc (Nat.le_refl _) _, by rw [World.size_alloc]; omega⟩
       go_simp
       exact hK.out _ _ ⟨hB.alloc _, Exists.intro yw.heap.size (Exists.intro zerC (And.intro rfl (And.intro ((Row.new yw _ zerC)) (And.intro IsA.zer hB.below.size)))), Nat.le_of_lt hbz.2, .inl hbz.1, fun _ => ⟨_, rfl, Nat.le_refl _, hbz.2⟩⟩
     refine Stps2.cons (o := _) ?_ ?_
     · intro ac yw hsz hold hB hp K hK
       obtain ⟨k8_8, z8_8, e8, g8_0, g8_1, g8_2⟩ := hp 8 (by decide)
       have t14 : ac.tmps[14]? = some (.pointer (some ⟨k8_8, 0, none⟩)) := (List.cons.inj e8).1
       obtain ⟨x4_6, e6, g6_0, g6_1⟩ := hp 6 (by decide)
       have t81 : ac.tmps[81]? = some (.agg x4_6) := (List.cons.inj e6).1
       clear hold hp hsz e8 e6
       rw [if_pos (by rfl)]
       have HB : Bag _ (fun _ => True) (yw.setRow k8_8 x4_6) := ⟨below_put hB.below g8_2 _, fun _ _ _ _ => trivial, trivial⟩
       refine st8 14 81 rfl k8_8 x4_6 t14 t81 _ z8_8 g8_0 g8_1 g6_1 ?_
       refine hK.out undef _ ⟨HB, Exists.intro k8_8 (Exists.intro x4_6 (And.intro (congrArg (fun x => [x]) t14) (And.intro (g8_0.put _) (And.intro (g6_0.store g8_0 g8_1 _) g6_1)))), by simp [World.setRow], .inr ?_, fun h => absurd h (by decide)⟩
       intro jj hj hap h
       match jj, h with
       | 0, h => exact h
       | 1, h => exact h
       | 2, ⟨x2, e2, g2_0⟩ =>
        exact Exists.intro x2 (And.intro e2 (g2_0.store g8_0 g8_1 _))
       | 3, h => exact h
       | 4, ⟨x4, e4, g4_0, g4_1⟩ =>
        exact Exists.intro x4 (And.intro e4 (And.intro (g4_0.store g8_0 g8_1 _) g4_1))
       | 5, ⟨x4, e5, g5_0, g5_1⟩ =>
        exact Exists.intro x4 (And.intro e5 (And.intro (g5_0.store g8_0 g8_1 _) g5_1))
       | 6, ⟨x4, e6, g6_0, g6_1⟩ =>
        exact Exists.intro x4 (And.intro e6 (And.intro (g6_0.store g8_0 g8_1 _) g6_1))
       | 7, h => exact h
       | 8, ⟨k8, z8, e8, g8_0, g8_1, g8_2⟩ =>
        have e9 : k8 = k8_8 := by have := (List.cons.inj e8).1.symm.trans t14; cases this; rfl
        subst e9
        exact Exists.intro _ (Exists.intro _ (And.intro e8 (And.intro (g8_0.put _) (And.intro g6_1 g8_2))))
       | 9, _ => exact absurd rfl hj
       | 10, h => exact h
       | _ + 11, h => exact h
     refine Stps2.cons (o := _) ?_ ?_
     · intro ac yw hsz hold hB hp K hK
       have e7 := hp 7 (by decide)
       have t82 : ac.tmps[82]? = some (.int .i64 0) := (List.cons.inj e7).1
       clear hold hp hsz e7
       go_simp
       exact hK.out _ _ ⟨hB, rfl, Nat.le_refl _, .inl (Below.refl _ _), fun h => absurd h (by decide)⟩
     exact Stps2.nil _
   | false =>
    cases ch0 with
    | true =>
     go_wp2_with fail
     go_at_call 10
     (with_reducible refine (AW.out _).mono ?_)
     rintro e w9 ⟨rfl, hb9⟩
     have HE := Lib.hid (BB.out.go hb9).below
     clear hb9
     go_wp2
     go_ret
     exact ⟨rfl, HE.out⟩
    | false =>
     obtain rfl : L = 1 := by
      have h1 : (1 : Int) = (L : Nat) := HG.out.cnt
      omega
     have RW4 : Hid (∀ yz, Below w7.heap.size w7 yz -> Row yz w4.heap.size 36 (arrC false ((r0 : Int) - 1) (dm S0 r0) n1 m1 d1 u1 v1 y1)) := Lib.hid (fun yz hb => Row.below BB.out.now.2.2.2.2.1 hb)
     have A4 : Hid (∀ yz, Below w7.heap.size w7 yz -> Arr yz (arrC false ((r0 : Int) - 1) (dm S0 r0) n1 m1 d1 u1 v1 y1) S0 r0 false L0 g0 mP mQ) := Lib.hid (fun yz hb => Arr.below BB.out.now.2.2.2.2.2.1 hb)
     have RW5 : Hid (∀ yz, Below w7.heap.size w7 yz -> Row yz w5.heap.size 36 (arrC false ((R : Int) - 1) (dm T R) n2 m2 d2 u2 v2 y2)) := Lib.hid (fun yz hb => Row.below BB.out.now.2.2.1 hb)
     have A5 : Hid (∀ yz, Below w7.heap.size w7 yz -> Arr yz (arrC false ((R : Int) - 1) (dm T R) n2 m2 d2 u2 v2 y2) T R false M (fun j => elC L0 g0 32 (G j)) (fun j => elP L0 mP (G j)) (fun j => elQ L0 mQ (G j))) := Lib.hid (fun yz hb => Arr.below BB.out.now.2.2.2.1 hb)
     have RWv : Hid (∀ yz, Below w7.heap.size w7 yz -> Row yz (w.heap.size + 1) 26 (plC sa 0 sc false ta (tnO false 1) tc na (nnO false 1) nc)) := Lib.hid (fun yz hb => Row.below HRv.out hb)
     have RWp : Hid (∀ yz, Below w7.heap.size w7 yz -> Row yz (w.heap.size) 26 (plC sb r0 scb false tb (tnO false L0) tcb nb (nnO false L0) ncb)) := Lib.hid (fun yz hb => Row.below HRp.out hb)
     have SRW : Hid (∀ yz, Below w7.heap.size w7 yz -> SRow yz ax mx cx D) := Lib.hid (fun yz hb => SRow.below HSR7.out hb)
     have HPv : Hid (∀ yz, Below w7.heap.size w7 yz -> Pln yz (plC sa 0 sc false ta (tnO false 1) tc na (nnO false 1) nc) S 0 false 1 g fB fS fT) := Lib.hid (fun yz hb => HP.out.below (BB.out.go hb).below)
     have LU : Hid (∀ x wz, Arr wz x T R false M (fun _ => g 0) (fun _ => gP fB fS fT 0) (fun _ => gQ fB fS fT 0) -> Calls Tryz.prog 19 #[.agg x] wz fun e w' => e = .returned (.int .i64 (M : Nat)) /\ Below wz.heap.size wz w') := Lib.hid (fun x wz q => len8_any _ _ _ _ _ _ _ _ _ q)
     have LY : Hid (∀ x wz, Arr wz x T R false M (fun j => elC L0 g0 32 (G j)) (fun j => elP L0 mP (G j)) (fun j => elQ L0 mQ (G j)) -> Calls Tryz.prog 19 #[.agg x] wz fun e w' => e = .returned (.int .i64 (M : Nat)) /\ Below wz.heap.size wz w') := Lib.hid (fun x wz q => len8_any _ _ _ _ _ _ _ _ _ q)
     have SZ4 : Hid (IsA (arrC false ((r0 : Int) - 1) (dm S0 r0) n1 m1 d1 u1 v1 y1)) := Lib.hid ⟨_, _, _, _, _, _, _, _, _, rfl⟩
     have SZ5 : Hid (IsA (arrC false ((R : Int) - 1) (dm T R) n2 m2 d2 u2 v2 y2)) := Lib.hid ⟨_, _, _, _, _, _, _, _, _, rfl⟩
     have BB := Lib.hid (Bag.fresh BB.out.below)
     clear HRv HRp HSR7 HP HP0
     go_wp2_with fail
     clear l0 l1 l2 l3 k0 k1 k2 k3
     generalize (arrC false ((r0 : Int) - 1) (dm S0 r0) n1 m1 d1 u1 v1 y1) = X1 at RW4 A4 SZ4
     generalize (arrC false ((R : Int) - 1) (dm T R) n2 m2 d2 u2 v2 y2) = Y1 at RW5 A5 SZ5
     refine wp_region_inv2 ⟨(fun j => ([[76], [77], [78], [79], [80], [75], [81], [82], [14], [14], [15]] : List (List Nat)).getD j []), (fun j => ([[], [], [1], [], [0, 1, 2, 3], [0, 1, 2, 3, 4], [0, 1, 2, 3, 4, 5], [0, 1, 2, 3, 4, 5], [], [0, 1, 2, 3, 4, 5, 6, 8], [0, 1, 2, 3, 4, 5, 6, 7, 8, 9]] : List (List Nat)).getD j []), [8]⟩ (fun jj vv yy => match jj with | 0 => vv = [some (.agg X1)] | 1 => vv = [some (.agg (plC sa 0 sc false ta (tnO false 1) tc na (nnO false 1) nc))] | 2 => ∃ (x2 : Array Value), vv = [some (.agg x2)] /\ Arr yy x2 S 0 false 1 g (gP fB fS fT) (gQ fB fS fT) | 3 => vv = [some (.slice ax mx cx)] | 4 => ∃ (x4 : Array Value), vv = [some (.tuple #[.agg x4, .int .i64 0])] /\ Arr yy x4 S0 r0 false L0 W1 W2 W3 /\ IsA x4 | 5 => ∃ (x4 : Array Value), vv = [some (.tuple #[.agg x4, .int .i64 0])] /\ Arr yy x4 S0 r0 false L0 W1 W2 W3 /\ IsA x4 | 6 => ∃ (x4 : Array Value), vv = [some (.agg x4)] /\ Arr yy x4 S0 r0 false L0 W1 W2 W3 /\ IsA x4 | 7 => vv = [some (.int .i64 0)] | 8 => ∃ (k8 : Nat), ∃ (z8 : Array Value), vv = [some (.pointer (some ⟨k8, 0, none⟩))] /\ Row yy k8 36 z8 /\ IsA z8 /\ w7.heap.size <= k8 | 9 => ∃ (k8 : Nat), ∃ (x4 : Array Value), vv = [some (.pointer (some ⟨k8, 0, none⟩))] /\ Row yy k8 36 x4 /\ Arr yy x4 S0 r0 false L0 W1 W2 W3 /\ IsA x4 | 10 => vv = [some (.int .i64 0)] | _ => True) (Bag w7 (fun _ => True)) (by kernel_rfl) (by kernel_rfl) (by kernel_rfl) (Bag.start w7).drew ?_ ?_ ?_
     · intro jj vv yw yw2 hb h
       match jj, h with
       | 0, h => exact h
       | 1, h => exact h
       | 2, ⟨x2, e2, g2_0⟩ => exact Exists.intro x2 (And.intro e2 (g2_0.below hb))
       | 3, h => exact h
       | 4, ⟨x4, e4, g4_0, g4_1⟩ => exact Exists.intro x4 (And.intro e4 (And.intro (g4_0.below hb) g4_1))
       | 5, ⟨x4, e5, g5_0, g5_1⟩ => exact Exists.intro x4 (And.intro e5 (And.intro (g5_0.below hb) g5_1))
       | 6, ⟨x4, e6, g6_0, g6_1⟩ => exact Exists.intro x4 (And.intro e6 (And.intro (g6_0.below hb) g6_1))
       | 7, h => exact h
       | 8, ⟨k8, z8, e8, g8_0, g8_1, g8_2⟩ => exact Exists.intro k8 (Exists.intro z8 (And.intro e8 (And.intro (g8_0.below hb) (And.intro g8_1 g8_2))))
       | 9, ⟨k8, x4, e9, g9_0, g9_1, g9_2⟩ => exact Exists.intro k8 (Exists.intro x4 (And.intro e9 (And.intro (g9_0.below hb) (And.intro (g9_1.below hb) g9_2))))
       | 10, h => exact h
       | _ + 11, h => exact h
     · intro ac yw hsz hdf hold hB hp
       obtain ⟨kd, xd, es, rs, ms, zs⟩ := hp 9 (by decide)
       have t14 : ac.tmps[14]? = some (.pointer (some ⟨kd, 0, none⟩)) := (List.cons.inj es).1
       have t15 : ac.tmps[15]? = some (.int .i64 0) := (List.cons.inj (hp 10 (by decide))).1
       have t3 : ac.tmps[3]? = some (.pointer (some ⟨w.heap.size, 0, none⟩)) := hold 3 (by kernel_rfl)
       have t4 : ac.tmps[4]? = some (.pointer (some ⟨w.heap.size + 1, 0, none⟩)) := hold 4 (by kernel_rfl)
       have t7 : ac.tmps[7]? = some (.slice ax mx cx) := hold 7 (by kernel_rfl)
       have t10 : ac.tmps[10]? = some (.pointer (some ⟨w5.heap.size, 0, none⟩)) := hold 10 (by kernel_rfl)
       have RW5 := Lib.hid (fun yz hb => RW5.out yz (hB.below.trans (Below.mono hb hB.below.size)))
       have A5 := Lib.hid (fun yz hb => A5.out yz (hB.below.trans (Below.mono hb hB.below.size)))
       have RWv := Lib.hid (fun yz hb => RWv.out yz (hB.below.trans (Below.mono hb hB.below.size)))
       have RWp := Lib.hid (fun yz hb => RWp.out yz (hB.below.trans (Below.mono hb hB.below.size)))
       have SRW := Lib.hid (fun yz hb => SRW.out yz (hB.below.trans (Below.mono hb hB.below.size)))
       have HPv := Lib.hid (fun yz hb => HPv.out yz (hB.below.trans (Below.mono hb hB.below.size)))
       have HRd := Lib.hid rs
       have HAd := Lib.hid ms
       have SZd := Lib.hid zs
       have BB := Lib.hid (BB.out.go hB.below)
       clear hold hp es rs ms zs hB RW4 A4 SZ4
       obtain ⟨TU, hTU⟩ : ∃ TU : Nat -> Value, ∀ i, (ac.tmps[i]?).getD undef = TU i := ⟨_, fun _ => rfl⟩
       have f3 := (hTU 3).symm.trans (congrArg (fun x => Option.getD x undef) t3)
       have f4 := (hTU 4).symm.trans (congrArg (fun x => Option.getD x undef) t4)
       have f7 := (hTU 7).symm.trans (congrArg (fun x => Option.getD x undef) t7)
       have f10 := (hTU 10).symm.trans (congrArg (fun x => Option.getD x undef) t10)
       have f14 := (hTU 14).symm.trans (congrArg (fun x => Option.getD x undef) t14)
       have f15 := (hTU 15).symm.trans (congrArg (fun x => Option.getD x undef) t15)
       have hac := act_eq (n := 137) hsz TU hTU
       rw [show ((List.range 137).map TU).toArray = #[TU 0, TU 1, TU 2, TU 3, TU 4, TU 5, TU 6, TU 7, TU 8, TU 9, TU 10, TU 11, TU 12, TU 13, TU 14, TU 15, TU 16, TU 17, TU 18, TU 19, TU 20, TU 21, TU 22, TU 23, TU 24, TU 25, TU 26, TU 27, TU 28, TU 29, TU 30, TU 31, TU 32, TU 33, TU 34, TU 35, TU 36, TU 37, TU 38, TU 39, TU 40, TU 41, TU 42, TU 43, TU 44, TU 45, TU 46, TU 47, TU 48, TU 49, TU 50, TU 51, TU 52, TU 53, TU 54, TU 55, TU 56, TU 57, TU 58, TU 59, TU 60, TU 61, TU 62, TU 63, TU 64, TU 65, TU 66, TU 67, TU 68, TU 69, TU 70, TU 71, TU 72, TU 73, TU 74, TU 75, TU 76, TU 77, TU 78, TU 79, TU 80, TU 81, TU 82, TU 83, TU 84, TU 85, TU 86, TU 87, TU 88, TU 89, TU 90, TU 91, TU 92, TU 93, TU 94, TU 95, TU 96, TU 97, TU 98, TU 99, TU 100, TU 101, TU 102, TU 103, TU 104, TU 105, TU 106, TU 107, TU 108, TU 109, TU 110, TU 111, TU 112, TU 113, TU 114, TU 115, TU 116, TU 117, TU 118, TU 119, TU 120, TU 121, TU 122, TU 123, TU 124, TU 125, TU 126, TU 127, TU 128, TU 129, TU 130, TU 131, TU 132, TU 133, TU 134, TU 135, TU 136] from rfl, f3, f4, f7, f10, f14, f15, hdf] at hac
       simp only [Option.getD_some] at hac
       subst hac
       clear hTU f3 f4 f7 f10 f14 f15
       clear hsz hdf t3 t4 t7 t10 t14 t15
       generalize yw = Y7 at *
       go_wp2_with (refine ld8G (by rfl) 14 rfl kd xd (by rfl) HRd.out SZd.out.size ?_)
       go_at_call 11
       (refine (TK2.out _ _ HAd.out (SRW.out _ (Below.refl _ _))).mono ?_)
       rintro e w8 ⟨u, rfl, hu, hb8⟩
       obtain ⟨n8, m8, d8, u8, v8, y8, rfl, _⟩ := hu.form
       have HB8 := Lib.hid (hb8.alloc hb8.size (.cells (arrC false ((R : Int) - 1) (dm T R) n8 m8 d8 u8 v8 y8) 36))
       have HA8 := Lib.hid (hu.below ((Below.refl _ _).alloc (Nat.le_refl _) (.cells (arrC false ((R : Int) - 1) (dm T R) n8 m8 d8 u8 v8 y8) 36)))
       have HR8 := Lib.hid (Row.new w8 36 (arrC false ((R : Int) - 1) (dm T R) n8 m8 d8 u8 v8 y8))
       clear hu hb8 HRd HAd SZd
       have RW5 := Lib.hid (fun yz hb => RW5.out yz (HB8.out.trans (Below.mono hb HB8.out.size)))
       have A5 := Lib.hid (fun yz hb => A5.out yz (HB8.out.trans (Below.mono hb HB8.out.size)))
       have RWv := Lib.hid (fun yz hb => RWv.out yz (HB8.out.trans (Below.mono hb HB8.out.size)))
       have RWp := Lib.hid (fun yz hb => RWp.out yz (HB8.out.trans (Below.mono hb HB8.out.size)))
       have HPv := Lib.hid (fun yz hb => HPv.out yz (HB8.out.trans (Below.mono hb HB8.out.size)))
       have BB := Lib.hid (BB.out.go HB8.out)
       unfold arrC
       unfold arrC at HB8 HA8 HR8
       go_wp2_with fail
       unfold arrC at BB RW5 A5 RWv RWp HPv
       generalize hY8 : w8.alloc (.cells _ 36) = Y8 at *
       clear hY8
       have RW8 : Hid (∀ yz, Below Y8.heap.size Y8 yz -> Row yz w8.heap.size 36 (arrC false ((R : Int) - 1) (dm T R) n8 m8 d8 u8 v8 y8)) := Lib.hid (fun yz hb => Row.below HR8.out hb)
       have A8 : Hid (∀ yz, Below Y8.heap.size Y8 yz -> Arr yz (arrC false ((R : Int) - 1) (dm T R) n8 m8 d8 u8 v8 y8) T R false M (fun _ => g 0) (fun _ => gP fB fS fT 0) (fun _ => gQ fB fS fT 0)) := Lib.hid (fun yz hb => Arr.below HA8.out hb)
       have SZ8 : Hid (IsA (arrC false ((R : Int) - 1) (dm T R) n8 m8 d8 u8 v8 y8)) := Lib.hid ⟨_, _, _, _, _, _, _, _, _, rfl⟩
       clear HR8 HA8 HB8
       obtain ⟨U1, hU1⟩ : ∃ z, (arrC false ((R : Int) - 1) (dm T R) n8 m8 d8 u8 v8 y8) = z := ⟨_, rfl⟩
       rw [hU1] at RW8 A8 SZ8
       have HU := Lib.hid hU1
       clear hU1
       refine wp_region_inv2 ⟨(fun j => ([[89], [90], [91], [92], [93], [94], [95], [96], [97], [98], [99], [100], [101]] : List (List Nat)).getD j []), (fun j => ([[], [0], [0, 1], [0, 1, 2], [0, 1, 2, 3], [0, 1, 2, 3, 4], [0, 1, 2, 3, 4, 5], [0, 1, 2, 3, 4, 5, 6], [0, 1, 2, 3, 4, 5, 6, 7], [0, 1, 2, 3, 4, 5, 6], [0, 1, 2, 3, 4, 5, 6, 7, 8, 9], [0, 1, 2, 3, 4, 5, 6, 7, 8, 9, 10], [0, 1, 2, 3, 4, 5, 6, 7, 8, 9, 10, 11]] : List (List Nat)).getD j []), []⟩ (fun jj vv yy => match jj with | 0 => vv = [some (.int .i64 0)] | 1 => vv = [some (.bool false)] | 2 => vv = [some (.bool false)] | 3 => vv = [some (.int .i64 0)] | 4 => vv = [some (.bool false)] | 5 => vv = [some (.bool false)] | 6 => vv = [some (.bool false)] | 7 => vv = [some (.agg U1)] | 8 => vv = [some (.int .i64 (M : Nat))] | 9 => vv = [some (.agg Y1)] | 10 => vv = [some (.int .i64 (M : Nat))] | 11 => vv = [some (.bool false)] | 12 => vv = [some (.bool false)] | _ => True) (Bag Y8 (fun _ => True)) (by kernel_rfl) (by kernel_rfl) (by kernel_rfl) (Bag.start Y8).drew ?_ ?_ ?_
       · intro jj vv yw yw2 hb h
         match jj, h with
         | 0, h => exact h
         | 1, h => exact h
         | 2, h => exact h
         | 3, h => exact h
         | 4, h => exact h
         | 5, h => exact h
         | 6, h => exact h
         | 7, h => exact h
         | 8, h => exact h
         | 9, h => exact h
         | 10, h => exact h
         | 11, h => exact h
         | 12, h => exact h
         | _ + 13, h => exact h
       · intro ac yw hsz hdf hold hB hp
         have t101 : ac.tmps[101]? = some (.bool false) := (List.cons.inj (hp 12 (by decide))).1
         have t3 : ac.tmps[3]? = some (.pointer (some ⟨w.heap.size, 0, none⟩)) := hold 3 (by kernel_rfl)
         have t4 : ac.tmps[4]? = some (.pointer (some ⟨w.heap.size + 1, 0, none⟩)) := hold 4 (by kernel_rfl)
         have t16 : ac.tmps[16]? = some (.pointer (some ⟨w8.heap.size, 0, none⟩)) := hold 16 (by kernel_rfl)
         have RW8 := Lib.hid (fun yz hb => RW8.out yz (hB.below.trans (Below.mono hb hB.below.size)))
         have A8 := Lib.hid (fun yz hb => A8.out yz (hB.below.trans (Below.mono hb hB.below.size)))
         have RWv := Lib.hid (fun yz hb => RWv.out yz (hB.below.trans (Below.mono hb hB.below.size)))
         have RWp := Lib.hid (fun yz hb => RWp.out yz (hB.below.trans (Below.mono hb hB.below.size)))
         have HPv := Lib.hid (fun yz hb => HPv.out yz (hB.below.trans (Below.mono hb hB.below.size)))
         have BB := Lib.hid (BB.out.go hB.below)
         clear hold hp hB
         obtain ⟨TV, hTV⟩ : ∃ TV : Nat -> Value, ∀ i, (ac.tmps[i]?).getD undef = TV i := ⟨_, fun _ => rfl⟩
         have f3 := (hTV 3).symm.trans (congrArg (fun x => Option.getD x undef) t3)
         have f4 := (hTV 4).symm.trans (congrArg (fun x => Option.getD x undef) t4)
         have f16 := (hTV 16).symm.trans (congrArg (fun x => Option.getD x undef) t16)
         have f101 := (hTV 101).symm.trans (congrArg (fun x => Option.getD x undef) t101)
         have hac := act_eq (n := 137) hsz TV hTV
         rw [show ((List.range 137).map TV).toArray = #[TV 0, TV 1, TV 2, TV 3, TV 4, TV 5, TV 6, TV 7, TV 8, TV 9, TV 10, TV 11, TV 12, TV 13, TV 14, TV 15, TV 16, TV 17, TV 18, TV 19, TV 20, TV 21, TV 22, TV 23, TV 24, TV 25, TV 26, TV 27, TV 28, TV 29, TV 30, TV 31, TV 32, TV 33, TV 34, TV 35, TV 36, TV 37, TV 38, TV 39, TV 40, TV 41, TV 42, TV 43, TV 44, TV 45, TV 46, TV 47, TV 48, TV 49, TV 50, TV 51, TV 52, TV 53, TV 54, TV 55, TV 56, TV 57, TV 58, TV 59, TV 60, TV 61, TV 62, TV 63, TV 64, TV 65, TV 66, TV 67, TV 68, TV 69, TV 70, TV 71, TV 72, TV 73, TV 74, TV 75, TV 76, TV 77, TV 78, TV 79, TV 80, TV 81, TV 82, TV 83, TV 84, TV 85, TV 86, TV 87, TV 88, TV 89, TV 90, TV 91, TV 92, TV 93, TV 94, TV 95, TV 96, TV 97, TV 98, TV 99, TV 100, TV 101, TV 102, TV 103, TV 104, TV 105, TV 106, TV 107, TV 108, TV 109, TV 110, TV 111, TV 112, TV 113, TV 114, TV 115, TV 116, TV 117, TV 118, TV 119, TV 120, TV 121, TV 122, TV 123, TV 124, TV 125, TV 126, TV 127, TV 128, TV 129, TV 130, TV 131, TV 132, TV 133, TV 134, TV 135, TV 136] from rfl, f3, f4, f16, f101, hdf] at hac
         simp only [Option.getD_some] at hac
         subst hac
         clear hTV f3 f4 f16 f101
         clear hsz hdf t3 t4 t16 t101
         generalize yw = Y9 at *
         go_wp2_with fail
         go_loopw [18] (fun i wr => ∃ q : Nat, q <= M /\ i = .int .i64 q /\ Hid (Below Y9.heap.size Y9 wr)) (fun i _ => M - (intOf i).toNat)
         case atStart => exact ⟨0, by omega, rfl, Below.refl _ _⟩
         case round =>
          obtain ⟨q, hq, rfl, hbq⟩ := hrel
          have HBQ := Lib.hid hbq.out
          have HRq := Lib.hid (RW8.out _ HBQ.out)
          clear hbq
          go_wp2_with (refine ld8G (by rfl) 16 rfl w8.heap.size U1 (by rfl) HRq.out SZ8.out.size ?_)
          go_at_call 19
          (refine (LU.out _ _ (A8.out _ HBQ.out)).mono ?_)
          rintro e wl ⟨rfl, hbl⟩
          have HBL := Lib.hid (HBQ.out.trans (hbl.mono HBQ.out.size))
          clear hbl HRq HBQ
          by_cases hlt : q < M
          · have hq0 : (0 : Int) <= q := by omega
            have hq1 : (q : Int) < M := by omega
            obtain ⟨xa, xc, xta, xtc, xna, xnc, ex, k1, k2, k3⟩ := HPv.out _ HBL.out
            have e5 : na = xna := by
             simp [plC] at ex
             exact ex.2.2.1
            rw [← e5] at k3
            clear ex k1 k2 e5
            obtain ⟨bv, ov, rfl, hbv, hcv, hcw, hcx⟩ := k3.get (show 0 < nnO false 1 by decide)
            have HCV := Lib.hid (And.intro hcv (And.intro hcw hcx))
            have hnm := HG.out.num 0 (show 0 < nnO false 1 by decide)
            have hsm := HG.out.small rfl 0 (by omega)
            obtain ⟨b1, hb1⟩ : ∃ z, fB 0 = z := ⟨_, rfl⟩
            obtain ⟨s1, hs1⟩ : ∃ z, fS 0 = z := ⟨_, rfl⟩
            obtain ⟨s2, hs2⟩ : ∃ z, fT 0 = z := ⟨_, rfl⟩
            have HV := Lib.hid (And.intro hb1 (And.intro hs1 hs2))
            have NM : Hid (∀ a n c m a2 n2 c2 y, RatAt y a n c m a2 n2 c2 (gP fB fS fT 0) (gQ fB fS fT 0) -> Calls Tryz.prog 22 #[.agg #[.slice a n c, .bool m, .slice a2 n2 c2]] y fun e w' => e = .returned (.agg #[.bool b1, .string s1, .string s2]) /\ Below y.heap.size y w') := Lib.hid (fun a n c m a2 n2 c2 y p => by
             have := num_any a n c m a2 n2 c2 (gP fB fS fT 0) (gQ fB fS fT 0) y p hsm.1 7 (by omega) hsm.2.1 hsm.2.2
             unfold NumTold at this
             rw [← hnm.1, ← hnm.2.1, ← hnm.2.2.1, hb1, hs1, hs2] at this
             exact this)
            clear k3 hcv hcw hcx hnm hsm hb1 hs1 hs2
            have HSF : Hid (∀ y, Below wl.heap.size wl y -> y.cell? ⟨w.heap.size, 1, none⟩ = some (.bool false) /\ y.cell? ⟨w.heap.size + 1, 3, none⟩ = some (.slice (some ⟨bv, ov, none⟩) 1 nc) /\ y.cell? ⟨bv, ov, none⟩ = some (.bool b1) /\ y.cell? ⟨bv, ov + 1, none⟩ = some (.string s1) /\ y.cell? ⟨bv, ov + 2, none⟩ = some (.string s2)) := Lib.hid (fun y hb => ⟨(RWp.out _ (HBL.out.trans (hb.mono HBL.out.size))).cell 1, (RWv.out _ (HBL.out.trans (hb.mono HBL.out.size))).cell 3, (hb.cell (p := ⟨bv, ov, none⟩) hbv).trans (by rw [← HV.out.1]; exact HCV.out.1), (hb.cell (p := ⟨bv, ov + 1, none⟩) hbv).trans (by rw [← HV.out.2.1]; exact HCV.out.2.1), (hb.cell (p := ⟨bv, ov + 2, none⟩) hbv).trans (by rw [← HV.out.2.2]; exact HCV.out.2.2)⟩)
            have RU : Hid (∀ x y, Arr y x T R false M (fun _ => g 0) (fun _ => gP fB fS fT 0) (fun _ => gQ fB fS fT 0) -> Calls Tryz.prog 21 #[.agg x, .int .i64 q] y fun e w' => RatTold y w' e (gP fB fS fT 0) (gQ fB fS fT 0)) := Lib.hid (fun x y p => rat8_any p hlt)
            unfold RatTold at RU
            go_wp2_with fail
            refine wp_region_inv2 ⟨(fun j => ([[108], [109], [110], [111], [112], [113], [114], [115], [116], [117], [118], [119], [120], [121], [122], [123], [124], [125], [126], [127], [128], [129], [130], [131], [132], [133], [134], [135]] : List (List Nat)).getD j []), (fun j => ([[], [0], [0, 1], [0, 1, 2], [0, 1, 2], [0, 1, 2, 3, 4], [0, 1, 2], [0, 1, 2, 6], [0, 1, 2, 6, 7], [0, 1, 2, 6, 7, 8], [0, 1, 2, 3, 4, 5, 6, 7, 8, 9], [0, 1, 2, 3, 4, 5, 6, 7, 8, 9, 10], [0, 1, 2, 3, 4, 5, 6, 7, 8, 9, 10, 11], [0, 1, 2, 3, 4, 5, 6, 7, 8, 9, 10, 11, 12], [0, 1, 2, 3, 4, 5, 6, 7, 8, 9, 10, 11, 12, 13], [0, 1, 2, 3, 4, 5, 6, 7, 8, 9, 10, 11, 12, 13, 14], [0, 1, 2, 3, 4, 5, 6, 7, 8, 9, 10, 11, 12, 13, 14, 15], [0, 1, 2, 3, 4, 5, 6, 7, 8, 9, 10, 11, 12, 13, 14, 15, 16], [0, 1, 2, 3, 4, 5, 6, 7, 8, 9, 10, 11, 12, 13, 14, 15, 16], [0, 1, 2, 3, 4, 5, 6, 7, 8, 9, 10, 11, 12, 13, 14, 15, 16, 17, 18], [0, 1, 2, 3, 4, 5, 6, 7, 8, 9, 10, 11, 12, 13, 14, 15, 16, 17, 18, 19], [0, 1, 2, 3, 4, 5, 6, 7, 8, 9, 10, 11, 12, 13, 14, 15, 16], [0, 1, 2, 3, 4, 5, 6, 7, 8, 9, 10, 11, 12, 13, 14, 15, 16, 21], [0, 1, 2, 3, 4, 5, 6, 7, 8, 9, 10, 11, 12, 13, 14, 15, 16, 21, 22], [0, 1, 2, 3, 4, 5, 6, 7, 8, 9, 10, 11, 12, 13, 14, 15, 16, 21, 22, 23], [0, 1, 2, 3, 4, 5, 6, 7, 8, 9, 10, 11, 12, 13, 14, 15, 16, 17, 18, 19, 20, 21, 22, 23, 24], [0, 1, 2, 3, 4, 5, 6, 7, 8, 9, 10, 11, 12, 13, 14, 15, 16, 17, 18, 19, 20, 21, 22, 23, 24, 25], [0, 1, 2, 3, 4, 5, 6, 7, 8, 9, 10, 11, 12, 13, 14, 15, 16, 17, 18, 19, 20, 21, 22, 23, 24, 25, 26]] : List (List Nat)).getD j []), []⟩ (fun jj vv yy => match jj with | 0 => vv = [some (.pointer (some ⟨w.heap.size, 1, none⟩))] | 1 => vv = [some (.bool false)] | 2 => vv = [some (.bool false)] | 3 => vv = [some undef] | 4 => vv = [some undef] | 5 => vv = [some undef] | 6 => vv = [some undef] | 7 => vv = [some undef] | 8 => vv = [some undef] | 9 => vv = [some undef] | 10 => vv = [some undef] | 11 => vv = [some (.bool false)] | 12 => vv = [some (.bool false)] | 13 => vv = [some (.pointer (some ⟨w.heap.size, 1, none⟩))] | 14 => vv = [some (.bool false)] | 15 => vv = [some (.bool true)] | 16 => vv = [some (.bool true)] | 17 => vv = [some (.agg U1)] | 18 => vv = [some (.int .i64 q)] | 19 => ∃ (x1a : Option Addr), ∃ (x1n : Nat), ∃ (x1c : Nat), ∃ (x1m : Bool), ∃ (x1d : Option Addr), ∃ (x1p : Nat), ∃ (x1q : Nat), vv = [some (.agg #[.slice x1a x1n x1c, .bool x1m, .slice x1d x1p x1q])] /\ RatAt yy x1a x1n x1c x1m x1d x1p x1q (gP fB fS fT 0) (gQ fB fS fT 0) | 20 => vv = [some (.agg #[.bool b1, .string s1, .string s2])] | 21 => vv = [some (.pointer (some ⟨w.heap.size + 1, 3, none⟩))] | 22 => vv = [some (.slice (some ⟨bv, ov, none⟩) 1 nc)] | 23 => vv = [some (.pointer (some ⟨bv, ov, none⟩))] | 24 => vv = [some (.agg #[.bool b1, .string s1, .string s2])] | 25 => vv = [some (.bool false)] | 26 => vv = [some (.bool false)] | 27 => vv = [some (.bool false)] | _ => True) (Bag wl (fun _ => True)) (by kernel_rfl) (by kernel_rfl) (by kernel_rfl) (Bag.start wl).drew ?_ ?_ ?_
            · intro jj vv yw yw2 hb h
              match jj, h with
              | 0, h => exact h
              | 1, h => exact h
              | 2, h => exact h
              | 3, h => exact h
              | 4, h => exact h
              | 5, h => exact h
              | 6, h => exact h
              | 7, h => exact h
              | 8, h => exact h
              | 9, h => exact h
              | 10, h => exact h
              | 11, h => exact h
              | 12, h => exact h
              | 13, h => exact h
              | 14, h => exact h
              | 15, h => exact h
              | 16, h => exact h
              | 17, h => exact h
              | 18, h => exact h
              | 19, ⟨x1a, x1n, x1c, x1m, x1d, x1p, x1q, e19, g19_0⟩ => exact Exists.intro x1a (Exists.intro x1n (Exists.intro x1c (Exists.intro x1m (Exists.intro x1d (Exists.intro x1p (Exists.intro x1q (And.intro e19 (g19_0.below hb))))))))
              | 20, h => exact h
              | 21, h => exact h
              | 22, h => exact h
              | 23, h => exact h
              | 24, h => exact h
              | 25, h => exact h
              | 26, h => exact h
              | 27, h => exact h
              | _ + 28, h => exact h
            · intro ac yw hsz hdf hold hB hp
              have t0 : ac.tmps[0]? = some (TV 0) := hold 0 (by kernel_rfl)
              have t1 : ac.tmps[1]? = some (TV 1) := hold 1 (by kernel_rfl)
              have t2 : ac.tmps[2]? = some (TV 2) := hold 2 (by kernel_rfl)
              have t3 : ac.tmps[3]? = some (.pointer (some ⟨w.heap.size, 0, none⟩)) := hold 3 (by kernel_rfl)
              have t4 : ac.tmps[4]? = some (.pointer (some ⟨w.heap.size + 1, 0, none⟩)) := hold 4 (by kernel_rfl)
              have t5 : ac.tmps[5]? = some (TV 5) := hold 5 (by kernel_rfl)
              have t7 : ac.tmps[7]? = some (TV 7) := hold 7 (by kernel_rfl)
              have t8 : ac.tmps[8]? = some (TV 8) := hold 8 (by kernel_rfl)
              have t9 : ac.tmps[9]? = some (TV 9) := hold 9 (by kernel_rfl)
              have t10 : ac.tmps[10]? = some (TV 10) := hold 10 (by kernel_rfl)
              have t11 : ac.tmps[11]? = some (TV 11) := hold 11 (by kernel_rfl)
              have t12 : ac.tmps[12]? = some (TV 12) := hold 12 (by kernel_rfl)
              have t13 : ac.tmps[13]? = some (TV 13) := hold 13 (by kernel_rfl)
              have t14 : ac.tmps[14]? = some (TV 14) := hold 14 (by kernel_rfl)
              have t15 : ac.tmps[15]? = some (TV 15) := hold 15 (by kernel_rfl)
              have t16 : ac.tmps[16]? = some (.pointer (some ⟨w8.heap.size, 0, none⟩)) := hold 16 (by kernel_rfl)
              have t17 : ac.tmps[17]? = some (TV 17) := hold 17 (by kernel_rfl)
              have t18 : ac.tmps[18]? = some (.int .i64 q) := hold 18 (by kernel_rfl)
              have t19 : ac.tmps[19]? = some (TV 19) := hold 19 (by kernel_rfl)
              have t20 : ac.tmps[20]? = some (TV 20) := hold 20 (by kernel_rfl)
              have t21 : ac.tmps[21]? = some (TV 21) := hold 21 (by kernel_rfl)
              have t22 : ac.tmps[22]? = some (TV 22) := hold 22 (by kernel_rfl)
              have t23 : ac.tmps[23]? = some (TV 23) := hold 23 (by kernel_rfl)
              have t24 : ac.tmps[24]? = some (TV 24) := hold 24 (by kernel_rfl)
              have t25 : ac.tmps[25]? = some (TV 25) := hold 25 (by kernel_rfl)
              have t26 : ac.tmps[26]? = some (TV 26) := hold 26 (by kernel_rfl)
              have t27 : ac.tmps[27]? = some (TV 27) := hold 27 (by kernel_rfl)
              have t28 : ac.tmps[28]? = some (TV 28) := hold 28 (by kernel_rfl)
              have t29 : ac.tmps[29]? = some (TV 29) := hold 29 (by kernel_rfl)
              have t30 : ac.tmps[30]? = some (TV 30) := hold 30 (by kernel_rfl)
              have t31 : ac.tmps[31]? = some (TV 31) := hold 31 (by kernel_rfl)
              have t32 : ac.tmps[32]? = some (TV 32) := hold 32 (by kernel_rfl)
              have t33 : ac.tmps[33]? = some (TV 33) := hold 33 (by kernel_rfl)
              have t34 : ac.tmps[34]? = some (TV 34) := hold 34 (by kernel_rfl)
              have t35 : ac.tmps[35]? = some (TV 35) := hold 35 (by kernel_rfl)
              have t36 : ac.tmps[36]? = some (TV 36) := hold 36 (by kernel_rfl)
              have t37 : ac.tmps[37]? = some (TV 37) := hold 37 (by kernel_rfl)
              have t38 : ac.tmps[38]? = some (TV 38) := hold 38 (by kernel_rfl)
              have t39 : ac.tmps[39]? = some (TV 39) := hold 39 (by kernel_rfl)
              have t40 : ac.tmps[40]? = some (TV 40) := hold 40 (by kernel_rfl)
              have t41 : ac.tmps[41]? = some (TV 41) := hold 41 (by kernel_rfl)
              have t42 : ac.tmps[42]? = some (TV 42) := hold 42 (by kernel_rfl)
              have t43 : ac.tmps[43]? = some (TV 43) := hold 43 (by kernel_rfl)
              have t44 : ac.tmps[44]? = some (TV 44) := hold 44 (by kernel_rfl)
              have t45 : ac.tmps[45]? = some (TV 45) := hold 45 (by kernel_rfl)
              have t46 : ac.tmps[46]? = some (TV 46) := hold 46 (by kernel_rfl)
              have t47 : ac.tmps[47]? = some (TV 47) := hold 47 (by kernel_rfl)
              have t48 : ac.tmps[48]? = some (TV 48) := hold 48 (by kernel_rfl)
              have t49 : ac.tmps[49]? = some (TV 49) := hold 49 (by kernel_rfl)
              have t50 : ac.tmps[50]? = some (TV 50) := hold 50 (by kernel_rfl)
              have t51 : ac.tmps[51]? = some (TV 51) := hold 51 (by kernel_rfl)
              have t52 : ac.tmps[52]? = some (TV 52) := hold 52 (by kernel_rfl)
              have t53 : ac.tmps[53]? = some (TV 53) := hold 53 (by kernel_rfl)
              have t54 : ac.tmps[54]? = some (TV 54) := hold 54 (by kernel_rfl)
              have t55 : ac.tmps[55]? = some (TV 55) := hold 55 (by kernel_rfl)
              have t56 : ac.tmps[56]? = some (TV 56) := hold 56 (by kernel_rfl)
              have t57 : ac.tmps[57]? = some (TV 57) := hold 57 (by kernel_rfl)
              have t58 : ac.tmps[58]? = some (TV 58) := hold 58 (by kernel_rfl)
              have t59 : ac.tmps[59]? = some (TV 59) := hold 59 (by kernel_rfl)
              have t60 : ac.tmps[60]? = some (TV 60) := hold 60 (by kernel_rfl)
              have t61 : ac.tmps[61]? = some (TV 61) := hold 61 (by kernel_rfl)
              have t62 : ac.tmps[62]? = some (TV 62) := hold 62 (by kernel_rfl)
              have t63 : ac.tmps[63]? = some (TV 63) := hold 63 (by kernel_rfl)
              have t64 : ac.tmps[64]? = some (TV 64) := hold 64 (by kernel_rfl)
              have t65 : ac.tmps[65]? = some (TV 65) := hold 65 (by kernel_rfl)
              have t66 : ac.tmps[66]? = some (TV 66) := hold 66 (by kernel_rfl)
              have t67 : ac.tmps[67]? = some (TV 67) := hold 67 (by kernel_rfl)
              have t68 : ac.tmps[68]? = some (TV 68) := hold 68 (by kernel_rfl)
              have t69 : ac.tmps[69]? = some (TV 69) := hold 69 (by kernel_rfl)
              have t70 : ac.tmps[70]? = some (TV 70) := hold 70 (by kernel_rfl)
              have t71 : ac.tmps[71]? = some (TV 71) := hold 71 (by kernel_rfl)
              have t72 : ac.tmps[72]? = some (TV 72) := hold 72 (by kernel_rfl)
              have t73 : ac.tmps[73]? = some (TV 73) := hold 73 (by kernel_rfl)
              have t74 : ac.tmps[74]? = some (TV 74) := hold 74 (by kernel_rfl)
              have t75 : ac.tmps[75]? = some (TV 75) := hold 75 (by kernel_rfl)
              have t76 : ac.tmps[76]? = some (TV 76) := hold 76 (by kernel_rfl)
              have t77 : ac.tmps[77]? = some (TV 77) := hold 77 (by kernel_rfl)
              have t78 : ac.tmps[78]? = some (TV 78) := hold 78 (by kernel_rfl)
              have t79 : ac.tmps[79]? = some (TV 79) := hold 79 (by kernel_rfl)
              have t80 : ac.tmps[80]? = some (TV 80) := hold 80 (by kernel_rfl)
              have t81 : ac.tmps[81]? = some (TV 81) := hold 81 (by kernel_rfl)
              have t82 : ac.tmps[82]? = some (TV 82) := hold 82 (by kernel_rfl)
              have t83 : ac.tmps[83]? = some (TV 83) := hold 83 (by kernel_rfl)
              have t84 : ac.tmps[84]? = some (TV 84) := hold 84 (by kernel_rfl)
              have t85 : ac.tmps[85]? = some (TV 85) := hold 85 (by kernel_rfl)
              have t86 : ac.tmps[86]? = some (TV 86) := hold 86 (by kernel_rfl)
              have t87 : ac.tmps[87]? = some (TV 87) := hold 87 (by kernel_rfl)
              have t88 : ac.tmps[88]? = some (TV 88) := hold 88 (by kernel_rfl)
              have t89 : ac.tmps[89]? = some (TV 89) := hold 89 (by kernel_rfl)
              have t90 : ac.tmps[90]? = some (TV 90) := hold 90 (by kernel_rfl)
              have t91 : ac.tmps[91]? = some (TV 91) := hold 91 (by kernel_rfl)
              have t92 : ac.tmps[92]? = some (TV 92) := hold 92 (by kernel_rfl)
              have t93 : ac.tmps[93]? = some (TV 93) := hold 93 (by kernel_rfl)
              have t94 : ac.tmps[94]? = some (TV 94) := hold 94 (by kernel_rfl)
              have t95 : ac.tmps[95]? = some (TV 95) := hold 95 (by kernel_rfl)
              have t96 : ac.tmps[96]? = some (TV 96) := hold 96 (by kernel_rfl)
              have t97 : ac.tmps[97]? = some (TV 97) := hold 97 (by kernel_rfl)
              have t98 : ac.tmps[98]? = some (TV 98) := hold 98 (by kernel_rfl)
              have t99 : ac.tmps[99]? = some (TV 99) := hold 99 (by kernel_rfl)
              have t100 : ac.tmps[100]? = some (TV 100) := hold 100 (by kernel_rfl)
              have t101 : ac.tmps[101]? = some (.bool false) := hold 101 (by kernel_rfl)
              have t135 : ac.tmps[135]? = some (.bool false) := (List.cons.inj (hp 27 (by decide))).1
              have t136 : ac.tmps[136]? = some (TV 136) := hold 136 (by kernel_rfl)
              have HBN := Lib.hid (HBL.out.trans (hB.below.mono HBL.out.size))
              clear hold hp hB
              obtain ⟨TX, hTX⟩ : ∃ TX : Nat -> Value, ∀ i, (ac.tmps[i]?).getD undef = TX i := ⟨_, fun _ => rfl⟩
              have f0 := (hTX 0).symm.trans (congrArg (fun x => Option.getD x undef) t0)
              have f1 := (hTX 1).symm.trans (congrArg (fun x => Option.getD x undef) t1)
              have f2 := (hTX 2).symm.trans (congrArg (fun x => Option.getD x undef) t2)
              have f3 := (hTX 3).symm.trans (congrArg (fun x => Option.getD x undef) t3)
              have f4 := (hTX 4).symm.trans (congrArg (fun x => Option.getD x undef) t4)
              have f5 := (hTX 5).symm.trans (congrArg (fun x => Option.getD x undef) t5)
              have f7 := (hTX 7).symm.trans (congrArg (fun x => Option.getD x undef) t7)
              have f8 := (hTX 8).symm.trans (congrArg (fun x => Option.getD x undef) t8)
              have f9 := (hTX 9).symm.trans (congrArg (fun x => Option.getD x undef) t9)
              have f10 := (hTX 10).symm.trans (congrArg (fun x => Option.getD x undef) t10)
              have f11 := (hTX 11).symm.trans (congrArg (fun x => Option.getD x undef) t11)
              have f12 := (hTX 12).symm.trans (congrArg (fun x => Option.getD x undef) t12)
              have f13 := (hTX 13).symm.trans (congrArg (fun x => Option.getD x undef) t13)
              have f14 := (hTX 14).symm.trans (congrArg (fun x => Option.getD x undef) t14)
              have f15 := (hTX 15).symm.trans (congrArg (fun x => Option.getD x undef) t15)
              have f16 := (hTX 16).symm.trans (congrArg (fun x => Option.getD x undef) t16)
              have f17 := (hTX 17).symm.trans (congrArg (fun x => Option.getD x undef) t17)
              have f18 := (hTX 18).symm.trans (congrArg (fun x => Option.getD x undef) t18)
              have f19 := (hTX 19).symm.trans (congrArg (fun x => Option.getD x undef) t19)
              have f20 := (hTX 20).symm.trans (congrArg (fun x => Option.getD x undef) t20)
              have f21 := (hTX 21).symm.trans (congrArg (fun x => Option.getD x undef) t21)
              have f22 := (hTX 22).symm.trans (congrArg (fun x => Option.getD x undef) t22)
              have f23 := (hTX 23).symm.trans (congrArg (fun x => Option.getD x undef) t23)
              have f24 := (hTX 24).symm.trans (congrArg (fun x => Option.getD x undef) t24)
              have f25 := (hTX 25).symm.trans (congrArg (fun x => Option.getD x undef) t25)
              have f26 := (hTX 26).symm.trans (congrArg (fun x => Option.getD x undef) t26)
              have f27 := (hTX 27).symm.trans (congrArg (fun x => Option.getD x undef) t27)
              have f28 := (hTX 28).symm.trans (congrArg (fun x => Option.getD x undef) t28)
              have f29 := (hTX 29).symm.trans (congrArg (fun x => Option.getD x undef) t29)
              have f30 := (hTX 30).symm.trans (congrArg (fun x => Option.getD x undef) t30)
              have f31 := (hTX 31).symm.trans (congrArg (fun x => Option.getD x undef) t31)
              have f32 := (hTX 32).symm.trans (congrArg (fun x => Option.getD x undef) t32)
              have f33 := (hTX 33).symm.trans (congrArg (fun x => Option.getD x undef) t33)
              have f34 := (hTX 34).symm.trans (congrArg (fun x => Option.getD x undef) t34)
              have f35 := (hTX 35).symm.trans (congrArg (fun x => Option.getD x undef) t35)
              have f36 := (hTX 36).symm.trans (congrArg (fun x => Option.getD x undef) t36)
              have f37 := (hTX 37).symm.trans (congrArg (fun x => Option.getD x undef) t37)
              have f38 := (hTX 38).symm.trans (congrArg (fun x => Option.getD x undef) t38)
              have f39 := (hTX 39).symm.trans (congrArg (fun x => Option.getD x undef) t39)
              have f40 := (hTX 40).symm.trans (congrArg (fun x => Option.getD x undef) t40)
              have f41 := (hTX 41).symm.trans (congrArg (fun x => Option.getD x undef) t41)
              have f42 := (hTX 42).symm.trans (congrArg (fun x => Option.getD x undef) t42)
              have f43 := (hTX 43).symm.trans (congrArg (fun x => Option.getD x undef) t43)
              have f44 := (hTX 44).symm.trans (congrArg (fun x => Option.getD x undef) t44)
              have f45 := (hTX 45).symm.trans (congrArg (fun x => Option.getD x undef) t45)
              have f46 := (hTX 46).symm.trans (congrArg (fun x => Option.getD x undef) t46)
              have f47 := (hTX 47).symm.trans (congrArg (fun x => Option.getD x undef) t47)
              have f48 := (hTX 48).symm.trans (congrArg (fun x => Option.getD x undef) t48)
              have f49 := (hTX 49).symm.trans (congrArg (fun x => Option.getD x undef) t49)
              have f50 := (hTX 50).symm.trans (congrArg (fun x => Option.getD x undef) t50)
              have f51 := (hTX 51).symm.trans (congrArg (fun x => Option.getD x undef) t51)
              have f52 := (hTX 52).symm.trans (congrArg (fun x => Option.getD x undef) t52)
              have f53 := (hTX 53).symm.trans (congrArg (fun x => Option.getD x undef) t53)
              have f54 := (hTX 54).symm.trans (congrArg (fun x => Option.getD x undef) t54)
              have f55 := (hTX 55).symm.trans (congrArg (fun x => Option.getD x undef) t55)
              have f56 := (hTX 56).symm.trans (congrArg (fun x => Option.getD x undef) t56)
              have f57 := (hTX 57).symm.trans (congrArg (fun x => Option.getD x undef) t57)
              have f58 := (hTX 58).symm.trans (congrArg (fun x => Option.getD x undef) t58)
              have f59 := (hTX 59).symm.trans (congrArg (fun x => Option.getD x undef) t59)
              have f60 := (hTX 60).symm.trans (congrArg (fun x => Option.getD x undef) t60)
              have f61 := (hTX 61).symm.trans (congrArg (fun x => Option.getD x undef) t61)
              have f62 := (hTX 62).symm.trans (congrArg (fun x => Option.getD x undef) t62)
              have f63 := (hTX 63).symm.trans (congrArg (fun x => Option.getD x undef) t63)
              have f64 := (hTX 64).symm.trans (congrArg (fun x => Option.getD x undef) t64)
              have f65 := (hTX 65).symm.trans (congrArg (fun x => Option.getD x undef) t65)
              have f66 := (hTX 66).symm.trans (congrArg (fun x => Option.getD x undef) t66)
              have f67 := (hTX 67).symm.trans (congrArg (fun x => Option.getD x undef) t67)
              have f68 := (hTX 68).symm.trans (congrArg (fun x => Option.getD x undef) t68)
              have f69 := (hTX 69).symm.trans (congrArg (fun x => Option.getD x undef) t69)
              have f70 := (hTX 70).symm.trans (congrArg (fun x => Option.getD x undef) t70)
              have f71 := (hTX 71).symm.trans (congrArg (fun x => Option.getD x undef) t71)
              have f72 := (hTX 72).symm.trans (congrArg (fun x => Option.getD x undef) t72)
              have f73 := (hTX 73).symm.trans (congrArg (fun x => Option.getD x undef) t73)
              have f74 := (hTX 74).symm.trans (congrArg (fun x => Option.getD x undef) t74)
              have f75 := (hTX 75).symm.trans (congrArg (fun x => Option.getD x undef) t75)
              have f76 := (hTX 76).symm.trans (congrArg (fun x => Option.getD x undef) t76)
              have f77 := (hTX 77).symm.trans (congrArg (fun x => Option.getD x undef) t77)
              have f78 := (hTX 78).symm.trans (congrArg (fun x => Option.getD x undef) t78)
              have f79 := (hTX 79).symm.trans (congrArg (fun x => Option.getD x undef) t79)
              have f80 := (hTX 80).symm.trans (congrArg (fun x => Option.getD x undef) t80)
              have f81 := (hTX 81).symm.trans (congrArg (fun x => Option.getD x undef) t81)
              have f82 := (hTX 82).symm.trans (congrArg (fun x => Option.getD x undef) t82)
              have f83 := (hTX 83).symm.trans (congrArg (fun x => Option.getD x undef) t83)
              have f84 := (hTX 84).symm.trans (congrArg (fun x => Option.getD x undef) t84)
              have f85 := (hTX 85).symm.trans (congrArg (fun x => Option.getD x undef) t85)
              have f86 := (hTX 86).symm.trans (congrArg (fun x => Option.getD x undef) t86)
              have f87 := (hTX 87).symm.trans (congrArg (fun x => Option.getD x undef) t87)
              have f88 := (hTX 88).symm.trans (congrArg (fun x => Option.getD x undef) t88)
              have f89 := (hTX 89).symm.trans (congrArg (fun x => Option.getD x undef) t89)
              have f90 := (hTX 90).symm.trans (congrArg (fun x => Option.getD x undef) t90)
              have f91 := (hTX 91).symm.trans (congrArg (fun x => Option.getD x undef) t91)
              have f92 := (hTX 92).symm.trans (congrArg (fun x => Option.getD x undef) t92)
              have f93 := (hTX 93).symm.trans (congrArg (fun x => Option.getD x undef) t93)
              have f94 := (hTX 94).symm.trans (congrArg (fun x => Option.getD x undef) t94)
              have f95 := (hTX 95).symm.trans (congrArg (fun x => Option.getD x undef) t95)
              have f96 := (hTX 96).symm.trans (congrArg (fun x => Option.getD x undef) t96)
              have f97 := (hTX 97).symm.trans (congrArg (fun x => Option.getD x undef) t97)
              have f98 := (hTX 98).symm.trans (congrArg (fun x => Option.getD x undef) t98)
              have f99 := (hTX 99).symm.trans (congrArg (fun x => Option.getD x undef) t99)
              have f100 := (hTX 100).symm.trans (congrArg (fun x => Option.getD x undef) t100)
              have f101 := (hTX 101).symm.trans (congrArg (fun x => Option.getD x undef) t101)
              have f135 := (hTX 135).symm.trans (congrArg (fun x => Option.getD x undef) t135)
              have f136 := (hTX 136).symm.trans (congrArg (fun x => Option.getD x undef) t136)
              have hac := act_eq (n := 137) hsz TX hTX
              rw [show ((List.range 137).map TX).toArray = #[TX 0, TX 1, TX 2, TX 3, TX 4, TX 5, TX 6, TX 7, TX 8, TX 9, TX 10, TX 11, TX 12, TX 13, TX 14, TX 15, TX 16, TX 17, TX 18, TX 19, TX 20, TX 21, TX 22, TX 23, TX 24, TX 25, TX 26, TX 27, TX 28, TX 29, TX 30, TX 31, TX 32, TX 33, TX 34, TX 35, TX 36, TX 37, TX 38, TX 39, TX 40, TX 41, TX 42, TX 43, TX 44, TX 45, TX 46, TX 47, TX 48, TX 49, TX 50, TX 51, TX 52, TX 53, TX 54, TX 55, TX 56, TX 57, TX 58, TX 59, TX 60, TX 61, TX 62, TX 63, TX 64, TX 65, TX 66, TX 67, TX 68, TX 69, TX 70, TX 71, TX 72, TX 73, TX 74, TX 75, TX 76, TX 77, TX 78, TX 79, TX 80, TX 81, TX 82, TX 83, TX 84, TX 85, TX 86, TX 87, TX 88, TX 89, TX 90, TX 91, TX 92, TX 93, TX 94, TX 95, TX 96, TX 97, TX 98, TX 99, TX 100, TX 101, TX 102, TX 103, TX 104, TX 105, TX 106, TX 107, TX 108, TX 109, TX 110, TX 111, TX 112, TX 113, TX 114, TX 115, TX 116, TX 117, TX 118, TX 119, TX 120, TX 121, TX 122, TX 123, TX 124, TX 125, TX 126, TX 127, TX 128, TX 129, TX 130, TX 131, TX 132, TX 133, TX 134, TX 135, TX 136] from rfl, f0, f1, f2, f3, f4, f5, f7, f8, f9, f10, f11, f12, f13, f14, f15, f16, f17, f18, f19, f20, f21, f22, f23, f24, f25, f26, f27, f28, f29, f30, f31, f32, f33, f34, f35, f36, f37, f38, f39, f40, f41, f42, f43, f44, f45, f46, f47, f48, f49, f50, f51, f52, f53, f54, f55, f56, f57, f58, f59, f60, f61, f62, f63, f64, f65, f66, f67, f68, f69, f70, f71, f72, f73, f74, f75, f76, f77, f78, f79, f80, f81, f82, f83, f84, f85, f86, f87, f88, f89, f90, f91, f92, f93, f94, f95, f96, f97, f98, f99, f100, f101, f135, f136, hdf] at hac
              simp only [Option.getD_some] at hac
              subst hac
              clear hTX f0 f1 f2 f3 f4 f5 f7 f8 f9 f10 f11 f12 f13 f14 f15 f16 f17 f18 f19 f20 f21 f22 f23 f24 f25 f26 f27 f28 f29 f30 f31 f32 f33 f34 f35 f36 f37 f38 f39 f40 f41 f42 f43 f44 f45 f46 f47 f48 f49 f50 f51 f52 f53 f54 f55 f56 f57 f58 f59 f60 f61 f62 f63 f64 f65 f66 f67 f68 f69 f70 f71 f72 f73 f74 f75 f76 f77 f78 f79 f80 f81 f82 f83 f84 f85 f86 f87 f88 f89 f90 f91 f92 f93 f94 f95 f96 f97 f98 f99 f100 f101 f135 f136
              clear hsz hdf t0 t1 t2 t3 t4 t5 t7 t8 t9 t10 t11 t12 t13 t14 t15 t16 t17 t18 t19 t20 t21 t22 t23 t24 t25 t26 t27 t28 t29 t30 t31 t32 t33 t34 t35 t36 t37 t38 t39 t40 t41 t42 t43 t44 t45 t46 t47 t48 t49 t50 t51 t52 t53 t54 t55 t56 t57 t58 t59 t60 t61 t62 t63 t64 t65 t66 t67 t68 t69 t70 t71 t72 t73 t74 t75 t76 t77 t78 t79 t80 t81 t82 t83 t84 t85 t86 t87 t88 t89 t90 t91 t92 t93 t94 t95 t96 t97 t98 t99 t100 t101 t135 t136
              generalize yw = Y10 at *
              go_wp2_with fail
              go_roundw
              case rel => exact ⟨q + 1, by omega, by go_num, HBN.out⟩
              case measure => simp [intOf]; omega
            refine Stps2.cons (o := _) ?_ ?_
            · intro ac yw hsz hold hB hp K hK
              have t3 : ac.tmps[3]? = some (.pointer (some ⟨w.heap.size, 0, none⟩)) := hold 3 (by kernel_rfl)
              clear hold hp hsz
              go_simp
              exact hK.out _ _ ⟨hB, rfl, Nat.le_refl _, .inl (Below.refl _ _), fun h => absurd h (by decide)⟩
            refine Stps2.cons (o := _) ?_ ?_
            · intro ac yw hsz hold hB hp K hK
              have e0 := hp 0 (by decide)
              have t108 : ac.tmps[108]? = some (.pointer (some ⟨w.heap.size, 1, none⟩)) := (List.cons.inj e0).1
              clear hold hp hsz e0
              obtain ⟨v0, v1, v2, v3, v4⟩ := HSF.out _ hB.below
              go_simp
              exact hK.out _ _ ⟨hB, rfl, Nat.le_refl _, .inl (Below.refl _ _), fun h => absurd h (by decide)⟩
            refine Stps2.cons (o := _) ?_ ?_
            · intro ac yw hsz hold hB hp K hK
              have e1 := hp 1 (by decide)
              have t109 : ac.tmps[109]? = some (.bool false) := (List.cons.inj e1).1
              clear hold hp hsz e1
              go_simp
              exact hK.out _ _ ⟨hB, rfl, Nat.le_refl _, .inl (Below.refl _ _), fun h => absurd h (by decide)⟩
            refine Stps2.cons (o := _) ?_ ?_
            · intro ac yw hsz hold hB hp K hK
              have t110 : ac.tmps[110]? = some (.bool false) := (List.cons.inj (hp 2 (by decide))).1
              rw [if_neg (by rw [wanted_neg rfl rfl t110 (fun e => by cases e)]; decide)]
              exact hK.out _ _ ⟨hB, rfl, Nat.le_refl _, .inl (Below.refl _ _), fun h => absurd h (by decide)⟩
            refine Stps2.cons (o := _) ?_ ?_
            · intro ac yw hsz hold hB hp K hK
              have t110 : ac.tmps[110]? = some (.bool false) := (List.cons.inj (hp 2 (by decide))).1
              rw [if_neg (by rw [wanted_neg rfl rfl t110 (fun e => by cases e)]; decide)]
              exact hK.out _ _ ⟨hB, rfl, Nat.le_refl _, .inl (Below.refl _ _), fun h => absurd h (by decide)⟩
            refine Stps2.cons (o := _) ?_ ?_
            · intro ac yw hsz hold hB hp K hK
              have t110 : ac.tmps[110]? = some (.bool false) := (List.cons.inj (hp 2 (by decide))).1
              rw [if_neg (by rw [wanted_neg rfl rfl t110 (fun e => by cases e)]; decide)]
              exact hK.out _ _ ⟨hB, rfl, Nat.le_refl _, .inl (Below.refl _ _), fun h => absurd h (by decide)⟩
            refine Stps2.cons (o := _) ?_ ?_
            · intro ac yw hsz hold hB hp K hK
              have t110 : ac.tmps[110]? = some (.bool false) := (List.cons.inj (hp 2 (by decide))).1
              rw [if_neg (by rw [wanted_neg rfl rfl t110 (fun e => by cases e)]; decide)]
              exact hK.out _ _ ⟨hB, rfl, Nat.le_refl _, .inl (Below.refl _ _), fun h => absurd h (by decide)⟩
            refine Stps2.cons (o := _) ?_ ?_
            · intro ac yw hsz hold hB hp K hK
              have t110 : ac.tmps[110]? = some (.bool false) := (List.cons.inj (hp 2 (by decide))).1
              rw [if_neg (by rw [wanted_neg rfl rfl t110 (fun e => by cases e)]; decide)]
              exact hK.out _ _ ⟨hB, rfl, Nat.le_refl _, .inl (Below.refl _ _), fun h => absurd h (by decide)⟩
            refine Stps2.cons (o := _) ?_ ?_
            · intro ac yw hsz hold hB hp K hK
              have t110 : ac.tmps[110]? = some (.bool false) := (List.cons.inj (hp 2 (by decide))).1
              rw [if_neg (by rw [wanted_neg rfl rfl t110 (fun e => by cases e)]; decide)]
              exact hK.out _ _ ⟨hB, rfl, Nat.le_refl _, .inl (Below.refl _ _), fun h => absurd h (by decide)⟩
            refine Stps2.cons (o := _) ?_ ?_
            · intro ac yw hsz hold hB hp K hK
              have t110 : ac.tmps[110]? = some (.bool false) := (List.cons.inj (hp 2 (by decide))).1
              rw [if_neg (by rw [wanted_neg rfl rfl t110 (fun e => by cases e)]; decide)]
              exact hK.out _ _ ⟨hB, rfl, Nat.le_refl _, .inl (Below.refl _ _), fun h => absurd h (by decide)⟩
            refine Stps2.cons (o := _) ?_ ?_
            · intro ac yw hsz hold hB hp K hK
              have t110 : ac.tmps[110]? = some (.bool false) := (List.cons.inj (hp 2 (by decide))).1
              rw [if_neg (by rw [wanted_neg rfl rfl t110 (fun e => by cases e)]; decide)]
              exact hK.out _ _ ⟨hB, rfl, Nat.le_refl _, .inl (Below.refl _ _), fun h => absurd h (by decide)⟩
            refine Stps2.cons (o := _) ?_ ?_
            · intro ac yw hsz hold hB hp K hK
              have e2 := hp 2 (by decide)
              have t110 : ac.tmps[110]? = some (.bool false) := (List.cons.inj e2).1
              clear hold hp hsz e2
              go_simp
              exact hK.out _ _ ⟨hB, rfl, Nat.le_refl _, .inl (Below.refl _ _), fun h => absurd h (by decide)⟩
            refine Stps2.cons (o := _) ?_ ?_
            · intro ac yw hsz hold hB hp K hK
              have e11 := hp 11 (by decide)
              have t119 : ac.tmps[119]? = some (.bool false) := (List.cons.inj e11).1
              clear hold hp hsz e11
              go_simp
              exact hK.out _ _ ⟨hB, rfl, Nat.le_refl _, .inl (Below.refl _ _), fun h => absurd h (by decide)⟩
            refine Stps2.cons (o := _) ?_ ?_
            · intro ac yw hsz hold hB hp K hK
              have t120 : ac.tmps[120]? = some (.bool false) := (List.cons.inj (hp 12 (by decide))).1
              rw [if_pos (wanted_pos rfl rfl t120)]
              have t3 : ac.tmps[3]? = some (.pointer (some ⟨w.heap.size, 0, none⟩)) := hold 3 (by kernel_rfl)
              clear hold hp hsz
              go_simp
              exact hK.out _ _ ⟨hB, rfl, Nat.le_refl _, .inl (Below.refl _ _), fun h => absurd h (by decide)⟩
            refine Stps2.cons (o := _) ?_ ?_
            · intro ac yw hsz hold hB hp K hK
              have t120 : ac.tmps[120]? = some (.bool false) := (List.cons.inj (hp 12 (by decide))).1
              rw [if_pos (wanted_pos rfl rfl t120)]
              have e13 := hp 13 (by decide)
              have t121 : ac.tmps[121]? = some (.pointer (some ⟨w.heap.size, 1, none⟩)) := (List.cons.inj e13).1
              clear hold hp hsz e13
              obtain ⟨v0, v1, v2, v3, v4⟩ := HSF.out _ hB.below
              go_simp
              exact hK.out _ _ ⟨hB, rfl, Nat.le_refl _, .inl (Below.refl _ _), fun h => absurd h (by decide)⟩
            refine Stps2.cons (o := _) ?_ ?_
            · intro ac yw hsz hold hB hp K hK
              have t120 : ac.tmps[120]? = some (.bool false) := (List.cons.inj (hp 12 (by decide))).1
              rw [if_pos (wanted_pos rfl rfl t120)]
              have e14 := hp 14 (by decide)
              have t122 : ac.tmps[122]? = some (.bool false) := (List.cons.inj e14).1
              clear hold hp hsz e14
              go_simp
              exact hK.out _ _ ⟨hB, rfl, Nat.le_refl _, .inl (Below.refl _ _), fun h => absurd h (by decide)⟩
            refine Stps2.cons (o := _) ?_ ?_
            · intro ac yw hsz hold hB hp K hK
              have t120 : ac.tmps[120]? = some (.bool false) := (List.cons.inj (hp 12 (by decide))).1
              rw [if_pos (wanted_pos rfl rfl t120)]
              have e15 := hp 15 (by decide)
              have t123 : ac.tmps[123]? = some (.bool true) := (List.cons.inj e15).1
              clear hold hp hsz e15
              go_simp
              exact hK.out _ _ ⟨hB, rfl, Nat.le_refl _, .inl (Below.refl _ _), fun h => absurd h (by decide)⟩
            refine Stps2.cons (o := _) ?_ ?_
            · intro ac yw hsz hold hB hp K hK
              have t124 : ac.tmps[124]? = some (.bool true) := (List.cons.inj (hp 16 (by decide))).1
              rw [if_pos (wanted_pos rfl rfl t124)]
              have t16 : ac.tmps[16]? = some (.pointer (some ⟨w8.heap.size, 0, none⟩)) := hold 16 (by kernel_rfl)
              clear hold hp hsz
              refine ld8 16 rfl (w8.heap.size) (U1) t16 (RW8.out _ (HBL.out.trans (hB.below.mono HBL.out.size))) (SZ8.out.size) ?_
              exact hK.out _ _ ⟨hB, rfl, Nat.le_refl _, .inl (Below.refl _ _), fun h => absurd h (by decide)⟩
            refine Stps2.cons (o := _) ?_ ?_
            · intro ac yw hsz hold hB hp K hK
              have t124 : ac.tmps[124]? = some (.bool true) := (List.cons.inj (hp 16 (by decide))).1
              rw [if_pos (wanted_pos rfl rfl t124)]
              have t18 : ac.tmps[18]? = some (.int .i64 q) := hold 18 (by kernel_rfl)
              clear hold hp hsz
              go_simp
              exact hK.out _ _ ⟨hB, rfl, Nat.le_refl _, .inl (Below.refl _ _), fun h => absurd h (by decide)⟩
            refine Stps2.cons (o := _) ?_ ?_
            · intro ac yw hsz hold hB hp K hK
              have t124 : ac.tmps[124]? = some (.bool true) := (List.cons.inj (hp 16 (by decide))).1
              rw [if_pos (wanted_pos rfl rfl t124)]
              have e17 := hp 17 (by decide)
              have t125 : ac.tmps[125]? = some (.agg U1) := (List.cons.inj e17).1
              have e18 := hp 18 (by decide)
              have t126 : ac.tmps[126]? = some (.int .i64 q) := (List.cons.inj e18).1
              clear hold hp hsz e17 e18
              go_simp
              (go_at_call 21; (refine (RU.out _ _ (A8.out _ (HBL.out.trans (hB.below.mono HBL.out.size)))).mono ?_); rintro e wz ⟨x1a, x1n, x1c, x1m, x1d, x1p, x1q, rfl, h19_0, hbz⟩)
              exact hK.out _ _ ⟨hB.go hbz, Exists.intro x1a (Exists.intro x1n (Exists.intro x1c (Exists.intro x1m (Exists.intro x1d (Exists.intro x1p (Exists.intro x1q (And.intro rfl h19_0))))))), hbz.size, .inl hbz, fun h => absurd h (by decide)⟩
            refine Stps2.cons (o := _) ?_ ?_
            · intro ac yw hsz hold hB hp K hK
              have t124 : ac.tmps[124]? = some (.bool true) := (List.cons.inj (hp 16 (by decide))).1
              rw [if_pos (wanted_pos rfl rfl t124)]
              obtain ⟨x1a_19, x1n_19, x1c_19, x1m_19, x1d_19, x1p_19, x1q_19, e19, g19_0⟩ := hp 19 (by decide)
              have t127 : ac.tmps[127]? = some (.agg #[.slice x1a_19 x1n_19 x1c_19, .bool x1m_19, .slice x1d_19 x1p_19 x1q_19]) := (List.cons.inj e19).1
              clear hold hp hsz e19
              go_simp
              (go_at_call 22; (refine (NM.out _ _ _ _ _ _ _ _ g19_0).mono ?_); rintro e wz ⟨rfl, hbz⟩)
              exact hK.out _ _ ⟨hB.go hbz, rfl, hbz.size, .inl hbz, fun h => absurd h (by decide)⟩
            refine Stps2.cons (o := _) ?_ ?_
            · intro ac yw hsz hold hB hp K hK
              have t124 : ac.tmps[124]? = some (.bool true) := (List.cons.inj (hp 16 (by decide))).1
              rw [if_pos (wanted_pos rfl rfl t124)]
              have t4 : ac.tmps[4]? = some (.pointer (some ⟨w.heap.size + 1, 0, none⟩)) := hold 4 (by kernel_rfl)
              clear hold hp hsz
              go_simp
              exact hK.out _ _ ⟨hB, rfl, Nat.le_refl _, .inl (Below.refl _ _), fun h => absurd h (by decide)⟩
            refine Stps2.cons (o := _) ?_ ?_
            · intro ac yw hsz hold hB hp K hK
              have t124 : ac.tmps[124]? = some (.bool true) := (List.cons.inj (hp 16 (by decide))).1
              rw [if_pos (wanted_pos rfl rfl t124)]
              have e21 := hp 21 (by decide)
              have t129 : ac.tmps[129]? = some (.pointer (some ⟨w.heap.size + 1, 3, none⟩)) := (List.cons.inj e21).1
              clear hold hp hsz e21
              obtain ⟨v0, v1, v2, v3, v4⟩ := HSF.out _ hB.below
              go_simp
              exact hK.out _ _ ⟨hB, rfl, Nat.le_refl _, .inl (Below.refl _ _), fun h => absurd h (by decide)⟩
            refine Stps2.cons (o := _) ?_ ?_
            · intro ac yw hsz hold hB hp K hK
              have t124 : ac.tmps[124]? = some (.bool true) := (List.cons.inj (hp 16 (by decide))).1
              rw [if_pos (wanted_pos rfl rfl t124)]
              have e22 := hp 22 (by decide)
              have t130 : ac.tmps[130]? = some (.slice (some ⟨bv, ov, none⟩) 1 nc) := (List.cons.inj e22).1
              clear hold hp hsz e22
              go_simp
              exact hK.out _ _ ⟨hB, rfl, Nat.le_refl _, .inl (Below.refl _ _), fun h => absurd h (by decide)⟩
            refine Stps2.cons (o := _) ?_ ?_
            · intro ac yw hsz hold hB hp K hK
              have t124 : ac.tmps[124]? = some (.bool true) := (List.cons.inj (hp 16 (by decide))).1
              rw [if_pos (wanted_pos rfl rfl t124)]
              have e23 := hp 23 (by decide)
              have t131 : ac.tmps[131]? = some (.pointer (some ⟨bv, ov, none⟩)) := (List.cons.inj e23).1
              clear hold hp hsz e23
              obtain ⟨v0, v1, v2, v3, v4⟩ := HSF.out _ hB.below
              go_simp
              exact hK.out _ _ ⟨hB, rfl, Nat.le_refl _, .inl (Below.refl _ _), fun h => absurd h (by decide)⟩
            refine Stps2.cons (o := _) ?_ ?_
            · intro ac yw hsz hold hB hp K hK
              have t124 : ac.tmps[124]? = some (.bool true) := (List.cons.inj (hp 16 (by decide))).1
              rw [if_pos (wanted_pos rfl rfl t124)]
              have e20 := hp 20 (by decide)
              have t128 : ac.tmps[128]? = some (.agg #[.bool b1, .string s1, .string s2]) := (List.cons.inj e20).1
              have e24 := hp 24 (by decide)
              have t132 : ac.tmps[132]? = some (.agg #[.bool b1, .string s1, .string s2]) := (List.cons.inj e24).1
              clear hold hp hsz e20 e24
              go_simp
              exact hK.out _ _ ⟨hB, rfl, Nat.le_refl _, .inl (Below.refl _ _), fun h => absurd h (by decide)⟩
            refine Stps2.cons (o := _) ?_ ?_
            · intro ac yw hsz hold hB hp K hK
              have t120 : ac.tmps[120]? = some (.bool false) := (List.cons.inj (hp 12 (by decide))).1
              rw [if_pos (wanted_pos rfl rfl t120)]
              have e16 := hp 16 (by decide)
              have t124 : ac.tmps[124]? = some (.bool true) := (List.cons.inj e16).1
              have e25 := hp 25 (by decide)
              have t133 : ac.tmps[133]? = some (.bool false) := (List.cons.inj e25).1
              clear hold hp hsz e16 e25
              go_simp
              exact hK.out _ _ ⟨hB, rfl, Nat.le_refl _, .inl (Below.refl _ _), fun h => absurd h (by decide)⟩
            refine Stps2.cons (o := _) ?_ ?_
            · intro ac yw hsz hold hB hp K hK
              have e12 := hp 12 (by decide)
              have t120 : ac.tmps[120]? = some (.bool false) := (List.cons.inj e12).1
              have e26 := hp 26 (by decide)
              have t134 : ac.tmps[134]? = some (.bool false) := (List.cons.inj e26).1
              clear hold hp hsz e12 e26
              go_simp
              exact hK.out _ _ ⟨hB, rfl, Nat.le_refl _, .inl (Below.refl _ _), fun h => absurd h (by decide)⟩
            exact Stps2.nil _
          · have hq1 : ¬ (q : Int) < M := by omega
            have BQ := Lib.hid (BB.out.go HBL.out)
            clear hlt hq A8 RW8 RWv RWp HPv LU LY HG BB HBL SZ8 HU
            go_wp2_with fail
            go_at_call 10
            (with_reducible refine (AW.out _).mono ?_)
            rintro e w9 ⟨rfl, hb9⟩
            have HE := Lib.hid (BQ.out.go hb9).below
            clear hb9
            go_wp2
            go_ret
            exact ⟨rfl, HE.out⟩
       refine Stps2.cons (o := _) ?_ ?_
       · intro ac yw hsz hold hB hp K hK
         have t15 : ac.tmps[15]? = some (.int .i64 0) := hold 15 (by kernel_rfl)
         clear hold hp hsz
         go_simp
         exact hK.out _ _ ⟨hB, rfl, Nat.le_refl _, .inl (Below.refl _ _), fun h => absurd h (by decide)⟩
       refine Stps2.cons (o := _) ?_ ?_
       · intro ac yw hsz hold hB hp K hK
         have e0 := hp 0 (by decide)
         have t89 : ac.tmps[89]? = some (.int .i64 0) := (List.cons.inj e0).1
         clear hold hp hsz e0
         go_simp
         exact hK.out _ _ ⟨hB, rfl, Nat.le_refl _, .inl (Below.refl _ _), fun h => absurd h (by decide)⟩
       refine Stps2.cons (o := _) ?_ ?_
       · intro ac yw hsz hold hB hp K hK
         have e1 := hp 1 (by decide)
         have t90 : ac.tmps[90]? = some (.bool false) := (List.cons.inj e1).1
         clear hold hp hsz e1
         go_simp
         exact hK.out _ _ ⟨hB, rfl, Nat.le_refl _, .inl (Below.refl _ _), fun h => absurd h (by decide)⟩
       refine Stps2.cons (o := _) ?_ ?_
       · intro ac yw hsz hold hB hp K hK
         have t91 : ac.tmps[91]? = some (.bool false) := (List.cons.inj (hp 2 (by decide))).1
         rw [if_pos (wanted_pos rfl rfl t91)]
         have t17 : ac.tmps[17]? = some (.int .i64 0) := hold 17 (by kernel_rfl)
         clear hold hp hsz
         go_simp
         exact hK.out _ _ ⟨hB, rfl, Nat.le_refl _, .inl (Below.refl _ _), fun h => absurd h (by decide)⟩
       refine Stps2.cons (o := _) ?_ ?_
       · intro ac yw hsz hold hB hp K hK
         have t91 : ac.tmps[91]? = some (.bool false) := (List.cons.inj (hp 2 (by decide))).1
         rw [if_pos (wanted_pos rfl rfl t91)]
         have e3 := hp 3 (by decide)
         have t92 : ac.tmps[92]? = some (.int .i64 0) := (List.cons.inj e3).1
         clear hold hp hsz e3
         go_simp
         exact hK.out _ _ ⟨hB, rfl, Nat.le_refl _, .inl (Below.refl _ _), fun h => absurd h (by decide)⟩
       refine Stps2.cons (o := _) ?_ ?_
       · intro ac yw hsz hold hB hp K hK
         have e2 := hp 2 (by decide)
         have t91 : ac.tmps[91]? = some (.bool false) := (List.cons.inj e2).1
         have e4 := hp 4 (by decide)
         have t93 : ac.tmps[93]? = some (.bool false) := (List.cons.inj e4).1
         clear hold hp hsz e2 e4
         go_simp
         exact hK.out _ _ ⟨hB, rfl, Nat.le_refl _, .inl (Below.refl _ _), fun h => absurd h (by decide)⟩
       refine Stps2.cons (o := _) ?_ ?_
       · intro ac yw hsz hold hB hp K hK
         have e5 := hp 5 (by decide)
         have t94 : ac.tmps[94]? = some (.bool false) := (List.cons.inj e5).1
         clear hold hp hsz e5
         go_simp
         exact hK.out _ _ ⟨hB, rfl, Nat.le_refl _, .inl (Below.refl _ _), fun h => absurd h (by decide)⟩
       refine Stps2.cons (o := _) ?_ ?_
       · intro ac yw hsz hold hB hp K hK
         have t95 : ac.tmps[95]? = some (.bool false) := (List.cons.inj (hp 6 (by decide))).1
         rw [if_pos (wanted_pos rfl rfl t95)]
         have t16 : ac.tmps[16]? = some (.pointer (some ⟨w8.heap.size, 0, none⟩)) := hold 16 (by kernel_rfl)
         clear hold hp hsz
         refine ld8 16 rfl (w8.heap.size) (U1) t16 (RW8.out _ hB.below) (SZ8.out.size) ?_
         exact hK.out _ _ ⟨hB, rfl, Nat.le_refl _, .inl (Below.refl _ _), fun h => absurd h (by decide)⟩
       refine Stps2.cons (o := _) ?_ ?_
       · intro ac yw hsz hold hB hp K hK
         have t95 : ac.tmps[95]? = some (.bool false) := (List.cons.inj (hp 6 (by decide))).1
         rw [if_pos (wanted_pos rfl rfl t95)]
         have e7 := hp 7 (by decide)
         have t96 : ac.tmps[96]? = some (.agg U1) := (List.cons.inj e7).1
         clear hold hp hsz e7
         go_simp
         (go_at_call 19; (with_reducible refine (LU.out _ _ (A8.out _ hB.below)).mono ?_); rintro e wz ⟨rfl, hbz⟩)
         exact hK.out _ _ ⟨hB.go hbz, rfl, hbz.size, .inl hbz, fun h => absurd h (by decide)⟩
       refine Stps2.cons (o := _) ?_ ?_
       · intro ac yw hsz hold hB hp K hK
         have t95 : ac.tmps[95]? = some (.bool false) := (List.cons.inj (hp 6 (by decide))).1
         rw [if_pos (wanted_pos rfl rfl t95)]
         have t10 : ac.tmps[10]? = some (.pointer (some ⟨w5.heap.size, 0, none⟩)) := hold 10 (by kernel_rfl)
         clear hold hp hsz
         refine ld8 10 rfl (w5.heap.size) (Y1) t10 (RW5.out _ hB.below) (SZ5.out.size) ?_
         exact hK.out _ _ ⟨hB, rfl, Nat.le_refl _, .inl (Below.refl _ _), fun h => absurd h (by decide)⟩
       refine Stps2.cons (o := _) ?_ ?_
       · intro ac yw hsz hold hB hp K hK
         have t95 : ac.tmps[95]? = some (.bool false) := (List.cons.inj (hp 6 (by decide))).1
         rw [if_pos (wanted_pos rfl rfl t95)]
         have e9 := hp 9 (by decide)
         have t98 : ac.tmps[98]? = some (.agg Y1) := (List.cons.inj e9).1
         clear hold hp hsz e9
         go_simp
         (go_at_call 19; (with_reducible refine (LY.out _ _ (A5.out _ hB.below)).mono ?_); rintro e wz ⟨rfl, hbz⟩)
         exact hK.out _ _ ⟨hB.go hbz, rfl, hbz.size, .inl hbz, fun h => absurd h (by decide)⟩
       refine Stps2.cons (o := _) ?_ ?_
       · intro ac yw hsz hold hB hp K hK
         have t95 : ac.tmps[95]? = some (.bool false) := (List.cons.inj (hp 6 (by decide))).1
         rw [if_pos (wanted_pos rfl rfl t95)]
         have e8 := hp 8 (by decide)
         have t97 : ac.tmps[97]? = some (.int .i64 (M : Nat)) := (List.cons.inj e8).1
         have e10 := hp 10 (by decide)
         have t99 : ac.tmps[99]? = some (.int .i64 (M : Nat)) := (List.cons.inj e10).1
         clear hold hp hsz e8 e10
         have dM : (((M : Nat) : Int) != (M : Nat)) = false := bne_self_eq_false _
         go_simp
         exact hK.out _ _ ⟨hB, rfl, Nat.le_refl _, .inl (Below.refl _ _), fun h => absurd h (by decide)⟩
       refine Stps2.cons (o := _) ?_ ?_
       · intro ac yw hsz hold hB hp K hK
         have e6 := hp 6 (by decide)
         have t95 : ac.tmps[95]? = some (.bool false) := (List.cons.inj e6).1
         have e11 := hp 11 (by decide)
         have t100 : ac.tmps[100]? = some (.bool false) := (List.cons.inj e11).1
         clear hold hp hsz e6 e11
         go_simp
         exact hK.out _ _ ⟨hB, rfl, Nat.le_refl _, .inl (Below.refl _ _), fun h => absurd h (by decide)⟩
       exact Stps2.nil _
     refine Stps2.cons (o := _) ?_ ?_
     · intro ac yw hsz hold hB hp K hK
       have t9 : ac.tmps[9]? = some (.pointer (some ⟨w4.heap.size, 0, none⟩)) := hold 9 (by kernel_rfl)
       clear hold hp hsz
       rw [if_pos (by rfl)]
       refine ld8 9 rfl (w4.heap.size) (X1) t9 (RW4.out _ hB.below) (SZ4.out.size) ?_
       exact hK.out _ _ ⟨hB, rfl, Nat.le_refl _, .inl (Below.refl _ _), fun h => absurd h (by decide)⟩
     refine Stps2.cons (o := _) ?_ ?_
     · intro ac yw hsz hold hB hp K hK
       have t4 : ac.tmps[4]? = some (.pointer (some ⟨w.heap.size + 1, 0, none⟩)) := hold 4 (by kernel_rfl)
       clear hold hp hsz
       rw [if_pos (by rfl)]
       refine ldP 4 rfl (w.heap.size + 1) ((plC sa 0 sc false ta (tnO false 1) tc na (nnO false 1) nc)) t4 (RWv.out _ hB.below) (rfl) ?_
       exact hK.out _ _ ⟨hB, rfl, Nat.le_refl _, .inl (Below.refl _ _), fun h => absurd h (by decide)⟩
     refine Stps2.cons (o := _) ?_ ?_
     · intro ac yw hsz hold hB hp K hK
       have e1 := hp 1 (by decide)
       have t77 : ac.tmps[77]? = some (.agg (plC sa 0 sc false ta (tnO false 1) tc na (nnO false 1) nc)) := (List.cons.inj e1).1
       clear hold hp hsz e1
       go_simp
       (go_at_call 12; (refine (OF.out _ (HPv.out _ hB.below)).mono ?_); rintro e wz ⟨x2, rfl, h2_0, hbz⟩)
       exact hK.out _ _ ⟨hB.go hbz, Exists.intro x2 (And.intro rfl h2_0), hbz.size, .inl hbz, fun h => absurd h (by decide)⟩
     refine Stps2.cons (o := _) ?_ ?_
     · intro ac yw hsz hold hB hp K hK
       have t7 : ac.tmps[7]? = some (.slice ax mx cx) := hold 7 (by kernel_rfl)
       clear hold hp hsz
       go_simp
       exact hK.out _ _ ⟨hB, rfl, Nat.le_refl _, .inl (Below.refl _ _), fun h => absurd h (by decide)⟩
     refine Stps2.cons (o := _) ?_ ?_
     · intro ac yw hsz hold hB hp K hK
       have e0 := hp 0 (by decide)
       have t76 : ac.tmps[76]? = some (.agg X1) := (List.cons.inj e0).1
       obtain ⟨x2_2, e2, g2_0⟩ := hp 2 (by decide)
       have t78 : ac.tmps[78]? = some (.agg x2_2) := (List.cons.inj e2).1
       have e3 := hp 3 (by decide)
       have t79 : ac.tmps[79]? = some (.slice ax mx cx) := (List.cons.inj e3).1
       clear hold hp hsz e0 e2 e3
       go_simp
       (go_at_call 16; (refine (ST2.out _ _ _ (A4.out _ hB.below) g2_0 (SRW.out _ hB.below)).mono ?_); rintro e wz ⟨x4, rfl, h4_0, hbz⟩)
       exact hK.out _ _ ⟨hB.go hbz, Exists.intro x4 (And.intro rfl (And.intro h4_0 h4_0.isA)), hbz.size, .inl hbz, fun h => absurd h (by decide)⟩
     refine Stps2.cons (o := _) ?_ ?_
     · intro ac yw hsz hold hB hp K hK
       obtain ⟨x4_4, e4, g4_0, g4_1⟩ := hp 4 (by decide)
       have t80 : ac.tmps[80]? = some (.tuple #[.agg x4_4, .int .i64 0]) := (List.cons.inj e4).1
       clear hold hp hsz e4
       go_simp
       exact hK.out _ _ ⟨hB, Exists.intro x4_4 (And.intro rfl (And.intro g4_0 g4_1)), Nat.le_refl _, .inl (Below.refl _ _), fun h => absurd h (by decide)⟩
     refine Stps2.cons (o := _) ?_ ?_
     · intro ac yw hsz hold hB hp K hK
       obtain ⟨x4_5, e5, g5_0, g5_1⟩ := hp 5 (by decide)
       have t75 : ac.tmps[75]? = some (.tuple #[.agg x4_5, .int .i64 0]) := (List.cons.inj e5).1
       clear hold hp hsz e5
       go_simp
       exact hK.out _ _ ⟨hB, Exists.intro x4_5 (And.intro rfl (And.intro g5_0 g5_1)), Nat.le_refl _, .inl (Below.refl _ _), fun h => absurd h (by decide)⟩
     refine Stps2.cons (o := _) ?_ ?_
     · intro ac yw hsz hold hB hp K hK
       obtain ⟨x4_5, e5, g5_0, g5_1⟩ := hp 5 (by decide)
       have t75 : ac.tmps[75]? = some (.tuple #[.agg x4_5, .int .i64 0]) := (List.cons.inj e5).1
       clear hold hp hsz e5
       go_simp
       exact hK.out _ _ ⟨hB, rfl, Nat.le_refl _, .inl (Below.refl _ _), fun h => absurd h (by decide)⟩
     refine Stps2.cons (o := _) ?_ ?_
     · intro ac yw hsz hold hB hp K hK
       clear hold hp hsz
       have hbz : Below yw.heap.size yw (yw.alloc (.cells zerC 36)) /\ yw.heap.size < (yw.alloc (.cells zerC 36)).heap.size := ⟨(Below.refl _ _).alloc (Nat.le_refl _) _, by rw [World.size_alloc]; omega⟩
       go_simp
       exact hK.out _ _ ⟨hB.alloc _, Exists.intro yw.heap.size (Exists.intro zerC (And.intro rfl (And.intro ((Row.new yw _ zerC)) (And.intro IsA.zer hB.below.size)))), Nat.le_of_lt hbz.2, .inl hbz.1, fun _ => ⟨_, rfl, Nat.le_refl _, hbz.2⟩⟩
     refine Stps2.cons (o := _) ?_ ?_
     · intro ac yw hsz hold hB hp K hK
       obtain ⟨k8_8, z8_8, e8, g8_0, g8_1, g8_2⟩ := hp 8 (by decide)
       have t14 : ac.tmps[14]? = some (.pointer (some ⟨k8_8, 0, none⟩)) := (List.cons.inj e8).1
       obtain ⟨x4_6, e6, g6_0, g6_1⟩ := hp 6 (by decide)
       have t81 : ac.tmps[81]? = some (.agg x4_6) := (List.cons.inj e6).1
       clear hold hp hsz e8 e6
       rw [if_pos (by rfl)]
       have HB : Bag _ (fun _ => True) (yw.setRow k8_8 x4_6) := ⟨below_put hB.below g8_2 _, fun _ _ _ _ => trivial, trivial⟩
       refine st8 14 81 rfl k8_8 x4_6 t14 t81 _ z8_8 g8_0 g8_1 g6_1 ?_
       refine hK.out undef _ ⟨HB, Exists.intro k8_8 (Exists.intro x4_6 (And.intro (congrArg (fun x => [x]) t14) (And.intro (g8_0.put _) (And.intro (g6_0.store g8_0 g8_1 _) g6_1)))), by simp [World.setRow], .inr ?_, fun h => absurd h (by decide)⟩
       intro jj hj hap h
       match jj, h with
       | 0, h => exact h
       | 1, h => exact h
       | 2, ⟨x2, e2, g2_0⟩ =>
        exact Exists.intro x2 (And.intro e2 (g2_0.store g8_0 g8_1 _))
       | 3, h => exact h
       | 4, ⟨x4, e4, g4_0, g4_1⟩ =>
        exact Exists.intro x4 (And.intro e4 (And.intro (g4_0.store g8_0 g8_1 _) g4_1))
       | 5, ⟨x4, e5, g5_0, g5_1⟩ =>
        exact Exists.intro x4 (And.intro e5 (And.intro (g5_0.store g8_0 g8_1 _) g5_1))
       | 6, ⟨x4, e6, g6_0, g6_1⟩ =>
        exact Exists.intro x4 (And.intro e6 (And.intro (g6_0.store g8_0 g8_1 _) g6_1))
       | 7, h => exact h
       | 8, ⟨k8, z8, e8, g8_0, g8_1, g8_2⟩ =>
        have e9 : k8 = k8_8 := by have := (List.cons.inj e8).1.symm.trans t14; cases this; rfl
        subst e9
        exact Exists.intro _ (Exists.intro _ (And.intro e8 (And.intro (g8_0.put _) (And.intro g6_1 g8_2))))
       | 9, _ => exact absurd rfl hj
       | 10, h => exact h
       | _ + 11, h => exact h
     refine Stps2.cons (o := _) ?_ ?_
     · intro ac yw hsz hold hB hp K hK
       have e7 := hp 7 (by decide)
       have t82 : ac.tmps[82]? = some (.int .i64 0) := (List.cons.inj e7).1
       clear hold hp hsz e7
       go_simp
       exact hK.out _ _ ⟨hB, rfl, Nat.le_refl _, .inl (Below.refl _ _), fun h => absurd h (by decide)⟩
     exact Stps2.nil _
theorem own : ownKnob Tryz.prog.godebug = none := by kernel_rfl
theorem laidOut : laidOutB Tryz.prog = true := by kernel_rfl
theorem indexBack_lifted (os : Os) (started : os.Started) (H : Type) (enc : TypeId × Value -> H) :
    ReturnsInHanded {} Tryz.checked os 5 .any (fun w args => (Rows.indexBackSpec.pre enc Tryz.prog Tryz.f5 [] false w args /\ laidMetH Tryz.prog Rows.indexBackRow.laid w) /\ sizedMet enc Tryz.prog Tryz.f5 (OpenSpec.ofChange Rows.indexBackSpec) false w args)
     (Rows.indexBackSpec.post enc Tryz.prog Tryz.f5 false true false false) := by
 refine returnsInHanded_of_change_and (C := Tryz.checked) (X := fun w _ => laidMetH Tryz.prog Rows.indexBackRow.laid w) (fun _ _ _ hh h => h.of_heap hh) own started (by kernel_rfl) Tryz.func5
  (ChangeSpec.witness_shaped (enc := enc) (C := Tryz.checked) (os := os) (X := fun w _ => laidMetH Tryz.prog Rows.indexBackRow.laid w) false (World.laidAll Tryz.prog os Rows.indexBackRow.laid) #[.agg #[.slice none 0 0, .bool false, .slice none 0 0, .slice none 0 0], .agg #[.slice none 0 0, .bool false, .slice none 0 0, .slice none 0 0], .slice none 0 0] 8 (World.laidAll_os _ _ _)
    (World.shaped_of_ZipB (by kernel_rfl) (by kernel_rfl)) (by kernel_rfl) (by kernel_rfl) (by kernel_rfl)
    (by rw [MakeChecks.laidMetH_plain _ _ _ (by kernel_rfl)]; exact laidMet_laidAll _ (by kernel_rfl) (by kernel_rfl))) ?_
 intro W base args ds gs before hval0 hW _ _ _ _
 have hval : ∀ (j : Nat) t v, Tryz.f5.params[j]? = some t -> args[j]? = some v -> Value.okWide Tryz.prog W .any base t v := hval0
 have hW' := hW
 obtain ⟨p, q, hA0, hV, rfl, _, _⟩ := hW
 have hA : DataW.TrodAll enc Tryz.prog W 0 (fun _ => true) true Tryz.f5.params.toList args.toList ds p := hA0
 rw [Tryz.params5] at hA hval
 obtain ⟨v0, v1, v2, d0, d1, d2, p0, p1, p2, rfl, rfl, rfl, h0, h1, h2⟩ := trodAll_three hA
 obtain ⟨rfl, rfl⟩ := trodVars_none hV
 obtain ⟨cs0, S0, q0, ch0, g0, tn0, fB0, fS0, fT0, nn0, rfl, k0, w0, z0⟩ := open_pln (hval 0 26 v0 rfl rfl) h0
 obtain ⟨cs1, S1, q1, ch1, g1, tn1, fB1, fS1, fT1, nn1, rfl, k1, w1, z1⟩ := open_pln (hval 1 26 v1 rfl rfl) h1
 obtain ⟨a2, n2, c2, E2, rfl, k2, w2⟩ := open_drow (hval 2 27 v2 rfl rfl) h2
 have hlt : ∀ y ∈ p0 ++ (p1 ++ (p2)), y.block < W.heap.size := fun y hy => by simpa using hW'.lt y (by simpa using hy)
 simp only [List.append_nil] at hW'
 refine (indexBack_walk cs0 S0 q0 ch0 g0 tn0 fB0 fS0 fT0 nn0 cs1 S1 q1 ch1 g1 tn1 fB1 fS1 fT1 nn1 a2 n2 c2 E2 W k0 w0 z0 k1 w1 z1 k2 w2).mono fun e W' ⟨he, hb⟩ => ?_
 subst he
 exact ⟨_, rfl, _, _, _, [], _, [], hW', trodAll_mk1 (shut_bool Tryz.underlying4 _), trodAll_mk3 (Below.trod laidOut (by kernel_rfl) (of_decide_eq_true (by kernel_rfl)) h0 hb (fun y hy => hlt y (by simp [hy]))) (Below.trod laidOut (by kernel_rfl) (of_decide_eq_true (by kernel_rfl)) h1 hb (fun y hy => hlt y (by simp [hy]))) (Below.trod laidOut (by kernel_rfl) (of_decide_eq_true (by kernel_rfl)) h2 hb (fun y hy => hlt y (by simp [hy]))), rfl, hb.frame _, fun h => by cases h⟩
theorem indexBack_row : Rows.IndexBackSaid :=
 OpenClaim.holds_of_wide 5 Tryz.f5 rfl rfl rfl rfl rfl rfl rfl ⟨rfl, rfl, rfl, rfl, rfl⟩ rfl rfl rfl rfl rfl (by kernel_rfl) Tryz.func5 (by kernel_rfl)
  (of_decide_eq_true (by kernel_rfl)) (by unfold Func.isWrapper; first | (rw [if_pos (by decide +kernel)]; kernel_rfl) | (rw [if_neg (by decide +kernel)]; exact ⟨rfl, rfl⟩))
  (fun os started H enc _ => indexBack_lifted os started H enc)
theorem indexBack_holds : Rows.IndexBackCardSaid :=
 Claim7.holds_tied_plain_at .later [] [.data, .pinned] true Rows.indexBackCard.stood.harness Rows.indexBackCard.stood.looks indexBack_row (fun _ h => by cases h) (by kernel_rfl) (fun _ h => by cases h) indexBack_row_tie rfl ⟨rfl, rfl⟩ (by kernel_rfl) rfl
  (fun f fn hf hfn => by
    obtain rfl : f = 5 := Option.some.inj ((show Tryz.prog.funcNamed "typeball/typeballlaw11.IndexBack" = some 5 by kernel_rfl).symm.trans hf) |>.symm
    obtain rfl : fn = Tryz.f5 := (Option.some.inj (Tryz.func5.symm.trans hfn)).symm
    exact ⟨by kernel_rfl, fun j t ht => by
     rw [Tryz.params5] at ht
     have hm : t ∈ [26, 27] := by simpa using Array.mem_of_getElem? ht
     have hall : ([26, 27].all fun u => !Tryz.prog.wantsStandIn u) = true := by kernel_rfl
     exact (show Tryz.prog.wantsStandIn t = false by simpa using List.all_eq_true.1 hall t hm)⟩)
  (by kernel_rfl)
#print axioms indexBack_holds
end Go.Proofs.YtnpoakaffafdiaaGreatDoor
