/-
  Proved: the law IndexTakes of package typeballlaw11 returns true for every plain array, every bool and every row of what stands for axes, under the row's own conditions.
-/
import Derived.Test.YtnpoakaffafdiaaGreatDoorQ1
import Derived.Test.YtnpoakaffafdiaaGreatDoorQ2
import Derived.Test.YtnpoakaffafdiaaGreatDoorQ3
import Derived.Test.YtnpoakaffafdiaaGreatDoorQ4
import Derived.Test.YtnpoakaffafdiaaGreatDoorQ5
import Derived.Test.YtnpoakaffafdiaaGreatDoorQ6
import Derived.Test.YtnpoakaffafdiaaGreatDoorQ7
import Derived.Test.YtnpoakaffafdiaaGreatDoorQ8
import Derived.Test.YtnpoakaffafdiaaGreatDoorQ9
import Derived.Test.YtnpoakaffafdiaaGreatDoorQ10
import Derived.Test.YtnpoakaffafdiaaGreatDoorT1
import Derived.Test.YtnpoakaffafdiaaGreatDoorT2
import Derived.SizedLaws
import Derived.Test.YtnpoakaffafdiaaGreatDoorCards
import Derived.Test.YtnpoakaffafdiaaGreatDoorTie
import Derived.LaidMore
import Derived.Lay
import Derived.SevenTiedAt
import Derived.Stop.Joined
set_option maxHeartbeats 12800000
set_option maxRecDepth 100000
set_option linter.unusedSimpArgs false
set_option linter.unusedVariables false
namespace Go.Proofs.YtnpoakaffafdiaaGreatDoor
open Go.ChangeShapes Go.WideShapes Go.ChangeAt Go.RowKit Go.WideMaps Go.WideElems
attribute [local go_sem ↓] Go.wp_at_zero Go.wp_at_succ
theorem indexTakes_walk (cs0 : Array Value) (S0 : Nat -> Int) (r0 : Nat) (ch0 : Bool) (g0 : Nat -> Int) (tn0 : Nat) (fB0 : Nat -> Bool) (fS0 fT0 : Nat -> ByteArray) (nn0 : Nat) (one : Bool) (al : Option Addr) (nl cl : Nat) (E0 : Nat -> Sr)
    (w : World) (h0 : PlnAt w cs0 S0 r0 ch0 g0 tn0 fB0 fS0 fT0 nn0) (hS0 : In64 S0 r0) (hz0 : ∀ j, j < nn0 -> (fS0 j).size <= maxLen /\ (fT0 j).size <= maxLen) (hl : DRow w al nl cl E0) (hbd : ∀ j, j < nl -> (E0 j).bd) :
    Calls Tryz.prog 3 #[.agg cs0, .bool one, .slice al nl cl] w fun e w' => e = .returned (.bool true) /\ Below w.heap.size w w' := by
 have HP0 := Lib.hid h0
 have HD := Lib.hid hl
 have hll := hl.len
 obtain ⟨sb, scb, tb, tcb, nb, ncb, rfl, _⟩ := h0
 have SB := Lib.hid (fun wz q => subs_any al nl cl E0 wz q hbd)
 have LP0 := Lib.hid (fun wz h => (light_any 200 (plC sb r0 scb ch0 tb tn0 tcb nb nn0 ncb) S0 r0 ch0 g0 tn0 fB0 fS0 fT0 nn0 wz h hS0 hz0).mono (fun _ _ q => of_light11 q))
 have AW := Lib.hid (fun wz => awake11_any wz)
 have BB := Lib.hid ((Bag.start w).newRow (plC sb r0 scb ch0 tb tn0 tcb nb nn0 ncb) 26)
 clear hS0 hz0 hl hbd
 unfold plC
 go_enter Tryz.func3, Tryz.ntmps3
 go_wp2_with fail
 go_at_call 8
 (refine (SB.out _ (HD.out.below BB.out.below)).mono ?_)
 rintro e w1 ⟨ok, ax, mx, cx, rfl, hok, hb1⟩
 have BB := Lib.hid (BB.out.go hb1)
 clear hb1 SB
 cases ok with
 | false =>
  clear hok LP0 HP0 HD
  go_wp2_with fail
  go_at_call 10
  (with_reducible refine (AW.out _).mono ?_)
  rintro e w9 ⟨rfl, hb9⟩
  have HE := Lib.hid (BB.out.go hb9).below
  clear hb9
  go_wp2
  go_ret
  exact ⟨rfl, HE.out⟩
 | true =>
 obtain ⟨rfl, hsr, hn20, hgd⟩ := hok rfl
 have HSR := Lib.hid hsr
 have HGD := Lib.hid hgd
 have HR := Lib.hid BB.out.now.1
 clear hok hsr hgd
 go_wp2_with (refine ldPG (by rfl) 3 rfl w.heap.size (plC sb r0 scb ch0 tb tn0 tcb nb nn0 ncb) (by rfl) HR.out rfl ?_)
 go_at_call 9
 (with_reducible refine (LP0.out _ ?_).mono ?_)
 · exact HP0.out.below BB.out.below
 rintro e w2 ⟨b0, rfl, hb0, hb2⟩
 have BB := Lib.hid (BB.out.go hb2)
 have HSR := Lib.hid (HSR.out.below hb2)
 clear hb2 LP0
 cases b0 with
 | false =>
  clear hb0 HR HP0 HSR HGD HD
  go_wp2_with fail
  go_at_call 10
  (with_reducible refine (AW.out _).mono ?_)
  rintro e w9 ⟨rfl, hb9⟩
  have HE := Lib.hid (BB.out.go hb9).below
  clear hb9
  go_wp2
  go_ret
  exact ⟨rfl, HE.out⟩
 | true =>
 obtain ⟨L0, rfl, rfl, hG0⟩ := hb0 rfl
 clear hb0 HR
 have OF0 := Lib.hid (fun wz h => of8_any (plC sb r0 scb ch0 tb (tnO ch0 L0) tcb nb (nnO ch0 L0) ncb) S0 r0 ch0 L0 g0 fB0 fS0 fT0 wz h hG0)
 have h80 := hG0.rank
 have hGL0 := hG0.le
 obtain ⟨o, hoo⟩ : ∃ o : Int, (if one then 1 else 0) = o := ⟨_, rfl⟩
 have ho : 0 <= o /\ o <= 1 := by rw [← hoo]; cases one <;> simp
 have OR := Lib.hid (fun wz => origin_any one wz)
 rw [hoo] at OR
 obtain ⟨D, hD⟩ : ∃ D : Nat -> Sb, (fun j => (E0 j).sb) = D := ⟨_, rfl⟩
 rw [hD] at HSR
 have hok : ∀ j, j < mx -> (D j).ok := fun j hj => by rw [← hD]; exact Sr.okS (HGD.out j hj)
 have HSM : ixE o S0 r0 D mx = 0 -> (ixR D r0 <= 8 /\ (itm (lnF (ixN S0 D)) r0).toNat <= 1000000) := fun e => ix_few hG0.sh hG0.cnt hok e
 have HEL := hG0.els (pkG S0 (lnF (ixN S0 D)) r0 (ixF o D)) (itm (lnF (ixN S0 D)) r0).toNat
 have TK0 := fun x sa c wz q q2 => iindex_any x S0 r0 ch0 L0 g0 (gP fB0 fS0 fT0) (gQ fB0 fS0 fT0) o sa mx c D wz q hG0.sh q2 hok (by omega) ho
 have PT0 := fun wz q q2 => rindex11_any (plC sb r0 scb ch0 tb (tnO ch0 L0) tcb nb (nnO ch0 L0) ncb) S0 r0 ch0 L0 g0 fB0 fS0 fT0 o al mx cl E0 D wz q hG0.sh (by omega) q2 HGD.out hD hok ho hn20
 obtain ⟨P, hP⟩ : ∃ f : Nat -> Int, (fun j => elP L0 (gP fB0 fS0 fT0) ((pkG S0 (lnF (ixN S0 D)) r0 (ixF o D)) j)) = f := ⟨_, rfl⟩
 obtain ⟨Q, hQ⟩ : ∃ f : Nat -> Nat, (fun j => elQ L0 (gQ fB0 fS0 fT0) ((pkG S0 (lnF (ixN S0 D)) r0 (ixF o D)) j)) = f := ⟨_, rfl⟩
 obtain ⟨B, hB⟩ : ∃ f : Nat -> Bool, (fun j => elB L0 fB0 ((pkG S0 (lnF (ixN S0 D)) r0 (ixF o D)) j)) = f := ⟨_, rfl⟩
 obtain ⟨U, hU⟩ : ∃ f : Nat -> ByteArray, (fun j => elS L0 fS0 (rS 0) ((pkG S0 (lnF (ixN S0 D)) r0 (ixF o D)) j)) = f := ⟨_, rfl⟩
 obtain ⟨V, hV⟩ : ∃ f : Nat -> ByteArray, (fun j => elS L0 fT0 (str (dec 1)) ((pkG S0 (lnF (ixN S0 D)) r0 (ixF o D)) j)) = f := ⟨_, rfl⟩
 obtain ⟨G, hG'⟩ : ∃ f : Nat -> Int, (fun j => elC L0 g0 32 ((pkG S0 (lnF (ixN S0 D)) r0 (ixF o D)) j)) = f := ⟨_, rfl⟩
 obtain ⟨M, hM⟩ : ∃ f : Nat, (itm (lnF (ixN S0 D)) r0).toNat = f := ⟨_, rfl⟩
 obtain ⟨E, hE⟩ : ∃ f : Int, ixE o S0 r0 D mx = f := ⟨_, rfl⟩
 obtain ⟨T, hT⟩ : ∃ f : Nat -> Int, ixT S0 D r0 = f := ⟨_, rfl⟩
 obtain ⟨RK, hRK⟩ : ∃ f : Nat, ixR D r0 = f := ⟨_, rfl⟩
 rw [hP, hQ, hB, hU, hV, hM] at HEL
 rw [hM, hE, hRK] at HSM
 have TK : Hid (∀ x sa c wz, Arr wz x S0 r0 ch0 L0 g0 (gP fB0 fS0 fT0) (gQ fB0 fS0 fT0) -> SRow wz sa mx c D -> Calls Tryz.prog 11 #[.agg x, .int .i64 o, .slice sa mx c] wz fun e w' => ∃ y, e = .returned (.tuple #[.agg y, .int .i64 E]) /\ MoR w' y E T RK ch0 M G P Q /\ Below wz.heap.size wz w') := Lib.hid (fun x sa c wz q q2 => by
  refine (TK0 x sa c wz q q2).mono (fun _ _ hq => ?_)
  rw [hP, hQ, hG', hM, hE, hT, hRK] at hq
  exact hq.res)
 have PT : Hid (∀ wz, Pln wz (plC sb r0 scb ch0 tb (tnO ch0 L0) tcb nb (nnO ch0 L0) ncb) S0 r0 ch0 L0 g0 fB0 fS0 fT0 -> DRow wz al mx cl E0 -> Calls Tryz.prog 14 #[.agg (plC sb r0 scb ch0 tb (tnO ch0 L0) tcb nb (nnO ch0 L0) ncb), .int .i64 o, .slice al mx cl] wz fun e w' => ∃ y, e = .returned (.tuple #[.agg y, .int .i64 E]) /\ PoR w' y E T RK ch0 M G B U V /\ Below wz.heap.size wz w') := Lib.hid (fun wz q q2 => by
  refine (PT0 wz q q2).mono (fun _ _ hq => ?_)
  rw [hB, hU, hV, hG', hM, hE, hT, hRK] at hq
  exact hq.res)
 have SO : Hid (∀ x p wz, MoR wz x E T RK ch0 M G P Q -> PoR wz p E T RK ch0 M G B U V -> Calls Tryz.prog 15 #[.agg x, .int .i64 E, .agg p, .int .i64 E] wz fun e w' => e = .returned (.bool true) /\ Below wz.heap.size wz w') := Lib.hid (fun x p wz q z => showsI_any x p E T RK ch0 M G P Q B U V wz q z HSM HEL)
 clear hP hQ hB hU hV hG' hM hE hT hRK HSM HEL TK0 PT0 hok hG0 hoo ho hD HGD
 have HR := Lib.hid BB.out.now.1
 go_wp2_with (refine ld_pln rfl (.tmp 3) rfl w.heap.size rfl HR.out ?_)
 go_at_call 12
 (refine (OF0.out _ (HP0.out.below BB.out.below)).mono ?_)
 rintro e w3 ⟨x, rfl, hx, hb3⟩
 have BB := Lib.hid (BB.out.go hb3)
 have HSR := Lib.hid (HSR.out.below hb3)
 have HX := Lib.hid hx
 clear hx hb3 HR OF0
 go_wp2_with fail
 go_at_call 13
 (refine (OR.out _).mono ?_)
 rintro e w4 ⟨rfl, hb4⟩
 have BB := Lib.hid (BB.out.go hb4)
 have HSR := Lib.hid (HSR.out.below hb4)
 have HX := Lib.hid (HX.out.below hb4)
 clear hb4
 go_wp2_with fail
 go_at_call 11
 (refine (TK.out _ _ _ _ HX.out HSR.out).mono ?_)
 rintro e w5 ⟨y, rfl, hy, hb5⟩
 have BB := Lib.hid (BB.out.go hb5)
 obtain ⟨yc, ym, yd, ya, yn, yk, yt, yu, yv, hyq⟩ := hy.1
 subst hyq
 have hZ : Below w5.heap.size w5 (w5.alloc (.cells (arrC yc ym yd ya yn yk yt yu yv) 36)) := (Below.refl _ w5).alloc (Nat.le_refl _) _
 have RWx : Hid (∀ yz, Below (w5.alloc (.cells (arrC yc ym yd ya yn yk yt yu yv) 36)).heap.size (w5.alloc (.cells (arrC yc ym yd ya yn yk yt yu yv) 36)) yz -> Row yz w5.heap.size 36 (arrC yc ym yd ya yn yk yt yu yv)) := Lib.hid (fun yz hb => Row.below (Row.new w5 36 (arrC yc ym yd ya yn yk yt yu yv)) hb)
 have MXx : Hid (∀ yz, Below (w5.alloc (.cells (arrC yc ym yd ya yn yk yt yu yv) 36)).heap.size (w5.alloc (.cells (arrC yc ym yd ya yn yk yt yu yv) 36)) yz -> MoR yz (arrC yc ym yd ya yn yk yt yu yv) E T RK ch0 M G P Q) := Lib.hid (fun yz hb => (hy.below hZ).below hb)
 have SX : Hid (IsA (arrC yc ym yd ya yn yk yt yu yv)) := Lib.hid ⟨_, _, _, _, _, _, _, _, _, rfl⟩
 have BB := Lib.hid (BB.out.go hZ)
 have RWp : Hid (∀ yz, Below (w5.alloc (.cells (arrC yc ym yd ya yn yk yt yu yv) 36)).heap.size (w5.alloc (.cells (arrC yc ym yd ya yn yk yt yu yv) 36)) yz -> Row yz w.heap.size 26 (plC sb r0 scb ch0 tb (tnO ch0 L0) tcb nb (nnO ch0 L0) ncb)) := Lib.hid (fun yz hb => Row.below BB.out.now.1 hb)
 have BB := Lib.hid (Bag.fresh BB.out.below)
 clear hy hb5 hZ HX HSR TK
 obtain ⟨XX, hXX⟩ : ∃ z, (arrC yc ym yd ya yn yk yt yu yv) = z := ⟨_, rfl⟩
 have HXX := Lib.hid hXX
 rw [hXX] at MXx RWx SX BB RWp
 clear hXX
 unfold arrC
 go_wp2_with fail
 have hXX := HXX.out
 unfold arrC at hXX
 rw [hXX]
 generalize hW6 : w5.alloc (.cells XX 36) = w6 at *
 clear hW6 hXX HXX
 refine wp_region_inv2 ⟨(fun j => ([[36], [37], [38], [39], [40], [35], [41], [42], [11], [11], [12]] : List (List Nat)).getD j []), (fun j => ([[], [], [1], [], [0, 1, 2, 3], [0, 1, 2, 3, 4], [0, 1, 2, 3, 4, 5], [0, 1, 2, 3, 4, 5], [], [0, 1, 2, 3, 4, 5, 6, 8], [0, 1, 2, 3, 4, 5, 6, 7, 8, 9]] : List (List Nat)).getD j []), [8]⟩ (fun jj vv yy => match jj with | 0 => vv = [some (.agg (plC sb r0 scb ch0 tb (tnO ch0 L0) tcb nb (nnO ch0 L0) ncb))] | 1 => vv = [some (.bool one)] | 2 => vv = [some (.int .i64 o)] | 3 => vv = [some (.slice al mx cl)] | 4 => ∃ (x4 : Array Value), vv = [some (.tuple #[.agg x4, .int .i64 E])] /\ PoR yy x4 E T RK ch0 M G B U V /\ IsP x4 | 5 => ∃ (x4 : Array Value), vv = [some (.tuple #[.agg x4, .int .i64 E])] /\ PoR yy x4 E T RK ch0 M G B U V /\ IsP x4 | 6 => ∃ (x4 : Array Value), vv = [some (.agg x4)] /\ PoR yy x4 E T RK ch0 M G B U V /\ IsP x4 | 7 => vv = [some (.int .i64 E)] | 8 => ∃ (k8 : Nat), ∃ (z8 : Array Value), vv = [some (.pointer (some ⟨k8, 0, none⟩))] /\ Row yy k8 26 z8 /\ IsP z8 /\ w6.heap.size <= k8 | 9 => ∃ (k8 : Nat), ∃ (x4 : Array Value), vv = [some (.pointer (some ⟨k8, 0, none⟩))] /\ Row yy k8 26 x4 /\ PoR yy x4 E T RK ch0 M G B U V /\ IsP x4 | 10 => vv = [some (.int .i64 E)] | _ => True) (Bag w6 (fun _ => True)) (by kernel_rfl) (by kernel_rfl) (by kernel_rfl) (Bag.start w6).drew ?_ ?_ ?_
 · intro jj vv yw yw2 hb h
   match jj, h with
   | 0, h => exact h
   | 1, h => exact h
   | 2, h => exact h
   | 3, h => exact h
   | 4, ⟨x4, e4, g4_0, g4_1⟩ => exact Exists.intro x4 (And.intro e4 (And.intro (g4_0.below hb) g4_1))
   | 5, ⟨x4, e5, g5_0, g5_1⟩ => exact Exists.intro x4 (And.intro e5 (And.intro (g5_0.below hb) g5_1))
   | 6, ⟨x4, e6, g6_0, g6_1⟩ => exact Exists.intro x4 (And.intro e6 (And.intro (g6_0.below hb) g6_1))
   | 7, h => exact h
   | 8, ⟨k8, z8, e8, g8_0, g8_1, g8_2⟩ => exact Exists.intro k8 (Exists.intro z8 (And.intro e8 (And.intro (g8_0.below hb) (And.intro g8_1 g8_2))))
   | 9, ⟨k8, x4, e9, g9_0, g9_1, g9_2⟩ => exact Exists.intro k8 (Exists.intro x4 (And.intro e9 (And.intro (g9_0.below hb) (And.intro (g9_1.below hb) g9_2))))
   | 10, h => exact h
   | _ + 11, h => exact h
 · intro ac yw hsz hdf hold hB hp
   obtain ⟨kd, xd, es, rs, ms, zs⟩ := hp 9 (by decide)
   have t11 : ac.tmps[11]? = some (.pointer (some ⟨kd, 0, none⟩)) := (List.cons.inj es).1
   have t12 : ac.tmps[12]? = some (.int .i64 E) := (List.cons.inj (hp 10 (by decide))).1
   have t9 : ac.tmps[9]? = some (.pointer (some ⟨w5.heap.size, 0, none⟩)) := hold 9 (by kernel_rfl)
   have t10 : ac.tmps[10]? = some (.int .i64 E) := hold 10 (by kernel_rfl)
   have HRd := Lib.hid rs
   have HXd := Lib.hid ms
   have SZd := Lib.hid zs
   have HRx := Lib.hid (RWx.out _ hB.below)
   have HXx := Lib.hid (MXx.out _ hB.below)
   have BB := Lib.hid (BB.out.go hB.below)
   clear hold hp es rs ms zs hB RWp RWx MXx OR PT
   obtain ⟨TV, hTV⟩ : ∃ TV : Nat -> Value, ∀ i, (ac.tmps[i]?).getD undef = TV i := ⟨_, fun _ => rfl⟩
   have f9 := (hTV 9).symm.trans (congrArg (fun x => Option.getD x undef) t9)
   have f10 := (hTV 10).symm.trans (congrArg (fun x => Option.getD x undef) t10)
   have f11 := (hTV 11).symm.trans (congrArg (fun x => Option.getD x undef) t11)
   have f12 := (hTV 12).symm.trans (congrArg (fun x => Option.getD x undef) t12)
   have hac := act_eq (n := 51) hsz TV hTV
   rw [show ((List.range 51).map TV).toArray = #[TV 0, TV 1, TV 2, TV 3, TV 4, TV 5, TV 6, TV 7, TV 8, TV 9, TV 10, TV 11, TV 12, TV 13, TV 14, TV 15, TV 16, TV 17, TV 18, TV 19, TV 20, TV 21, TV 22, TV 23, TV 24, TV 25, TV 26, TV 27, TV 28, TV 29, TV 30, TV 31, TV 32, TV 33, TV 34, TV 35, TV 36, TV 37, TV 38, TV 39, TV 40, TV 41, TV 42, TV 43, TV 44, TV 45, TV 46, TV 47, TV 48, TV 49, TV 50] from rfl, f9, f10, f11, f12, hdf] at hac
   simp only [Option.getD_some] at hac
   subst hac
   clear hTV f9 f10 f11 f12
   clear hsz hdf t9 t10 t11 t12
   generalize yw = Y7 at *
   go_wp2_with (first
    | (refine ld8G (by rfl) 9 rfl w5.heap.size XX (by rfl) HRx.out SX.out.size ?_)
    | (refine ldPG (by rfl) 11 rfl kd xd (by rfl) HRd.out SZd.out.size ?_))
   go_at_call 15
   (refine (SO.out _ _ _ HXx.out HXd.out).mono ?_)
   rintro e w11 ⟨rfl, hb11⟩
   have BB := Lib.hid (BB.out.go hb11)
   clear hb11
   go_wp2_with fail
   go_at_call 10
   (with_reducible refine (AW.out _).mono ?_)
   rintro e w9 ⟨rfl, hb9⟩
   have HE := Lib.hid (BB.out.go hb9).below
   clear hb9
   go_wp2
   go_ret
   exact ⟨rfl, HE.out⟩
 refine Stps2.cons (o := _) ?_ ?_
 · intro ac yw hsz hold hB hp K hK
   have t3 : ac.tmps[3]? = some (.pointer (some ⟨w.heap.size, 0, none⟩)) := hold 3 (by kernel_rfl)
   clear hold hp hsz
   rw [if_pos (by rfl)]
   refine ldP 3 rfl (w.heap.size) ((plC sb r0 scb ch0 tb (tnO ch0 L0) tcb nb (nnO ch0 L0) ncb)) t3 (RWp.out _ hB.below) (rfl) ?_
   exact hK.out _ _ ⟨hB, rfl, Nat.le_refl _, .inl (Below.refl _ _), fun h => absurd h (by decide)⟩
 refine Stps2.cons (o := _) ?_ ?_
 · intro ac yw hsz hold hB hp K hK
   have t1 : ac.tmps[1]? = some (.bool one) := hold 1 (by kernel_rfl)
   clear hold hp hsz
   go_simp
   exact hK.out _ _ ⟨hB, rfl, Nat.le_refl _, .inl (Below.refl _ _), fun h => absurd h (by decide)⟩
 refine Stps2.cons (o := _) ?_ ?_
 · intro ac yw hsz hold hB hp K hK
   have e1 := hp 1 (by decide)
   have t37 : ac.tmps[37]? = some (.bool one) := (List.cons.inj e1).1
   clear hold hp hsz e1
   go_simp
   (go_at_call 13; (refine (OR.out _).mono ?_); rintro e wz ⟨rfl, hbz⟩)
   exact hK.out _ _ ⟨hB.go hbz, rfl, hbz.size, .inl hbz, fun h => absurd h (by decide)⟩
 refine Stps2.cons (o := _) ?_ ?_
 · intro ac yw hsz hold hB hp K hK
   have t2 : ac.tmps[2]? = some (.slice al mx cl) := hold 2 (by kernel_rfl)
   clear hold hp hsz
   go_simp
   exact hK.out _ _ ⟨hB, rfl, Nat.le_refl _, .inl (Below.refl _ _), fun h => absurd h (by decide)⟩
 refine Stps2.cons (o := _) ?_ ?_
 · intro ac yw hsz hold hB hp K hK
   have e0 := hp 0 (by decide)
   have t36 : ac.tmps[36]? = some (.agg (plC sb r0 scb ch0 tb (tnO ch0 L0) tcb nb (nnO ch0 L0) ncb)) := (List.cons.inj e0).1
   have e2 := hp 2 (by decide)
   have t38 : ac.tmps[38]? = some (.int .i64 o) := (List.cons.inj e2).1
   have e3 := hp 3 (by decide)
   have t39 : ac.tmps[39]? = some (.slice al mx cl) := (List.cons.inj e3).1
   clear hold hp hsz e0 e2 e3
   go_simp
   (go_at_call 14; (refine (PT.out _ (HP0.out.below (BB.out.go hB.below).below) (HD.out.below (BB.out.go hB.below).below)).mono ?_); rintro e wz ⟨x4, rfl, h4_0, hbz⟩)
   exact hK.out _ _ ⟨hB.go hbz, Exists.intro x4 (And.intro rfl (And.intro h4_0 h4_0.1)), hbz.size, .inl hbz, fun h => absurd h (by decide)⟩
 refine Stps2.cons (o := _) ?_ ?_
 · intro ac yw hsz hold hB hp K hK
   obtain ⟨x4_4, e4, g4_0, g4_1⟩ := hp 4 (by decide)
   have t40 : ac.tmps[40]? = some (.tuple #[.agg x4_4, .int .i64 E]) := (List.cons.inj e4).1
   clear hold hp hsz e4
   go_simp
   exact hK.out _ _ ⟨hB, Exists.intro x4_4 (And.intro rfl (And.intro g4_0 g4_1)), Nat.le_refl _, .inl (Below.refl _ _), fun h => absurd h (by decide)⟩
 refine Stps2.cons (o := _) ?_ ?_
 · intro ac yw hsz hold hB hp K hK
   obtain ⟨x4_5, e5, g5_0, g5_1⟩ := hp 5 (by decide)
   have t35 : ac.tmps[35]? = some (.tuple #[.agg x4_5, .int .i64 E]) := (List.cons.inj e5).1
   clear hold hp hsz e5
   go_simp
   exact hK.out _ _ ⟨hB, Exists.intro x4_5 (And.intro rfl (And.intro g5_0 g5_1)), Nat.le_refl _, .inl (Below.refl _ _), fun h => absurd h (by decide)⟩
 refine Stps2.cons (o := _) ?_ ?_
 · intro ac yw hsz hold hB hp K hK
   obtain ⟨x4_5, e5, g5_0, g5_1⟩ := hp 5 (by decide)
   have t35 : ac.tmps[35]? = some (.tuple #[.agg x4_5, .int .i64 E]) := (List.cons.inj e5).1
   clear hold hp hsz e5
   go_simp
   exact hK.out _ _ ⟨hB, rfl, Nat.le_refl _, .inl (Below.refl _ _), fun h => absurd h (by decide)⟩
 refine Stps2.cons (o := _) ?_ ?_
 · intro ac yw hsz hold hB hp K hK
   clear hold hp hsz
   have hbz : Below yw.heap.size yw (yw.alloc (.cells plZer 26)) /\ yw.heap.size < (yw.alloc (.cells plZer 26)).heap.size := ⟨(Below.refl _ _).alloc (Nat.le_refl _) _, by rw [World.size_alloc]; omega⟩
   go_simp
   exact hK.out _ _ ⟨hB.alloc _, Exists.intro yw.heap.size (Exists.intro plZer (And.intro rfl (And.intro ((Row.new yw _ plZer)) (And.intro IsP.zerI hB.below.size)))), Nat.le_of_lt hbz.2, .inl hbz.1, fun _ => ⟨_, rfl, Nat.le_refl _, hbz.2⟩⟩
 refine Stps2.cons (o := _) ?_ ?_
 · intro ac yw hsz hold hB hp K hK
   obtain ⟨k8_8, z8_8, e8, g8_0, g8_1, g8_2⟩ := hp 8 (by decide)
   have t11 : ac.tmps[11]? = some (.pointer (some ⟨k8_8, 0, none⟩)) := (List.cons.inj e8).1
   obtain ⟨x4_6, e6, g6_0, g6_1⟩ := hp 6 (by decide)
   have t41 : ac.tmps[41]? = some (.agg x4_6) := (List.cons.inj e6).1
   clear hold hp hsz e8 e6
   rw [if_pos (by rfl)]
   have HB : Bag _ (fun _ => True) (yw.setRow k8_8 x4_6) := ⟨below_put hB.below g8_2 _, fun _ _ _ _ => trivial, trivial⟩
   refine stP 11 41 rfl k8_8 x4_6 t11 t41 _ z8_8 g8_0 g8_1 g6_1 ?_
   refine hK.out undef _ ⟨HB, Exists.intro k8_8 (Exists.intro x4_6 (And.intro (congrArg (fun x => [x]) t11) (And.intro (g8_0.put _) (And.intro (g6_0.storeI g8_0 g8_1 _) g6_1)))), by simp [World.setRow], .inr ?_, fun h => absurd h (by decide)⟩
   intro jj hj hap h
   match jj, h with
   | 0, h => exact h
   | 1, h => exact h
   | 2, h => exact h
   | 3, h => exact h
   | 4, ⟨x4, e4, g4_0, g4_1⟩ =>
    exact Exists.intro x4 (And.intro e4 (And.intro (g4_0.storeI g8_0 g8_1 _) g4_1))
   | 5, ⟨x4, e5, g5_0, g5_1⟩ =>
    exact Exists.intro x4 (And.intro e5 (And.intro (g5_0.storeI g8_0 g8_1 _) g5_1))
   | 6, ⟨x4, e6, g6_0, g6_1⟩ =>
    exact Exists.intro x4 (And.intro e6 (And.intro (g6_0.storeI g8_0 g8_1 _) g6_1))
   | 7, h => exact h
   | 8, ⟨k8, z8, e8, g8_0, g8_1, g8_2⟩ =>
    have e9 : k8 = k8_8 := by have := (List.cons.inj e8).1.symm.trans t11; cases this; rfl
    subst e9
    exact Exists.intro _ (Exists.intro _ (And.intro e8 (And.intro (g8_0.put _) (And.intro g6_1 g8_2))))
   | 9, _ => exact absurd rfl hj
   | 10, h => exact h
   | _ + 11, h => exact h
 refine Stps2.cons (o := _) ?_ ?_
 · intro ac yw hsz hold hB hp K hK
   have e7 := hp 7 (by decide)
   have t42 : ac.tmps[42]? = some (.int .i64 E) := (List.cons.inj e7).1
   clear hold hp hsz e7
   go_simp
   exact hK.out _ _ ⟨hB, rfl, Nat.le_refl _, .inl (Below.refl _ _), fun h => absurd h (by decide)⟩
 exact Stps2.nil _
theorem own : ownKnob Tryz.prog.godebug = none := by kernel_rfl
theorem laidOut : laidOutB Tryz.prog = true := by kernel_rfl
theorem indexTakes_lifted (os : Os) (started : os.Started) (H : Type) (enc : TypeId × Value -> H) :
    ReturnsInHanded {} Tryz.checked os 3 .any (fun w args => (Rows.indexTakesSpec.pre enc Tryz.prog Tryz.f3 [] false w args /\ laidMetH Tryz.prog Rows.indexTakesRow.laid w) /\ sizedMet enc Tryz.prog Tryz.f3 (OpenSpec.ofChange Rows.indexTakesSpec) false w args)
     (Rows.indexTakesSpec.post enc Tryz.prog Tryz.f3 false true false false) := by
 refine returnsInHanded_of_change_and (C := Tryz.checked) (X := fun w _ => laidMetH Tryz.prog Rows.indexTakesRow.laid w) (fun _ _ _ hh h => h.of_heap hh) own started (by kernel_rfl) Tryz.func3
  (ChangeSpec.witness_shaped (enc := enc) (C := Tryz.checked) (os := os) (X := fun w _ => laidMetH Tryz.prog Rows.indexTakesRow.laid w) false (World.laidAll Tryz.prog os Rows.indexTakesRow.laid) #[.agg #[.slice none 0 0, .bool false, .slice none 0 0, .slice none 0 0], .bool false, .slice none 0 0] 8 (World.laidAll_os _ _ _)
    (World.shaped_of_ZipB (by kernel_rfl) (by kernel_rfl)) (by kernel_rfl) (by kernel_rfl) (by kernel_rfl)
    (by rw [MakeChecks.laidMetH_plain _ _ _ (by kernel_rfl)]; exact laidMet_laidAll _ (by kernel_rfl) (by kernel_rfl))) ?_
 intro W base args ds gs before hval0 hW _ _ _ _
 have hval : ∀ (j : Nat) t v, Tryz.f3.params[j]? = some t -> args[j]? = some v -> Value.okWide Tryz.prog W .any base t v := hval0
 have hW' := hW
 obtain ⟨p, q, hA0, hV, rfl, _, _⟩ := hW
 have hA : DataW.TrodAll enc Tryz.prog W 0 (fun _ => true) true Tryz.f3.params.toList args.toList ds p := hA0
 rw [Tryz.params3] at hA hval
 obtain ⟨v0, v1, v2, d0, d1, d2, p0, p1, p2, rfl, rfl, rfl, h0, h1, h2⟩ := trodAll_three hA
 obtain ⟨rfl, rfl⟩ := trodVars_none hV
 obtain ⟨cs0, S0, q0, ch0, g0, tn0, fB0, fS0, fT0, nn0, rfl, k0, w0, z0⟩ := open_pln (hval 0 26 v0 rfl rfl) h0
 obtain ⟨x1, rfl, rfl, rfl⟩ := open_bool Tryz.underlying4 (hval 1 4 v1 rfl rfl) h1
 obtain ⟨a2, n2, c2, E2, rfl, k2, w2⟩ := open_drow (hval 2 27 v2 rfl rfl) h2
 have hlt : ∀ y ∈ p0 ++ ([] ++ (p2)), y.block < W.heap.size := fun y hy => by simpa using hW'.lt y (by simpa using hy)
 simp only [List.append_nil] at hW'
 refine (indexTakes_walk cs0 S0 q0 ch0 g0 tn0 fB0 fS0 fT0 nn0 x1 a2 n2 c2 E2 W k0 w0 z0 k2 w2).mono fun e W' ⟨he, hb⟩ => ?_
 subst he
 exact ⟨_, rfl, _, _, _, [], _, [], hW', trodAll_mk1 (shut_bool Tryz.underlying4 _), trodAll_mk3 (Below.trod laidOut (by kernel_rfl) (of_decide_eq_true (by kernel_rfl)) h0 hb (fun y hy => hlt y (by simp [hy]))) (shut_bool Tryz.underlying4 _) (Below.trod laidOut (by kernel_rfl) (of_decide_eq_true (by kernel_rfl)) h2 hb (fun y hy => hlt y (by simp [hy]))), rfl, hb.frame _, fun h => by cases h⟩
theorem indexTakes_row : Rows.IndexTakesSaid :=
 OpenClaim.holds_of_wide 3 Tryz.f3 rfl rfl rfl rfl rfl rfl rfl ⟨rfl, rfl, rfl, rfl, rfl⟩ rfl rfl rfl rfl rfl (by kernel_rfl) Tryz.func3 (by kernel_rfl)
  (of_decide_eq_true (by kernel_rfl)) (by unfold Func.isWrapper; first | (rw [if_pos (by decide +kernel)]; kernel_rfl) | (rw [if_neg (by decide +kernel)]; exact ⟨rfl, rfl⟩))
  (fun os started H enc _ => indexTakes_lifted os started H enc)
theorem indexTakes_holds : Rows.IndexTakesCardSaid :=
 Claim7.holds_tied_plain_at .later [] [.data, .pinned] true Rows.indexTakesCard.stood.harness Rows.indexTakesCard.stood.looks indexTakes_row (fun _ h => by cases h) (by kernel_rfl) (fun _ h => by cases h) indexTakes_row_tie rfl ⟨rfl, rfl⟩ (by kernel_rfl) rfl
  (fun f fn hf hfn => by
    obtain rfl : f = 3 := Option.some.inj ((show Tryz.prog.funcNamed "typeball/typeballlaw11.IndexTakes" = some 3 by kernel_rfl).symm.trans hf) |>.symm
    obtain rfl : fn = Tryz.f3 := (Option.some.inj (Tryz.func3.symm.trans hfn)).symm
    exact ⟨by kernel_rfl, fun j t ht => by
     rw [Tryz.params3] at ht
     have hm : t ∈ [26, 4, 27] := by simpa using Array.mem_of_getElem? ht
     have hall : ([26, 4, 27].all fun u => !Tryz.prog.wantsStandIn u) = true := by kernel_rfl
     exact (show Tryz.prog.wantsStandIn t = false by simpa using List.all_eq_true.1 hall t hm)⟩)
  (by kernel_rfl)
#print axioms indexTakes_holds
end Go.Proofs.YtnpoakaffafdiaaGreatDoor
