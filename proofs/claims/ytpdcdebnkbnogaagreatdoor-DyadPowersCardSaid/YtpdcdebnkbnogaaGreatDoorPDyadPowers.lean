/-
  Proved: the law DyadPowers of package typeballlaw13 returns true for every number and every two bytes, under the row's own conditions.
-/
import Derived.Test.YtpdcdebnkbnogaaGreatDoorQ1
import Derived.Test.YtpdcdebnkbnogaaGreatDoorQ2
import Derived.Test.YtpdcdebnkbnogaaGreatDoorQ3
import Derived.Test.YtpdcdebnkbnogaaGreatDoorQ4
import Derived.Test.YtpdcdebnkbnogaaGreatDoorQ5
import Derived.Test.YtpdcdebnkbnogaaGreatDoorQ6
import Derived.Test.YtpdcdebnkbnogaaGreatDoorQ7
import Derived.Test.YtpdcdebnkbnogaaGreatDoorQ8
import Derived.Test.YtpdcdebnkbnogaaGreatDoorQ9
import Derived.Test.YtpdcdebnkbnogaaGreatDoorQ10
import Derived.Test.YtpdcdebnkbnogaaGreatDoorP1
import Derived.Test.YtpdcdebnkbnogaaGreatDoorP2
import Derived.Test.YtpdcdebnkbnogaaGreatDoorCards
import Derived.Test.YtpdcdebnkbnogaaGreatDoorTie
import Derived.Deep.Strs
import Derived.ProofKit
import Derived.OpenShut
import Derived.LaidMore
import Derived.Lay
import Derived.SevenTiedAt
import Derived.Stop.Joined
import Derived.Laws.StructEq
set_option maxHeartbeats 12800000
set_option maxRecDepth 100000
set_option linter.unusedSimpArgs false
set_option linter.unusedVariables false
namespace Go.Proofs.YtpdcdebnkbnogaaGreatDoor
open Go.ChangeShapes Go.WideShapes Go.ChangeAt Go.RowKit Go.WideMaps Go.WideElems
open Go.ChangeMaps (open_string shut_string)
attribute [local go_sem ↓] Go.wp_at_zero Go.wp_at_succ
set_option linter.unusedVariables false
set_option linter.unusedSimpArgs false
theorem Bag.putR {w yy : World} {P : World -> Prop} {N : Nat} (B0 : Bag w P yy) (hN : w.heap.size <= N) (hp : ∀ (y : World) (k9 : Nat) (x0 : Option Addr) (y0 z0 : Nat) (b0 : Bool) (u1 : Option Addr) (p1 z1 : Nat), Slot3 y k9 (.slice x0 y0 z0) (.bool b0) (.slice u1 p1 z1) -> N < k9 -> P y -> ∀ (a9 : Option Addr) (n9 c9 : Nat) (m9 : Bool) (a10 : Option Addr) (n10 c10 : Nat), P (((y.setCell ⟨k9, 0, none⟩ (.slice a9 n9 c9)).setCell ⟨k9, 1, none⟩ (.bool m9)).setCell ⟨k9, 2, none⟩ (.slice a10 n10 c10))) :
    ∀ (y : World) (k9 : Nat) {x0 : Option Addr} {y0 z0 : Nat} {b0 : Bool} {u1 : Option Addr} {p1 z1 : Nat}, Slot3 y k9 (.slice x0 y0 z0) (.bool b0) (.slice u1 p1 z1) -> N < k9 -> Bag w P y -> ∀ (a9 : Option Addr) (n9 c9 : Nat) (m9 : Bool) (a10 : Option Addr) (n10 c10 : Nat), Bag w P (((y.setCell ⟨k9, 0, none⟩ (.slice a9 n9 c9)).setCell ⟨k9, 1, none⟩ (.bool m9)).setCell ⟨k9, 2, none⟩ (.slice a10 n10 c10)) :=
 fun y k9 _ _ _ _ _ _ _ s hk B a9 n9 c9 m9 a10 n10 c10 => ⟨((B.below.setCell (p := ⟨k9, 0, none⟩) (show w.heap.size <= k9 by omega) _).setCell (p := ⟨k9, 1, none⟩) (show w.heap.size <= k9 by omega) _).setCell (p := ⟨k9, 2, none⟩) (show w.heap.size <= k9 by omega) _, B.stay, hp y k9 _ _ _ _ _ _ _ s hk B.now a9 n9 c9 m9 a10 n10 c10⟩
theorem dyadPowers_no (b : Bool) (s t : ByteArray) (x y : Int) (w : World) (h : rd13 b s t = false) :
    Calls Tryz.prog 7 #[.agg #[.bool b, .string s, .string t], .int .u8 x, .int .u8 y] w fun e w' => e = .returned (.bool true) /\ Below w.heap.size w w' := by
 have BB := Lib.hid ((Bag.start w).box3 (.bool b) (.string s) (.string t) 46)
 have AW := Lib.hid (fun wz => awake13_any wz)
 have RD := Lib.hid (fun wz => read13_no b s t wz h)
 unfold RatTold3 at RD
 clear h
 have q00 := BB.out.now.1.cell
 have q01 := BB.out.now.1.cell1
 have q02 := BB.out.now.1.cell2
 go_enter Tryz.func7, Tryz.ntmps7
 go_wp2_with fail
 go_at_call 15
 (with_reducible refine (RD.out _).mono ?_)
 rintro e w1 ⟨x1, xn1, xc1, xm1, y1, yn1, yc1, rfl, hr1, hb1⟩
 have BB := Lib.hid (((BB.out.go hb1).rat hr1).box3 (.slice x1 xn1 xc1) (.bool xm1) (.slice y1 yn1 yc1) 53)
 clear hb1
 clear hr1
 clear q00 q01 q02
 have q00 := BB.out.now.2.2.1.cell
 have q01 := BB.out.now.2.2.1.cell1
 have q02 := BB.out.now.2.2.1.cell2
 go_wp2_with fail
 go_at_call 16
 (with_reducible refine (AW.out _).mono ?_)
 rintro e w2 ⟨rfl, hb2⟩
 have BB := Lib.hid (BB.out.go hb2)
 clear hb2
 clear q00 q01 q02
 have q00 := BB.out.now.2.2.1.cell
 have q01 := BB.out.now.2.2.1.cell1
 have q02 := BB.out.now.2.2.1.cell2
 go_wp2
 go_ret
 exact ⟨rfl, BB.out.below⟩
theorem dyadPowers_big (b : Bool) (s t : ByteArray) (x y : Int) (w : World) (h : rd13 b s t = true) (hl : ¬ (s.size <= 8 /\ t.size <= 8)) :
    Calls Tryz.prog 7 #[.agg #[.bool b, .string s, .string t], .int .u8 x, .int .u8 y] w fun e w' => e = .returned (.bool true) /\ Below w.heap.size w w' := by
 by_cases hs : s.size <= 8
 · have ht : ¬ t.size <= 8 := fun e => hl ⟨hs, e⟩
   clear hl
   have BB := Lib.hid ((Bag.start w).box3 (.bool b) (.string s) (.string t) 46)
   have AW := Lib.hid (fun wz => awake13_any wz)
   have RD := Lib.hid (fun wz => read13_yes b s t wz h)
   unfold RatTold3 at RD
   have q00 := BB.out.now.1.cell
   have q01 := BB.out.now.1.cell1
   have q02 := BB.out.now.1.cell2
   generalize ofP b s t = P at *
   generalize ofQ b s t = Q at *
   have l1 : decide ((8 : Int) < s.size) = false := decide_eq_false (by omega)
   have l2 : decide ((8 : Int) < t.size) = true := decide_eq_true (by omega)
   clear h hs ht
   go_enter Tryz.func7, Tryz.ntmps7
   go_wp2_with fail
   go_at_call 15
   (with_reducible refine (RD.out _).mono ?_)
   rintro e w1 ⟨x1, xn1, xc1, xm1, y1, yn1, yc1, rfl, hr1, hb1⟩
   have BB := Lib.hid (((BB.out.go hb1).rat hr1).box3 (.slice x1 xn1 xc1) (.bool xm1) (.slice y1 yn1 yc1) 53)
   clear hb1
   clear hr1
   clear q00 q01 q02
   have q00 := BB.out.now.2.2.1.cell
   have q01 := BB.out.now.2.2.1.cell1
   have q02 := BB.out.now.2.2.1.cell2
   go_wp2_with fail
   go_at_call 16
   (with_reducible refine (AW.out _).mono ?_)
   rintro e w2 ⟨rfl, hb2⟩
   have BB := Lib.hid (BB.out.go hb2)
   clear hb2
   clear q00 q01 q02
   have q00 := BB.out.now.2.2.1.cell
   have q01 := BB.out.now.2.2.1.cell1
   have q02 := BB.out.now.2.2.1.cell2
   go_wp2
   go_ret
   exact ⟨rfl, BB.out.below⟩
 · clear hl
   have BB := Lib.hid ((Bag.start w).box3 (.bool b) (.string s) (.string t) 46)
   have AW := Lib.hid (fun wz => awake13_any wz)
   have RD := Lib.hid (fun wz => read13_yes b s t wz h)
   unfold RatTold3 at RD
   have q00 := BB.out.now.1.cell
   have q01 := BB.out.now.1.cell1
   have q02 := BB.out.now.1.cell2
   generalize ofP b s t = P at *
   generalize ofQ b s t = Q at *
   have l1 : decide ((8 : Int) < s.size) = true := decide_eq_true (by omega)
   clear h hs
   go_enter Tryz.func7, Tryz.ntmps7
   go_wp2_with fail
   go_at_call 15
   (with_reducible refine (RD.out _).mono ?_)
   rintro e w1 ⟨x1, xn1, xc1, xm1, y1, yn1, yc1, rfl, hr1, hb1⟩
   have BB := Lib.hid (((BB.out.go hb1).rat hr1).box3 (.slice x1 xn1 xc1) (.bool xm1) (.slice y1 yn1 yc1) 53)
   clear hb1
   clear hr1
   clear q00 q01 q02
   have q00 := BB.out.now.2.2.1.cell
   have q01 := BB.out.now.2.2.1.cell1
   have q02 := BB.out.now.2.2.1.cell2
   go_wp2_with fail
   go_at_call 16
   (with_reducible refine (AW.out _).mono ?_)
   rintro e w2 ⟨rfl, hb2⟩
   have BB := Lib.hid (BB.out.go hb2)
   clear hb2
   clear q00 q01 q02
   have q00 := BB.out.now.2.2.1.cell
   have q01 := BB.out.now.2.2.1.cell1
   have q02 := BB.out.now.2.2.1.cell2
   go_wp2
   go_ret
   exact ⟨rfl, BB.out.below⟩
theorem dyadPowers_yes (b : Bool) (s t : ByteArray) (x y : Int) (i k : Nat) (w : World) (h : rd13 b s t = true) (hl : s.size <= 8 /\ t.size <= 8) (hx : 0 <= x /\ x <= 255) (hy : 0 <= y /\ y <= 255) (hi : x.tmod 8 = (i : Int)) (hk : y.tmod 8 = (k : Int)) (hi7 : i <= 7) (hk7 : k <= 7) :
    Calls Tryz.prog 7 #[.agg #[.bool b, .string s, .string t], .int .u8 x, .int .u8 y] w fun e w' => e = .returned (.bool true) /\ Below w.heap.size w w' := by
 have BB := Lib.hid ((Bag.start w).box3 (.bool b) (.string s) (.string t) 46)
 have AW := Lib.hid (fun wz => awake13_any wz)
 obtain ⟨h1, h2, h3, hQ, hg, d1, d2, g1, g2⟩ := rd13_spec h
 have HXY := Lib.hid (And.intro hi hk)
 clear hi hk hx hy
 have RD := Lib.hid (fun wz => read13_yes b s t wz h)
 unfold RatTold3 at RD
 have dP : dl (ofP b s t).natAbs <= 8 := by have := congrArg ByteArray.size h2; unfold rS at this; rw [size_dl13] at this; omega
 have dQ : dl (ofQ b s t) <= 8 := by have := congrArg ByteArray.size h3; rw [size_dl13] at this; omega
 generalize ofP b s t = P at *
 generalize ofQ b s t = Q at *
 have l1 : decide ((8 : Int) < s.size) = false := decide_eq_false (by omega)
 have l2 : decide ((8 : Int) < t.size) = false := decide_eq_false (by omega)
 have WI : Hid (wrap64 (i : Int) = (i : Int) /\ wrap64 (k : Int) = (k : Int)) := Lib.hid ⟨IntWalk.wrap64_in _ (by omega), IntWalk.wrap64_in _ (by omega)⟩
 have ik : 0 <= (i : Int) * (k : Int) /\ (i : Int) * (k : Int) <= 49 := by
  have h1 : i * k <= 7 * 7 := Nat.mul_le_mul hi7 hk7
  rw [← Int.natCast_mul]
  omega
 have WS : Hid (IntKind.i64.wrap ((i : Int) + (k : Int)) = ((i : Int) + (k : Int))) := Lib.hid (IntWalk.i64_in _ (by omega))
 have WM : Hid (IntKind.i64.wrap ((i : Int) * (k : Int)) = ((i : Int) * (k : Int))) := Lib.hid (IntWalk.i64_in _ (by omega))
 have WN : Hid (IntKind.i64.wrap (-(i : Int)) = (-(i : Int))) := Lib.hid (IntWalk.i64_in _ (by omega))
 have hone : (1 : Nat) < 4294967296 ^ 7 := by decide
 have FRi := Lib.hid (fun wz => ratFrom_any (i : Int) wz (by omega))
 have FRk := Lib.hid (fun wz => ratFrom_any (k : Int) wz (by omega))
 have FRs := Lib.hid (fun wz => ratFrom_any ((i : Int) + (k : Int)) wz (by omega))
 have FRm := Lib.hid (fun wz => ratFrom_any ((i : Int) * (k : Int)) wz (by omega))
 have FRn := Lib.hid (fun wz => ratFrom_any (-(i : Int)) wz (by omega))
 have FR1 := Lib.hid (fun wz => ratFrom_any 1 wz (by omega))
 have sm : ∀ E : Int, -100 <= E /\ E <= 100 -> E.natAbs < 4294967296 ^ 7 := fun E h => Nat.lt_of_le_of_lt (show E.natAbs <= 100 by omega) (by decide)
 have TW := fun (E : Int) (hE : -100 <= E /\ E <= 100) a n c m a2 n2 c2 b k l v b2 k2 l2 wz h g => dtwo_any 42 a n c m a2 n2 c2 P Q b k l v b2 k2 l2 E 1 64 wz h g hQ Nat.one_pos 7 (by decide) g1 g2 (sm E hE) hone (by decide) (fun _ => ⟨Nat.le_trans dP (by decide), Nat.le_trans dQ (by decide)⟩)
 have TWi := Lib.hid (TW (i : Int) (by omega))
 have TWk := Lib.hid (TW (k : Int) (by omega))
 have TWs := Lib.hid (TW ((i : Int) + (k : Int)) (by omega))
 have TWm := Lib.hid (TW ((i : Int) * (k : Int)) (by omega))
 have TWn := Lib.hid (TW (-(i : Int)) (by omega))
 have l60 : ∀ N, dl N <= 60 -> N < 4294967296 ^ 7 := fun N h => Nat.lt_trans (Nat.lt_of_lt_of_le (dl_lt N) (Nat.pow_le_pow_right (by omega) h)) (by decide)
 have smk := sm (k : Int) (by omega)
 obtain ⟨U1, V1, U2, V2, U3, V3, U4, V4, U6, V6, E6, e1, e2, e3, e4, e5, e6, hcm, ⟨v1, v2, v3, v4, v6⟩, ⟨B1, B2, B3, B4, B5, B6, B7, B8⟩, ⟨hd1, hd2⟩, hmz⟩ := pow_facts (i := i) (k := k) hQ hg dP dQ hi7 hk7
 have TWz := Lib.hid (fun a n c m a2 n2 c2 b k' l v b2 k2 l2 wz h g => dtwo_any 42 a n c m a2 n2 c2 U1 V1 b k' l v b2 k2 l2 (k : Int) 1 64 wz h g v1 Nat.one_pos 7 (by decide) (l60 _ hd1) (l60 _ hd2) smk hone (by decide) (fun _ => ⟨hd1, hd2⟩))
 rw [e1] at TWi
 rw [e2] at TWk
 rw [e3] at TWs
 rw [e4] at TWz
 rw [e5] at TWm
 rw [e6] at TWn
 unfold RatTold4 at TWi TWk TWs TWz TWm TWn
 have TMu := Lib.hid (fun a n c m a2 n2 c2 sa wz (h : RatAt wz a n c m a2 n2 c2 U1 V1) (g : RatsAt wz sa 1 1 (fun _ => U2) (fun _ => V2)) => ratTimes1_any a n c m a2 n2 c2 U1 V1 sa U2 V2 wz h g v1 v2 64 (by decide) B1 B2 B3 B4)
 have CMu : Hid (∀ a n c m a2 n2 c2 b k l v b2 k2 l2 wz, RatAt wz a n c m a2 n2 c2 (tmP U1 V1 U2 V2) (tmQ U1 V1 U2 V2) -> RatAt wz b k l v b2 k2 l2 U3 V3 -> Calls Tryz.prog 24 #[.agg #[.slice a n c, .bool m, .slice a2 n2 c2], .agg #[.slice b k l, .bool v, .slice b2 k2 l2]] wz fun e w' => e = .returned (.int .i64 0) /\ Below wz.heap.size wz w') := Lib.hid (fun a n c m a2 n2 c2 b k l v b2 k2 l2 wz h g => by
  have := ratCmp_any a n c m a2 n2 c2 _ _ b k l v b2 k2 l2 U3 V3 wz h g (tmQ_pos _ _ v1 v2) v3 (64 + 64) (by decide) (Nat.lt_of_le_of_lt (loP_absle _ _) (mulI_lt32 B1 B3)) (Nat.lt_of_le_of_lt (loQ_le _ _) (mul_lt32 B2 B4)) (lt32_up B5 (by decide)) (lt32_up B6 (by decide))
  rw [hcm] at this
  exact this)
 have CMz : Hid (∀ a n c m a2 n2 c2 b k l v b2 k2 l2 wz, RatAt wz a n c m a2 n2 c2 U4 V4 -> RatAt wz b k l v b2 k2 l2 U4 V4 -> Calls Tryz.prog 24 #[.agg #[.slice a n c, .bool m, .slice a2 n2 c2], .agg #[.slice b k l, .bool v, .slice b2 k2 l2]] wz fun e w' => e = .returned (.int .i64 0) /\ Below wz.heap.size wz w') := Lib.hid (fun a n c m a2 n2 c2 b k l v b2 k2 l2 wz h g => by
  have := ratCmp_any a n c m a2 n2 c2 _ _ b k l v b2 k2 l2 U4 V4 wz h g v4 v4 64 (by decide) B7 B8 B7 B8
  rw [cmpZ_eq rfl] at this
  exact this)
 have SG := Lib.hid (fun a n c m a2 n2 c2 wz h => ratSign_any a n c m a2 n2 c2 P Q wz h)
 have HMZ := Lib.hid hmz
 have HB := Lib.hid (And.intro v1 (And.intro v6 (And.intro B1 B2)))
 generalize hT1 : tmP U1 V1 U2 V2 = T1 at TMu CMu
 generalize hT2 : tmQ U1 V1 U2 V2 = T2 at TMu CMu
 clear hT1 hT2 h h1 h2 h3 hl d1 d2 g1 g2 dP dQ e1 e2 e3 e4 e5 e6 hcm v1 v2 v3 v4 v6 B1 B2 B3 B4 B5 B6 B7 B8 hd1 hd2 hmz hone sm smk TW l60 hQ hg ik
 obtain ⟨hi, hk⟩ := HXY.out
 obtain ⟨wi, wk⟩ := WI.out
 have ws := WS.out
 have wm := WM.out
 have wn := WN.out
 have q00 := BB.out.now.1.cell
 have q01 := BB.out.now.1.cell1
 have q02 := BB.out.now.1.cell2
 go_enter Tryz.func7, Tryz.ntmps7
 go_wp2_with fail
 go_at_call 15
 (with_reducible refine (RD.out _).mono ?_)
 rintro e w1 ⟨x1, xn1, xc1, xm1, y1, yn1, yc1, rfl, hr1, hb1⟩
 have j1 : w.heap.size < w1.heap.size := by have := hb1.size; simp only [World.size_alloc] at this; omega
 have BB := Lib.hid (((BB.out.go hb1).rat hr1).box3 (.slice x1 xn1 xc1) (.bool xm1) (.slice y1 yn1 yc1) 53)
 clear hb1
 clear hr1
 clear q00 q01 q02
 have q00 := BB.out.now.2.2.1.cell
 have q01 := BB.out.now.2.2.1.cell1
 have q02 := BB.out.now.2.2.1.cell2
 have HP := Lib.hid (Bag.putR (N := w1.heap.size) BB.out (by omega) (fun y k9 x0 y0 z0 b0 u1 p1 z1 s hk q a9 n9 c9 m9 a10 n10 c10 => ⟨q.1.set3o (by omega) _ _ _, q.2.1.set3 s _ _ _, q.2.2.1.set3o (by omega) _ _ _, trivial⟩))
 go_wp2_with fail
 refine wp_region_inv2 ⟨(fun j => ([[50], [51], [52], [53], [49], [54], [55], [11], [11], [12]] : List (List Nat)).getD j []), (fun j => ([[], [], [1], [0, 1, 2], [0, 1, 2, 3], [0, 1, 2, 3, 4], [0, 1, 2, 3, 4], [], [0, 1, 2, 3, 4, 5, 7], [0, 1, 2, 3, 4, 5, 6, 7, 8]] : List (List Nat)).getD j []), [7]⟩ (fun jj vv yy => match jj with | 0 => vv = [some (.agg #[.slice x1 xn1 xc1, .bool xm1, .slice y1 yn1 yc1])] | 1 => vv = [some (.int .i64 (i : Int))] | 2 => ∃ (x51 : Option Addr), ∃ (n51 : Nat), ∃ (c51 : Nat), ∃ (m51 : Bool), ∃ (y51 : Option Addr), ∃ (o51 : Nat), ∃ (d51 : Nat), vv = [some (.agg #[.slice x51 n51 c51, .bool m51, .slice y51 o51 d51])] /\ RatAt yy x51 n51 c51 m51 y51 o51 d51 (i : Int) 1 | 3 => ∃ (x52 : Option Addr), ∃ (n52 : Nat), ∃ (c52 : Nat), ∃ (m52 : Bool), ∃ (y52 : Option Addr), ∃ (o52 : Nat), ∃ (d52 : Nat), vv = [some (.tuple #[.agg #[.slice x52 n52 c52, .bool m52, .slice y52 o52 d52], .int .i64 0])] /\ RatAt yy x52 n52 c52 m52 y52 o52 d52 U1 V1 | 4 => ∃ (x52 : Option Addr), ∃ (n52 : Nat), ∃ (c52 : Nat), ∃ (m52 : Bool), ∃ (y52 : Option Addr), ∃ (o52 : Nat), ∃ (d52 : Nat), vv = [some (.tuple #[.agg #[.slice x52 n52 c52, .bool m52, .slice y52 o52 d52], .int .i64 0])] /\ RatAt yy x52 n52 c52 m52 y52 o52 d52 U1 V1 | 5 => ∃ (x52 : Option Addr), ∃ (n52 : Nat), ∃ (c52 : Nat), ∃ (m52 : Bool), ∃ (y52 : Option Addr), ∃ (o52 : Nat), ∃ (d52 : Nat), vv = [some (.agg #[.slice x52 n52 c52, .bool m52, .slice y52 o52 d52])] /\ RatAt yy x52 n52 c52 m52 y52 o52 d52 U1 V1 | 6 => vv = [some (.int .i64 0)] | 7 => ∃ (k7 : Nat), ∃ (x0 : Option Addr), ∃ (y0 : Nat), ∃ (z0 : Nat), ∃ (b0 : Bool), ∃ (u1 : Option Addr), ∃ (p1 : Nat), ∃ (z1 : Nat), vv = [some (.pointer (some ⟨k7, 0, none⟩))] /\ Slot3 yy k7 (.slice x0 y0 z0) (.bool b0) (.slice u1 p1 z1) /\ w1.heap.size < k7 | 8 => ∃ (k7 : Nat), ∃ (x52 : Option Addr), ∃ (n52 : Nat), ∃ (c52 : Nat), ∃ (m52 : Bool), ∃ (y52 : Option Addr), ∃ (o52 : Nat), ∃ (d52 : Nat), vv = [some (.pointer (some ⟨k7, 0, none⟩))] /\ Slot3 yy k7 (.slice x52 n52 c52) (.bool m52) (.slice y52 o52 d52) /\ RatAt yy x52 n52 c52 m52 y52 o52 d52 U1 V1 | 9 => vv = [some (.int .i64 0)] | _ => True) (Bag w _) (by kernel_rfl) (by kernel_rfl) (by kernel_rfl) BB.out.drew ?_ ?_ ?_
 · intro jj vv yw yw2 hb h
   match jj, h with
   | 0, h => exact h
   | 1, h => exact h
   | 2, ⟨x51, n51, c51, m51, y51, o51, d51, e2, g2_0⟩ => exact Exists.intro x51 (Exists.intro n51 (Exists.intro c51 (Exists.intro m51 (Exists.intro y51 (Exists.intro o51 (Exists.intro d51 (And.intro e2 (g2_0.below hb))))))))
   | 3, ⟨x52, n52, c52, m52, y52, o52, d52, e3, g3_0⟩ => exact Exists.intro x52 (Exists.intro n52 (Exists.intro c52 (Exists.intro m52 (Exists.intro y52 (Exists.intro o52 (Exists.intro d52 (And.intro e3 (g3_0.below hb))))))))
   | 4, ⟨x52, n52, c52, m52, y52, o52, d52, e4, g4_0⟩ => exact Exists.intro x52 (Exists.intro n52 (Exists.intro c52 (Exists.intro m52 (Exists.intro y52 (Exists.intro o52 (Exists.intro d52 (And.intro e4 (g4_0.below hb))))))))
   | 5, ⟨x52, n52, c52, m52, y52, o52, d52, e5, g5_0⟩ => exact Exists.intro x52 (Exists.intro n52 (Exists.intro c52 (Exists.intro m52 (Exists.intro y52 (Exists.intro o52 (Exists.intro d52 (And.intro e5 (g5_0.below hb))))))))
   | 6, h => exact h
   | 7, ⟨k7, x0, y0, z0, b0, u1, p1, z1, e7, g7_0, g7_1⟩ => exact Exists.intro k7 (Exists.intro x0 (Exists.intro y0 (Exists.intro z0 (Exists.intro b0 (Exists.intro u1 (Exists.intro p1 (Exists.intro z1 (And.intro e7 (And.intro (g7_0.below hb) g7_1)))))))))
   | 8, ⟨k7, x52, n52, c52, m52, y52, o52, d52, e8, g8_0, g8_1⟩ => exact Exists.intro k7 (Exists.intro x52 (Exists.intro n52 (Exists.intro c52 (Exists.intro m52 (Exists.intro y52 (Exists.intro o52 (Exists.intro d52 (And.intro e8 (And.intro (g8_0.below hb) (g8_1.below hb))))))))))
   | 9, h => exact h
   | _ + 10, h => exact h
 · intro ac yw hsz hdf hold hB hp
   obtain ⟨kb5, x52, n52, c52, m52, y52, o52, d52, e8, sA, hrA⟩ := hp 8 (by decide)
   have t11 : ac.tmps[11]? = some (.pointer (some ⟨kb5, 0, none⟩)) := (List.cons.inj e8).1
   have hk5 : w1.heap.size < kb5 := by
    obtain ⟨k9', _, _, _, _, _, _, _, e9, _, h9⟩ := hp 7 (by decide)
    have := (List.cons.inj e9).1.symm.trans t11
    cases this
    exact h9
   have t12 : ac.tmps[12]? = some (.int .i64 0) := (List.cons.inj (hp 9 (by decide))).1
   have t7 : ac.tmps[7]? = some (.pointer (some ⟨w1.heap.size, 0, none⟩)) := hold 7 (by kernel_rfl)
   have t9 : ac.tmps[9]? = some (.int .i64 (i : Int)) := hold 9 (by kernel_rfl)
   have t10 : ac.tmps[10]? = some (.int .i64 (k : Int)) := hold 10 (by kernel_rfl)
   clear hold hp e8
   obtain ⟨TV5, hTV5⟩ : ∃ TV5 : Nat -> Value, ∀ i, (ac.tmps[i]?).getD undef = TV5 i := ⟨_, fun _ => rfl⟩
   have f7 := (hTV5 7).symm.trans (congrArg (fun x => Option.getD x undef) t7)
   have f9 := (hTV5 9).symm.trans (congrArg (fun x => Option.getD x undef) t9)
   have f10 := (hTV5 10).symm.trans (congrArg (fun x => Option.getD x undef) t10)
   have f11 := (hTV5 11).symm.trans (congrArg (fun x => Option.getD x undef) t11)
   have f12 := (hTV5 12).symm.trans (congrArg (fun x => Option.getD x undef) t12)
   have hac := act_eq (n := 155) hsz TV5 hTV5
   rw [show ((List.range 155).map TV5).toArray = #[TV5 0, TV5 1, TV5 2, TV5 3, TV5 4, TV5 5, TV5 6, TV5 7, TV5 8, TV5 9, TV5 10, TV5 11, TV5 12, TV5 13, TV5 14, TV5 15, TV5 16, TV5 17, TV5 18, TV5 19, TV5 20, TV5 21, TV5 22, TV5 23, TV5 24, TV5 25, TV5 26, TV5 27, TV5 28, TV5 29, TV5 30, TV5 31, TV5 32, TV5 33, TV5 34, TV5 35, TV5 36, TV5 37, TV5 38, TV5 39, TV5 40, TV5 41, TV5 42, TV5 43, TV5 44, TV5 45, TV5 46, TV5 47, TV5 48, TV5 49, TV5 50, TV5 51, TV5 52, TV5 53, TV5 54, TV5 55, TV5 56, TV5 57, TV5 58, TV5 59, TV5 60, TV5 61, TV5 62, TV5 63, TV5 64, TV5 65, TV5 66, TV5 67, TV5 68, TV5 69, TV5 70, TV5 71, TV5 72, TV5 73, TV5 74, TV5 75, TV5 76, TV5 77, TV5 78, TV5 79, TV5 80, TV5 81, TV5 82, TV5 83, TV5 84, TV5 85, TV5 86, TV5 87, TV5 88, TV5 89, TV5 90, TV5 91, TV5 92, TV5 93, TV5 94, TV5 95, TV5 96, TV5 97, TV5 98, TV5 99, TV5 100, TV5 101, TV5 102, TV5 103, TV5 104, TV5 105, TV5 106, TV5 107, TV5 108, TV5 109, TV5 110, TV5 111, TV5 112, TV5 113, TV5 114, TV5 115, TV5 116, TV5 117, TV5 118, TV5 119, TV5 120, TV5 121, TV5 122, TV5 123, TV5 124, TV5 125, TV5 126, TV5 127, TV5 128, TV5 129, TV5 130, TV5 131, TV5 132, TV5 133, TV5 134, TV5 135, TV5 136, TV5 137, TV5 138, TV5 139, TV5 140, TV5 141, TV5 142, TV5 143, TV5 144, TV5 145, TV5 146, TV5 147, TV5 148, TV5 149, TV5 150, TV5 151, TV5 152, TV5 153, TV5 154] from rfl, f7, f9, f10, f11, f12, hdf] at hac
   simp only [Option.getD_some] at hac
   subst hac
   clear hTV5 f7 f9 f10 f11 f12
   have BB := Lib.hid ((hB.rat hrA).slot3 sA)
   clear hB sA hrA HP hsz t7 t9 t10 t11 t12
   have HP := Lib.hid (Bag.putR (N := kb5) BB.out (by omega) (fun y k9 x0 y0 z0 b0 u1 p1 z1 s hk q a9 n9 c9 m9 a10 n10 c10 => ⟨q.1.set3o (by omega) _ _ _, q.2.1.set3 s _ _ _, q.2.2.1.set3o (by omega) _ _ _, q.2.2.2.1.set3 s _ _ _, q.2.2.2.2.1.set3o (by omega) _ _ _, trivial⟩))
   go_wp2_with fail
   refine wp_region_inv2 ⟨(fun j => ([[57], [58], [59], [60], [56], [61], [62], [13], [13], [14]] : List (List Nat)).getD j []), (fun j => ([[], [], [1], [0, 1, 2], [0, 1, 2, 3], [0, 1, 2, 3, 4], [0, 1, 2, 3, 4], [], [0, 1, 2, 3, 4, 5, 7], [0, 1, 2, 3, 4, 5, 6, 7, 8]] : List (List Nat)).getD j []), [7]⟩ (fun jj vv yy => match jj with | 0 => vv = [some (.agg #[.slice x1 xn1 xc1, .bool xm1, .slice y1 yn1 yc1])] | 1 => vv = [some (.int .i64 (k : Int))] | 2 => ∃ (x61 : Option Addr), ∃ (n61 : Nat), ∃ (c61 : Nat), ∃ (m61 : Bool), ∃ (y61 : Option Addr), ∃ (o61 : Nat), ∃ (d61 : Nat), vv = [some (.agg #[.slice x61 n61 c61, .bool m61, .slice y61 o61 d61])] /\ RatAt yy x61 n61 c61 m61 y61 o61 d61 (k : Int) 1 | 3 => ∃ (x62 : Option Addr), ∃ (n62 : Nat), ∃ (c62 : Nat), ∃ (m62 : Bool), ∃ (y62 : Option Addr), ∃ (o62 : Nat), ∃ (d62 : Nat), vv = [some (.tuple #[.agg #[.slice x62 n62 c62, .bool m62, .slice y62 o62 d62], .int .i64 0])] /\ RatAt yy x62 n62 c62 m62 y62 o62 d62 U2 V2 | 4 => ∃ (x62 : Option Addr), ∃ (n62 : Nat), ∃ (c62 : Nat), ∃ (m62 : Bool), ∃ (y62 : Option Addr), ∃ (o62 : Nat), ∃ (d62 : Nat), vv = [some (.tuple #[.agg #[.slice x62 n62 c62, .bool m62, .slice y62 o62 d62], .int .i64 0])] /\ RatAt yy x62 n62 c62 m62 y62 o62 d62 U2 V2 | 5 => ∃ (x62 : Option Addr), ∃ (n62 : Nat), ∃ (c62 : Nat), ∃ (m62 : Bool), ∃ (y62 : Option Addr), ∃ (o62 : Nat), ∃ (d62 : Nat), vv = [some (.agg #[.slice x62 n62 c62, .bool m62, .slice y62 o62 d62])] /\ RatAt yy x62 n62 c62 m62 y62 o62 d62 U2 V2 | 6 => vv = [some (.int .i64 0)] | 7 => ∃ (k7 : Nat), ∃ (x0 : Option Addr), ∃ (y0 : Nat), ∃ (z0 : Nat), ∃ (b0 : Bool), ∃ (u1 : Option Addr), ∃ (p1 : Nat), ∃ (z1 : Nat), vv = [some (.pointer (some ⟨k7, 0, none⟩))] /\ Slot3 yy k7 (.slice x0 y0 z0) (.bool b0) (.slice u1 p1 z1) /\ kb5 < k7 | 8 => ∃ (k7 : Nat), ∃ (x62 : Option Addr), ∃ (n62 : Nat), ∃ (c62 : Nat), ∃ (m62 : Bool), ∃ (y62 : Option Addr), ∃ (o62 : Nat), ∃ (d62 : Nat), vv = [some (.pointer (some ⟨k7, 0, none⟩))] /\ Slot3 yy k7 (.slice x62 n62 c62) (.bool m62) (.slice y62 o62 d62) /\ RatAt yy x62 n62 c62 m62 y62 o62 d62 U2 V2 | 9 => vv = [some (.int .i64 0)] | _ => True) (Bag w _) (by kernel_rfl) (by kernel_rfl) (by kernel_rfl) BB.out.drew ?_ ?_ ?_
   · intro jj vv yw yw2 hb h
     match jj, h with
     | 0, h => exact h
     | 1, h => exact h
     | 2, ⟨x61, n61, c61, m61, y61, o61, d61, e2, g2_0⟩ => exact Exists.intro x61 (Exists.intro n61 (Exists.intro c61 (Exists.intro m61 (Exists.intro y61 (Exists.intro o61 (Exists.intro d61 (And.intro e2 (g2_0.below hb))))))))
     | 3, ⟨x62, n62, c62, m62, y62, o62, d62, e3, g3_0⟩ => exact Exists.intro x62 (Exists.intro n62 (Exists.intro c62 (Exists.intro m62 (Exists.intro y62 (Exists.intro o62 (Exists.intro d62 (And.intro e3 (g3_0.below hb))))))))
     | 4, ⟨x62, n62, c62, m62, y62, o62, d62, e4, g4_0⟩ => exact Exists.intro x62 (Exists.intro n62 (Exists.intro c62 (Exists.intro m62 (Exists.intro y62 (Exists.intro o62 (Exists.intro d62 (And.intro e4 (g4_0.below hb))))))))
     | 5, ⟨x62, n62, c62, m62, y62, o62, d62, e5, g5_0⟩ => exact Exists.intro x62 (Exists.intro n62 (Exists.intro c62 (Exists.intro m62 (Exists.intro y62 (Exists.intro o62 (Exists.intro d62 (And.intro e5 (g5_0.below hb))))))))
     | 6, h => exact h
     | 7, ⟨k7, x0, y0, z0, b0, u1, p1, z1, e7, g7_0, g7_1⟩ => exact Exists.intro k7 (Exists.intro x0 (Exists.intro y0 (Exists.intro z0 (Exists.intro b0 (Exists.intro u1 (Exists.intro p1 (Exists.intro z1 (And.intro e7 (And.intro (g7_0.below hb) g7_1)))))))))
     | 8, ⟨k7, x62, n62, c62, m62, y62, o62, d62, e8, g8_0, g8_1⟩ => exact Exists.intro k7 (Exists.intro x62 (Exists.intro n62 (Exists.intro c62 (Exists.intro m62 (Exists.intro y62 (Exists.intro o62 (Exists.intro d62 (And.intro e8 (And.intro (g8_0.below hb) (g8_1.below hb))))))))))
     | 9, h => exact h
     | _ + 10, h => exact h
   · intro ac yw hsz hdf hold hB hp
     obtain ⟨kb6, x62, n62, c62, m62, y62, o62, d62, e8, sA, hrA⟩ := hp 8 (by decide)
     have t13 : ac.tmps[13]? = some (.pointer (some ⟨kb6, 0, none⟩)) := (List.cons.inj e8).1
     have hk6 : kb5 < kb6 := by
      obtain ⟨k9', _, _, _, _, _, _, _, e9, _, h9⟩ := hp 7 (by decide)
      have := (List.cons.inj e9).1.symm.trans t13
      cases this
      exact h9
     have t14 : ac.tmps[14]? = some (.int .i64 0) := (List.cons.inj (hp 9 (by decide))).1
     have t7 : ac.tmps[7]? = some (.pointer (some ⟨w1.heap.size, 0, none⟩)) := hold 7 (by kernel_rfl)
     have t9 : ac.tmps[9]? = some (.int .i64 (i : Int)) := hold 9 (by kernel_rfl)
     have t10 : ac.tmps[10]? = some (.int .i64 (k : Int)) := hold 10 (by kernel_rfl)
     have t11 : ac.tmps[11]? = some (.pointer (some ⟨kb5, 0, none⟩)) := hold 11 (by kernel_rfl)
     have t12 : ac.tmps[12]? = some (.int .i64 0) := hold 12 (by kernel_rfl)
     clear hold hp e8
     obtain ⟨TV6, hTV6⟩ : ∃ TV6 : Nat -> Value, ∀ i, (ac.tmps[i]?).getD undef = TV6 i := ⟨_, fun _ => rfl⟩
     have f7 := (hTV6 7).symm.trans (congrArg (fun x => Option.getD x undef) t7)
     have f9 := (hTV6 9).symm.trans (congrArg (fun x => Option.getD x undef) t9)
     have f10 := (hTV6 10).symm.trans (congrArg (fun x => Option.getD x undef) t10)
     have f11 := (hTV6 11).symm.trans (congrArg (fun x => Option.getD x undef) t11)
     have f12 := (hTV6 12).symm.trans (congrArg (fun x => Option.getD x undef) t12)
     have f13 := (hTV6 13).symm.trans (congrArg (fun x => Option.getD x undef) t13)
     have f14 := (hTV6 14).symm.trans (congrArg (fun x => Option.getD x undef) t14)
     have hac := act_eq (n := 155) hsz TV6 hTV6
     rw [show ((List.range 155).map TV6).toArray = #[TV6 0, TV6 1, TV6 2, TV6 3, TV6 4, TV6 5, TV6 6, TV6 7, TV6 8, TV6 9, TV6 10, TV6 11, TV6 12, TV6 13, TV6 14, TV6 15, TV6 16, TV6 17, TV6 18, TV6 19, TV6 20, TV6 21, TV6 22, TV6 23, TV6 24, TV6 25, TV6 26, TV6 27, TV6 28, TV6 29, TV6 30, TV6 31, TV6 32, TV6 33, TV6 34, TV6 35, TV6 36, TV6 37, TV6 38, TV6 39, TV6 40, TV6 41, TV6 42, TV6 43, TV6 44, TV6 45, TV6 46, TV6 47, TV6 48, TV6 49, TV6 50, TV6 51, TV6 52, TV6 53, TV6 54, TV6 55, TV6 56, TV6 57, TV6 58, TV6 59, TV6 60, TV6 61, TV6 62, TV6 63, TV6 64, TV6 65, TV6 66, TV6 67, TV6 68, TV6 69, TV6 70, TV6 71, TV6 72, TV6 73, TV6 74, TV6 75, TV6 76, TV6 77, TV6 78, TV6 79, TV6 80, TV6 81, TV6 82, TV6 83, TV6 84, TV6 85, TV6 86, TV6 87, TV6 88, TV6 89, TV6 90, TV6 91, TV6 92, TV6 93, TV6 94, TV6 95, TV6 96, TV6 97, TV6 98, TV6 99, TV6 100, TV6 101, TV6 102, TV6 103, TV6 104, TV6 105, TV6 106, TV6 107, TV6 108, TV6 109, TV6 110, TV6 111, TV6 112, TV6 113, TV6 114, TV6 115, TV6 116, TV6 117, TV6 118, TV6 119, TV6 120, TV6 121, TV6 122, TV6 123, TV6 124, TV6 125, TV6 126, TV6 127, TV6 128, TV6 129, TV6 130, TV6 131, TV6 132, TV6 133, TV6 134, TV6 135, TV6 136, TV6 137, TV6 138, TV6 139, TV6 140, TV6 141, TV6 142, TV6 143, TV6 144, TV6 145, TV6 146, TV6 147, TV6 148, TV6 149, TV6 150, TV6 151, TV6 152, TV6 153, TV6 154] from rfl, f7, f9, f10, f11, f12, f13, f14, hdf] at hac
     simp only [Option.getD_some] at hac
     subst hac
     clear hTV6 f7 f9 f10 f11 f12 f13 f14
     have BB := Lib.hid ((hB.rat hrA).slot3 sA)
     clear hB sA hrA HP hsz t7 t9 t10 t11 t12 t13 t14
     have HP := Lib.hid (Bag.putR (N := kb6) BB.out (by omega) (fun y k9 x0 y0 z0 b0 u1 p1 z1 s hk q a9 n9 c9 m9 a10 n10 c10 => ⟨q.1.set3o (by omega) _ _ _, q.2.1.set3 s _ _ _, q.2.2.1.set3o (by omega) _ _ _, q.2.2.2.1.set3 s _ _ _, q.2.2.2.2.1.set3o (by omega) _ _ _, q.2.2.2.2.2.1.set3 s _ _ _, q.2.2.2.2.2.2.1.set3o (by omega) _ _ _, trivial⟩))
     go_wp2_with fail
     refine wp_region_inv2 ⟨(fun j => ([[64], [65], [66], [67], [68], [69], [63], [70], [71], [15], [15], [16]] : List (List Nat)).getD j []), (fun j => ([[], [], [], [1, 2], [1, 2, 3], [0, 1, 2, 3, 4], [0, 1, 2, 3, 4, 5], [0, 1, 2, 3, 4, 5, 6], [0, 1, 2, 3, 4, 5, 6], [], [0, 1, 2, 3, 4, 5, 6, 7, 9], [0, 1, 2, 3, 4, 5, 6, 7, 8, 9, 10]] : List (List Nat)).getD j []), [9]⟩ (fun jj vv yy => match jj with | 0 => vv = [some (.agg #[.slice x1 xn1 xc1, .bool xm1, .slice y1 yn1 yc1])] | 1 => vv = [some (.int .i64 (i : Int))] | 2 => vv = [some (.int .i64 (k : Int))] | 3 => vv = [some (.int .i64 ((i : Int) + (k : Int)))] | 4 => ∃ (x71 : Option Addr), ∃ (n71 : Nat), ∃ (c71 : Nat), ∃ (m71 : Bool), ∃ (y71 : Option Addr), ∃ (o71 : Nat), ∃ (d71 : Nat), vv = [some (.agg #[.slice x71 n71 c71, .bool m71, .slice y71 o71 d71])] /\ RatAt yy x71 n71 c71 m71 y71 o71 d71 ((i : Int) + (k : Int)) 1 | 5 => ∃ (x72 : Option Addr), ∃ (n72 : Nat), ∃ (c72 : Nat), ∃ (m72 : Bool), ∃ (y72 : Option Addr), ∃ (o72 : Nat), ∃ (d72 : Nat), vv = [some (.tuple #[.agg #[.slice x72 n72 c72, .bool m72, .slice y72 o72 d72], .int .i64 0])] /\ RatAt yy x72 n72 c72 m72 y72 o72 d72 U3 V3 | 6 => ∃ (x72 : Option Addr), ∃ (n72 : Nat), ∃ (c72 : Nat), ∃ (m72 : Bool), ∃ (y72 : Option Addr), ∃ (o72 : Nat), ∃ (d72 : Nat), vv = [some (.tuple #[.agg #[.slice x72 n72 c72, .bool m72, .slice y72 o72 d72], .int .i64 0])] /\ RatAt yy x72 n72 c72 m72 y72 o72 d72 U3 V3 | 7 => ∃ (x72 : Option Addr), ∃ (n72 : Nat), ∃ (c72 : Nat), ∃ (m72 : Bool), ∃ (y72 : Option Addr), ∃ (o72 : Nat), ∃ (d72 : Nat), vv = [some (.agg #[.slice x72 n72 c72, .bool m72, .slice y72 o72 d72])] /\ RatAt yy x72 n72 c72 m72 y72 o72 d72 U3 V3 | 8 => vv = [some (.int .i64 0)] | 9 => ∃ (k9 : Nat), ∃ (x0 : Option Addr), ∃ (y0 : Nat), ∃ (z0 : Nat), ∃ (b0 : Bool), ∃ (u1 : Option Addr), ∃ (p1 : Nat), ∃ (z1 : Nat), vv = [some (.pointer (some ⟨k9, 0, none⟩))] /\ Slot3 yy k9 (.slice x0 y0 z0) (.bool b0) (.slice u1 p1 z1) /\ kb6 < k9 | 10 => ∃ (k9 : Nat), ∃ (x72 : Option Addr), ∃ (n72 : Nat), ∃ (c72 : Nat), ∃ (m72 : Bool), ∃ (y72 : Option Addr), ∃ (o72 : Nat), ∃ (d72 : Nat), vv = [some (.pointer (some ⟨k9, 0, none⟩))] /\ Slot3 yy k9 (.slice x72 n72 c72) (.bool m72) (.slice y72 o72 d72) /\ RatAt yy x72 n72 c72 m72 y72 o72 d72 U3 V3 | 11 => vv = [some (.int .i64 0)] | _ => True) (Bag w _) (by kernel_rfl) (by kernel_rfl) (by kernel_rfl) BB.out.drew ?_ ?_ ?_
     · intro jj vv yw yw2 hb h
       match jj, h with
       | 0, h => exact h
       | 1, h => exact h
       | 2, h => exact h
       | 3, h => exact h
       | 4, ⟨x71, n71, c71, m71, y71, o71, d71, e4, g4_0⟩ => exact Exists.intro x71 (Exists.intro n71 (Exists.intro c71 (Exists.intro m71 (Exists.intro y71 (Exists.intro o71 (Exists.intro d71 (And.intro e4 (g4_0.below hb))))))))
       | 5, ⟨x72, n72, c72, m72, y72, o72, d72, e5, g5_0⟩ => exact Exists.intro x72 (Exists.intro n72 (Exists.intro c72 (Exists.intro m72 (Exists.intro y72 (Exists.intro o72 (Exists.intro d72 (And.intro e5 (g5_0.below hb))))))))
       | 6, ⟨x72, n72, c72, m72, y72, o72, d72, e6, g6_0⟩ => exact Exists.intro x72 (Exists.intro n72 (Exists.intro c72 (Exists.intro m72 (Exists.intro y72 (Exists.intro o72 (Exists.intro d72 (And.intro e6 (g6_0.below hb))))))))
       | 7, ⟨x72, n72, c72, m72, y72, o72, d72, e7, g7_0⟩ => exact Exists.intro x72 (Exists.intro n72 (Exists.intro c72 (Exists.intro m72 (Exists.intro y72 (Exists.intro o72 (Exists.intro d72 (And.intro e7 (g7_0.below hb))))))))
       | 8, h => exact h
       | 9, ⟨k9, x0, y0, z0, b0, u1, p1, z1, e9, g9_0, g9_1⟩ => exact Exists.intro k9 (Exists.intro x0 (Exists.intro y0 (Exists.intro z0 (Exists.intro b0 (Exists.intro u1 (Exists.intro p1 (Exists.intro z1 (And.intro e9 (And.intro (g9_0.below hb) g9_1)))))))))
       | 10, ⟨k9, x72, n72, c72, m72, y72, o72, d72, e10, g10_0, g10_1⟩ => exact Exists.intro k9 (Exists.intro x72 (Exists.intro n72 (Exists.intro c72 (Exists.intro m72 (Exists.intro y72 (Exists.intro o72 (Exists.intro d72 (And.intro e10 (And.intro (g10_0.below hb) (g10_1.below hb))))))))))
       | 11, h => exact h
       | _ + 12, h => exact h
     · intro ac yw hsz hdf hold hB hp
       obtain ⟨kb7, x72, n72, c72, m72, y72, o72, d72, e10, sA, hrA⟩ := hp 10 (by decide)
       have t15 : ac.tmps[15]? = some (.pointer (some ⟨kb7, 0, none⟩)) := (List.cons.inj e10).1
       have hk7 : kb6 < kb7 := by
        obtain ⟨k9', _, _, _, _, _, _, _, e9, _, h9⟩ := hp 9 (by decide)
        have := (List.cons.inj e9).1.symm.trans t15
        cases this
        exact h9
       have t16 : ac.tmps[16]? = some (.int .i64 0) := (List.cons.inj (hp 11 (by decide))).1
       have t7 : ac.tmps[7]? = some (.pointer (some ⟨w1.heap.size, 0, none⟩)) := hold 7 (by kernel_rfl)
       have t9 : ac.tmps[9]? = some (.int .i64 (i : Int)) := hold 9 (by kernel_rfl)
       have t10 : ac.tmps[10]? = some (.int .i64 (k : Int)) := hold 10 (by kernel_rfl)
       have t11 : ac.tmps[11]? = some (.pointer (some ⟨kb5, 0, none⟩)) := hold 11 (by kernel_rfl)
       have t12 : ac.tmps[12]? = some (.int .i64 0) := hold 12 (by kernel_rfl)
       have t13 : ac.tmps[13]? = some (.pointer (some ⟨kb6, 0, none⟩)) := hold 13 (by kernel_rfl)
       have t14 : ac.tmps[14]? = some (.int .i64 0) := hold 14 (by kernel_rfl)
       clear hold hp e10
       obtain ⟨TV7, hTV7⟩ : ∃ TV7 : Nat -> Value, ∀ i, (ac.tmps[i]?).getD undef = TV7 i := ⟨_, fun _ => rfl⟩
       have f7 := (hTV7 7).symm.trans (congrArg (fun x => Option.getD x undef) t7)
       have f9 := (hTV7 9).symm.trans (congrArg (fun x => Option.getD x undef) t9)
       have f10 := (hTV7 10).symm.trans (congrArg (fun x => Option.getD x undef) t10)
       have f11 := (hTV7 11).symm.trans (congrArg (fun x => Option.getD x undef) t11)
       have f12 := (hTV7 12).symm.trans (congrArg (fun x => Option.getD x undef) t12)
       have f13 := (hTV7 13).symm.trans (congrArg (fun x => Option.getD x undef) t13)
       have f14 := (hTV7 14).symm.trans (congrArg (fun x => Option.getD x undef) t14)
       have f15 := (hTV7 15).symm.trans (congrArg (fun x => Option.getD x undef) t15)
       have f16 := (hTV7 16).symm.trans (congrArg (fun x => Option.getD x undef) t16)
       have hac := act_eq (n := 155) hsz TV7 hTV7
       rw [show ((List.range 155).map TV7).toArray = #[TV7 0, TV7 1, TV7 2, TV7 3, TV7 4, TV7 5, TV7 6, TV7 7, TV7 8, TV7 9, TV7 10, TV7 11, TV7 12, TV7 13, TV7 14, TV7 15, TV7 16, TV7 17, TV7 18, TV7 19, TV7 20, TV7 21, TV7 22, TV7 23, TV7 24, TV7 25, TV7 26, TV7 27, TV7 28, TV7 29, TV7 30, TV7 31, TV7 32, TV7 33, TV7 34, TV7 35, TV7 36, TV7 37, TV7 38, TV7 39, TV7 40, TV7 41, TV7 42, TV7 43, TV7 44, TV7 45, TV7 46, TV7 47, TV7 48, TV7 49, TV7 50, TV7 51, TV7 52, TV7 53, TV7 54, TV7 55, TV7 56, TV7 57, TV7 58, TV7 59, TV7 60, TV7 61, TV7 62, TV7 63, TV7 64, TV7 65, TV7 66, TV7 67, TV7 68, TV7 69, TV7 70, TV7 71, TV7 72, TV7 73, TV7 74, TV7 75, TV7 76, TV7 77, TV7 78, TV7 79, TV7 80, TV7 81, TV7 82, TV7 83, TV7 84, TV7 85, TV7 86, TV7 87, TV7 88, TV7 89, TV7 90, TV7 91, TV7 92, TV7 93, TV7 94, TV7 95, TV7 96, TV7 97, TV7 98, TV7 99, TV7 100, TV7 101, TV7 102, TV7 103, TV7 104, TV7 105, TV7 106, TV7 107, TV7 108, TV7 109, TV7 110, TV7 111, TV7 112, TV7 113, TV7 114, TV7 115, TV7 116, TV7 117, TV7 118, TV7 119, TV7 120, TV7 121, TV7 122, TV7 123, TV7 124, TV7 125, TV7 126, TV7 127, TV7 128, TV7 129, TV7 130, TV7 131, TV7 132, TV7 133, TV7 134, TV7 135, TV7 136, TV7 137, TV7 138, TV7 139, TV7 140, TV7 141, TV7 142, TV7 143, TV7 144, TV7 145, TV7 146, TV7 147, TV7 148, TV7 149, TV7 150, TV7 151, TV7 152, TV7 153, TV7 154] from rfl, f7, f9, f10, f11, f12, f13, f14, f15, f16, hdf] at hac
       simp only [Option.getD_some] at hac
       subst hac
       clear hTV7 f7 f9 f10 f11 f12 f13 f14 f15 f16
       have BB := Lib.hid ((hB.rat hrA).slot3 sA)
       clear hB sA hrA HP hsz t7 t9 t10 t11 t12 t13 t14 t15 t16
       have HP := Lib.hid (Bag.putR (N := kb7) BB.out (by omega) (fun y k9 x0 y0 z0 b0 u1 p1 z1 s hk q a9 n9 c9 m9 a10 n10 c10 => ⟨q.1.set3o (by omega) _ _ _, q.2.1.set3 s _ _ _, q.2.2.1.set3o (by omega) _ _ _, q.2.2.2.1.set3 s _ _ _, q.2.2.2.2.1.set3o (by omega) _ _ _, q.2.2.2.2.2.1.set3 s _ _ _, q.2.2.2.2.2.2.1.set3o (by omega) _ _ _, q.2.2.2.2.2.2.2.1.set3 s _ _ _, q.2.2.2.2.2.2.2.2.1.set3o (by omega) _ _ _, trivial⟩))
       go_wp2_with fail
       refine wp_region_inv2 ⟨(fun j => ([[73], [74], [75], [76], [72], [77], [78], [17], [17], [18]] : List (List Nat)).getD j []), (fun j => ([[], [], [1], [0, 1, 2], [0, 1, 2, 3], [0, 1, 2, 3, 4], [0, 1, 2, 3, 4], [], [0, 1, 2, 3, 4, 5, 7], [0, 1, 2, 3, 4, 5, 6, 7, 8]] : List (List Nat)).getD j []), [7]⟩ (fun jj vv yy => match jj with | 0 => vv = [some (.agg #[.slice x52 n52 c52, .bool m52, .slice y52 o52 d52])] | 1 => vv = [some (.int .i64 (k : Int))] | 2 => ∃ (x81 : Option Addr), ∃ (n81 : Nat), ∃ (c81 : Nat), ∃ (m81 : Bool), ∃ (y81 : Option Addr), ∃ (o81 : Nat), ∃ (d81 : Nat), vv = [some (.agg #[.slice x81 n81 c81, .bool m81, .slice y81 o81 d81])] /\ RatAt yy x81 n81 c81 m81 y81 o81 d81 (k : Int) 1 | 3 => ∃ (x82 : Option Addr), ∃ (n82 : Nat), ∃ (c82 : Nat), ∃ (m82 : Bool), ∃ (y82 : Option Addr), ∃ (o82 : Nat), ∃ (d82 : Nat), vv = [some (.tuple #[.agg #[.slice x82 n82 c82, .bool m82, .slice y82 o82 d82], .int .i64 0])] /\ RatAt yy x82 n82 c82 m82 y82 o82 d82 U4 V4 | 4 => ∃ (x82 : Option Addr), ∃ (n82 : Nat), ∃ (c82 : Nat), ∃ (m82 : Bool), ∃ (y82 : Option Addr), ∃ (o82 : Nat), ∃ (d82 : Nat), vv = [some (.tuple #[.agg #[.slice x82 n82 c82, .bool m82, .slice y82 o82 d82], .int .i64 0])] /\ RatAt yy x82 n82 c82 m82 y82 o82 d82 U4 V4 | 5 => ∃ (x82 : Option Addr), ∃ (n82 : Nat), ∃ (c82 : Nat), ∃ (m82 : Bool), ∃ (y82 : Option Addr), ∃ (o82 : Nat), ∃ (d82 : Nat), vv = [some (.agg #[.slice x82 n82 c82, .bool m82, .slice y82 o82 d82])] /\ RatAt yy x82 n82 c82 m82 y82 o82 d82 U4 V4 | 6 => vv = [some (.int .i64 0)] | 7 => ∃ (k7 : Nat), ∃ (x0 : Option Addr), ∃ (y0 : Nat), ∃ (z0 : Nat), ∃ (b0 : Bool), ∃ (u1 : Option Addr), ∃ (p1 : Nat), ∃ (z1 : Nat), vv = [some (.pointer (some ⟨k7, 0, none⟩))] /\ Slot3 yy k7 (.slice x0 y0 z0) (.bool b0) (.slice u1 p1 z1) /\ kb7 < k7 | 8 => ∃ (k7 : Nat), ∃ (x82 : Option Addr), ∃ (n82 : Nat), ∃ (c82 : Nat), ∃ (m82 : Bool), ∃ (y82 : Option Addr), ∃ (o82 : Nat), ∃ (d82 : Nat), vv = [some (.pointer (some ⟨k7, 0, none⟩))] /\ Slot3 yy k7 (.slice x82 n82 c82) (.bool m82) (.slice y82 o82 d82) /\ RatAt yy x82 n82 c82 m82 y82 o82 d82 U4 V4 | 9 => vv = [some (.int .i64 0)] | _ => True) (Bag w _) (by kernel_rfl) (by kernel_rfl) (by kernel_rfl) BB.out.drew ?_ ?_ ?_
       · intro jj vv yw yw2 hb h
         match jj, h with
         | 0, h => exact h
         | 1, h => exact h
         | 2, ⟨x81, n81, c81, m81, y81, o81, d81, e2, g2_0⟩ => exact Exists.intro x81 (Exists.intro n81 (Exists.intro c81 (Exists.intro m81 (Exists.intro y81 (Exists.intro o81 (Exists.intro d81 (And.intro e2 (g2_0.below hb))))))))
         | 3, ⟨x82, n82, c82, m82, y82, o82, d82, e3, g3_0⟩ => exact Exists.intro x82 (Exists.intro n82 (Exists.intro c82 (Exists.intro m82 (Exists.intro y82 (Exists.intro o82 (Exists.intro d82 (And.intro e3 (g3_0.below hb))))))))
         | 4, ⟨x82, n82, c82, m82, y82, o82, d82, e4, g4_0⟩ => exact Exists.intro x82 (Exists.intro n82 (Exists.intro c82 (Exists.intro m82 (Exists.intro y82 (Exists.intro o82 (Exists.intro d82 (And.intro e4 (g4_0.below hb))))))))
         | 5, ⟨x82, n82, c82, m82, y82, o82, d82, e5, g5_0⟩ => exact Exists.intro x82 (Exists.intro n82 (Exists.intro c82 (Exists.intro m82 (Exists.intro y82 (Exists.intro o82 (Exists.intro d82 (And.intro e5 (g5_0.below hb))))))))
         | 6, h => exact h
         | 7, ⟨k7, x0, y0, z0, b0, u1, p1, z1, e7, g7_0, g7_1⟩ => exact Exists.intro k7 (Exists.intro x0 (Exists.intro y0 (Exists.intro z0 (Exists.intro b0 (Exists.intro u1 (Exists.intro p1 (Exists.intro z1 (And.intro e7 (And.intro (g7_0.below hb) g7_1)))))))))
         | 8, ⟨k7, x82, n82, c82, m82, y82, o82, d82, e8, g8_0, g8_1⟩ => exact Exists.intro k7 (Exists.intro x82 (Exists.intro n82 (Exists.intro c82 (Exists.intro m82 (Exists.intro y82 (Exists.intro o82 (Exists.intro d82 (And.intro e8 (And.intro (g8_0.below hb) (g8_1.below hb))))))))))
         | 9, h => exact h
         | _ + 10, h => exact h
       · intro ac yw hsz hdf hold hB hp
         obtain ⟨kb8, x82, n82, c82, m82, y82, o82, d82, e8, sA, hrA⟩ := hp 8 (by decide)
         have t17 : ac.tmps[17]? = some (.pointer (some ⟨kb8, 0, none⟩)) := (List.cons.inj e8).1
         have hk8 : kb7 < kb8 := by
          obtain ⟨k9', _, _, _, _, _, _, _, e9, _, h9⟩ := hp 7 (by decide)
          have := (List.cons.inj e9).1.symm.trans t17
          cases this
          exact h9
         have t18 : ac.tmps[18]? = some (.int .i64 0) := (List.cons.inj (hp 9 (by decide))).1
         have t7 : ac.tmps[7]? = some (.pointer (some ⟨w1.heap.size, 0, none⟩)) := hold 7 (by kernel_rfl)
         have t9 : ac.tmps[9]? = some (.int .i64 (i : Int)) := hold 9 (by kernel_rfl)
         have t10 : ac.tmps[10]? = some (.int .i64 (k : Int)) := hold 10 (by kernel_rfl)
         have t11 : ac.tmps[11]? = some (.pointer (some ⟨kb5, 0, none⟩)) := hold 11 (by kernel_rfl)
         have t12 : ac.tmps[12]? = some (.int .i64 0) := hold 12 (by kernel_rfl)
         have t13 : ac.tmps[13]? = some (.pointer (some ⟨kb6, 0, none⟩)) := hold 13 (by kernel_rfl)
         have t14 : ac.tmps[14]? = some (.int .i64 0) := hold 14 (by kernel_rfl)
         have t15 : ac.tmps[15]? = some (.pointer (some ⟨kb7, 0, none⟩)) := hold 15 (by kernel_rfl)
         have t16 : ac.tmps[16]? = some (.int .i64 0) := hold 16 (by kernel_rfl)
         clear hold hp e8
         obtain ⟨TV8, hTV8⟩ : ∃ TV8 : Nat -> Value, ∀ i, (ac.tmps[i]?).getD undef = TV8 i := ⟨_, fun _ => rfl⟩
         have f7 := (hTV8 7).symm.trans (congrArg (fun x => Option.getD x undef) t7)
         have f9 := (hTV8 9).symm.trans (congrArg (fun x => Option.getD x undef) t9)
         have f10 := (hTV8 10).symm.trans (congrArg (fun x => Option.getD x undef) t10)
         have f11 := (hTV8 11).symm.trans (congrArg (fun x => Option.getD x undef) t11)
         have f12 := (hTV8 12).symm.trans (congrArg (fun x => Option.getD x undef) t12)
         have f13 := (hTV8 13).symm.trans (congrArg (fun x => Option.getD x undef) t13)
         have f14 := (hTV8 14).symm.trans (congrArg (fun x => Option.getD x undef) t14)
         have f15 := (hTV8 15).symm.trans (congrArg (fun x => Option.getD x undef) t15)
         have f16 := (hTV8 16).symm.trans (congrArg (fun x => Option.getD x undef) t16)
         have f17 := (hTV8 17).symm.trans (congrArg (fun x => Option.getD x undef) t17)
         have f18 := (hTV8 18).symm.trans (congrArg (fun x => Option.getD x undef) t18)
         have hac := act_eq (n := 155) hsz TV8 hTV8
         rw [show ((List.range 155).map TV8).toArray = #[TV8 0, TV8 1, TV8 2, TV8 3, TV8 4, TV8 5, TV8 6, TV8 7, TV8 8, TV8 9, TV8 10, TV8 11, TV8 12, TV8 13, TV8 14, TV8 15, TV8 16, TV8 17, TV8 18, TV8 19, TV8 20, TV8 21, TV8 22, TV8 23, TV8 24, TV8 25, TV8 26, TV8 27, TV8 28, TV8 29, TV8 30, TV8 31, TV8 32, TV8 33, TV8 34, TV8 35, TV8 36, TV8 37, TV8 38, TV8 39, TV8 40, TV8 41, TV8 42, TV8 43, TV8 44, TV8 45, TV8 46, TV8 47, TV8 48, TV8 49, TV8 50, TV8 51, TV8 52, TV8 53, TV8 54, TV8 55, TV8 56, TV8 57, TV8 58, TV8 59, TV8 60, TV8 61, TV8 62, TV8 63, TV8 64, TV8 65, TV8 66, TV8 67, TV8 68, TV8 69, TV8 70, TV8 71, TV8 72, TV8 73, TV8 74, TV8 75, TV8 76, TV8 77, TV8 78, TV8 79, TV8 80, TV8 81, TV8 82, TV8 83, TV8 84, TV8 85, TV8 86, TV8 87, TV8 88, TV8 89, TV8 90, TV8 91, TV8 92, TV8 93, TV8 94, TV8 95, TV8 96, TV8 97, TV8 98, TV8 99, TV8 100, TV8 101, TV8 102, TV8 103, TV8 104, TV8 105, TV8 106, TV8 107, TV8 108, TV8 109, TV8 110, TV8 111, TV8 112, TV8 113, TV8 114, TV8 115, TV8 116, TV8 117, TV8 118, TV8 119, TV8 120, TV8 121, TV8 122, TV8 123, TV8 124, TV8 125, TV8 126, TV8 127, TV8 128, TV8 129, TV8 130, TV8 131, TV8 132, TV8 133, TV8 134, TV8 135, TV8 136, TV8 137, TV8 138, TV8 139, TV8 140, TV8 141, TV8 142, TV8 143, TV8 144, TV8 145, TV8 146, TV8 147, TV8 148, TV8 149, TV8 150, TV8 151, TV8 152, TV8 153, TV8 154] from rfl, f7, f9, f10, f11, f12, f13, f14, f15, f16, f17, f18, hdf] at hac
         simp only [Option.getD_some] at hac
         subst hac
         clear hTV8 f7 f9 f10 f11 f12 f13 f14 f15 f16 f17 f18
         have BB := Lib.hid ((hB.rat hrA).slot3 sA)
         clear hB sA hrA HP hsz t7 t9 t10 t11 t12 t13 t14 t15 t16 t17 t18
         have HP := Lib.hid (Bag.putR (N := kb8) BB.out (by omega) (fun y k9 x0 y0 z0 b0 u1 p1 z1 s hk q a9 n9 c9 m9 a10 n10 c10 => ⟨q.1.set3o (by omega) _ _ _, q.2.1.set3 s _ _ _, q.2.2.1.set3o (by omega) _ _ _, q.2.2.2.1.set3 s _ _ _, q.2.2.2.2.1.set3o (by omega) _ _ _, q.2.2.2.2.2.1.set3 s _ _ _, q.2.2.2.2.2.2.1.set3o (by omega) _ _ _, q.2.2.2.2.2.2.2.1.set3 s _ _ _, q.2.2.2.2.2.2.2.2.1.set3o (by omega) _ _ _, q.2.2.2.2.2.2.2.2.2.1.set3 s _ _ _, q.2.2.2.2.2.2.2.2.2.2.1.set3o (by omega) _ _ _, trivial⟩))
         go_wp2_with fail
         refine wp_region_inv2 ⟨(fun j => ([[80], [81], [82], [83], [84], [85], [79], [86], [87], [19], [19], [20]] : List (List Nat)).getD j []), (fun j => ([[], [], [], [1, 2], [1, 2, 3], [0, 1, 2, 3, 4], [0, 1, 2, 3, 4, 5], [0, 1, 2, 3, 4, 5, 6], [0, 1, 2, 3, 4, 5, 6], [], [0, 1, 2, 3, 4, 5, 6, 7, 9], [0, 1, 2, 3, 4, 5, 6, 7, 8, 9, 10]] : List (List Nat)).getD j []), [9]⟩ (fun jj vv yy => match jj with | 0 => vv = [some (.agg #[.slice x1 xn1 xc1, .bool xm1, .slice y1 yn1 yc1])] | 1 => vv = [some (.int .i64 (i : Int))] | 2 => vv = [some (.int .i64 (k : Int))] | 3 => vv = [some (.int .i64 ((i : Int) * (k : Int)))] | 4 => ∃ (x91 : Option Addr), ∃ (n91 : Nat), ∃ (c91 : Nat), ∃ (m91 : Bool), ∃ (y91 : Option Addr), ∃ (o91 : Nat), ∃ (d91 : Nat), vv = [some (.agg #[.slice x91 n91 c91, .bool m91, .slice y91 o91 d91])] /\ RatAt yy x91 n91 c91 m91 y91 o91 d91 ((i : Int) * (k : Int)) 1 | 5 => ∃ (x92 : Option Addr), ∃ (n92 : Nat), ∃ (c92 : Nat), ∃ (m92 : Bool), ∃ (y92 : Option Addr), ∃ (o92 : Nat), ∃ (d92 : Nat), vv = [some (.tuple #[.agg #[.slice x92 n92 c92, .bool m92, .slice y92 o92 d92], .int .i64 0])] /\ RatAt yy x92 n92 c92 m92 y92 o92 d92 U4 V4 | 6 => ∃ (x92 : Option Addr), ∃ (n92 : Nat), ∃ (c92 : Nat), ∃ (m92 : Bool), ∃ (y92 : Option Addr), ∃ (o92 : Nat), ∃ (d92 : Nat), vv = [some (.tuple #[.agg #[.slice x92 n92 c92, .bool m92, .slice y92 o92 d92], .int .i64 0])] /\ RatAt yy x92 n92 c92 m92 y92 o92 d92 U4 V4 | 7 => ∃ (x92 : Option Addr), ∃ (n92 : Nat), ∃ (c92 : Nat), ∃ (m92 : Bool), ∃ (y92 : Option Addr), ∃ (o92 : Nat), ∃ (d92 : Nat), vv = [some (.agg #[.slice x92 n92 c92, .bool m92, .slice y92 o92 d92])] /\ RatAt yy x92 n92 c92 m92 y92 o92 d92 U4 V4 | 8 => vv = [some (.int .i64 0)] | 9 => ∃ (k9 : Nat), ∃ (x0 : Option Addr), ∃ (y0 : Nat), ∃ (z0 : Nat), ∃ (b0 : Bool), ∃ (u1 : Option Addr), ∃ (p1 : Nat), ∃ (z1 : Nat), vv = [some (.pointer (some ⟨k9, 0, none⟩))] /\ Slot3 yy k9 (.slice x0 y0 z0) (.bool b0) (.slice u1 p1 z1) /\ kb8 < k9 | 10 => ∃ (k9 : Nat), ∃ (x92 : Option Addr), ∃ (n92 : Nat), ∃ (c92 : Nat), ∃ (m92 : Bool), ∃ (y92 : Option Addr), ∃ (o92 : Nat), ∃ (d92 : Nat), vv = [some (.pointer (some ⟨k9, 0, none⟩))] /\ Slot3 yy k9 (.slice x92 n92 c92) (.bool m92) (.slice y92 o92 d92) /\ RatAt yy x92 n92 c92 m92 y92 o92 d92 U4 V4 | 11 => vv = [some (.int .i64 0)] | _ => True) (Bag w _) (by kernel_rfl) (by kernel_rfl) (by kernel_rfl) BB.out.drew ?_ ?_ ?_
         · intro jj vv yw yw2 hb h
           match jj, h with
           | 0, h => exact h
           | 1, h => exact h
           | 2, h => exact h
           | 3, h => exact h
           | 4, ⟨x91, n91, c91, m91, y91, o91, d91, e4, g4_0⟩ => exact Exists.intro x91 (Exists.intro n91 (Exists.intro c91 (Exists.intro m91 (Exists.intro y91 (Exists.intro o91 (Exists.intro d91 (And.intro e4 (g4_0.below hb))))))))
           | 5, ⟨x92, n92, c92, m92, y92, o92, d92, e5, g5_0⟩ => exact Exists.intro x92 (Exists.intro n92 (Exists.intro c92 (Exists.intro m92 (Exists.intro y92 (Exists.intro o92 (Exists.intro d92 (And.intro e5 (g5_0.below hb))))))))
           | 6, ⟨x92, n92, c92, m92, y92, o92, d92, e6, g6_0⟩ => exact Exists.intro x92 (Exists.intro n92 (Exists.intro c92 (Exists.intro m92 (Exists.intro y92 (Exists.intro o92 (Exists.intro d92 (And.intro e6 (g6_0.below hb))))))))
           | 7, ⟨x92, n92, c92, m92, y92, o92, d92, e7, g7_0⟩ => exact Exists.intro x92 (Exists.intro n92 (Exists.intro c92 (Exists.intro m92 (Exists.intro y92 (Exists.intro o92 (Exists.intro d92 (And.intro e7 (g7_0.below hb))))))))
           | 8, h => exact h
           | 9, ⟨k9, x0, y0, z0, b0, u1, p1, z1, e9, g9_0, g9_1⟩ => exact Exists.intro k9 (Exists.intro x0 (Exists.intro y0 (Exists.intro z0 (Exists.intro b0 (Exists.intro u1 (Exists.intro p1 (Exists.intro z1 (And.intro e9 (And.intro (g9_0.below hb) g9_1)))))))))
           | 10, ⟨k9, x92, n92, c92, m92, y92, o92, d92, e10, g10_0, g10_1⟩ => exact Exists.intro k9 (Exists.intro x92 (Exists.intro n92 (Exists.intro c92 (Exists.intro m92 (Exists.intro y92 (Exists.intro o92 (Exists.intro d92 (And.intro e10 (And.intro (g10_0.below hb) (g10_1.below hb))))))))))
           | 11, h => exact h
           | _ + 12, h => exact h
         · intro ac yw hsz hdf hold hB hp
           obtain ⟨kb9, x92, n92, c92, m92, y92, o92, d92, e10, sA, hrA⟩ := hp 10 (by decide)
           have t19 : ac.tmps[19]? = some (.pointer (some ⟨kb9, 0, none⟩)) := (List.cons.inj e10).1
           have hk9 : kb8 < kb9 := by
            obtain ⟨k9', _, _, _, _, _, _, _, e9, _, h9⟩ := hp 9 (by decide)
            have := (List.cons.inj e9).1.symm.trans t19
            cases this
            exact h9
           have t20 : ac.tmps[20]? = some (.int .i64 0) := (List.cons.inj (hp 11 (by decide))).1
           have t7 : ac.tmps[7]? = some (.pointer (some ⟨w1.heap.size, 0, none⟩)) := hold 7 (by kernel_rfl)
           have t9 : ac.tmps[9]? = some (.int .i64 (i : Int)) := hold 9 (by kernel_rfl)
           have t10 : ac.tmps[10]? = some (.int .i64 (k : Int)) := hold 10 (by kernel_rfl)
           have t11 : ac.tmps[11]? = some (.pointer (some ⟨kb5, 0, none⟩)) := hold 11 (by kernel_rfl)
           have t12 : ac.tmps[12]? = some (.int .i64 0) := hold 12 (by kernel_rfl)
           have t13 : ac.tmps[13]? = some (.pointer (some ⟨kb6, 0, none⟩)) := hold 13 (by kernel_rfl)
           have t14 : ac.tmps[14]? = some (.int .i64 0) := hold 14 (by kernel_rfl)
           have t15 : ac.tmps[15]? = some (.pointer (some ⟨kb7, 0, none⟩)) := hold 15 (by kernel_rfl)
           have t16 : ac.tmps[16]? = some (.int .i64 0) := hold 16 (by kernel_rfl)
           have t17 : ac.tmps[17]? = some (.pointer (some ⟨kb8, 0, none⟩)) := hold 17 (by kernel_rfl)
           have t18 : ac.tmps[18]? = some (.int .i64 0) := hold 18 (by kernel_rfl)
           clear hold hp e10
           obtain ⟨TV9, hTV9⟩ : ∃ TV9 : Nat -> Value, ∀ i, (ac.tmps[i]?).getD undef = TV9 i := ⟨_, fun _ => rfl⟩
           have f7 := (hTV9 7).symm.trans (congrArg (fun x => Option.getD x undef) t7)
           have f9 := (hTV9 9).symm.trans (congrArg (fun x => Option.getD x undef) t9)
           have f10 := (hTV9 10).symm.trans (congrArg (fun x => Option.getD x undef) t10)
           have f11 := (hTV9 11).symm.trans (congrArg (fun x => Option.getD x undef) t11)
           have f12 := (hTV9 12).symm.trans (congrArg (fun x => Option.getD x undef) t12)
           have f13 := (hTV9 13).symm.trans (congrArg (fun x => Option.getD x undef) t13)
           have f14 := (hTV9 14).symm.trans (congrArg (fun x => Option.getD x undef) t14)
           have f15 := (hTV9 15).symm.trans (congrArg (fun x => Option.getD x undef) t15)
           have f16 := (hTV9 16).symm.trans (congrArg (fun x => Option.getD x undef) t16)
           have f17 := (hTV9 17).symm.trans (congrArg (fun x => Option.getD x undef) t17)
           have f18 := (hTV9 18).symm.trans (congrArg (fun x => Option.getD x undef) t18)
           have f19 := (hTV9 19).symm.trans (congrArg (fun x => Option.getD x undef) t19)
           have f20 := (hTV9 20).symm.trans (congrArg (fun x => Option.getD x undef) t20)
           have hac := act_eq (n := 155) hsz TV9 hTV9
           rw [show ((List.range 155).map TV9).toArray = #[TV9 0, TV9 1, TV9 2, TV9 3, TV9 4, TV9 5, TV9 6, TV9 7, TV9 8, TV9 9, TV9 10, TV9 11, TV9 12, TV9 13, TV9 14, TV9 15, TV9 16, TV9 17, TV9 18, TV9 19, TV9 20, TV9 21, TV9 22, TV9 23, TV9 24, TV9 25, TV9 26, TV9 27, TV9 28, TV9 29, TV9 30, TV9 31, TV9 32, TV9 33, TV9 34, TV9 35, TV9 36, TV9 37, TV9 38, TV9 39, TV9 40, TV9 41, TV9 42, TV9 43, TV9 44, TV9 45, TV9 46, TV9 47, TV9 48, TV9 49, TV9 50, TV9 51, TV9 52, TV9 53, TV9 54, TV9 55, TV9 56, TV9 57, TV9 58, TV9 59, TV9 60, TV9 61, TV9 62, TV9 63, TV9 64, TV9 65, TV9 66, TV9 67, TV9 68, TV9 69, TV9 70, TV9 71, TV9 72, TV9 73, TV9 74, TV9 75, TV9 76, TV9 77, TV9 78, TV9 79, TV9 80, TV9 81, TV9 82, TV9 83, TV9 84, TV9 85, TV9 86, TV9 87, TV9 88, TV9 89, TV9 90, TV9 91, TV9 92, TV9 93, TV9 94, TV9 95, TV9 96, TV9 97, TV9 98, TV9 99, TV9 100, TV9 101, TV9 102, TV9 103, TV9 104, TV9 105, TV9 106, TV9 107, TV9 108, TV9 109, TV9 110, TV9 111, TV9 112, TV9 113, TV9 114, TV9 115, TV9 116, TV9 117, TV9 118, TV9 119, TV9 120, TV9 121, TV9 122, TV9 123, TV9 124, TV9 125, TV9 126, TV9 127, TV9 128, TV9 129, TV9 130, TV9 131, TV9 132, TV9 133, TV9 134, TV9 135, TV9 136, TV9 137, TV9 138, TV9 139, TV9 140, TV9 141, TV9 142, TV9 143, TV9 144, TV9 145, TV9 146, TV9 147, TV9 148, TV9 149, TV9 150, TV9 151, TV9 152, TV9 153, TV9 154] from rfl, f7, f9, f10, f11, f12, f13, f14, f15, f16, f17, f18, f19, f20, hdf] at hac
           simp only [Option.getD_some] at hac
           subst hac
           clear hTV9 f7 f9 f10 f11 f12 f13 f14 f15 f16 f17 f18 f19 f20
           have BB := Lib.hid ((hB.rat hrA).slot3 sA)
           clear hB sA hrA HP hsz t7 t9 t10 t11 t12 t13 t14 t15 t16 t17 t18 t19 t20
           go_wp2_with fail
           have BB := Lib.hid BB.out.drew
           go_region_held3 (fun y => (y.cell? ⟨kb5, 0, none⟩ = some (.slice x52 n52 c52) /\ y.cell? ⟨kb5, 1, none⟩ = some (.bool m52) /\ y.cell? ⟨kb5, 2, none⟩ = some (.slice y52 o52 d52)) /\ (y.cell? ⟨kb6, 0, none⟩ = some (.slice x62 n62 c62) /\ y.cell? ⟨kb6, 1, none⟩ = some (.bool m62) /\ y.cell? ⟨kb6, 2, none⟩ = some (.slice y62 o62 d62)) /\ (y.cell? ⟨kb7, 0, none⟩ = some (.slice x72 n72 c72) /\ y.cell? ⟨kb7, 1, none⟩ = some (.bool m72) /\ y.cell? ⟨kb7, 2, none⟩ = some (.slice y72 o72 d72)) /\ (y.cell? ⟨kb8, 0, none⟩ = some (.slice x82 n82 c82) /\ y.cell? ⟨kb8, 1, none⟩ = some (.bool m82) /\ y.cell? ⟨kb8, 2, none⟩ = some (.slice y82 o82 d82)) /\ (y.cell? ⟨kb9, 0, none⟩ = some (.slice x92 n92 c92) /\ y.cell? ⟨kb9, 1, none⟩ = some (.bool m92) /\ y.cell? ⟨kb9, 2, none⟩ = some (.slice y92 o92 d92)))
            (first
              | (exact ⟨⟨BB.out.now.2.2.2.2.2.2.2.2.1.cell, BB.out.now.2.2.2.2.2.2.2.2.1.cell1, BB.out.now.2.2.2.2.2.2.2.2.1.cell2⟩, ⟨BB.out.now.2.2.2.2.2.2.1.cell, BB.out.now.2.2.2.2.2.2.1.cell1, BB.out.now.2.2.2.2.2.2.1.cell2⟩, ⟨BB.out.now.2.2.2.2.1.cell, BB.out.now.2.2.2.2.1.cell1, BB.out.now.2.2.2.2.1.cell2⟩, ⟨BB.out.now.2.2.1.cell, BB.out.now.2.2.1.cell1, BB.out.now.2.2.1.cell2⟩, ⟨BB.out.now.1.cell, BB.out.now.1.cell1, BB.out.now.1.cell2⟩⟩)
              | (exact (fun B9 : Bag w _ _ => ⟨⟨B9.now.2.2.2.2.2.2.2.2.1.cell, B9.now.2.2.2.2.2.2.2.2.1.cell1, B9.now.2.2.2.2.2.2.2.2.1.cell2⟩, ⟨B9.now.2.2.2.2.2.2.1.cell, B9.now.2.2.2.2.2.2.1.cell1, B9.now.2.2.2.2.2.2.1.cell2⟩, ⟨B9.now.2.2.2.2.1.cell, B9.now.2.2.2.2.1.cell1, B9.now.2.2.2.2.1.cell2⟩, ⟨B9.now.2.2.1.cell, B9.now.2.2.1.cell1, B9.now.2.2.1.cell2⟩, ⟨B9.now.1.cell, B9.now.1.cell1, B9.now.1.cell2⟩⟩) (BB.out.alloc _)))
            (first
              | (go_at_call 27; (with_reducible refine (TMu.out _ _ _ _ _ _ _ _ _ ?_ ?_).mono ?_); exact (BB.out.alloc _).now.2.2.2.2.2.2.2.2.2.1; exact RatsAt.old1 (Below.refl _ _).drew (by first | rfl | simp) (BB.out.alloc _).now.2.2.2.2.2.2.2.1; rintro e wa ⟨xa, na, ca, ma, ya, oa, da, rfl, hra, hba⟩; have BB := Lib.hid ((BB.out.alloc _).go hba))
              | (go_at_call 24; (with_reducible refine (CMu.out _ _ _ _ _ _ _ _ _ _ _ _ _ _ _ hra BB.out.now.2.2.2.2.2.1).mono ?_); rintro e wb ⟨rfl, hbb⟩; have BB := Lib.hid (BB.out.go hbb))
              | (go_at_call 24; (with_reducible refine (CMz.out _ _ _ _ _ _ _ _ _ _ _ _ _ _ _ BB.out.now.2.2.2.1 BB.out.now.2.1).mono ?_); rintro e wc ⟨rfl, hbc⟩; have BB := Lib.hid (BB.out.go hbc)))
           clear TMu CMu CMz TWi TWk TWs TWz TWm FRi FRk FRs FRm
           have HP := Lib.hid (Bag.putR (N := kb9) BB.out (by omega) (fun y k9 x0 y0 z0 b0 u1 p1 z1 s hk q a9 n9 c9 m9 a10 n10 c10 => ⟨q.1.set3o (by omega) _ _ _, q.2.1.set3 s _ _ _, q.2.2.1.set3o (by omega) _ _ _, q.2.2.2.1.set3 s _ _ _, q.2.2.2.2.1.set3o (by omega) _ _ _, q.2.2.2.2.2.1.set3 s _ _ _, q.2.2.2.2.2.2.1.set3o (by omega) _ _ _, q.2.2.2.2.2.2.2.1.set3 s _ _ _, q.2.2.2.2.2.2.2.2.1.set3o (by omega) _ _ _, q.2.2.2.2.2.2.2.2.2.1.set3 s _ _ _, q.2.2.2.2.2.2.2.2.2.2.1.set3o (by omega) _ _ _, q.2.2.2.2.2.2.2.2.2.2.2.1.set3 s _ _ _, q.2.2.2.2.2.2.2.2.2.2.2.2.1.set3o (by omega) _ _ _, trivial⟩))
           go_wp2_with fail
           refine wp_region_inv2 ⟨(fun j => ([[122], [123], [124], [125], [126], [121], [127], [128], [21], [21], [22]] : List (List Nat)).getD j []), (fun j => ([[], [], [1], [1, 2], [0, 1, 2, 3], [0, 1, 2, 3, 4], [0, 1, 2, 3, 4, 5], [0, 1, 2, 3, 4, 5], [], [0, 1, 2, 3, 4, 5, 6, 8], [0, 1, 2, 3, 4, 5, 6, 7, 8, 9]] : List (List Nat)).getD j []), [8]⟩ (fun jj vv yy => match jj with | 0 => vv = [some (.agg #[.slice x1 xn1 xc1, .bool xm1, .slice y1 yn1 yc1])] | 1 => vv = [some (.int .i64 (i : Int))] | 2 => vv = [some (.int .i64 (-(i : Int)))] | 3 => ∃ (x121 : Option Addr), ∃ (n121 : Nat), ∃ (c121 : Nat), ∃ (m121 : Bool), ∃ (y121 : Option Addr), ∃ (o121 : Nat), ∃ (d121 : Nat), vv = [some (.agg #[.slice x121 n121 c121, .bool m121, .slice y121 o121 d121])] /\ RatAt yy x121 n121 c121 m121 y121 o121 d121 (-(i : Int)) 1 | 4 => ∃ (x122 : Option Addr), ∃ (n122 : Nat), ∃ (c122 : Nat), ∃ (m122 : Bool), ∃ (y122 : Option Addr), ∃ (o122 : Nat), ∃ (d122 : Nat), vv = [some (.tuple #[.agg #[.slice x122 n122 c122, .bool m122, .slice y122 o122 d122], .int .i64 E6])] /\ RatAt yy x122 n122 c122 m122 y122 o122 d122 U6 V6 | 5 => ∃ (x122 : Option Addr), ∃ (n122 : Nat), ∃ (c122 : Nat), ∃ (m122 : Bool), ∃ (y122 : Option Addr), ∃ (o122 : Nat), ∃ (d122 : Nat), vv = [some (.tuple #[.agg #[.slice x122 n122 c122, .bool m122, .slice y122 o122 d122], .int .i64 E6])] /\ RatAt yy x122 n122 c122 m122 y122 o122 d122 U6 V6 | 6 => ∃ (x122 : Option Addr), ∃ (n122 : Nat), ∃ (c122 : Nat), ∃ (m122 : Bool), ∃ (y122 : Option Addr), ∃ (o122 : Nat), ∃ (d122 : Nat), vv = [some (.agg #[.slice x122 n122 c122, .bool m122, .slice y122 o122 d122])] /\ RatAt yy x122 n122 c122 m122 y122 o122 d122 U6 V6 | 7 => vv = [some (.int .i64 E6)] | 8 => ∃ (k8 : Nat), ∃ (x0 : Option Addr), ∃ (y0 : Nat), ∃ (z0 : Nat), ∃ (b0 : Bool), ∃ (u1 : Option Addr), ∃ (p1 : Nat), ∃ (z1 : Nat), vv = [some (.pointer (some ⟨k8, 0, none⟩))] /\ Slot3 yy k8 (.slice x0 y0 z0) (.bool b0) (.slice u1 p1 z1) /\ kb9 < k8 | 9 => ∃ (k8 : Nat), ∃ (x122 : Option Addr), ∃ (n122 : Nat), ∃ (c122 : Nat), ∃ (m122 : Bool), ∃ (y122 : Option Addr), ∃ (o122 : Nat), ∃ (d122 : Nat), vv = [some (.pointer (some ⟨k8, 0, none⟩))] /\ Slot3 yy k8 (.slice x122 n122 c122) (.bool m122) (.slice y122 o122 d122) /\ RatAt yy x122 n122 c122 m122 y122 o122 d122 U6 V6 | 10 => vv = [some (.int .i64 E6)] | _ => True) (Bag w _) (by kernel_rfl) (by kernel_rfl) (by kernel_rfl) BB.out.drew ?_ ?_ ?_
           · intro jj vv yw yw2 hb h
             match jj, h with
             | 0, h => exact h
             | 1, h => exact h
             | 2, h => exact h
             | 3, ⟨x121, n121, c121, m121, y121, o121, d121, e3, g3_0⟩ => exact Exists.intro x121 (Exists.intro n121 (Exists.intro c121 (Exists.intro m121 (Exists.intro y121 (Exists.intro o121 (Exists.intro d121 (And.intro e3 (g3_0.below hb))))))))
             | 4, ⟨x122, n122, c122, m122, y122, o122, d122, e4, g4_0⟩ => exact Exists.intro x122 (Exists.intro n122 (Exists.intro c122 (Exists.intro m122 (Exists.intro y122 (Exists.intro o122 (Exists.intro d122 (And.intro e4 (g4_0.below hb))))))))
             | 5, ⟨x122, n122, c122, m122, y122, o122, d122, e5, g5_0⟩ => exact Exists.intro x122 (Exists.intro n122 (Exists.intro c122 (Exists.intro m122 (Exists.intro y122 (Exists.intro o122 (Exists.intro d122 (And.intro e5 (g5_0.below hb))))))))
             | 6, ⟨x122, n122, c122, m122, y122, o122, d122, e6, g6_0⟩ => exact Exists.intro x122 (Exists.intro n122 (Exists.intro c122 (Exists.intro m122 (Exists.intro y122 (Exists.intro o122 (Exists.intro d122 (And.intro e6 (g6_0.below hb))))))))
             | 7, h => exact h
             | 8, ⟨k8, x0, y0, z0, b0, u1, p1, z1, e8, g8_0, g8_1⟩ => exact Exists.intro k8 (Exists.intro x0 (Exists.intro y0 (Exists.intro z0 (Exists.intro b0 (Exists.intro u1 (Exists.intro p1 (Exists.intro z1 (And.intro e8 (And.intro (g8_0.below hb) g8_1)))))))))
             | 9, ⟨k8, x122, n122, c122, m122, y122, o122, d122, e9, g9_0, g9_1⟩ => exact Exists.intro k8 (Exists.intro x122 (Exists.intro n122 (Exists.intro c122 (Exists.intro m122 (Exists.intro y122 (Exists.intro o122 (Exists.intro d122 (And.intro e9 (And.intro (g9_0.below hb) (g9_1.below hb))))))))))
             | 10, h => exact h
             | _ + 11, h => exact h
           · intro ac yw hsz hdf hold hB hp
             obtain ⟨kb12, x122, n122, c122, m122, y122, o122, d122, e9, sA, hrA⟩ := hp 9 (by decide)
             have t21 : ac.tmps[21]? = some (.pointer (some ⟨kb12, 0, none⟩)) := (List.cons.inj e9).1
             have hk12 : kb9 < kb12 := by
              obtain ⟨k9', _, _, _, _, _, _, _, e9, _, h9⟩ := hp 8 (by decide)
              have := (List.cons.inj e9).1.symm.trans t21
              cases this
              exact h9
             have t22 : ac.tmps[22]? = some (.int .i64 E6) := (List.cons.inj (hp 10 (by decide))).1
             have t7 : ac.tmps[7]? = some (.pointer (some ⟨w1.heap.size, 0, none⟩)) := hold 7 (by kernel_rfl)
             have t9 : ac.tmps[9]? = some (.int .i64 (i : Int)) := hold 9 (by kernel_rfl)
             have t10 : ac.tmps[10]? = some (.int .i64 (k : Int)) := hold 10 (by kernel_rfl)
             have t11 : ac.tmps[11]? = some (.pointer (some ⟨kb5, 0, none⟩)) := hold 11 (by kernel_rfl)
             clear hold hp e9
             obtain ⟨TV12, hTV12⟩ : ∃ TV12 : Nat -> Value, ∀ i, (ac.tmps[i]?).getD undef = TV12 i := ⟨_, fun _ => rfl⟩
             have f7 := (hTV12 7).symm.trans (congrArg (fun x => Option.getD x undef) t7)
             have f9 := (hTV12 9).symm.trans (congrArg (fun x => Option.getD x undef) t9)
             have f10 := (hTV12 10).symm.trans (congrArg (fun x => Option.getD x undef) t10)
             have f11 := (hTV12 11).symm.trans (congrArg (fun x => Option.getD x undef) t11)
             have f21 := (hTV12 21).symm.trans (congrArg (fun x => Option.getD x undef) t21)
             have f22 := (hTV12 22).symm.trans (congrArg (fun x => Option.getD x undef) t22)
             have hac := act_eq (n := 155) hsz TV12 hTV12
             rw [show ((List.range 155).map TV12).toArray = #[TV12 0, TV12 1, TV12 2, TV12 3, TV12 4, TV12 5, TV12 6, TV12 7, TV12 8, TV12 9, TV12 10, TV12 11, TV12 12, TV12 13, TV12 14, TV12 15, TV12 16, TV12 17, TV12 18, TV12 19, TV12 20, TV12 21, TV12 22, TV12 23, TV12 24, TV12 25, TV12 26, TV12 27, TV12 28, TV12 29, TV12 30, TV12 31, TV12 32, TV12 33, TV12 34, TV12 35, TV12 36, TV12 37, TV12 38, TV12 39, TV12 40, TV12 41, TV12 42, TV12 43, TV12 44, TV12 45, TV12 46, TV12 47, TV12 48, TV12 49, TV12 50, TV12 51, TV12 52, TV12 53, TV12 54, TV12 55, TV12 56, TV12 57, TV12 58, TV12 59, TV12 60, TV12 61, TV12 62, TV12 63, TV12 64, TV12 65, TV12 66, TV12 67, TV12 68, TV12 69, TV12 70, TV12 71, TV12 72, TV12 73, TV12 74, TV12 75, TV12 76, TV12 77, TV12 78, TV12 79, TV12 80, TV12 81, TV12 82, TV12 83, TV12 84, TV12 85, TV12 86, TV12 87, TV12 88, TV12 89, TV12 90, TV12 91, TV12 92, TV12 93, TV12 94, TV12 95, TV12 96, TV12 97, TV12 98, TV12 99, TV12 100, TV12 101, TV12 102, TV12 103, TV12 104, TV12 105, TV12 106, TV12 107, TV12 108, TV12 109, TV12 110, TV12 111, TV12 112, TV12 113, TV12 114, TV12 115, TV12 116, TV12 117, TV12 118, TV12 119, TV12 120, TV12 121, TV12 122, TV12 123, TV12 124, TV12 125, TV12 126, TV12 127, TV12 128, TV12 129, TV12 130, TV12 131, TV12 132, TV12 133, TV12 134, TV12 135, TV12 136, TV12 137, TV12 138, TV12 139, TV12 140, TV12 141, TV12 142, TV12 143, TV12 144, TV12 145, TV12 146, TV12 147, TV12 148, TV12 149, TV12 150, TV12 151, TV12 152, TV12 153, TV12 154] from rfl, f7, f9, f10, f11, f21, f22, hdf] at hac
             simp only [Option.getD_some] at hac
             subst hac
             clear hTV12 f7 f9 f10 f11 f21 f22
             have BB := Lib.hid ((hB.rat hrA).slot3 sA)
             clear hB sA hrA HP hsz t7 t9 t10 t11 t21 t22
             obtain ⟨v1, v6, B1, B2⟩ := HB.out
             have hm := HMZ.out
             clear HMZ HB
             rcases hm with ⟨hz, h0, rfl⟩ | ⟨hnz, rfl, B3, B4, hc6⟩
             · subst hz
               have di : decide ((0 : Int) < (i : Int)) = true := decide_eq_true (by omega)
               have SG : Hid (∀ a n c m a2 n2 c2 wz, RatAt wz a n c m a2 n2 c2 0 Q -> Calls Tryz.prog 28 #[.agg #[.slice a n c, .bool m, .slice a2 n2 c2]] wz fun e w' => e = .returned (.int .i64 0) /\ Below wz.heap.size wz w') := SG
               clear di v1 v6 B1 B2
               have q00 := BB.out.now.2.2.2.2.2.2.2.2.2.2.2.2.1.cell
               have q01 := BB.out.now.2.2.2.2.2.2.2.2.2.2.2.2.1.cell1
               have q02 := BB.out.now.2.2.2.2.2.2.2.2.2.2.2.2.1.cell2
               go_wp2_with fail
               go_at_call 28
               (with_reducible refine (SG.out _ _ _ _ _ _ _ _ BB.out.now.2.2.2.2.2.2.2.2.2.2.2.2.2.1).mono ?_)
               rintro e w30 ⟨rfl, hb30⟩
               have BB := Lib.hid (BB.out.go hb30)
               clear hb30
               clear q00 q01 q02
               have q00 := BB.out.now.2.2.2.2.2.2.2.2.2.2.2.2.1.cell
               have q01 := BB.out.now.2.2.2.2.2.2.2.2.2.2.2.2.1.cell1
               have q02 := BB.out.now.2.2.2.2.2.2.2.2.2.2.2.2.1.cell2
               go_wp2_with fail
               go_at_call 16
               (with_reducible refine (AW.out _).mono ?_)
               rintro e w31 ⟨rfl, hb31⟩
               have BB := Lib.hid (BB.out.go hb31)
               clear hb31
               clear q00 q01 q02
               have q00 := BB.out.now.2.2.2.2.2.2.2.2.2.2.2.2.1.cell
               have q01 := BB.out.now.2.2.2.2.2.2.2.2.2.2.2.2.1.cell1
               have q02 := BB.out.now.2.2.2.2.2.2.2.2.2.2.2.2.1.cell2
               go_wp2
               go_ret
               exact ⟨rfl, BB.out.below⟩
             · have TMm := Lib.hid (fun a n c m a2 n2 c2 sa wz (h : RatAt wz a n c m a2 n2 c2 U6 V6) (g : RatsAt wz sa 1 1 (fun _ => U1) (fun _ => V1)) => ratTimes1_any a n c m a2 n2 c2 U6 V6 sa U1 V1 wz h g v6 v1 64 (by decide) B3 B4 B1 B2)
               have CMm : Hid (∀ a n c m a2 n2 c2 b k l v b2 k2 l2 wz, RatAt wz a n c m a2 n2 c2 (tmP U6 V6 U1 V1) (tmQ U6 V6 U1 V1) -> RatAt wz b k l v b2 k2 l2 1 1 -> Calls Tryz.prog 24 #[.agg #[.slice a n c, .bool m, .slice a2 n2 c2], .agg #[.slice b k l, .bool v, .slice b2 k2 l2]] wz fun e w' => e = .returned (.int .i64 0) /\ Below wz.heap.size wz w') := Lib.hid (fun a n c m a2 n2 c2 b k l v b2 k2 l2 wz h g => by
                have := ratCmp_any a n c m a2 n2 c2 _ _ b k l v b2 k2 l2 1 1 wz h g (tmQ_pos _ _ v6 v1) Nat.one_pos (64 + 64) (by decide) (Nat.lt_of_le_of_lt (loP_absle _ _) (mulI_lt32 B3 B1)) (Nat.lt_of_le_of_lt (loQ_le _ _) (mul_lt32 B4 B2)) (Nat.one_lt_pow (by decide) (by decide)) (Nat.one_lt_pow (by decide) (by decide))
                rw [hc6] at this
                exact this)
               generalize tmP U6 V6 U1 V1 = Z1 at *
               generalize tmQ U6 V6 U1 V1 = Z2 at *
               clear hc6 v1 v6 B1 B2 B3 B4
               by_cases hP : P = 0
               · subst hP
                 obtain rfl : i = 0 := by omega
                 have SG : Hid (∀ a n c m a2 n2 c2 wz, RatAt wz a n c m a2 n2 c2 0 Q -> Calls Tryz.prog 28 #[.agg #[.slice a n c, .bool m, .slice a2 n2 c2]] wz fun e w' => e = .returned (.int .i64 0) /\ Below wz.heap.size wz w') := SG
                 clear hnz
                 have q00 := BB.out.now.2.2.2.2.2.2.2.2.2.2.2.2.1.cell
                 have q01 := BB.out.now.2.2.2.2.2.2.2.2.2.2.2.2.1.cell1
                 have q02 := BB.out.now.2.2.2.2.2.2.2.2.2.2.2.2.1.cell2
                 go_wp2_with fail
                 go_at_call 28
                 (with_reducible refine (SG.out _ _ _ _ _ _ _ _ BB.out.now.2.2.2.2.2.2.2.2.2.2.2.2.2.1).mono ?_)
                 rintro e w30 ⟨rfl, hb30⟩
                 have BB := Lib.hid (BB.out.go hb30)
                 clear hb30
                 clear q00 q01 q02
                 have q00 := BB.out.now.1.cell
                 have q01 := BB.out.now.1.cell1
                 have q02 := BB.out.now.1.cell2
                 have q10 := BB.out.now.2.2.2.2.2.2.2.2.2.2.1.cell
                 have q11 := BB.out.now.2.2.2.2.2.2.2.2.2.2.1.cell1
                 have q12 := BB.out.now.2.2.2.2.2.2.2.2.2.2.1.cell2
                 go_wp2_with fail
                 go_at_call 27
                 (with_reducible refine (TMm.out _ _ _ _ _ _ _ _ _ ?_ ?_).mono ?_)
                 · exact (BB.out.alloc _).now.2.1
                 · exact RatsAt.old1 (Below.refl _ _) (by first | rfl | simp) (BB.out.alloc _).now.2.2.2.2.2.2.2.2.2.2.2.1
                 rintro e w31 ⟨x31, xn31, xc31, xm31, y31, yn31, yc31, rfl, hr31, hb31⟩
                 have BB := Lib.hid (((BB.out.alloc _).go hb31).rat hr31)
                 clear hb31 hr31
                 clear q00 q01 q02 q10 q11 q12
                 go_wp2_with fail
                 go_at_call 26
                 (with_reducible refine (FR1.out _).mono ?_)
                 rintro e w32 ⟨x32, xn32, xc32, xm32, y32, yn32, yc32, rfl, hr32, hb32⟩
                 have BB := Lib.hid ((BB.out.go hb32).rat hr32)
                 clear hb32
                 clear hr32
                 go_wp2_with fail
                 go_at_call 24
                 (with_reducible refine (CMm.out _ _ _ _ _ _ _ _ _ _ _ _ _ _ _ BB.out.now.2.1 BB.out.now.1).mono ?_)
                 rintro e w33 ⟨rfl, hb33⟩
                 have BB := Lib.hid (BB.out.go hb33)
                 clear hb33
                 go_wp2_with fail
                 go_at_call 16
                 (with_reducible refine (AW.out _).mono ?_)
                 rintro e w34 ⟨rfl, hb34⟩
                 have BB := Lib.hid (BB.out.go hb34)
                 clear hb34
                 go_wp2
                 go_ret
                 exact ⟨rfl, BB.out.below⟩
               · have dz : (sgnI P == 0) = false := beq_eq_false_iff_ne.2 (fun e => hP (sgn_zr.1 e))
                 generalize sgnI P = sg at *
                 clear hnz hP
                 have q00 := BB.out.now.2.2.2.2.2.2.2.2.2.2.2.2.1.cell
                 have q01 := BB.out.now.2.2.2.2.2.2.2.2.2.2.2.2.1.cell1
                 have q02 := BB.out.now.2.2.2.2.2.2.2.2.2.2.2.2.1.cell2
                 go_wp2_with fail
                 go_at_call 28
                 (with_reducible refine (SG.out _ _ _ _ _ _ _ _ BB.out.now.2.2.2.2.2.2.2.2.2.2.2.2.2.1).mono ?_)
                 rintro e w30 ⟨rfl, hb30⟩
                 have BB := Lib.hid (BB.out.go hb30)
                 clear hb30
                 clear q00 q01 q02
                 have q00 := BB.out.now.1.cell
                 have q01 := BB.out.now.1.cell1
                 have q02 := BB.out.now.1.cell2
                 have q10 := BB.out.now.2.2.2.2.2.2.2.2.2.2.1.cell
                 have q11 := BB.out.now.2.2.2.2.2.2.2.2.2.2.1.cell1
                 have q12 := BB.out.now.2.2.2.2.2.2.2.2.2.2.1.cell2
                 go_wp2_with fail
                 go_at_call 27
                 (with_reducible refine (TMm.out _ _ _ _ _ _ _ _ _ ?_ ?_).mono ?_)
                 · exact (BB.out.alloc _).now.2.1
                 · exact RatsAt.old1 (Below.refl _ _) (by first | rfl | simp) (BB.out.alloc _).now.2.2.2.2.2.2.2.2.2.2.2.1
                 rintro e w31 ⟨x31, xn31, xc31, xm31, y31, yn31, yc31, rfl, hr31, hb31⟩
                 have BB := Lib.hid (((BB.out.alloc _).go hb31).rat hr31)
                 clear hb31 hr31
                 clear q00 q01 q02 q10 q11 q12
                 go_wp2_with fail
                 go_at_call 26
                 (with_reducible refine (FR1.out _).mono ?_)
                 rintro e w32 ⟨x32, xn32, xc32, xm32, y32, yn32, yc32, rfl, hr32, hb32⟩
                 have BB := Lib.hid ((BB.out.go hb32).rat hr32)
                 clear hb32
                 clear hr32
                 go_wp2_with fail
                 go_at_call 24
                 (with_reducible refine (CMm.out _ _ _ _ _ _ _ _ _ _ _ _ _ _ _ BB.out.now.2.1 BB.out.now.1).mono ?_)
                 rintro e w33 ⟨rfl, hb33⟩
                 have BB := Lib.hid (BB.out.go hb33)
                 clear hb33
                 go_wp2_with fail
                 go_at_call 16
                 (with_reducible refine (AW.out _).mono ?_)
                 rintro e w34 ⟨rfl, hb34⟩
                 have BB := Lib.hid (BB.out.go hb34)
                 clear hb34
                 go_wp2
                 go_ret
                 exact ⟨rfl, BB.out.below⟩
           refine Stps2.cons (o := _) ?_ ?_
           · intro ac yw hsz hold hB hp K hK
             have t7 : ac.tmps[7]? = some (.pointer (some ⟨w1.heap.size, 0, none⟩)) := hold 7 (by kernel_rfl)
             clear hold hp hsz
             have v0 := hB.now.2.2.2.2.2.2.2.2.2.2.1.cell
             have v1 := hB.now.2.2.2.2.2.2.2.2.2.2.1.cell1
             have v2 := hB.now.2.2.2.2.2.2.2.2.2.2.1.cell2
             go_simp
             exact hK.out _ _ ⟨hB, rfl, Nat.le_refl _, .inl (Below.refl _ _), fun h => absurd h (by decide)⟩
           refine Stps2.cons (o := _) ?_ ?_
           · intro ac yw hsz hold hB hp K hK
             have t9 : ac.tmps[9]? = some (.int .i64 (i : Int)) := hold 9 (by kernel_rfl)
             clear hold hp hsz
             go_simp
             exact hK.out _ _ ⟨hB, rfl, Nat.le_refl _, .inl (Below.refl _ _), fun h => absurd h (by decide)⟩
           refine Stps2.cons (o := _) ?_ ?_
           · intro ac yw hsz hold hB hp K hK
             have e1 := hp 1 (by decide)
             have t123 : ac.tmps[123]? = some (.int .i64 (i : Int)) := (List.cons.inj e1).1
             clear hold hp hsz e1
             go_simp
             exact hK.out _ _ ⟨hB, rfl, Nat.le_refl _, .inl (Below.refl _ _), fun h => absurd h (by decide)⟩
           refine Stps2.cons (o := _) ?_ ?_
           · intro ac yw hsz hold hB hp K hK
             have e2 := hp 2 (by decide)
             have t124 : ac.tmps[124]? = some (.int .i64 (-(i : Int))) := (List.cons.inj e2).1
             clear hold hp hsz e2
             go_simp
             (go_at_call 26; (with_reducible refine (FRn.out _).mono ?_); rintro e wz ⟨x121, n121, c121, m121, y121, o121, d121, rfl, h3_0, hbz⟩)
             exact hK.out _ _ ⟨hB.go hbz, Exists.intro x121 (Exists.intro n121 (Exists.intro c121 (Exists.intro m121 (Exists.intro y121 (Exists.intro o121 (Exists.intro d121 (And.intro rfl h3_0))))))), hbz.size, .inl hbz, fun h => absurd h (by decide)⟩
           refine Stps2.cons (o := _) ?_ ?_
           · intro ac yw hsz hold hB hp K hK
             have e0 := hp 0 (by decide)
             have t122 : ac.tmps[122]? = some (.agg #[.slice x1 xn1 xc1, .bool xm1, .slice y1 yn1 yc1]) := (List.cons.inj e0).1
             obtain ⟨x121_3, n121_3, c121_3, m121_3, y121_3, o121_3, d121_3, e3, g3_0⟩ := hp 3 (by decide)
             have t125 : ac.tmps[125]? = some (.agg #[.slice x121_3 n121_3 c121_3, .bool m121_3, .slice y121_3 o121_3 d121_3]) := (List.cons.inj e3).1
             clear hold hp hsz e0 e3
             go_simp
             (go_at_call 17; (with_reducible refine (TWn.out _ _ _ _ _ _ _ _ _ _ _ _ _ _ _ hB.now.2.2.2.2.2.2.2.2.2.2.2.1 g3_0).mono ?_); rintro e wz ⟨x122, n122, c122, m122, y122, o122, d122, rfl, h4_0, hbz⟩)
             exact hK.out _ _ ⟨hB.go hbz, Exists.intro x122 (Exists.intro n122 (Exists.intro c122 (Exists.intro m122 (Exists.intro y122 (Exists.intro o122 (Exists.intro d122 (And.intro rfl h4_0))))))), hbz.size, .inl hbz, fun h => absurd h (by decide)⟩
           refine Stps2.cons (o := _) ?_ ?_
           · intro ac yw hsz hold hB hp K hK
             obtain ⟨x122_4, n122_4, c122_4, m122_4, y122_4, o122_4, d122_4, e4, g4_0⟩ := hp 4 (by decide)
             have t126 : ac.tmps[126]? = some (.tuple #[.agg #[.slice x122_4 n122_4 c122_4, .bool m122_4, .slice y122_4 o122_4 d122_4], .int .i64 E6]) := (List.cons.inj e4).1
             clear hold hp hsz e4
             go_simp
             exact hK.out _ _ ⟨hB, Exists.intro x122_4 (Exists.intro n122_4 (Exists.intro c122_4 (Exists.intro m122_4 (Exists.intro y122_4 (Exists.intro o122_4 (Exists.intro d122_4 (And.intro rfl g4_0))))))), Nat.le_refl _, .inl (Below.refl _ _), fun h => absurd h (by decide)⟩
           refine Stps2.cons (o := _) ?_ ?_
           · intro ac yw hsz hold hB hp K hK
             obtain ⟨x122_5, n122_5, c122_5, m122_5, y122_5, o122_5, d122_5, e5, g5_0⟩ := hp 5 (by decide)
             have t121 : ac.tmps[121]? = some (.tuple #[.agg #[.slice x122_5 n122_5 c122_5, .bool m122_5, .slice y122_5 o122_5 d122_5], .int .i64 E6]) := (List.cons.inj e5).1
             clear hold hp hsz e5
             go_simp
             exact hK.out _ _ ⟨hB, Exists.intro x122_5 (Exists.intro n122_5 (Exists.intro c122_5 (Exists.intro m122_5 (Exists.intro y122_5 (Exists.intro o122_5 (Exists.intro d122_5 (And.intro rfl g5_0))))))), Nat.le_refl _, .inl (Below.refl _ _), fun h => absurd h (by decide)⟩
           refine Stps2.cons (o := _) ?_ ?_
           · intro ac yw hsz hold hB hp K hK
             obtain ⟨x122_5, n122_5, c122_5, m122_5, y122_5, o122_5, d122_5, e5, g5_0⟩ := hp 5 (by decide)
             have t121 : ac.tmps[121]? = some (.tuple #[.agg #[.slice x122_5 n122_5 c122_5, .bool m122_5, .slice y122_5 o122_5 d122_5], .int .i64 E6]) := (List.cons.inj e5).1
             clear hold hp hsz e5
             go_simp
             exact hK.out _ _ ⟨hB, rfl, Nat.le_refl _, .inl (Below.refl _ _), fun h => absurd h (by decide)⟩
           refine Stps2.cons (o := _) ?_ ?_
           · intro ac yw hsz hold hB hp K hK
             clear hold hp hsz
             have hk0 := hB.now.1.lt
             have hsl := Slot3.new yw (.slice none 0 0) (.bool false) (.slice none 0 0) 53
             have hbz : Below yw.heap.size yw (yw.alloc (.cells #[.slice none 0 0, .bool false, .slice none 0 0] 53)) /\ yw.heap.size < (yw.alloc (.cells #[.slice none 0 0, .bool false, .slice none 0 0] 53)).heap.size := ⟨(Below.refl _ _).alloc (Nat.le_refl _) _, by simp⟩
             go_simp
             exact hK.out _ _ ⟨hB.alloc _, Exists.intro yw.heap.size (Exists.intro none (Exists.intro 0 (Exists.intro 0 (Exists.intro false (Exists.intro none (Exists.intro 0 (Exists.intro 0 (And.intro rfl (And.intro hsl hk0))))))))), Nat.le_of_lt hbz.2, .inl hbz.1, fun _ => ⟨_, rfl, Nat.le_refl _, hbz.2⟩⟩
           refine Stps2.cons (o := _) ?_ ?_
           · intro ac yw hsz hold hB hp K hK
             obtain ⟨k8_8, x0_8, y0_8, z0_8, b0_8, u1_8, p1_8, z1_8, e8, g8_0, g8_1⟩ := hp 8 (by decide)
             have t21 : ac.tmps[21]? = some (.pointer (some ⟨k8_8, 0, none⟩)) := (List.cons.inj e8).1
             obtain ⟨x122_6, n122_6, c122_6, m122_6, y122_6, o122_6, d122_6, e6, g6_0⟩ := hp 6 (by decide)
             have t127 : ac.tmps[127]? = some (.agg #[.slice x122_6 n122_6 c122_6, .bool m122_6, .slice y122_6 o122_6 d122_6]) := (List.cons.inj e6).1
             clear hold hp hsz e8 e6
             have hs := g8_0
             have l0 := hs.cell
             have l1 := hs.cell1
             have l2 := hs.cell2
             have f0 := hs.free
             have f1 := hs.free1
             have f2 := hs.free2
             have HB := HP.out _ _ hs g8_1 hB x122_6 n122_6 c122_6 m122_6 y122_6 o122_6 d122_6
             go_simp
             refine hK.out undef _ ⟨HB, Exists.intro k8_8 (Exists.intro x122_6 (Exists.intro n122_6 (Exists.intro c122_6 (Exists.intro m122_6 (Exists.intro y122_6 (Exists.intro o122_6 (Exists.intro d122_6 (And.intro (congrArg (fun x => [x]) t21) (And.intro (hs.set3 (.slice x122_6 n122_6 c122_6) (.bool m122_6) (.slice y122_6 o122_6 d122_6)) (RatAt.set3 g6_0 hs _ _ _)))))))))), by simp, .inr ?_, fun h => absurd h (by decide)⟩
             intro jj hj hap h
             match jj, h with
             | 0, h => exact h
             | 1, h => exact h
             | 2, h => exact h
             | 3, ⟨x121, n121, c121, m121, y121, o121, d121, e3, g3_0⟩ =>
              exact Exists.intro x121 (Exists.intro n121 (Exists.intro c121 (Exists.intro m121 (Exists.intro y121 (Exists.intro o121 (Exists.intro d121 (And.intro e3 (RatAt.set3 g3_0 hs _ _ _))))))))
             | 4, ⟨x122, n122, c122, m122, y122, o122, d122, e4, g4_0⟩ =>
              exact Exists.intro x122 (Exists.intro n122 (Exists.intro c122 (Exists.intro m122 (Exists.intro y122 (Exists.intro o122 (Exists.intro d122 (And.intro e4 (RatAt.set3 g4_0 hs _ _ _))))))))
             | 5, ⟨x122, n122, c122, m122, y122, o122, d122, e5, g5_0⟩ =>
              exact Exists.intro x122 (Exists.intro n122 (Exists.intro c122 (Exists.intro m122 (Exists.intro y122 (Exists.intro o122 (Exists.intro d122 (And.intro e5 (RatAt.set3 g5_0 hs _ _ _))))))))
             | 6, ⟨x122, n122, c122, m122, y122, o122, d122, e6, g6_0⟩ =>
              exact Exists.intro x122 (Exists.intro n122 (Exists.intro c122 (Exists.intro m122 (Exists.intro y122 (Exists.intro o122 (Exists.intro d122 (And.intro e6 (RatAt.set3 g6_0 hs _ _ _))))))))
             | 7, h => exact h
             | 8, ⟨k8, x0, y0, z0, b0, u1, p1, z1, e8, g8_0, g8_1⟩ =>
              have e9 : k8 = k8_8 := by have := (List.cons.inj e8).1.symm.trans t21; cases this; rfl
              subst e9
              exact Exists.intro _ (Exists.intro _ (Exists.intro _ (Exists.intro _ (Exists.intro _ (Exists.intro _ (Exists.intro _ (Exists.intro _ (And.intro e8 (And.intro (g8_0.set3 _ _ _) g8_1)))))))))
             | 9, _ => exact absurd rfl hj
             | 10, h => exact h
             | _ + 11, h => exact h
           refine Stps2.cons (o := _) ?_ ?_
           · intro ac yw hsz hold hB hp K hK
             have e7 := hp 7 (by decide)
             have t128 : ac.tmps[128]? = some (.int .i64 E6) := (List.cons.inj e7).1
             clear hold hp hsz e7
             go_simp
             exact hK.out _ _ ⟨hB, rfl, Nat.le_refl _, .inl (Below.refl _ _), fun h => absurd h (by decide)⟩
           exact Stps2.nil _
         refine Stps2.cons (o := _) ?_ ?_
         · intro ac yw hsz hold hB hp K hK
           have t7 : ac.tmps[7]? = some (.pointer (some ⟨w1.heap.size, 0, none⟩)) := hold 7 (by kernel_rfl)
           clear hold hp hsz
           have v0 := hB.now.2.2.2.2.2.2.2.2.1.cell
           have v1 := hB.now.2.2.2.2.2.2.2.2.1.cell1
           have v2 := hB.now.2.2.2.2.2.2.2.2.1.cell2
           go_simp
           exact hK.out _ _ ⟨hB, rfl, Nat.le_refl _, .inl (Below.refl _ _), fun h => absurd h (by decide)⟩
         refine Stps2.cons (o := _) ?_ ?_
         · intro ac yw hsz hold hB hp K hK
           have t9 : ac.tmps[9]? = some (.int .i64 (i : Int)) := hold 9 (by kernel_rfl)
           clear hold hp hsz
           go_simp
           exact hK.out _ _ ⟨hB, rfl, Nat.le_refl _, .inl (Below.refl _ _), fun h => absurd h (by decide)⟩
         refine Stps2.cons (o := _) ?_ ?_
         · intro ac yw hsz hold hB hp K hK
           have t10 : ac.tmps[10]? = some (.int .i64 (k : Int)) := hold 10 (by kernel_rfl)
           clear hold hp hsz
           go_simp
           exact hK.out _ _ ⟨hB, rfl, Nat.le_refl _, .inl (Below.refl _ _), fun h => absurd h (by decide)⟩
         refine Stps2.cons (o := _) ?_ ?_
         · intro ac yw hsz hold hB hp K hK
           have e1 := hp 1 (by decide)
           have t81 : ac.tmps[81]? = some (.int .i64 (i : Int)) := (List.cons.inj e1).1
           have e2 := hp 2 (by decide)
           have t82 : ac.tmps[82]? = some (.int .i64 (k : Int)) := (List.cons.inj e2).1
           clear hold hp hsz e1 e2
           go_simp
           exact hK.out _ _ ⟨hB, rfl, Nat.le_refl _, .inl (Below.refl _ _), fun h => absurd h (by decide)⟩
         refine Stps2.cons (o := _) ?_ ?_
         · intro ac yw hsz hold hB hp K hK
           have e3 := hp 3 (by decide)
           have t83 : ac.tmps[83]? = some (.int .i64 ((i : Int) * (k : Int))) := (List.cons.inj e3).1
           clear hold hp hsz e3
           go_simp
           (go_at_call 26; (with_reducible refine (FRm.out _).mono ?_); rintro e wz ⟨x91, n91, c91, m91, y91, o91, d91, rfl, h4_0, hbz⟩)
           exact hK.out _ _ ⟨hB.go hbz, Exists.intro x91 (Exists.intro n91 (Exists.intro c91 (Exists.intro m91 (Exists.intro y91 (Exists.intro o91 (Exists.intro d91 (And.intro rfl h4_0))))))), hbz.size, .inl hbz, fun h => absurd h (by decide)⟩
         refine Stps2.cons (o := _) ?_ ?_
         · intro ac yw hsz hold hB hp K hK
           have e0 := hp 0 (by decide)
           have t80 : ac.tmps[80]? = some (.agg #[.slice x1 xn1 xc1, .bool xm1, .slice y1 yn1 yc1]) := (List.cons.inj e0).1
           obtain ⟨x91_4, n91_4, c91_4, m91_4, y91_4, o91_4, d91_4, e4, g4_0⟩ := hp 4 (by decide)
           have t84 : ac.tmps[84]? = some (.agg #[.slice x91_4 n91_4 c91_4, .bool m91_4, .slice y91_4 o91_4 d91_4]) := (List.cons.inj e4).1
           clear hold hp hsz e0 e4
           go_simp
           (go_at_call 17; (with_reducible refine (TWm.out _ _ _ _ _ _ _ _ _ _ _ _ _ _ _ hB.now.2.2.2.2.2.2.2.2.2.1 g4_0).mono ?_); rintro e wz ⟨x92, n92, c92, m92, y92, o92, d92, rfl, h5_0, hbz⟩)
           exact hK.out _ _ ⟨hB.go hbz, Exists.intro x92 (Exists.intro n92 (Exists.intro c92 (Exists.intro m92 (Exists.intro y92 (Exists.intro o92 (Exists.intro d92 (And.intro rfl h5_0))))))), hbz.size, .inl hbz, fun h => absurd h (by decide)⟩
         refine Stps2.cons (o := _) ?_ ?_
         · intro ac yw hsz hold hB hp K hK
           obtain ⟨x92_5, n92_5, c92_5, m92_5, y92_5, o92_5, d92_5, e5, g5_0⟩ := hp 5 (by decide)
           have t85 : ac.tmps[85]? = some (.tuple #[.agg #[.slice x92_5 n92_5 c92_5, .bool m92_5, .slice y92_5 o92_5 d92_5], .int .i64 0]) := (List.cons.inj e5).1
           clear hold hp hsz e5
           go_simp
           exact hK.out _ _ ⟨hB, Exists.intro x92_5 (Exists.intro n92_5 (Exists.intro c92_5 (Exists.intro m92_5 (Exists.intro y92_5 (Exists.intro o92_5 (Exists.intro d92_5 (And.intro rfl g5_0))))))), Nat.le_refl _, .inl (Below.refl _ _), fun h => absurd h (by decide)⟩
         refine Stps2.cons (o := _) ?_ ?_
         · intro ac yw hsz hold hB hp K hK
           obtain ⟨x92_6, n92_6, c92_6, m92_6, y92_6, o92_6, d92_6, e6, g6_0⟩ := hp 6 (by decide)
           have t79 : ac.tmps[79]? = some (.tuple #[.agg #[.slice x92_6 n92_6 c92_6, .bool m92_6, .slice y92_6 o92_6 d92_6], .int .i64 0]) := (List.cons.inj e6).1
           clear hold hp hsz e6
           go_simp
           exact hK.out _ _ ⟨hB, Exists.intro x92_6 (Exists.intro n92_6 (Exists.intro c92_6 (Exists.intro m92_6 (Exists.intro y92_6 (Exists.intro o92_6 (Exists.intro d92_6 (And.intro rfl g6_0))))))), Nat.le_refl _, .inl (Below.refl _ _), fun h => absurd h (by decide)⟩
         refine Stps2.cons (o := _) ?_ ?_
         · intro ac yw hsz hold hB hp K hK
           obtain ⟨x92_6, n92_6, c92_6, m92_6, y92_6, o92_6, d92_6, e6, g6_0⟩ := hp 6 (by decide)
           have t79 : ac.tmps[79]? = some (.tuple #[.agg #[.slice x92_6 n92_6 c92_6, .bool m92_6, .slice y92_6 o92_6 d92_6], .int .i64 0]) := (List.cons.inj e6).1
           clear hold hp hsz e6
           go_simp
           exact hK.out _ _ ⟨hB, rfl, Nat.le_refl _, .inl (Below.refl _ _), fun h => absurd h (by decide)⟩
         refine Stps2.cons (o := _) ?_ ?_
         · intro ac yw hsz hold hB hp K hK
           clear hold hp hsz
           have hk0 := hB.now.1.lt
           have hsl := Slot3.new yw (.slice none 0 0) (.bool false) (.slice none 0 0) 53
           have hbz : Below yw.heap.size yw (yw.alloc (.cells #[.slice none 0 0, .bool false, .slice none 0 0] 53)) /\ yw.heap.size < (yw.alloc (.cells #[.slice none 0 0, .bool false, .slice none 0 0] 53)).heap.size := ⟨(Below.refl _ _).alloc (Nat.le_refl _) _, by simp⟩
           go_simp
           exact hK.out _ _ ⟨hB.alloc _, Exists.intro yw.heap.size (Exists.intro none (Exists.intro 0 (Exists.intro 0 (Exists.intro false (Exists.intro none (Exists.intro 0 (Exists.intro 0 (And.intro rfl (And.intro hsl hk0))))))))), Nat.le_of_lt hbz.2, .inl hbz.1, fun _ => ⟨_, rfl, Nat.le_refl _, hbz.2⟩⟩
         refine Stps2.cons (o := _) ?_ ?_
         · intro ac yw hsz hold hB hp K hK
           obtain ⟨k9_9, x0_9, y0_9, z0_9, b0_9, u1_9, p1_9, z1_9, e9, g9_0, g9_1⟩ := hp 9 (by decide)
           have t19 : ac.tmps[19]? = some (.pointer (some ⟨k9_9, 0, none⟩)) := (List.cons.inj e9).1
           obtain ⟨x92_7, n92_7, c92_7, m92_7, y92_7, o92_7, d92_7, e7, g7_0⟩ := hp 7 (by decide)
           have t86 : ac.tmps[86]? = some (.agg #[.slice x92_7 n92_7 c92_7, .bool m92_7, .slice y92_7 o92_7 d92_7]) := (List.cons.inj e7).1
           clear hold hp hsz e9 e7
           have hs := g9_0
           have l0 := hs.cell
           have l1 := hs.cell1
           have l2 := hs.cell2
           have f0 := hs.free
           have f1 := hs.free1
           have f2 := hs.free2
           have HB := HP.out _ _ hs g9_1 hB x92_7 n92_7 c92_7 m92_7 y92_7 o92_7 d92_7
           go_simp
           refine hK.out undef _ ⟨HB, Exists.intro k9_9 (Exists.intro x92_7 (Exists.intro n92_7 (Exists.intro c92_7 (Exists.intro m92_7 (Exists.intro y92_7 (Exists.intro o92_7 (Exists.intro d92_7 (And.intro (congrArg (fun x => [x]) t19) (And.intro (hs.set3 (.slice x92_7 n92_7 c92_7) (.bool m92_7) (.slice y92_7 o92_7 d92_7)) (RatAt.set3 g7_0 hs _ _ _)))))))))), by simp, .inr ?_, fun h => absurd h (by decide)⟩
           intro jj hj hap h
           match jj, h with
           | 0, h => exact h
           | 1, h => exact h
           | 2, h => exact h
           | 3, h => exact h
           | 4, ⟨x91, n91, c91, m91, y91, o91, d91, e4, g4_0⟩ =>
            exact Exists.intro x91 (Exists.intro n91 (Exists.intro c91 (Exists.intro m91 (Exists.intro y91 (Exists.intro o91 (Exists.intro d91 (And.intro e4 (RatAt.set3 g4_0 hs _ _ _))))))))
           | 5, ⟨x92, n92, c92, m92, y92, o92, d92, e5, g5_0⟩ =>
            exact Exists.intro x92 (Exists.intro n92 (Exists.intro c92 (Exists.intro m92 (Exists.intro y92 (Exists.intro o92 (Exists.intro d92 (And.intro e5 (RatAt.set3 g5_0 hs _ _ _))))))))
           | 6, ⟨x92, n92, c92, m92, y92, o92, d92, e6, g6_0⟩ =>
            exact Exists.intro x92 (Exists.intro n92 (Exists.intro c92 (Exists.intro m92 (Exists.intro y92 (Exists.intro o92 (Exists.intro d92 (And.intro e6 (RatAt.set3 g6_0 hs _ _ _))))))))
           | 7, ⟨x92, n92, c92, m92, y92, o92, d92, e7, g7_0⟩ =>
            exact Exists.intro x92 (Exists.intro n92 (Exists.intro c92 (Exists.intro m92 (Exists.intro y92 (Exists.intro o92 (Exists.intro d92 (And.intro e7 (RatAt.set3 g7_0 hs _ _ _))))))))
           | 8, h => exact h
           | 9, ⟨k9, x0, y0, z0, b0, u1, p1, z1, e9, g9_0, g9_1⟩ =>
            have e9 : k9 = k9_9 := by have := (List.cons.inj e9).1.symm.trans t19; cases this; rfl
            subst e9
            exact Exists.intro _ (Exists.intro _ (Exists.intro _ (Exists.intro _ (Exists.intro _ (Exists.intro _ (Exists.intro _ (Exists.intro _ (And.intro e9 (And.intro (g9_0.set3 _ _ _) g9_1)))))))))
           | 10, _ => exact absurd rfl hj
           | 11, h => exact h
           | _ + 12, h => exact h
         refine Stps2.cons (o := _) ?_ ?_
         · intro ac yw hsz hold hB hp K hK
           have e8 := hp 8 (by decide)
           have t87 : ac.tmps[87]? = some (.int .i64 0) := (List.cons.inj e8).1
           clear hold hp hsz e8
           go_simp
           exact hK.out _ _ ⟨hB, rfl, Nat.le_refl _, .inl (Below.refl _ _), fun h => absurd h (by decide)⟩
         exact Stps2.nil _
       refine Stps2.cons (o := _) ?_ ?_
       · intro ac yw hsz hold hB hp K hK
         have t11 : ac.tmps[11]? = some (.pointer (some ⟨kb5, 0, none⟩)) := hold 11 (by kernel_rfl)
         clear hold hp hsz
         have v0 := hB.now.2.2.2.2.1.cell
         have v1 := hB.now.2.2.2.2.1.cell1
         have v2 := hB.now.2.2.2.2.1.cell2
         go_simp
         exact hK.out _ _ ⟨hB, rfl, Nat.le_refl _, .inl (Below.refl _ _), fun h => absurd h (by decide)⟩
       refine Stps2.cons (o := _) ?_ ?_
       · intro ac yw hsz hold hB hp K hK
         have t10 : ac.tmps[10]? = some (.int .i64 (k : Int)) := hold 10 (by kernel_rfl)
         clear hold hp hsz
         go_simp
         exact hK.out _ _ ⟨hB, rfl, Nat.le_refl _, .inl (Below.refl _ _), fun h => absurd h (by decide)⟩
       refine Stps2.cons (o := _) ?_ ?_
       · intro ac yw hsz hold hB hp K hK
         have e1 := hp 1 (by decide)
         have t74 : ac.tmps[74]? = some (.int .i64 (k : Int)) := (List.cons.inj e1).1
         clear hold hp hsz e1
         go_simp
         (go_at_call 26; (with_reducible refine (FRk.out _).mono ?_); rintro e wz ⟨x81, n81, c81, m81, y81, o81, d81, rfl, h2_0, hbz⟩)
         exact hK.out _ _ ⟨hB.go hbz, Exists.intro x81 (Exists.intro n81 (Exists.intro c81 (Exists.intro m81 (Exists.intro y81 (Exists.intro o81 (Exists.intro d81 (And.intro rfl h2_0))))))), hbz.size, .inl hbz, fun h => absurd h (by decide)⟩
       refine Stps2.cons (o := _) ?_ ?_
       · intro ac yw hsz hold hB hp K hK
         have e0 := hp 0 (by decide)
         have t73 : ac.tmps[73]? = some (.agg #[.slice x52 n52 c52, .bool m52, .slice y52 o52 d52]) := (List.cons.inj e0).1
         obtain ⟨x81_2, n81_2, c81_2, m81_2, y81_2, o81_2, d81_2, e2, g2_0⟩ := hp 2 (by decide)
         have t75 : ac.tmps[75]? = some (.agg #[.slice x81_2 n81_2 c81_2, .bool m81_2, .slice y81_2 o81_2 d81_2]) := (List.cons.inj e2).1
         clear hold hp hsz e0 e2
         go_simp
         (go_at_call 17; (with_reducible refine (TWz.out _ _ _ _ _ _ _ _ _ _ _ _ _ _ _ hB.now.2.2.2.2.2.1 g2_0).mono ?_); rintro e wz ⟨x82, n82, c82, m82, y82, o82, d82, rfl, h3_0, hbz⟩)
         exact hK.out _ _ ⟨hB.go hbz, Exists.intro x82 (Exists.intro n82 (Exists.intro c82 (Exists.intro m82 (Exists.intro y82 (Exists.intro o82 (Exists.intro d82 (And.intro rfl h3_0))))))), hbz.size, .inl hbz, fun h => absurd h (by decide)⟩
       refine Stps2.cons (o := _) ?_ ?_
       · intro ac yw hsz hold hB hp K hK
         obtain ⟨x82_3, n82_3, c82_3, m82_3, y82_3, o82_3, d82_3, e3, g3_0⟩ := hp 3 (by decide)
         have t76 : ac.tmps[76]? = some (.tuple #[.agg #[.slice x82_3 n82_3 c82_3, .bool m82_3, .slice y82_3 o82_3 d82_3], .int .i64 0]) := (List.cons.inj e3).1
         clear hold hp hsz e3
         go_simp
         exact hK.out _ _ ⟨hB, Exists.intro x82_3 (Exists.intro n82_3 (Exists.intro c82_3 (Exists.intro m82_3 (Exists.intro y82_3 (Exists.intro o82_3 (Exists.intro d82_3 (And.intro rfl g3_0))))))), Nat.le_refl _, .inl (Below.refl _ _), fun h => absurd h (by decide)⟩
       refine Stps2.cons (o := _) ?_ ?_
       · intro ac yw hsz hold hB hp K hK
         obtain ⟨x82_4, n82_4, c82_4, m82_4, y82_4, o82_4, d82_4, e4, g4_0⟩ := hp 4 (by decide)
         have t72 : ac.tmps[72]? = some (.tuple #[.agg #[.slice x82_4 n82_4 c82_4, .bool m82_4, .slice y82_4 o82_4 d82_4], .int .i64 0]) := (List.cons.inj e4).1
         clear hold hp hsz e4
         go_simp
         exact hK.out _ _ ⟨hB, Exists.intro x82_4 (Exists.intro n82_4 (Exists.intro c82_4 (Exists.intro m82_4 (Exists.intro y82_4 (Exists.intro o82_4 (Exists.intro d82_4 (And.intro rfl g4_0))))))), Nat.le_refl _, .inl (Below.refl _ _), fun h => absurd h (by decide)⟩
       refine Stps2.cons (o := _) ?_ ?_
       · intro ac yw hsz hold hB hp K hK
         obtain ⟨x82_4, n82_4, c82_4, m82_4, y82_4, o82_4, d82_4, e4, g4_0⟩ := hp 4 (by decide)
         have t72 : ac.tmps[72]? = some (.tuple #[.agg #[.slice x82_4 n82_4 c82_4, .bool m82_4, .slice y82_4 o82_4 d82_4], .int .i64 0]) := (List.cons.inj e4).1
         clear hold hp hsz e4
         go_simp
         exact hK.out _ _ ⟨hB, rfl, Nat.le_refl _, .inl (Below.refl _ _), fun h => absurd h (by decide)⟩
       refine Stps2.cons (o := _) ?_ ?_
       · intro ac yw hsz hold hB hp K hK
         clear hold hp hsz
         have hk0 := hB.now.1.lt
         have hsl := Slot3.new yw (.slice none 0 0) (.bool false) (.slice none 0 0) 53
         have hbz : Below yw.heap.size yw (yw.alloc (.cells #[.slice none 0 0, .bool false, .slice none 0 0] 53)) /\ yw.heap.size < (yw.alloc (.cells #[.slice none 0 0, .bool false, .slice none 0 0] 53)).heap.size := ⟨(Below.refl _ _).alloc (Nat.le_refl _) _, by simp⟩
         go_simp
         exact hK.out _ _ ⟨hB.alloc _, Exists.intro yw.heap.size (Exists.intro none (Exists.intro 0 (Exists.intro 0 (Exists.intro false (Exists.intro none (Exists.intro 0 (Exists.intro 0 (And.intro rfl (And.intro hsl hk0))))))))), Nat.le_of_lt hbz.2, .inl hbz.1, fun _ => ⟨_, rfl, Nat.le_refl _, hbz.2⟩⟩
       refine Stps2.cons (o := _) ?_ ?_
       · intro ac yw hsz hold hB hp K hK
         obtain ⟨k7_7, x0_7, y0_7, z0_7, b0_7, u1_7, p1_7, z1_7, e7, g7_0, g7_1⟩ := hp 7 (by decide)
         have t17 : ac.tmps[17]? = some (.pointer (some ⟨k7_7, 0, none⟩)) := (List.cons.inj e7).1
         obtain ⟨x82_5, n82_5, c82_5, m82_5, y82_5, o82_5, d82_5, e5, g5_0⟩ := hp 5 (by decide)
         have t77 : ac.tmps[77]? = some (.agg #[.slice x82_5 n82_5 c82_5, .bool m82_5, .slice y82_5 o82_5 d82_5]) := (List.cons.inj e5).1
         clear hold hp hsz e7 e5
         have hs := g7_0
         have l0 := hs.cell
         have l1 := hs.cell1
         have l2 := hs.cell2
         have f0 := hs.free
         have f1 := hs.free1
         have f2 := hs.free2
         have HB := HP.out _ _ hs g7_1 hB x82_5 n82_5 c82_5 m82_5 y82_5 o82_5 d82_5
         go_simp
         refine hK.out undef _ ⟨HB, Exists.intro k7_7 (Exists.intro x82_5 (Exists.intro n82_5 (Exists.intro c82_5 (Exists.intro m82_5 (Exists.intro y82_5 (Exists.intro o82_5 (Exists.intro d82_5 (And.intro (congrArg (fun x => [x]) t17) (And.intro (hs.set3 (.slice x82_5 n82_5 c82_5) (.bool m82_5) (.slice y82_5 o82_5 d82_5)) (RatAt.set3 g5_0 hs _ _ _)))))))))), by simp, .inr ?_, fun h => absurd h (by decide)⟩
         intro jj hj hap h
         match jj, h with
         | 0, h => exact h
         | 1, h => exact h
         | 2, ⟨x81, n81, c81, m81, y81, o81, d81, e2, g2_0⟩ =>
          exact Exists.intro x81 (Exists.intro n81 (Exists.intro c81 (Exists.intro m81 (Exists.intro y81 (Exists.intro o81 (Exists.intro d81 (And.intro e2 (RatAt.set3 g2_0 hs _ _ _))))))))
         | 3, ⟨x82, n82, c82, m82, y82, o82, d82, e3, g3_0⟩ =>
          exact Exists.intro x82 (Exists.intro n82 (Exists.intro c82 (Exists.intro m82 (Exists.intro y82 (Exists.intro o82 (Exists.intro d82 (And.intro e3 (RatAt.set3 g3_0 hs _ _ _))))))))
         | 4, ⟨x82, n82, c82, m82, y82, o82, d82, e4, g4_0⟩ =>
          exact Exists.intro x82 (Exists.intro n82 (Exists.intro c82 (Exists.intro m82 (Exists.intro y82 (Exists.intro o82 (Exists.intro d82 (And.intro e4 (RatAt.set3 g4_0 hs _ _ _))))))))
         | 5, ⟨x82, n82, c82, m82, y82, o82, d82, e5, g5_0⟩ =>
          exact Exists.intro x82 (Exists.intro n82 (Exists.intro c82 (Exists.intro m82 (Exists.intro y82 (Exists.intro o82 (Exists.intro d82 (And.intro e5 (RatAt.set3 g5_0 hs _ _ _))))))))
         | 6, h => exact h
         | 7, ⟨k7, x0, y0, z0, b0, u1, p1, z1, e7, g7_0, g7_1⟩ =>
          have e9 : k7 = k7_7 := by have := (List.cons.inj e7).1.symm.trans t17; cases this; rfl
          subst e9
          exact Exists.intro _ (Exists.intro _ (Exists.intro _ (Exists.intro _ (Exists.intro _ (Exists.intro _ (Exists.intro _ (Exists.intro _ (And.intro e7 (And.intro (g7_0.set3 _ _ _) g7_1)))))))))
         | 8, _ => exact absurd rfl hj
         | 9, h => exact h
         | _ + 10, h => exact h
       refine Stps2.cons (o := _) ?_ ?_
       · intro ac yw hsz hold hB hp K hK
         have e6 := hp 6 (by decide)
         have t78 : ac.tmps[78]? = some (.int .i64 0) := (List.cons.inj e6).1
         clear hold hp hsz e6
         go_simp
         exact hK.out _ _ ⟨hB, rfl, Nat.le_refl _, .inl (Below.refl _ _), fun h => absurd h (by decide)⟩
       exact Stps2.nil _
     refine Stps2.cons (o := _) ?_ ?_
     · intro ac yw hsz hold hB hp K hK
       have t7 : ac.tmps[7]? = some (.pointer (some ⟨w1.heap.size, 0, none⟩)) := hold 7 (by kernel_rfl)
       clear hold hp hsz
       have v0 := hB.now.2.2.2.2.1.cell
       have v1 := hB.now.2.2.2.2.1.cell1
       have v2 := hB.now.2.2.2.2.1.cell2
       go_simp
       exact hK.out _ _ ⟨hB, rfl, Nat.le_refl _, .inl (Below.refl _ _), fun h => absurd h (by decide)⟩
     refine Stps2.cons (o := _) ?_ ?_
     · intro ac yw hsz hold hB hp K hK
       have t9 : ac.tmps[9]? = some (.int .i64 (i : Int)) := hold 9 (by kernel_rfl)
       clear hold hp hsz
       go_simp
       exact hK.out _ _ ⟨hB, rfl, Nat.le_refl _, .inl (Below.refl _ _), fun h => absurd h (by decide)⟩
     refine Stps2.cons (o := _) ?_ ?_
     · intro ac yw hsz hold hB hp K hK
       have t10 : ac.tmps[10]? = some (.int .i64 (k : Int)) := hold 10 (by kernel_rfl)
       clear hold hp hsz
       go_simp
       exact hK.out _ _ ⟨hB, rfl, Nat.le_refl _, .inl (Below.refl _ _), fun h => absurd h (by decide)⟩
     refine Stps2.cons (o := _) ?_ ?_
     · intro ac yw hsz hold hB hp K hK
       have e1 := hp 1 (by decide)
       have t65 : ac.tmps[65]? = some (.int .i64 (i : Int)) := (List.cons.inj e1).1
       have e2 := hp 2 (by decide)
       have t66 : ac.tmps[66]? = some (.int .i64 (k : Int)) := (List.cons.inj e2).1
       clear hold hp hsz e1 e2
       go_simp
       exact hK.out _ _ ⟨hB, rfl, Nat.le_refl _, .inl (Below.refl _ _), fun h => absurd h (by decide)⟩
     refine Stps2.cons (o := _) ?_ ?_
     · intro ac yw hsz hold hB hp K hK
       have e3 := hp 3 (by decide)
       have t67 : ac.tmps[67]? = some (.int .i64 ((i : Int) + (k : Int))) := (List.cons.inj e3).1
       clear hold hp hsz e3
       go_simp
       (go_at_call 26; (with_reducible refine (FRs.out _).mono ?_); rintro e wz ⟨x71, n71, c71, m71, y71, o71, d71, rfl, h4_0, hbz⟩)
       exact hK.out _ _ ⟨hB.go hbz, Exists.intro x71 (Exists.intro n71 (Exists.intro c71 (Exists.intro m71 (Exists.intro y71 (Exists.intro o71 (Exists.intro d71 (And.intro rfl h4_0))))))), hbz.size, .inl hbz, fun h => absurd h (by decide)⟩
     refine Stps2.cons (o := _) ?_ ?_
     · intro ac yw hsz hold hB hp K hK
       have e0 := hp 0 (by decide)
       have t64 : ac.tmps[64]? = some (.agg #[.slice x1 xn1 xc1, .bool xm1, .slice y1 yn1 yc1]) := (List.cons.inj e0).1
       obtain ⟨x71_4, n71_4, c71_4, m71_4, y71_4, o71_4, d71_4, e4, g4_0⟩ := hp 4 (by decide)
       have t68 : ac.tmps[68]? = some (.agg #[.slice x71_4 n71_4 c71_4, .bool m71_4, .slice y71_4 o71_4 d71_4]) := (List.cons.inj e4).1
       clear hold hp hsz e0 e4
       go_simp
       (go_at_call 17; (with_reducible refine (TWs.out _ _ _ _ _ _ _ _ _ _ _ _ _ _ _ hB.now.2.2.2.2.2.1 g4_0).mono ?_); rintro e wz ⟨x72, n72, c72, m72, y72, o72, d72, rfl, h5_0, hbz⟩)
       exact hK.out _ _ ⟨hB.go hbz, Exists.intro x72 (Exists.intro n72 (Exists.intro c72 (Exists.intro m72 (Exists.intro y72 (Exists.intro o72 (Exists.intro d72 (And.intro rfl h5_0))))))), hbz.size, .inl hbz, fun h => absurd h (by decide)⟩
     refine Stps2.cons (o := _) ?_ ?_
     · intro ac yw hsz hold hB hp K hK
       obtain ⟨x72_5, n72_5, c72_5, m72_5, y72_5, o72_5, d72_5, e5, g5_0⟩ := hp 5 (by decide)
       have t69 : ac.tmps[69]? = some (.tuple #[.agg #[.slice x72_5 n72_5 c72_5, .bool m72_5, .slice y72_5 o72_5 d72_5], .int .i64 0]) := (List.cons.inj e5).1
       clear hold hp hsz e5
       go_simp
       exact hK.out _ _ ⟨hB, Exists.intro x72_5 (Exists.intro n72_5 (Exists.intro c72_5 (Exists.intro m72_5 (Exists.intro y72_5 (Exists.intro o72_5 (Exists.intro d72_5 (And.intro rfl g5_0))))))), Nat.le_refl _, .inl (Below.refl _ _), fun h => absurd h (by decide)⟩
     refine Stps2.cons (o := _) ?_ ?_
     · intro ac yw hsz hold hB hp K hK
       obtain ⟨x72_6, n72_6, c72_6, m72_6, y72_6, o72_6, d72_6, e6, g6_0⟩ := hp 6 (by decide)
       have t63 : ac.tmps[63]? = some (.tuple #[.agg #[.slice x72_6 n72_6 c72_6, .bool m72_6, .slice y72_6 o72_6 d72_6], .int .i64 0]) := (List.cons.inj e6).1
       clear hold hp hsz e6
       go_simp
       exact hK.out _ _ ⟨hB, Exists.intro x72_6 (Exists.intro n72_6 (Exists.intro c72_6 (Exists.intro m72_6 (Exists.intro y72_6 (Exists.intro o72_6 (Exists.intro d72_6 (And.intro rfl g6_0))))))), Nat.le_refl _, .inl (Below.refl _ _), fun h => absurd h (by decide)⟩
     refine Stps2.cons (o := _) ?_ ?_
     · intro ac yw hsz hold hB hp K hK
       obtain ⟨x72_6, n72_6, c72_6, m72_6, y72_6, o72_6, d72_6, e6, g6_0⟩ := hp 6 (by decide)
       have t63 : ac.tmps[63]? = some (.tuple #[.agg #[.slice x72_6 n72_6 c72_6, .bool m72_6, .slice y72_6 o72_6 d72_6], .int .i64 0]) := (List.cons.inj e6).1
       clear hold hp hsz e6
       go_simp
       exact hK.out _ _ ⟨hB, rfl, Nat.le_refl _, .inl (Below.refl _ _), fun h => absurd h (by decide)⟩
     refine Stps2.cons (o := _) ?_ ?_
     · intro ac yw hsz hold hB hp K hK
       clear hold hp hsz
       have hk0 := hB.now.1.lt
       have hsl := Slot3.new yw (.slice none 0 0) (.bool false) (.slice none 0 0) 53
       have hbz : Below yw.heap.size yw (yw.alloc (.cells #[.slice none 0 0, .bool false, .slice none 0 0] 53)) /\ yw.heap.size < (yw.alloc (.cells #[.slice none 0 0, .bool false, .slice none 0 0] 53)).heap.size := ⟨(Below.refl _ _).alloc (Nat.le_refl _) _, by simp⟩
       go_simp
       exact hK.out _ _ ⟨hB.alloc _, Exists.intro yw.heap.size (Exists.intro none (Exists.intro 0 (Exists.intro 0 (Exists.intro false (Exists.intro none (Exists.intro 0 (Exists.intro 0 (And.intro rfl (And.intro hsl hk0))))))))), Nat.le_of_lt hbz.2, .inl hbz.1, fun _ => ⟨_, rfl, Nat.le_refl _, hbz.2⟩⟩
     refine Stps2.cons (o := _) ?_ ?_
     · intro ac yw hsz hold hB hp K hK
       obtain ⟨k9_9, x0_9, y0_9, z0_9, b0_9, u1_9, p1_9, z1_9, e9, g9_0, g9_1⟩ := hp 9 (by decide)
       have t15 : ac.tmps[15]? = some (.pointer (some ⟨k9_9, 0, none⟩)) := (List.cons.inj e9).1
       obtain ⟨x72_7, n72_7, c72_7, m72_7, y72_7, o72_7, d72_7, e7, g7_0⟩ := hp 7 (by decide)
       have t70 : ac.tmps[70]? = some (.agg #[.slice x72_7 n72_7 c72_7, .bool m72_7, .slice y72_7 o72_7 d72_7]) := (List.cons.inj e7).1
       clear hold hp hsz e9 e7
       have hs := g9_0
       have l0 := hs.cell
       have l1 := hs.cell1
       have l2 := hs.cell2
       have f0 := hs.free
       have f1 := hs.free1
       have f2 := hs.free2
       have HB := HP.out _ _ hs g9_1 hB x72_7 n72_7 c72_7 m72_7 y72_7 o72_7 d72_7
       go_simp
       refine hK.out undef _ ⟨HB, Exists.intro k9_9 (Exists.intro x72_7 (Exists.intro n72_7 (Exists.intro c72_7 (Exists.intro m72_7 (Exists.intro y72_7 (Exists.intro o72_7 (Exists.intro d72_7 (And.intro (congrArg (fun x => [x]) t15) (And.intro (hs.set3 (.slice x72_7 n72_7 c72_7) (.bool m72_7) (.slice y72_7 o72_7 d72_7)) (RatAt.set3 g7_0 hs _ _ _)))))))))), by simp, .inr ?_, fun h => absurd h (by decide)⟩
       intro jj hj hap h
       match jj, h with
       | 0, h => exact h
       | 1, h => exact h
       | 2, h => exact h
       | 3, h => exact h
       | 4, ⟨x71, n71, c71, m71, y71, o71, d71, e4, g4_0⟩ =>
        exact Exists.intro x71 (Exists.intro n71 (Exists.intro c71 (Exists.intro m71 (Exists.intro y71 (Exists.intro o71 (Exists.intro d71 (And.intro e4 (RatAt.set3 g4_0 hs _ _ _))))))))
       | 5, ⟨x72, n72, c72, m72, y72, o72, d72, e5, g5_0⟩ =>
        exact Exists.intro x72 (Exists.intro n72 (Exists.intro c72 (Exists.intro m72 (Exists.intro y72 (Exists.intro o72 (Exists.intro d72 (And.intro e5 (RatAt.set3 g5_0 hs _ _ _))))))))
       | 6, ⟨x72, n72, c72, m72, y72, o72, d72, e6, g6_0⟩ =>
        exact Exists.intro x72 (Exists.intro n72 (Exists.intro c72 (Exists.intro m72 (Exists.intro y72 (Exists.intro o72 (Exists.intro d72 (And.intro e6 (RatAt.set3 g6_0 hs _ _ _))))))))
       | 7, ⟨x72, n72, c72, m72, y72, o72, d72, e7, g7_0⟩ =>
        exact Exists.intro x72 (Exists.intro n72 (Exists.intro c72 (Exists.intro m72 (Exists.intro y72 (Exists.intro o72 (Exists.intro d72 (And.intro e7 (RatAt.set3 g7_0 hs _ _ _))))))))
       | 8, h => exact h
       | 9, ⟨k9, x0, y0, z0, b0, u1, p1, z1, e9, g9_0, g9_1⟩ =>
        have e9 : k9 = k9_9 := by have := (List.cons.inj e9).1.symm.trans t15; cases this; rfl
        subst e9
        exact Exists.intro _ (Exists.intro _ (Exists.intro _ (Exists.intro _ (Exists.intro _ (Exists.intro _ (Exists.intro _ (Exists.intro _ (And.intro e9 (And.intro (g9_0.set3 _ _ _) g9_1)))))))))
       | 10, _ => exact absurd rfl hj
       | 11, h => exact h
       | _ + 12, h => exact h
     refine Stps2.cons (o := _) ?_ ?_
     · intro ac yw hsz hold hB hp K hK
       have e8 := hp 8 (by decide)
       have t71 : ac.tmps[71]? = some (.int .i64 0) := (List.cons.inj e8).1
       clear hold hp hsz e8
       go_simp
       exact hK.out _ _ ⟨hB, rfl, Nat.le_refl _, .inl (Below.refl _ _), fun h => absurd h (by decide)⟩
     exact Stps2.nil _
   refine Stps2.cons (o := _) ?_ ?_
   · intro ac yw hsz hold hB hp K hK
     have t7 : ac.tmps[7]? = some (.pointer (some ⟨w1.heap.size, 0, none⟩)) := hold 7 (by kernel_rfl)
     clear hold hp hsz
     have v0 := hB.now.2.2.1.cell
     have v1 := hB.now.2.2.1.cell1
     have v2 := hB.now.2.2.1.cell2
     go_simp
     exact hK.out _ _ ⟨hB, rfl, Nat.le_refl _, .inl (Below.refl _ _), fun h => absurd h (by decide)⟩
   refine Stps2.cons (o := _) ?_ ?_
   · intro ac yw hsz hold hB hp K hK
     have t10 : ac.tmps[10]? = some (.int .i64 (k : Int)) := hold 10 (by kernel_rfl)
     clear hold hp hsz
     go_simp
     exact hK.out _ _ ⟨hB, rfl, Nat.le_refl _, .inl (Below.refl _ _), fun h => absurd h (by decide)⟩
   refine Stps2.cons (o := _) ?_ ?_
   · intro ac yw hsz hold hB hp K hK
     have e1 := hp 1 (by decide)
     have t58 : ac.tmps[58]? = some (.int .i64 (k : Int)) := (List.cons.inj e1).1
     clear hold hp hsz e1
     go_simp
     (go_at_call 26; (with_reducible refine (FRk.out _).mono ?_); rintro e wz ⟨x61, n61, c61, m61, y61, o61, d61, rfl, h2_0, hbz⟩)
     exact hK.out _ _ ⟨hB.go hbz, Exists.intro x61 (Exists.intro n61 (Exists.intro c61 (Exists.intro m61 (Exists.intro y61 (Exists.intro o61 (Exists.intro d61 (And.intro rfl h2_0))))))), hbz.size, .inl hbz, fun h => absurd h (by decide)⟩
   refine Stps2.cons (o := _) ?_ ?_
   · intro ac yw hsz hold hB hp K hK
     have e0 := hp 0 (by decide)
     have t57 : ac.tmps[57]? = some (.agg #[.slice x1 xn1 xc1, .bool xm1, .slice y1 yn1 yc1]) := (List.cons.inj e0).1
     obtain ⟨x61_2, n61_2, c61_2, m61_2, y61_2, o61_2, d61_2, e2, g2_0⟩ := hp 2 (by decide)
     have t59 : ac.tmps[59]? = some (.agg #[.slice x61_2 n61_2 c61_2, .bool m61_2, .slice y61_2 o61_2 d61_2]) := (List.cons.inj e2).1
     clear hold hp hsz e0 e2
     go_simp
     (go_at_call 17; (with_reducible refine (TWk.out _ _ _ _ _ _ _ _ _ _ _ _ _ _ _ hB.now.2.2.2.1 g2_0).mono ?_); rintro e wz ⟨x62, n62, c62, m62, y62, o62, d62, rfl, h3_0, hbz⟩)
     exact hK.out _ _ ⟨hB.go hbz, Exists.intro x62 (Exists.intro n62 (Exists.intro c62 (Exists.intro m62 (Exists.intro y62 (Exists.intro o62 (Exists.intro d62 (And.intro rfl h3_0))))))), hbz.size, .inl hbz, fun h => absurd h (by decide)⟩
   refine Stps2.cons (o := _) ?_ ?_
   · intro ac yw hsz hold hB hp K hK
     obtain ⟨x62_3, n62_3, c62_3, m62_3, y62_3, o62_3, d62_3, e3, g3_0⟩ := hp 3 (by decide)
     have t60 : ac.tmps[60]? = some (.tuple #[.agg #[.slice x62_3 n62_3 c62_3, .bool m62_3, .slice y62_3 o62_3 d62_3], .int .i64 0]) := (List.cons.inj e3).1
     clear hold hp hsz e3
     go_simp
     exact hK.out _ _ ⟨hB, Exists.intro x62_3 (Exists.intro n62_3 (Exists.intro c62_3 (Exists.intro m62_3 (Exists.intro y62_3 (Exists.intro o62_3 (Exists.intro d62_3 (And.intro rfl g3_0))))))), Nat.le_refl _, .inl (Below.refl _ _), fun h => absurd h (by decide)⟩
   refine Stps2.cons (o := _) ?_ ?_
   · intro ac yw hsz hold hB hp K hK
     obtain ⟨x62_4, n62_4, c62_4, m62_4, y62_4, o62_4, d62_4, e4, g4_0⟩ := hp 4 (by decide)
     have t56 : ac.tmps[56]? = some (.tuple #[.agg #[.slice x62_4 n62_4 c62_4, .bool m62_4, .slice y62_4 o62_4 d62_4], .int .i64 0]) := (List.cons.inj e4).1
     clear hold hp hsz e4
     go_simp
     exact hK.out _ _ ⟨hB, Exists.intro x62_4 (Exists.intro n62_4 (Exists.intro c62_4 (Exists.intro m62_4 (Exists.intro y62_4 (Exists.intro o62_4 (Exists.intro d62_4 (And.intro rfl g4_0))))))), Nat.le_refl _, .inl (Below.refl _ _), fun h => absurd h (by decide)⟩
   refine Stps2.cons (o := _) ?_ ?_
   · intro ac yw hsz hold hB hp K hK
     obtain ⟨x62_4, n62_4, c62_4, m62_4, y62_4, o62_4, d62_4, e4, g4_0⟩ := hp 4 (by decide)
     have t56 : ac.tmps[56]? = some (.tuple #[.agg #[.slice x62_4 n62_4 c62_4, .bool m62_4, .slice y62_4 o62_4 d62_4], .int .i64 0]) := (List.cons.inj e4).1
     clear hold hp hsz e4
     go_simp
     exact hK.out _ _ ⟨hB, rfl, Nat.le_refl _, .inl (Below.refl _ _), fun h => absurd h (by decide)⟩
   refine Stps2.cons (o := _) ?_ ?_
   · intro ac yw hsz hold hB hp K hK
     clear hold hp hsz
     have hk0 := hB.now.1.lt
     have hsl := Slot3.new yw (.slice none 0 0) (.bool false) (.slice none 0 0) 53
     have hbz : Below yw.heap.size yw (yw.alloc (.cells #[.slice none 0 0, .bool false, .slice none 0 0] 53)) /\ yw.heap.size < (yw.alloc (.cells #[.slice none 0 0, .bool false, .slice none 0 0] 53)).heap.size := ⟨(Below.refl _ _).alloc (Nat.le_refl _) _, by simp⟩
     go_simp
     exact hK.out _ _ ⟨hB.alloc _, Exists.intro yw.heap.size (Exists.intro none (Exists.intro 0 (Exists.intro 0 (Exists.intro false (Exists.intro none (Exists.intro 0 (Exists.intro 0 (And.intro rfl (And.intro hsl hk0))))))))), Nat.le_of_lt hbz.2, .inl hbz.1, fun _ => ⟨_, rfl, Nat.le_refl _, hbz.2⟩⟩
   refine Stps2.cons (o := _) ?_ ?_
   · intro ac yw hsz hold hB hp K hK
     obtain ⟨k7_7, x0_7, y0_7, z0_7, b0_7, u1_7, p1_7, z1_7, e7, g7_0, g7_1⟩ := hp 7 (by decide)
     have t13 : ac.tmps[13]? = some (.pointer (some ⟨k7_7, 0, none⟩)) := (List.cons.inj e7).1
     obtain ⟨x62_5, n62_5, c62_5, m62_5, y62_5, o62_5, d62_5, e5, g5_0⟩ := hp 5 (by decide)
     have t61 : ac.tmps[61]? = some (.agg #[.slice x62_5 n62_5 c62_5, .bool m62_5, .slice y62_5 o62_5 d62_5]) := (List.cons.inj e5).1
     clear hold hp hsz e7 e5
     have hs := g7_0
     have l0 := hs.cell
     have l1 := hs.cell1
     have l2 := hs.cell2
     have f0 := hs.free
     have f1 := hs.free1
     have f2 := hs.free2
     have HB := HP.out _ _ hs g7_1 hB x62_5 n62_5 c62_5 m62_5 y62_5 o62_5 d62_5
     go_simp
     refine hK.out undef _ ⟨HB, Exists.intro k7_7 (Exists.intro x62_5 (Exists.intro n62_5 (Exists.intro c62_5 (Exists.intro m62_5 (Exists.intro y62_5 (Exists.intro o62_5 (Exists.intro d62_5 (And.intro (congrArg (fun x => [x]) t13) (And.intro (hs.set3 (.slice x62_5 n62_5 c62_5) (.bool m62_5) (.slice y62_5 o62_5 d62_5)) (RatAt.set3 g5_0 hs _ _ _)))))))))), by simp, .inr ?_, fun h => absurd h (by decide)⟩
     intro jj hj hap h
     match jj, h with
     | 0, h => exact h
     | 1, h => exact h
     | 2, ⟨x61, n61, c61, m61, y61, o61, d61, e2, g2_0⟩ =>
      exact Exists.intro x61 (Exists.intro n61 (Exists.intro c61 (Exists.intro m61 (Exists.intro y61 (Exists.intro o61 (Exists.intro d61 (And.intro e2 (RatAt.set3 g2_0 hs _ _ _))))))))
     | 3, ⟨x62, n62, c62, m62, y62, o62, d62, e3, g3_0⟩ =>
      exact Exists.intro x62 (Exists.intro n62 (Exists.intro c62 (Exists.intro m62 (Exists.intro y62 (Exists.intro o62 (Exists.intro d62 (And.intro e3 (RatAt.set3 g3_0 hs _ _ _))))))))
     | 4, ⟨x62, n62, c62, m62, y62, o62, d62, e4, g4_0⟩ =>
      exact Exists.intro x62 (Exists.intro n62 (Exists.intro c62 (Exists.intro m62 (Exists.intro y62 (Exists.intro o62 (Exists.intro d62 (And.intro e4 (RatAt.set3 g4_0 hs _ _ _))))))))
     | 5, ⟨x62, n62, c62, m62, y62, o62, d62, e5, g5_0⟩ =>
      exact Exists.intro x62 (Exists.intro n62 (Exists.intro c62 (Exists.intro m62 (Exists.intro y62 (Exists.intro o62 (Exists.intro d62 (And.intro e5 (RatAt.set3 g5_0 hs _ _ _))))))))
     | 6, h => exact h
     | 7, ⟨k7, x0, y0, z0, b0, u1, p1, z1, e7, g7_0, g7_1⟩ =>
      have e9 : k7 = k7_7 := by have := (List.cons.inj e7).1.symm.trans t13; cases this; rfl
      subst e9
      exact Exists.intro _ (Exists.intro _ (Exists.intro _ (Exists.intro _ (Exists.intro _ (Exists.intro _ (Exists.intro _ (Exists.intro _ (And.intro e7 (And.intro (g7_0.set3 _ _ _) g7_1)))))))))
     | 8, _ => exact absurd rfl hj
     | 9, h => exact h
     | _ + 10, h => exact h
   refine Stps2.cons (o := _) ?_ ?_
   · intro ac yw hsz hold hB hp K hK
     have e6 := hp 6 (by decide)
     have t62 : ac.tmps[62]? = some (.int .i64 0) := (List.cons.inj e6).1
     clear hold hp hsz e6
     go_simp
     exact hK.out _ _ ⟨hB, rfl, Nat.le_refl _, .inl (Below.refl _ _), fun h => absurd h (by decide)⟩
   exact Stps2.nil _
 refine Stps2.cons (o := _) ?_ ?_
 · intro ac yw hsz hold hB hp K hK
   have t7 : ac.tmps[7]? = some (.pointer (some ⟨w1.heap.size, 0, none⟩)) := hold 7 (by kernel_rfl)
   clear hold hp hsz
   have v0 := hB.now.1.cell
   have v1 := hB.now.1.cell1
   have v2 := hB.now.1.cell2
   go_simp
   exact hK.out _ _ ⟨hB, rfl, Nat.le_refl _, .inl (Below.refl _ _), fun h => absurd h (by decide)⟩
 refine Stps2.cons (o := _) ?_ ?_
 · intro ac yw hsz hold hB hp K hK
   have t9 : ac.tmps[9]? = some (.int .i64 (i : Int)) := hold 9 (by kernel_rfl)
   clear hold hp hsz
   go_simp
   exact hK.out _ _ ⟨hB, rfl, Nat.le_refl _, .inl (Below.refl _ _), fun h => absurd h (by decide)⟩
 refine Stps2.cons (o := _) ?_ ?_
 · intro ac yw hsz hold hB hp K hK
   have e1 := hp 1 (by decide)
   have t51 : ac.tmps[51]? = some (.int .i64 (i : Int)) := (List.cons.inj e1).1
   clear hold hp hsz e1
   go_simp
   (go_at_call 26; (with_reducible refine (FRi.out _).mono ?_); rintro e wz ⟨x51, n51, c51, m51, y51, o51, d51, rfl, h2_0, hbz⟩)
   exact hK.out _ _ ⟨hB.go hbz, Exists.intro x51 (Exists.intro n51 (Exists.intro c51 (Exists.intro m51 (Exists.intro y51 (Exists.intro o51 (Exists.intro d51 (And.intro rfl h2_0))))))), hbz.size, .inl hbz, fun h => absurd h (by decide)⟩
 refine Stps2.cons (o := _) ?_ ?_
 · intro ac yw hsz hold hB hp K hK
   have e0 := hp 0 (by decide)
   have t50 : ac.tmps[50]? = some (.agg #[.slice x1 xn1 xc1, .bool xm1, .slice y1 yn1 yc1]) := (List.cons.inj e0).1
   obtain ⟨x51_2, n51_2, c51_2, m51_2, y51_2, o51_2, d51_2, e2, g2_0⟩ := hp 2 (by decide)
   have t52 : ac.tmps[52]? = some (.agg #[.slice x51_2 n51_2 c51_2, .bool m51_2, .slice y51_2 o51_2 d51_2]) := (List.cons.inj e2).1
   clear hold hp hsz e0 e2
   go_simp
   (go_at_call 17; (with_reducible refine (TWi.out _ _ _ _ _ _ _ _ _ _ _ _ _ _ _ hB.now.2.1 g2_0).mono ?_); rintro e wz ⟨x52, n52, c52, m52, y52, o52, d52, rfl, h3_0, hbz⟩)
   exact hK.out _ _ ⟨hB.go hbz, Exists.intro x52 (Exists.intro n52 (Exists.intro c52 (Exists.intro m52 (Exists.intro y52 (Exists.intro o52 (Exists.intro d52 (And.intro rfl h3_0))))))), hbz.size, .inl hbz, fun h => absurd h (by decide)⟩
 refine Stps2.cons (o := _) ?_ ?_
 · intro ac yw hsz hold hB hp K hK
   obtain ⟨x52_3, n52_3, c52_3, m52_3, y52_3, o52_3, d52_3, e3, g3_0⟩ := hp 3 (by decide)
   have t53 : ac.tmps[53]? = some (.tuple #[.agg #[.slice x52_3 n52_3 c52_3, .bool m52_3, .slice y52_3 o52_3 d52_3], .int .i64 0]) := (List.cons.inj e3).1
   clear hold hp hsz e3
   go_simp
   exact hK.out _ _ ⟨hB, Exists.intro x52_3 (Exists.intro n52_3 (Exists.intro c52_3 (Exists.intro m52_3 (Exists.intro y52_3 (Exists.intro o52_3 (Exists.intro d52_3 (And.intro rfl g3_0))))))), Nat.le_refl _, .inl (Below.refl _ _), fun h => absurd h (by decide)⟩
 refine Stps2.cons (o := _) ?_ ?_
 · intro ac yw hsz hold hB hp K hK
   obtain ⟨x52_4, n52_4, c52_4, m52_4, y52_4, o52_4, d52_4, e4, g4_0⟩ := hp 4 (by decide)
   have t49 : ac.tmps[49]? = some (.tuple #[.agg #[.slice x52_4 n52_4 c52_4, .bool m52_4, .slice y52_4 o52_4 d52_4], .int .i64 0]) := (List.cons.inj e4).1
   clear hold hp hsz e4
   go_simp
   exact hK.out _ _ ⟨hB, Exists.intro x52_4 (Exists.intro n52_4 (Exists.intro c52_4 (Exists.intro m52_4 (Exists.intro y52_4 (Exists.intro o52_4 (Exists.intro d52_4 (And.intro rfl g4_0))))))), Nat.le_refl _, .inl (Below.refl _ _), fun h => absurd h (by decide)⟩
 refine Stps2.cons (o := _) ?_ ?_
 · intro ac yw hsz hold hB hp K hK
   obtain ⟨x52_4, n52_4, c52_4, m52_4, y52_4, o52_4, d52_4, e4, g4_0⟩ := hp 4 (by decide)
   have t49 : ac.tmps[49]? = some (.tuple #[.agg #[.slice x52_4 n52_4 c52_4, .bool m52_4, .slice y52_4 o52_4 d52_4], .int .i64 0]) := (List.cons.inj e4).1
   clear hold hp hsz e4
   go_simp
   exact hK.out _ _ ⟨hB, rfl, Nat.le_refl _, .inl (Below.refl _ _), fun h => absurd h (by decide)⟩
 refine Stps2.cons (o := _) ?_ ?_
 · intro ac yw hsz hold hB hp K hK
   clear hold hp hsz
   have hk0 := hB.now.1.lt
   have hsl := Slot3.new yw (.slice none 0 0) (.bool false) (.slice none 0 0) 53
   have hbz : Below yw.heap.size yw (yw.alloc (.cells #[.slice none 0 0, .bool false, .slice none 0 0] 53)) /\ yw.heap.size < (yw.alloc (.cells #[.slice none 0 0, .bool false, .slice none 0 0] 53)).heap.size := ⟨(Below.refl _ _).alloc (Nat.le_refl _) _, by simp⟩
   go_simp
   exact hK.out _ _ ⟨hB.alloc _, Exists.intro yw.heap.size (Exists.intro none (Exists.intro 0 (Exists.intro 0 (Exists.intro false (Exists.intro none (Exists.intro 0 (Exists.intro 0 (And.intro rfl (And.intro hsl hk0))))))))), Nat.le_of_lt hbz.2, .inl hbz.1, fun _ => ⟨_, rfl, Nat.le_refl _, hbz.2⟩⟩
 refine Stps2.cons (o := _) ?_ ?_
 · intro ac yw hsz hold hB hp K hK
   obtain ⟨k7_7, x0_7, y0_7, z0_7, b0_7, u1_7, p1_7, z1_7, e7, g7_0, g7_1⟩ := hp 7 (by decide)
   have t11 : ac.tmps[11]? = some (.pointer (some ⟨k7_7, 0, none⟩)) := (List.cons.inj e7).1
   obtain ⟨x52_5, n52_5, c52_5, m52_5, y52_5, o52_5, d52_5, e5, g5_0⟩ := hp 5 (by decide)
   have t54 : ac.tmps[54]? = some (.agg #[.slice x52_5 n52_5 c52_5, .bool m52_5, .slice y52_5 o52_5 d52_5]) := (List.cons.inj e5).1
   clear hold hp hsz e7 e5
   have hs := g7_0
   have l0 := hs.cell
   have l1 := hs.cell1
   have l2 := hs.cell2
   have f0 := hs.free
   have f1 := hs.free1
   have f2 := hs.free2
   have HB := HP.out _ _ hs g7_1 hB x52_5 n52_5 c52_5 m52_5 y52_5 o52_5 d52_5
   go_simp
   refine hK.out undef _ ⟨HB, Exists.intro k7_7 (Exists.intro x52_5 (Exists.intro n52_5 (Exists.intro c52_5 (Exists.intro m52_5 (Exists.intro y52_5 (Exists.intro o52_5 (Exists.intro d52_5 (And.intro (congrArg (fun x => [x]) t11) (And.intro (hs.set3 (.slice x52_5 n52_5 c52_5) (.bool m52_5) (.slice y52_5 o52_5 d52_5)) (RatAt.set3 g5_0 hs _ _ _)))))))))), by simp, .inr ?_, fun h => absurd h (by decide)⟩
   intro jj hj hap h
   match jj, h with
   | 0, h => exact h
   | 1, h => exact h
   | 2, ⟨x51, n51, c51, m51, y51, o51, d51, e2, g2_0⟩ =>
    exact Exists.intro x51 (Exists.intro n51 (Exists.intro c51 (Exists.intro m51 (Exists.intro y51 (Exists.intro o51 (Exists.intro d51 (And.intro e2 (RatAt.set3 g2_0 hs _ _ _))))))))
   | 3, ⟨x52, n52, c52, m52, y52, o52, d52, e3, g3_0⟩ =>
    exact Exists.intro x52 (Exists.intro n52 (Exists.intro c52 (Exists.intro m52 (Exists.intro y52 (Exists.intro o52 (Exists.intro d52 (And.intro e3 (RatAt.set3 g3_0 hs _ _ _))))))))
   | 4, ⟨x52, n52, c52, m52, y52, o52, d52, e4, g4_0⟩ =>
    exact Exists.intro x52 (Exists.intro n52 (Exists.intro c52 (Exists.intro m52 (Exists.intro y52 (Exists.intro o52 (Exists.intro d52 (And.intro e4 (RatAt.set3 g4_0 hs _ _ _))))))))
   | 5, ⟨x52, n52, c52, m52, y52, o52, d52, e5, g5_0⟩ =>
    exact Exists.intro x52 (Exists.intro n52 (Exists.intro c52 (Exists.intro m52 (Exists.intro y52 (Exists.intro o52 (Exists.intro d52 (And.intro e5 (RatAt.set3 g5_0 hs _ _ _))))))))
   | 6, h => exact h
   | 7, ⟨k7, x0, y0, z0, b0, u1, p1, z1, e7, g7_0, g7_1⟩ =>
    have e9 : k7 = k7_7 := by have := (List.cons.inj e7).1.symm.trans t11; cases this; rfl
    subst e9
    exact Exists.intro _ (Exists.intro _ (Exists.intro _ (Exists.intro _ (Exists.intro _ (Exists.intro _ (Exists.intro _ (Exists.intro _ (And.intro e7 (And.intro (g7_0.set3 _ _ _) g7_1)))))))))
   | 8, _ => exact absurd rfl hj
   | 9, h => exact h
   | _ + 10, h => exact h
 refine Stps2.cons (o := _) ?_ ?_
 · intro ac yw hsz hold hB hp K hK
   have e6 := hp 6 (by decide)
   have t55 : ac.tmps[55]? = some (.int .i64 0) := (List.cons.inj e6).1
   clear hold hp hsz e6
   go_simp
   exact hK.out _ _ ⟨hB, rfl, Nat.le_refl _, .inl (Below.refl _ _), fun h => absurd h (by decide)⟩
 exact Stps2.nil _
theorem dyadPowers_walk (b : Bool) (s t : ByteArray) (x y : Int) (w : World) (_ : s.size <= maxLen) (_ : t.size <= maxLen) (hx : 0 <= x /\ x <= 255) (hy : 0 <= y /\ y <= 255) :
    Calls Tryz.prog 7 #[.agg #[.bool b, .string s, .string t], .int .u8 x, .int .u8 y] w fun e w' => e = .returned (.bool true) /\ Below w.heap.size w w' := by
 cases h : rd13 b s t with
 | false => exact dyadPowers_no b s t x y w h
 | true =>
  by_cases hl : s.size <= 8 /\ t.size <= 8
  · have e : ∀ z : Int, 0 <= z /\ z <= 255 -> ∃ n : Nat, z.tmod 8 = (n : Int) /\ n <= 7 := fun z hz => by
      refine ⟨(z.tmod 8).toNat, ?_, ?_⟩ <;> rw [Int.tmod_eq_emod_of_nonneg hz.1] <;> omega
    obtain ⟨i, hi, hi7⟩ := e x hx
    obtain ⟨k, hk, hk7⟩ := e y hy
    exact dyadPowers_yes b s t x y i k w h hl hx hy hi hk hi7 hk7
  · exact dyadPowers_big b s t x y w h hl
theorem own : ownKnob Tryz.prog.godebug = none := by kernel_rfl
theorem dyadPowers_lifted (os : Os) (started : os.Started) (H : Type) (enc : TypeId × Value -> H) :
    ReturnsInHanded {} Tryz.checked os 7 .any (fun w args => (Rows.dyadPowersSpec.pre enc Tryz.prog Tryz.f7 [] false w args /\ laidMetH Tryz.prog Rows.dyadPowersRow.laid w) /\ sizedMet enc Tryz.prog Tryz.f7 (OpenSpec.ofChange Rows.dyadPowersSpec) false w args)
     (Rows.dyadPowersSpec.post enc Tryz.prog Tryz.f7 false true false false) := by
 refine returnsInHanded_of_change_and (C := Tryz.checked) (X := fun w _ => laidMetH Tryz.prog Rows.dyadPowersRow.laid w) (fun _ _ _ hh h => h.of_heap hh) own started (by kernel_rfl) Tryz.func7
  (ChangeSpec.witness_shaped (enc := enc) (C := Tryz.checked) (os := os) (X := fun w _ => laidMetH Tryz.prog Rows.dyadPowersRow.laid w) false (World.laidAll Tryz.prog os Rows.dyadPowersRow.laid) #[.agg #[.bool false, .string ⟨#[]⟩, .string ⟨#[]⟩], .int .u8 0, .int .u8 0] 8 (World.laidAll_os _ _ _)
    (World.shaped_of_ZipB (by kernel_rfl) (by kernel_rfl)) (by kernel_rfl) (by kernel_rfl) (by kernel_rfl)
    (by rw [MakeChecks.laidMetH_plain _ _ _ (by kernel_rfl)]; exact laidMet_laidAll _ (by kernel_rfl) (by kernel_rfl))) ?_
 intro W base args ds gs before hval0 hW _ _ _ _
 have hval : ∀ (j : Nat) t v, Tryz.f7.params[j]? = some t -> args[j]? = some v -> Value.okWide Tryz.prog W .any base t v := hval0
 have hW' := hW
 obtain ⟨p, q, hA0, hV, rfl, _, _⟩ := hW
 have hA : DataW.TrodAll enc Tryz.prog W 0 (fun _ => true) true Tryz.f7.params.toList args.toList ds p := hA0
 rw [Tryz.params7] at hA hval
 obtain ⟨v0, v1, v2, d0, d1, d2, p0, p1, p2, rfl, rfl, rfl, h0, h1, h2⟩ := trodAll_three hA
 obtain ⟨rfl, rfl⟩ := trodVars_none hV
 obtain ⟨x0, y0, z0, rfl, rfl, rfl, b0, c0⟩ := open_num (hval 0 46 v0 rfl rfl) h0
 obtain ⟨x1, rfl, rfl, rfl, w1⟩ := open_int Tryz.underlying5 (hval 1 5 v1 rfl rfl) h1
 have b1 : 0 <= x1 /\ x1 <= 255 := by simpa [Lit.wf, IntKind.min, IntKind.max, IntKind.signed, IntKind.bits] using w1
 obtain ⟨x1, rfl⟩ : ∃ X : Nat, x1 = X := ⟨x1.toNat, by omega⟩
 obtain ⟨x2, rfl, rfl, rfl, w2⟩ := open_int Tryz.underlying5 (hval 2 5 v2 rfl rfl) h2
 have b2 : 0 <= x2 /\ x2 <= 255 := by simpa [Lit.wf, IntKind.min, IntKind.max, IntKind.signed, IntKind.bits] using w2
 obtain ⟨x2, rfl⟩ : ∃ X : Nat, x2 = X := ⟨x2.toNat, by omega⟩
 simp only [List.append_nil] at hW'
 refine (dyadPowers_walk x0 y0 z0 x1 x2 W b0 c0 (by omega) (by omega)).mono fun e W' ⟨he, hb⟩ => ?_
 subst he
 exact ⟨_, rfl, _, _, _, [], [], [], hW', trodAll_mk1 (shut_bool Tryz.underlying4 _), trodAll_mk3 (shut_num b0 c0) (shut_int Tryz.underlying5 w1) (shut_int Tryz.underlying5 w2), rfl, hb.frame _, fun h => by cases h⟩
theorem dyadPowers_row : Rows.DyadPowersSaid :=
 OpenClaim.holds_of_wide 7 Tryz.f7 rfl rfl rfl rfl rfl rfl rfl ⟨rfl, rfl, rfl, rfl, rfl⟩ rfl rfl rfl rfl rfl (by kernel_rfl) Tryz.func7 (by kernel_rfl)
  (of_decide_eq_true (by kernel_rfl)) (by unfold Func.isWrapper; first | (rw [if_pos (by decide +kernel)]; kernel_rfl) | (rw [if_neg (by decide +kernel)]; exact ⟨rfl, rfl⟩))
  (fun os started H enc _ => dyadPowers_lifted os started H enc)
theorem dyadPowers_holds : Rows.DyadPowersCardSaid :=
 Claim7.holds_tied_plain_at .later [] [.data, .pinned] true Rows.dyadPowersCard.stood.harness Rows.dyadPowersCard.stood.looks dyadPowers_row (fun _ h => by cases h) (by kernel_rfl) (fun _ h => by cases h) dyadPowers_row_tie rfl ⟨rfl, rfl⟩ (by kernel_rfl) rfl
  (fun f fn hf hfn => by
    obtain rfl : f = 7 := Option.some.inj ((show Tryz.prog.funcNamed "typeball/typeballlaw13.DyadPowers" = some 7 by kernel_rfl).symm.trans hf) |>.symm
    obtain rfl : fn = Tryz.f7 := (Option.some.inj (Tryz.func7.symm.trans hfn)).symm
    exact ⟨by kernel_rfl, fun j t ht => by
     rw [Tryz.params7] at ht
     have hm : t ∈ [46, 5] := by simpa using Array.mem_of_getElem? ht
     have hall : ([46, 5].all fun u => !Tryz.prog.wantsStandIn u) = true := by kernel_rfl
     exact (show Tryz.prog.wantsStandIn t = false by simpa using List.all_eq_true.1 hall t hm)⟩)
  (by kernel_rfl)
#print axioms dyadPowers_holds
end Go.Proofs.YtpdcdebnkbnogaaGreatDoor
