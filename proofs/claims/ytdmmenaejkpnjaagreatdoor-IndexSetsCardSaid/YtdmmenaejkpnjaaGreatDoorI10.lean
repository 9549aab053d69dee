/-
  Texts of this seat, laid together.
-/
import Derived.Shelf.Abstract
import Derived.Laws.EntriesVeiled
import Derived.Laws.OwnMore
import Derived.Deep.RegionHeld3
import Derived.ProofKit
import Derived.Carry
import Derived.Deep.Strs
import Derived.OpenShut
import Derived.Deep.Slices
import Derived.Lib.SmallJoins
import Derived.StillTailTactics
import Derived.Lib.AppendZeros
import Derived.Deep.QuietTactic
import Derived.BigQuiet
import Derived.Deep.AppendSrc
import Derived.Deep.Upon
import Derived.Test.YtdmmenaejkpnjaaGreatDoorI9
set_option maxHeartbeats 12800000
set_option maxRecDepth 100000
set_option linter.unusedSimpArgs false
set_option linter.unusedVariables false
namespace Go.Proofs.YtdmmenaejkpnjaaGreatDoor
open Go.RowKit
attribute [local go_sem ↓] Go.wp_at_zero Go.wp_at_succ
def iwD1:Nat->Sb:=fun _=>(false,(fun _=>((2:Nat):Int)),1,false,2,(fun _=>0),lt [3,1],(fun _=>1))
def iwD2:Nat->Sb:=fun _=>(false,(fun _=>0),0,false,1,(fun _=>0),(fun _=>2),(fun _=>1))
def iw1S:Nat->Int:=ixT (fun _=>((3:Nat):Int)) iwD1 1
def iwG1:Nat->Int:=pkG (fun _=>((3:Nat):Int)) (lnF (ixN (fun _=>((3:Nat):Int)) iwD1)) 1 (ixF 1 iwD1)
def iw1g:Nat->Int:=fun j=>elC 3 (fun _=>0) 32 (iwG1 j)
def iw1P:Nat->Int:=fun j=>elP 3 (lt [5,6,7]) (iwG1 j)
def iw1Q:Nat->Nat:=fun j=>elQ 3 (fun _=>1) (iwG1 j)
def iwG2:Nat->Int:=pkG (fun _=>((3:Nat):Int)) (lnF (ixN (fun _=>((3:Nat):Int)) iwD2)) 1 (ixF 1 iwD2)
def iwM2:Nat:=(itm (lnF (ixN (fun _=>((3:Nat):Int)) iwD2)) 1).toNat
def iw2g:Nat->Int:=puF iwG2 (fun j=>(fun _=>0:Nat->Int) (j%1)) iwM2 (fun _=>0)
def iw2P:Nat->Int:=puF iwG2 (fun j=>(fun _=>9:Nat->Int) (j%1)) iwM2 (lt [5,6,7])
def iw2Q:Nat->Nat:=puF iwG2 (fun j=>(fun _=>1:Nat->Nat) (j%1)) iwM2 (fun _=>1)
theorem SRow.one {yw : World} {al ch : Bool} {more : Int} {d : Nat -> Int} {na : Option Addr} {nn nc : Nat} {ta : Option Addr} {tn tc : Nat} {D : Nat -> Sb} (e1 : al = (D 0).al) (e2 : ch = (D 0).ch) (e3 : more = ((D 0).r : Nat) - 1) (e4 : d = dm (D 0).S (D 0).r)
    (h:Arr yw (arrC ch more d na nn nc ta tn tc) (D 0).S (D 0).r (D 0).ch (D 0).L (D 0).g (D 0).P (D 0).Q):SRow (yw.alloc (.cells (subC al ch more d na nn nc ta tn tc) 80)) (some ⟨yw.heap.size,0,none⟩) 1 1 D:=by
 subst e1 e2 e3 e4;refine⟨Nat.le_refl _,by unfold maxLen;omega,.inr ⟨yw.heap.size,0,rfl,by rw[World.size_alloc];omega,fun j hj => ?_⟩⟩;obtain rfl:j=0:=by omega
 refine⟨na,nn,nc,ta,tn,tc,fun o v hv => ?_,h.below ((Below.refl _ _).alloc (Nat.le_refl _) _)⟩;rw[Nat.zero_mul,Nat.zero_add];exact((Row.new yw 80 _).cell o).trans (by rwa [Array.getElem?_toList]at hv)
theorem SRow.store{w:World}{a:Option Addr}{n c:Nat}{D:Nat->Sb}(h:SRow w a n c D){k:Nat}{cs0:Array Value}(hr:Row w k 36 cs0)(ha:IsA cs0)(cs:Array Value):SRow (w.setRow k cs) a n c D:=by
 obtain⟨ch',more',d',na',nn',nc',ta',tn',tc',rfl⟩:=ha;obtain⟨h0,h1,h2⟩:=h;refine⟨h0,h1,h2.imp id ?_⟩;rintro⟨b,off,rfl,hl,hc⟩;have hf:=Far.setRow w k cs;refine⟨b,off,rfl,Nat.lt_of_lt_of_le hl hf.size,fun j hj => ?_⟩;obtain⟨na,nn,nc,ta,tn,tc,e1,e2⟩:=hc j hj
 have hbk:b≠k:=by
  rintro rfl;have q0:=e1 0 _ rfl;have q1:=e1 1 _ rfl;rw[hr.cell]at q0 q1
  rcases arr_cells _ _ q0 with ⟨z0,_⟩|⟨_,_,_,z⟩|⟨_,_,_,_,_,z⟩
  · rcases arr_cells _ _ q1 with ⟨z1,_⟩|⟨_,_,_,z⟩|⟨_,_,_,_,_,z⟩
    · omega
    · cases z
    · cases z
  · cases z
  · cases z
 exact⟨na,nn,nc,ta,tn,tc,fun o v hv=>(hf.cell (a:=⟨b,_,none⟩) hbk hl).trans (e1 o v hv),e2.away hr hf⟩
theorem pintsL {wz : World} {a : Option Addr} {c n : Nat} {l : List Int} (h : KRow wz .i64 a n c (lt l)) (h64 : l.all (fun x => decide (-9223372036854775808 <= x /\ x <= 9223372036854775807)) = true) (hn : n <= 1000000) :
    Calls Tryz.prog 37 #[.slice a n c] wz fun e w'=>∃p,e=.returned (.agg p)/\PlJ w' p l n/\Below wz.heap.size wz w' :=
 (r6Ints_any a n c (lt l) wz h (lt64 h64 n) hn).mono (by
   intro e w' hq;obtain⟨p,he,_,hb⟩:=hq (fun _=>0);refine⟨p,he,fun T => ?_,hb⟩;obtain⟨p2,he2,h2,_⟩:=hq T;rw[he]at he2
   injection he2 with he2
   injection he2 with he2
   rw[he2]
   exact h2)
theorem awake11_any(w:World):Calls Tryz.prog 10 #[] w fun e w'=>e=.returned (.bool true)/\Below w.heap.size w w':=by
 have INa:Hid (∀a c wz,KRow wz .i64 a 3 c (lt [5,6,7])->Calls Tryz.prog 34 #[.slice a 3 c] wz fun e w'=>∃(na:Option Addr) (nn nc:Nat) (ta:Option Addr) (tn tc:Nat),e=.returned (.agg (arrC false (0) (dm (fun _=>((3:Nat):Int)) 1) na nn nc ta tn tc))/\Arr w' (arrC false (0) (dm (fun _=>((3:Nat):Int)) 1) na nn nc ta tn tc) (fun _=>((3:Nat):Int)) 1 false 3 (fun _=>0) (lt [5,6,7]) (fun _=>1)/\Below wz.heap.size wz w'):=Lib.hid (fun a c wz h=>(ints8_any a 3 c (lt [5,6,7]) wz h (lt64 (by decide) 3) (by omega)).mono (by
  rintro e w' ⟨x,he,h,hb⟩;have h:=h (fun _=>0);obtain⟨na,nn,nc,ta,tn,tc,rfl,_⟩:=h.form
  exact⟨na,nn,nc,ta,tn,tc,he,h,hb⟩))
 have INb:Hid (∀a c wz,KRow wz .i64 a 2 c (lt [3,1])->Calls Tryz.prog 34 #[.slice a 2 c] wz fun e w'=>∃(na:Option Addr) (nn nc:Nat) (ta:Option Addr) (tn tc:Nat),e=.returned (.agg (arrC false (0) (dm (fun _=>((2:Nat):Int)) 1) na nn nc ta tn tc))/\Arr w' (arrC false (0) (dm (fun _=>((2:Nat):Int)) 1) na nn nc ta tn tc) (fun _=>((2:Nat):Int)) 1 false 2 (fun _=>0) (lt [3,1]) (fun _=>1)/\Below wz.heap.size wz w'):=Lib.hid (fun a c wz h=>(ints8_any a 2 c (lt [3,1]) wz h (lt64 (by decide) 2) (by omega)).mono (by
  rintro e w' ⟨x,he,h,hb⟩;have h:=h (fun _=>0);obtain⟨na,nn,nc,ta,tn,tc,rfl,_⟩:=h.form
  exact⟨na,nn,nc,ta,tn,tc,he,h,hb⟩))
 have I9:Hid (∀wz,Calls Tryz.prog 36 #[.int .i64 9] wz fun e w'=>∃(na:Option Addr) (nn nc:Nat) (ta:Option Addr) (tn tc:Nat),e=.returned (.agg (arrC false (-1) (dm (fun _=>0) 0) na nn nc ta tn tc))/\Arr w' (arrC false (-1) (dm (fun _=>0) 0) na nn nc ta tn tc) (fun _=>0) 0 false 1 (fun _=>0) (fun _=>9) (fun _=>1)/\Below wz.heap.size wz w'):=Lib.hid (fun wz=>(int8_any 9 wz (by omega)).mono (by
  rintro e w' ⟨x,he,h,hb⟩;have h:=h (fun _=>0);obtain⟨na,nn,nc,ta,tn,tc,rfl,_⟩:=h.form
  exact⟨na,nn,nc,ta,tn,tc,he,h,hb⟩))
 have I2:Hid (∀wz,Calls Tryz.prog 36 #[.int .i64 2] wz fun e w'=>∃(na:Option Addr) (nn nc:Nat) (ta:Option Addr) (tn tc:Nat),e=.returned (.agg (arrC false (-1) (dm (fun _=>0) 0) na nn nc ta tn tc))/\Arr w' (arrC false (-1) (dm (fun _=>0) 0) na nn nc ta tn tc) (fun _=>0) 0 false 1 (fun _=>0) (fun _=>2) (fun _=>1)/\Below wz.heap.size wz w'):=Lib.hid (fun wz=>(int8_any 2 wz (by omega)).mono (by
  rintro e w' ⟨x,he,h,hb⟩;have h:=h (fun _=>0);obtain⟨na,nn,nc,ta,tn,tc,rfl,_⟩:=h.form
  exact⟨na,nn,nc,ta,tn,tc,he,h,hb⟩))
 have II:Hid (∀x a c wz,Arr wz x (fun _=>((3:Nat):Int)) 1 false 3 (fun _=>0) (lt [5,6,7]) (fun _=>1)->SRow wz a 1 c iwD1->Calls Tryz.prog 35 #[.agg x,.int .i64 1,.slice a 1 c] wz fun e w'=>∃y,e=.returned (.tuple #[.agg y,.int .i64 0])/\Arr w' y iw1S 1 false 2 iw1g iw1P iw1Q/\Below wz.heap.size wz w'):=Lib.hid (fun x a c wz h hs =>
  (iindex_any x (fun _=>((3:Nat):Int)) 1 false 3 (fun _=>0) (lt [5,6,7]) (fun _=>1) 1 a 1 c iwD1 wz h (by decide) hs (fun _ _=>show(iwD1 0).ok from⟨by decide,by decide,by decide,fun _ _ _=>Nat.one_pos⟩) (by omega) (by omega)).mono (fun _ _ q=>q.ok (by decide)))
 have ST:Hid (∀x v a c wz,Arr wz x (fun _=>((3:Nat):Int)) 1 false 3 (fun _=>0) (lt [5,6,7]) (fun _=>1)->Arr wz v (fun _=>0) 0 false 1 (fun _=>0) (fun _=>9) (fun _=>1)->SRow wz a 1 c iwD2->Calls Tryz.prog 11 #[.agg x,.agg v,.int .i64 1,.slice a 1 c] wz fun e w'=>∃y,e=.returned (.tuple #[.agg y,.int .i64 0])/\Arr w' y (fun _=>((3:Nat):Int)) 1 false 3 iw2g iw2P iw2Q/\Below wz.heap.size wz w'):=Lib.hid (fun x v a c wz h h2 hs =>
  (iset_any x (fun _=>((3:Nat):Int)) 1 false 3 (fun _=>0) (lt [5,6,7]) (fun _=>1) v (fun _=>0) 0 false 1 (fun _=>0) (fun _=>9) (fun _=>1) 1 a 1 c iwD2 wz h h2 (by decide) (by decide) (by decide) (by decide) hs (fun _ _=>show(iwD2 0).ok from⟨by decide,by decide,by decide,fun _ _ _=>Nat.one_pos⟩) (by omega) (by omega)).mono (fun _ _ q=>q.ok (by decide)))
 have RI2:Hid (∀a c wz,KRow wz .i64 a 2 c (lt [7,5])->Calls Tryz.prog 37 #[.slice a 2 c] wz fun e w'=>∃p,e=.returned (.agg p)/\PlJ w' p [7,5] 2/\Below wz.heap.size wz w'):=Lib.hid (fun a c wz h=>pintsL h (by decide) (by omega));have RI3:Hid (∀a c wz,KRow wz .i64 a 3 c (lt [5,9,7])->Calls Tryz.prog 37 #[.slice a 3 c] wz fun e w'=>∃p,e=.returned (.agg p)/\PlJ w' p [5,9,7] 3/\Below wz.heap.size wz w'):=Lib.hid (fun a c wz h=>pintsL h (by decide) (by omega));have SH1:Hid (∀wz x p,Arr wz x iw1S 1 false 2 iw1g iw1P iw1Q->PlJ wz p [7,5] 2->Shown wz x p):=Lib.hid (fun wz x p h hp=>shownJ h hp (by omega) (by decide) (less2 (by decide) (by decide)));have SH2:Hid (∀wz x p,Arr wz x (fun _=>((3:Nat):Int)) 1 false 3 iw2g iw2P iw2Q->PlJ wz p [5,9,7] 3->Shown wz x p):=Lib.hid (fun wz x p h hp=>shownJ h hp (by omega) (by decide) (less3 (by decide) (by decide) (by decide)));have SO:=Lib.hid (fun cs p wz h=>showsOkI_any cs p wz h);go_enter Tryz.func10,Tryz.ntmps10;go_wp2_with fail;have B9:=Lib.hid (((Bag.start w).alloc (.cells #[.int .i64 5,.int .i64 6,.int .i64 7] 3)).krow (KRow.lits w [5,6,7] 3 (by decide) rfl));go_at_call 34
 (refine(INa.out _ _ _ B9.out.now.1).mono ?_)
 rintro e W1 ⟨n1,m1,d1,u1,v1,y1,rfl,h1,hb1⟩;have HB1:=Lib.hid (B9.out.go hb1).below;have HA1:=Lib.hid h1;clear h1 hb1 B9;have BB:=Lib.hid (((Bag.fresh HB1.out).arr HA1.out).newRow (arrC false (0) (dm (fun _=>((3:Nat):Int)) 1) n1 m1 d1 u1 v1 y1) 36);clear HB1 HA1;unfold arrC;go_wp2_with fail;have hWW:=BB.out.below;unfold arrC at hWW;unfold arrC at BB;generalize hW:(W1.alloc (.cells _ 36))=Y1 at *;clear hW hWW;have RW1:Hid (∀yz,Below Y1.heap.size Y1 yz->Row yz W1.heap.size 36 (arrC false (0) (dm (fun _=>((3:Nat):Int)) 1) n1 m1 d1 u1 v1 y1)):=Lib.hid (fun yz hb=>Row.below BB.out.now.1 hb);have A1:Hid (∀yz,Below Y1.heap.size Y1 yz->Arr yz (arrC false (0) (dm (fun _=>((3:Nat):Int)) 1) n1 m1 d1 u1 v1 y1) (fun _=>((3:Nat):Int)) 1 false 3 (fun _=>0) (lt [5,6,7]) (fun _=>1)):=Lib.hid (fun yz hb=>Arr.below BB.out.now.2.1 hb);have SZ1:Hid (IsA (arrC false (0) (dm (fun _=>((3:Nat):Int)) 1) n1 m1 d1 u1 v1 y1)):=Lib.hid ⟨_,_,_,_,_,_,_,_,_,rfl⟩;have BB:=Lib.hid (Bag.fresh BB.out.below);generalize (arrC false (0) (dm (fun _=>((3:Nat):Int)) 1) n1 m1 d1 u1 v1 y1)=X1 at RW1 A1 SZ1
 refine wp_region_inv2 ⟨(fun j=>([[9], [10], [11], [12], [13], [14], [8], [15], [16], [2], [2], [3]]:List (List Nat)).getD j []),(fun j=>([[], [], [1], [1,2], [1,2,3], [0,1,2,3,4], [0,1,2,3,4,5], [0,1,2,3,4,5,6], [0,1,2,3,4,5,6], [], [0,1,2,3,4,5,6,7,9], [0,1,2,3,4,5,6,7,8,9,10]]:List (List Nat)).getD j []), [1,4,9]⟩ (fun jj vv yy=>match jj with|0=>vv = [some (.agg X1)]|1=>∃(k1:Nat),vv = [some (.slice (some ⟨k1,0,none⟩) 2 2)]/\KRow yy .i64 (some ⟨k1,0,none⟩) 2 2 (lt [3,1])|2=>∃(na2:Option Addr),∃(nn2:Nat),∃(nc2:Nat),∃(ta2:Option Addr),∃(tn2:Nat),∃(tc2:Nat),vv = [some (.agg (arrC false (0) (dm (fun _=>((2:Nat):Int)) 1) na2 nn2 nc2 ta2 tn2 tc2))]/\Arr yy (arrC false (0) (dm (fun _=>((2:Nat):Int)) 1) na2 nn2 nc2 ta2 tn2 tc2) (fun _=>((2:Nat):Int)) 1 false 2 (fun _=>0) (lt [3,1]) (fun _=>1)|3=>∃(na2:Option Addr),∃(nn2:Nat),∃(nc2:Nat),∃(ta2:Option Addr),∃(tn2:Nat),∃(tc2:Nat),vv = [some (.agg (subC false false (0) (dm (fun _=>((2:Nat):Int)) 1) na2 nn2 nc2 ta2 tn2 tc2))]/\Arr yy (arrC false (0) (dm (fun _=>((2:Nat):Int)) 1) na2 nn2 nc2 ta2 tn2 tc2) (fun _=>((2:Nat):Int)) 1 false 2 (fun _=>0) (lt [3,1]) (fun _=>1)|4=>∃(k4:Nat),vv = [some (.slice (some ⟨k4,0,none⟩) 1 1)]/\SRow yy (some ⟨k4,0,none⟩) 1 1 iwD1|5=>∃(x5:Array Value),vv = [some (.tuple #[.agg x5,.int .i64 0])]/\Arr yy x5 iw1S 1 false 2 iw1g iw1P iw1Q/\IsA x5|6=>∃(x5:Array Value),vv = [some (.tuple #[.agg x5,.int .i64 0])]/\Arr yy x5 iw1S 1 false 2 iw1g iw1P iw1Q/\IsA x5|7=>∃(x5:Array Value),vv = [some (.agg x5)]/\Arr yy x5 iw1S 1 false 2 iw1g iw1P iw1Q/\IsA x5|8=>vv = [some (.int .i64 0)]|9=>∃(k9:Nat),∃(z9:Array Value),vv = [some (.pointer (some ⟨k9,0,none⟩))]/\Row yy k9 36 z9/\IsA z9/\Y1.heap.size<=k9|10=>∃(k9:Nat),∃(x5:Array Value),vv = [some (.pointer (some ⟨k9,0,none⟩))]/\Row yy k9 36 x5/\Arr yy x5 iw1S 1 false 2 iw1g iw1P iw1Q/\IsA x5|11=>vv = [some (.int .i64 0)]|_=>True) (Bag Y1 (fun _=>True)) (by kernel_rfl) (by kernel_rfl) (by kernel_rfl) (Bag.start Y1).drew ?_ ?_ ?_
 · intro jj vv yw yw2 hb h
   match jj,h with
   | 0,h=>exact h
   | 1,⟨k1,e1,g1_0⟩=>exact Exists.intro k1 (And.intro e1 (g1_0.below hb))
   | 2,⟨na2,nn2,nc2,ta2,tn2,tc2,e2,g2_0⟩=>exact Exists.intro na2 (Exists.intro nn2 (Exists.intro nc2 (Exists.intro ta2 (Exists.intro tn2 (Exists.intro tc2 (And.intro e2 (g2_0.below hb)))))))
   | 3,⟨na2,nn2,nc2,ta2,tn2,tc2,e3,g3_0⟩=>exact Exists.intro na2 (Exists.intro nn2 (Exists.intro nc2 (Exists.intro ta2 (Exists.intro tn2 (Exists.intro tc2 (And.intro e3 (g3_0.below hb)))))))
   | 4,⟨k4,e4,g4_0⟩=>exact Exists.intro k4 (And.intro e4 (g4_0.below hb))
   | 5,⟨x5,e5,g5_0,g5_1⟩=>exact Exists.intro x5 (And.intro e5 (And.intro (g5_0.below hb) g5_1))
   | 6,⟨x5,e6,g6_0,g6_1⟩=>exact Exists.intro x5 (And.intro e6 (And.intro (g6_0.below hb) g6_1))
   | 7,⟨x5,e7,g7_0,g7_1⟩=>exact Exists.intro x5 (And.intro e7 (And.intro (g7_0.below hb) g7_1))
   | 8,h=>exact h
   | 9,⟨k9,z9,e9,g9_0,g9_1,g9_2⟩=>exact Exists.intro k9 (Exists.intro z9 (And.intro e9 (And.intro (g9_0.below hb) (And.intro g9_1 g9_2))))
   | 10,⟨k9,x5,e10,g10_0,g10_1,g10_2⟩=>exact Exists.intro k9 (Exists.intro x5 (And.intro e10 (And.intro (g10_0.below hb) (And.intro (g10_1.below hb) g10_2))))
   | 11,h=>exact h
   | _+12,h=>exact h
 · intro ac yw hsz hdf hold hB hp; obtain ⟨ka, xa, es, rs, ms, zs⟩ := hp 10 (by decide); have t2 : ac.tmps[2]? = some (.pointer (some ⟨ka, 0, none⟩)) := (List.cons.inj es).1; have t3 : ac.tmps[3]? = some (.int .i64 0) := (List.cons.inj (hp 11 (by decide))).1; have t1 : ac.tmps[1]? = some (.pointer (some ⟨W1.heap.size, 0, none⟩)) := hold 1 (by kernel_rfl); have RW1 := Lib.hid (fun yz hb => RW1.out yz (hB.below.trans (Below.mono hb hB.below.size))); have A1 := Lib.hid (fun yz hb => A1.out yz (hB.below.trans (Below.mono hb hB.below.size))); have RWa := Lib.hid (fun yz (hb : Below yw.heap.size yw yz) => Row.below rs hb); have Aa := Lib.hid (fun yz (hb : Below yw.heap.size yw yz) => Arr.below ms hb); have SZa := Lib.hid zs; have BB := Lib.hid (BB.out.go hB.below); clear hold hp es rs ms zs hB; obtain ⟨TX, hTX⟩ : ∃ TX : Nat -> Value, ∀ i, (ac.tmps[i]?).getD undef = TX i := ⟨_, fun _ => rfl⟩
   have f1:=(hTX 1).symm.trans (congrArg (fun x=>Option.getD x undef) t1);have f2:=(hTX 2).symm.trans (congrArg (fun x=>Option.getD x undef) t2);have f3:=(hTX 3).symm.trans (congrArg (fun x=>Option.getD x undef) t3);have hac:=act_eq (n:=38) hsz TX hTX;rw[show((List.range 38).map TX).toArray=#[TX 0,TX 1,TX 2,TX 3,TX 4,TX 5,TX 6,TX 7,TX 8,TX 9,TX 10,TX 11,TX 12,TX 13,TX 14,TX 15,TX 16,TX 17,TX 18,TX 19,TX 20,TX 21,TX 22,TX 23,TX 24,TX 25,TX 26,TX 27,TX 28,TX 29,TX 30,TX 31,TX 32,TX 33,TX 34,TX 35,TX 36,TX 37]from rfl,f1,f2,f3,hdf]at hac;simp only[Option.getD_some]at hac;subst hac;clear hTX f1 f2 f3;go_wp2_with fail;generalize yw=Y2 at *
   refine wp_region_inv2 ⟨(fun j=>([[18], [19], [20], [21], [22], [23], [17], [24], [25], [4], [4], [5]]:List (List Nat)).getD j []),(fun j=>([[], [], [1], [1,2], [1,2,3], [0,1,2,3,4], [0,1,2,3,4,5], [0,1,2,3,4,5,6], [0,1,2,3,4,5,6], [], [0,1,2,3,4,5,6,7,9], [0,1,2,3,4,5,6,7,8,9,10]]:List (List Nat)).getD j []), [4,9]⟩ (fun jj vv yy=>match jj with|0=>vv = [some (.agg X1)]|1=>∃(na1:Option Addr),∃(nn1:Nat),∃(nc1:Nat),∃(ta1:Option Addr),∃(tn1:Nat),∃(tc1:Nat),vv = [some (.agg (arrC false (-1) (dm (fun _=>0) 0) na1 nn1 nc1 ta1 tn1 tc1))]/\Arr yy (arrC false (-1) (dm (fun _=>0) 0) na1 nn1 nc1 ta1 tn1 tc1) (fun _=>0) 0 false 1 (fun _=>0) (fun _=>9) (fun _=>1)|2=>∃(na2:Option Addr),∃(nn2:Nat),∃(nc2:Nat),∃(ta2:Option Addr),∃(tn2:Nat),∃(tc2:Nat),vv = [some (.agg (arrC false (-1) (dm (fun _=>0) 0) na2 nn2 nc2 ta2 tn2 tc2))]/\Arr yy (arrC false (-1) (dm (fun _=>0) 0) na2 nn2 nc2 ta2 tn2 tc2) (fun _=>0) 0 false 1 (fun _=>0) (fun _=>2) (fun _=>1)|3=>∃(na2:Option Addr),∃(nn2:Nat),∃(nc2:Nat),∃(ta2:Option Addr),∃(tn2:Nat),∃(tc2:Nat),vv = [some (.agg (subC false false (-1) (dm (fun _=>0) 0) na2 nn2 nc2 ta2 tn2 tc2))]/\Arr yy (arrC false (-1) (dm (fun _=>0) 0) na2 nn2 nc2 ta2 tn2 tc2) (fun _=>0) 0 false 1 (fun _=>0) (fun _=>2) (fun _=>1)|4=>∃(k4:Nat),vv = [some (.slice (some ⟨k4,0,none⟩) 1 1)]/\SRow yy (some ⟨k4,0,none⟩) 1 1 iwD2|5=>∃(x5:Array Value),vv = [some (.tuple #[.agg x5,.int .i64 0])]/\Arr yy x5 (fun _=>((3:Nat):Int)) 1 false 3 iw2g iw2P iw2Q/\IsA x5|6=>∃(x5:Array Value),vv = [some (.tuple #[.agg x5,.int .i64 0])]/\Arr yy x5 (fun _=>((3:Nat):Int)) 1 false 3 iw2g iw2P iw2Q/\IsA x5|7=>∃(x5:Array Value),vv = [some (.agg x5)]/\Arr yy x5 (fun _=>((3:Nat):Int)) 1 false 3 iw2g iw2P iw2Q/\IsA x5|8=>vv = [some (.int .i64 0)]|9=>∃(k9:Nat),∃(z9:Array Value),vv = [some (.pointer (some ⟨k9,0,none⟩))]/\Row yy k9 36 z9/\IsA z9/\Y2.heap.size<=k9|10=>∃(k9:Nat),∃(x5:Array Value),vv = [some (.pointer (some ⟨k9,0,none⟩))]/\Row yy k9 36 x5/\Arr yy x5 (fun _=>((3:Nat):Int)) 1 false 3 iw2g iw2P iw2Q/\IsA x5|11=>vv = [some (.int .i64 0)]|_=>True) (Bag Y2 (fun _=>True)) (by kernel_rfl) (by kernel_rfl) (by kernel_rfl) (Bag.start Y2).drew ?_ ?_ ?_
   · intro jj vv yw yw2 hb h
     match jj,h with
     | 0,h=>exact h
     | 1,⟨na1,nn1,nc1,ta1,tn1,tc1,e1,g1_0⟩=>exact Exists.intro na1 (Exists.intro nn1 (Exists.intro nc1 (Exists.intro ta1 (Exists.intro tn1 (Exists.intro tc1 (And.intro e1 (g1_0.below hb)))))))
     | 2,⟨na2,nn2,nc2,ta2,tn2,tc2,e2,g2_0⟩=>exact Exists.intro na2 (Exists.intro nn2 (Exists.intro nc2 (Exists.intro ta2 (Exists.intro tn2 (Exists.intro tc2 (And.intro e2 (g2_0.below hb)))))))
     | 3,⟨na2,nn2,nc2,ta2,tn2,tc2,e3,g3_0⟩=>exact Exists.intro na2 (Exists.intro nn2 (Exists.intro nc2 (Exists.intro ta2 (Exists.intro tn2 (Exists.intro tc2 (And.intro e3 (g3_0.below hb)))))))
     | 4,⟨k4,e4,g4_0⟩=>exact Exists.intro k4 (And.intro e4 (g4_0.below hb))
     | 5,⟨x5,e5,g5_0,g5_1⟩=>exact Exists.intro x5 (And.intro e5 (And.intro (g5_0.below hb) g5_1))
     | 6,⟨x5,e6,g6_0,g6_1⟩=>exact Exists.intro x5 (And.intro e6 (And.intro (g6_0.below hb) g6_1))
     | 7,⟨x5,e7,g7_0,g7_1⟩=>exact Exists.intro x5 (And.intro e7 (And.intro (g7_0.below hb) g7_1))
     | 8,h=>exact h
     | 9,⟨k9,z9,e9,g9_0,g9_1,g9_2⟩=>exact Exists.intro k9 (Exists.intro z9 (And.intro e9 (And.intro (g9_0.below hb) (And.intro g9_1 g9_2))))
     | 10,⟨k9,x5,e10,g10_0,g10_1,g10_2⟩=>exact Exists.intro k9 (Exists.intro x5 (And.intro e10 (And.intro (g10_0.below hb) (And.intro (g10_1.below hb) g10_2))))
     | 11,h=>exact h
     | _+12,h=>exact h
   · intro ac yw hsz hdf hold hB hp;obtain⟨kb,xb,es,rs,ms,zs⟩:=hp 10 (by decide);have t4:ac.tmps[4]? = some (.pointer (some ⟨kb,0,none⟩)):=(List.cons.inj es).1;have t5:ac.tmps[5]? = some (.int .i64 0):=(List.cons.inj (hp 11 (by decide))).1;have t2:ac.tmps[2]? = some (.pointer (some ⟨ka,0,none⟩)):=hold 2 (by kernel_rfl);have t3:ac.tmps[3]? = some (.int .i64 0):=hold 3 (by kernel_rfl);have RWa:=Lib.hid (fun yz hb=>RWa.out yz (hB.below.trans (Below.mono hb hB.below.size)));have Aa:=Lib.hid (fun yz hb=>Aa.out yz (hB.below.trans (Below.mono hb hB.below.size)));have RWb:=Lib.hid (fun yz (hb:Below yw.heap.size yw yz)=>Row.below rs hb);have Ab:=Lib.hid (fun yz (hb:Below yw.heap.size yw yz)=>Arr.below ms hb);have SZb:=Lib.hid zs;have BB:=Lib.hid (BB.out.go hB.below);clear hold hp es rs ms zs hB;obtain⟨TU,hTU⟩:∃TU:Nat->Value,∀i,(ac.tmps[i]?).getD undef=TU i:=⟨_,fun _=>rfl⟩
     have f2:=(hTU 2).symm.trans (congrArg (fun x=>Option.getD x undef) t2);have f3:=(hTU 3).symm.trans (congrArg (fun x=>Option.getD x undef) t3);have f4:=(hTU 4).symm.trans (congrArg (fun x=>Option.getD x undef) t4);have f5:=(hTU 5).symm.trans (congrArg (fun x=>Option.getD x undef) t5);have hac:=act_eq (n:=38) hsz TU hTU;rw[show((List.range 38).map TU).toArray=#[TU 0,TU 1,TU 2,TU 3,TU 4,TU 5,TU 6,TU 7,TU 8,TU 9,TU 10,TU 11,TU 12,TU 13,TU 14,TU 15,TU 16,TU 17,TU 18,TU 19,TU 20,TU 21,TU 22,TU 23,TU 24,TU 25,TU 26,TU 27,TU 28,TU 29,TU 30,TU 31,TU 32,TU 33,TU 34,TU 35,TU 36,TU 37]from rfl,f2,f3,f4,f5,hdf]at hac;simp only[Option.getD_some]at hac;subst hac;clear hTU f2 f3 f4 f5;go_wp2_with fail;generalize yw=Y3 at *
     refine wp_region_inv2 ⟨(fun j=>([[26], [27], [28], [29], [30], [31], [32], [33], [34], [35], [36], [37], [0]]:List (List Nat)).getD j []),(fun j=>([[], [], [], [2], [0,1,2,3], [0,1,2,3,4], [0,1,2,3,4,5], [0,1,2,3,4,5], [0,1,2,3,4,5], [0,1,2,3,4,5,8], [0,1,2,3,4,5,6,7,8,9], [0,1,2,3,4,5,6,7,8,9,10], [0,1,2,3,4,5,6,7,8,9,10,11]]:List (List Nat)).getD j []), [2,8]⟩ (fun jj vv yy=>match jj with|0=>vv = [some (.agg xa)]|1=>vv = [some (.int .i64 0)]|2=>∃(k2:Nat),vv = [some (.slice (some ⟨k2,0,none⟩) 2 2)]/\KRow yy .i64 (some ⟨k2,0,none⟩) 2 2 (lt [7,5])|3=>∃(x3:Array Value),vv = [some (.agg x3)]/\PlJ yy x3 [7,5] 2|4=>vv = [some (.bool true)]|5=>vv = [some (.bool true)]|6=>vv = [some (.agg xb)]|7=>vv = [some (.int .i64 0)]|8=>∃(k8:Nat),vv = [some (.slice (some ⟨k8,0,none⟩) 3 3)]/\KRow yy .i64 (some ⟨k8,0,none⟩) 3 3 (lt [5,9,7])|9=>∃(x9:Array Value),vv = [some (.agg x9)]/\PlJ yy x9 [5,9,7] 3|10=>vv = [some (.bool true)]|11=>vv = [some (.bool true)]|12=>vv = [some (.bool true)]|_=>True) (Bag Y3 (fun _=>True)) (by kernel_rfl) (by kernel_rfl) (by kernel_rfl) (Bag.start Y3).drew ?_ ?_ ?_
     · intro jj vv yw yw2 hb h
       match jj,h with
       | 0,h=>exact h
       | 1,h=>exact h
       | 2,⟨k2,e2,g2_0⟩=>exact Exists.intro k2 (And.intro e2 (g2_0.below hb))
       | 3,⟨x3,e3,g3_0⟩=>exact Exists.intro x3 (And.intro e3 (g3_0.below hb))
       | 4,h=>exact h
       | 5,h=>exact h
       | 6,h=>exact h
       | 7,h=>exact h
       | 8,⟨k8,e8,g8_0⟩=>exact Exists.intro k8 (And.intro e8 (g8_0.below hb))
       | 9,⟨x9,e9,g9_0⟩=>exact Exists.intro x9 (And.intro e9 (g9_0.below hb))
       | 10,h=>exact h
       | 11,h=>exact h
       | 12,h=>exact h
       | _+13,h=>exact h
     · intro ac yw hsz hdf hold hB hp;have t0:ac.tmps[0]? = some (.bool true):=(List.cons.inj (hp 12 (by decide))).1;have HE:=Lib.hid (BB.out.go hB.below).below;clear hold hp;obtain⟨TV,hTV⟩:∃TV:Nat->Value,∀i,(ac.tmps[i]?).getD undef=TV i:=⟨_,fun _=>rfl⟩
       have f0:=(hTV 0).symm.trans (congrArg (fun x=>Option.getD x undef) t0);have hac:=act_eq (n:=38) hsz TV hTV;rw[show((List.range 38).map TV).toArray=#[TV 0,TV 1,TV 2,TV 3,TV 4,TV 5,TV 6,TV 7,TV 8,TV 9,TV 10,TV 11,TV 12,TV 13,TV 14,TV 15,TV 16,TV 17,TV 18,TV 19,TV 20,TV 21,TV 22,TV 23,TV 24,TV 25,TV 26,TV 27,TV 28,TV 29,TV 30,TV 31,TV 32,TV 33,TV 34,TV 35,TV 36,TV 37]from rfl,f0,hdf]at hac;simp only[Option.getD_some]at hac;subst hac;clear hTV f0;go_wp2;go_ret;exact⟨rfl,HE.out⟩
     refine Stps2.cons (o:=_) ?_ ?_
     · intro ac yw hsz hold hB hp K hK;have t2:ac.tmps[2]? = some (.pointer (some ⟨ka,0,none⟩)):=hold 2 (by kernel_rfl);clear hold hp hsz;rw[if_pos (by rfl)];refine ld8 2 rfl (ka) (xa) t2 (RWa.out _ hB.below) (SZa.out.size) ?_;exact hK.out _ _ ⟨hB,rfl,Nat.le_refl _,.inl (Below.refl _ _),fun h=>absurd h (by decide)⟩
     refine Stps2.cons (o:=_) ?_ ?_
     · intro ac yw hsz hold hB hp K hK;have t3:ac.tmps[3]? = some (.int .i64 0):=hold 3 (by kernel_rfl);clear hold hp hsz;go_simp;exact hK.out _ _ ⟨hB,rfl,Nat.le_refl _,.inl (Below.refl _ _),fun h=>absurd h (by decide)⟩
     refine Stps2.cons (o:=_) ?_ ?_
     · intro ac yw hsz hold hB hp K hK;clear hold hp hsz;have hbz:Below yw.heap.size yw (yw.alloc (.cells #[.int .i64 7,.int .i64 5] 3))/\yw.heap.size<(yw.alloc (.cells #[.int .i64 7,.int .i64 5] 3)).heap.size:=⟨(Below.refl _ _).alloc (Nat.le_refl _) _,by rw[World.size_alloc];omega⟩
       have kz:KRow (yw.alloc (.cells #[.int .i64 7,.int .i64 5] 3)) .i64 (some ⟨yw.heap.size,0,none⟩) 2 2 (lt [7,5]):=KRow.lits yw [7,5] 3 (by decide) rfl;go_simp;exact hK.out _ _ ⟨hB.alloc _,Exists.intro yw.heap.size (And.intro rfl kz),Nat.le_of_lt hbz.2,.inl hbz.1,fun _=>⟨_,rfl,Nat.le_refl _,hbz.2⟩⟩
     refine Stps2.cons (o:=_) ?_ ?_
     · intro ac yw hsz hold hB hp K hK;obtain⟨k2_2,e2,g2_0⟩:=hp 2 (by decide);have t28:ac.tmps[28]? = some (.slice (some ⟨k2_2,0,none⟩) 2 2):=(List.cons.inj e2).1;clear hold hp hsz e2;go_simp
       (go_at_call 37;(with_reducible refine(RI2.out _ _ _ g2_0).mono ?_);rintro e wz ⟨x3,rfl,h3_0,hbz⟩)
       exact hK.out _ _ ⟨hB.go hbz,Exists.intro x3 (And.intro rfl h3_0),hbz.size,.inl hbz,fun h=>absurd h (by decide)⟩
     refine Stps2.cons (o:=_) ?_ ?_
     · intro ac yw hsz hold hB hp K hK;have e0:=hp 0 (by decide);have t26:ac.tmps[26]? = some (.agg xa):=(List.cons.inj e0).1;have e1:=hp 1 (by decide);have t27:ac.tmps[27]? = some (.int .i64 0):=(List.cons.inj e1).1;obtain⟨x3_3,e3,g3_0⟩:=hp 3 (by decide);have t29:ac.tmps[29]? = some (.agg x3_3):=(List.cons.inj e3).1;clear hold hp hsz e0 e1 e3;go_simp
       (go_at_call 14;(with_reducible refine(SO.out _ _ _ (SH1.out _ _ _ (Aa.out _ hB.below) g3_0)).mono ?_);rintro e wz ⟨rfl,hbz⟩)
       exact hK.out _ _ ⟨hB.go hbz,rfl,hbz.size,.inl hbz,fun h=>absurd h (by decide)⟩
     refine Stps2.cons (o:=_) ?_ ?_
     · intro ac yw hsz hold hB hp K hK;have e4:=hp 4 (by decide);have t30:ac.tmps[30]? = some (.bool true):=(List.cons.inj e4).1;clear hold hp hsz e4;go_simp;exact hK.out _ _ ⟨hB,rfl,Nat.le_refl _,.inl (Below.refl _ _),fun h=>absurd h (by decide)⟩
     refine Stps2.cons (o:=_) ?_ ?_
     · intro ac yw hsz hold hB hp K hK;have t31:ac.tmps[31]? = some (.bool true):=(List.cons.inj (hp 5 (by decide))).1;rw[if_pos (wanted_pos rfl rfl t31)];have t4:ac.tmps[4]? = some (.pointer (some ⟨kb,0,none⟩)):=hold 4 (by kernel_rfl);clear hold hp hsz;refine ld8 4 rfl (kb) (xb) t4 (RWb.out _ hB.below) (SZb.out.size) ?_;exact hK.out _ _ ⟨hB,rfl,Nat.le_refl _,.inl (Below.refl _ _),fun h=>absurd h (by decide)⟩
     refine Stps2.cons (o:=_) ?_ ?_
     · intro ac yw hsz hold hB hp K hK;have t31:ac.tmps[31]? = some (.bool true):=(List.cons.inj (hp 5 (by decide))).1;rw[if_pos (wanted_pos rfl rfl t31)];have t5:ac.tmps[5]? = some (.int .i64 0):=hold 5 (by kernel_rfl);clear hold hp hsz;go_simp;exact hK.out _ _ ⟨hB,rfl,Nat.le_refl _,.inl (Below.refl _ _),fun h=>absurd h (by decide)⟩
     refine Stps2.cons (o:=_) ?_ ?_
     · intro ac yw hsz hold hB hp K hK;have t31:ac.tmps[31]? = some (.bool true):=(List.cons.inj (hp 5 (by decide))).1;rw[if_pos (wanted_pos rfl rfl t31)];clear hold hp hsz;have hbz:Below yw.heap.size yw (yw.alloc (.cells #[.int .i64 5,.int .i64 9,.int .i64 7] 3))/\yw.heap.size<(yw.alloc (.cells #[.int .i64 5,.int .i64 9,.int .i64 7] 3)).heap.size:=⟨(Below.refl _ _).alloc (Nat.le_refl _) _,by rw[World.size_alloc];omega⟩
       have kz:KRow (yw.alloc (.cells #[.int .i64 5,.int .i64 9,.int .i64 7] 3)) .i64 (some ⟨yw.heap.size,0,none⟩) 3 3 (lt [5,9,7]):=KRow.lits yw [5,9,7] 3 (by decide) rfl;go_simp;exact hK.out _ _ ⟨hB.alloc _,Exists.intro yw.heap.size (And.intro rfl kz),Nat.le_of_lt hbz.2,.inl hbz.1,fun _=>⟨_,rfl,Nat.le_refl _,hbz.2⟩⟩
     refine Stps2.cons (o:=_) ?_ ?_
     · intro ac yw hsz hold hB hp K hK;have t31:ac.tmps[31]? = some (.bool true):=(List.cons.inj (hp 5 (by decide))).1;rw[if_pos (wanted_pos rfl rfl t31)];obtain⟨k8_8,e8,g8_0⟩:=hp 8 (by decide);have t34:ac.tmps[34]? = some (.slice (some ⟨k8_8,0,none⟩) 3 3):=(List.cons.inj e8).1;clear hold hp hsz e8;go_simp
       (go_at_call 37;(with_reducible refine(RI3.out _ _ _ g8_0).mono ?_);rintro e wz ⟨x9,rfl,h9_0,hbz⟩)
       exact hK.out _ _ ⟨hB.go hbz,Exists.intro x9 (And.intro rfl h9_0),hbz.size,.inl hbz,fun h=>absurd h (by decide)⟩
     refine Stps2.cons (o:=_) ?_ ?_
     · intro ac yw hsz hold hB hp K hK;have t31:ac.tmps[31]? = some (.bool true):=(List.cons.inj (hp 5 (by decide))).1;rw[if_pos (wanted_pos rfl rfl t31)];have e6:=hp 6 (by decide);have t32:ac.tmps[32]? = some (.agg xb):=(List.cons.inj e6).1;have e7:=hp 7 (by decide);have t33:ac.tmps[33]? = some (.int .i64 0):=(List.cons.inj e7).1;obtain⟨x9_9,e9,g9_0⟩:=hp 9 (by decide);have t35:ac.tmps[35]? = some (.agg x9_9):=(List.cons.inj e9).1;clear hold hp hsz e6 e7 e9;go_simp
       (go_at_call 14;(with_reducible refine(SO.out _ _ _ (SH2.out _ _ _ (Ab.out _ hB.below) g9_0)).mono ?_);rintro e wz ⟨rfl,hbz⟩)
       exact hK.out _ _ ⟨hB.go hbz,rfl,hbz.size,.inl hbz,fun h=>absurd h (by decide)⟩
     refine Stps2.cons (o:=_) ?_ ?_
     · intro ac yw hsz hold hB hp K hK;have e5:=hp 5 (by decide);have t31:ac.tmps[31]? = some (.bool true):=(List.cons.inj e5).1;have e10:=hp 10 (by decide);have t36:ac.tmps[36]? = some (.bool true):=(List.cons.inj e10).1;clear hold hp hsz e5 e10;go_simp;exact hK.out _ _ ⟨hB,rfl,Nat.le_refl _,.inl (Below.refl _ _),fun h=>absurd h (by decide)⟩
     refine Stps2.cons (o:=_) ?_ ?_
     · intro ac yw hsz hold hB hp K hK;have e11:=hp 11 (by decide);have t37:ac.tmps[37]? = some (.bool true):=(List.cons.inj e11).1;clear hold hp hsz e11;go_simp;exact hK.out _ _ ⟨hB,rfl,Nat.le_refl _,.inl (Below.refl _ _),fun h=>absurd h (by decide)⟩
     exact Stps2.nil _
   refine Stps2.cons (o:=_) ?_ ?_
   · intro ac yw hsz hold hB hp K hK;have t1:ac.tmps[1]? = some (.pointer (some ⟨W1.heap.size,0,none⟩)):=hold 1 (by kernel_rfl);clear hold hp hsz;rw[if_pos (by rfl)];refine ld8 1 rfl (W1.heap.size) (X1) t1 (RW1.out _ hB.below) (SZ1.out.size) ?_;exact hK.out _ _ ⟨hB,rfl,Nat.le_refl _,.inl (Below.refl _ _),fun h=>absurd h (by decide)⟩
   refine Stps2.cons (o:=_) ?_ ?_
   · intro ac yw hsz hold hB hp K hK;clear hold hp hsz;go_simp
     (go_at_call 36;(refine(I9.out _).mono ?_);rintro e wz ⟨na1,nn1,nc1,ta1,tn1,tc1,rfl,h1_0,hbz⟩)
     exact hK.out _ _ ⟨hB.go hbz,Exists.intro na1 (Exists.intro nn1 (Exists.intro nc1 (Exists.intro ta1 (Exists.intro tn1 (Exists.intro tc1 (And.intro rfl h1_0)))))),hbz.size,.inl hbz,fun h=>absurd h (by decide)⟩
   refine Stps2.cons (o:=_) ?_ ?_
   · intro ac yw hsz hold hB hp K hK;clear hold hp hsz;go_simp
     (go_at_call 36;(refine(I2.out _).mono ?_);rintro e wz ⟨na2,nn2,nc2,ta2,tn2,tc2,rfl,h2_0,hbz⟩)
     exact hK.out _ _ ⟨hB.go hbz,Exists.intro na2 (Exists.intro nn2 (Exists.intro nc2 (Exists.intro ta2 (Exists.intro tn2 (Exists.intro tc2 (And.intro rfl h2_0)))))),hbz.size,.inl hbz,fun h=>absurd h (by decide)⟩
   refine Stps2.cons (o:=_) ?_ ?_
   · intro ac yw hsz hold hB hp K hK;obtain⟨na2_2,nn2_2,nc2_2,ta2_2,tn2_2,tc2_2,e2,g2_0⟩:=hp 2 (by decide);have t20:ac.tmps[20]? = some (.agg (arrC false (-1) (dm (fun _=>0) 0) na2_2 nn2_2 nc2_2 ta2_2 tn2_2 tc2_2)):=(List.cons.inj e2).1;clear hold hp hsz e2;unfold arrC at t20;go_simp;exact hK.out _ _ ⟨hB,Exists.intro na2_2 (Exists.intro nn2_2 (Exists.intro nc2_2 (Exists.intro ta2_2 (Exists.intro tn2_2 (Exists.intro tc2_2 (And.intro rfl g2_0)))))),Nat.le_refl _,.inl (Below.refl _ _),fun h=>absurd h (by decide)⟩
   refine Stps2.cons (o:=_) ?_ ?_
   · intro ac yw hsz hold hB hp K hK;obtain⟨na2_3,nn2_3,nc2_3,ta2_3,tn2_3,tc2_3,e3,g3_0⟩:=hp 3 (by decide);have t21:ac.tmps[21]? = some (.agg (subC false false (-1) (dm (fun _=>0) 0) na2_3 nn2_3 nc2_3 ta2_3 tn2_3 tc2_3)):=(List.cons.inj e3).1;clear hold hp hsz e3;have hbz:Below yw.heap.size yw (yw.alloc (.cells (subC false false (-1) (dm (fun _=>0) 0) na2_3 nn2_3 nc2_3 ta2_3 tn2_3 tc2_3) 80))/\yw.heap.size<(yw.alloc (.cells (subC false false (-1) (dm (fun _=>0) 0) na2_3 nn2_3 nc2_3 ta2_3 tn2_3 tc2_3) 80)).heap.size:=⟨(Below.refl _ _).alloc (Nat.le_refl _) _,by rw[World.size_alloc];omega⟩
     have kz:SRow (yw.alloc (.cells (subC false false (-1) (dm (fun _=>0) 0) na2_3 nn2_3 nc2_3 ta2_3 tn2_3 tc2_3) 80)) (some ⟨yw.heap.size,0,none⟩) 1 1 iwD2:=SRow.one rfl rfl rfl rfl g3_0;unfold subC at t21;go_simp;exact hK.out _ _ ⟨hB.alloc _,Exists.intro yw.heap.size (And.intro rfl kz),Nat.le_of_lt hbz.2,.inl hbz.1,fun _=>⟨_,rfl,Nat.le_refl _,hbz.2⟩⟩
   refine Stps2.cons (o:=_) ?_ ?_
   · intro ac yw hsz hold hB hp K hK;have e0:=hp 0 (by decide);have t18:ac.tmps[18]? = some (.agg X1):=(List.cons.inj e0).1;obtain⟨na1_1,nn1_1,nc1_1,ta1_1,tn1_1,tc1_1,e1,g1_0⟩:=hp 1 (by decide);have t19:ac.tmps[19]? = some (.agg (arrC false (-1) (dm (fun _=>0) 0) na1_1 nn1_1 nc1_1 ta1_1 tn1_1 tc1_1)):=(List.cons.inj e1).1;obtain⟨k4_4,e4,g4_0⟩:=hp 4 (by decide);have t22:ac.tmps[22]? = some (.slice (some ⟨k4_4,0,none⟩) 1 1):=(List.cons.inj e4).1;clear hold hp hsz e0 e1 e4;go_simp
     (go_at_call 11;(refine(ST.out _ _ _ _ _ (A1.out _ hB.below) g1_0 g4_0).mono ?_);rintro e wz ⟨x5,rfl,h5_0,hbz⟩)
     exact hK.out _ _ ⟨hB.go hbz,Exists.intro x5 (And.intro rfl (And.intro h5_0 h5_0.isA)),hbz.size,.inl hbz,fun h=>absurd h (by decide)⟩
   refine Stps2.cons (o:=_) ?_ ?_
   · intro ac yw hsz hold hB hp K hK;obtain⟨x5_5,e5,g5_0,g5_1⟩:=hp 5 (by decide);have t23:ac.tmps[23]? = some (.tuple #[.agg x5_5,.int .i64 0]):=(List.cons.inj e5).1;clear hold hp hsz e5;go_simp;exact hK.out _ _ ⟨hB,Exists.intro x5_5 (And.intro rfl (And.intro g5_0 g5_1)),Nat.le_refl _,.inl (Below.refl _ _),fun h=>absurd h (by decide)⟩
   refine Stps2.cons (o:=_) ?_ ?_
   · intro ac yw hsz hold hB hp K hK;obtain⟨x5_6,e6,g6_0,g6_1⟩:=hp 6 (by decide);have t17:ac.tmps[17]? = some (.tuple #[.agg x5_6,.int .i64 0]):=(List.cons.inj e6).1;clear hold hp hsz e6;go_simp;exact hK.out _ _ ⟨hB,Exists.intro x5_6 (And.intro rfl (And.intro g6_0 g6_1)),Nat.le_refl _,.inl (Below.refl _ _),fun h=>absurd h (by decide)⟩
   refine Stps2.cons (o:=_) ?_ ?_
   · intro ac yw hsz hold hB hp K hK;obtain⟨x5_6,e6,g6_0,g6_1⟩:=hp 6 (by decide);have t17:ac.tmps[17]? = some (.tuple #[.agg x5_6,.int .i64 0]):=(List.cons.inj e6).1;clear hold hp hsz e6;go_simp;exact hK.out _ _ ⟨hB,rfl,Nat.le_refl _,.inl (Below.refl _ _),fun h=>absurd h (by decide)⟩
   refine Stps2.cons (o:=_) ?_ ?_
   · intro ac yw hsz hold hB hp K hK;clear hold hp hsz;have hbz:Below yw.heap.size yw (yw.alloc (.cells zerC 36))/\yw.heap.size<(yw.alloc (.cells zerC 36)).heap.size:=⟨(Below.refl _ _).alloc (Nat.le_refl _) _,by rw[World.size_alloc];omega⟩
     go_simp;exact hK.out _ _ ⟨hB.alloc _,Exists.intro yw.heap.size (Exists.intro zerC (And.intro rfl (And.intro ((Row.new yw _ zerC)) (And.intro IsA.zer hB.below.size)))),Nat.le_of_lt hbz.2,.inl hbz.1,fun _=>⟨_,rfl,Nat.le_refl _,hbz.2⟩⟩
   refine Stps2.cons (o:=_) ?_ ?_
   · intro ac yw hsz hold hB hp K hK;obtain⟨k9_9,z9_9,e9,g9_0,g9_1,g9_2⟩:=hp 9 (by decide);have t4:ac.tmps[4]? = some (.pointer (some ⟨k9_9,0,none⟩)):=(List.cons.inj e9).1;obtain⟨x5_7,e7,g7_0,g7_1⟩:=hp 7 (by decide);have t24:ac.tmps[24]? = some (.agg x5_7):=(List.cons.inj e7).1;clear hold hp hsz e9 e7;rw[if_pos (by rfl)];have HB:Bag _ (fun _=>True) (yw.setRow k9_9 x5_7):=⟨below_put hB.below g9_2 _,fun _ _ _ _=>trivial,trivial⟩
     refine st8 4 24 rfl k9_9 x5_7 t4 t24 _ z9_9 g9_0 g9_1 g7_1 ?_;refine hK.out undef _ ⟨HB,Exists.intro k9_9 (Exists.intro x5_7 (And.intro (congrArg (fun x => [x]) t4) (And.intro (g9_0.put _) (And.intro (g7_0.store g9_0 g9_1 _) g7_1)))),by simp[World.setRow],.inr ?_,fun h=>absurd h (by decide)⟩;intro jj hj hap h
     match jj,h with
     | 0,h=>exact h
     | 1,⟨na1,nn1,nc1,ta1,tn1,tc1,e1,g1_0⟩ =>
      exact Exists.intro na1 (Exists.intro nn1 (Exists.intro nc1 (Exists.intro ta1 (Exists.intro tn1 (Exists.intro tc1 (And.intro e1 (g1_0.store g9_0 g9_1 _)))))))
     | 2,⟨na2,nn2,nc2,ta2,tn2,tc2,e2,g2_0⟩ =>
      exact Exists.intro na2 (Exists.intro nn2 (Exists.intro nc2 (Exists.intro ta2 (Exists.intro tn2 (Exists.intro tc2 (And.intro e2 (g2_0.store g9_0 g9_1 _)))))))
     | 3,⟨na2,nn2,nc2,ta2,tn2,tc2,e3,g3_0⟩ =>
      exact Exists.intro na2 (Exists.intro nn2 (Exists.intro nc2 (Exists.intro ta2 (Exists.intro tn2 (Exists.intro tc2 (And.intro e3 (g3_0.store g9_0 g9_1 _)))))))
     | 4,⟨k4,e4,g4_0⟩ =>
      exact Exists.intro k4 (And.intro e4 (SRow.store g4_0 g9_0 g9_1 _))
     | 5,⟨x5,e5,g5_0,g5_1⟩ =>
      exact Exists.intro x5 (And.intro e5 (And.intro (g5_0.store g9_0 g9_1 _) g5_1))
     | 6,⟨x5,e6,g6_0,g6_1⟩ =>
      exact Exists.intro x5 (And.intro e6 (And.intro (g6_0.store g9_0 g9_1 _) g6_1))
     | 7,⟨x5,e7,g7_0,g7_1⟩ =>
      exact Exists.intro x5 (And.intro e7 (And.intro (g7_0.store g9_0 g9_1 _) g7_1))
     | 8,h=>exact h
     | 9,⟨k9,z9,e9,g9_0,g9_1,g9_2⟩ =>
      have e9:k9=k9_9:=by have:=(List.cons.inj e9).1.symm.trans t4;cases this;rfl
      subst e9;exact Exists.intro _ (Exists.intro _ (And.intro e9 (And.intro (g9_0.put _) (And.intro g7_1 g9_2))))
     | 10,_=>exact absurd rfl hj
     | 11,h=>exact h
     | _+12,h=>exact h
   refine Stps2.cons (o:=_) ?_ ?_
   · intro ac yw hsz hold hB hp K hK;have e8:=hp 8 (by decide);have t25:ac.tmps[25]? = some (.int .i64 0):=(List.cons.inj e8).1;clear hold hp hsz e8;go_simp;exact hK.out _ _ ⟨hB,rfl,Nat.le_refl _,.inl (Below.refl _ _),fun h=>absurd h (by decide)⟩
   exact Stps2.nil _
 refine Stps2.cons (o:=_) ?_ ?_
 · intro ac yw hsz hold hB hp K hK;have t1:ac.tmps[1]? = some (.pointer (some ⟨W1.heap.size,0,none⟩)):=hold 1 (by kernel_rfl);clear hold hp hsz;rw[if_pos (by rfl)];refine ld8 1 rfl (W1.heap.size) (X1) t1 (RW1.out _ hB.below) (SZ1.out.size) ?_;exact hK.out _ _ ⟨hB,rfl,Nat.le_refl _,.inl (Below.refl _ _),fun h=>absurd h (by decide)⟩
 refine Stps2.cons (o:=_) ?_ ?_
 · intro ac yw hsz hold hB hp K hK;clear hold hp hsz;have hbz:Below yw.heap.size yw (yw.alloc (.cells #[.int .i64 3,.int .i64 1] 3))/\yw.heap.size<(yw.alloc (.cells #[.int .i64 3,.int .i64 1] 3)).heap.size:=⟨(Below.refl _ _).alloc (Nat.le_refl _) _,by rw[World.size_alloc];omega⟩
   have kz:KRow (yw.alloc (.cells #[.int .i64 3,.int .i64 1] 3)) .i64 (some ⟨yw.heap.size,0,none⟩) 2 2 (lt [3,1]):=KRow.lits yw [3,1] 3 (by decide) rfl;go_simp;exact hK.out _ _ ⟨hB.alloc _,Exists.intro yw.heap.size (And.intro rfl kz),Nat.le_of_lt hbz.2,.inl hbz.1,fun _=>⟨_,rfl,Nat.le_refl _,hbz.2⟩⟩
 refine Stps2.cons (o:=_) ?_ ?_
 · intro ac yw hsz hold hB hp K hK;obtain⟨k1_1,e1,g1_0⟩:=hp 1 (by decide);have t10:ac.tmps[10]? = some (.slice (some ⟨k1_1,0,none⟩) 2 2):=(List.cons.inj e1).1;clear hold hp hsz e1;go_simp
   (go_at_call 34;(refine(INb.out _ _ _ g1_0).mono ?_);rintro e wz ⟨na2,nn2,nc2,ta2,tn2,tc2,rfl,h2_0,hbz⟩)
   exact hK.out _ _ ⟨hB.go hbz,Exists.intro na2 (Exists.intro nn2 (Exists.intro nc2 (Exists.intro ta2 (Exists.intro tn2 (Exists.intro tc2 (And.intro rfl h2_0)))))),hbz.size,.inl hbz,fun h=>absurd h (by decide)⟩
 refine Stps2.cons (o:=_) ?_ ?_
 · intro ac yw hsz hold hB hp K hK;obtain⟨na2_2,nn2_2,nc2_2,ta2_2,tn2_2,tc2_2,e2,g2_0⟩:=hp 2 (by decide);have t11:ac.tmps[11]? = some (.agg (arrC false (0) (dm (fun _=>((2:Nat):Int)) 1) na2_2 nn2_2 nc2_2 ta2_2 tn2_2 tc2_2)):=(List.cons.inj e2).1;clear hold hp hsz e2;unfold arrC at t11;go_simp;exact hK.out _ _ ⟨hB,Exists.intro na2_2 (Exists.intro nn2_2 (Exists.intro nc2_2 (Exists.intro ta2_2 (Exists.intro tn2_2 (Exists.intro tc2_2 (And.intro rfl g2_0)))))),Nat.le_refl _,.inl (Below.refl _ _),fun h=>absurd h (by decide)⟩
 refine Stps2.cons (o:=_) ?_ ?_
 · intro ac yw hsz hold hB hp K hK;obtain⟨na2_3,nn2_3,nc2_3,ta2_3,tn2_3,tc2_3,e3,g3_0⟩:=hp 3 (by decide);have t12:ac.tmps[12]? = some (.agg (subC false false (0) (dm (fun _=>((2:Nat):Int)) 1) na2_3 nn2_3 nc2_3 ta2_3 tn2_3 tc2_3)):=(List.cons.inj e3).1;clear hold hp hsz e3;have hbz:Below yw.heap.size yw (yw.alloc (.cells (subC false false (0) (dm (fun _=>((2:Nat):Int)) 1) na2_3 nn2_3 nc2_3 ta2_3 tn2_3 tc2_3) 80))/\yw.heap.size<(yw.alloc (.cells (subC false false (0) (dm (fun _=>((2:Nat):Int)) 1) na2_3 nn2_3 nc2_3 ta2_3 tn2_3 tc2_3) 80)).heap.size:=⟨(Below.refl _ _).alloc (Nat.le_refl _) _,by rw[World.size_alloc];omega⟩
   have kz:SRow (yw.alloc (.cells (subC false false (0) (dm (fun _=>((2:Nat):Int)) 1) na2_3 nn2_3 nc2_3 ta2_3 tn2_3 tc2_3) 80)) (some ⟨yw.heap.size,0,none⟩) 1 1 iwD1:=SRow.one rfl rfl rfl rfl g3_0;unfold subC at t12;go_simp;exact hK.out _ _ ⟨hB.alloc _,Exists.intro yw.heap.size (And.intro rfl kz),Nat.le_of_lt hbz.2,.inl hbz.1,fun _=>⟨_,rfl,Nat.le_refl _,hbz.2⟩⟩
 refine Stps2.cons (o:=_) ?_ ?_
 · intro ac yw hsz hold hB hp K hK;have e0:=hp 0 (by decide);have t9:ac.tmps[9]? = some (.agg X1):=(List.cons.inj e0).1;obtain⟨k4_4,e4,g4_0⟩:=hp 4 (by decide);have t13:ac.tmps[13]? = some (.slice (some ⟨k4_4,0,none⟩) 1 1):=(List.cons.inj e4).1;clear hold hp hsz e0 e4;go_simp
   (go_at_call 35;(refine(II.out _ _ _ _ (A1.out _ hB.below) g4_0).mono ?_);rintro e wz ⟨x5,rfl,h5_0,hbz⟩)
   exact hK.out _ _ ⟨hB.go hbz,Exists.intro x5 (And.intro rfl (And.intro h5_0 h5_0.isA)),hbz.size,.inl hbz,fun h=>absurd h (by decide)⟩
 refine Stps2.cons (o:=_) ?_ ?_
 · intro ac yw hsz hold hB hp K hK;obtain⟨x5_5,e5,g5_0,g5_1⟩:=hp 5 (by decide);have t14:ac.tmps[14]? = some (.tuple #[.agg x5_5,.int .i64 0]):=(List.cons.inj e5).1;clear hold hp hsz e5;go_simp;exact hK.out _ _ ⟨hB,Exists.intro x5_5 (And.intro rfl (And.intro g5_0 g5_1)),Nat.le_refl _,.inl (Below.refl _ _),fun h=>absurd h (by decide)⟩
 refine Stps2.cons (o:=_) ?_ ?_
 · intro ac yw hsz hold hB hp K hK;obtain⟨x5_6,e6,g6_0,g6_1⟩:=hp 6 (by decide);have t8:ac.tmps[8]? = some (.tuple #[.agg x5_6,.int .i64 0]):=(List.cons.inj e6).1;clear hold hp hsz e6;go_simp;exact hK.out _ _ ⟨hB,Exists.intro x5_6 (And.intro rfl (And.intro g6_0 g6_1)),Nat.le_refl _,.inl (Below.refl _ _),fun h=>absurd h (by decide)⟩
 refine Stps2.cons (o:=_) ?_ ?_
 · intro ac yw hsz hold hB hp K hK;obtain⟨x5_6,e6,g6_0,g6_1⟩:=hp 6 (by decide);have t8:ac.tmps[8]? = some (.tuple #[.agg x5_6,.int .i64 0]):=(List.cons.inj e6).1;clear hold hp hsz e6;go_simp;exact hK.out _ _ ⟨hB,rfl,Nat.le_refl _,.inl (Below.refl _ _),fun h=>absurd h (by decide)⟩
 refine Stps2.cons (o:=_) ?_ ?_
 · intro ac yw hsz hold hB hp K hK;clear hold hp hsz;have hbz:Below yw.heap.size yw (yw.alloc (.cells zerC 36))/\yw.heap.size<(yw.alloc (.cells zerC 36)).heap.size:=⟨(Below.refl _ _).alloc (Nat.le_refl _) _,by rw[World.size_alloc];omega⟩
   go_simp;exact hK.out _ _ ⟨hB.alloc _,Exists.intro yw.heap.size (Exists.intro zerC (And.intro rfl (And.intro ((Row.new yw _ zerC)) (And.intro IsA.zer hB.below.size)))),Nat.le_of_lt hbz.2,.inl hbz.1,fun _=>⟨_,rfl,Nat.le_refl _,hbz.2⟩⟩
 refine Stps2.cons (o:=_) ?_ ?_
 · intro ac yw hsz hold hB hp K hK;obtain⟨k9_9,z9_9,e9,g9_0,g9_1,g9_2⟩:=hp 9 (by decide);have t2:ac.tmps[2]? = some (.pointer (some ⟨k9_9,0,none⟩)):=(List.cons.inj e9).1;obtain⟨x5_7,e7,g7_0,g7_1⟩:=hp 7 (by decide);have t15:ac.tmps[15]? = some (.agg x5_7):=(List.cons.inj e7).1;clear hold hp hsz e9 e7;rw[if_pos (by rfl)];have HB:Bag _ (fun _=>True) (yw.setRow k9_9 x5_7):=⟨below_put hB.below g9_2 _,fun _ _ _ _=>trivial,trivial⟩
   refine st8 2 15 rfl k9_9 x5_7 t2 t15 _ z9_9 g9_0 g9_1 g7_1 ?_;refine hK.out undef _ ⟨HB,Exists.intro k9_9 (Exists.intro x5_7 (And.intro (congrArg (fun x => [x]) t2) (And.intro (g9_0.put _) (And.intro (g7_0.store g9_0 g9_1 _) g7_1)))),by simp[World.setRow],.inr ?_,fun h=>absurd h (by decide)⟩;intro jj hj hap h
   match jj,h with
   | 0,h=>exact h
   | 1,⟨k1,e1,g1_0⟩ =>
    have hne:k1≠k9_9:=fun e=>hap 9 (by decide) 1 (by decide) (by decide) (by decide) (by decide) k9_9 ⟨2,_,rfl,t2,rfl⟩ ⟨10,_,rfl,(List.cons.inj e1).1,congrArg some e⟩
    exact Exists.intro k1 (And.intro e1 (g1_0.away (.inr (fun x hx=>by obtain rfl:=Option.some.inj hx;exact hne)) (Far.setRow _ _ _)))
   | 2,⟨na2,nn2,nc2,ta2,tn2,tc2,e2,g2_0⟩ =>
    exact Exists.intro na2 (Exists.intro nn2 (Exists.intro nc2 (Exists.intro ta2 (Exists.intro tn2 (Exists.intro tc2 (And.intro e2 (g2_0.store g9_0 g9_1 _)))))))
   | 3,⟨na2,nn2,nc2,ta2,tn2,tc2,e3,g3_0⟩ =>
    exact Exists.intro na2 (Exists.intro nn2 (Exists.intro nc2 (Exists.intro ta2 (Exists.intro tn2 (Exists.intro tc2 (And.intro e3 (g3_0.store g9_0 g9_1 _)))))))
   | 4,⟨k4,e4,g4_0⟩ =>
    exact Exists.intro k4 (And.intro e4 (SRow.store g4_0 g9_0 g9_1 _))
   | 5,⟨x5,e5,g5_0,g5_1⟩ =>
    exact Exists.intro x5 (And.intro e5 (And.intro (g5_0.store g9_0 g9_1 _) g5_1))
   | 6,⟨x5,e6,g6_0,g6_1⟩ =>
    exact Exists.intro x5 (And.intro e6 (And.intro (g6_0.store g9_0 g9_1 _) g6_1))
   | 7,⟨x5,e7,g7_0,g7_1⟩ =>
    exact Exists.intro x5 (And.intro e7 (And.intro (g7_0.store g9_0 g9_1 _) g7_1))
   | 8,h=>exact h
   | 9,⟨k9,z9,e9,g9_0,g9_1,g9_2⟩ =>
    have e9:k9=k9_9:=by have:=(List.cons.inj e9).1.symm.trans t2;cases this;rfl
    subst e9;exact Exists.intro _ (Exists.intro _ (And.intro e9 (And.intro (g9_0.put _) (And.intro g7_1 g9_2))))
   | 10,_=>exact absurd rfl hj
   | 11,h=>exact h
   | _+12,h=>exact h
 refine Stps2.cons (o:=_) ?_ ?_
 · intro ac yw hsz hold hB hp K hK;have e8:=hp 8 (by decide);have t16:ac.tmps[16]? = some (.int .i64 0):=(List.cons.inj e8).1;clear hold hp hsz e8;go_simp;exact hK.out _ _ ⟨hB,rfl,Nat.le_refl _,.inl (Below.refl _ _),fun h=>absurd h (by decide)⟩
 exact Stps2.nil _
end Go.Proofs.YtdmmenaejkpnjaaGreatDoor
namespace Go.Proofs.YtdmmenaejkpnjaaGreatDoor
open Go.RowKit
theorem IsP.zerI:IsP plZer:=⟨_,_,_,_,_,_,_,_,_,_,rfl⟩
theorem Pln.storeP{w:World}{cs:Array Value}{S:Nat->Int}{r:Nat}{ch:Bool}{L:Nat}{g:Nat->Int}{fB:Nat->Bool}{fS fT:Nat->ByteArray}(h:Pln w cs S r ch L g fB fS fT){k:Nat}{t:TypeId}{z:Array Value}(hr:Row w k t z)(hz:IsP z)(cs':Array Value):Pln (w.setRow k cs') cs S r ch L g fB fS fT:=by
 obtain⟨_,_,_,_,_,_,_,_,_,_,rfl⟩:=hz;exact PlnAt.away h hr (noInt_pl _ _ _ _ _ _ _ _ _ _) (noStr_pl _ _ _ _ _ _ _ _ _ _) (Far.setRow _ _ _)
theorem of_light11{S:Nat->Int}{r:Nat}{ch:Bool}{tn:Nat}{fB:Nat->Bool}{fS fT:Nat->ByteArray}{nn:Nat}{w w':World}{e:Ending}(h:LightTold 200 S r ch tn fB fS fT nn w w' e):∃b,e=.returned (.bool b)/\(b=true->∃L,tn=tnO ch L/\nn=nnO ch L/\Good S r ch L fB fS fT)/\Below w.heap.size w w':=by
 obtain⟨b,e1,h1,h2⟩:=h;refine⟨b,e1,fun hb => ?_,h2⟩;obtain⟨q1,q2,q3,q4,q5⟩:=h1 hb;exact good_of ⟨by omega,by omega,q3,q4,q5⟩
theorem Sr.okS{d:Sr}(h:d.good):d.sb.ok:=by
 obtain⟨_,_,h3,h4⟩:=h;exact⟨h3.sh,h3.cnt,(show d.L<=4096 by omega),h3.pos⟩
theorem ix_few{o:Int}{S:Nat->Int}{r m L:Nat}{D:Nat->Sb}(hsh:shB S r=true)(hL:itm S r=(L:Nat))(hok:∀j,j<m->(D j).ok)(h:ixE o S r D m=0):ixR D r<=8/\(itm (lnF (ixN S D)) r).toNat<=1000000:=by
 obtain⟨_,_,q3⟩:=ix_pos hsh hL hok h;have:=(sh_ax (ixE_zero h).2.2).1;exact⟨this,by omega⟩
end Go.Proofs.YtdmmenaejkpnjaaGreatDoor
namespace Go.Proofs.YtdmmenaejkpnjaaGreatDoor
open Go.RowKit
attribute [local go_sem ↓] Go.wp_at_zero Go.wp_at_succ
set_option linter.unusedVariables false
set_option linter.unusedSimpArgs false
theorem rset11_not (p : Array Value) (S : Nat -> Int) (r : Nat) (ch : Bool) (L : Nat) (g : Nat -> Int) (fB : Nat -> Bool) (fS fT : Nat -> ByteArray) (p2 : Array Value) (S2 : Nat -> Int) (r2 : Nat) (ch2 : Bool) (L2 : Nat) (g2 : Nat -> Int) (fB2 : Nat -> Bool) (fS2 fT2 : Nat -> ByteArray) (o : Int) (al : Option Addr) (m cl : Nat) (E : Nat -> Sr) (D : Nat -> Sb) (w : World) (h : Pln w p S r ch L g fB fS fT) (h2 : Pln w p2 S2 r2 ch2 L2 g2 fB2 fS2 fT2) (hsh : shB S r = true) (hd : DRow w al m cl E) (hg : ∀ j, j < m -> (E j).good) (hD : (fun j => (E j).sb) = D) (hok : ∀ j, j < m -> (D j).ok) (ho : 0 <= o /\ o <= 1) (hm : m <= 20) (hn : (seE (ixE o S r D m) (fiE r2 S2 (ixR D r) (ixT S D r)) (itm (lnF (ixN S D)) r).toNat ch ch2) ≠ 0 ∨ (itm (lnF (ixN S D)) r).toNat = 0) :
    Calls Tryz.prog 13 #[.agg p,.agg p2,.int .i64 o,.slice al m cl] w fun e w'=>PoTold (seE (ixE o S r D m) (fiE r2 S2 (ixR D r) (ixT S D r)) (itm (lnF (ixN S D)) r).toNat ch ch2) S r ch L (puF (pkG S (lnF (ixN S D)) r (ixF o D)) (fun j=>g2 (j%L2)) (itm (lnF (ixN S D)) r).toNat g) (puF (pkG S (lnF (ixN S D)) r (ixF o D)) (fun j=>fB2 (j%L2)) (itm (lnF (ixN S D)) r).toNat fB) (puF (pkG S (lnF (ixN S D)) r (ixF o D)) (fun j=>fS2 (j%L2)) (itm (lnF (ixN S D)) r).toNat fS) (puF (pkG S (lnF (ixN S D)) r (ixF o D)) (fun j=>fT2 (j%L2)) (itm (lnF (ixN S D)) r).toNat fT) w w' e:=by
 have HP:=Lib.hid h;have HP2:=Lib.hid h2;obtain⟨sa,sc,ta,tc,na,nc,rfl,hk⟩:=h.form;obtain⟨sa2,sc2,ta2,tc2,na2,nc2,rfl,hk2⟩:=h2.form;have hl:=hk.len;have hl2:=hk2.len;have AX:=Lib.hid (fun a1 c1 wz q q2=>raxes_any a1 r c1 S o al m cl E wz q q2 hg (sh_small hsh) ho hm);rw[hD]at AX;have HD:=Lib.hid hd;have HK:=Lib.hid hk;have HK2:=Lib.hid hk2;have BB:=Lib.hid ((((Bag.start w).newRow (plC sa r sc ch ta (tnO ch L) tc na (nnO ch L) nc) 26).newRow (plC sa2 r2 sc2 ch2 ta2 (tnO ch2 L2) tc2 na2 (nnO ch2 L2) nc2) 26).newRow plZer 26);simp only[World.size_alloc]at BB;have HNO:Hid (∀e9:Int,e9≠0->(seE (ixE o S r D m) (fiE r2 S2 (ixR D r) (ixT S D r)) (itm (lnF (ixN S D)) r).toNat ch ch2)=e9->∀y,Below w.heap.size w y->PoTold (seE (ixE o S r D m) (fiE r2 S2 (ixR D r) (ixT S D r)) (itm (lnF (ixN S D)) r).toNat ch ch2) S r ch L (puF (pkG S (lnF (ixN S D)) r (ixF o D)) (fun j=>g2 (j%L2)) (itm (lnF (ixN S D)) r).toNat g) (puF (pkG S (lnF (ixN S D)) r (ixF o D)) (fun j=>fB2 (j%L2)) (itm (lnF (ixN S D)) r).toNat fB) (puF (pkG S (lnF (ixN S D)) r (ixF o D)) (fun j=>fS2 (j%L2)) (itm (lnF (ixN S D)) r).toNat fS) (puF (pkG S (lnF (ixN S D)) r (ixF o D)) (fun j=>fT2 (j%L2)) (itm (lnF (ixN S D)) r).toNat fT) w y (.returned (.tuple #[.agg plZer,.int .i64 e9]))):=Lib.hid (fun e9 h9 he y hb=>by rw[he];exact PoTold.no h9 hb);have x0:(((w.alloc (.cells (plC sa r sc ch ta (tnO ch L) tc na (nnO ch L) nc) 26)).alloc (.cells (plC sa2 r2 sc2 ch2 ta2 (tnO ch2 L2) tc2 na2 (nnO ch2 L2) nc2) 26)).alloc (.cells plZer 26)).cell? ⟨w.heap.size,0,none⟩=some (.slice sa r sc):=BB.out.now.2.2.1.cell 0;unfold plC plZer at x0;unfold plC;unfold AxsTold at AX
 by_cases hE:ixE o S r D m=0
 case neg =>
  have AX:Hid (∀a1 c1 wz,KRow wz .i64 a1 r c1 S->DRow wz al m cl E->Calls Tryz.prog 49 #[.slice a1 r c1,.int .i64 o,.slice al m cl] wz fun e w'=>e=.returned (.tuple #[.slice none 0 0,.slice none 0 0,.int .i64 (ixE o S r D m)])/\Below wz.heap.size wz w'):=Lib.hid (fun a1 c1 wz q q2=>(AX.out a1 c1 wz q q2).mono (fun e w' q=>⟨q.1 hE,q.2.2⟩));have HEE:Hid ((seE (ixE o S r D m) (fiE r2 S2 (ixR D r) (ixT S D r)) (itm (lnF (ixN S D)) r).toNat ch ch2)=ixE o S r D m):=Lib.hid (by unfold seE;rw[if_pos hE]);have HX0:=Lib.hid hE;have dE:(ixE o S r D m != 0)=true:=bne_iff_ne.2 hE;obtain⟨EE,hEE⟩:∃z,ixE o S r D m=z:=⟨_,rfl⟩
  have HN9:=Lib.hid (fun y hb=>HNO.out (ixE o S r D m) HX0.out HEE.out y hb);obtain⟨SX,hSX⟩:∃z,(seE (ixE o S r D m) (fiE r2 S2 (ixR D r) (ixT S D r)) (itm (lnF (ixN S D)) r).toNat ch ch2)=z:=⟨_,rfl⟩
  rw[hSX]at HN9 ⊢;rw[hEE]at HN9 AX dE;clear hE hsh hg hD hok h hk hd hn HEE HX0 HNO hEE hSX;go_enter Tryz.func13,Tryz.ntmps13;go_wp2_with fail;go_at_call 49
  (refine(AX.out _ _ _ (HK.out.below BB.out.below) (HD.out.below BB.out.below)).mono ?_)
  rintro e w2 ⟨rfl,hb2⟩;have BB:=bgo BB hb2;have HZ:=Lib.hid BB.out.now.1;have HE:=Lib.hid (HN9.out _ (below_put BB.out.below (show w.heap.size<=w.heap.size+1+1 by omega) plZer));clear hb2 x0
  go_wp2_with (refine st_pln rfl (.tmp 8) (.tmp 28) rfl (w.heap.size+1+1) rfl none 0 0 false none 0 0 none 0 0 rfl HZ.out rfl ?_)
  exact bodyPost_ret (res_pln2 Tryz.results13 rfl rfl (HZ.out.put _) rfl) rfl HE.out
 case pos =>
  have AX:Hid (∀a1 c1 wz,KRow wz .i64 a1 r c1 S->DRow wz al m cl E->Calls Tryz.prog 49 #[.slice a1 r c1,.int .i64 o,.slice al m cl] wz fun e w'=>∃a c la lc A C,e=.returned (.tuple #[.slice a (ixR D r) c,.slice la r lc,.int .i64 0])/\KRow w' .i64 a (ixR D r) c (ixT S D r)/\LRow w' la r lc A (ixN S D) C (fun j q=>ixF o D j q+o)/\Below wz.heap.size wz w'):=Lib.hid (fun a1 c1 wz q q2=>(AX.out a1 c1 wz q q2).mono (fun e w' q=>by
   obtain⟨a,c,la,lc,A,C,e1,e2,e3⟩:=q.2.1 hE
   exact⟨a,c,la,lc,A,C,e1,e2,e3,q.2.2⟩))
  have PLS:=Lib.hid (fun a c aL cL A C wz q q2=>rplaces_ok (o:=o) hsh hok hE a c aL cL A C wz q q2);have SM:=Lib.hid (fun a1 c1 a3 n3 c3 wz q q2=>r6Same_any a1 r2 c1 S2 a3 n3 c3 (ixT S D r) wz q q2)
  have hM:(itm (lnF (ixN S D)) r).toNat<=4096:=by
   obtain⟨rfl,h1,h2⟩:=ixE_zero hE;have h3:=ax_bd (ix_ax (S:=S) (fun j hj=>⟨hok j hj,ax_nn (sh_ax hsh).2 hj⟩) h2).1
   omega
  have hR8:=(sh_ax (ixE_zero hE).2.2).1;rw[hE]at hn HNO ⊢;clear hE hsh hg hD hok h hk hd h2 hk2;obtain⟨R,hR⟩:∃z,ixR D r=z:=⟨_,rfl⟩
  obtain⟨T,hT⟩:∃z,ixT S D r=z:=⟨_,rfl⟩
  obtain⟨M,hM9⟩:∃z,(itm (lnF (ixN S D)) r).toNat=z:=⟨_,rfl⟩
  obtain⟨GX,hGX⟩:∃z,(pkG S (lnF (ixN S D)) r (ixF o D))=z:=⟨_,rfl⟩
  rw[hR,hT]at AX hn HNO;rw[hT]at SM;rw[hM9,hGX]at PLS HNO;rw[hM9]at hn hM;rw[hR]at hR8;rw[hR,hT,hM9,hGX];clear hR hT hM9 hGX;unfold SameTold at SM;have HN0:Hid (∀SX:Int,SX=0->M=0->∀y,Pln y (plC sa r sc ch ta (tnO ch L) tc na (nnO ch L) nc) S r ch L g fB fS fT->Below w.heap.size w y->PoTold SX S r ch L (puF GX (fun j=>g2 (j%L2)) M g) (puF GX (fun j=>fB2 (j%L2)) M fB) (puF GX (fun j=>fS2 (j%L2)) M fS) (puF GX (fun j=>fT2 (j%L2)) M fT) w y (.returned (.tuple #[.agg (plC sa r sc ch ta (tnO ch L) tc na (nnO ch L) nc),.int .i64 0]))):=Lib.hid (fun SX h1 h3 y h4 h5=>by subst h1;subst h3;exact PoTold.yes h4 h5);unfold plC at HN0;obtain⟨SX,hSX⟩:∃z,seE 0 (fiE r2 S2 R T) M ch ch2=z:=⟨_,rfl⟩
  rw[hSX]at HNO hn ⊢;have HN9:=Lib.hid (fun e9 h9 he y hb=>HNO.out e9 h9 he y hb);have HN0:=Lib.hid (HN0.out SX);clear HNO;go_enter Tryz.func13,Tryz.ntmps13;go_wp2_with fail;go_at_call 49
  (refine(AX.out _ _ _ (HK.out.below BB.out.below) (HD.out.below BB.out.below)).mono ?_)
  rintro e w2 ⟨ya,yc,la,lc,A9,C9,rfl,hT,hLL,hb2⟩;clear x0;have hT8:=hT.len;have BB:=bgo BB hb2;have HT:=Lib.hid hT;have HLL:=Lib.hid hLL;clear hT hLL hb2 AX HD;have x0:w2.cell? ⟨w.heap.size,0,none⟩=some (.slice sa r sc):=BB.out.now.2.2.1.cell 0;have x1:w2.cell? ⟨w.heap.size,1,none⟩=some (.bool ch):=BB.out.now.2.2.1.cell 1;have y0:w2.cell? ⟨w.heap.size+1,0,none⟩=some (.slice sa2 r2 sc2):=BB.out.now.2.1.cell 0;have y1:w2.cell? ⟨w.heap.size+1,1,none⟩=some (.bool ch2):=BB.out.now.2.1.cell 1
  by_cases h0:r2=0
  · have hF : fiE r2 S2 R T = 0 := by unfold fiE; rw [if_pos h0]
    rw[hF]at hSX;subst h0;clear hF SM HT;clear x0 x1 y0 y1;have x0:w2.cell? ⟨w.heap.size,0,none⟩=some (.slice sa r sc):=BB.out.now.2.2.1.cell 0;have x1:w2.cell? ⟨w.heap.size,1,none⟩=some (.bool ch):=BB.out.now.2.2.1.cell 1;have y0:w2.cell? ⟨w.heap.size+1,0,none⟩=some (.slice sa2 0 sc2):=BB.out.now.2.1.cell 0;have y1:w2.cell? ⟨w.heap.size+1,1,none⟩=some (.bool ch2):=BB.out.now.2.1.cell 1;go_wp2_with fail;go_at_call 50
    (refine(PLS.out _ _ _ _ _ _ _ (HK.out.below BB.out.below) HLL.out).mono ?_)
    rintro e w4 ⟨pa,pc,rfl,hG,hb4⟩;have BB:=bgo BB hb4;have HG:=Lib.hid hG;have hG8:=hG.len;clear hb4 hG HLL PLS x0 x1 y0 y1;have x0:w4.cell? ⟨w.heap.size,0,none⟩=some (.slice sa r sc):=BB.out.now.2.2.1.cell 0;have x1:w4.cell? ⟨w.heap.size,1,none⟩=some (.bool ch):=BB.out.now.2.2.1.cell 1;have y0:w4.cell? ⟨w.heap.size+1,0,none⟩=some (.slice sa2 0 sc2):=BB.out.now.2.1.cell 0;have y1:w4.cell? ⟨w.heap.size+1,1,none⟩=some (.bool ch2):=BB.out.now.2.1.cell 1
    by_cases hm0:M=0
    · subst hm0;have HZ:=Lib.hid BB.out.now.1;have HR0:=Lib.hid BB.out.now.2.2.1;have HEE:Hid (SX=0):=Lib.hid (by rw[← hSX];unfold seE;rw[if_neg (by decide),if_neg (by decide),if_pos rfl]);have HE:=Lib.hid (HN0.out HEE.out rfl _ ((HP.out.below BB.out.below).storeP HZ.out IsP.zerI (plC sa r sc ch ta (tnO ch L) tc na (nnO ch L) nc)) (below_put BB.out.below (show w.heap.size<=w.heap.size+1+1 by omega) _));clear hn hSX HN0 HG
      go_wp2_with (first
       | (refine ld_pln rfl (.tmp 4) rfl w.heap.size rfl HR0.out ?_)
       | (refine st_pln rfl (.tmp 8) (.tmp 63) rfl (w.heap.size+1+1) rfl sa r sc ch ta (tnO ch L) tc na (nnO ch L) nc rfl HZ.out rfl ?_))
      exact bodyPost_ret (res_pln2 Tryz.results13 rfl rfl (HZ.out.put _) rfl) rfl HE.out
    · have hcc:ch≠ch2:=by
        intro hc;unfold seE at hSX;rw[if_neg (by decide),if_neg (by decide),if_neg hm0,if_pos hc]at hSX
        omega
      have HEE:Hid (SX=22):=Lib.hid (by rw[← hSX];unfold seE;rw[if_neg (by decide),if_neg (by decide),if_neg hm0,if_neg hcc]);have dm:((M:Int)==0)=false:=beq_eq_false_iff_ne.2 (by omega);have HZ:=Lib.hid BB.out.now.1;have HE:=Lib.hid (HN9.out _ (by decide) HEE.out _ (below_put BB.out.below (show w.heap.size<=w.heap.size+1+1 by omega) plZer));clear hn hSX hm0 HN0 HG
      cases ch with
      | true =>
       cases ch2 with
       | true=>exact absurd rfl hcc
       | false =>
        clear hcc
        go_wp2_with (refine st_pln rfl (.tmp 8) (.tmp 69) rfl (w.heap.size+1+1) rfl none 0 0 false none 0 0 none 0 0 rfl HZ.out rfl ?_)
        exact bodyPost_ret (res_pln2 Tryz.results13 rfl rfl (HZ.out.put _) rfl) rfl HE.out
      | false =>
       cases ch2 with
       | false=>exact absurd rfl hcc
       | true =>
        clear hcc
        go_wp2_with (refine st_pln rfl (.tmp 8) (.tmp 69) rfl (w.heap.size+1+1) rfl none 0 0 false none 0 0 none 0 0 rfl HZ.out rfl ?_)
        exact bodyPost_ret (res_pln2 Tryz.results13 rfl rfl (HZ.out.put _) rfl) rfl HE.out
  · have dP : (0 : Int) < (r2 : Int) := by omega
    by_cases h1:r2=R
    · have d1 : ((r2 : Int) != (R : Int)) = false := by rw [h1]; exact bne_self_eq_false _
      have SM:=Lib.hid (fun a1 c1 a3 c3 wz q q2=>SM.out a1 c1 a3 R c3 wz q q2)
      cases hsb:sameB S2 T r2 with
      | true =>
       have hF:fiE r2 S2 R T=0:=by unfold fiE;rw[if_neg h0,if_neg (by omega),if_pos hsb]
       rw[hF]at hSX;rw[hsb,decide_eq_true h1]at SM;clear hF h1 hsb h0;go_wp2_with fail;go_at_call 31
       (refine(SM.out _ _ _ _ _ (HK2.out.below BB.out.below) HT.out).mono ?_)
       rintro e w3 ⟨rfl,hb3⟩;have BB:=bgo BB hb3;have HLL:=Lib.hid (HLL.out.below hb3);clear hb3 HT SM x0 x1 y0 y1;have x0:w3.cell? ⟨w.heap.size,0,none⟩=some (.slice sa r sc):=BB.out.now.2.2.1.cell 0;have x1:w3.cell? ⟨w.heap.size,1,none⟩=some (.bool ch):=BB.out.now.2.2.1.cell 1;have y0:w3.cell? ⟨w.heap.size+1,0,none⟩=some (.slice sa2 r2 sc2):=BB.out.now.2.1.cell 0;have y1:w3.cell? ⟨w.heap.size+1,1,none⟩=some (.bool ch2):=BB.out.now.2.1.cell 1;clear dP d1;clear x0 x1 y0 y1;have x0:w3.cell? ⟨w.heap.size,0,none⟩=some (.slice sa r sc):=BB.out.now.2.2.1.cell 0;have x1:w3.cell? ⟨w.heap.size,1,none⟩=some (.bool ch):=BB.out.now.2.2.1.cell 1;have y0:w3.cell? ⟨w.heap.size+1,0,none⟩=some (.slice sa2 r2 sc2):=BB.out.now.2.1.cell 0;have y1:w3.cell? ⟨w.heap.size+1,1,none⟩=some (.bool ch2):=BB.out.now.2.1.cell 1;go_wp2_with fail;go_at_call 50
       (refine(PLS.out _ _ _ _ _ _ _ (HK.out.below BB.out.below) HLL.out).mono ?_)
       rintro e w4 ⟨pa,pc,rfl,hG,hb4⟩;have BB:=bgo BB hb4;have HG:=Lib.hid hG;have hG8:=hG.len;clear hb4 hG HLL PLS x0 x1 y0 y1;have x0:w4.cell? ⟨w.heap.size,0,none⟩=some (.slice sa r sc):=BB.out.now.2.2.1.cell 0;have x1:w4.cell? ⟨w.heap.size,1,none⟩=some (.bool ch):=BB.out.now.2.2.1.cell 1;have y0:w4.cell? ⟨w.heap.size+1,0,none⟩=some (.slice sa2 r2 sc2):=BB.out.now.2.1.cell 0;have y1:w4.cell? ⟨w.heap.size+1,1,none⟩=some (.bool ch2):=BB.out.now.2.1.cell 1
       by_cases hm0:M=0
       · subst hm0;have HZ:=Lib.hid BB.out.now.1;have HR0:=Lib.hid BB.out.now.2.2.1;have HEE:Hid (SX=0):=Lib.hid (by rw[← hSX];unfold seE;rw[if_neg (by decide),if_neg (by decide),if_pos rfl]);have HE:=Lib.hid (HN0.out HEE.out rfl _ ((HP.out.below BB.out.below).storeP HZ.out IsP.zerI (plC sa r sc ch ta (tnO ch L) tc na (nnO ch L) nc)) (below_put BB.out.below (show w.heap.size<=w.heap.size+1+1 by omega) _));clear hn hSX HN0 HG
         go_wp2_with (first
          | (refine ld_pln rfl (.tmp 4) rfl w.heap.size rfl HR0.out ?_)
          | (refine st_pln rfl (.tmp 8) (.tmp 63) rfl (w.heap.size+1+1) rfl sa r sc ch ta (tnO ch L) tc na (nnO ch L) nc rfl HZ.out rfl ?_))
         exact bodyPost_ret (res_pln2 Tryz.results13 rfl rfl (HZ.out.put _) rfl) rfl HE.out
       · have hcc:ch≠ch2:=by
           intro hc;unfold seE at hSX;rw[if_neg (by decide),if_neg (by decide),if_neg hm0,if_pos hc]at hSX
           omega
         have HEE:Hid (SX=22):=Lib.hid (by rw[← hSX];unfold seE;rw[if_neg (by decide),if_neg (by decide),if_neg hm0,if_neg hcc]);have dm:((M:Int)==0)=false:=beq_eq_false_iff_ne.2 (by omega);have HZ:=Lib.hid BB.out.now.1;have HE:=Lib.hid (HN9.out _ (by decide) HEE.out _ (below_put BB.out.below (show w.heap.size<=w.heap.size+1+1 by omega) plZer));clear hn hSX hm0 HN0 HG
         cases ch with
         | true =>
          cases ch2 with
          | true=>exact absurd rfl hcc
          | false =>
           clear hcc
           go_wp2_with (refine st_pln rfl (.tmp 8) (.tmp 69) rfl (w.heap.size+1+1) rfl none 0 0 false none 0 0 none 0 0 rfl HZ.out rfl ?_)
           exact bodyPost_ret (res_pln2 Tryz.results13 rfl rfl (HZ.out.put _) rfl) rfl HE.out
         | false =>
          cases ch2 with
          | false=>exact absurd rfl hcc
          | true =>
           clear hcc
           go_wp2_with (refine st_pln rfl (.tmp 8) (.tmp 69) rfl (w.heap.size+1+1) rfl none 0 0 false none 0 0 none 0 0 rfl HZ.out rfl ?_)
           exact bodyPost_ret (res_pln2 Tryz.results13 rfl rfl (HZ.out.put _) rfl) rfl HE.out
      | false =>
       have hF:fiE r2 S2 R T=24:=by unfold fiE;rw[if_neg h0,if_neg (by omega),if_neg (by rw[hsb];decide)]
       rw[hF]at hSX;have HEE:Hid (SX=24):=Lib.hid (by rw[← hSX];unfold seE;rw[if_neg (by decide),if_pos (by decide)]);rw[hsb,decide_eq_true h1]at SM;clear hF h1 hsb h0 hSX hn PLS;go_wp2_with fail;go_at_call 31
       (refine(SM.out _ _ _ _ _ (HK2.out.below BB.out.below) HT.out).mono ?_)
       rintro e w3 ⟨rfl,hb3⟩;have BB:=bgo BB hb3;clear hb3 HT SM x0 x1 y0 y1;have HZ:=Lib.hid BB.out.now.1;have HE:=Lib.hid (HN9.out _ (by decide) HEE.out _ (below_put BB.out.below (show w.heap.size<=w.heap.size+1+1 by omega) plZer))
       go_wp2_with (refine st_pln rfl (.tmp 8) (.tmp 54) rfl (w.heap.size+1+1) rfl none 0 0 false none 0 0 none 0 0 rfl HZ.out rfl ?_)
       exact bodyPost_ret (res_pln2 Tryz.results13 rfl rfl (HZ.out.put _) rfl) rfl HE.out
    · have d1:((r2:Int) != (R:Int))=true:=bne_iff_ne.2 (by omega);have hF:fiE r2 S2 R T=23:=by unfold fiE;rw[if_neg h0,if_pos h1]
      rw[hF]at hSX;have HEE:Hid (SX=23):=Lib.hid (by rw[← hSX];unfold seE;rw[if_neg (by decide),if_pos (by decide)]);clear hF h1 h0 hn SM PLS hSX;have HZ:=Lib.hid BB.out.now.1;have HE:=Lib.hid (HN9.out _ (by decide) HEE.out _ (below_put BB.out.below (show w.heap.size<=w.heap.size+1+1 by omega) plZer))
      go_wp2_with (refine st_pln rfl (.tmp 8) (.tmp 42) rfl (w.heap.size+1+1) rfl none 0 0 false none 0 0 none 0 0 rfl HZ.out rfl ?_)
      exact bodyPost_ret (res_pln2 Tryz.results13 rfl rfl (HZ.out.put _) rfl) rfl HE.out
end Go.Proofs.YtdmmenaejkpnjaaGreatDoor
namespace Go.Proofs.YtdmmenaejkpnjaaGreatDoor
open Go.RowKit
theorem puF_or {G : Nat -> Int} : ∀ (M : Nat) (p : Nat), (∃ k, k < M /\ ∀ {α : Type} (V f : Nat -> α), puF G V M f p = V k) ∨ (∀ {α : Type} (V f : Nat -> α), puF G V M f p = f p)
 | 0,p=>.inr (fun _ _=>rfl)
 | M+1,p=>by
  by_cases e:(p:Int)=G M
  · exact .inl ⟨M,by omega,fun V f=>by show(if (p:Int)=G M then V M else puF G V M f p)=V M;rw[if_pos e]⟩
  · rcases puF_or (G:=G) M p with ⟨k,hk,h⟩|h
    · exact .inl ⟨k,by omega,fun V f=>by show(if (p:Int)=G M then V M else puF G V M f p)=V k;rw[if_neg e];exact h V f⟩
    · exact .inr (fun V f=>by show(if (p:Int)=G M then V M else puF G V M f p)=f p;rw[if_neg e];exact h V f)
theorem ElSame.puF {ch : Bool} {L L2 : Nat} {fB fB2 : Nat -> Bool} {fS fT fS2 fT2 : Nat -> ByteArray} {fP fP2 : Nat -> Int} {fQ fQ2 : Nat -> Nat} (h : ElSame ch L fP fQ fB fS fT) (h2 : ElSame ch L2 fP2 fQ2 fB2 fS2 fT2) (G : Nat -> Int) (M : Nat) (hn : 0 < M -> 0 < L2) :
    ElSame ch L (puF G (fun j=>fP2 (j%L2)) M fP) (puF G (fun j=>fQ2 (j%L2)) M fQ) (puF G (fun j=>fB2 (j%L2)) M fB) (puF G (fun j=>fS2 (j%L2)) M fS) (puF G (fun j=>fT2 (j%L2)) M fT):=by
 cases ch with
 | true=>exact⟨fun e=>(by cases e),fun j hj=>absurd hj (Nat.not_lt_zero _)⟩
 | false =>
  refine⟨fun _=>fun j hj => ?_,fun j hj => ?_⟩
  · rcases puF_or (G:=G) M j with ⟨k,hk,e⟩|e
    · rw[e,e];exact h2.1 rfl (k%L2) (Nat.mod_lt _ (hn (by omega)))
    · rw[e,e];exact h.1 rfl j hj
  · rcases puF_or (G:=G) M j with ⟨k,hk,e⟩|e
    · rw[e,e,e,e,e];exact h2.2 (k%L2) (Nat.mod_lt _ (hn (by omega)))
    · rw[e,e,e,e,e];exact h.2 j hj
theorem fi_mod{r2 L2 R M:Nat}{S2 T:Nat->Int}(hF:fiE r2 S2 R T=0)(hL2:itm S2 r2=(L2:Nat))(hM:itm T R=(M:Nat)):(r2=0->L2=1)/\(r2≠0->L2=M):=by
 constructor
 · intro e;subst e;have:itm S2 0=1:=rfl
   omega
 · intro e; unfold fiE at hF; rw [if_neg e] at hF
   by_cases h1:r2=R
   · rw[if_neg (by omega)]at hF
     split at hF
     · rename_i hs
       have h2:=itm_congr (sameB_iff.1 hs);subst h1
       omega
     · exact absurd hF (by decide)
   · rw[if_pos h1]at hF;exact absurd hF (by decide)
theorem fi_lt{r2 L2 R M:Nat}{S2 T:Nat->Int}(hF:fiE r2 S2 R T=0)(hL2:itm S2 r2=(L2:Nat))(hM:itm T R=(M:Nat))(h:0<M):0<L2:=by
 obtain⟨h1,h2⟩:=fi_mod hF hL2 hM
 by_cases e:r2=0
 · rw[h1 e];omega
 · rw[h2 e];exact h
theorem fi_at{r2 L2 R M k:Nat}{S2 T:Nat->Int}(hF:fiE r2 S2 R T=0)(hL2:itm S2 r2=(L2:Nat))(hM:itm T R=(M:Nat))(hk:k<M):k%L2=if r2=0 then 0 else k:=by
 obtain⟨h1,h2⟩:=fi_mod hF hL2 hM
 by_cases e:r2=0
 · rw[if_pos e,h1 e];exact Nat.mod_one k
 · rw[if_neg e,h2 e];exact Nat.mod_eq_of_lt hk
end Go.Proofs.YtdmmenaejkpnjaaGreatDoor
namespace Go.Proofs.YtdmmenaejkpnjaaGreatDoor
open Go.RowKit
attribute [local go_sem ↓] Go.wp_at_zero Go.wp_at_succ
theorem qcs_one (fB : Nat -> Bool) (fS fT : Nat -> ByteArray) : ∀ n, ∀ u ∈ qcs fB fS fT n, u.oneCell' = true
 | 0,u,hu=>by cases hu
 | n+1,u,hu=>by
  unfold qcs at hu
  rcases List.mem_append.1 hu with h|h
  · exact qcs_one fB fS fT n u h
  · simp at h
    rcases h with rfl|rfl|rfl<;>rfl
theorem qrow_news{w:World}{b off n c:Nat}{fB:Nat->Bool}{fS fT:Nat->ByteArray}(h:QRow w (some ⟨b,off,none⟩) n c fB fS fT):∀j u,(qcs fB fS fT n)[j]? = some u->w.cell? ((⟨b,off,none⟩:Addr).add j)=some u:=by
 have hp:∀i,i<n*3->∀u,(qcs fB fS fT n)[i]? = some u->w.cell? ⟨b,off+i,none⟩=some u:=three (p:=fun i=>∀u,(qcs fB fS fT n)[i]? = some u->w.cell? ⟨b,off+i,none⟩=some u) fun j hj=>by
  rcases h.2.2 with h0|⟨b',off',e,_,hc⟩
  · omega
  · cases e
    obtain⟨e1,e2,e3⟩:=qcs_get fB fS fT n j hj;obtain⟨c1,c2,c3⟩:=hc j hj
    refine⟨fun u hu => ?_,fun u hu => ?_,fun u hu => ?_⟩
    · rw[e1]at hu;rw[← hu];exact c1
    · rw[e2]at hu;rw[← hu];exact c2
    · rw[e3]at hu;rw[← hu];exact c3
 intro j u hu
 have hj:j<n*3:=by
  have:=(List.getElem?_eq_some_iff.1 hu).1
  rwa [qcs_length]at this
 rw[show(⟨b,off,none⟩:Addr).add j=⟨b,off+j,none⟩by simp[Addr.add]];exact hp j hj u hu
end Go.Proofs.YtdmmenaejkpnjaaGreatDoor
namespace Go.Proofs.YtdmmenaejkpnjaaGreatDoor
open Go.RowKit
def ZTo(w:World)(b n:Nat)(f:Nat->Int):Prop:=b<w.heap.size/\Free w b/\∀j,j<n->w.cell? ⟨b,j,none⟩=some (.int .i32 (f j))
theorem ZTo.below{w w':World}{b n:Nat}{f:Nat->Int}(h:ZTo w b n f)(hb:Below w.heap.size w w'):ZTo w' b n f :=
 ⟨Nat.lt_of_lt_of_le h.1 hb.size,h.2.1.below hb h.1,fun j hj=>(hb.cell (p:=⟨b,_,none⟩) h.1).trans (h.2.2 j hj)⟩
theorem ZTo.put{w:World}{b n p:Nat}{f:Nat->Int}(h:ZTo w b n f)(hp:p<n)(x:Int):ZTo (w.setCell ⟨b,p,none⟩ (.int .i32 x)) b n (fun q=>if q=p then x else f q):=by
 obtain⟨h1,h2,h3⟩:=h;refine⟨by simpa using h1,h2.set _ _,fun j hj => ?_⟩
 dsimp only
 by_cases e:j=p
 · subst e;rw[if_pos rfl];exact World.cell?_setCell_same _ _ _ (h3 j hj)
 · rw[if_neg e,World.cell?_setCell_other _ _ _ _ (fun h=>by injection h with _ h;omega)];exact h3 j hj
theorem ZTo.krow{w:World}{b n c:Nat}{f:Nat->Int}(h:ZTo w b n f)(hn:n<=c)(hc:c<=maxLen):KRow w .i32 (some ⟨b,0,none⟩) n c f :=
 ⟨hn,hc,.inr ⟨b,0,rfl,h.1,fun j hj=>by rw[Nat.zero_add];exact h.2.2 j hj⟩⟩
def QTo(w:World)(b n:Nat)(fB:Nat->Bool)(fS fT:Nat->ByteArray):Prop:=b<w.heap.size/\Free w b/\∀j,j<n->w.cell? ⟨b,j*3,none⟩=some (.bool (fB j))/\w.cell? ⟨b,j*3+1,none⟩=some (.string (fS j))/\w.cell? ⟨b,j*3+2,none⟩=some (.string (fT j))
theorem QTo.below{w w':World}{b n:Nat}{fB:Nat->Bool}{fS fT:Nat->ByteArray}(h:QTo w b n fB fS fT)(hb:Below w.heap.size w w'):QTo w' b n fB fS fT :=
 ⟨Nat.lt_of_lt_of_le h.1 hb.size,h.2.1.below hb h.1,fun j hj=>⟨(hb.cell (p:=⟨b,_,none⟩) h.1).trans (h.2.2 j hj).1,(hb.cell (p:=⟨b,_,none⟩) h.1).trans (h.2.2 j hj).2.1,(hb.cell (p:=⟨b,_,none⟩) h.1).trans (h.2.2 j hj).2.2⟩⟩
theorem QTo.put{w:World}{b n p:Nat}{fB:Nat->Bool}{fS fT:Nat->ByteArray}(h:QTo w b n fB fS fT)(hp:p<n)(x:Bool)(y z:ByteArray):QTo (((w.setCell ⟨b,p*3,none⟩ (.bool x)).setCell ⟨b,p*3+1,none⟩ (.string y)).setCell ⟨b,p*3+2,none⟩ (.string z)) b n (fun q=>if q=p then x else fB q) (fun q=>if q=p then y else fS q) (fun q=>if q=p then z else fT q):=by
 obtain⟨h1,h2,h3⟩:=h;refine⟨by simpa using h1,((h2.set _ _).set _ _).set _ _,fun j hj => ?_⟩;obtain⟨e1,e2,e3⟩:=h3 j hj
 dsimp only
 by_cases e:j=p
 · subst e;rw[if_pos rfl,if_pos rfl,if_pos rfl];have n1:∀a c:Nat,a≠c->(⟨b,a,none⟩:Addr)≠⟨b,c,none⟩:=fun a c hac h=>hac (by injection h)
   refine⟨?_,?_,?_⟩
   · rw[World.cell?_setCell_other _ _ _ _ (n1 _ _ (by omega)),World.cell?_setCell_other _ _ _ _ (n1 _ _ (by omega))];exact World.cell?_setCell_same _ _ _ e1
   · rw[World.cell?_setCell_other _ _ _ _ (n1 _ _ (by omega))];exact World.cell?_setCell_same _ _ _ (by rw[World.cell?_setCell_other _ _ _ _ (n1 _ _ (by omega))];exact e2)
   · exact World.cell?_setCell_same _ _ _ (by rw[World.cell?_setCell_other _ _ _ _ (n1 _ _ (by omega)),World.cell?_setCell_other _ _ _ _ (n1 _ _ (by omega))];exact e3)
 · rw[if_neg e,if_neg e,if_neg e];have n1:∀a c:Nat,a≠c->(⟨b,a,none⟩:Addr)≠⟨b,c,none⟩:=fun a c hac h=>hac (by injection h)
   refine⟨?_,?_,?_⟩<;>rw[World.cell?_setCell_other _ _ _ _ (n1 _ _ (by omega)),World.cell?_setCell_other _ _ _ _ (n1 _ _ (by omega)),World.cell?_setCell_other _ _ _ _ (n1 _ _ (by omega))]<;>assumption
theorem QTo.qrow{w:World}{b n c:Nat}{fB:Nat->Bool}{fS fT:Nat->ByteArray}(h:QTo w b n fB fS fT)(hn:n<=c)(hc:c<=maxLen):QRow w (some ⟨b,0,none⟩) n c fB fS fT :=
 ⟨hn,hc,.inr ⟨b,0,rfl,h.1,fun j hj=>by rw[Nat.zero_add];exact h.2.2 j hj⟩⟩
def FrC(y:World)(B:Nat)(a:Option Addr)(m c:Nat)(g:Nat->Int):Prop:=m<=c/\c<=maxLen/\(0<m->∃b,a=some ⟨b,0,none⟩/\B<=b/\ZTo y b m g)
theorem FrC.below{y y':World}{B:Nat}{a:Option Addr}{m c:Nat}{g:Nat->Int}(h:FrC y B a m c g)(hb:Below y.heap.size y y'):FrC y' B a m c g :=
 ⟨h.1,h.2.1,fun e=>by obtain⟨b,h1,h2,h3⟩:=h.2.2 e;exact⟨b,h1,h2,h3.below hb⟩⟩
def FrQ(y:World)(B:Nat)(a:Option Addr)(m c:Nat)(fB:Nat->Bool)(fS fT:Nat->ByteArray):Prop:=m<=c/\c<=maxLen/\(0<m->∃b,a=some ⟨b,0,none⟩/\B<=b/\QTo y b m fB fS fT)
theorem FrQ.below{y y':World}{B:Nat}{a:Option Addr}{m c:Nat}{fB:Nat->Bool}{fS fT:Nat->ByteArray}(h:FrQ y B a m c fB fS fT)(hb:Below y.heap.size y y'):FrQ y' B a m c fB fS fT :=
 ⟨h.1,h.2.1,fun e=>by obtain⟨b,h1,h2,h3⟩:=h.2.2 e;exact⟨b,h1,h2,h3.below hb⟩⟩
theorem app_newC (yw : World) (B k : Nat) {a2 : Option Addr} {m c2 : Nat} {g : Nat -> Int} (h : KRow yw .i32 a2 m c2 g) (hm : m <= 1000000) (hB : B <= yw.heap.size) :
    ∃a' c' y1,(Builtin.append_ #[23,23] 23 #[.slice (some ⟨k,0,none⟩) 0 0,.slice a2 m c2]).run Tryz.prog yw=.ok (.slice a' m c') y1/\Below yw.heap.size yw y1/\FrC y1 B a' m c' g:=by
 obtain⟨i0,hi,hz0,hz1,hz2⟩:=info_parts infoC;have hu:Tryz.prog.underlying 23=some (.slice 21):=Tryz.underlying23
 rcases Nat.eq_zero_or_pos m with h0|h0
 · subst h0
   have hs:Src Tryz.prog i0.size 23 (.slice a2 0 c2) 0 [] yw:=by
    cases a2 with
    | none=>exact Src.ofNil yw hu c2
    | some ad=>exact Src.ofSlice yw hu ad 0 c2 [] (by simp) (fun j u hu=>by simp at hu) (fun u hu=>by simp at hu)
   exact⟨_,_,_,run_append_nothing yw _ _ _ 21 i0 hu hi _ 0 0 (Nat.le_refl _) _ hs,Below.refl _ _,Nat.le_refl _,Nat.zero_le _,fun e=>absurd e (Nat.lt_irrefl _)⟩
 · obtain⟨b9,off9,rfl,_,_⟩:=h.2.2.resolve_left (by omega);have hs:Src Tryz.prog i0.size 23 (.slice (some ⟨b9,off9,none⟩) m c2) m (kcs .i32 g m) yw:=Src.ofSlice yw hu ⟨b9,off9,none⟩ m c2 _ (by rw[hz1,kcs_length];omega) (krow_news h) (kcs_one .i32 g m);have hr:=run_append_grow_src yw 23 23 23 21 i0 _ hu hi hz0 (some ⟨k,0,none⟩) 0 0 [] (run_firstCells_some yw.drew i0.size 0 ⟨k,0,none⟩ 0 0 [] (by simp) (fun j u hu=>by simp at hu)) _ m _ hs (by omega) (by omega) (by rw[Nat.zero_add,nextslicecap_zero h0,hz2];omega);rw[Nat.zero_add]at hr;have hR:=Row.new yw.drew 21 (([]++kcs .i32 g m).toArray++Builtin.zeroCells (Value.cells (.int .i32 0)) (grownCap yw m 0 21-m));refine⟨_,_,_,hr,((Below.refl _ yw).drew).alloc (Nat.le_refl _) _,grownCap_ge _ _ _ _,grownCap_le_maxLen _ _ _ _ (by unfold maxLen;omega),fun _=>⟨_,rfl,hB,hR.lt,fun o=>hR.free o,fun j hj => ?_⟩⟩;have hc:=hR.cell j;have hl:j<(kcs .i32 g m).length:=by rw[kcs_length];exact hj
   rw[Array.getElem?_append_left (by simpa using hl)]at hc;refine hc.trans ?_;have:=kcs_get .i32 g m j hj
   simpa using this
theorem app_newQ (yw : World) (B k : Nat) {a2 : Option Addr} {m c2 : Nat} {fB : Nat -> Bool} {fS fT : Nat -> ByteArray} (h : QRow yw a2 m c2 fB fS fT) (hm : m <= 1000000) (hB : B <= yw.heap.size) :
    ∃a' c' y1,(Builtin.append_ #[24,24] 24 #[.slice (some ⟨k,0,none⟩) 0 0,.slice a2 m c2]).run Tryz.prog yw=.ok (.slice a' m c') y1/\Below yw.heap.size yw y1/\FrQ y1 B a' m c' fB fS fT:=by
 obtain⟨i0,hi,hz0,hz1,hz2⟩:=info_parts infoN;have hu:Tryz.prog.underlying 24=some (.slice 46):=Tryz.underlying24
 rcases Nat.eq_zero_or_pos m with h0|h0
 · subst h0
   have hs:Src Tryz.prog i0.size 24 (.slice a2 0 c2) 0 [] yw:=by
    cases a2 with
    | none=>exact Src.ofNil yw hu c2
    | some ad=>exact Src.ofSlice yw hu ad 0 c2 [] (by simp) (fun j u hu=>by simp at hu) (fun u hu=>by simp at hu)
   exact⟨_,_,_,run_append_nothing yw _ _ _ 46 i0 hu hi _ 0 0 (Nat.le_refl _) _ hs,Below.refl _ _,Nat.le_refl _,Nat.zero_le _,fun e=>absurd e (Nat.lt_irrefl _)⟩
 · obtain⟨b9,off9,rfl,_,_⟩:=h.2.2.resolve_left (by omega);have hs:Src Tryz.prog i0.size 24 (.slice (some ⟨b9,off9,none⟩) m c2) m (qcs fB fS fT m) yw:=Src.ofSlice yw hu ⟨b9,off9,none⟩ m c2 _ (by rw[hz1,qcs_length]) (qrow_news h) (qcs_one fB fS fT m);have hr:=run_append_grow_src yw 24 24 24 46 i0 _ hu hi hz0 (some ⟨k,0,none⟩) 0 0 [] (run_firstCells_some yw.drew i0.size 0 ⟨k,0,none⟩ 0 0 [] (by simp) (fun j u hu=>by simp at hu)) _ m _ hs (by omega) (by omega) (by rw[Nat.zero_add,nextslicecap_zero h0,hz2];omega);rw[Nat.zero_add]at hr;have hR:=Row.new yw.drew 46 (([]++qcs fB fS fT m).toArray++Builtin.zeroCells (Value.cells (.agg #[.bool false,.string ⟨#[]⟩,.string ⟨#[]⟩])) (grownCap yw m 0 46-m));refine⟨_,_,_,hr,((Below.refl _ yw).drew).alloc (Nat.le_refl _) _,grownCap_ge _ _ _ _,grownCap_le_maxLen _ _ _ _ (by unfold maxLen;omega),fun _=>⟨_,rfl,hB,hR.lt,fun o=>hR.free o,fun j hj => ?_⟩⟩;obtain⟨q1,q2,q3⟩:=qcs_get fB fS fT m j hj;have hl:(qcs fB fS fT m).length=m*3:=qcs_length _ _ _ _
   have key:∀i u,i<m*3->(qcs fB fS fT m)[i]? = some u->(yw.drew.alloc (.cells (([]++qcs fB fS fT m).toArray++Builtin.zeroCells (Value.cells (.agg #[.bool false,.string ⟨#[]⟩,.string ⟨#[]⟩])) (grownCap yw m 0 46-m)) 46)).cell? ⟨yw.drew.heap.size,i,none⟩=some u:=fun i u hi he=>by
    have hc:=hR.cell i;rw[Array.getElem?_append_left (by simpa[hl]using hi)]at hc;refine hc.trans ?_
    simpa using he
   exact⟨key _ _ (by omega) q1,key _ _ (by omega) q2,key _ _ (by omega) q3⟩
end Go.Proofs.YtdmmenaejkpnjaaGreatDoor
