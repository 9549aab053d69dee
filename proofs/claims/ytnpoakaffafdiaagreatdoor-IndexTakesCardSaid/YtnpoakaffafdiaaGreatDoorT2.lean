/-
  Texts of this seat, laid together.
-/
import Derived.Laws.BytesArg
import Derived.StillTailTactics
import Derived.Deep.Slices
import Derived.Lib.SmallJoins
import Derived.Lib.AppendZeros
import Derived.Laws.AppendOwnNone
import Derived.Laws.StructEq
import Derived.Deep.MidRow
import Derived.Deep.QuietTactic
import Derived.BigQuiet
import Derived.IntWalk
import Derived.Lib.SliceRun
import Derived.Lib.Walk
import Derived.Deep.AppendLies
import Derived.Deep.RegionLaw
import Derived.Deep.Strs
import Derived.ProofKit
import Derived.OpenShut
import Derived.Test.YtnpoakaffafdiaaGreatDoorRows
import Derived.Lib.ItoaNum
import Derived.Test.YtnpoakaffafdiaaGreatDoorShelf
import Derived.WalkKit
import Derived.WalkSpells
import Derived.Deep.Draws
import Derived.Lib.Hide
import Derived.Lib.TrimByte
import Derived.WalkLawsBesides
import Derived.Laws.CopyOwn
import Derived.BigRegion
import Derived.RegionTactic
import Derived.Deep.RegionWith
import Derived.Deep.RegionHeld3
import Derived.Below
import Derived.Carry
import Derived.Laws.EntriesVeiled
import Derived.Laws.OwnMore
import Derived.Shelf.Abstract
import Derived.Deep.DrawnRows
import Derived.Laws.BitsLemmas
import Derived.ChangeKeysEq
import Derived.Lib.MinMax
import Derived.Test.YtnpoakaffafdiaaGreatDoorQ1
import Derived.Test.YtnpoakaffafdiaaGreatDoorQ2
import Derived.Test.YtnpoakaffafdiaaGreatDoorQ3
import Derived.Test.YtnpoakaffafdiaaGreatDoorQ4
import Derived.Test.YtnpoakaffafdiaaGreatDoorQ5
import Derived.Test.YtnpoakaffafdiaaGreatDoorQ6
import Derived.Test.YtnpoakaffafdiaaGreatDoorQ7
import Derived.Test.YtnpoakaffafdiaaGreatDoorQ8
import Derived.Test.YtnpoakaffafdiaaGreatDoorQ9
import Derived.Test.YtnpoakaffafdiaaGreatDoorQ10
import Derived.Test.YtnpoakaffafdiaaGreatDoorT1
set_option maxHeartbeats 12800000
set_option maxRecDepth 100000
set_option linter.unusedSimpArgs false
set_option linter.unusedVariables false
namespace Go.Proofs.YtnpoakaffafdiaaGreatDoor
open Go.RowKit
attribute [local go_sem ↓] Go.wp_at_zero Go.wp_at_succ
set_option linter.unusedVariables false
set_option linter.unusedSimpArgs false
theorem ixR_le {D : Nat -> Sb} : ∀ {n : Nat}, (∀ j, j < n -> (D j).k <= 8) -> ixR D n <= 8 * n
 | 0, _ => Nat.le_refl _
 | n + 1, h => by
  have := ixR_le (n := n) (fun j hj => h j (by omega))
  have := h n (by omega)
  show ixR D n + (D n).k <= 8 * (n + 1)
  omega
theorem Sr.k8 {d : Sr} (h : d.good) : d.sb.k <= 8 := by
 obtain ⟨_, _, h3, _⟩ := h
 have := h3.rank
 show (if d.al = true then 1 else d.r) <= 8
 split <;> omega
theorem whB_idx {o : Int} (ho : 0 <= o /\ o <= 1) : ∀ {n : Nat}, n <= 4096 -> whB (fun j => (j : Int) + o) (fun _ => 1) n = true
 | 0, _ => rfl
 | n + 1, h => by
  unfold whB
  rw [whB_idx ho (by omega)]
  unfold fitB
  rw [decide_eq_true rfl, decide_eq_true (by omega)]
  rfl
theorem idx_num {o : Int} (ho : 0 <= o /\ o <= 1) {n : Nat} (h : n <= 4096) : NumOk (fun j => rB ((j : Int) + o)) (fun j => rS ((j : Int) + o)) (fun _ => str (dec 1)) (fun j => (j : Int) + o) (fun _ => 1) n := fun j hj => by
 refine ⟨rfl, rfl, rfl, Nat.one_pos, Nat.le_trans (dl_le ((j : Int) + o).natAbs 4 (by omega) (by omega)) (by omega), Nat.le_trans (dl_le 1 1 (by omega) (by omega)) (by omega)⟩
theorem OwnI.same {y0 w : World} {a : Option Addr} {k c : Nat} {f g : Nat -> Int} (h : OwnI y0 w a k c f) (e : ∀ j, j < k -> g j = f j) : OwnI y0 w a k c g := ⟨h.1, by rw [kcs_congr e]; exact h.2⟩
theorem OwnI.up {y0 w w' : World} {a : Option Addr} {k c : Nat} {f : Nat -> Int} (h : OwnI w w' a k c f) (hb : Below y0.heap.size y0 w) : OwnI y0 w' a k c f := ⟨hb.trans (h.1.mono hb.size), own_base h.2 hb.size⟩
theorem whole_idx (s o : Int) (hs : 0 <= s /\ s <= 4096) (ho : 0 <= o /\ o <= 1) (F : Nat -> Int) (hF : ∀ j, j < s.toNat -> F j = (j : Int) + o) (p : Array Value) (wz : World) (h : ∀ T, Pln wz p (fun _ => s) 1 false s.toNat T (fun j => rB ((j : Int) + o)) (fun j => rS ((j : Int) + o)) (fun _ => str (dec 1))) :
    Calls Tryz.prog 100 #[.agg p] wz fun e w' => ∃ a c, e = .returned (.tuple #[.slice a s.toNat c, .bool true]) /\ OwnI wz w' a s.toNat c F /\ Below wz.heap.size wz w' := by
 have hn : s.toNat <= 4096 := by omega
 refine (r6WholeN_any p (fun _ => s) 1 false (fun _ => 0) (tnO false s.toNat) _ _ _ (nnO false s.toNat) (fun j => (j : Int) + o) (fun _ => 1) wz (h _) (idx_num ho hn) (by have := (nnO_le false s.toNat).1; omega)).mono ?_
 rintro e w' ⟨a, m, c, he, h2, hb⟩
 rw [show nnO false s.toNat = s.toNat from rfl, whB_idx ho hn] at he h2
 rw [show (decide (tnO false s.toNat = 0) && true) = true from rfl] at he h2
 rw [if_pos rfl] at h2
 obtain ⟨rfl, h3⟩ := h2
 exact ⟨a, c, he, h3.same hF, hb⟩
theorem whole_arr (d : Sr) (hg : d.good) (F : Nat -> Int) (hF : ∀ j, j < d.L -> F j = gP d.B d.U d.V j) (p : Array Value) (wz : World) (h : PlnAt wz p d.S d.r d.ch d.g d.tn d.B d.U d.V d.nn) :
    Calls Tryz.prog 100 #[.agg p] wz fun e w' => ∃ a m c, e = .returned (.tuple #[.slice a m c, .bool (whC d.ch d.L (gP d.B d.U d.V) (gQ d.B d.U d.V))]) /\ (whC d.ch d.L (gP d.B d.U d.V) (gQ d.B d.U d.V) = true -> m = d.L /\ OwnI wz w' a d.L c F) /\ (whC d.ch d.L (gP d.B d.U d.V) (gQ d.B d.U d.V) = false -> a = none /\ m = 0 /\ c = 0) /\ Below wz.heap.size wz w' := by
 obtain ⟨g1, g2, g3, g4⟩ := hg
 rw [g1, g2] at h
 refine (r6WholeN_any p d.S d.r d.ch d.g (tnO d.ch d.L) d.B d.U d.V (nnO d.ch d.L) (gP d.B d.U d.V) (gQ d.B d.U d.V) wz h g3.num (by have := (nnO_le d.ch d.L).1; omega)).mono ?_
 rintro e w' ⟨a, m, c, he, h2, hb⟩
 rw [wh_eq] at he h2
 refine ⟨a, m, c, he, fun hw => ?_, fun hw => ?_, hb⟩
 · rw [if_pos hw, wh_nn hw] at h2
   exact ⟨h2.1, h2.2.same hF⟩
 · rw [hw, if_neg (by decide)] at h2
   exact h2
theorem heap_lt {w y : World} {z : Nat} (e : y.heap[z]? = w.heap[z]?) (h : z < w.heap.size) : z < y.heap.size := by
 by_cases hh : z < y.heap.size
 · exact hh
 · rw [Array.getElem?_eq_none (by omega), Array.getElem?_eq_getElem h] at e
   cases e
theorem PlnAt.shape {y : World} {va : Option Addr} {r vc : Nat} {ch ch' : Bool} {ta : Option Addr} {tn tn' tc : Nat} {na : Option Addr} {nn nn' nc : Nat} {S : Nat -> Int} {g : Nat -> Int} {fB : Nat -> Bool} {fS fT : Nat -> ByteArray} (h : PlnAt y (plC va r vc ch ta tn tc na nn nc) S r ch' g tn' fB fS fT nn') : KRow y .i64 va r vc S := by
 obtain ⟨sa, sc, ta', tc', na', nc', e, k0, _⟩ := h
 simp [plC] at e
 obtain ⟨⟨rfl, rfl⟩, _⟩ := e
 exact k0
theorem is_in {d : Sb} {o s : Int} (hs : 0 <= s) (F : Nat -> Int) (hF : ∀ q, F q = d.F o q + o) : d.is o s = inAll o s F (d.n s) := by
 cases ha : d.al with
 | true =>
  have h1 : d.is o s = true := by unfold Sb.is; rw [ha]; rfl
  rw [h1]
  refine (inAll_iff.2 (fun q hq => ?_)).symm
  unfold Sb.n at hq
  rw [ha, if_pos rfl] at hq
  have := hF q
  unfold Sb.F at this
  rw [ha, if_pos rfl] at this
  omega
 | false =>
  have e : F = d.P := funext (fun q => by
   rw [hF]
   unfold Sb.F
   rw [ha, if_neg (by decide)]
   omega)
  unfold Sb.is Sb.n
  rw [ha, if_neg (by decide), e, Bool.false_or]
theorem fit_in {d : Sb} {o s : Int} (hs : 0 <= s /\ s <= 4096) (ho : 0 <= o /\ o <= 1) (hw : d.wh = true) {q : Nat} (hq : q < d.n s) : -9223372036854775808 <= d.F o q + o /\ d.F o q + o <= 9223372036854775807 := by
 unfold Sb.wh at hw
 unfold Sb.n at hq
 unfold Sb.F
 cases ha : d.al with
 | true =>
  rw [ha, if_pos rfl] at hq
  rw [if_pos rfl]
  omega
 | false =>
  rw [ha, if_neg (by decide)] at hq
  rw [if_neg (by decide)]
  rw [ha, Bool.false_or] at hw
  unfold whC at hw
  split at hw
  · have := of_decide_eq_true hw
    omega
  · have h1 := (whB_at hw q hq).2
    unfold fitB at h1
    have h2 := of_decide_eq_true h1
    omega
theorem ixT_bd {S : Nat -> Int} {D : Nat -> Sb} : ∀ {n : Nat}, (∀ j, j < n -> In64 ((D j).T (S j)) (D j).k) -> In64 (ixT S D n) (ixR D n)
 | 0, _ => fun q hq => absurd hq (Nat.not_lt_zero _)
 | n + 1, h => fun q hq => by
  have e2 : ixR D (n + 1) = ixR D n + (D n).k := rfl
  show _ <= app (ixT S D n) (ixR D n) ((D n).T (S n)) q /\ app (ixT S D n) (ixR D n) ((D n).T (S n)) q <= _
  unfold app
  split
  · exact ixT_bd (n := n) (fun j hj => h j (by omega)) q (by omega)
  · exact h n (by omega) _ (by omega)
theorem Sr.t64 {d : Sr} (h : d.good) {s : Int} (hs : 0 <= s /\ s <= 4096) : In64 (d.sb.T s) d.sb.k := by
 obtain ⟨_, _, h3, _⟩ := h
 show In64 (if d.al = true then fun _ => s else d.S) (if d.al = true then 1 else d.r)
 split
 · exact fun q _ => by dsimp only; omega
 · exact h3.in64
def AxsTold (o : Int) (S : Nat -> Int) (n : Nat) (D : Nat -> Sb) (m : Nat) (w w' : World) (e : Ending) : Prop :=
 (ixE o S n D m ≠ 0 -> e = .returned (.tuple #[.slice none 0 0, .slice none 0 0, .int .i64 (ixE o S n D m)])) /\ (ixE o S n D m = 0 -> ∃ a c la lc A C, e = .returned (.tuple #[.slice a (ixR D n) c, .slice la n lc, .int .i64 0]) /\ KRow w' .i64 a (ixR D n) c (ixT S D n) /\ LRow w' la n lc A (ixN S D) C (fun j q => ixF o D j q + o)) /\ Below w.heap.size w w'
theorem AxsTold.no {o : Int} {S : Nat -> Int} {n : Nat} {D : Nat -> Sb} {m : Nat} {w w' : World} {E : Int} (hE : ixE o S n D m = E) (h0 : E ≠ 0) (hb : Below w.heap.size w w') : AxsTold o S n D m w w' (.returned (.tuple #[.slice none 0 0, .slice none 0 0, .int .i64 E])) :=
 ⟨fun _ => by rw [hE], fun h => absurd (hE.symm.trans h) h0, hb⟩
theorem raxes_any (a : Option Addr) (n c : Nat) (S : Nat -> Int) (o : Int) (al : Option Addr) (m cl : Nat) (E : Nat -> Sr) (w : World) (h : KRow w .i64 a n c S) (hd : DRow w al m cl E) (hg : ∀ j, j < m -> (E j).good) (hS : ∀ j, j < n -> 0 <= S j /\ S j <= 4096) (ho : 0 <= o /\ o <= 1) (hm : m <= 20) :
    Calls Tryz.prog 43 #[.slice a n c, .int .i64 o, .slice al m cl] w fun e w' => AxsTold o S n (fun j => (E j).sb) m w w' e := by
 obtain ⟨D, hD⟩ : ∃ D : Nat -> Sb, (fun j => (E j).sb) = D := ⟨_, rfl⟩
 have hDj : ∀ j, (E j).sb = D j := fun j => by rw [← hD]
 rw [hD]
 have hl := h.len
 have hll := hd.len
 have HK := Lib.hid h
 have HD := Lib.hid hd
 have HGD := Lib.hid hg
 have HS := Lib.hid hS
 have HDJ := Lib.hid hDj
 have HRL : Hid (∀ i, i <= m -> ixR D i <= 8 * i) := Lib.hid (fun i hi => ixR_le (fun j hj => by rw [← hDj]; exact Sr.k8 (hg j (by omega))))
 clear h hd hg hS hD hDj
 by_cases hmn : m = n
 case neg =>
  have hE : ixE o S n D m = 23 := by unfold ixE; rw [if_pos hmn]
  have HE := Lib.hid (AxsTold.no (w := w) (w' := w) hE (by decide) (Below.refl _ _))
  have d1 : ((n : Int) != (m : Int)) = true := bne_iff_ne.2 (by omega)
  clear hE hmn HK HD HGD HS HDJ HRL
  go_enter Tryz.func43, Tryz.ntmps43
  go_wp2
  exact bodyPost_ret (v := .tuple #[.slice none 0 0, .slice none 0 0, .int .i64 23]) (by simp [results, Tryz.results43, go_sem]) rfl HE.out
 case pos =>
 subst hmn
 have d1 : ((m : Int) != (m : Int)) = false := bne_self_eq_false _
 obtain ⟨N, hN⟩ : ∃ N, ixN S D = N := ⟨_, rfl⟩
 obtain ⟨F, hF⟩ : ∃ F : Nat -> Nat -> Int, (fun j q => ixF o D j q + o) = F := ⟨_, rfl⟩
 have HNF := Lib.hid (And.intro hN hF)
 have HE22 : Hid (allB (fun j => (D j).wh) m = false -> ixE o S m D m = 22) := Lib.hid (fun hx => by
  unfold ixE
  rw [if_neg (fun e => e rfl), if_pos hx])
 clear hN hF
 go_enter Tryz.func43, Tryz.ntmps43
 go_wp2_with fail
 go_loopw [9, 10, 11] (fun ov vv ii wr => ∃ (i : Nat) (ao : Option Addr) (co : Nat) (v5 : Value), i <= m /\ ov = .slice ao (ixR D i) co /\ v5 = vv /\ ii = .int .i64 i /\ Hid (AxSt w wr N F i v5 ao (ixR D i) co (ixT S D i) /\ allB (fun j => (D j).wh) i = true)) (fun _ _ ii _ => m - (intOf ii).toNat)
 case atStart => exact ⟨0, none, 0, _, by omega, rfl, rfl, rfl, AxSt.nil w N F (ixT S D 0), rfl⟩
 case round =>
  obtain ⟨i, ao, co, v5, hi, rfl, hv5, rfl, hst⟩ := hrel
  subst hv5
  by_cases hlt : i < m
  case pos =>
   have hk0 : (0 : Int) <= i := by omega
   have hk1 : (i : Int) < m := by omega
   have HST := Lib.hid hst.out.1
   have HWH := Lib.hid hst.out.2
   clear hst
   obtain ⟨b, off, va, vc, ta, tc, na, nc, rfl, hlb, hrg, hpl⟩ := HD.out.get hlt
   obtain ⟨bs, os, rfl, hbs, hcs⟩ := HK.out.get hlt
   have hs0 := HS.out i hlt
   have HG := Lib.hid (HGD.out i hlt)
   have hrl := HRL.out i (by omega)
   have hwr := HST.out.1.size
   have HRG := Lib.hid hrg
   have HPL := Lib.hid hpl
   have HCS := Lib.hid hcs
   have HX : Hid (allB (fun j => (D j).wh) (i + 1) = (D i).wh) := Lib.hid (by show (allB (fun j => (D j).wh) i && (D i).wh) = _; rw [HWH.out]; rfl)
   have HT1 : Hid (ixR D (i + 1) = ixR D i + (D i).k /\ ixT S D (i + 1) = app (ixT S D i) (ixR D i) ((D i).T (S i))) := Lib.hid ⟨rfl, rfl⟩
   have HNi : Hid (N i = (D i).n (S i) /\ ∀ q, F i q = (D i).F o q + o) := Lib.hid (by
    rw [← HNF.out.1, ← HNF.out.2]
    exact ⟨rfl, fun _ => rfl⟩)
   have k8 : (D i).k <= 8 := by rw [← HDJ.out]; exact Sr.k8 HG.out
   have HK8 := Lib.hid k8
   have WA := Lib.hid (fun Fx hF p wz q => whole_arr (E i) HG.out Fx hF p wz q)
   have HDI := Lib.hid (HDJ.out i)
   obtain ⟨d, hdd⟩ : ∃ d, E i = d := ⟨_, rfl⟩
   rw [hdd] at HRG HPL WA HDI HG
   obtain ⟨sv, hsv⟩ : ∃ z, S i = z := ⟨_, rfl⟩
   rw [hsv] at HCS HT1 HNi hs0
   clear hrg hpl hcs hsv hdd k8
   obtain ⟨dd, hdi⟩ : ∃ z, D i = z := ⟨_, rfl⟩
   have WHI := Lib.hid (congrArg Sb.wh hdi)
   rw [hdi] at HX HT1 HNi HDI HK8
   clear hdi
   obtain ⟨RI, hRI⟩ : ∃ z, ixR D i = z := ⟨_, rfl⟩
   obtain ⟨TI, hTI⟩ : ∃ z, ixT S D i = z := ⟨_, rfl⟩
   rw [hRI] at HT1 HST hrl ⊢
   rw [hTI] at HT1 HST
   clear hRI hTI
   have e_al : d.sb.al = d.al := rfl
   obtain ⟨dal, hal⟩ : ∃ z, d.al = z := ⟨_, rfl⟩
   obtain ⟨dr, hdr⟩ : ∃ z, d.r = z := ⟨_, rfl⟩
   obtain ⟨dch, hdch⟩ : ∃ z, d.ch = z := ⟨_, rfl⟩
   obtain ⟨dtn, hdtn⟩ : ∃ z, d.tn = z := ⟨_, rfl⟩
   obtain ⟨dnn, hdnn⟩ : ∃ z, d.nn = z := ⟨_, rfl⟩
   have HAL := Lib.hid hal
   have HDR := Lib.hid hdr
   have HRGw : Hid (∀ y, Below wr.heap.size wr y -> y.rangeAt b (off + i * 5) (.bool dal :: (plC va dr vc dch ta dtn tc na dnn nc).toList)) := Lib.hid (fun y hb => by
    have q := range_below (range_below HRG.out HST.out.1 hlb) hb (Nat.lt_of_lt_of_le hlb hwr)
    rw [hal, hdr, hdch, hdtn, hdnn] at q
    exact q)
   have HPLw : Hid (∀ y, Below wr.heap.size wr y -> PlnAt y (plC va dr vc dch ta dtn tc na dnn nc) d.S d.r d.ch d.g d.tn d.B d.U d.V d.nn) := Lib.hid (fun y hb => by
    have q := (HPL.out.below HST.out.1).below hb
    rw [hdr, hdch, hdtn, hdnn] at q
    rw [hdr, hdch, hdtn, hdnn]
    exact q)
   have HKS : Hid (∀ y, Below w.heap.size w y -> KRow y .i64 va dr vc d.S) := Lib.hid (fun y hb => by
    have q := HPL.out.below hb
    rw [← hdr]
    exact q.shape)
   clear hal hdr hdch hdtn hdnn e_al HRG HPL
   have HZ0 := Lib.hid (Row.new wr 26 plZer)
   have HBZ : Hid (∀ cs, Below wr.heap.size wr ((wr.alloc (.cells plZer 26)).setRow wr.heap.size cs) /\ Row ((wr.alloc (.cells plZer 26)).setRow wr.heap.size (plC va dr vc dch ta dtn tc na dnn nc)) wr.heap.size 26 (plC va dr vc dch ta dtn tc na dnn nc)) := Lib.hid (fun cs => ⟨below_put ((Below.refl _ _).alloc (Nat.le_refl _) _) (Nat.le_refl _) _, (Row.new wr 26 plZer).put _⟩)
   have QS : Hid (∀ y, Below wr.heap.size wr y -> y.cell? ⟨bs, os + i, none⟩ = some (.int .i64 sv)) := Lib.hid (fun y hb => (hb.cell (p := ⟨bs, os + i, none⟩) (Nat.lt_of_lt_of_le hbs hwr)).trans ((HST.out.1.cell (p := ⟨bs, os + i, none⟩) hbs).trans HCS.out))
   have QAL : Hid (∀ y, Below wr.heap.size wr y -> y.cell? ⟨b, off + i * 5, none⟩ = some (.bool dal)) := Lib.hid (fun y hb => HRGw.out y hb 0 _ rfl)
   have RWx : Hid (∀ y, Below wr.heap.size wr y -> y.rangeAt b (off + i * 5) (.bool dal :: (plC va dr vc dch ta dtn tc na dnn nc).toList)) := HRGw
   unfold plZer at HZ0 HBZ
   unfold plC at HZ0
   cases dal with
   | true =>
    have hal2 : dd.al = true := by rw [← HDI.out]; exact HAL.out
    have HNI : Hid (N i = sv.toNat /\ ∀ q, F i q = (q : Int) + o) := Lib.hid (by
     rw [HNi.out.1]
     unfold Sb.n
     rw [hal2, if_pos rfl]
     refine ⟨rfl, fun q => ?_⟩
     rw [HNi.out.2]
     unfold Sb.F
     rw [hal2, if_pos rfl])
    have HDK : Hid (dd.k = 1 /\ dd.T sv = (fun _ => sv) /\ dd.wh = true) := Lib.hid (by
     unfold Sb.k Sb.T Sb.wh
     rw [hal2, if_pos rfl, if_pos rfl]
     exact ⟨rfl, rfl, rfl⟩)
    have RW5 := Lib.hid (fun wz => rwhole11_any sv o wz hs0 ho)
    have WI := Lib.hid (fun p wz q => whole_idx sv o hs0 ho (F i) (fun j _ => HNI.out.2 j) p wz q)
    clear hal2 WA HNi HKS HPLw
    go_wp2_with (first
     | (refine ld_plM rfl (.tmp 33) rfl b (off + i * 5) rfl (HRGw.out _ (Below.refl _ _)) ?_)
     | (refine st_pln rfl (.tmp 12) (.tmp 34) rfl wr.heap.size rfl _ _ _ _ _ _ _ _ _ _ rfl HZ0.out rfl ?_; generalize hW1 : World.setRow _ _ _ = W1; have HB1 : Hid (Below wr.heap.size wr W1) := Lib.hid (by rw [← hW1]; exact (HBZ.out _).1); have HR1 : Hid (Row W1 wr.heap.size 26 (plC va dr vc dch ta dtn tc na dnn nc)) := Lib.hid (by rw [← hW1]; exact (HBZ.out #[]).2); have qal := QAL.out W1 HB1.out; have qs := QS.out W1 HB1.out; clear hW1))
    go_at_call 99
    (refine (RW5.out _).mono ?_)
    rintro e w5 ⟨z, a1, c1, rfl, hz1, hz2, hq, hb5⟩
    have HZ9 := Lib.hid (And.intro (Nat.le_trans HB1.out.size hz1) hz2)
    have HB5 := Lib.hid (HB1.out.trans (hb5.mono HB1.out.size))
    have HR5 := Lib.hid (HR1.out.below hb5)
    have HQ5 := Lib.hid hq
    clear hq hb5 hz1 hz2 RW5 qal qs HB1 HR1
    go_wp2_with (first
     | (refine st_pln rfl (.tmp 12) (.tmp 45) rfl wr.heap.size rfl _ _ _ _ _ _ _ _ _ _ rfl HR5.out rfl ?_; generalize hW2 : World.setRow _ _ _ = W2; have HB2 : Hid (Below wr.heap.size wr W2) := Lib.hid (by rw [← hW2]; exact below_put HB5.out (Nat.le_refl _) _); have HR2 : Hid (Row W2 wr.heap.size 26 (plC (some ⟨z, 0, none⟩) 1 1 false none 0 0 a1 sv.toNat c1)) := Lib.hid (by rw [← hW2]; exact HR5.out.put _); have HQ2 : Hid (∀ T, Pln W2 (plC (some ⟨z, 0, none⟩) 1 1 false none 0 0 a1 sv.toNat c1) (fun _ => sv) 1 false sv.toNat T (fun j => rB ((j : Int) + o)) (fun j => rS ((j : Int) + o)) (fun _ => str (dec 1))) := Lib.hid (fun T => by rw [← hW2]; exact PlnAt.away (HQ5.out T) HR5.out (noInt_pl _ _ _ _ _ _ _ _ _ _) (noStr_pl _ _ _ _ _ _ _ _ _ _) (Far.setRow _ _ _)); have HZ2 : Hid (wr.heap.size <= z /\ z < W2.heap.size) := Lib.hid (by rw [← hW2]; exact ⟨HZ9.out.1, by simpa [World.setRow] using HZ9.out.2⟩); clear hW2)
     | refine ld_pln rfl (.tmp 12) rfl wr.heap.size rfl HR2.out ?_)
    go_at_call 100
    (refine (WI.out _ _ HQ2.out).mono ?_)
    rintro e w7 ⟨a13, c13, rfl, ho7, hb7⟩
    have HOW : Hid (OwnI wr w7 a13 (N i) c13 (F i)) := Lib.hid (by rw [HNI.out.1]; exact ho7.up HB2.out)
    have HR7 := Lib.hid (HR2.out.below hb7)
    have HKZ := Lib.hid ((PlnAt.shape (HQ2.out (fun _ => 0))).below hb7)
    have HZ7 := Lib.hid (And.intro HZ2.out.1 (Nat.lt_of_lt_of_le HZ2.out.2 hb7.size))
    rw [← HNI.out.1]
    clear ho7 hb7
    obtain ⟨v9, y5, hr3, hst9, hkp⟩ := ax_row HST.out HOW.out (by omega)
    have HR9 := Lib.hid (Row.kept9 HR7.out (hkp _ (Nat.le_refl _) HR7.out.lt))
    have hks9 : KRow y5 .i64 (some ⟨z, 0, none⟩) 1 1 (fun _ => sv) := KRow.kept9 HKZ.out (hkp _ HZ7.out.1 HZ7.out.2) (heap_lt (hkp _ HZ7.out.1 HZ7.out.2) HZ7.out.2)
    obtain ⟨a', c', y1, hr4, hst10⟩ := ax_shape hst9 hks9 (by have := HK8.out; have := HDK.out.1; omega)
    have HFIN : Hid (AxSt w y1 N F (i + 1) v9 a' (ixR D (i + 1)) c' (ixT S D (i + 1)) /\ allB (fun j => (D j).wh) (i + 1) = true) := Lib.hid (by
     rw [HT1.out.1, HT1.out.2, HX.out, HDK.out.1, HDK.out.2.1, HDK.out.2.2]
     exact ⟨hst10, rfl⟩)
    have hki : RI + 1 = ixR D (i + 1) := by rw [HT1.out.1, HDK.out.1]
    have HKI := Lib.hid hki
    have q59 : y5.cell? ⟨wr.heap.size, 0, none⟩ = some (.slice (some ⟨z, 0, none⟩) 1 1) := HR9.out.cell 0
    clear hst9 hst10 hkp hks9 hki
    go_wp2_with (first
     | (at_builtin; refine Lib.wpList_append_run _ rfl (.tmp 53) (.tmp 55) 90 90 rfl _ _ rfl rfl _ _ hr3 ?_)
     | (at_builtin; refine Lib.wpList_append_run _ rfl (.tmp 57) (.tmp 59) 22 22 rfl _ _ rfl rfl _ _ hr4 ?_))
    go_roundw
    case rel => exact ⟨i + 1, a', c', v9, by omega, by rw [HKI.out], rfl, by go_num, HFIN.out⟩
    case measure => simp [intOf]; omega
   | false =>
    have hal2 : dd.al = false := by rw [← HDI.out]; exact HAL.out
    have HNI : Hid (N i = d.L /\ ∀ q, F i q = gP d.B d.U d.V q) := Lib.hid (by
     rw [HNi.out.1]
     unfold Sb.n
     rw [hal2, if_neg (by decide)]
     refine ⟨by rw [← HDI.out]; rfl, fun q => ?_⟩
     rw [HNi.out.2]
     unfold Sb.F
     rw [hal2, if_neg (by decide), ← HDI.out]
     show gP d.B d.U d.V q - o + o = _
     omega)
    have WA := Lib.hid (fun p wz q => WA.out (F i) (fun j _ => HNI.out.2 j) p wz q)
    obtain ⟨wb, hwb⟩ : ∃ z, whC d.ch d.L (gP d.B d.U d.V) (gQ d.B d.U d.V) = z := ⟨_, rfl⟩
    have HDK : Hid (dd.k = dr /\ dd.T sv = d.S /\ dd.wh = wb) := Lib.hid (by
     unfold Sb.k Sb.T Sb.wh
     rw [hal2, if_neg (by decide), if_neg (by decide), ← HDI.out]
     exact ⟨HDR.out, rfl, hwb⟩)
    rw [hwb] at WA
    clear hal2 HNi hwb
    go_wp2_with (first
     | (refine ld_pln rfl (.tmp 12) rfl wr.heap.size rfl HR1.out ?_)
     | (refine ld_plM rfl (.tmp 33) rfl b (off + i * 5) rfl (HRGw.out _ (Below.refl _ _)) ?_)
     | (refine st_pln rfl (.tmp 12) (.tmp 34) rfl wr.heap.size rfl _ _ _ _ _ _ _ _ _ _ rfl HZ0.out rfl ?_; generalize hW1 : World.setRow _ _ _ = W1; have HB1 : Hid (Below wr.heap.size wr W1) := Lib.hid (by rw [← hW1]; exact (HBZ.out _).1); have HR1 : Hid (Row W1 wr.heap.size 26 (plC va dr vc dch ta dtn tc na dnn nc)) := Lib.hid (by rw [← hW1]; exact (HBZ.out #[]).2); have qal := QAL.out W1 HB1.out; have qs := QS.out W1 HB1.out; clear hW1))
    go_at_call 100
    (refine (WA.out _ _ (HPLw.out _ HB1.out)).mono ?_)
    rintro e w7 ⟨a13, m13, c13, rfl, hyes, hno, hb7⟩
    have HB7 := Lib.hid (HB1.out.trans (hb7.mono HB1.out.size))
    have HR7 := Lib.hid (HR1.out.below hb7)
    cases wb with
    | false =>
     obtain ⟨rfl, rfl, rfl⟩ := hno rfl
     have HE := Lib.hid (AxsTold.no (w := w) (w' := w7) (HE22.out (allB_no hlt (by have q := HX.out; rw [HDK.out.2.2] at q; exact WHI.out.trans HDK.out.2.2))) (by decide) (HST.out.1.trans (HB7.out.mono HST.out.1.size)))
     clear hyes hno hb7 qal qs
     go_wp2
     exact bodyPost_ret (v := .tuple #[.slice none 0 0, .slice none 0 0, .int .i64 22]) (by simp [results, Tryz.results43, go_sem]) rfl HE.out
    | true =>
     obtain ⟨rfl, ho7⟩ := hyes rfl
     have HOW : Hid (OwnI wr w7 a13 (N i) c13 (F i)) := Lib.hid (by rw [HNI.out.1]; exact ho7.up HB1.out)
     rw [← HNI.out.1]
     clear ho7 hb7 hno hyes qal qs
     obtain ⟨v9, y5, hr3, hst9, hkp⟩ := ax_row HST.out HOW.out (by omega)
     have HR9 := Lib.hid (Row.kept9 HR7.out (hkp _ (Nat.le_refl _) HR7.out.lt))
     have hks9 : KRow y5 .i64 (va) dr vc d.S := HKS.out _ hst9.1
     obtain ⟨a', c', y1, hr4, hst10⟩ := ax_shape hst9 hks9 (by have := HK8.out; have := HDK.out.1; omega)
     have HFIN : Hid (AxSt w y1 N F (i + 1) v9 a' (ixR D (i + 1)) c' (ixT S D (i + 1)) /\ allB (fun j => (D j).wh) (i + 1) = true) := Lib.hid (by
      rw [HT1.out.1, HT1.out.2, HX.out, HDK.out.1, HDK.out.2.1, HDK.out.2.2]
      exact ⟨hst10, rfl⟩)
     have hki : RI + dr = ixR D (i + 1) := by rw [HT1.out.1, HDK.out.1]
     have HKI := Lib.hid hki
     have q59 : y5.cell? ⟨wr.heap.size, 0, none⟩ = some (.slice (va) dr vc) := HR9.out.cell 0
     clear hst9 hst10 hkp hks9 hki
     go_wp2_with (first
      | (at_builtin; refine Lib.wpList_append_run _ rfl (.tmp 53) (.tmp 55) 90 90 rfl _ _ rfl rfl _ _ hr3 ?_)
      | (at_builtin; refine Lib.wpList_append_run _ rfl (.tmp 57) (.tmp 59) 22 22 rfl _ _ rfl rfl _ _ hr4 ?_))
     go_roundw
     case rel => exact ⟨i + 1, a', c', v9, by omega, by rw [HKI.out], rfl, by go_num, HFIN.out⟩
     case measure => simp [intOf]; omega
  case neg =>
   have him : i = m := by omega
   subst him
   have HST := Lib.hid hst.out.1
   have HWH := Lib.hid hst.out.2
   obtain ⟨la, lc, A, C, hv, hL⟩ := HST.out.done
   subst hv
   have HL := Lib.hid hL
   have HKO := Lib.hid HST.out.2.1.krow
   have HB := Lib.hid HST.out.1
   have HIS : Hid (∀ j, j < i -> (D j).is o (S j) = inAll o (S j) (F j) (N j)) := Lib.hid (fun j hj => by
    rw [← HNF.out.1, ← HNF.out.2]
    exact is_in (HS.out j hj).1 _ (fun _ => rfl))
   have HFT : Hid (∀ j, j < i -> ∀ q, q < N j -> -9223372036854775808 <= F j q /\ F j q <= 9223372036854775807) := Lib.hid (fun j hj q hq => by
    rw [← HNF.out.1] at hq
    rw [← HNF.out.2]
    exact fit_in (HS.out j hj) ho (allB_iff.1 HWH.out j hj) hq)
   have HT64 : Hid (In64 (ixT S D i) (ixR D i)) := Lib.hid (ixT_bd (fun j hj => by rw [← HDJ.out]; exact Sr.t64 (HGD.out j hj) (HS.out j hj)))
   have HE25 : Hid (allB (fun j => (D j).is o (S j)) i = false -> ixE o S i D i = 25) := Lib.hid (fun hx => by
    unfold ixE
    rw [if_neg (fun e => e rfl), HWH.out, if_neg (by decide), if_pos hx])
   have HE0 : Hid (allB (fun j => (D j).is o (S j)) i = true -> ixE o S i D i = if 8 < ixR D i then 23 else pkE (ixT S D i) (ixR D i)) := Lib.hid (fun hx => by
    unfold ixE
    rw [if_neg (fun e => e rfl), HWH.out, if_neg (by decide), hx, if_neg (by decide)])
   have hlc := hL.1
   have hlc2 := hL.2.1
   have hrl := HRL.out i (Nat.le_refl _)
   have hml : lc <= 9223372036854775807 := by unfold maxLen at hlc2; omega
   clear hst hL hi hlt HST HE22 HD HRL HDJ HGD hlc2
   obtain ⟨y0, hy0⟩ : ∃ y0, y0 = wr := ⟨_, rfl⟩
   subst hy0
   go_wp2_with fail
   go_loopw [15] (fun jj wk => ∃ j : Nat, j <= i /\ jj = .int .i64 j /\ Hid (Below y0.heap.size y0 wk /\ allB (fun j => (D j).is o (S j)) j = true)) (fun jj _ => i - (intOf jj).toNat)
   case atStart => exact ⟨0, by omega, rfl, Below.refl _ _, rfl⟩
   case round =>
    obtain ⟨j, hj, rfl, hst⟩ := hrel
    by_cases hjl : j < i
    case pos =>
     have hj0 : (0 : Int) <= j := by omega
     have hj1 : (j : Int) < i := by omega
     have HB1 := Lib.hid hst.out.1
     have HA1 := Lib.hid hst.out.2
     clear hst
     obtain ⟨bL, oL, rfl, hbL, hcL, hkL, _⟩ := HL.out.get hjl
     obtain ⟨bs, os, rfl, hbs, hcs⟩ := HK.out.get hjl
     have hs0 := HS.out j hjl
     have hlk := hkL.len
     have HIJ := Lib.hid (HIS.out j hjl)
     have HFJ := Lib.hid (HFT.out j hjl)
     have HCS : Hid (∀ y, Below y0.heap.size y0 y -> y.cell? ⟨bs, os + j, none⟩ = some (.int .i64 (S j))) := Lib.hid (fun y hb => (hb.cell (p := ⟨bs, os + j, none⟩) (Nat.lt_of_lt_of_le hbs HB.out.size)).trans ((HB.out.cell (p := ⟨bs, os + j, none⟩) hbs).trans hcs))
     have HCL : Hid (∀ y, Below y0.heap.size y0 y -> y.cell? ⟨bL, oL + j, none⟩ = some (.slice (A j) (N j) (C j))) := Lib.hid (fun y hb => (hb.cell (p := ⟨bL, oL + j, none⟩) hbL).trans hcL)
     have HKL := Lib.hid hkL
     have HAN : Hid (allB (fun j => (D j).is o (S j)) (j + 1) = (D j).is o (S j)) := Lib.hid (by show (allB (fun j => (D j).is o (S j)) j && (D j).is o (S j)) = _; rw [HA1.out]; rfl)
     have HNO : Hid ((D j).is o (S j) = false -> allB (fun j => (D j).is o (S j)) i = false) := Lib.hid (fun hx => allB_no (p := fun j => (D j).is o (S j)) hjl hx)
     obtain ⟨sv, hsv⟩ : ∃ z, S j = z := ⟨_, rfl⟩
     obtain ⟨G, hG⟩ : ∃ z, N j = z := ⟨_, rfl⟩
     obtain ⟨f, hf⟩ : ∃ z, F j = z := ⟨_, rfl⟩
     obtain ⟨aj, haj⟩ : ∃ z, A j = z := ⟨_, rfl⟩
     obtain ⟨cj, hcj⟩ : ∃ z, C j = z := ⟨_, rfl⟩
     rw [hsv] at HCS HIJ hs0
     rw [hG] at HCL HKL HIJ HFJ hlk
     rw [hf] at HKL HIJ HFJ
     rw [haj] at HCL HKL
     rw [hcj] at HCL HKL hlk
     clear hcs hcL hkL hG hf haj hcj HA1
     go_wp2_with fail
     obtain ⟨y2, hy2⟩ : ∃ y2, y2 = wr := ⟨_, rfl⟩
     subst hy2
     go_loopw [16] (fun kk wk => ∃ k : Nat, k <= G /\ kk = .int .i64 k /\ Hid (Below y0.heap.size y0 wk /\ inAll o sv f k = true)) (fun kk _ => G - (intOf kk).toNat)
     case atStart => exact ⟨0, by omega, rfl, HB1.out, rfl⟩
     case round =>
      obtain ⟨k, hk, rfl, hst⟩ := hrel
      have HB2 := Lib.hid hst.out.1
      have HI2 := Lib.hid hst.out.2
      clear hst
      have x1 := HCL.out _ HB2.out
      have x2 := HCS.out _ HB2.out
      by_cases hkG : k < G
      case pos =>
       have hk0 : (0 : Int) <= k := by omega
       have hk1 : (k : Int) < G := by omega
       obtain ⟨bm, om, rfl, hbm, hcm⟩ := HKL.out.get hkG
       have x3 := (HB2.out.cell (p := ⟨bm, om + k, none⟩) hbm).trans hcm
       have hx := HFJ.out k hkG
       have HIN : Hid (inAll o sv f (k + 1) = (decide (o <= f k) && decide (f k - o < sv))) := Lib.hid (by show (inAll o sv f k && _) = _; rw [HI2.out]; rfl)
       have HBAD : Hid ((decide (o <= f k) && decide (f k - o < sv)) = false -> inAll o sv f G = false) := Lib.hid (fun hx => by
        cases hy : inAll o sv f G with
        | false => rfl
        | true =>
         have := inAll_iff.1 hy k hkG
         rw [decide_eq_true this.1, decide_eq_true this.2] at hx
         cases hx)
       obtain ⟨x, hxx⟩ : ∃ z, f k = z := ⟨_, rfl⟩
       rw [hxx] at x3 hx HIN HBAD
       clear hcm hxx
       by_cases hlo : x < o
       case pos =>
        have hE := HE25.out (HNO.out (by rw [hsv, HIJ.out]; exact HBAD.out (by rw [decide_eq_false (by omega)]; rfl)))
        have HE := Lib.hid hE
        clear hE HIN HBAD HIJ HAN HNO HE25 HE0 HKO HT64 HFJ HIS HFT
        go_wp2_with fail
        go_quiet (fail)
        have HE := Lib.hid (AxsTold.no (w := w) (w' := wr.drewN nq) HE.out (by decide) (below_drewN (HB.out.trans (HB2.out.mono HB.out.size)) nq))
        go_wp2
        exact bodyPost_ret (v := .tuple #[.slice none 0 0, .slice none 0 0, .int .i64 25]) (by simp [results, Tryz.results43, go_sem]) rfl HE.out
       case neg =>
        have hw1 := IntWalk.i64_in (x - o) (by omega)
        by_cases hhi : sv <= x - o
        case pos =>
         have hE := HE25.out (HNO.out (by rw [hsv, HIJ.out]; exact HBAD.out (by rw [decide_eq_false (show ¬ x - o < sv by omega), Bool.and_false])))
         have HE := Lib.hid hE
         clear hE HIN HBAD HIJ HAN HNO HE25 HE0 HKO HT64 HFJ HIS HFT
         go_wp2_with fail
         go_quiet (fail)
         have HE := Lib.hid (AxsTold.no (w := w) (w' := wr.drewN nq) HE.out (by decide) (below_drewN (HB.out.trans (HB2.out.mono HB.out.size)) nq))
         go_wp2
         exact bodyPost_ret (v := .tuple #[.slice none 0 0, .slice none 0 0, .int .i64 25]) (by simp [results, Tryz.results43, go_sem]) rfl HE.out
        case neg =>
         have HIN2 : Hid (inAll o sv f (k + 1) = true) := Lib.hid (by rw [HIN.out, decide_eq_true (by omega), decide_eq_true (by omega)]; rfl)
         clear HIN HBAD
         go_wp2_with fail
         go_quiet (fail)
         have HBN := Lib.hid (below_drewN HB2.out nq)
         go_wp2_with fail
         go_roundw
         case rel => exact ⟨k + 1, by omega, by go_num, HBN.out, HIN2.out⟩
         case measure => simp [intOf]; omega
      case neg =>
       have hkk : k = G := by omega
       subst hkk
       have HAT : Hid (allB (fun j => (D j).is o (S j)) (j + 1) = true) := Lib.hid (by rw [HAN.out, hsv, HIJ.out]; exact HI2.out)
       clear HIJ HAN HNO HE25 HE0 HKO HT64 HFJ HIS HFT hk
       go_wp2_with fail
       go_roundw
       case rel => exact ⟨j + 1, by omega, by go_num, HB2.out, HAT.out⟩
       case measure => simp [intOf]; omega
    case neg =>
     have hji : j = i := by omega
     subst hji
     have hE := HE0.out hst.out.2
     have HBF := Lib.hid (HB.out.trans (hst.out.1.mono HB.out.size))
     have HKF := Lib.hid (HKO.out.below hst.out.1)
     have HLF := Lib.hid (HL.out.below hst.out.1)
     clear hst HE0 HE25 HIS HFT HK HS hj hjl HB HKO HL
     by_cases h8 : 8 < ixR D j
     case pos =>
      rw [if_pos h8] at hE
      have HE := Lib.hid (AxsTold.no (w := w) hE (by decide) HBF.out)
      have h8' : (8 : Int) < (ixR D j : Nat) := by omega
      clear hE h8
      go_wp2
      exact bodyPost_ret (v := .tuple #[.slice none 0 0, .slice none 0 0, .int .i64 23]) (by simp [results, Tryz.results43, go_sem]) rfl HE.out
     case neg =>
      rw [if_neg h8] at hE
      have h8' : ¬ (8 : Int) < (ixR D j : Nat) := by omega
      have CN := Lib.hid (fun wz q => r6Count_any ao (ixR D j) co (ixT S D j) wz q HT64.out)
      unfold CntTold at CN
      have HFIN : Hid (ixE o S j D j = 0 -> AxsTold o S j D j w wr (.returned (.tuple #[.slice ao (ixR D j) co, .slice la j lc, .int .i64 0]))) := Lib.hid (fun h0 => ⟨fun h => absurd h0 h, fun _ => ⟨_, _, _, _, _, _, rfl, HKF.out, by rw [HNF.out.1, HNF.out.2]; exact HLF.out⟩, HBF.out⟩)
      unfold pkE at hE
      cases hsb : shB (ixT S D j) (ixR D j) with
      | false =>
       rw [hsb, if_neg (by decide)] at hE
       have HE := Lib.hid (AxsTold.no (w := w) hE (by decide) HBF.out)
       rw [hsb] at CN
       clear hE h8 hsb HFIN
       go_wp2_with fail
       go_at_call 86
       (refine (CN.out _ HKF.out).mono ?_)
       rintro e w9 ⟨rfl, rfl⟩
       go_wp2
       exact bodyPost_ret (v := .tuple #[.slice none 0 0, .slice none 0 0, .int .i64 26]) (by simp [results, Tryz.results43, go_sem]) rfl HE.out
      | true =>
       rw [hsb, if_pos rfl] at hE
       have HE := Lib.hid (HFIN.out hE)
       rw [hsb] at CN
       clear hE h8 hsb HFIN
       go_wp2_with fail
       go_at_call 86
       (refine (CN.out _ HKF.out).mono ?_)
       rintro e w9 ⟨rfl, rfl⟩
       go_wp2
       exact bodyPost_ret (v := .tuple #[.slice ao (ixR D j) co, .slice la j lc, .int .i64 0]) (by simp [results, Tryz.results43, go_sem]) rfl HE.out
theorem IsP.one {cs : Array Value} (h : IsP cs) : cs.all (·.oneCell') = true := by
 obtain ⟨_, _, _, _, _, _, _, _, _, _, rfl⟩ := h
 exact plC_one _ _ _ _ _ _ _ _ _ _
theorem stP {o : Oper} {a : Act} {w : World} {K : Act -> World -> Prop} {Q : Exit -> Act -> World -> Prop} (d s : Nat) (ho : o.op = .store 26 (.tmp d) (.tmp s)) (g : Nat) (cs : Array Value) (hd : a.tmps[d]? = some (.pointer (some ⟨g, 0, none⟩))) (hs : a.tmps[s]? = some (.agg cs)) (t : TypeId) (z : Array Value) (hr : Row w g t z) (hz : IsP z) (hc : IsP cs)
    (hK : K (a.put o.dst undef) (w.setRow g cs)) : o.wp Tryz.prog a w K Q :=
 wp_store_row 26 (.tmp d) (.tmp s) ho g cs (ev_tmp hd) (ev_tmp hs) t z hr (by rw [pln4, hc.size]) (by rw [hz.size, hc.size]) hc.one hK
def KdP (k1 k2 k3 k4 : Nat) (c1 c2 : Array Value) (y : World) : Prop := Row y k1 26 c1 /\ Row y k2 26 c2 /\ (∃ z, Row y k3 26 z /\ IsP z) /\ ∃ z, Row y k4 26 z /\ IsP z
theorem KdP.stay {k1 k2 k3 k4 : Nat} {c1 c2 : Array Value} : ∀ a b, Below a.heap.size a b -> KdP k1 k2 k3 k4 c1 c2 a -> KdP k1 k2 k3 k4 c1 c2 b := by
 rintro a b hb ⟨h1, h2, ⟨z3, h3, i3⟩, z4, h4, i4⟩
 exact ⟨h1.below hb, h2.below hb, ⟨z3, h3.below hb, i3⟩, z4, h4.below hb, i4⟩
theorem KdP.put3 {w y : World} {k1 k2 k3 k4 : Nat} {c1 c2 : Array Value} (h : Bag w (KdP k1 k2 k3 k4 c1 c2) y) (n1 : k1 ≠ k3) (n2 : k2 ≠ k3) (n4 : k4 ≠ k3) (hw : w.heap.size <= k3) (cs : Array Value) (hc : IsP cs) : Bag w (KdP k1 k2 k3 k4 c1 c2) (y.setRow k3 cs) := by
 obtain ⟨h1, h2, ⟨z3, h3, i3⟩, z4, h4, i4⟩ := h.now
 exact ⟨below_put h.below hw _, KdP.stay, h1.puto n1 _, h2.puto n2 _, ⟨_, h3.put _, hc⟩, z4, h4.puto n4 _, i4⟩
theorem KdP.put4 {w y : World} {k1 k2 k3 k4 : Nat} {c1 c2 : Array Value} (h : Bag w (KdP k1 k2 k3 k4 c1 c2) y) (n1 : k1 ≠ k4) (n2 : k2 ≠ k4) (n3 : k3 ≠ k4) (hw : w.heap.size <= k4) (cs : Array Value) (hc : IsP cs) : Bag w (KdP k1 k2 k3 k4 c1 c2) (y.setRow k4 cs) := by
 obtain ⟨h1, h2, ⟨z3, h3, i3⟩, z4, h4, i4⟩ := h.now
 exact ⟨below_put h.below hw _, KdP.stay, h1.puto n1 _, h2.puto n2 _, ⟨z3, h3.puto n3 _, i3⟩, _, h4.put _, hc⟩
set_option linter.unusedVariables false
set_option linter.unusedSimpArgs false
theorem sh_small {S : Nat -> Int} {r : Nat} (h : shB S r = true) : ∀ j, j < r -> 0 <= S j /\ S j <= 4096 := fun j hj => by
 have h1 := ax_bd (ax_le (show j + 1 <= r by omega) (sh_ax h).2)
 have h2 := rm_pos S j
 have h3 : 1 * max (S j) 1 <= rm S j * max (S j) 1 := Int.mul_le_mul h2 (Int.le_refl _) (by omega) (by omega)
 have h4 : rm S (j + 1) = rm S j * max (S j) 1 := rfl
 have h5 := ax_nn (sh_ax h).2 hj
 omega
theorem run_storeP {w : World} {g : Nat} {t : TypeId} {old : Array Value} (h : Row w g t old) (ho : old.size = 4) (sa : Option Addr) (sn sc : Nat) (ch : Bool) (ta : Option Addr) (tn tc : Nat) (na : Option Addr) (nn nc : Nat) : (storeCells ⟨g, 0, none⟩ (plC sa sn sc ch ta tn tc na nn nc).toList).run Tryz.prog w = .ok () (w.setRow g (plC sa sn sc ch ta tn tc na nn nc)) := by
 have := run_storeCells_from (P := Tryz.prog) g t (plC sa sn sc ch ta tn tc na nn nc).toList 0 old w h (by simp [plC, ho]) (fun v hv => (Array.all_eq_true_iff_forall_mem.1 (plC_one sa sn sc ch ta tn tc na nn nc)) v (by simpa using hv))
 rw [this]
 simp
theorem rplaces_ok {o : Int} {S : Nat -> Int} {r m : Nat} {D : Nat -> Sb} (hsh : shB S r = true) (hok : ∀ j, j < m -> (D j).ok) (hE : ixE o S r D m = 0) (a : Option Addr) (c : Nat) (aL : Option Addr) (cL : Nat) (A : Nat -> Option Addr) (C : Nat -> Nat) (w : World) (h : KRow w .i64 a r c S) (hL : LRow w aL r cL A (ixN S D) C (fun j q => ixF o D j q + o)) :
    Calls Tryz.prog 45 #[.slice a r c, .slice aL r cL, .int .i64 o] w fun e w' => ∃ a' c', e = .returned (.slice a' (itm (lnF (ixN S D)) r).toNat c') /\ KRow w' .i64 a' (itm (lnF (ixN S D)) r).toNat c' (pkG S (lnF (ixN S D)) r (ixF o D)) /\ Below w.heap.size w w' := by
 obtain ⟨rfl, h1, h2⟩ := ixE_zero hE
 have hax := (sh_ax hsh).2
 obtain ⟨h3, h4⟩ := ix_ax (S := S) (fun j hj => ⟨hok j hj, ax_nn hax hj⟩) h2
 have h5 := ax_bd h3
 exact rplaces_any a m c S aL cL A (ixN S D) C (ixF o D) o (itm (lnF (ixN S D)) m).toNat w h hL hax h3 (by omega) (sh_ax hsh).1 (fun j hj q hq => by
  have := ix_in h1 j hj q hq
  have := sh_small hsh j hj
  omega)
theorem rindex11_any (p : Array Value) (S : Nat -> Int) (r : Nat) (ch : Bool) (L : Nat) (g : Nat -> Int) (fB : Nat -> Bool) (fS fT : Nat -> ByteArray) (o : Int) (al : Option Addr) (m cl : Nat) (E : Nat -> Sr) (D : Nat -> Sb) (w : World) (h : Pln w p S r ch L g fB fS fT) (hsh : shB S r = true) (hL : L <= 1000000) (hd : DRow w al m cl E) (hg : ∀ j, j < m -> (E j).good) (hD : (fun j => (E j).sb) = D) (hok : ∀ j, j < m -> (D j).ok) (ho : 0 <= o /\ o <= 1) (hm : m <= 20) :
    Calls Tryz.prog 14 #[.agg p, .int .i64 o, .slice al m cl] w fun e w' => PoTold (ixE o S r D m) (ixT S D r) (ixR D r) ch (itm (lnF (ixN S D)) r).toNat (fun j => elC L g 32 ((pkG S (lnF (ixN S D)) r (ixF o D)) j)) (fun j => elB L fB ((pkG S (lnF (ixN S D)) r (ixF o D)) j)) (fun j => elS L fS (rS 0) ((pkG S (lnF (ixN S D)) r (ixF o D)) j)) (fun j => elS L fT (str (dec 1)) ((pkG S (lnF (ixN S D)) r (ixF o D)) j)) w w' e := by
 have HP := Lib.hid h
 obtain ⟨sa, sc, ta, tc, na, nc, rfl, hk⟩ := h.form
 have hl := hk.len
 have AX := Lib.hid (fun a1 c1 wz q q2 => raxes_any a1 r c1 S o al m cl E wz q q2 hg (sh_small hsh) ho hm)
 rw [hD] at AX
 have HD := Lib.hid hd
 have HK := Lib.hid hk
 have BB := Lib.hid (((Bag.start w).newRow (plC sa r sc ch ta (tnO ch L) tc na (nnO ch L) nc) 26).newRow plZer 26)
 simp only [World.size_alloc] at BB
 have x0 : ((w.alloc (.cells (plC sa r sc ch ta (tnO ch L) tc na (nnO ch L) nc) 26)).alloc (.cells plZer 26)).cell? ⟨w.heap.size, 0, none⟩ = some (.slice sa r sc) := BB.out.now.2.1.cell 0
 unfold plC plZer at x0
 unfold plC
 unfold AxsTold at AX
 by_cases hE : ixE o S r D m = 0
 case neg =>
  have AX : Hid (∀ a1 c1 wz, KRow wz .i64 a1 r c1 S -> DRow wz al m cl E -> Calls Tryz.prog 43 #[.slice a1 r c1, .int .i64 o, .slice al m cl] wz fun e w' => e = .returned (.tuple #[.slice none 0 0, .slice none 0 0, .int .i64 (ixE o S r D m)]) /\ Below wz.heap.size wz w') := Lib.hid (fun a1 c1 wz q q2 => (AX.out a1 c1 wz q q2).mono (fun e w' q => ⟨q.1 hE, q.2.2⟩))
  have HNO : Hid (∀ y, Below w.heap.size w y -> PoTold (ixE o S r D m) (ixT S D r) (ixR D r) ch (itm (lnF (ixN S D)) r).toNat (fun j => elC L g 32 ((pkG S (lnF (ixN S D)) r (ixF o D)) j)) (fun j => elB L fB ((pkG S (lnF (ixN S D)) r (ixF o D)) j)) (fun j => elS L fS (rS 0) ((pkG S (lnF (ixN S D)) r (ixF o D)) j)) (fun j => elS L fT (str (dec 1)) ((pkG S (lnF (ixN S D)) r (ixF o D)) j)) w y (.returned (.tuple #[.agg plZer, .int .i64 (ixE o S r D m)]))) := Lib.hid (fun y hb => PoTold.no hE hb)
  have dE : (ixE o S r D m != 0) = true := bne_iff_ne.2 hE
  generalize ixE o S r D m = EE at *
  clear hE hsh hg hD hok h hk hd
  go_enter Tryz.func14, Tryz.ntmps14
  go_wp2_with fail
  go_at_call 43
  (refine (AX.out _ _ _ (HK.out.below BB.out.below) (HD.out.below BB.out.below)).mono ?_)
  rintro e w2 ⟨rfl, hb2⟩
  have BB := Lib.hid (BB.out.go hb2)
  have HZ := Lib.hid BB.out.now.1
  have HE := Lib.hid (HNO.out _ (below_put BB.out.below (show w.heap.size <= w.heap.size + 1 by omega) plZer))
  clear hb2 x0
  go_wp2_with (refine st_pln rfl (.tmp 6) (.tmp 22) rfl (w.heap.size + 1) rfl none 0 0 false none 0 0 none 0 0 rfl HZ.out rfl ?_)
  exact bodyPost_ret (res_pln2 Tryz.results14 rfl rfl (HZ.out.put _) rfl) rfl HE.out
 case pos =>
  have AX : Hid (∀ a1 c1 wz, KRow wz .i64 a1 r c1 S -> DRow wz al m cl E -> Calls Tryz.prog 43 #[.slice a1 r c1, .int .i64 o, .slice al m cl] wz fun e w' => ∃ a c la lc A C, e = .returned (.tuple #[.slice a (ixR D r) c, .slice la r lc, .int .i64 0]) /\ KRow w' .i64 a (ixR D r) c (ixT S D r) /\ LRow w' la r lc A (ixN S D) C (fun j q => ixF o D j q + o) /\ Below wz.heap.size wz w') := Lib.hid (fun a1 c1 wz q q2 => (AX.out a1 c1 wz q q2).mono (fun e w' q => by
   obtain ⟨a, c, la, lc, A, C, e1, e2, e3⟩ := q.2.1 hE
   exact ⟨a, c, la, lc, A, C, e1, e2, e3, q.2.2⟩))
  have PLS := Lib.hid (fun a c aL cL A C wz q q2 => rplaces_ok (o := o) hsh hok hE a c aL cL A C wz q q2)
  have hM : (itm (lnF (ixN S D)) r).toNat <= 4096 := by
   obtain ⟨rfl, h1, h2⟩ := ixE_zero hE
   have h3 := ax_bd (ix_ax (S := S) (fun j hj => ⟨hok j hj, ax_nn (sh_ax hsh).2 hj⟩) h2).1
   omega
  have PK := Lib.hid (fun s1 c1 t1 d1 wz q1 q2 q3 => rpick8_any (plC sa r sc ch ta (tnO ch L) tc na (nnO ch L) nc) S r ch L g fB fS fT s1 (ixR D r) c1 (ixT S D r) t1 (itm (lnF (ixN S D)) r).toNat d1 (pkG S (lnF (ixN S D)) r (ixF o D)) wz q1 q2 q3 (by omega) hL)
  rw [hE]
  clear hE hsh hg hD hok h hk hd
  obtain ⟨R, hR⟩ : ∃ z, ixR D r = z := ⟨_, rfl⟩
  obtain ⟨T, hT⟩ : ∃ z, ixT S D r = z := ⟨_, rfl⟩
  obtain ⟨M, hM9⟩ : ∃ z, (itm (lnF (ixN S D)) r).toNat = z := ⟨_, rfl⟩
  obtain ⟨GX, hGX⟩ : ∃ z, (pkG S (lnF (ixN S D)) r (ixF o D)) = z := ⟨_, rfl⟩
  rw [hR, hT] at AX
  rw [hM9, hGX] at PLS
  rw [hR, hT, hM9, hGX] at PK
  rw [hR, hT, hM9, hGX]
  clear hR hT hM9 hGX hM
  unfold plC at PK
  go_enter Tryz.func14, Tryz.ntmps14
  go_wp2_with fail
  go_at_call 43
  (refine (AX.out _ _ _ (HK.out.below BB.out.below) (HD.out.below BB.out.below)).mono ?_)
  rintro e w2 ⟨a, c, la, lc, A, C, rfl, hka, hla, hb2⟩
  have BB := Lib.hid (BB.out.go hb2)
  have HKA := Lib.hid hka
  have HLA := Lib.hid hla
  clear hb2 hka hla x0 AX
  have BD := Lib.hid BB.out.drew
  have BK := Lib.hid (Below.refl w2.heap.size w2).drew
  have HSF : Hid (∀ y, Bag w (fun y => Row y (w.heap.size + 1) 26 plZer /\ Row y w.heap.size 26 (plC sa r sc ch ta (tnO ch L) tc na (nnO ch L) nc) /\ True) y -> y.cell? ⟨w.heap.size, 0, none⟩ = some (.slice sa r sc) /\ y.cell? ⟨w.heap.size, 1, none⟩ = some (.bool ch) /\ y.cell? ⟨w.heap.size, 2, none⟩ = some (.slice ta (tnO ch L) tc) /\ y.cell? ⟨w.heap.size, 3, none⟩ = some (.slice na (nnO ch L) nc)) := Lib.hid (fun y q => ⟨q.now.2.1.cell 0, q.now.2.1.cell 1, q.now.2.1.cell 2, q.now.2.1.cell 3⟩)
  go_wp2_with fail
  go_region_held3 (fun y => y.cell? ⟨w.heap.size, 0, none⟩ = some (.slice sa r sc) /\ y.cell? ⟨w.heap.size, 1, none⟩ = some (.bool ch) /\ y.cell? ⟨w.heap.size, 2, none⟩ = some (.slice ta (tnO ch L) tc) /\ y.cell? ⟨w.heap.size, 3, none⟩ = some (.slice na (nnO ch L) nc))
   (first
     | (exact HS8.out)
     | (exact HS7.out)
     | (exact HSF.out _ BD.out))
   (first
     | (go_at_call 45; (refine (PLS.out _ _ _ _ _ _ _ (HK.out.below BD.out.below) (HLA.out.below BK.out)).mono ?_); rintro e w5 ⟨a5, c5, rfl, hk5, hb5⟩; (have BD := Lib.hid (BD.out.go hb5)); (have BK := Lib.hid (BK.out.trans (hb5.mono BK.out.size))))
     | (go_at_call 44; (refine (PK.out _ _ _ _ _ (HP.out.below BD.out.below) (HKA.out.below BK.out) hk5).mono ?_); rintro e w6 ⟨cs6, rfl, hq6, hb6⟩; obtain ⟨sq, scq, tq, tcq, nq, ncq, rfl, _⟩ := hq6.form; (have BD := Lib.hid (BD.out.go hb6)); (have HZ := Lib.hid BD.out.now.1); (have HS7 : Hid (_) := Lib.hid (HSF.out _ BD.out)); (have HE := Lib.hid (PoTold.yes (hq6.put HZ.out (plC sq R scq ch tq (tnO ch M) tcq nq (nnO ch M) ncq)) (below_put BD.out.below (show w.heap.size <= w.heap.size + 1 by omega) (plC sq R scq ch tq (tnO ch M) tcq nq (nnO ch M) ncq)))); (have hst := run_storeP HZ.out rfl sq R scq ch tq (tnO ch M) tcq nq (nnO ch M) ncq); (have HRO := BD.out.now.2.1.puto (show w.heap.size ≠ w.heap.size + 1 by omega) (plC sq R scq ch tq (tnO ch M) tcq nq (nnO ch M) ncq)); (have HS8 := Lib.hid (And.intro (HRO.cell 0) (And.intro (HRO.cell 1) (And.intro (HRO.cell 2) (HRO.cell 3))))); (clear HRO)))
  go_wp2
  exact bodyPost_ret (res_pln2 Tryz.results14 rfl rfl (HZ.out.put _) rfl) rfl HE.out
theorem showsNoI_any (E : Int) (hE : E ≠ 0) (sa : Option Addr) (sn sc : Nat) (ch : Bool) (ta : Option Addr) (tn tc : Nat) (na : Option Addr) (nn nc : Nat) (w : World) :
    Calls Tryz.prog 15 #[.agg zerC, .int .i64 E, .agg (plC sa sn sc ch ta tn tc na nn nc), .int .i64 E] w fun e w' => e = .returned (.bool true) /\ Below w.heap.size w w' := by
 have LZ := Lib.hid (fun wz => lenZ_any wz)
 have BB := Lib.hid (((Bag.start w).newRow zerC 36).newRow (plC sa sn sc ch ta tn tc na nn nc) 26)
 simp only [World.size_alloc] at BB
 have HR := Lib.hid BB.out.now.2.1
 have d1 : (E != E) = false := bne_self_eq_false _
 have d2 : (E != 0) = true := bne_iff_ne.2 hE
 clear hE
 unfold zerC arrC plC
 unfold zerC at LZ
 unfold zerC at HR
 go_enter Tryz.func15, Tryz.ntmps15
 go_wp2_with (refine ld_arr rfl (.tmp 4) rfl w.heap.size rfl HR.out ?_)
 go_at_call 19
 (with_reducible refine (LZ.out _).mono ?_)
 rintro e w2 ⟨rfl, hb2⟩
 have HE := Lib.hid (BB.out.go hb2).below
 clear hb2
 go_wp2
 go_ret
 exact ⟨rfl, HE.out⟩
theorem showsI_any (x p : Array Value) (E : Int) (S : Nat -> Int) (r : Nat) (ch : Bool) (L : Nat) (g fP : Nat -> Int) (fQ : Nat -> Nat) (fB : Nat -> Bool) (fS fT : Nat -> ByteArray) (w : World) (h : MoR w x E S r ch L g fP fQ) (hp : PoR w p E S r ch L g fB fS fT) (hr : E = 0 -> r <= 8 /\ L <= 1000000) (he : ElSame ch L fP fQ fB fS fT) :
    Calls Tryz.prog 15 #[.agg x, .int .i64 E, .agg p, .int .i64 E] w fun e w' => e = .returned (.bool true) /\ Below w.heap.size w w' := by
 by_cases hE : E = 0
 · subst hE
   exact showsOkI_any x p w ⟨S, r, ch, L, g, fP, fQ, S, g, fB, fS, fT, h.2.1 rfl, hp.2 rfl, (hr rfl).1, (hr rfl).2, he.1, fun _ _ => rfl, fun _ _ => rfl, he.2⟩
 · rw [h.2.2 hE]
   obtain ⟨⟨sa, sn, sc, ch, ta, tn, tc, na, nn, nc, rfl⟩, _⟩ := hp
   exact showsNoI_any E hE _ _ _ _ _ _ _ _ _ _ w
theorem origin_any (b : Bool) (w : World) : Calls Tryz.prog 13 #[.bool b] w fun e w' => e = .returned (.int .i64 (if b then 1 else 0)) /\ Below w.heap.size w w' := by
 have HE := Lib.hid (Below.refl w.heap.size w)
 cases b with
 | true =>
  go_enter Tryz.func13, Tryz.ntmps13
  go_wp2
  go_ret
  exact ⟨rfl, HE.out⟩
 | false =>
  go_enter Tryz.func13, Tryz.ntmps13
  go_wp2
  go_ret
  exact ⟨rfl, HE.out⟩
end Go.Proofs.YtnpoakaffafdiaaGreatDoor
namespace Go.Proofs.YtnpoakaffafdiaaGreatDoor
open Go.RowKit
theorem IsP.zerI : IsP plZer := ⟨_, _, _, _, _, _, _, _, _, _, rfl⟩
theorem Pln.storeP {w : World} {cs : Array Value} {S : Nat -> Int} {r : Nat} {ch : Bool} {L : Nat} {g : Nat -> Int} {fB : Nat -> Bool} {fS fT : Nat -> ByteArray} (h : Pln w cs S r ch L g fB fS fT) {k : Nat} {t : TypeId} {z : Array Value} (hr : Row w k t z) (hz : IsP z) (cs' : Array Value) : Pln (w.setRow k cs') cs S r ch L g fB fS fT := by
 obtain ⟨_, _, _, _, _, _, _, _, _, _, rfl⟩ := hz
 exact PlnAt.away h hr (noInt_pl _ _ _ _ _ _ _ _ _ _) (noStr_pl _ _ _ _ _ _ _ _ _ _) (Far.setRow _ _ _)
theorem PoR.storeI {w : World} {p : Array Value} {E : Int} {S : Nat -> Int} {r : Nat} {ch : Bool} {L : Nat} {g : Nat -> Int} {fB : Nat -> Bool} {fS fT : Nat -> ByteArray} (h : PoR w p E S r ch L g fB fS fT) {k : Nat} {t : TypeId} {z : Array Value} (hr : Row w k t z) (hz : IsP z) (cs' : Array Value) : PoR (w.setRow k cs') p E S r ch L g fB fS fT := ⟨h.1, fun e => (h.2 e).storeP hr hz cs'⟩
theorem of_light11 {S : Nat -> Int} {r : Nat} {ch : Bool} {tn : Nat} {fB : Nat -> Bool} {fS fT : Nat -> ByteArray} {nn : Nat} {w w' : World} {e : Ending} (h : LightTold 200 S r ch tn fB fS fT nn w w' e) : ∃ b, e = .returned (.bool b) /\ (b = true -> ∃ L, tn = tnO ch L /\ nn = nnO ch L /\ Good S r ch L fB fS fT) /\ Below w.heap.size w w' := by
 obtain ⟨b, e1, h1, h2⟩ := h
 refine ⟨b, e1, fun hb => ?_, h2⟩
 obtain ⟨q1, q2, q3, q4, q5⟩ := h1 hb
 exact good_of ⟨by omega, by omega, q3, q4, q5⟩
theorem Sr.okS {d : Sr} (h : d.good) : d.sb.ok := by
 obtain ⟨_, _, h3, h4⟩ := h
 exact ⟨h3.sh, h3.cnt, (show d.L <= 4096 by omega), h3.pos⟩
theorem ix_few {o : Int} {S : Nat -> Int} {r m L : Nat} {D : Nat -> Sb} (hsh : shB S r = true) (hL : itm S r = (L : Nat)) (hok : ∀ j, j < m -> (D j).ok) (h : ixE o S r D m = 0) : ixR D r <= 8 /\ (itm (lnF (ixN S D)) r).toNat <= 1000000 := by
 obtain ⟨_, _, q3⟩ := ix_pos hsh hL hok h
 have := (sh_ax (ixE_zero h).2.2).1
 exact ⟨this, by omega⟩
end Go.Proofs.YtnpoakaffafdiaaGreatDoor
