/-
  Texts of this seat, laid together.
-/
import Derived.Test.YtnpoakaffafdiaaGreatDoorQ1
import Derived.Test.YtnpoakaffafdiaaGreatDoorQ2
import Derived.Test.YtnpoakaffafdiaaGreatDoorQ3
import Derived.Test.YtnpoakaffafdiaaGreatDoorQ4
import Derived.Test.YtnpoakaffafdiaaGreatDoorQ5
import Derived.Test.YtnpoakaffafdiaaGreatDoorQ6
import Derived.Test.YtnpoakaffafdiaaGreatDoorQ7
import Derived.Test.YtnpoakaffafdiaaGreatDoorQ8
set_option maxHeartbeats 12800000
set_option maxRecDepth 100000
set_option linter.unusedSimpArgs false
set_option linter.unusedVariables false
namespace Go.Proofs.YtnpoakaffafdiaaGreatDoor
open Go.RowKit
attribute [local go_sem ↓] Go.wp_at_zero Go.wp_at_succ
def puF {α : Type} (G : Nat -> Int) (V : Nat -> α) : Nat -> (Nat -> α) -> Nat -> α
 | 0, f => f
 | k + 1, f => fun p => if (p : Int) = G k then V k else puF G V k f p
def CBox (w : World) (g n : Nat) (f : Nat -> Int) : Prop := g < w.heap.size /\ Free w g /\ ∀ j, j < n -> w.cell? ⟨g, j, none⟩ = some (.int .i32 (f j))
theorem CBox.below {w w' : World} {g n : Nat} {f : Nat -> Int} (h : CBox w g n f) (hb : Below w.heap.size w w') : CBox w' g n f :=
 ⟨Nat.lt_of_lt_of_le h.1 hb.size, h.2.1.below hb h.1, fun j hj => (hb.cell (p := ⟨g, j, none⟩) h.1).trans (h.2.2 j hj)⟩
theorem CBox.put {w : World} {g n p : Nat} {f : Nat -> Int} (h : CBox w g n f) (hp : p < n) (x : Int) : CBox (w.setCell ⟨g, p, none⟩ (.int .i32 x)) g n (fun j => if j = p then x else f j) := by
 obtain ⟨h1, h2, h3⟩ := h
 refine ⟨by simpa using h1, h2.set _ _, fun j hj => ?_⟩
 by_cases e : j = p
 · subst e
   simp only [if_true]
   exact World.cell?_setCell_same w ⟨g, j, none⟩ _ (h3 j hj)
 · simp only [if_neg e]
   exact (World.cell?_setCell_other _ _ _ _ (fun h => by injection h with _ h; omega)).trans (h3 j hj)
theorem CBox.krow {w : World} {g n c : Nat} {f : Nat -> Int} (h : CBox w g n f) (h1 : n <= c) (h2 : c <= maxLen) : KRow w .i32 (some ⟨g, 0, none⟩) n c f := ⟨h1, h2, .inr ⟨g, 0, rfl, h.1, fun j hj => by rw [Nat.zero_add]; exact h.2.2 j hj⟩⟩
theorem CBox.congr {w : World} {g n : Nat} {f f' : Nat -> Int} (h : CBox w g n f) (e : ∀ j, j < n -> f j = f' j) : CBox w g n f' := ⟨h.1, h.2.1, fun j hj => by rw [← e j hj]; exact h.2.2 j hj⟩
theorem cloneC_new (a : Option Addr) (n c : Nat) (f : Nat -> Int) (w : World) (h : KRow w .i32 a n c f) (h0 : 0 < n) (hn : n <= 1000000) :
    Calls Tryz.prog 105 #[.slice a n c] w fun e w' => ∃ g c', e = .returned (.slice (some ⟨g, 0, none⟩) n c') /\ w.heap.size <= g /\ CBox w' g n f /\ n <= c' /\ c' <= maxLen /\ Below w.heap.size w w' := by
 obtain ⟨i0, hi, hz0, hz1, hz2⟩ := info_parts infoC
 have q22 : ∀ (w : World) (a : Option Addr) (n c n' c' : Nat), (binOp .eql 23 (.slice a n c) (.slice none n' c')).run Tryz.prog w = .ok (.bool a.isNone) w := fun w a n c n' c' => Lib.run_eql_slice_nil w _ _ a n c n' c' Tryz.underlying23
 obtain ⟨b, off, rfl, hb, _⟩ := h.get h0
 have hc : ∀ j, j < n -> w.cell? ⟨b, off + j, none⟩ = some (.int .i32 (f j)) := fun j hj => by
  obtain ⟨b', off', e, _, q⟩ := h.get hj
  cases e
  exact q
 have hg : ∀ j, j < n -> ((List.range n).map fun j => Value.int .i32 (f j))[j]? = some (.int .i32 (f j)) := fun j hj => by rw [List.getElem?_map, List.getElem?_range hj]; rfl
 obtain ⟨news, hl, hcell, hone, hrat⟩ : ∃ news : List Value, news.length = n * 1 /\ (∀ j u, news[j]? = some u -> w.cell? ((⟨b, off, none⟩ : Addr).add j) = some u) /\ (∀ u ∈ news, u.oneCell' = true) /\ ∀ j, j < n -> news[j]? = some (.int .i32 (f j)) := by
  refine ⟨(List.range n).map fun j => .int .i32 (f j), by simp, fun j u hu => ?_, fun u hu => ?_, hg⟩
  · have hj : j < n := by
      have := (List.getElem?_eq_some_iff.1 hu).1
      simpa using this
    rw [hg j hj] at hu
    obtain rfl := Option.some.inj hu
    rw [show (⟨b, off, none⟩ : Addr).add j = ⟨b, off + j, none⟩ by simp [Addr.add]]
    exact hc j hj
  · obtain ⟨j, _, rfl⟩ := List.mem_map.1 hu
    rfl
 have HC := Lib.hid hcell
 have HO := Lib.hid hone
 have HR := Lib.hid hrat
 have HL := Lib.hid hl
 have HN := Lib.hid hn
 have H0 := Lib.hid h0
 clear hcell hone hrat hl h hn hg hc h0
 go_enter Tryz.func105, Tryz.ntmps105
 go_wp2_with (at_builtin; refine wpList_append_own _ rfl _ _ 23 rfl w.heap.size 21 i0 _ 1 4 Tryz.underlying23 hi hz0 hz1 hz2 rfl (by omega) _ _ _ rfl (World.ownsRow_made w #[] 0 (Nat.le_refl _) (Nat.zero_le _) (by simp)) ⟨b, off, none⟩ n c news rfl ?qc1 ?qc2 ?qc3 ?qc4 ?qc5 ?qc6 ?_)
 case qc1 => exact HL.out
 case qc2 => exact fun j u hj => Lib.cell?_alloc_some _ (HC.out j u hj)
 case qc3 => exact HO.out
 case qc4 => have := HN.out; unfold maxLen; omega
 case qc5 => have := HN.out; omega
 case qc6 => simp
 intro v' w1 hown hgrow hnil
 have hb : Below w.heap.size w w1 := ((Below.refl _ w).alloc (Nat.le_refl _) _).grown hgrow (by simp) (by intro k hk; simp [Value.ownBlock] at hk; omega)
 have HE : Hid (∃ g c', v' = .slice (some ⟨g, 0, none⟩) n c' /\ w.heap.size <= g /\ CBox w1 g n f /\ n <= c' /\ c' <= maxLen) := by
  rcases hown.2 with ⟨rfl, h0⟩ | ⟨g, cap, cur, rfl, hge, hh, h1, h2, _, hcs⟩
  · have := H0.out; omega
  · refine ⟨g, cap, rfl, hge, ⟨Row.lt (t := 21) hh, fun o => Row.free (t := 21) hh o, fun j hj => ?_⟩, h1, h2⟩
    have := hown.cells (g := g) rfl j _ (HR.out j hj)
    rwa [show (⟨g, 0, none⟩ : Addr).add j = ⟨g, j, none⟩ by unfold Addr.add; split <;> simp_all] at this
 have HB := Lib.hid hb
 clear hown hgrow hnil hb
 go_wp2
 go_ret
 obtain ⟨a', c', rfl, h⟩ := HE.out
 exact ⟨a', c', rfl, h.1, h.2.1, h.2.2.1, h.2.2.2, HB.out⟩
theorem cloneR_new (a : Option Addr) (n c : Nat) (fP : Nat -> Int) (fQ : Nat -> Nat) (w : World) (h : RRow w a n c fP fQ) (h0 : 0 < n) (hn : n <= 1000000) :
    Calls Tryz.prog 106 #[.slice a n c] w fun e w' => ∃ g c', e = .returned (.slice (some ⟨g, 0, none⟩) n c') /\ w.heap.size <= g /\ RatsTo w' g n n fP fQ /\ n <= c' /\ c' <= maxLen /\ Below w.heap.size w w' := by
 obtain ⟨i0, hi, hz0, hz1, hz2⟩ := info_parts infoR
 have q22 : ∀ (w : World) (a : Option Addr) (n c n' c' : Nat), (binOp .eql 34 (.slice a n c) (.slice none n' c')).run Tryz.prog w = .ok (.bool a.isNone) w := fun w a n c n' c' => Lib.run_eql_slice_nil w _ _ a n c n' c' Tryz.underlying34
 obtain ⟨b, off, _, _, _, _, _, _, _, rfl, hb, _⟩ := h.get h0
 have hc : ∀ j, j < n -> ∃ a' n' c' m' a2' n2' c2', w.cell? ⟨b, off + j * 3, none⟩ = some (.slice a' n' c') /\ w.cell? ⟨b, off + j * 3 + 1, none⟩ = some (.bool m') /\ w.cell? ⟨b, off + j * 3 + 2, none⟩ = some (.slice a2' n2' c2') /\ RatAt w a' n' c' m' a2' n2' c2' (fP j) (fQ j) := fun j hj => by
  obtain ⟨b', off', a', n', c', m', a2', n2', c2', e, _, q⟩ := h.get hj
  cases e
  exact ⟨a', n', c', m', a2', n2', c2', q⟩
 obtain ⟨news, hl, hcell, hone, hrat⟩ : ∃ news : List Value, news.length = n * 3 /\ (∀ j u, news[j]? = some u -> w.cell? ((⟨b, off, none⟩ : Addr).add j) = some u) /\ (∀ u ∈ news, u.oneCell' = true) /\
     ∀ j, j < n -> ∃ a' n' c' m' a2' n2' c2', news[j * 3]? = some (.slice a' n' c') /\ news[j * 3 + 1]? = some (.bool m') /\ news[j * 3 + 2]? = some (.slice a2' n2' c2') /\ RatAt w a' n' c' m' a2' n2' c2' (fP j) (fQ j) := by
  have hs : ∀ i, i < n * 3 -> ∃ u, w.cell? ⟨b, off + i, none⟩ = some u /\ u.oneCell' = true := three (p := fun i => ∃ u, w.cell? ⟨b, off + i, none⟩ = some u /\ u.oneCell' = true) fun j hj => by
   obtain ⟨a', n', c', m', a2', n2', c2', e1, e2, e3, _⟩ := hc j hj
   exact ⟨⟨_, e1, rfl⟩, ⟨_, e2, rfl⟩, ⟨_, e3, rfl⟩⟩
  have hs' : ∀ i, i < n * 3 -> (w.cell? ⟨b, off + i, none⟩).isSome = true := fun i hi => by obtain ⟨u, hu, _⟩ := hs i hi; rw [hu]; rfl
  refine ⟨lies w b off (n * 3), lies_length _ _ _ _, fun j u hu => ?_, fun u hu => ?_, fun j hj => ?_⟩
  · rw [show (⟨b, off, none⟩ : Addr).add j = ⟨b, off + j, none⟩ by simp [Addr.add]]
    exact lies_get hu hs'
  · obtain ⟨j, hj⟩ := List.getElem?_of_mem hu
    have hl := (List.getElem?_eq_some_iff.1 hj).1
    rw [lies_length] at hl
    obtain ⟨v, hv, h1⟩ := hs j hl
    have := lies_get hj hs'
    rw [hv] at this
    obtain rfl := Option.some.inj this
    exact h1
  · obtain ⟨a', n', c', m', a2', n2', c2', e1, e2, e3, hr⟩ := hc j hj
    exact ⟨a', n', c', m', a2', n2', c2', lies_at (by omega) e1, lies_at (by omega) e2, lies_at (by omega) e3, hr⟩
 have HC := Lib.hid hcell
 have HO := Lib.hid hone
 have HR := Lib.hid hrat
 have HL := Lib.hid hl
 have HN := Lib.hid hn
 have H0 := Lib.hid h0
 clear hcell hone hrat hl h hn hc h0
 go_enter Tryz.func106, Tryz.ntmps106
 go_wp2_with (at_builtin; refine wpList_append_own _ rfl _ _ 34 rfl w.heap.size 60 i0 _ 3 56 Tryz.underlying34 hi hz0 hz1 hz2 rfl (by omega) _ _ _ rfl (World.ownsRow_made w #[] 0 (Nat.le_refl _) (Nat.zero_le _) (by simp)) ⟨b, off, none⟩ n c news rfl ?qc1 ?qc2 ?qc3 ?qc4 ?qc5 ?qc6 ?_)
 case qc1 => exact HL.out
 case qc2 => exact fun j u hj => Lib.cell?_alloc_some _ (HC.out j u hj)
 case qc3 => exact HO.out
 case qc4 => have := HN.out; unfold maxLen; omega
 case qc5 => have := HN.out; omega
 case qc6 => simp
 intro v' w1 hown hgrow hnil
 have hb : Below w.heap.size w w1 := ((Below.refl _ w).alloc (Nat.le_refl _) _).grown hgrow (by simp) (by intro k hk; simp [Value.ownBlock] at hk; omega)
 have HE : Hid (∃ g c', v' = .slice (some ⟨g, 0, none⟩) n c' /\ w.heap.size <= g /\ RatsTo w1 g n n fP fQ /\ n <= c' /\ c' <= maxLen) := by
  rcases hown.2 with ⟨rfl, h0⟩ | ⟨g, cap, cur, rfl, hge, hh, h1, h2, _, hcs⟩
  · have := H0.out; omega
  · refine ⟨g, cap, rfl, hge, ⟨Row.lt (t := 60) hh, fun o => Row.free (t := 60) hh o, fun j hj => ?_⟩, h1, h2⟩
    obtain ⟨a', n', c', m', a2', n2', c2', e1, e2, e3, hr⟩ := HR.out j hj
    have hc := hown.cells (g := g) rfl
    have hc' : ∀ i u, news[i]? = some u -> w1.cell? ⟨g, i, none⟩ = some u := fun i u hu => by
     have := hc i u hu
     rwa [show (⟨g, 0, none⟩ : Addr).add i = ⟨g, i, none⟩ by unfold Addr.add; split <;> simp_all] at this
    exact ⟨a', n', c', m', a2', n2', c2', hc' _ _ e1, hc' _ _ e2, hc' _ _ e3, fun _ => hr.below hb⟩
 have HB := Lib.hid hb
 clear hown hgrow hnil hb
 go_wp2
 go_ret
 obtain ⟨a', c', rfl, h⟩ := HE.out
 exact ⟨a', c', rfl, h.1, h.2.1, h.2.2.1, h.2.2.2, HB.out⟩
theorem runes_new (more : Int) (d : Nat -> Int) (na : Option Addr) (nn nc : Nat) (ta : Option Addr) (tn tc : Nat) (g : Nat -> Int) (w : World) (h : KRow w .i32 ta tn tc g) (h0 : 0 < tn) (ht : tn <= 1000000) :
    Calls Tryz.prog 52 #[.agg (arrC true more d na nn nc ta tn tc)] w fun e w' => ∃ b c, e = .returned (.slice (some ⟨b, 0, none⟩) tn c) /\ w.heap.size <= b /\ CBox w' b tn g /\ tn <= c /\ c <= maxLen /\ Below w.heap.size w w' := by
 have CL := Lib.hid (fun wz h => cloneC_new ta tn tc g wz h h0 ht)
 have BB := Lib.hid (((Bag.start w).krow h).newRow (arrC true more d na nn nc ta tn tc) 36)
 clear h h0
 unfold arrC at BB
 unfold arrC
 go_enter Tryz.func52, Tryz.ntmps52
 go_wp2_with fail
 go_at_call 105
 (with_reducible refine (CL.out _ BB.out.now.2.1).mono ?_)
 rintro e w3 ⟨b3, c3, rfl, hg3, hk3, hc3, hc4, hb3⟩
 have HE := Lib.hid (And.intro (show w.heap.size <= b3 by have := BB.out.below.size; omega) (And.intro hk3 (BB.out.go hb3).below))
 clear hk3 hb3 hg3
 go_wp2
 go_ret
 exact ⟨b3, c3, rfl, HE.out.1, HE.out.2.1, hc3, hc4, HE.out.2.2⟩
theorem rats_new (more : Int) (d : Nat -> Int) (na : Option Addr) (nn nc : Nat) (ta : Option Addr) (tn tc : Nat) (fP : Nat -> Int) (fQ : Nat -> Nat) (w : World) (h : RRow w na nn nc fP fQ) (h0 : 0 < nn) (hn : nn <= 1000000) :
    Calls Tryz.prog 55 #[.agg (arrC false more d na nn nc ta tn tc)] w fun e w' => ∃ b c, e = .returned (.slice (some ⟨b, 0, none⟩) nn c) /\ w.heap.size <= b /\ RatsTo w' b nn nn fP fQ /\ nn <= c /\ c <= maxLen /\ Below w.heap.size w w' := by
 have CL := Lib.hid (fun wz h => cloneR_new na nn nc fP fQ wz h h0 hn)
 have BB := Lib.hid (((Bag.start w).rrow h).newRow (arrC false more d na nn nc ta tn tc) 36)
 clear h h0
 unfold arrC at BB
 unfold arrC
 go_enter Tryz.func55, Tryz.ntmps55
 go_wp2_with fail
 go_at_call 106
 (with_reducible refine (CL.out _ BB.out.now.2.1).mono ?_)
 rintro e w3 ⟨b3, c3, rfl, hg3, hk3, hc3, hc4, hb3⟩
 have HE := Lib.hid (And.intro (show w.heap.size <= b3 by have := BB.out.below.size; omega) (And.intro hk3 (BB.out.go hb3).below))
 clear hk3 hb3 hg3
 go_wp2
 go_ret
 exact ⟨b3, c3, rfl, HE.out.1, HE.out.2.1, hc3, hc4, HE.out.2.2⟩
def Own1 (g : Nat) (w w' : World) : Prop := Far g w w' /\ ∀ w0 : World, Below w0.heap.size w0 w -> w0.heap.size <= g -> Below w0.heap.size w0 w'
theorem Own1.refl (g : Nat) (w : World) : Own1 g w w := ⟨Far.refl _ _, fun _ h _ => h⟩
theorem Own1.set {g : Nat} {w w1 : World} (h : Own1 g w w1) (o : Nat) (v : Value) : Own1 g w (w1.setCell ⟨g, o, none⟩ v) := ⟨h.1.trans (Far.setCell _ _ _ _), fun w0 hb hg => (h.2 w0 hb hg).setCell (p := ⟨g, o, none⟩) hg _⟩
theorem putC_any (g n c : Nat) (f : Nat -> Int) (a2 : Option Addr) (m c2 : Nat) (G : Nat -> Int) (a3 : Option Addr) (k c3 : Nat) (V : Nat -> Int) (w : World) (hb : CBox w g n f) (hc : n <= c /\ c <= maxLen) (h2 : KRow w .i64 a2 m c2 G) (h3 : KRow w .i32 a3 k c3 V)
    (hne2 : ∀ x, a2 = some x -> x.block ≠ g) (hne3 : ∀ x, a3 = some x -> x.block ≠ g) (hk : 0 < k) (hG : ∀ j, j < m -> 0 <= G j /\ G j < n) :
    Calls Tryz.prog 51 #[.slice (some ⟨g, 0, none⟩) n c, .slice a2 m c2, .slice a3 k c3] w fun e w' => e = .returned (.slice (some ⟨g, 0, none⟩) n c) /\ CBox w' g n (puF G (fun j => V (j % k)) m f) /\ Own1 g w w' := by
 have hl2 := h2.len
 have hl3 := h3.len
 have hcm := hc.2
 unfold maxLen at hcm
 have H2 := Lib.hid h2
 have H3 := Lib.hid h3
 have HN2 := Lib.hid hne2
 have HN3 := Lib.hid hne3
 have HG := Lib.hid hG
 have H0 := Lib.hid hb
 have hk0 : (0 : Int) < k := by omega
 clear h2 h3 hne2 hne3 hG hb
 go_enter Tryz.func51, Tryz.ntmps51
 go_wp2_with fail
 go_loopw [11] (fun i wr => ∃ j : Nat, j <= m /\ i = .int .i64 j /\ Hid (CBox wr g n (puF G (fun j => V (j % k)) j f) /\ Own1 g w wr)) (fun i _ => m - (intOf i).toNat)
 case atStart => exact ⟨0, by omega, rfl, H0.out, Own1.refl _ _⟩
 case round =>
  obtain ⟨j, hj, rfl, hrel⟩ := hrel
  obtain ⟨hbx, hfar⟩ := hrel.out
  by_cases hlt : j < m
  · have hj0 : (0 : Int) <= j := by omega
    have hj1 : (j : Int) < m := by omega
    obtain ⟨b, off, rfl, hlb, hcg⟩ := (H2.out.away (.inr HN2.out) hfar.1).get hlt
    have hlt3 : j % k < k := Nat.mod_lt _ hk
    obtain ⟨b3, off3, rfl, hlb3, hcv⟩ := (H3.out.away (.inr HN3.out) hfar.1).get hlt3
    have hGj := HG.out j hlt
    have e9 : (j : Int).tmod (k : Int) = ((j % k : Nat) : Int) := by rw [Int.tmod_eq_emod_of_nonneg (by omega)]; rfl
    have e0 : ((j % k : Nat) : Int) < (k : Int) := by omega
    have e8 : (j : Int) % (k : Int) = ((j % k : Nat) : Int) := rfl
    obtain ⟨p, hp⟩ : ∃ p : Nat, G j = (p : Int) := ⟨(G j).toNat, by omega⟩
    have hpn : p < n := by omega
    have hpn2 : (p : Int) < n := by omega
    have x1 := hbx.2.2 p hpn
    have y1 := hbx.2.1 p
    have HN : Hid (CBox (wr.setCell ⟨g, p, none⟩ (.int .i32 (V (j % k)))) g n (puF G (fun j => V (j % k)) (j + 1) f) /\ Own1 g w (wr.setCell ⟨g, p, none⟩ (.int .i32 (V (j % k))))) := Lib.hid ⟨(hbx.put hpn (V (j % k))).congr (fun q _ => by
     show (if q = p then V (j % k) else puF G (fun j => V (j % k)) j f q) = if (q : Int) = G j then V (j % k) else puF G (fun j => V (j % k)) j f q
     by_cases e : q = p
     · rw [if_pos e, if_pos (by omega)]
     · rw [if_neg e, if_neg (by omega)]), hfar.set _ _⟩
    rw [hp] at hcg
    clear hrel hbx hfar hp hGj
    generalize V (j % k) = vv at *
    generalize hjk : j % k = jk at *
    go_wp2_with fail
    go_roundw
    case rel => exact ⟨j + 1, by omega, by go_num, HN.out⟩
    case measure => simp [intOf]; omega
  · obtain rfl : j = m := by omega
    have HE := Lib.hid (And.intro hbx hfar)
    clear hrel hbx hfar
    go_wp2
    go_ret
    exact ⟨rfl, HE.out⟩
theorem NatIs.put3 {w : World} {g o : Nat} {x0 x1 x2 : Value} {v : Value} {N : Nat} (h : NatIs w v N) (q0 : w.cell? ⟨g, o, none⟩ = some x0) (q1 : w.cell? ⟨g, o + 1, none⟩ = some x1) (q2 : w.cell? ⟨g, o + 2, none⟩ = some x2)
    (n0 : ∀ ki z, x0 ≠ .int ki z) (n1 : ∀ ki z, x1 ≠ .int ki z) (n2 : ∀ ki z, x2 ≠ .int ki z) (u0 u1 u2 : Value) : NatIs (((w.setCell ⟨g, o, none⟩ u0).setCell ⟨g, o + 1, none⟩ u1).setCell ⟨g, o + 2, none⟩ u2) v N := by
 refine ((h.storeAt q0 n0 _).storeAt (x := x1) ?_ n1 _).storeAt (x := x2) ?_ n2 _
 · rw [World.cell?_setCell_other _ _ _ _ (fun e => by injection e with _ e; omega)]; exact q1
 · rw [World.cell?_setCell_other _ _ _ _ (fun e => by injection e with _ e; omega), World.cell?_setCell_other _ _ _ _ (fun e => by injection e with _ e; omega)]; exact q2
theorem RatsTo.put {w : World} {g n : Nat} {fP : Nat -> Int} {fQ : Nat -> Nat} (h : RatsTo w g n n fP fQ) {k : Nat} (hk : k < n) {a : Option Addr} {n' c : Nat} {m : Bool} {a2 : Option Addr} {n2 c2 : Nat} {P : Int} {Q : Nat} (hr : RatAt w a n' c m a2 n2 c2 P Q) :
    RatsTo (((w.setCell ⟨g, k * 3, none⟩ (.slice a n' c)).setCell ⟨g, k * 3 + 1, none⟩ (.bool m)).setCell ⟨g, k * 3 + 2, none⟩ (.slice a2 n2 c2)) g n n (fun j => if j = k then P else fP j) (fun j => if j = k then Q else fQ j) := by
 obtain ⟨h1, h2, h3⟩ := h
 obtain ⟨b, l, d, v, b2, l2, d2, x1, x2, x3, _⟩ := h3 k hk
 have keepR : ∀ a5 n5 c5 m5 a6 n6 c6 P Q, RatAt w a5 n5 c5 m5 a6 n6 c6 P Q -> RatAt (((w.setCell ⟨g, k * 3, none⟩ (.slice a n' c)).setCell ⟨g, k * 3 + 1, none⟩ (.bool m)).setCell ⟨g, k * 3 + 2, none⟩ (.slice a2 n2 c2)) a5 n5 c5 m5 a6 n6 c6 P Q := fun _ _ _ _ _ _ _ _ _ hq =>
  ⟨⟨hq.1.1, hq.1.2.put3 x1 x2 x3 (fun _ _ h => by cases h) (fun _ _ h => by cases h) (fun _ _ h => by cases h) _ _ _⟩, hq.2.put3 x1 x2 x3 (fun _ _ h => by cases h) (fun _ _ h => by cases h) (fun _ _ h => by cases h) _ _ _⟩
 refine ⟨by simpa using h1, ((h2.set _ _).set _ _).set _ _, fun j hj => ?_⟩
 by_cases e : j = k
 · subst e
   refine ⟨a, n', c, m, a2, n2, c2, ?_, ?_, ?_, fun _ => ?_⟩
   · rw [World.cell?_setCell_other _ _ _ _ (fun e => by injection e with _ e; omega), World.cell?_setCell_other _ _ _ _ (fun e => by injection e with _ e; omega)]
     exact World.cell?_setCell_same _ _ _ x1
   · rw [World.cell?_setCell_other _ _ _ _ (fun e => by injection e with _ e; omega)]
     refine World.cell?_setCell_same (u := .bool v) _ _ _ ?_
     rw [World.cell?_setCell_other _ _ _ _ (fun e => by injection e with _ e; omega)]
     exact x2
   · refine World.cell?_setCell_same (u := .slice b2 l2 d2) _ _ _ ?_
     rw [World.cell?_setCell_other _ _ _ _ (fun e => by injection e with _ e; omega), World.cell?_setCell_other _ _ _ _ (fun e => by injection e with _ e; omega)]
     exact x3
   · simp only [if_true]
     exact keepR _ _ _ _ _ _ _ _ _ hr
 · obtain ⟨a', n9, c', m', a2', n2', c2', e1, e2, e3, e4⟩ := h3 j hj
   have far : ∀ o, (o = j * 3 ∨ o = j * 3 + 1 ∨ o = j * 3 + 2) -> (((w.setCell ⟨g, k * 3, none⟩ (.slice a n' c)).setCell ⟨g, k * 3 + 1, none⟩ (.bool m)).setCell ⟨g, k * 3 + 2, none⟩ (.slice a2 n2 c2)).cell? ⟨g, o, none⟩ = w.cell? ⟨g, o, none⟩ := by
    intro o ho
    rw [World.cell?_setCell_other _ _ _ _ (fun e => by injection e with _ e; omega), World.cell?_setCell_other _ _ _ _ (fun e => by injection e with _ e; omega), World.cell?_setCell_other _ _ _ _ (fun e => by injection e with _ e; omega)]
   refine ⟨a', n9, c', m', a2', n2', c2', (far _ (.inl rfl)).trans e1, (far _ (.inr (.inl rfl))).trans e2, (far _ (.inr (.inr rfl))).trans e3, fun _ => ?_⟩
   simp only [if_neg e]
   exact keepR _ _ _ _ _ _ _ _ _ (e4 hj)
theorem RatsTo.congr {w : World} {g n : Nat} {fP fP' : Nat -> Int} {fQ fQ' : Nat -> Nat} (h : RatsTo w g n n fP fQ) (e : ∀ j, j < n -> fP j = fP' j /\ fQ j = fQ' j) : RatsTo w g n n fP' fQ' := by
 refine ⟨h.1, h.2.1, fun j hj => ?_⟩
 obtain ⟨a, n', c, m, a2, n2, c2, e1, e2, e3, e4⟩ := h.2.2 j hj
 rw [← (e j hj).1, ← (e j hj).2]
 exact ⟨a, n', c, m, a2, n2, c2, e1, e2, e3, e4⟩
theorem RatsTo.rrow {w : World} {g n c : Nat} {fP : Nat -> Int} {fQ : Nat -> Nat} (h : RatsTo w g n n fP fQ) (h1 : n <= c) (h2 : c <= maxLen) : RRow w (some ⟨g, 0, none⟩) n c fP fQ := by
 obtain ⟨_, _, q⟩ := h.done (by omega)
 exact ⟨h1, h2, q⟩
theorem RatAt.put3 {w : World} {g o : Nat} {x0 x1 x2 : Value} {a5 : Option Addr} {n5 c5 : Nat} {m5 : Bool} {a6 : Option Addr} {n6 c6 : Nat} {P : Int} {Q : Nat} (h : RatAt w a5 n5 c5 m5 a6 n6 c6 P Q) (q0 : w.cell? ⟨g, o, none⟩ = some x0) (q1 : w.cell? ⟨g, o + 1, none⟩ = some x1) (q2 : w.cell? ⟨g, o + 2, none⟩ = some x2)
    (n0 : ∀ ki z, x0 ≠ .int ki z) (n1 : ∀ ki z, x1 ≠ .int ki z) (n2 : ∀ ki z, x2 ≠ .int ki z) (u0 u1 u2 : Value) : RatAt (((w.setCell ⟨g, o, none⟩ u0).setCell ⟨g, o + 1, none⟩ u1).setCell ⟨g, o + 2, none⟩ u2) a5 n5 c5 m5 a6 n6 c6 P Q :=
 ⟨⟨h.1.1, h.1.2.put3 q0 q1 q2 n0 n1 n2 _ _ _⟩, h.2.put3 q0 q1 q2 n0 n1 n2 _ _ _⟩
theorem RRow.put3 {w : World} {g o : Nat} {x0 x1 x2 : Value} {a3 : Option Addr} {k c3 : Nat} {VP : Nat -> Int} {VQ : Nat -> Nat} (h : RRow w a3 k c3 VP VQ) (hne : ∀ x, a3 = some x -> x.block ≠ g) (q0 : w.cell? ⟨g, o, none⟩ = some x0) (q1 : w.cell? ⟨g, o + 1, none⟩ = some x1) (q2 : w.cell? ⟨g, o + 2, none⟩ = some x2)
    (n0 : ∀ ki z, x0 ≠ .int ki z) (n1 : ∀ ki z, x1 ≠ .int ki z) (n2 : ∀ ki z, x2 ≠ .int ki z) (u0 u1 u2 : Value) : RRow (((w.setCell ⟨g, o, none⟩ u0).setCell ⟨g, o + 1, none⟩ u1).setCell ⟨g, o + 2, none⟩ u2) a3 k c3 VP VQ := by
 refine ⟨h.1, h.2.1, h.2.2.imp id ?_⟩
 rintro ⟨b, off, rfl, hl, hcc⟩
 have hbg : b ≠ g := hne _ rfl
 refine ⟨b, off, rfl, by simpa using hl, fun j hj => ?_⟩
 obtain ⟨a', n', c', m', a2', n2', c2', e1, e2, e3, hq⟩ := hcc j hj
 have far : ∀ q, (((w.setCell ⟨g, o, none⟩ u0).setCell ⟨g, o + 1, none⟩ u1).setCell ⟨g, o + 2, none⟩ u2).cell? ⟨b, q, none⟩ = w.cell? ⟨b, q, none⟩ := fun q => by
  rw [World.cell?_setCell_other _ _ _ _ (fun e => by injection e with e _; exact hbg e.symm), World.cell?_setCell_other _ _ _ _ (fun e => by injection e with e _; exact hbg e.symm), World.cell?_setCell_other _ _ _ _ (fun e => by injection e with e _; exact hbg e.symm)]
 exact ⟨a', n', c', m', a2', n2', c2', (far _).trans e1, (far _).trans e2, (far _).trans e3, hq.put3 q0 q1 q2 n0 n1 n2 _ _ _⟩
theorem putR_any (g n c : Nat) (fP : Nat -> Int) (fQ : Nat -> Nat) (a2 : Option Addr) (m c2 : Nat) (G : Nat -> Int) (a3 : Option Addr) (k c3 : Nat) (VP : Nat -> Int) (VQ : Nat -> Nat) (w : World) (hb : RatsTo w g n n fP fQ) (hc : n <= c /\ c <= maxLen) (h2 : KRow w .i64 a2 m c2 G) (h3 : RRow w a3 k c3 VP VQ)
    (hne2 : ∀ x, a2 = some x -> x.block ≠ g) (hne3 : ∀ x, a3 = some x -> x.block ≠ g) (hk : 0 < k) (hG : ∀ j, j < m -> 0 <= G j /\ G j < n) :
    Calls Tryz.prog 54 #[.slice (some ⟨g, 0, none⟩) n c, .slice a2 m c2, .slice a3 k c3] w fun e w' => e = .returned (.slice (some ⟨g, 0, none⟩) n c) /\ RatsTo w' g n n (puF G (fun j => VP (j % k)) m fP) (puF G (fun j => VQ (j % k)) m fQ) /\ Own1 g w w' := by
 have hl2 := h2.len
 have hl3 : k <= c3 /\ c3 <= 9223372036854775807 := by
  have q1 := h3.1
  have q2 := h3.2.1
  unfold maxLen at q2
  omega
 have hcm := hc.2
 unfold maxLen at hcm
 have H2 := Lib.hid h2
 have H3 := Lib.hid h3
 have HN2 := Lib.hid hne2
 have HN3 := Lib.hid hne3
 have HG := Lib.hid hG
 have H0 := Lib.hid hb
 have hk0 : (0 : Int) < k := by omega
 clear h2 h3 hne2 hne3 hG hb
 go_enter Tryz.func54, Tryz.ntmps54
 go_wp2_with fail
 go_loopw [11] (fun i wr => ∃ j : Nat, j <= m /\ i = .int .i64 j /\ Hid (RatsTo wr g n n (puF G (fun j => VP (j % k)) j fP) (puF G (fun j => VQ (j % k)) j fQ) /\ Own1 g w wr /\ RRow wr a3 k c3 VP VQ)) (fun i _ => m - (intOf i).toNat)
 case atStart => exact ⟨0, by omega, rfl, H0.out, Own1.refl _ _, H3.out⟩
 case round =>
  obtain ⟨j, hj, rfl, hrel⟩ := hrel
  obtain ⟨hbx, hfar, hr3⟩ := hrel.out
  by_cases hlt : j < m
  · have hj0 : (0 : Int) <= j := by omega
    have hj1 : (j : Int) < m := by omega
    obtain ⟨b, off, rfl, hlb, hcg⟩ := (H2.out.away (.inr HN2.out) hfar.1).get hlt
    have hlt3 : j % k < k := Nat.mod_lt _ hk
    obtain ⟨b3, off3, a9, n9, c9, m9, a8, n8, c8, rfl, hlb3, v1, v2, v3, hrat⟩ := hr3.get hlt3
    have hGj := HG.out j hlt
    have e9 : (j : Int).tmod (k : Int) = ((j % k : Nat) : Int) := by rw [Int.tmod_eq_emod_of_nonneg (by omega)]; rfl
    have e0 : ((j % k : Nat) : Int) < (k : Int) := by omega
    have e8 : (j : Int) % (k : Int) = ((j % k : Nat) : Int) := rfl
    obtain ⟨p, hp⟩ : ∃ p : Nat, G j = (p : Int) := ⟨(G j).toNat, by omega⟩
    have hpn : p < n := by omega
    have hpn2 : (p : Int) < n := by omega
    obtain ⟨⟨b1, l1, d1, u1, b2, l2, d2, x1, x2, x3⟩, y1, y2, y3⟩ := hbx.place hpn
    have HN : Hid (RatsTo (((wr.setCell ⟨g, p * 3, none⟩ (.slice a9 n9 c9)).setCell ⟨g, p * 3 + 1, none⟩ (.bool m9)).setCell ⟨g, p * 3 + 2, none⟩ (.slice a8 n8 c8)) g n n (puF G (fun j => VP (j % k)) (j + 1) fP) (puF G (fun j => VQ (j % k)) (j + 1) fQ) /\ Own1 g w (((wr.setCell ⟨g, p * 3, none⟩ (.slice a9 n9 c9)).setCell ⟨g, p * 3 + 1, none⟩ (.bool m9)).setCell ⟨g, p * 3 + 2, none⟩ (.slice a8 n8 c8)) /\ RRow (((wr.setCell ⟨g, p * 3, none⟩ (.slice a9 n9 c9)).setCell ⟨g, p * 3 + 1, none⟩ (.bool m9)).setCell ⟨g, p * 3 + 2, none⟩ (.slice a8 n8 c8)) (some ⟨b3, off3, none⟩) k c3 VP VQ) := Lib.hid ⟨(hbx.put hpn hrat).congr (fun q _ => by
     constructor
     · show (if q = p then VP (j % k) else puF G (fun j => VP (j % k)) j fP q) = if (q : Int) = G j then VP (j % k) else puF G (fun j => VP (j % k)) j fP q
       by_cases e : q = p
       · rw [if_pos e, if_pos (by omega)]
       · rw [if_neg e, if_neg (by omega)]
     · show (if q = p then VQ (j % k) else puF G (fun j => VQ (j % k)) j fQ q) = if (q : Int) = G j then VQ (j % k) else puF G (fun j => VQ (j % k)) j fQ q
       by_cases e : q = p
       · rw [if_pos e, if_pos (by omega)]
       · rw [if_neg e, if_neg (by omega)]), ((hfar.set _ _).set _ _).set _ _, hr3.put3 HN3.out x1 x2 x3 (fun _ _ h => by cases h) (fun _ _ h => by cases h) (fun _ _ h => by cases h) _ _ _⟩
    rw [hp] at hcg
    clear hrel hbx hfar hp hGj hrat hr3
    generalize hjk : j % k = jk at *
    go_wp2_with fail
    go_roundw
    case rel => exact ⟨j + 1, by omega, by go_num, HN.out⟩
    case measure => simp [intOf]; omega
  · obtain rfl : j = m := by omega
    have HE := Lib.hid (And.intro hbx hfar)
    clear hrel hbx hfar hr3
    go_wp2
    go_ret
    exact ⟨rfl, HE.out⟩
theorem runes8_new (x : Array Value) (S : Nat -> Int) (r L : Nat) (g P : Nat -> Int) (Q : Nat -> Nat) (w : World) (h : Arr w x S r true L g P Q) (h0 : 0 < L) (hn : L <= 1000000) :
    Calls Tryz.prog 52 #[.agg x] w fun e w' => ∃ b c, e = .returned (.slice (some ⟨b, 0, none⟩) L c) /\ w.heap.size <= b /\ CBox w' b L g /\ L <= c /\ c <= maxLen /\ Below w.heap.size w w' := by
 obtain ⟨ta, tc, rfl, k⟩ := h.1 rfl
 exact runes_new _ _ _ _ _ _ _ _ g w k h0 hn
theorem rats8_new (x : Array Value) (S : Nat -> Int) (r L : Nat) (g P : Nat -> Int) (Q : Nat -> Nat) (w : World) (h : Arr w x S r false L g P Q) (h0 : 0 < L) (hn : L <= 1000000) :
    Calls Tryz.prog 55 #[.agg x] w fun e w' => ∃ b c, e = .returned (.slice (some ⟨b, 0, none⟩) L c) /\ w.heap.size <= b /\ RatsTo w' b L L P Q /\ L <= c /\ c <= maxLen /\ Below w.heap.size w w' := by
 obtain ⟨na, nc, rfl, k⟩ := h.2 rfl
 exact rats_new _ _ _ _ _ _ _ _ P Q w k h0 hn
def put12 (w : World) (k : Nat) (a0 a1 a2 a3 a4 a5 a6 a7 a8 a9 a10 a11 : Value) : World := ((((((((((((w.setCell ⟨k, 0, none⟩ a0).setCell ⟨k, 1, none⟩ a1).setCell ⟨k, 2, none⟩ a2).setCell ⟨k, 3, none⟩ a3).setCell ⟨k, 4, none⟩ a4).setCell ⟨k, 5, none⟩ a5).setCell ⟨k, 6, none⟩ a6).setCell ⟨k, 7, none⟩ a7).setCell ⟨k, 8, none⟩ a8).setCell ⟨k, 9, none⟩ a9).setCell ⟨k, 10, none⟩ a10).setCell ⟨k, 11, none⟩ a11)
theorem far_put12 (w : World) (k : Nat) (a0 a1 a2 a3 a4 a5 a6 a7 a8 a9 a10 a11 : Value) : Far k w (put12 w k a0 a1 a2 a3 a4 a5 a6 a7 a8 a9 a10 a11) := ((((((((((((Far.setCell _ _ _ _).trans (Far.setCell _ _ _ _)).trans (Far.setCell _ _ _ _)).trans (Far.setCell _ _ _ _)).trans (Far.setCell _ _ _ _)).trans (Far.setCell _ _ _ _)).trans (Far.setCell _ _ _ _)).trans (Far.setCell _ _ _ _)).trans (Far.setCell _ _ _ _)).trans (Far.setCell _ _ _ _)).trans (Far.setCell _ _ _ _)).trans (Far.setCell _ _ _ _))
theorem row_put12 {w : World} {k : Nat} {t : TypeId} {x0 x1 x2 x3 x4 x5 x6 x7 x8 x9 x10 x11 : Value} (h : Row w k t #[x0, x1, x2, x3, x4, x5, x6, x7, x8, x9, x10, x11]) (a0 a1 a2 a3 a4 a5 a6 a7 a8 a9 a10 a11 : Value) : Row (put12 w k a0 a1 a2 a3 a4 a5 a6 a7 a8 a9 a10 a11) k t #[a0, a1, a2, a3, a4, a5, a6, a7, a8, a9, a10, a11] := by
 have r0 : Row (w.setCell ⟨k, 0, none⟩ a0) k t #[a0, x1, x2, x3, x4, x5, x6, x7, x8, x9, x10, x11] := h.set 0 a0
 have r1 : Row ((w.setCell ⟨k, 0, none⟩ a0).setCell ⟨k, 1, none⟩ a1) k t #[a0, a1, x2, x3, x4, x5, x6, x7, x8, x9, x10, x11] := r0.set 1 a1
 have r2 : Row (((w.setCell ⟨k, 0, none⟩ a0).setCell ⟨k, 1, none⟩ a1).setCell ⟨k, 2, none⟩ a2) k t #[a0, a1, a2, x3, x4, x5, x6, x7, x8, x9, x10, x11] := r1.set 2 a2
 have r3 : Row ((((w.setCell ⟨k, 0, none⟩ a0).setCell ⟨k, 1, none⟩ a1).setCell ⟨k, 2, none⟩ a2).setCell ⟨k, 3, none⟩ a3) k t #[a0, a1, a2, a3, x4, x5, x6, x7, x8, x9, x10, x11] := r2.set 3 a3
 have r4 : Row (((((w.setCell ⟨k, 0, none⟩ a0).setCell ⟨k, 1, none⟩ a1).setCell ⟨k, 2, none⟩ a2).setCell ⟨k, 3, none⟩ a3).setCell ⟨k, 4, none⟩ a4) k t #[a0, a1, a2, a3, a4, x5, x6, x7, x8, x9, x10, x11] := r3.set 4 a4
 have r5 : Row ((((((w.setCell ⟨k, 0, none⟩ a0).setCell ⟨k, 1, none⟩ a1).setCell ⟨k, 2, none⟩ a2).setCell ⟨k, 3, none⟩ a3).setCell ⟨k, 4, none⟩ a4).setCell ⟨k, 5, none⟩ a5) k t #[a0, a1, a2, a3, a4, a5, x6, x7, x8, x9, x10, x11] := r4.set 5 a5
 have r6 : Row (((((((w.setCell ⟨k, 0, none⟩ a0).setCell ⟨k, 1, none⟩ a1).setCell ⟨k, 2, none⟩ a2).setCell ⟨k, 3, none⟩ a3).setCell ⟨k, 4, none⟩ a4).setCell ⟨k, 5, none⟩ a5).setCell ⟨k, 6, none⟩ a6) k t #[a0, a1, a2, a3, a4, a5, a6, x7, x8, x9, x10, x11] := r5.set 6 a6
 have r7 : Row ((((((((w.setCell ⟨k, 0, none⟩ a0).setCell ⟨k, 1, none⟩ a1).setCell ⟨k, 2, none⟩ a2).setCell ⟨k, 3, none⟩ a3).setCell ⟨k, 4, none⟩ a4).setCell ⟨k, 5, none⟩ a5).setCell ⟨k, 6, none⟩ a6).setCell ⟨k, 7, none⟩ a7) k t #[a0, a1, a2, a3, a4, a5, a6, a7, x8, x9, x10, x11] := r6.set 7 a7
 have r8 : Row (((((((((w.setCell ⟨k, 0, none⟩ a0).setCell ⟨k, 1, none⟩ a1).setCell ⟨k, 2, none⟩ a2).setCell ⟨k, 3, none⟩ a3).setCell ⟨k, 4, none⟩ a4).setCell ⟨k, 5, none⟩ a5).setCell ⟨k, 6, none⟩ a6).setCell ⟨k, 7, none⟩ a7).setCell ⟨k, 8, none⟩ a8) k t #[a0, a1, a2, a3, a4, a5, a6, a7, a8, x9, x10, x11] := r7.set 8 a8
 have r9 : Row ((((((((((w.setCell ⟨k, 0, none⟩ a0).setCell ⟨k, 1, none⟩ a1).setCell ⟨k, 2, none⟩ a2).setCell ⟨k, 3, none⟩ a3).setCell ⟨k, 4, none⟩ a4).setCell ⟨k, 5, none⟩ a5).setCell ⟨k, 6, none⟩ a6).setCell ⟨k, 7, none⟩ a7).setCell ⟨k, 8, none⟩ a8).setCell ⟨k, 9, none⟩ a9) k t #[a0, a1, a2, a3, a4, a5, a6, a7, a8, a9, x10, x11] := r8.set 9 a9
 have r10 : Row (((((((((((w.setCell ⟨k, 0, none⟩ a0).setCell ⟨k, 1, none⟩ a1).setCell ⟨k, 2, none⟩ a2).setCell ⟨k, 3, none⟩ a3).setCell ⟨k, 4, none⟩ a4).setCell ⟨k, 5, none⟩ a5).setCell ⟨k, 6, none⟩ a6).setCell ⟨k, 7, none⟩ a7).setCell ⟨k, 8, none⟩ a8).setCell ⟨k, 9, none⟩ a9).setCell ⟨k, 10, none⟩ a10) k t #[a0, a1, a2, a3, a4, a5, a6, a7, a8, a9, a10, x11] := r9.set 10 a10
 have r11 : Row ((((((((((((w.setCell ⟨k, 0, none⟩ a0).setCell ⟨k, 1, none⟩ a1).setCell ⟨k, 2, none⟩ a2).setCell ⟨k, 3, none⟩ a3).setCell ⟨k, 4, none⟩ a4).setCell ⟨k, 5, none⟩ a5).setCell ⟨k, 6, none⟩ a6).setCell ⟨k, 7, none⟩ a7).setCell ⟨k, 8, none⟩ a8).setCell ⟨k, 9, none⟩ a9).setCell ⟨k, 10, none⟩ a10).setCell ⟨k, 11, none⟩ a11) k t #[a0, a1, a2, a3, a4, a5, a6, a7, a8, a9, a10, a11] := r10.set 11 a11
 exact r11
theorem below_put12 {w w1 : World} {k : Nat} (h : Below w.heap.size w w1) (hk : w.heap.size <= k) (a0 a1 a2 a3 a4 a5 a6 a7 a8 a9 a10 a11 : Value) : Below w.heap.size w (put12 w1 k a0 a1 a2 a3 a4 a5 a6 a7 a8 a9 a10 a11) := ((((((((((((h.setCell (p := ⟨k, 0, none⟩) hk _).setCell (p := ⟨k, 1, none⟩) hk _).setCell (p := ⟨k, 2, none⟩) hk _).setCell (p := ⟨k, 3, none⟩) hk _).setCell (p := ⟨k, 4, none⟩) hk _).setCell (p := ⟨k, 5, none⟩) hk _).setCell (p := ⟨k, 6, none⟩) hk _).setCell (p := ⟨k, 7, none⟩) hk _).setCell (p := ⟨k, 8, none⟩) hk _).setCell (p := ⟨k, 9, none⟩) hk _).setCell (p := ⟨k, 10, none⟩) hk _).setCell (p := ⟨k, 11, none⟩) hk _)
def seE (E F : Int) (M : Nat) (c1 c2 : Bool) : Int := if E ≠ 0 then E else if F ≠ 0 then F else if M = 0 then 0 else if c1 = c2 then 0 else 22
theorem MoTold.as {E E' : Int} {S : Nat -> Int} {r : Nat} {ch : Bool} {L : Nat} {g fP : Nat -> Int} {fQ : Nat -> Nat} {w w' : World} {e : Ending} (h : E' = E) (q : MoTold E S r ch L g fP fQ w w' e) : MoTold E' S r ch L g fP fQ w w' e := by rw [h]; exact q
theorem pk_lt {S : Nat -> Int} {T : Nat -> Nat} {F : Nat -> Nat -> Int} {n L k : Nat} (hsh : shB S n = true) (hL : itm S n = (L : Nat)) (h : InAx S T F n) (hT : axB (lnF T) n = true) (hk : (k : Int) < itm (lnF T) n) : 0 <= pkG S (lnF T) n F k /\ pkG S (lnF T) n F k < L := by
 have h1 := ia_in h hT hk
 have h2 := plc_bd (sh_ax hsh).2 h1
 unfold pkG
 rw [if_pos h1]
 omega
theorem iset_any (x1 : Array Value) (S1 : Nat -> Int) (r1 : Nat) (ch1 : Bool) (L1 : Nat) (g1 P1 : Nat -> Int) (Q1 : Nat -> Nat) (x2 : Array Value) (S2 : Nat -> Int) (r2 : Nat) (ch2 : Bool) (L2 : Nat) (g2 P2 : Nat -> Int) (Q2 : Nat -> Nat) (o : Int) (sa : Option Addr) (m c : Nat) (D : Nat -> Sb) (w : World) (h1 : Arr w x1 S1 r1 ch1 L1 g1 P1 Q1) (h2 : Arr w x2 S2 r2 ch2 L2 g2 P2 Q2)
    (hsh1 : shB S1 r1 = true) (hc1 : itm S1 r1 = (L1 : Nat)) (hsh2 : shB S2 r2 = true) (hc2 : itm S2 r2 = (L2 : Nat)) (hs : SRow w sa m c D) (hok : ∀ j, j < m -> (D j).ok) (hm : m <= 1000) (ho : 0 <= o /\ o <= 1) :
    Calls Tryz.prog 16 #[.agg x1, .agg x2, .int .i64 o, .slice sa m c] w fun e w' => MoTold (seE (ixE o S1 r1 D m) (fiE r2 S2 (ixR D r1) (ixT S1 D r1)) (itm (lnF (ixN S1 D)) r1).toNat ch1 ch2) S1 r1 ch1 L1 (puF (pkG S1 (lnF (ixN S1 D)) r1 (ixF o D)) (fun j => g2 (j % L2)) (itm (lnF (ixN S1 D)) r1).toNat g1) (puF (pkG S1 (lnF (ixN S1 D)) r1 (ixF o D)) (fun j => P2 (j % L2)) (itm (lnF (ixN S1 D)) r1).toNat P1) (puF (pkG S1 (lnF (ixN S1 D)) r1 (ixF o D)) (fun j => Q2 (j % L2)) (itm (lnF (ixN S1 D)) r1).toNat Q1) w w' e := by
 obtain ⟨na1, nn1, nc1, ta1, tn1, tc1, hx1, _⟩ := h1.form
 subst hx1
 obtain ⟨na2, nn2, nc2, ta2, tn2, tc2, hx2, _⟩ := h2.form
 subst hx2
 have H1 := Lib.hid h1
 have H2 := Lib.hid h2
 have hr1 := (sh_ax hsh1).1
 have hr2 := (sh_ax hsh2).1
 have hL1 : L1 <= 4096 := by have := ax_bd (sh_ax hsh1).2; omega
 have hL2 : L2 <= 4096 := by have := ax_bd (sh_ax hsh2).2; omega
 have SHP := Lib.hid (fun wz q => shape_new (arrC ch1 ((r1 : Int) - 1) (dm S1 r1) na1 nn1 nc1 ta1 tn1 tc1) S1 r1 ch1 L1 g1 P1 Q1 wz q hr1)
 have SE := Lib.hid (fun a c1 wz q q2 => iselected_any a r1 c1 S1 o sa m c D wz q q2 hsh1 hok hm ho)
 have HS := Lib.hid hs
 obtain ⟨R, hR⟩ : ∃ x, ixR D r1 = x := ⟨_, rfl⟩
 obtain ⟨T, hT⟩ : ∃ x, ixT S1 D r1 = x := ⟨_, rfl⟩
 obtain ⟨M, hM⟩ : ∃ x, (itm (lnF (ixN S1 D)) r1).toNat = x := ⟨_, rfl⟩
 obtain ⟨G, hG⟩ : ∃ x, pkG S1 (lnF (ixN S1 D)) r1 (ixF o D) = x := ⟨_, rfl⟩
 obtain ⟨E, hE⟩ : ∃ x, ixE o S1 r1 D m = x := ⟨_, rfl⟩
 rw [hR, hT, hM, hG, hE] at SE
 rw [hR, hT, hM, hG, hE]
 unfold SeTold at SE
 obtain ⟨F, hF⟩ : ∃ x, fiE r2 S2 R T = x := ⟨_, rfl⟩
 rw [hF]
 have FT := Lib.hid (fun a1 c1 wz q k => ifits_any (arrC ch2 ((r2 : Int) - 1) (dm S2 r2) na2 nn2 nc2 ta2 tn2 tc2) S2 r2 ch2 L2 g2 P2 Q2 a1 R c1 T wz q hr2 k)
 rw [hF] at FT
 have HZ : Hid (E = 0 -> (∀ j, j < M -> 0 <= G j /\ G j < L1) /\ M <= 4096 /\ (F = 0 -> M ≠ 0 -> 0 < L2)) := Lib.hid (fun e => by
  rw [← hE] at e
  obtain ⟨rfl, _, q3, q⟩ := ix_zero e
  obtain ⟨q1, q2⟩ := ix_ax (fun j hj => ⟨hok j hj, (ax_le4 hsh1 hj).1⟩) q
  have := ax_bd q1
  refine ⟨fun j hj => ?_, by omega, fun hf hm0 => ?_⟩
  · rw [← hG]
    exact pk_lt hsh1 hc1 (ix_in q3) q1 (by omega)
  · rw [← hF] at hf
    unfold fiE at hf
    by_cases h0 : r2 = 0
    · subst h0
      have : itm S2 0 = 1 := rfl
      omega
    · rw [if_neg h0] at hf
      by_cases h1 : r2 = R
      · rw [if_neg (by omega)] at hf
        split at hf
        · rename_i hsb
          have e1 := itm_congr (sameB_iff.1 hsb)
          rw [← h1] at hR
          rw [hR, hT] at q2
          omega
        · cases hf
      · rw [if_pos h1] at hf; cases hf)
 obtain ⟨eC, heC⟩ : ∃ f, puF G (fun j => g2 (j % L2)) M g1 = f := ⟨_, rfl⟩
 obtain ⟨eP, heP⟩ : ∃ f, puF G (fun j => P2 (j % L2)) M P1 = f := ⟨_, rfl⟩
 obtain ⟨eQ, heQ⟩ : ∃ f, puF G (fun j => Q2 (j % L2)) M Q1 = f := ⟨_, rfl⟩
 rw [heC, heP, heQ]
 have BB0 := Lib.hid ((((Bag.start w).newRow (arrC ch1 ((r1 : Int) - 1) (dm S1 r1) na1 nn1 nc1 ta1 tn1 tc1) 36).newRow (arrC ch2 ((r2 : Int) - 1) (dm S2 r2) na2 nn2 nc2 ta2 tn2 tc2) 36).newRow zerC 36)
 simp only [World.size_alloc] at BB0
 have BB := Lib.hid (show Bag w (fun y => Row y (w.heap.size + 1 + 1) 36 zerC /\ Row y (w.heap.size + 1) 36 (arrC ch2 ((r2 : Int) - 1) (dm S2 r2) na2 nn2 nc2 ta2 tn2 tc2) /\ Row y w.heap.size 36 (arrC ch1 ((r1 : Int) - 1) (dm S1 r1) na1 nn1 nc1 ta1 tn1 tc1) /\ True) _ from ⟨BB0.out.below, fun a b hb ⟨q1, q2, q3, _⟩ => ⟨q1.below hb, q2.below hb, q3.below hb, trivial⟩, BB0.out.now.1, BB0.out.now.2.1, BB0.out.now.2.2.1, trivial⟩)
 have HR := Lib.hid BB.out.now.2.2.1
 clear h1 h2 hs hok hR hT hM hG hE hF BB0
 unfold arrC
 go_enter Tryz.func16, Tryz.ntmps16
 go_wp2_with (refine ld_arr rfl (.tmp 4) rfl w.heap.size rfl HR.out ?_)
 go_at_call 40
 (refine (SHP.out _ (H1.out.below BB.out.below)).mono ?_)
 rintro e w2 ⟨g9, c9, rfl, _, _, hk2, hb2⟩
 have BB := Lib.hid (BB.out.go hb2)
 have HK2 := Lib.hid hk2
 clear hk2 hb2 HR
 go_wp2_with fail
 go_at_call 39
 (with_reducible refine (SE.out _ _ _ HK2.out (HS.out.below BB.out.below)).mono ?_)
 rintro e w3 ⟨a3, m3, c3, a4, m4, c4, rfl, h3, hb3⟩
 have BB := Lib.hid (BB.out.go hb3)
 clear hb3
 by_cases h0 : E = 0
 · obtain ⟨rfl, k3, rfl, k4⟩ := h3 h0
   subst h0
   obtain ⟨hG, hM4, hL2p⟩ := HZ.out rfl
   have HK3 := Lib.hid k3
   have HK4 := Lib.hid k4
   have hlk4 := k4.len
   have HR := Lib.hid BB.out.now.2.1
   have HGG := Lib.hid hG
   clear h3 k3 k4 HZ SE hG
   go_wp2_with (refine ld_arr rfl (.tmp 5) rfl (w.heap.size + 1) rfl HR.out ?_)
   go_at_call 48
   (with_reducible refine (FT.out _ _ _ (H2.out.below BB.out.below) HK3.out).mono ?_)
   rintro e w4 ⟨rfl, hb4⟩
   have BB := Lib.hid (BB.out.go hb4)
   have HK4 := Lib.hid (HK4.out.below hb4)
   clear hb4 HR
   by_cases hf : F = 0
   · subst hf
     by_cases hm0 : m4 = 0
     · have dz : ((m4 : Int) == 0) = true := beq_iff_eq.2 (by omega)
       have HR := Lib.hid BB.out.now.2.2.1
       have HR2 := Lib.hid BB.out.now.1
       have HE := Lib.hid (show MoTold (seE 0 0 m4 ch1 ch2) S1 r1 ch1 L1 eC eP eQ w (w4.setRow (w.heap.size + 1 + 1) (arrC ch1 ((r1 : Int) - 1) (dm S1 r1) na1 nn1 nc1 ta1 tn1 tc1)) (.returned (.tuple #[.agg (arrC ch1 ((r1 : Int) - 1) (dm S1 r1) na1 nn1 nc1 ta1 tn1 tc1), .int .i64 0])) from by
        have e1 : seE 0 0 m4 ch1 ch2 = 0 := by unfold seE; rw [if_neg (by decide), if_neg (by decide), if_pos hm0]
        rw [e1, ← heC, ← heP, ← heQ, hm0]
        exact MoTold.yes ((H1.out.below BB.out.below).store HR2.out IsA.zer _) (below_put BB.out.below (show w.heap.size <= w.heap.size + 1 + 1 by omega) _))
       have HIA : Hid (IsA (arrC ch1 ((r1 : Int) - 1) (dm S1 r1) na1 nn1 nc1 ta1 tn1 tc1)) := Lib.hid ⟨_, _, _, _, _, _, _, _, _, rfl⟩
       clear hm0 heC heP heQ hL2p
       go_wp2_with (first
        | (refine ld_arr rfl (.tmp 4) rfl w.heap.size rfl HR.out ?_)
        | (refine stA rfl (.tmp 8) (.tmp 37) rfl (w.heap.size + 1 + 1) rfl _ rfl HIA.out HR2.out IsA.zer ?_))
       exact bodyPost_ret (res_arr2 Tryz.results16 rfl rfl (HR2.out.put _) HIA.out.size) rfl HE.out
     · have dz : ((m4 : Int) == 0) = false := beq_eq_false_iff_ne.2 (by omega)
       have hM0 : 0 < m4 := by omega
       have hL2q := hL2p rfl hm0
       clear hL2p
       have hL1p : 0 < L1 := by have := HGG.out 0 hM0; omega
       have IC1 := Lib.hid (fun wz => isChar_any ch1 ((r1 : Int) - 1) (dm S1 r1) na1 nn1 nc1 ta1 tn1 tc1 wz)
       have IC2 := Lib.hid (fun wz => isChar_any ch2 ((r2 : Int) - 1) (dm S2 r2) na2 nn2 nc2 ta2 tn2 tc2 wz)
       unfold arrC at IC1 IC2
       obtain ⟨WW, hWW⟩ : ∃ y, y = w4 := ⟨_, rfl⟩
       subst hWW
       have HSF : Hid (∀ y, Below WW.heap.size WW y -> y.cell? ⟨w.heap.size, 0, none⟩ = some (.bool ch1) /\ y.cell? ⟨w.heap.size, 1, none⟩ = some (.int .i64 ((r1 : Int) - 1)) /\ y.cell? ⟨w.heap.size, 2, none⟩ = some (.int .i64 (dm S1 r1 0)) /\ y.cell? ⟨w.heap.size, 3, none⟩ = some (.int .i64 (dm S1 r1 1)) /\ y.cell? ⟨w.heap.size, 4, none⟩ = some (.int .i64 (dm S1 r1 2)) /\ y.cell? ⟨w.heap.size, 5, none⟩ = some (.int .i64 (dm S1 r1 3)) /\ y.cell? ⟨w.heap.size, 6, none⟩ = some (.int .i64 (dm S1 r1 4)) /\ y.cell? ⟨w.heap.size, 7, none⟩ = some (.int .i64 (dm S1 r1 5)) /\ y.cell? ⟨w.heap.size, 8, none⟩ = some (.int .i64 (dm S1 r1 6)) /\ y.cell? ⟨w.heap.size, 9, none⟩ = some (.int .i64 (dm S1 r1 7)) /\ y.cell? ⟨w.heap.size, 10, none⟩ = some (.slice na1 nn1 nc1) /\ y.cell? ⟨w.heap.size, 11, none⟩ = some (.slice ta1 tn1 tc1) /\ y.cell? ⟨w.heap.size + 1, 0, none⟩ = some (.bool ch2) /\ y.cell? ⟨w.heap.size + 1, 1, none⟩ = some (.int .i64 ((r2 : Int) - 1)) /\ y.cell? ⟨w.heap.size + 1, 2, none⟩ = some (.int .i64 (dm S2 r2 0)) /\ y.cell? ⟨w.heap.size + 1, 3, none⟩ = some (.int .i64 (dm S2 r2 1)) /\ y.cell? ⟨w.heap.size + 1, 4, none⟩ = some (.int .i64 (dm S2 r2 2)) /\ y.cell? ⟨w.heap.size + 1, 5, none⟩ = some (.int .i64 (dm S2 r2 3)) /\ y.cell? ⟨w.heap.size + 1, 6, none⟩ = some (.int .i64 (dm S2 r2 4)) /\ y.cell? ⟨w.heap.size + 1, 7, none⟩ = some (.int .i64 (dm S2 r2 5)) /\ y.cell? ⟨w.heap.size + 1, 8, none⟩ = some (.int .i64 (dm S2 r2 6)) /\ y.cell? ⟨w.heap.size + 1, 9, none⟩ = some (.int .i64 (dm S2 r2 7)) /\ y.cell? ⟨w.heap.size + 1, 10, none⟩ = some (.slice na2 nn2 nc2) /\ y.cell? ⟨w.heap.size + 1, 11, none⟩ = some (.slice ta2 tn2 tc2)) := Lib.hid (fun y hb => by
        have q1 := BB.out.now.2.2.1.below hb
        have q2 := BB.out.now.2.1.below hb
        unfold arrC at q1 q2
        exact ⟨q1.cell 0, q1.cell 1, q1.cell 2, q1.cell 3, q1.cell 4, q1.cell 5, q1.cell 6, q1.cell 7, q1.cell 8, q1.cell 9, q1.cell 10, q1.cell 11, q2.cell 0, q2.cell 1, q2.cell 2, q2.cell 3, q2.cell 4, q2.cell 5, q2.cell 6, q2.cell 7, q2.cell 8, q2.cell 9, q2.cell 10, q2.cell 11⟩)
       have BD0 : Hid (Below WW.heap.size WW WW.drew) := Lib.hid (Below.refl _ WW).drew
       by_cases hcc : ch1 = ch2
       · subst hcc
         have e1 : seE 0 0 m4 ch1 ch1 = 0 := by unfold seE; rw [if_neg (by decide), if_neg (by decide), if_neg hm0, if_pos rfl]
         have HE1 := Lib.hid e1
         have d9 : (ch1 != ch1) = false := bne_self_eq_false _
         clear e1 hm0
         cases ch1 with
         | true =>
          have HSZ2 : Hid (w.heap.size + 1 + 1 < WW.heap.size /\ True) := Lib.hid ⟨BB.out.now.1.lt, trivial⟩
          go_wp2_with fail
          go_region_held3 (fun y => y.cell? ⟨w.heap.size, 0, none⟩ = some (.bool true) /\ y.cell? ⟨w.heap.size, 1, none⟩ = some (.int .i64 ((r1 : Int) - 1)) /\ y.cell? ⟨w.heap.size, 2, none⟩ = some (.int .i64 (dm S1 r1 0)) /\ y.cell? ⟨w.heap.size, 3, none⟩ = some (.int .i64 (dm S1 r1 1)) /\ y.cell? ⟨w.heap.size, 4, none⟩ = some (.int .i64 (dm S1 r1 2)) /\ y.cell? ⟨w.heap.size, 5, none⟩ = some (.int .i64 (dm S1 r1 3)) /\ y.cell? ⟨w.heap.size, 6, none⟩ = some (.int .i64 (dm S1 r1 4)) /\ y.cell? ⟨w.heap.size, 7, none⟩ = some (.int .i64 (dm S1 r1 5)) /\ y.cell? ⟨w.heap.size, 8, none⟩ = some (.int .i64 (dm S1 r1 6)) /\ y.cell? ⟨w.heap.size, 9, none⟩ = some (.int .i64 (dm S1 r1 7)) /\ y.cell? ⟨w.heap.size, 10, none⟩ = some (.slice na1 nn1 nc1) /\ y.cell? ⟨w.heap.size, 11, none⟩ = some (.slice ta1 tn1 tc1) /\ y.cell? ⟨w.heap.size + 1, 0, none⟩ = some (.bool true) /\ y.cell? ⟨w.heap.size + 1, 1, none⟩ = some (.int .i64 ((r2 : Int) - 1)) /\ y.cell? ⟨w.heap.size + 1, 2, none⟩ = some (.int .i64 (dm S2 r2 0)) /\ y.cell? ⟨w.heap.size + 1, 3, none⟩ = some (.int .i64 (dm S2 r2 1)) /\ y.cell? ⟨w.heap.size + 1, 4, none⟩ = some (.int .i64 (dm S2 r2 2)) /\ y.cell? ⟨w.heap.size + 1, 5, none⟩ = some (.int .i64 (dm S2 r2 3)) /\ y.cell? ⟨w.heap.size + 1, 6, none⟩ = some (.int .i64 (dm S2 r2 4)) /\ y.cell? ⟨w.heap.size + 1, 7, none⟩ = some (.int .i64 (dm S2 r2 5)) /\ y.cell? ⟨w.heap.size + 1, 8, none⟩ = some (.int .i64 (dm S2 r2 6)) /\ y.cell? ⟨w.heap.size + 1, 9, none⟩ = some (.int .i64 (dm S2 r2 7)) /\ y.cell? ⟨w.heap.size + 1, 10, none⟩ = some (.slice na2 nn2 nc2) /\ y.cell? ⟨w.heap.size + 1, 11, none⟩ = some (.slice ta2 tn2 tc2))
           (first
             | with_reducible exact HSF.out _ BD0.out
             | (have hq := HB6.out; with_reducible exact HSF.out _ hq)
             | (have hq := HB7.out; with_reducible exact HSF.out _ hq))
           (first
             | (go_at_call 49; (refine (IC1.out _).mono ?_); rintro e w6 ⟨rfl, hb6⟩; have HB6 : Hid (Below WW.heap.size WW w6) := Lib.hid (BD0.out.trans (hb6.mono BD0.out.size)))
             | (go_at_call 49; (refine (IC2.out _).mono ?_); rintro e w7 ⟨rfl, hb7⟩; have HB7 : Hid (Below WW.heap.size WW w7) := Lib.hid (HB6.out.trans (hb7.mono HB6.out.size))))
          have HK4 := Lib.hid (HK4.out.below HB7.out)
          have BB := Lib.hid ((BB.out.go HB7.out).newRow zerC 36)
          have HR := Lib.hid BB.out.now.2.2.2.1
          have HK4 : Hid (KRow (w7.alloc (.cells zerC 36)) .i64 a4 m4 c4 G) := Lib.hid (HK4.out.below ((Below.refl _ _).alloc (Nat.le_refl _) _))
          unfold zerC arrC at HR HK4 BB
          have HSZ2 : Hid (w.heap.size + 1 + 1 < w7.heap.size) := Lib.hid (by have := HSZ2.out.1; have := HB7.out.size; omega)
          clear HSF BD0 hb6 hb7 HB6 HB7
          go_wp2_with (refine ld_arr rfl (.tmp 4) rfl w.heap.size rfl HR.out ?_)
          go_at_call 49
          (refine (IC1.out _).mono ?_)
          rintro e WW ⟨rfl, hb8⟩
          have BB := Lib.hid (BB.out.go hb8)
          have HK4 := Lib.hid (HK4.out.below hb8)
          clear hb8 HR
          have BB : Hid (Bag w (fun y => Row y w7.heap.size 36 zerC /\ Row y (w.heap.size + 1 + 1) 36 zerC /\ Row y (w.heap.size + 1) 36 (arrC true ((r2 : Int) - 1) (dm S2 r2) na2 nn2 nc2 ta2 tn2 tc2) /\ Row y w.heap.size 36 (arrC true ((r1 : Int) - 1) (dm S1 r1) na1 nn1 nc1 ta1 tn1 tc1) /\ True) WW) := Lib.hid ⟨BB.out.below, fun a b hb ⟨q0, q1, q2, q3, _⟩ => ⟨q0.below hb, q1.below hb, q2.below hb, q3.below hb, trivial⟩, BB.out.now⟩
          have SHW : Hid (∀ y, Below WW.heap.size WW y -> Calls Tryz.prog 40 #[.agg (arrC true ((r1 : Int) - 1) (dm S1 r1) na1 nn1 nc1 ta1 tn1 tc1)] y fun e w' => ∃ g c', e = .returned (.slice (some ⟨g, 0, none⟩) r1 c') /\ y.heap.size <= g /\ g < w'.heap.size /\ KRow w' .i64 (some ⟨g, 0, none⟩) r1 c' S1 /\ Below y.heap.size y w') := Lib.hid (fun y hb => SHP.out y ((H1.out.below BB.out.below).below hb))
          have RU1 : Hid (∀ y, Below WW.heap.size WW y -> Calls Tryz.prog 52 #[.agg (arrC true ((r1 : Int) - 1) (dm S1 r1) na1 nn1 nc1 ta1 tn1 tc1)] y fun e w' => ∃ b c, e = .returned (.slice (some ⟨b, 0, none⟩) L1 c) /\ y.heap.size <= b /\ CBox w' b L1 g1 /\ L1 <= c /\ c <= maxLen /\ Below y.heap.size y w') := Lib.hid (fun y hb => runes8_new _ S1 r1 L1 g1 P1 Q1 y ((H1.out.below BB.out.below).below hb) hL1p (by omega))
          have RU2 : Hid (∀ y, Below WW.heap.size WW y -> Calls Tryz.prog 52 #[.agg (arrC true ((r2 : Int) - 1) (dm S2 r2) na2 nn2 nc2 ta2 tn2 tc2)] y fun e w' => ∃ b c, e = .returned (.slice (some ⟨b, 0, none⟩) L2 c) /\ y.heap.size <= b /\ CBox w' b L2 g2 /\ L2 <= c /\ c <= maxLen /\ Below y.heap.size y w') := Lib.hid (fun y hb => runes8_new _ S2 r2 L2 g2 P2 Q2 y ((H2.out.below BB.out.below).below hb) hL2q (by omega))
          have MK := Lib.hid (fun a c la lc wz (k1 : KRow wz .i64 a r1 c S1) (k2 : KRow wz .i32 la L1 lc eC) => chars_any a r1 c S1 la L1 lc eC wz k1 (fun j hj => by have := ax_le4 hsh1 hj; omega) k2 (by omega))
          unfold CharsTold at MK
          rw [hsh1, decide_eq_true hc1] at MK
          have HSZ : Hid (w.heap.size + 1 + 1 < WW.heap.size /\ w7.heap.size < WW.heap.size) := Lib.hid ⟨BB.out.now.2.1.lt, BB.out.now.1.lt⟩
          have HSF : Hid (∀ y, Below WW.heap.size WW y -> y.cell? ⟨w.heap.size, 0, none⟩ = some (.bool true) /\ y.cell? ⟨w.heap.size, 1, none⟩ = some (.int .i64 ((r1 : Int) - 1)) /\ y.cell? ⟨w.heap.size, 2, none⟩ = some (.int .i64 (dm S1 r1 0)) /\ y.cell? ⟨w.heap.size, 3, none⟩ = some (.int .i64 (dm S1 r1 1)) /\ y.cell? ⟨w.heap.size, 4, none⟩ = some (.int .i64 (dm S1 r1 2)) /\ y.cell? ⟨w.heap.size, 5, none⟩ = some (.int .i64 (dm S1 r1 3)) /\ y.cell? ⟨w.heap.size, 6, none⟩ = some (.int .i64 (dm S1 r1 4)) /\ y.cell? ⟨w.heap.size, 7, none⟩ = some (.int .i64 (dm S1 r1 5)) /\ y.cell? ⟨w.heap.size, 8, none⟩ = some (.int .i64 (dm S1 r1 6)) /\ y.cell? ⟨w.heap.size, 9, none⟩ = some (.int .i64 (dm S1 r1 7)) /\ y.cell? ⟨w.heap.size, 10, none⟩ = some (.slice na1 nn1 nc1) /\ y.cell? ⟨w.heap.size, 11, none⟩ = some (.slice ta1 tn1 tc1) /\ y.cell? ⟨w.heap.size + 1, 0, none⟩ = some (.bool true) /\ y.cell? ⟨w.heap.size + 1, 1, none⟩ = some (.int .i64 ((r2 : Int) - 1)) /\ y.cell? ⟨w.heap.size + 1, 2, none⟩ = some (.int .i64 (dm S2 r2 0)) /\ y.cell? ⟨w.heap.size + 1, 3, none⟩ = some (.int .i64 (dm S2 r2 1)) /\ y.cell? ⟨w.heap.size + 1, 4, none⟩ = some (.int .i64 (dm S2 r2 2)) /\ y.cell? ⟨w.heap.size + 1, 5, none⟩ = some (.int .i64 (dm S2 r2 3)) /\ y.cell? ⟨w.heap.size + 1, 6, none⟩ = some (.int .i64 (dm S2 r2 4)) /\ y.cell? ⟨w.heap.size + 1, 7, none⟩ = some (.int .i64 (dm S2 r2 5)) /\ y.cell? ⟨w.heap.size + 1, 8, none⟩ = some (.int .i64 (dm S2 r2 6)) /\ y.cell? ⟨w.heap.size + 1, 9, none⟩ = some (.int .i64 (dm S2 r2 7)) /\ y.cell? ⟨w.heap.size + 1, 10, none⟩ = some (.slice na2 nn2 nc2) /\ y.cell? ⟨w.heap.size + 1, 11, none⟩ = some (.slice ta2 tn2 tc2)) := Lib.hid (fun y hb => by
           have q1 := BB.out.now.2.2.2.1.below hb
           have q2 := BB.out.now.2.2.1.below hb
           unfold arrC at q1 q2
           exact ⟨q1.cell 0, q1.cell 1, q1.cell 2, q1.cell 3, q1.cell 4, q1.cell 5, q1.cell 6, q1.cell 7, q1.cell 8, q1.cell 9, q1.cell 10, q1.cell 11, q2.cell 0, q2.cell 1, q2.cell 2, q2.cell 3, q2.cell 4, q2.cell 5, q2.cell 6, q2.cell 7, q2.cell 8, q2.cell 9, q2.cell 10, q2.cell 11⟩)
          have HSP : Hid (∀ y a0 a1 a2 a3 a4 a5 a6 a7 a8 a9 a10 a11, Below WW.heap.size WW y -> ((((((((((((y.setCell ⟨w7.heap.size, 0, none⟩ a0).setCell ⟨w7.heap.size, 1, none⟩ a1).setCell ⟨w7.heap.size, 2, none⟩ a2).setCell ⟨w7.heap.size, 3, none⟩ a3).setCell ⟨w7.heap.size, 4, none⟩ a4).setCell ⟨w7.heap.size, 5, none⟩ a5).setCell ⟨w7.heap.size, 6, none⟩ a6).setCell ⟨w7.heap.size, 7, none⟩ a7).setCell ⟨w7.heap.size, 8, none⟩ a8).setCell ⟨w7.heap.size, 9, none⟩ a9).setCell ⟨w7.heap.size, 10, none⟩ a10).setCell ⟨w7.heap.size, 11, none⟩ a11).cell? ⟨w.heap.size, 0, none⟩ = some (.bool true) /\ ((((((((((((y.setCell ⟨w7.heap.size, 0, none⟩ a0).setCell ⟨w7.heap.size, 1, none⟩ a1).setCell ⟨w7.heap.size, 2, none⟩ a2).setCell ⟨w7.heap.size, 3, none⟩ a3).setCell ⟨w7.heap.size, 4, none⟩ a4).setCell ⟨w7.heap.size, 5, none⟩ a5).setCell ⟨w7.heap.size, 6, none⟩ a6).setCell ⟨w7.heap.size, 7, none⟩ a7).setCell ⟨w7.heap.size, 8, none⟩ a8).setCell ⟨w7.heap.size, 9, none⟩ a9).setCell ⟨w7.heap.size, 10, none⟩ a10).setCell ⟨w7.heap.size, 11, none⟩ a11).cell? ⟨w.heap.size, 1, none⟩ = some (.int .i64 ((r1 : Int) - 1)) /\ ((((((((((((y.setCell ⟨w7.heap.size, 0, none⟩ a0).setCell ⟨w7.heap.size, 1, none⟩ a1).setCell ⟨w7.heap.size, 2, none⟩ a2).setCell ⟨w7.heap.size, 3, none⟩ a3).setCell ⟨w7.heap.size, 4, none⟩ a4).setCell ⟨w7.heap.size, 5, none⟩ a5).setCell ⟨w7.heap.size, 6, none⟩ a6).setCell ⟨w7.heap.size, 7, none⟩ a7).setCell ⟨w7.heap.size, 8, none⟩ a8).setCell ⟨w7.heap.size, 9, none⟩ a9).setCell ⟨w7.heap.size, 10, none⟩ a10).setCell ⟨w7.heap.size, 11, none⟩ a11).cell? ⟨w.heap.size, 2, none⟩ = some (.int .i64 (dm S1 r1 0)) /\ ((((((((((((y.setCell ⟨w7.heap.size, 0, none⟩ a0).setCell ⟨w7.heap.size, 1, none⟩ a1).setCell ⟨w7.heap.size, 2, none⟩ a2).setCell ⟨w7.heap.size, 3, none⟩ a3).setCell ⟨w7.heap.size, 4, none⟩ a4).setCell ⟨w7.heap.size, 5, none⟩ a5).setCell ⟨w7.heap.size, 6, none⟩ a6).setCell ⟨w7.heap.size, 7, none⟩ a7).setCell ⟨w7.heap.size, 8, none⟩ a8).setCell ⟨w7.heap.size, 9, none⟩ a9).setCell ⟨w7.heap.size, 10, none⟩ a10).setCell ⟨w7.heap.size, 11, none⟩ a11).cell? ⟨w.heap.size, 3, none⟩ = some (.int .i64 (dm S1 r1 1)) /\ ((((((((((((y.setCell ⟨w7.heap.size, 0, none⟩ a0).setCell ⟨w7.heap.size, 1, none⟩ a1).setCell ⟨w7.heap.size, 2, none⟩ a2).setCell ⟨w7.heap.size, 3, none⟩ a3).setCell ⟨w7.heap.size, 4, none⟩ a4).setCell ⟨w7.heap.size, 5, none⟩ a5).setCell ⟨w7.heap.size, 6, none⟩ a6).setCell ⟨w7.heap.size, 7, none⟩ a7).setCell ⟨w7.heap.size, 8, none⟩ a8).setCell ⟨w7.heap.size, 9, none⟩ a9).setCell ⟨w7.heap.size, 10, none⟩ a10).setCell ⟨w7.heap.size, 11, none⟩ a11).cell? ⟨w.heap.size, 4, none⟩ = some (.int .i64 (dm S1 r1 2)) /\ ((((((((((((y.setCell ⟨w7.heap.size, 0, none⟩ a0).setCell ⟨w7.heap.size, 1, none⟩ a1).setCell ⟨w7.heap.size, 2, none⟩ a2).setCell ⟨w7.heap.size, 3, none⟩ a3).setCell ⟨w7.heap.size, 4, none⟩ a4).setCell ⟨w7.heap.size, 5, none⟩ a5).setCell ⟨w7.heap.size, 6, none⟩ a6).setCell ⟨w7.heap.size, 7, none⟩ a7).setCell ⟨w7.heap.size, 8, none⟩ a8).setCell ⟨w7.heap.size, 9, none⟩ a9).setCell ⟨w7.heap.size, 10, none⟩ a10).setCell ⟨w7.heap.size, 11, none⟩ a11).cell? ⟨w.heap.size, 5, none⟩ = some (.int .i64 (dm S1 r1 3)) /\ ((((((((((((y.setCell ⟨w7.heap.size, 0, none⟩ a0).setCell ⟨w7.heap.size, 1, none⟩ a1).setCell ⟨w7.heap.size, 2, none⟩ a2).setCell ⟨w7.heap.size, 3, none⟩ a3).setCell ⟨w7.heap.size, 4, none⟩ a4).setCell ⟨w7.heap.size, 5, none⟩ a5).setCell ⟨w7.heap.size, 6, none⟩ a6).setCell ⟨w7.heap.size, 7, none⟩ a7).setCell ⟨w7.heap.size, 8, none⟩ a8).setCell ⟨w7.heap.size, 9, none⟩ a9).setCell ⟨w7.heap.size, 10, none⟩ a10).setCell ⟨w7.heap.size, 11, none⟩ a11).cell? ⟨w.heap.size, 6, none⟩ = some (.int .i64 (dm S1 r1 4)) /\ ((((((((((((y.setCell ⟨w7.heap.size, 0, none⟩ a0).setCell ⟨w7.heap.size, 1, none⟩ a1).setCell ⟨w7.heap.size, 2, none⟩ a2).setCell ⟨w7.heap.size, 3, none⟩ a3).setCell ⟨w7.heap.size, 4, none⟩ a4).setCell ⟨w7.heap.size, 5, none⟩ a5).setCell ⟨w7.heap.size, 6, none⟩ a6).setCell ⟨w7.heap.size, 7, none⟩ a7).setCell ⟨w7.heap.size, 8, none⟩ a8).setCell ⟨w7.heap.size, 9, none⟩ a9).setCell ⟨w7.heap.size, 10, none⟩ a10).setCell ⟨w7.heap.size, 11, none⟩ a11).cell? ⟨w.heap.size, 7, none⟩ = some (.int .i64 (dm S1 r1 5)) /\ ((((((((((((y.setCell ⟨w7.heap.size, 0, none⟩ a0).setCell ⟨w7.heap.size, 1, none⟩ a1).setCell ⟨w7.heap.size, 2, none⟩ a2).setCell ⟨w7.heap.size, 3, none⟩ a3).setCell ⟨w7.heap.size, 4, none⟩ a4).setCell ⟨w7.heap.size, 5, none⟩ a5).setCell ⟨w7.heap.size, 6, none⟩ a6).setCell ⟨w7.heap.size, 7, none⟩ a7).setCell ⟨w7.heap.size, 8, none⟩ a8).setCell ⟨w7.heap.size, 9, none⟩ a9).setCell ⟨w7.heap.size, 10, none⟩ a10).setCell ⟨w7.heap.size, 11, none⟩ a11).cell? ⟨w.heap.size, 8, none⟩ = some (.int .i64 (dm S1 r1 6)) /\ ((((((((((((y.setCell ⟨w7.heap.size, 0, none⟩ a0).setCell ⟨w7.heap.size, 1, none⟩ a1).setCell ⟨w7.heap.size, 2, none⟩ a2).setCell ⟨w7.heap.size, 3, none⟩ a3).setCell ⟨w7.heap.size, 4, none⟩ a4).setCell ⟨w7.heap.size, 5, none⟩ a5).setCell ⟨w7.heap.size, 6, none⟩ a6).setCell ⟨w7.heap.size, 7, none⟩ a7).setCell ⟨w7.heap.size, 8, none⟩ a8).setCell ⟨w7.heap.size, 9, none⟩ a9).setCell ⟨w7.heap.size, 10, none⟩ a10).setCell ⟨w7.heap.size, 11, none⟩ a11).cell? ⟨w.heap.size, 9, none⟩ = some (.int .i64 (dm S1 r1 7)) /\ ((((((((((((y.setCell ⟨w7.heap.size, 0, none⟩ a0).setCell ⟨w7.heap.size, 1, none⟩ a1).setCell ⟨w7.heap.size, 2, none⟩ a2).setCell ⟨w7.heap.size, 3, none⟩ a3).setCell ⟨w7.heap.size, 4, none⟩ a4).setCell ⟨w7.heap.size, 5, none⟩ a5).setCell ⟨w7.heap.size, 6, none⟩ a6).setCell ⟨w7.heap.size, 7, none⟩ a7).setCell ⟨w7.heap.size, 8, none⟩ a8).setCell ⟨w7.heap.size, 9, none⟩ a9).setCell ⟨w7.heap.size, 10, none⟩ a10).setCell ⟨w7.heap.size, 11, none⟩ a11).cell? ⟨w.heap.size, 10, none⟩ = some (.slice na1 nn1 nc1) /\ ((((((((((((y.setCell ⟨w7.heap.size, 0, none⟩ a0).setCell ⟨w7.heap.size, 1, none⟩ a1).setCell ⟨w7.heap.size, 2, none⟩ a2).setCell ⟨w7.heap.size, 3, none⟩ a3).setCell ⟨w7.heap.size, 4, none⟩ a4).setCell ⟨w7.heap.size, 5, none⟩ a5).setCell ⟨w7.heap.size, 6, none⟩ a6).setCell ⟨w7.heap.size, 7, none⟩ a7).setCell ⟨w7.heap.size, 8, none⟩ a8).setCell ⟨w7.heap.size, 9, none⟩ a9).setCell ⟨w7.heap.size, 10, none⟩ a10).setCell ⟨w7.heap.size, 11, none⟩ a11).cell? ⟨w.heap.size, 11, none⟩ = some (.slice ta1 tn1 tc1) /\ ((((((((((((y.setCell ⟨w7.heap.size, 0, none⟩ a0).setCell ⟨w7.heap.size, 1, none⟩ a1).setCell ⟨w7.heap.size, 2, none⟩ a2).setCell ⟨w7.heap.size, 3, none⟩ a3).setCell ⟨w7.heap.size, 4, none⟩ a4).setCell ⟨w7.heap.size, 5, none⟩ a5).setCell ⟨w7.heap.size, 6, none⟩ a6).setCell ⟨w7.heap.size, 7, none⟩ a7).setCell ⟨w7.heap.size, 8, none⟩ a8).setCell ⟨w7.heap.size, 9, none⟩ a9).setCell ⟨w7.heap.size, 10, none⟩ a10).setCell ⟨w7.heap.size, 11, none⟩ a11).cell? ⟨w.heap.size + 1, 0, none⟩ = some (.bool true) /\ ((((((((((((y.setCell ⟨w7.heap.size, 0, none⟩ a0).setCell ⟨w7.heap.size, 1, none⟩ a1).setCell ⟨w7.heap.size, 2, none⟩ a2).setCell ⟨w7.heap.size, 3, none⟩ a3).setCell ⟨w7.heap.size, 4, none⟩ a4).setCell ⟨w7.heap.size, 5, none⟩ a5).setCell ⟨w7.heap.size, 6, none⟩ a6).setCell ⟨w7.heap.size, 7, none⟩ a7).setCell ⟨w7.heap.size, 8, none⟩ a8).setCell ⟨w7.heap.size, 9, none⟩ a9).setCell ⟨w7.heap.size, 10, none⟩ a10).setCell ⟨w7.heap.size, 11, none⟩ a11).cell? ⟨w.heap.size + 1, 1, none⟩ = some (.int .i64 ((r2 : Int) - 1)) /\ ((((((((((((y.setCell ⟨w7.heap.size, 0, none⟩ a0).setCell ⟨w7.heap.size, 1, none⟩ a1).setCell ⟨w7.heap.size, 2, none⟩ a2).setCell ⟨w7.heap.size, 3, none⟩ a3).setCell ⟨w7.heap.size, 4, none⟩ a4).setCell ⟨w7.heap.size, 5, none⟩ a5).setCell ⟨w7.heap.size, 6, none⟩ a6).setCell ⟨w7.heap.size, 7, none⟩ a7).setCell ⟨w7.heap.size, 8, none⟩ a8).setCell ⟨w7.heap.size, 9, none⟩ a9).setCell ⟨w7.heap.size, 10, none⟩ a10).setCell ⟨w7.heap.size, 11, none⟩ a11).cell? ⟨w.heap.size + 1, 2, none⟩ = some (.int .i64 (dm S2 r2 0)) /\ ((((((((((((y.setCell ⟨w7.heap.size, 0, none⟩ a0).setCell ⟨w7.heap.size, 1, none⟩ a1).setCell ⟨w7.heap.size, 2, none⟩ a2).setCell ⟨w7.heap.size, 3, none⟩ a3).setCell ⟨w7.heap.size, 4, none⟩ a4).setCell ⟨w7.heap.size, 5, none⟩ a5).setCell ⟨w7.heap.size, 6, none⟩ a6).setCell ⟨w7.heap.size, 7, none⟩ a7).setCell ⟨w7.heap.size, 8, none⟩ a8).setCell ⟨w7.heap.size, 9, none⟩ a9).setCell ⟨w7.heap.size, 10, none⟩ a10).setCell ⟨w7.heap.size, 11, none⟩ a11).cell? ⟨w.heap.size + 1, 3, none⟩ = some (.int .i64 (dm S2 r2 1)) /\ ((((((((((((y.setCell ⟨w7.heap.size, 0, none⟩ a0).setCell ⟨w7.heap.size, 1, none⟩ a1).setCell ⟨w7.heap.size, 2, none⟩ a2).setCell ⟨w7.heap.size, 3, none⟩ a3).setCell ⟨w7.heap.size, 4, none⟩ a4).setCell ⟨w7.heap.size, 5, none⟩ a5).setCell ⟨w7.heap.size, 6, none⟩ a6).setCell ⟨w7.heap.size, 7, none⟩ a7).setCell ⟨w7.heap.size, 8, none⟩ a8).setCell ⟨w7.heap.size, 9, none⟩ a9).setCell ⟨w7.heap.size, 10, none⟩ a10).setCell ⟨w7.heap.size, 11, none⟩ a11).cell? ⟨w.heap.size + 1, 4, none⟩ = some (.int .i64 (dm S2 r2 2)) /\ ((((((((((((y.setCell ⟨w7.heap.size, 0, none⟩ a0).setCell ⟨w7.heap.size, 1, none⟩ a1).setCell ⟨w7.heap.size, 2, none⟩ a2).setCell ⟨w7.heap.size, 3, none⟩ a3).setCell ⟨w7.heap.size, 4, none⟩ a4).setCell ⟨w7.heap.size, 5, none⟩ a5).setCell ⟨w7.heap.size, 6, none⟩ a6).setCell ⟨w7.heap.size, 7, none⟩ a7).setCell ⟨w7.heap.size, 8, none⟩ a8).setCell ⟨w7.heap.size, 9, none⟩ a9).setCell ⟨w7.heap.size, 10, none⟩ a10).setCell ⟨w7.heap.size, 11, none⟩ a11).cell? ⟨w.heap.size + 1, 5, none⟩ = some (.int .i64 (dm S2 r2 3)) /\ ((((((((((((y.setCell ⟨w7.heap.size, 0, none⟩ a0).setCell ⟨w7.heap.size, 1, none⟩ a1).setCell ⟨w7.heap.size, 2, none⟩ a2).setCell ⟨w7.heap.size, 3, none⟩ a3).setCell ⟨w7.heap.size, 4, none⟩ a4).setCell ⟨w7.heap.size, 5, none⟩ a5).setCell ⟨w7.heap.size, 6, none⟩ a6).setCell ⟨w7.heap.size, 7, none⟩ a7).setCell ⟨w7.heap.size, 8, none⟩ a8).setCell ⟨w7.heap.size, 9, none⟩ a9).setCell ⟨w7.heap.size, 10, none⟩ a10).setCell ⟨w7.heap.size, 11, none⟩ a11).cell? ⟨w.heap.size + 1, 6, none⟩ = some (.int .i64 (dm S2 r2 4)) /\ ((((((((((((y.setCell ⟨w7.heap.size, 0, none⟩ a0).setCell ⟨w7.heap.size, 1, none⟩ a1).setCell ⟨w7.heap.size, 2, none⟩ a2).setCell ⟨w7.heap.size, 3, none⟩ a3).setCell ⟨w7.heap.size, 4, none⟩ a4).setCell ⟨w7.heap.size, 5, none⟩ a5).setCell ⟨w7.heap.size, 6, none⟩ a6).setCell ⟨w7.heap.size, 7, none⟩ a7).setCell ⟨w7.heap.size, 8, none⟩ a8).setCell ⟨w7.heap.size, 9, none⟩ a9).setCell ⟨w7.heap.size, 10, none⟩ a10).setCell ⟨w7.heap.size, 11, none⟩ a11).cell? ⟨w.heap.size + 1, 7, none⟩ = some (.int .i64 (dm S2 r2 5)) /\ ((((((((((((y.setCell ⟨w7.heap.size, 0, none⟩ a0).setCell ⟨w7.heap.size, 1, none⟩ a1).setCell ⟨w7.heap.size, 2, none⟩ a2).setCell ⟨w7.heap.size, 3, none⟩ a3).setCell ⟨w7.heap.size, 4, none⟩ a4).setCell ⟨w7.heap.size, 5, none⟩ a5).setCell ⟨w7.heap.size, 6, none⟩ a6).setCell ⟨w7.heap.size, 7, none⟩ a7).setCell ⟨w7.heap.size, 8, none⟩ a8).setCell ⟨w7.heap.size, 9, none⟩ a9).setCell ⟨w7.heap.size, 10, none⟩ a10).setCell ⟨w7.heap.size, 11, none⟩ a11).cell? ⟨w.heap.size + 1, 8, none⟩ = some (.int .i64 (dm S2 r2 6)) /\ ((((((((((((y.setCell ⟨w7.heap.size, 0, none⟩ a0).setCell ⟨w7.heap.size, 1, none⟩ a1).setCell ⟨w7.heap.size, 2, none⟩ a2).setCell ⟨w7.heap.size, 3, none⟩ a3).setCell ⟨w7.heap.size, 4, none⟩ a4).setCell ⟨w7.heap.size, 5, none⟩ a5).setCell ⟨w7.heap.size, 6, none⟩ a6).setCell ⟨w7.heap.size, 7, none⟩ a7).setCell ⟨w7.heap.size, 8, none⟩ a8).setCell ⟨w7.heap.size, 9, none⟩ a9).setCell ⟨w7.heap.size, 10, none⟩ a10).setCell ⟨w7.heap.size, 11, none⟩ a11).cell? ⟨w.heap.size + 1, 9, none⟩ = some (.int .i64 (dm S2 r2 7)) /\ ((((((((((((y.setCell ⟨w7.heap.size, 0, none⟩ a0).setCell ⟨w7.heap.size, 1, none⟩ a1).setCell ⟨w7.heap.size, 2, none⟩ a2).setCell ⟨w7.heap.size, 3, none⟩ a3).setCell ⟨w7.heap.size, 4, none⟩ a4).setCell ⟨w7.heap.size, 5, none⟩ a5).setCell ⟨w7.heap.size, 6, none⟩ a6).setCell ⟨w7.heap.size, 7, none⟩ a7).setCell ⟨w7.heap.size, 8, none⟩ a8).setCell ⟨w7.heap.size, 9, none⟩ a9).setCell ⟨w7.heap.size, 10, none⟩ a10).setCell ⟨w7.heap.size, 11, none⟩ a11).cell? ⟨w.heap.size + 1, 10, none⟩ = some (.slice na2 nn2 nc2) /\ ((((((((((((y.setCell ⟨w7.heap.size, 0, none⟩ a0).setCell ⟨w7.heap.size, 1, none⟩ a1).setCell ⟨w7.heap.size, 2, none⟩ a2).setCell ⟨w7.heap.size, 3, none⟩ a3).setCell ⟨w7.heap.size, 4, none⟩ a4).setCell ⟨w7.heap.size, 5, none⟩ a5).setCell ⟨w7.heap.size, 6, none⟩ a6).setCell ⟨w7.heap.size, 7, none⟩ a7).setCell ⟨w7.heap.size, 8, none⟩ a8).setCell ⟨w7.heap.size, 9, none⟩ a9).setCell ⟨w7.heap.size, 10, none⟩ a10).setCell ⟨w7.heap.size, 11, none⟩ a11).cell? ⟨w.heap.size + 1, 11, none⟩ = some (.slice ta2 tn2 tc2)) := Lib.hid (fun y a0 a1 a2 a3 a4 a5 a6 a7 a8 a9 a10 a11 hb => by
           have hf := far_put12 y w7.heap.size a0 a1 a2 a3 a4 a5 a6 a7 a8 a9 a10 a11
           have q1 : Row (put12 y w7.heap.size a0 a1 a2 a3 a4 a5 a6 a7 a8 a9 a10 a11) w.heap.size 36 _ := (hf.block _ (by have := HSZ2.out; omega) (BB.out.now.2.2.2.1.below hb).lt).trans (BB.out.now.2.2.2.1.below hb)
           have q2 : Row (put12 y w7.heap.size a0 a1 a2 a3 a4 a5 a6 a7 a8 a9 a10 a11) (w.heap.size + 1) 36 _ := (hf.block _ (by have := HSZ2.out; omega) (BB.out.now.2.2.1.below hb).lt).trans (BB.out.now.2.2.1.below hb)
           unfold arrC at q1 q2
           exact ⟨q1.cell 0, q1.cell 1, q1.cell 2, q1.cell 3, q1.cell 4, q1.cell 5, q1.cell 6, q1.cell 7, q1.cell 8, q1.cell 9, q1.cell 10, q1.cell 11, q2.cell 0, q2.cell 1, q2.cell 2, q2.cell 3, q2.cell 4, q2.cell 5, q2.cell 6, q2.cell 7, q2.cell 8, q2.cell 9, q2.cell 10, q2.cell 11⟩)
          have BD0 : Hid (Below WW.heap.size WW WW.drew) := Lib.hid (Below.refl _ WW).drew
          unfold arrC at SHW RU1 RU2
          clear IC1 IC2 SHP
          go_wp2_with fail
          go_region_held3 (fun y => y.cell? ⟨w.heap.size, 0, none⟩ = some (.bool true) /\ y.cell? ⟨w.heap.size, 1, none⟩ = some (.int .i64 ((r1 : Int) - 1)) /\ y.cell? ⟨w.heap.size, 2, none⟩ = some (.int .i64 (dm S1 r1 0)) /\ y.cell? ⟨w.heap.size, 3, none⟩ = some (.int .i64 (dm S1 r1 1)) /\ y.cell? ⟨w.heap.size, 4, none⟩ = some (.int .i64 (dm S1 r1 2)) /\ y.cell? ⟨w.heap.size, 5, none⟩ = some (.int .i64 (dm S1 r1 3)) /\ y.cell? ⟨w.heap.size, 6, none⟩ = some (.int .i64 (dm S1 r1 4)) /\ y.cell? ⟨w.heap.size, 7, none⟩ = some (.int .i64 (dm S1 r1 5)) /\ y.cell? ⟨w.heap.size, 8, none⟩ = some (.int .i64 (dm S1 r1 6)) /\ y.cell? ⟨w.heap.size, 9, none⟩ = some (.int .i64 (dm S1 r1 7)) /\ y.cell? ⟨w.heap.size, 10, none⟩ = some (.slice na1 nn1 nc1) /\ y.cell? ⟨w.heap.size, 11, none⟩ = some (.slice ta1 tn1 tc1) /\ y.cell? ⟨w.heap.size + 1, 0, none⟩ = some (.bool true) /\ y.cell? ⟨w.heap.size + 1, 1, none⟩ = some (.int .i64 ((r2 : Int) - 1)) /\ y.cell? ⟨w.heap.size + 1, 2, none⟩ = some (.int .i64 (dm S2 r2 0)) /\ y.cell? ⟨w.heap.size + 1, 3, none⟩ = some (.int .i64 (dm S2 r2 1)) /\ y.cell? ⟨w.heap.size + 1, 4, none⟩ = some (.int .i64 (dm S2 r2 2)) /\ y.cell? ⟨w.heap.size + 1, 5, none⟩ = some (.int .i64 (dm S2 r2 3)) /\ y.cell? ⟨w.heap.size + 1, 6, none⟩ = some (.int .i64 (dm S2 r2 4)) /\ y.cell? ⟨w.heap.size + 1, 7, none⟩ = some (.int .i64 (dm S2 r2 5)) /\ y.cell? ⟨w.heap.size + 1, 8, none⟩ = some (.int .i64 (dm S2 r2 6)) /\ y.cell? ⟨w.heap.size + 1, 9, none⟩ = some (.int .i64 (dm S2 r2 7)) /\ y.cell? ⟨w.heap.size + 1, 10, none⟩ = some (.slice na2 nn2 nc2) /\ y.cell? ⟨w.heap.size + 1, 11, none⟩ = some (.slice ta2 tn2 tc2))
           (first
             | with_reducible exact HSF.out _ BD0.out
             | (have hq := HBa.out; with_reducible exact HSF.out _ hq)
             | (have hq := HBb.out; with_reducible exact HSF.out _ hq)
             | (have hq := HBc.out; with_reducible exact HSF.out _ hq)
             | (have hq := HBd.out; with_reducible exact HSF.out _ hq)
             | (have hq := HBe.out; with_reducible exact HSF.out _ hq)
             | (have hq := HBe.out; with_reducible exact HSP.out _ _ _ _ _ _ _ _ _ _ _ _ _ hq))
           (first
             | (go_at_call 40; (refine (SHW.out _ BD0.out).mono ?_); rintro e wa ⟨ga, ca, rfl, hga, hgla, hka, hba⟩; have HBa : Hid (Below WW.heap.size WW wa) := Lib.hid (BD0.out.trans (hba.mono BD0.out.size)); have HKa := Lib.hid hka; clear hka hba)
             | (go_at_call 52; (refine (RU1.out _ HBa.out).mono ?_); rintro e wb ⟨gb, cb, rfl, hgb, hbb, hcb1, hcb2, hbb2⟩; have HBb : Hid (Below WW.heap.size WW wb) := Lib.hid (HBa.out.trans (hbb2.mono HBa.out.size)); have HKa := Lib.hid (HKa.out.below hbb2); have HXb := Lib.hid hbb; have hne := (show ga ≠ gb by omega); clear hbb hbb2)
             | (go_at_call 52; (refine (RU2.out _ HBb.out).mono ?_); rintro e wd ⟨gc, cc2, rfl, hgc, hbc, hcc1, hcc2, hbc2⟩; have HBc : Hid (Below WW.heap.size WW wd) := Lib.hid (HBb.out.trans (hbc2.mono HBb.out.size)); have HKa := Lib.hid (HKa.out.below hbc2); have hgbl := HXb.out.1; have HXb := Lib.hid (HXb.out.below hbc2); have HXc := Lib.hid hbc; have hne2 := (show gc ≠ gb by omega); clear hbc hbc2)
             | (go_at_call 51; (refine (putC_any gb L1 cb g1 a4 m4 c4 G (some ⟨gc, 0, none⟩) L2 cc2 g2 wd HXb.out ⟨hcb1, hcb2⟩ (HK4.out.below HBc.out) (HXc.out.krow hcc1 hcc2) (fun x hx => by obtain ⟨b4, o4, e4, hb4, _⟩ := HK4.out.get hM0; rw [e4] at hx; cases hx; show b4 ≠ gb; have := HBa.out.size; omega) (fun x hx => by cases hx; exact hne2) hL2q HGG.out).mono ?_); rintro e we ⟨rfl, bx, hown⟩; have HBd : Hid (Below WW.heap.size WW we) := Lib.hid (hown.2 WW HBc.out (by have := HBa.out.size; omega)); have HKa := Lib.hid (HKa.out.away (.inr (fun x hx => by cases hx; exact hne)) hown.1); rw [heC] at bx; have HXb := Lib.hid bx; clear bx hown)
             | (go_at_call 50; (refine (MK.out _ _ _ _ _ HKa.out (HXb.out.krow hcb1 hcb2)).mono ?_); rintro e wf ⟨cs, rfl, h6, hb6⟩; have h6 : ChrArr wf cs S1 r1 L1 eC := (by simpa using h6); have HBe : Hid (Below WW.heap.size WW wf) := Lib.hid (HBd.out.trans (hb6.mono HBd.out.size)); have HA : Hid (Arr wf cs S1 r1 true L1 eC eP eQ) := Lib.hid ⟨fun _ => h6, fun e => (by cases e)⟩; have HR13 := Lib.hid (BB.out.go HBe.out).now.1; obtain ⟨ua, un, uc, va, vn, vc, hcs, _⟩ := HA.out.form; unfold arrC at hcs; subst hcs; have l0 : wf.cell? ⟨w7.heap.size, 0, none⟩ = some (.bool false) := HR13.out.cell 0; have f0 : wf.frozen? ⟨w7.heap.size, 0, none⟩ = false := HR13.out.free 0; have l1 : wf.cell? ⟨w7.heap.size, 1, none⟩ = some (.int .i64 0) := HR13.out.cell 1; have f1 : wf.frozen? ⟨w7.heap.size, 1, none⟩ = false := HR13.out.free 1; have l2 : wf.cell? ⟨w7.heap.size, 2, none⟩ = some (.int .i64 0) := HR13.out.cell 2; have f2 : wf.frozen? ⟨w7.heap.size, 2, none⟩ = false := HR13.out.free 2; have l3 : wf.cell? ⟨w7.heap.size, 3, none⟩ = some (.int .i64 0) := HR13.out.cell 3; have f3 : wf.frozen? ⟨w7.heap.size, 3, none⟩ = false := HR13.out.free 3; have l4 : wf.cell? ⟨w7.heap.size, 4, none⟩ = some (.int .i64 0) := HR13.out.cell 4; have f4 : wf.frozen? ⟨w7.heap.size, 4, none⟩ = false := HR13.out.free 4; have l5 : wf.cell? ⟨w7.heap.size, 5, none⟩ = some (.int .i64 0) := HR13.out.cell 5; have f5 : wf.frozen? ⟨w7.heap.size, 5, none⟩ = false := HR13.out.free 5; have l6 : wf.cell? ⟨w7.heap.size, 6, none⟩ = some (.int .i64 0) := HR13.out.cell 6; have f6 : wf.frozen? ⟨w7.heap.size, 6, none⟩ = false := HR13.out.free 6; have l7 : wf.cell? ⟨w7.heap.size, 7, none⟩ = some (.int .i64 0) := HR13.out.cell 7; have f7 : wf.frozen? ⟨w7.heap.size, 7, none⟩ = false := HR13.out.free 7; have l8 : wf.cell? ⟨w7.heap.size, 8, none⟩ = some (.int .i64 0) := HR13.out.cell 8; have f8 : wf.frozen? ⟨w7.heap.size, 8, none⟩ = false := HR13.out.free 8; have l9 : wf.cell? ⟨w7.heap.size, 9, none⟩ = some (.int .i64 0) := HR13.out.cell 9; have f9 : wf.frozen? ⟨w7.heap.size, 9, none⟩ = false := HR13.out.free 9; have l10 : wf.cell? ⟨w7.heap.size, 10, none⟩ = some (.slice none 0 0) := HR13.out.cell 10; have f10 : wf.frozen? ⟨w7.heap.size, 10, none⟩ = false := HR13.out.free 10; have l11 : wf.cell? ⟨w7.heap.size, 11, none⟩ = some (.slice none 0 0) := HR13.out.cell 11; have f11 : wf.frozen? ⟨w7.heap.size, 11, none⟩ = false := HR13.out.free 11; clear h6 hb6))
          have BB := Lib.hid (BB.out.go HBe.out)
          have hne8 : w7.heap.size ≠ w.heap.size + 1 + 1 := fun e => by have := HSZ2.out; omega
          have HF8 : Hid (Far w7.heap.size wf (put12 wf w7.heap.size (.bool true) (.int .i64 ((r1 : Int) - 1)) (.int .i64 (dm S1 r1 0)) (.int .i64 (dm S1 r1 1)) (.int .i64 (dm S1 r1 2)) (.int .i64 (dm S1 r1 3)) (.int .i64 (dm S1 r1 4)) (.int .i64 (dm S1 r1 5)) (.int .i64 (dm S1 r1 6)) (.int .i64 (dm S1 r1 7)) (.slice ua un uc) (.slice va vn vc))) := Lib.hid (far_put12 _ _ _ _ _ _ _ _ _ _ _ _ _ _)
          have HR14 : Hid (Row (put12 wf w7.heap.size (.bool true) (.int .i64 ((r1 : Int) - 1)) (.int .i64 (dm S1 r1 0)) (.int .i64 (dm S1 r1 1)) (.int .i64 (dm S1 r1 2)) (.int .i64 (dm S1 r1 3)) (.int .i64 (dm S1 r1 4)) (.int .i64 (dm S1 r1 5)) (.int .i64 (dm S1 r1 6)) (.int .i64 (dm S1 r1 7)) (.slice ua un uc) (.slice va vn vc)) w7.heap.size 36 #[.bool true, .int .i64 ((r1 : Int) - 1), .int .i64 (dm S1 r1 0), .int .i64 (dm S1 r1 1), .int .i64 (dm S1 r1 2), .int .i64 (dm S1 r1 3), .int .i64 (dm S1 r1 4), .int .i64 (dm S1 r1 5), .int .i64 (dm S1 r1 6), .int .i64 (dm S1 r1 7), .slice ua un uc, .slice va vn vc]) := Lib.hid (row_put12 HR13.out _ _ _ _ _ _ _ _ _ _ _ _)
          have HB8 : Hid (Below w.heap.size w (put12 wf w7.heap.size (.bool true) (.int .i64 ((r1 : Int) - 1)) (.int .i64 (dm S1 r1 0)) (.int .i64 (dm S1 r1 1)) (.int .i64 (dm S1 r1 2)) (.int .i64 (dm S1 r1 3)) (.int .i64 (dm S1 r1 4)) (.int .i64 (dm S1 r1 5)) (.int .i64 (dm S1 r1 6)) (.int .i64 (dm S1 r1 7)) (.slice ua un uc) (.slice va vn vc))) := Lib.hid (below_put12 BB.out.below (show w.heap.size <= w7.heap.size by have := HSZ2.out; omega) _ _ _ _ _ _ _ _ _ _ _ _)
          have HA2 : Hid (Arr (put12 wf w7.heap.size (.bool true) (.int .i64 ((r1 : Int) - 1)) (.int .i64 (dm S1 r1 0)) (.int .i64 (dm S1 r1 1)) (.int .i64 (dm S1 r1 2)) (.int .i64 (dm S1 r1 3)) (.int .i64 (dm S1 r1 4)) (.int .i64 (dm S1 r1 5)) (.int .i64 (dm S1 r1 6)) (.int .i64 (dm S1 r1 7)) (.slice ua un uc) (.slice va vn vc)) #[.bool true, .int .i64 ((r1 : Int) - 1), .int .i64 (dm S1 r1 0), .int .i64 (dm S1 r1 1), .int .i64 (dm S1 r1 2), .int .i64 (dm S1 r1 3), .int .i64 (dm S1 r1 4), .int .i64 (dm S1 r1 5), .int .i64 (dm S1 r1 6), .int .i64 (dm S1 r1 7), .slice ua un uc, .slice va vn vc] S1 r1 true L1 eC eP eQ) := Lib.hid (HA.out.away HR13.out HF8.out)
          have HR8 : Hid (Row (put12 wf w7.heap.size (.bool true) (.int .i64 ((r1 : Int) - 1)) (.int .i64 (dm S1 r1 0)) (.int .i64 (dm S1 r1 1)) (.int .i64 (dm S1 r1 2)) (.int .i64 (dm S1 r1 3)) (.int .i64 (dm S1 r1 4)) (.int .i64 (dm S1 r1 5)) (.int .i64 (dm S1 r1 6)) (.int .i64 (dm S1 r1 7)) (.slice ua un uc) (.slice va vn vc)) (w.heap.size + 1 + 1) 36 zerC) := Lib.hid ((HF8.out.block _ (Ne.symm hne8) BB.out.now.2.1.lt).trans BB.out.now.2.1)
          have HIA : Hid (IsA #[.bool true, .int .i64 ((r1 : Int) - 1), .int .i64 (dm S1 r1 0), .int .i64 (dm S1 r1 1), .int .i64 (dm S1 r1 2), .int .i64 (dm S1 r1 3), .int .i64 (dm S1 r1 4), .int .i64 (dm S1 r1 5), .int .i64 (dm S1 r1 6), .int .i64 (dm S1 r1 7), .slice ua un uc, .slice va vn vc]) := Lib.hid ⟨_, _, _, _, _, _, _, _, _, rfl⟩
          have HE := Lib.hid (MoTold.as HE1.out (MoTold.yes (HA2.out.store HR8.out IsA.zer #[.bool true, .int .i64 ((r1 : Int) - 1), .int .i64 (dm S1 r1 0), .int .i64 (dm S1 r1 1), .int .i64 (dm S1 r1 2), .int .i64 (dm S1 r1 3), .int .i64 (dm S1 r1 4), .int .i64 (dm S1 r1 5), .int .i64 (dm S1 r1 6), .int .i64 (dm S1 r1 7), .slice ua un uc, .slice va vn vc]) (below_put HB8.out (show w.heap.size <= w.heap.size + 1 + 1 by omega) #[.bool true, .int .i64 ((r1 : Int) - 1), .int .i64 (dm S1 r1 0), .int .i64 (dm S1 r1 1), .int .i64 (dm S1 r1 2), .int .i64 (dm S1 r1 3), .int .i64 (dm S1 r1 4), .int .i64 (dm S1 r1 5), .int .i64 (dm S1 r1 6), .int .i64 (dm S1 r1 7), .slice ua un uc, .slice va vn vc])))
          unfold put12 at HR14 HB8 HA2 HR8 HE
          clear HSF HSP BD0 HF8 l0 f0 l1 f1 l2 f2 l3 f3 l4 f4 l5 f5 l6 f6 l7 f7 l8 f8 l9 f9 l10 f10 l11 f11
          go_wp2_with (first
           | (refine ld8G (by rfl) 13 rfl _ #[.bool true, .int .i64 ((r1 : Int) - 1), .int .i64 (dm S1 r1 0), .int .i64 (dm S1 r1 1), .int .i64 (dm S1 r1 2), .int .i64 (dm S1 r1 3), .int .i64 (dm S1 r1 4), .int .i64 (dm S1 r1 5), .int .i64 (dm S1 r1 6), .int .i64 (dm S1 r1 7), .slice ua un uc, .slice va vn vc] (by rfl) HR14.out HIA.out.size ?_)
           | (refine stA rfl (.tmp 8) (.tmp 71) rfl (w.heap.size + 1 + 1) rfl #[.bool true, .int .i64 ((r1 : Int) - 1), .int .i64 (dm S1 r1 0), .int .i64 (dm S1 r1 1), .int .i64 (dm S1 r1 2), .int .i64 (dm S1 r1 3), .int .i64 (dm S1 r1 4), .int .i64 (dm S1 r1 5), .int .i64 (dm S1 r1 6), .int .i64 (dm S1 r1 7), .slice ua un uc, .slice va vn vc] rfl HIA.out HR8.out IsA.zer ?_))
          exact bodyPost_ret (res_arr2 Tryz.results16 rfl rfl (HR8.out.put _) HIA.out.size) rfl HE.out
         | false =>
          have HSZ2 : Hid (w.heap.size + 1 + 1 < WW.heap.size /\ True) := Lib.hid ⟨BB.out.now.1.lt, trivial⟩
          go_wp2_with fail
          go_region_held3 (fun y => y.cell? ⟨w.heap.size, 0, none⟩ = some (.bool false) /\ y.cell? ⟨w.heap.size, 1, none⟩ = some (.int .i64 ((r1 : Int) - 1)) /\ y.cell? ⟨w.heap.size, 2, none⟩ = some (.int .i64 (dm S1 r1 0)) /\ y.cell? ⟨w.heap.size, 3, none⟩ = some (.int .i64 (dm S1 r1 1)) /\ y.cell? ⟨w.heap.size, 4, none⟩ = some (.int .i64 (dm S1 r1 2)) /\ y.cell? ⟨w.heap.size, 5, none⟩ = some (.int .i64 (dm S1 r1 3)) /\ y.cell? ⟨w.heap.size, 6, none⟩ = some (.int .i64 (dm S1 r1 4)) /\ y.cell? ⟨w.heap.size, 7, none⟩ = some (.int .i64 (dm S1 r1 5)) /\ y.cell? ⟨w.heap.size, 8, none⟩ = some (.int .i64 (dm S1 r1 6)) /\ y.cell? ⟨w.heap.size, 9, none⟩ = some (.int .i64 (dm S1 r1 7)) /\ y.cell? ⟨w.heap.size, 10, none⟩ = some (.slice na1 nn1 nc1) /\ y.cell? ⟨w.heap.size, 11, none⟩ = some (.slice ta1 tn1 tc1) /\ y.cell? ⟨w.heap.size + 1, 0, none⟩ = some (.bool false) /\ y.cell? ⟨w.heap.size + 1, 1, none⟩ = some (.int .i64 ((r2 : Int) - 1)) /\ y.cell? ⟨w.heap.size + 1, 2, none⟩ = some (.int .i64 (dm S2 r2 0)) /\ y.cell? ⟨w.heap.size + 1, 3, none⟩ = some (.int .i64 (dm S2 r2 1)) /\ y.cell? ⟨w.heap.size + 1, 4, none⟩ = some (.int .i64 (dm S2 r2 2)) /\ y.cell? ⟨w.heap.size + 1, 5, none⟩ = some (.int .i64 (dm S2 r2 3)) /\ y.cell? ⟨w.heap.size + 1, 6, none⟩ = some (.int .i64 (dm S2 r2 4)) /\ y.cell? ⟨w.heap.size + 1, 7, none⟩ = some (.int .i64 (dm S2 r2 5)) /\ y.cell? ⟨w.heap.size + 1, 8, none⟩ = some (.int .i64 (dm S2 r2 6)) /\ y.cell? ⟨w.heap.size + 1, 9, none⟩ = some (.int .i64 (dm S2 r2 7)) /\ y.cell? ⟨w.heap.size + 1, 10, none⟩ = some (.slice na2 nn2 nc2) /\ y.cell? ⟨w.heap.size + 1, 11, none⟩ = some (.slice ta2 tn2 tc2))
           (first
             | with_reducible exact HSF.out _ BD0.out
             | (have hq := HB6.out; with_reducible exact HSF.out _ hq)
             | (have hq := HB7.out; with_reducible exact HSF.out _ hq))
           (first
             | (go_at_call 49; (refine (IC1.out _).mono ?_); rintro e w6 ⟨rfl, hb6⟩; have HB6 : Hid (Below WW.heap.size WW w6) := Lib.hid (BD0.out.trans (hb6.mono BD0.out.size)))
             | (go_at_call 49; (refine (IC2.out _).mono ?_); rintro e w7 ⟨rfl, hb7⟩; have HB7 : Hid (Below WW.heap.size WW w7) := Lib.hid (HB6.out.trans (hb7.mono HB6.out.size))))
          have HK4 := Lib.hid (HK4.out.below HB7.out)
          have BB := Lib.hid ((BB.out.go HB7.out).newRow zerC 36)
          have HR := Lib.hid BB.out.now.2.2.2.1
          have HK4 : Hid (KRow (w7.alloc (.cells zerC 36)) .i64 a4 m4 c4 G) := Lib.hid (HK4.out.below ((Below.refl _ _).alloc (Nat.le_refl _) _))
          unfold zerC arrC at HR HK4 BB
          have HSZ2 : Hid (w.heap.size + 1 + 1 < w7.heap.size) := Lib.hid (by have := HSZ2.out.1; have := HB7.out.size; omega)
          clear HSF BD0 hb6 hb7 HB6 HB7
          go_wp2_with (refine ld_arr rfl (.tmp 4) rfl w.heap.size rfl HR.out ?_)
          go_at_call 49
          (refine (IC1.out _).mono ?_)
          rintro e WW ⟨rfl, hb8⟩
          have BB := Lib.hid (BB.out.go hb8)
          have HK4 := Lib.hid (HK4.out.below hb8)
          clear hb8 HR
          have BB : Hid (Bag w (fun y => Row y w7.heap.size 36 zerC /\ Row y (w.heap.size + 1 + 1) 36 zerC /\ Row y (w.heap.size + 1) 36 (arrC false ((r2 : Int) - 1) (dm S2 r2) na2 nn2 nc2 ta2 tn2 tc2) /\ Row y w.heap.size 36 (arrC false ((r1 : Int) - 1) (dm S1 r1) na1 nn1 nc1 ta1 tn1 tc1) /\ True) WW) := Lib.hid ⟨BB.out.below, fun a b hb ⟨q0, q1, q2, q3, _⟩ => ⟨q0.below hb, q1.below hb, q2.below hb, q3.below hb, trivial⟩, BB.out.now⟩
          have SHW : Hid (∀ y, Below WW.heap.size WW y -> Calls Tryz.prog 40 #[.agg (arrC false ((r1 : Int) - 1) (dm S1 r1) na1 nn1 nc1 ta1 tn1 tc1)] y fun e w' => ∃ g c', e = .returned (.slice (some ⟨g, 0, none⟩) r1 c') /\ y.heap.size <= g /\ g < w'.heap.size /\ KRow w' .i64 (some ⟨g, 0, none⟩) r1 c' S1 /\ Below y.heap.size y w') := Lib.hid (fun y hb => SHP.out y ((H1.out.below BB.out.below).below hb))
          have RU1 : Hid (∀ y, Below WW.heap.size WW y -> Calls Tryz.prog 55 #[.agg (arrC false ((r1 : Int) - 1) (dm S1 r1) na1 nn1 nc1 ta1 tn1 tc1)] y fun e w' => ∃ b c, e = .returned (.slice (some ⟨b, 0, none⟩) L1 c) /\ y.heap.size <= b /\ RatsTo w' b L1 L1 P1 Q1 /\ L1 <= c /\ c <= maxLen /\ Below y.heap.size y w') := Lib.hid (fun y hb => rats8_new _ S1 r1 L1 g1 P1 Q1 y ((H1.out.below BB.out.below).below hb) hL1p (by omega))
          have RU2 : Hid (∀ y, Below WW.heap.size WW y -> Calls Tryz.prog 55 #[.agg (arrC false ((r2 : Int) - 1) (dm S2 r2) na2 nn2 nc2 ta2 tn2 tc2)] y fun e w' => ∃ b c, e = .returned (.slice (some ⟨b, 0, none⟩) L2 c) /\ y.heap.size <= b /\ RatsTo w' b L2 L2 P2 Q2 /\ L2 <= c /\ c <= maxLen /\ Below y.heap.size y w') := Lib.hid (fun y hb => rats8_new _ S2 r2 L2 g2 P2 Q2 y ((H2.out.below BB.out.below).below hb) hL2q (by omega))
          have MK := Lib.hid (fun a c la lc wz (k1 : KRow wz .i64 a r1 c S1) (k2 : RRow wz la L1 lc eP eQ) => nums_any a r1 c S1 la L1 lc eP eQ wz k1 (fun j hj => by have := ax_le4 hsh1 hj; omega) k2 (by omega))
          unfold NumsTold at MK
          rw [hsh1, decide_eq_true hc1] at MK
          have HSZ : Hid (w.heap.size + 1 + 1 < WW.heap.size /\ w7.heap.size < WW.heap.size) := Lib.hid ⟨BB.out.now.2.1.lt, BB.out.now.1.lt⟩
          have HSF : Hid (∀ y, Below WW.heap.size WW y -> y.cell? ⟨w.heap.size, 0, none⟩ = some (.bool false) /\ y.cell? ⟨w.heap.size, 1, none⟩ = some (.int .i64 ((r1 : Int) - 1)) /\ y.cell? ⟨w.heap.size, 2, none⟩ = some (.int .i64 (dm S1 r1 0)) /\ y.cell? ⟨w.heap.size, 3, none⟩ = some (.int .i64 (dm S1 r1 1)) /\ y.cell? ⟨w.heap.size, 4, none⟩ = some (.int .i64 (dm S1 r1 2)) /\ y.cell? ⟨w.heap.size, 5, none⟩ = some (.int .i64 (dm S1 r1 3)) /\ y.cell? ⟨w.heap.size, 6, none⟩ = some (.int .i64 (dm S1 r1 4)) /\ y.cell? ⟨w.heap.size, 7, none⟩ = some (.int .i64 (dm S1 r1 5)) /\ y.cell? ⟨w.heap.size, 8, none⟩ = some (.int .i64 (dm S1 r1 6)) /\ y.cell? ⟨w.heap.size, 9, none⟩ = some (.int .i64 (dm S1 r1 7)) /\ y.cell? ⟨w.heap.size, 10, none⟩ = some (.slice na1 nn1 nc1) /\ y.cell? ⟨w.heap.size, 11, none⟩ = some (.slice ta1 tn1 tc1) /\ y.cell? ⟨w.heap.size + 1, 0, none⟩ = some (.bool false) /\ y.cell? ⟨w.heap.size + 1, 1, none⟩ = some (.int .i64 ((r2 : Int) - 1)) /\ y.cell? ⟨w.heap.size + 1, 2, none⟩ = some (.int .i64 (dm S2 r2 0)) /\ y.cell? ⟨w.heap.size + 1, 3, none⟩ = some (.int .i64 (dm S2 r2 1)) /\ y.cell? ⟨w.heap.size + 1, 4, none⟩ = some (.int .i64 (dm S2 r2 2)) /\ y.cell? ⟨w.heap.size + 1, 5, none⟩ = some (.int .i64 (dm S2 r2 3)) /\ y.cell? ⟨w.heap.size + 1, 6, none⟩ = some (.int .i64 (dm S2 r2 4)) /\ y.cell? ⟨w.heap.size + 1, 7, none⟩ = some (.int .i64 (dm S2 r2 5)) /\ y.cell? ⟨w.heap.size + 1, 8, none⟩ = some (.int .i64 (dm S2 r2 6)) /\ y.cell? ⟨w.heap.size + 1, 9, none⟩ = some (.int .i64 (dm S2 r2 7)) /\ y.cell? ⟨w.heap.size + 1, 10, none⟩ = some (.slice na2 nn2 nc2) /\ y.cell? ⟨w.heap.size + 1, 11, none⟩ = some (.slice ta2 tn2 tc2)) := Lib.hid (fun y hb => by
           have q1 := BB.out.now.2.2.2.1.below hb
           have q2 := BB.out.now.2.2.1.below hb
           unfold arrC at q1 q2
           exact ⟨q1.cell 0, q1.cell 1, q1.cell 2, q1.cell 3, q1.cell 4, q1.cell 5, q1.cell 6, q1.cell 7, q1.cell 8, q1.cell 9, q1.cell 10, q1.cell 11, q2.cell 0, q2.cell 1, q2.cell 2, q2.cell 3, q2.cell 4, q2.cell 5, q2.cell 6, q2.cell 7, q2.cell 8, q2.cell 9, q2.cell 10, q2.cell 11⟩)
          have HSP : Hid (∀ y a0 a1 a2 a3 a4 a5 a6 a7 a8 a9 a10 a11, Below WW.heap.size WW y -> ((((((((((((y.setCell ⟨w7.heap.size, 0, none⟩ a0).setCell ⟨w7.heap.size, 1, none⟩ a1).setCell ⟨w7.heap.size, 2, none⟩ a2).setCell ⟨w7.heap.size, 3, none⟩ a3).setCell ⟨w7.heap.size, 4, none⟩ a4).setCell ⟨w7.heap.size, 5, none⟩ a5).setCell ⟨w7.heap.size, 6, none⟩ a6).setCell ⟨w7.heap.size, 7, none⟩ a7).setCell ⟨w7.heap.size, 8, none⟩ a8).setCell ⟨w7.heap.size, 9, none⟩ a9).setCell ⟨w7.heap.size, 10, none⟩ a10).setCell ⟨w7.heap.size, 11, none⟩ a11).cell? ⟨w.heap.size, 0, none⟩ = some (.bool false) /\ ((((((((((((y.setCell ⟨w7.heap.size, 0, none⟩ a0).setCell ⟨w7.heap.size, 1, none⟩ a1).setCell ⟨w7.heap.size, 2, none⟩ a2).setCell ⟨w7.heap.size, 3, none⟩ a3).setCell ⟨w7.heap.size, 4, none⟩ a4).setCell ⟨w7.heap.size, 5, none⟩ a5).setCell ⟨w7.heap.size, 6, none⟩ a6).setCell ⟨w7.heap.size, 7, none⟩ a7).setCell ⟨w7.heap.size, 8, none⟩ a8).setCell ⟨w7.heap.size, 9, none⟩ a9).setCell ⟨w7.heap.size, 10, none⟩ a10).setCell ⟨w7.heap.size, 11, none⟩ a11).cell? ⟨w.heap.size, 1, none⟩ = some (.int .i64 ((r1 : Int) - 1)) /\ ((((((((((((y.setCell ⟨w7.heap.size, 0, none⟩ a0).setCell ⟨w7.heap.size, 1, none⟩ a1).setCell ⟨w7.heap.size, 2, none⟩ a2).setCell ⟨w7.heap.size, 3, none⟩ a3).setCell ⟨w7.heap.size, 4, none⟩ a4).setCell ⟨w7.heap.size, 5, none⟩ a5).setCell ⟨w7.heap.size, 6, none⟩ a6).setCell ⟨w7.heap.size, 7, none⟩ a7).setCell ⟨w7.heap.size, 8, none⟩ a8).setCell ⟨w7.heap.size, 9, none⟩ a9).setCell ⟨w7.heap.size, 10, none⟩ a10).setCell ⟨w7.heap.size, 11, none⟩ a11).cell? ⟨w.heap.size, 2, none⟩ = some (.int .i64 (dm S1 r1 0)) /\ ((((((((((((y.setCell ⟨w7.heap.size, 0, none⟩ a0).setCell ⟨w7.heap.size, 1, none⟩ a1).setCell ⟨w7.heap.size, 2, none⟩ a2).setCell ⟨w7.heap.size, 3, none⟩ a3).setCell ⟨w7.heap.size, 4, none⟩ a4).setCell ⟨w7.heap.size, 5, none⟩ a5).setCell ⟨w7.heap.size, 6, none⟩ a6).setCell ⟨w7.heap.size, 7, none⟩ a7).setCell ⟨w7.heap.size, 8, none⟩ a8).setCell ⟨w7.heap.size, 9, none⟩ a9).setCell ⟨w7.heap.size, 10, none⟩ a10).setCell ⟨w7.heap.size, 11, none⟩ a11).cell? ⟨w.heap.size, 3, none⟩ = some (.int .i64 (dm S1 r1 1)) /\ ((((((((((((y.setCell ⟨w7.heap.size, 0, none⟩ a0).setCell ⟨w7.heap.size, 1, none⟩ a1).setCell ⟨w7.heap.size, 2, none⟩ a2).setCell ⟨w7.heap.size, 3, none⟩ a3).setCell ⟨w7.heap.size, 4, none⟩ a4).setCell ⟨w7.heap.size, 5, none⟩ a5).setCell ⟨w7.heap.size, 6, none⟩ a6).setCell ⟨w7.heap.size, 7, none⟩ a7).setCell ⟨w7.heap.size, 8, none⟩ a8).setCell ⟨w7.heap.size, 9, none⟩ a9).setCell ⟨w7.heap.size, 10, none⟩ a10).setCell ⟨w7.heap.size, 11, none⟩ a11).cell? ⟨w.heap.size, 4, none⟩ = some (.int .i64 (dm S1 r1 2)) /\ ((((((((((((y.setCell ⟨w7.heap.size, 0, none⟩ a0).setCell ⟨w7.heap.size, 1, none⟩ a1).setCell ⟨w7.heap.size, 2, none⟩ a2).setCell ⟨w7.heap.size, 3, none⟩ a3).setCell ⟨w7.heap.size, 4, none⟩ a4).setCell ⟨w7.heap.size, 5, none⟩ a5).setCell ⟨w7.heap.size, 6, none⟩ a6).setCell ⟨w7.heap.size, 7, none⟩ a7).setCell ⟨w7.heap.size, 8, none⟩ a8).setCell ⟨w7.heap.size, 9, none⟩ a9).setCell ⟨w7.heap.size, 10, none⟩ a10).setCell ⟨w7.heap.size, 11, none⟩ a11).cell? ⟨w.heap.size, 5, none⟩ = some (.int .i64 (dm S1 r1 3)) /\ ((((((((((((y.setCell ⟨w7.heap.size, 0, none⟩ a0).setCell ⟨w7.heap.size, 1, none⟩ a1).setCell ⟨w7.heap.size, 2, none⟩ a2).setCell ⟨w7.heap.size, 3, none⟩ a3).setCell ⟨w7.heap.size, 4, none⟩ a4).setCell ⟨w7.heap.size, 5, none⟩ a5).setCell ⟨w7.heap.size, 6, none⟩ a6).setCell ⟨w7.heap.size, 7, none⟩ a7).setCell ⟨w7.heap.size, 8, none⟩ a8).setCell ⟨w7.heap.size, 9, none⟩ a9).setCell ⟨w7.heap.size, 10, none⟩ a10).setCell ⟨w7.heap.size, 11, none⟩ a11).cell? ⟨w.heap.size, 6, none⟩ = some (.int .i64 (dm S1 r1 4)) /\ ((((((((((((y.setCell ⟨w7.heap.size, 0, none⟩ a0).setCell ⟨w7.heap.size, 1, none⟩ a1).setCell ⟨w7.heap.size, 2, none⟩ a2).setCell ⟨w7.heap.size, 3, none⟩ a3).setCell ⟨w7.heap.size, 4, none⟩ a4).setCell ⟨w7.heap.size, 5, none⟩ a5).setCell ⟨w7.heap.size, 6, none⟩ a6).setCell ⟨w7.heap.size, 7, none⟩ a7).setCell ⟨w7.heap.size, 8, none⟩ a8).setCell ⟨w7.heap.size, 9, none⟩ a9).setCell ⟨w7.heap.size, 10, none⟩ a10).setCell ⟨w7.heap.size, 11, none⟩ a11).cell? ⟨w.heap.size, 7, none⟩ = some (.int .i64 (dm S1 r1 5)) /\ ((((((((((((y.setCell ⟨w7.heap.size, 0, none⟩ a0).setCell ⟨w7.heap.size, 1, none⟩ a1).setCell ⟨w7.heap.size, 2, none⟩ a2).setCell ⟨w7.heap.size, 3, none⟩ a3).setCell ⟨w7.heap.size, 4, none⟩ a4).setCell ⟨w7.heap.size, 5, none⟩ a5).setCell ⟨w7.heap.size, 6, none⟩ a6).setCell ⟨w7.heap.size, 7, none⟩ a7).setCell ⟨w7.heap.size, 8, none⟩ a8).setCell ⟨w7.heap.size, 9, none⟩ a9).setCell ⟨w7.heap.size, 10, none⟩ a10).setCell ⟨w7.heap.size, 11, none⟩ a11).cell? ⟨w.heap.size, 8, none⟩ = some (.int .i64 (dm S1 r1 6)) /\ ((((((((((((y.setCell ⟨w7.heap.size, 0, none⟩ a0).setCell ⟨w7.heap.size, 1, none⟩ a1).setCell ⟨w7.heap.size, 2, none⟩ a2).setCell ⟨w7.heap.size, 3, none⟩ a3).setCell ⟨w7.heap.size, 4, none⟩ a4).setCell ⟨w7.heap.size, 5, none⟩ a5).setCell ⟨w7.heap.size, 6, none⟩ a6).setCell ⟨w7.heap.size, 7, none⟩ a7).setCell ⟨w7.heap.size, 8, none⟩ a8).setCell ⟨w7.heap.size, 9, none⟩ a9).setCell ⟨w7.heap.size, 10, none⟩ a10).setCell ⟨w7.heap.size, 11, none⟩ a11).cell? ⟨w.heap.size, 9, none⟩ = some (.int .i64 (dm S1 r1 7)) /\ ((((((((((((y.setCell ⟨w7.heap.size, 0, none⟩ a0).setCell ⟨w7.heap.size, 1, none⟩ a1).setCell ⟨w7.heap.size, 2, none⟩ a2).setCell ⟨w7.heap.size, 3, none⟩ a3).setCell ⟨w7.heap.size, 4, none⟩ a4).setCell ⟨w7.heap.size, 5, none⟩ a5).setCell ⟨w7.heap.size, 6, none⟩ a6).setCell ⟨w7.heap.size, 7, none⟩ a7).setCell ⟨w7.heap.size, 8, none⟩ a8).setCell ⟨w7.heap.size, 9, none⟩ a9).setCell ⟨w7.heap.size, 10, none⟩ a10).setCell ⟨w7.heap.size, 11, none⟩ a11).cell? ⟨w.heap.size, 10, none⟩ = some (.slice na1 nn1 nc1) /\ ((((((((((((y.setCell ⟨w7.heap.size, 0, none⟩ a0).setCell ⟨w7.heap.size, 1, none⟩ a1).setCell ⟨w7.heap.size, 2, none⟩ a2).setCell ⟨w7.heap.size, 3, none⟩ a3).setCell ⟨w7.heap.size, 4, none⟩ a4).setCell ⟨w7.heap.size, 5, none⟩ a5).setCell ⟨w7.heap.size, 6, none⟩ a6).setCell ⟨w7.heap.size, 7, none⟩ a7).setCell ⟨w7.heap.size, 8, none⟩ a8).setCell ⟨w7.heap.size, 9, none⟩ a9).setCell ⟨w7.heap.size, 10, none⟩ a10).setCell ⟨w7.heap.size, 11, none⟩ a11).cell? ⟨w.heap.size, 11, none⟩ = some (.slice ta1 tn1 tc1) /\ ((((((((((((y.setCell ⟨w7.heap.size, 0, none⟩ a0).setCell ⟨w7.heap.size, 1, none⟩ a1).setCell ⟨w7.heap.size, 2, none⟩ a2).setCell ⟨w7.heap.size, 3, none⟩ a3).setCell ⟨w7.heap.size, 4, none⟩ a4).setCell ⟨w7.heap.size, 5, none⟩ a5).setCell ⟨w7.heap.size, 6, none⟩ a6).setCell ⟨w7.heap.size, 7, none⟩ a7).setCell ⟨w7.heap.size, 8, none⟩ a8).setCell ⟨w7.heap.size, 9, none⟩ a9).setCell ⟨w7.heap.size, 10, none⟩ a10).setCell ⟨w7.heap.size, 11, none⟩ a11).cell? ⟨w.heap.size + 1, 0, none⟩ = some (.bool false) /\ ((((((((((((y.setCell ⟨w7.heap.size, 0, none⟩ a0).setCell ⟨w7.heap.size, 1, none⟩ a1).setCell ⟨w7.heap.size, 2, none⟩ a2).setCell ⟨w7.heap.size, 3, none⟩ a3).setCell ⟨w7.heap.size, 4, none⟩ a4).setCell ⟨w7.heap.size, 5, none⟩ a5).setCell ⟨w7.heap.size, 6, none⟩ a6).setCell ⟨w7.heap.size, 7, none⟩ a7).setCell ⟨w7.heap.size, 8, none⟩ a8).setCell ⟨w7.heap.size, 9, none⟩ a9).setCell ⟨w7.heap.size, 10, none⟩ a10).setCell ⟨w7.heap.size, 11, none⟩ a11).cell? ⟨w.heap.size + 1, 1, none⟩ = some (.int .i64 ((r2 : Int) - 1)) /\ ((((((((((((y.setCell ⟨w7.heap.size, 0, none⟩ a0).setCell ⟨w7.heap.size, 1, none⟩ a1).setCell ⟨w7.heap.size, 2, none⟩ a2).setCell ⟨w7.heap.size, 3, none⟩ a3).setCell ⟨w7.heap.size, 4, none⟩ a4).setCell ⟨w7.heap.size, 5, none⟩ a5).setCell ⟨w7.heap.size, 6, none⟩ a6).setCell ⟨w7.heap.size, 7, none⟩ a7).setCell ⟨w7.heap.size, 8, none⟩ a8).setCell ⟨w7.heap.size, 9, none⟩ a9).setCell ⟨w7.heap.size, 10, none⟩ a10).setCell ⟨w7.heap.size, 11, none⟩ a11).cell? ⟨w.heap.size + 1, 2, none⟩ = some (.int .i64 (dm S2 r2 0)) /\ ((((((((((((y.setCell ⟨w7.heap.size, 0, none⟩ a0).setCell ⟨w7.heap.size, 1, none⟩ a1).setCell ⟨w7.heap.size, 2, none⟩ a2).setCell ⟨w7.heap.size, 3, none⟩ a3).setCell ⟨w7.heap.size, 4, none⟩ a4).setCell ⟨w7.heap.size, 5, none⟩ a5).setCell ⟨w7.heap.size, 6, none⟩ a6).setCell ⟨w7.heap.size, 7, none⟩ a7).setCell ⟨w7.heap.size, 8, none⟩ a8).setCell ⟨w7.heap.size, 9, none⟩ a9).setCell ⟨w7.heap.size, 10, none⟩ a10).setCell ⟨w7.heap.size, 11, none⟩ a11).cell? ⟨w.heap.size + 1, 3, none⟩ = some (.int .i64 (dm S2 r2 1)) /\ ((((((((((((y.setCell ⟨w7.heap.size, 0, none⟩ a0).setCell ⟨w7.heap.size, 1, none⟩ a1).setCell ⟨w7.heap.size, 2, none⟩ a2).setCell ⟨w7.heap.size, 3, none⟩ a3).setCell ⟨w7.heap.size, 4, none⟩ a4).setCell ⟨w7.heap.size, 5, none⟩ a5).setCell ⟨w7.heap.size, 6, none⟩ a6).setCell ⟨w7.heap.size, 7, none⟩ a7).setCell ⟨w7.heap.size, 8, none⟩ a8).setCell ⟨w7.heap.size, 9, none⟩ a9).setCell ⟨w7.heap.size, 10, none⟩ a10).setCell ⟨w7.heap.size, 11, none⟩ a11).cell? ⟨w.heap.size + 1, 4, none⟩ = some (.int .i64 (dm S2 r2 2)) /\ ((((((((((((y.setCell ⟨w7.heap.size, 0, none⟩ a0).setCell ⟨w7.heap.size, 1, none⟩ a1).setCell ⟨w7.heap.size, 2, none⟩ a2).setCell ⟨w7.heap.size, 3, none⟩ a3).setCell ⟨w7.heap.size, 4, none⟩ a4).setCell ⟨w7.heap.size, 5, none⟩ a5).setCell ⟨w7.heap.size, 6, none⟩ a6).setCell ⟨w7.heap.size, 7, none⟩ a7).setCell ⟨w7.heap.size, 8, none⟩ a8).setCell ⟨w7.heap.size, 9, none⟩ a9).setCell ⟨w7.heap.size, 10, none⟩ a10).setCell ⟨w7.heap.size, 11, none⟩ a11).cell? ⟨w.heap.size + 1, 5, none⟩ = some (.int .i64 (dm S2 r2 3)) /\ ((((((((((((y.setCell ⟨w7.heap.size, 0, none⟩ a0).setCell ⟨w7.heap.size, 1, none⟩ a1).setCell ⟨w7.heap.size, 2, none⟩ a2).setCell ⟨w7.heap.size, 3, none⟩ a3).setCell ⟨w7.heap.size, 4, none⟩ a4).setCell ⟨w7.heap.size, 5, none⟩ a5).setCell ⟨w7.heap.size, 6, none⟩ a6).setCell ⟨w7.heap.size, 7, none⟩ a7).setCell ⟨w7.heap.size, 8, none⟩ a8).setCell ⟨w7.heap.size, 9, none⟩ a9).setCell ⟨w7.heap.size, 10, none⟩ a10).setCell ⟨w7.heap.size, 11, none⟩ a11).cell? ⟨w.heap.size + 1, 6, none⟩ = some (.int .i64 (dm S2 r2 4)) /\ ((((((((((((y.setCell ⟨w7.heap.size, 0, none⟩ a0).setCell ⟨w7.heap.size, 1, none⟩ a1).setCell ⟨w7.heap.size, 2, none⟩ a2).setCell ⟨w7.heap.size, 3, none⟩ a3).setCell ⟨w7.heap.size, 4, none⟩ a4).setCell ⟨w7.heap.size, 5, none⟩ a5).setCell ⟨w7.heap.size, 6, none⟩ a6).setCell ⟨w7.heap.size, 7, none⟩ a7).setCell ⟨w7.heap.size, 8, none⟩ a8).setCell ⟨w7.heap.size, 9, none⟩ a9).setCell ⟨w7.heap.size, 10, none⟩ a10).setCell ⟨w7.heap.size, 11, none⟩ a11).cell? ⟨w.heap.size + 1, 7, none⟩ = some (.int .i64 (dm S2 r2 5)) /\ ((((((((((((y.setCell ⟨w7.heap.size, 0, none⟩ a0).setCell ⟨w7.heap.size, 1, none⟩ a1).setCell ⟨w7.heap.size, 2, none⟩ a2).setCell ⟨w7.heap.size, 3, none⟩ a3).setCell ⟨w7.heap.size, 4, none⟩ a4).setCell ⟨w7.heap.size, 5, none⟩ a5).setCell ⟨w7.heap.size, 6, none⟩ a6).setCell ⟨w7.heap.size, 7, none⟩ a7).setCell ⟨w7.heap.size, 8, none⟩ a8).setCell ⟨w7.heap.size, 9, none⟩ a9).setCell ⟨w7.heap.size, 10, none⟩ a10).setCell ⟨w7.heap.size, 11, none⟩ a11).cell? ⟨w.heap.size + 1, 8, none⟩ = some (.int .i64 (dm S2 r2 6)) /\ ((((((((((((y.setCell ⟨w7.heap.size, 0, none⟩ a0).setCell ⟨w7.heap.size, 1, none⟩ a1).setCell ⟨w7.heap.size, 2, none⟩ a2).setCell ⟨w7.heap.size, 3, none⟩ a3).setCell ⟨w7.heap.size, 4, none⟩ a4).setCell ⟨w7.heap.size, 5, none⟩ a5).setCell ⟨w7.heap.size, 6, none⟩ a6).setCell ⟨w7.heap.size, 7, none⟩ a7).setCell ⟨w7.heap.size, 8, none⟩ a8).setCell ⟨w7.heap.size, 9, none⟩ a9).setCell ⟨w7.heap.size, 10, none⟩ a10).setCell ⟨w7.heap.size, 11, none⟩ a11).cell? ⟨w.heap.size + 1, 9, none⟩ = some (.int .i64 (dm S2 r2 7)) /\ ((((((((((((y.setCell ⟨w7.heap.size, 0, none⟩ a0).setCell ⟨w7.heap.size, 1, none⟩ a1).setCell ⟨w7.heap.size, 2, none⟩ a2).setCell ⟨w7.heap.size, 3, none⟩ a3).setCell ⟨w7.heap.size, 4, none⟩ a4).setCell ⟨w7.heap.size, 5, none⟩ a5).setCell ⟨w7.heap.size, 6, none⟩ a6).setCell ⟨w7.heap.size, 7, none⟩ a7).setCell ⟨w7.heap.size, 8, none⟩ a8).setCell ⟨w7.heap.size, 9, none⟩ a9).setCell ⟨w7.heap.size, 10, none⟩ a10).setCell ⟨w7.heap.size, 11, none⟩ a11).cell? ⟨w.heap.size + 1, 10, none⟩ = some (.slice na2 nn2 nc2) /\ ((((((((((((y.setCell ⟨w7.heap.size, 0, none⟩ a0).setCell ⟨w7.heap.size, 1, none⟩ a1).setCell ⟨w7.heap.size, 2, none⟩ a2).setCell ⟨w7.heap.size, 3, none⟩ a3).setCell ⟨w7.heap.size, 4, none⟩ a4).setCell ⟨w7.heap.size, 5, none⟩ a5).setCell ⟨w7.heap.size, 6, none⟩ a6).setCell ⟨w7.heap.size, 7, none⟩ a7).setCell ⟨w7.heap.size, 8, none⟩ a8).setCell ⟨w7.heap.size, 9, none⟩ a9).setCell ⟨w7.heap.size, 10, none⟩ a10).setCell ⟨w7.heap.size, 11, none⟩ a11).cell? ⟨w.heap.size + 1, 11, none⟩ = some (.slice ta2 tn2 tc2)) := Lib.hid (fun y a0 a1 a2 a3 a4 a5 a6 a7 a8 a9 a10 a11 hb => by
           have hf := far_put12 y w7.heap.size a0 a1 a2 a3 a4 a5 a6 a7 a8 a9 a10 a11
           have q1 : Row (put12 y w7.heap.size a0 a1 a2 a3 a4 a5 a6 a7 a8 a9 a10 a11) w.heap.size 36 _ := (hf.block _ (by have := HSZ2.out; omega) (BB.out.now.2.2.2.1.below hb).lt).trans (BB.out.now.2.2.2.1.below hb)
           have q2 : Row (put12 y w7.heap.size a0 a1 a2 a3 a4 a5 a6 a7 a8 a9 a10 a11) (w.heap.size + 1) 36 _ := (hf.block _ (by have := HSZ2.out; omega) (BB.out.now.2.2.1.below hb).lt).trans (BB.out.now.2.2.1.below hb)
           unfold arrC at q1 q2
           exact ⟨q1.cell 0, q1.cell 1, q1.cell 2, q1.cell 3, q1.cell 4, q1.cell 5, q1.cell 6, q1.cell 7, q1.cell 8, q1.cell 9, q1.cell 10, q1.cell 11, q2.cell 0, q2.cell 1, q2.cell 2, q2.cell 3, q2.cell 4, q2.cell 5, q2.cell 6, q2.cell 7, q2.cell 8, q2.cell 9, q2.cell 10, q2.cell 11⟩)
          have BD0 : Hid (Below WW.heap.size WW WW.drew) := Lib.hid (Below.refl _ WW).drew
          unfold arrC at SHW RU1 RU2
          clear IC1 IC2 SHP
          go_wp2_with fail
          go_region_held3 (fun y => y.cell? ⟨w.heap.size, 0, none⟩ = some (.bool false) /\ y.cell? ⟨w.heap.size, 1, none⟩ = some (.int .i64 ((r1 : Int) - 1)) /\ y.cell? ⟨w.heap.size, 2, none⟩ = some (.int .i64 (dm S1 r1 0)) /\ y.cell? ⟨w.heap.size, 3, none⟩ = some (.int .i64 (dm S1 r1 1)) /\ y.cell? ⟨w.heap.size, 4, none⟩ = some (.int .i64 (dm S1 r1 2)) /\ y.cell? ⟨w.heap.size, 5, none⟩ = some (.int .i64 (dm S1 r1 3)) /\ y.cell? ⟨w.heap.size, 6, none⟩ = some (.int .i64 (dm S1 r1 4)) /\ y.cell? ⟨w.heap.size, 7, none⟩ = some (.int .i64 (dm S1 r1 5)) /\ y.cell? ⟨w.heap.size, 8, none⟩ = some (.int .i64 (dm S1 r1 6)) /\ y.cell? ⟨w.heap.size, 9, none⟩ = some (.int .i64 (dm S1 r1 7)) /\ y.cell? ⟨w.heap.size, 10, none⟩ = some (.slice na1 nn1 nc1) /\ y.cell? ⟨w.heap.size, 11, none⟩ = some (.slice ta1 tn1 tc1) /\ y.cell? ⟨w.heap.size + 1, 0, none⟩ = some (.bool false) /\ y.cell? ⟨w.heap.size + 1, 1, none⟩ = some (.int .i64 ((r2 : Int) - 1)) /\ y.cell? ⟨w.heap.size + 1, 2, none⟩ = some (.int .i64 (dm S2 r2 0)) /\ y.cell? ⟨w.heap.size + 1, 3, none⟩ = some (.int .i64 (dm S2 r2 1)) /\ y.cell? ⟨w.heap.size + 1, 4, none⟩ = some (.int .i64 (dm S2 r2 2)) /\ y.cell? ⟨w.heap.size + 1, 5, none⟩ = some (.int .i64 (dm S2 r2 3)) /\ y.cell? ⟨w.heap.size + 1, 6, none⟩ = some (.int .i64 (dm S2 r2 4)) /\ y.cell? ⟨w.heap.size + 1, 7, none⟩ = some (.int .i64 (dm S2 r2 5)) /\ y.cell? ⟨w.heap.size + 1, 8, none⟩ = some (.int .i64 (dm S2 r2 6)) /\ y.cell? ⟨w.heap.size + 1, 9, none⟩ = some (.int .i64 (dm S2 r2 7)) /\ y.cell? ⟨w.heap.size + 1, 10, none⟩ = some (.slice na2 nn2 nc2) /\ y.cell? ⟨w.heap.size + 1, 11, none⟩ = some (.slice ta2 tn2 tc2))
           (first
             | with_reducible exact HSF.out _ BD0.out
             | (have hq := HBa.out; with_reducible exact HSF.out _ hq)
             | (have hq := HBb.out; with_reducible exact HSF.out _ hq)
             | (have hq := HBc.out; with_reducible exact HSF.out _ hq)
             | (have hq := HBd.out; with_reducible exact HSF.out _ hq)
             | (have hq := HBe.out; with_reducible exact HSF.out _ hq)
             | (have hq := HBe.out; with_reducible exact HSP.out _ _ _ _ _ _ _ _ _ _ _ _ _ hq))
           (first
             | (go_at_call 40; (refine (SHW.out _ BD0.out).mono ?_); rintro e wa ⟨ga, ca, rfl, hga, hgla, hka, hba⟩; have HBa : Hid (Below WW.heap.size WW wa) := Lib.hid (BD0.out.trans (hba.mono BD0.out.size)); have HKa := Lib.hid hka; clear hka hba)
             | (go_at_call 55; (refine (RU1.out _ HBa.out).mono ?_); rintro e wb ⟨gb, cb, rfl, hgb, hbb, hcb1, hcb2, hbb2⟩; have HBb : Hid (Below WW.heap.size WW wb) := Lib.hid (HBa.out.trans (hbb2.mono HBa.out.size)); have HKa := Lib.hid (HKa.out.below hbb2); have HXb := Lib.hid hbb; have hne := (show ga ≠ gb by omega); clear hbb hbb2)
             | (go_at_call 55; (refine (RU2.out _ HBb.out).mono ?_); rintro e wd ⟨gc, cc2, rfl, hgc, hbc, hcc1, hcc2, hbc2⟩; have HBc : Hid (Below WW.heap.size WW wd) := Lib.hid (HBb.out.trans (hbc2.mono HBb.out.size)); have HKa := Lib.hid (HKa.out.below hbc2); have hgbl := HXb.out.1; have HXb := Lib.hid (HXb.out.below hbc2); have HXc := Lib.hid hbc; have hne2 := (show gc ≠ gb by omega); clear hbc hbc2)
             | (go_at_call 54; (refine (putR_any gb L1 cb P1 Q1 a4 m4 c4 G (some ⟨gc, 0, none⟩) L2 cc2 P2 Q2 wd HXb.out ⟨hcb1, hcb2⟩ (HK4.out.below HBc.out) (HXc.out.rrow hcc1 hcc2) (fun x hx => by obtain ⟨b4, o4, e4, hb4, _⟩ := HK4.out.get hM0; rw [e4] at hx; cases hx; show b4 ≠ gb; have := HBa.out.size; omega) (fun x hx => by cases hx; exact hne2) hL2q HGG.out).mono ?_); rintro e we ⟨rfl, bx, hown⟩; have HBd : Hid (Below WW.heap.size WW we) := Lib.hid (hown.2 WW HBc.out (by have := HBa.out.size; omega)); have HKa := Lib.hid (HKa.out.away (.inr (fun x hx => by cases hx; exact hne)) hown.1); rw [heP, heQ] at bx; have HXb := Lib.hid bx; clear bx hown)
             | (go_at_call 53; (refine (MK.out _ _ _ _ _ HKa.out (HXb.out.rrow hcb1 hcb2)).mono ?_); rintro e wf ⟨cs, rfl, h6, hb6⟩; have h6 : NumArr wf cs S1 r1 L1 eP eQ := (by simpa using h6); have HBe : Hid (Below WW.heap.size WW wf) := Lib.hid (HBd.out.trans (hb6.mono HBd.out.size)); have HA : Hid (Arr wf cs S1 r1 false L1 eC eP eQ) := Lib.hid ⟨fun e => (by cases e), fun _ => h6⟩; have HR13 := Lib.hid (BB.out.go HBe.out).now.1; obtain ⟨ua, un, uc, va, vn, vc, hcs, _⟩ := HA.out.form; unfold arrC at hcs; subst hcs; have l0 : wf.cell? ⟨w7.heap.size, 0, none⟩ = some (.bool false) := HR13.out.cell 0; have f0 : wf.frozen? ⟨w7.heap.size, 0, none⟩ = false := HR13.out.free 0; have l1 : wf.cell? ⟨w7.heap.size, 1, none⟩ = some (.int .i64 0) := HR13.out.cell 1; have f1 : wf.frozen? ⟨w7.heap.size, 1, none⟩ = false := HR13.out.free 1; have l2 : wf.cell? ⟨w7.heap.size, 2, none⟩ = some (.int .i64 0) := HR13.out.cell 2; have f2 : wf.frozen? ⟨w7.heap.size, 2, none⟩ = false := HR13.out.free 2; have l3 : wf.cell? ⟨w7.heap.size, 3, none⟩ = some (.int .i64 0) := HR13.out.cell 3; have f3 : wf.frozen? ⟨w7.heap.size, 3, none⟩ = false := HR13.out.free 3; have l4 : wf.cell? ⟨w7.heap.size, 4, none⟩ = some (.int .i64 0) := HR13.out.cell 4; have f4 : wf.frozen? ⟨w7.heap.size, 4, none⟩ = false := HR13.out.free 4; have l5 : wf.cell? ⟨w7.heap.size, 5, none⟩ = some (.int .i64 0) := HR13.out.cell 5; have f5 : wf.frozen? ⟨w7.heap.size, 5, none⟩ = false := HR13.out.free 5; have l6 : wf.cell? ⟨w7.heap.size, 6, none⟩ = some (.int .i64 0) := HR13.out.cell 6; have f6 : wf.frozen? ⟨w7.heap.size, 6, none⟩ = false := HR13.out.free 6; have l7 : wf.cell? ⟨w7.heap.size, 7, none⟩ = some (.int .i64 0) := HR13.out.cell 7; have f7 : wf.frozen? ⟨w7.heap.size, 7, none⟩ = false := HR13.out.free 7; have l8 : wf.cell? ⟨w7.heap.size, 8, none⟩ = some (.int .i64 0) := HR13.out.cell 8; have f8 : wf.frozen? ⟨w7.heap.size, 8, none⟩ = false := HR13.out.free 8; have l9 : wf.cell? ⟨w7.heap.size, 9, none⟩ = some (.int .i64 0) := HR13.out.cell 9; have f9 : wf.frozen? ⟨w7.heap.size, 9, none⟩ = false := HR13.out.free 9; have l10 : wf.cell? ⟨w7.heap.size, 10, none⟩ = some (.slice none 0 0) := HR13.out.cell 10; have f10 : wf.frozen? ⟨w7.heap.size, 10, none⟩ = false := HR13.out.free 10; have l11 : wf.cell? ⟨w7.heap.size, 11, none⟩ = some (.slice none 0 0) := HR13.out.cell 11; have f11 : wf.frozen? ⟨w7.heap.size, 11, none⟩ = false := HR13.out.free 11; clear h6 hb6))
          have BB := Lib.hid (BB.out.go HBe.out)
          have hne8 : w7.heap.size ≠ w.heap.size + 1 + 1 := fun e => by have := HSZ2.out; omega
          have HF8 : Hid (Far w7.heap.size wf (put12 wf w7.heap.size (.bool false) (.int .i64 ((r1 : Int) - 1)) (.int .i64 (dm S1 r1 0)) (.int .i64 (dm S1 r1 1)) (.int .i64 (dm S1 r1 2)) (.int .i64 (dm S1 r1 3)) (.int .i64 (dm S1 r1 4)) (.int .i64 (dm S1 r1 5)) (.int .i64 (dm S1 r1 6)) (.int .i64 (dm S1 r1 7)) (.slice ua un uc) (.slice va vn vc))) := Lib.hid (far_put12 _ _ _ _ _ _ _ _ _ _ _ _ _ _)
          have HR14 : Hid (Row (put12 wf w7.heap.size (.bool false) (.int .i64 ((r1 : Int) - 1)) (.int .i64 (dm S1 r1 0)) (.int .i64 (dm S1 r1 1)) (.int .i64 (dm S1 r1 2)) (.int .i64 (dm S1 r1 3)) (.int .i64 (dm S1 r1 4)) (.int .i64 (dm S1 r1 5)) (.int .i64 (dm S1 r1 6)) (.int .i64 (dm S1 r1 7)) (.slice ua un uc) (.slice va vn vc)) w7.heap.size 36 #[.bool false, .int .i64 ((r1 : Int) - 1), .int .i64 (dm S1 r1 0), .int .i64 (dm S1 r1 1), .int .i64 (dm S1 r1 2), .int .i64 (dm S1 r1 3), .int .i64 (dm S1 r1 4), .int .i64 (dm S1 r1 5), .int .i64 (dm S1 r1 6), .int .i64 (dm S1 r1 7), .slice ua un uc, .slice va vn vc]) := Lib.hid (row_put12 HR13.out _ _ _ _ _ _ _ _ _ _ _ _)
          have HB8 : Hid (Below w.heap.size w (put12 wf w7.heap.size (.bool false) (.int .i64 ((r1 : Int) - 1)) (.int .i64 (dm S1 r1 0)) (.int .i64 (dm S1 r1 1)) (.int .i64 (dm S1 r1 2)) (.int .i64 (dm S1 r1 3)) (.int .i64 (dm S1 r1 4)) (.int .i64 (dm S1 r1 5)) (.int .i64 (dm S1 r1 6)) (.int .i64 (dm S1 r1 7)) (.slice ua un uc) (.slice va vn vc))) := Lib.hid (below_put12 BB.out.below (show w.heap.size <= w7.heap.size by have := HSZ2.out; omega) _ _ _ _ _ _ _ _ _ _ _ _)
          have HA2 : Hid (Arr (put12 wf w7.heap.size (.bool false) (.int .i64 ((r1 : Int) - 1)) (.int .i64 (dm S1 r1 0)) (.int .i64 (dm S1 r1 1)) (.int .i64 (dm S1 r1 2)) (.int .i64 (dm S1 r1 3)) (.int .i64 (dm S1 r1 4)) (.int .i64 (dm S1 r1 5)) (.int .i64 (dm S1 r1 6)) (.int .i64 (dm S1 r1 7)) (.slice ua un uc) (.slice va vn vc)) #[.bool false, .int .i64 ((r1 : Int) - 1), .int .i64 (dm S1 r1 0), .int .i64 (dm S1 r1 1), .int .i64 (dm S1 r1 2), .int .i64 (dm S1 r1 3), .int .i64 (dm S1 r1 4), .int .i64 (dm S1 r1 5), .int .i64 (dm S1 r1 6), .int .i64 (dm S1 r1 7), .slice ua un uc, .slice va vn vc] S1 r1 false L1 eC eP eQ) := Lib.hid (HA.out.away HR13.out HF8.out)
          have HR8 : Hid (Row (put12 wf w7.heap.size (.bool false) (.int .i64 ((r1 : Int) - 1)) (.int .i64 (dm S1 r1 0)) (.int .i64 (dm S1 r1 1)) (.int .i64 (dm S1 r1 2)) (.int .i64 (dm S1 r1 3)) (.int .i64 (dm S1 r1 4)) (.int .i64 (dm S1 r1 5)) (.int .i64 (dm S1 r1 6)) (.int .i64 (dm S1 r1 7)) (.slice ua un uc) (.slice va vn vc)) (w.heap.size + 1 + 1) 36 zerC) := Lib.hid ((HF8.out.block _ (Ne.symm hne8) BB.out.now.2.1.lt).trans BB.out.now.2.1)
          have HIA : Hid (IsA #[.bool false, .int .i64 ((r1 : Int) - 1), .int .i64 (dm S1 r1 0), .int .i64 (dm S1 r1 1), .int .i64 (dm S1 r1 2), .int .i64 (dm S1 r1 3), .int .i64 (dm S1 r1 4), .int .i64 (dm S1 r1 5), .int .i64 (dm S1 r1 6), .int .i64 (dm S1 r1 7), .slice ua un uc, .slice va vn vc]) := Lib.hid ⟨_, _, _, _, _, _, _, _, _, rfl⟩
          have HE := Lib.hid (MoTold.as HE1.out (MoTold.yes (HA2.out.store HR8.out IsA.zer #[.bool false, .int .i64 ((r1 : Int) - 1), .int .i64 (dm S1 r1 0), .int .i64 (dm S1 r1 1), .int .i64 (dm S1 r1 2), .int .i64 (dm S1 r1 3), .int .i64 (dm S1 r1 4), .int .i64 (dm S1 r1 5), .int .i64 (dm S1 r1 6), .int .i64 (dm S1 r1 7), .slice ua un uc, .slice va vn vc]) (below_put HB8.out (show w.heap.size <= w.heap.size + 1 + 1 by omega) #[.bool false, .int .i64 ((r1 : Int) - 1), .int .i64 (dm S1 r1 0), .int .i64 (dm S1 r1 1), .int .i64 (dm S1 r1 2), .int .i64 (dm S1 r1 3), .int .i64 (dm S1 r1 4), .int .i64 (dm S1 r1 5), .int .i64 (dm S1 r1 6), .int .i64 (dm S1 r1 7), .slice ua un uc, .slice va vn vc])))
          unfold put12 at HR14 HB8 HA2 HR8 HE
          clear HSF HSP BD0 HF8 l0 f0 l1 f1 l2 f2 l3 f3 l4 f4 l5 f5 l6 f6 l7 f7 l8 f8 l9 f9 l10 f10 l11 f11
          go_wp2_with (first
           | (refine ld8G (by rfl) 13 rfl _ #[.bool false, .int .i64 ((r1 : Int) - 1), .int .i64 (dm S1 r1 0), .int .i64 (dm S1 r1 1), .int .i64 (dm S1 r1 2), .int .i64 (dm S1 r1 3), .int .i64 (dm S1 r1 4), .int .i64 (dm S1 r1 5), .int .i64 (dm S1 r1 6), .int .i64 (dm S1 r1 7), .slice ua un uc, .slice va vn vc] (by rfl) HR14.out HIA.out.size ?_)
           | (refine stA rfl (.tmp 8) (.tmp 71) rfl (w.heap.size + 1 + 1) rfl #[.bool false, .int .i64 ((r1 : Int) - 1), .int .i64 (dm S1 r1 0), .int .i64 (dm S1 r1 1), .int .i64 (dm S1 r1 2), .int .i64 (dm S1 r1 3), .int .i64 (dm S1 r1 4), .int .i64 (dm S1 r1 5), .int .i64 (dm S1 r1 6), .int .i64 (dm S1 r1 7), .slice ua un uc, .slice va vn vc] rfl HIA.out HR8.out IsA.zer ?_))
          exact bodyPost_ret (res_arr2 Tryz.results16 rfl rfl (HR8.out.put _) HIA.out.size) rfl HE.out
       · have e1 : seE 0 0 m4 ch1 ch2 = 22 := by unfold seE; rw [if_neg (by decide), if_neg (by decide), if_neg hm0, if_neg hcc]
         have HE1 := Lib.hid e1
         clear e1 hm0
         cases ch1 with
         | true =>
          cases ch2 with
          | true => exact absurd rfl hcc
          | false =>
           clear hcc
           go_wp2_with fail
           go_region_held3 (fun y => y.cell? ⟨w.heap.size, 0, none⟩ = some (.bool true) /\ y.cell? ⟨w.heap.size, 1, none⟩ = some (.int .i64 ((r1 : Int) - 1)) /\ y.cell? ⟨w.heap.size, 2, none⟩ = some (.int .i64 (dm S1 r1 0)) /\ y.cell? ⟨w.heap.size, 3, none⟩ = some (.int .i64 (dm S1 r1 1)) /\ y.cell? ⟨w.heap.size, 4, none⟩ = some (.int .i64 (dm S1 r1 2)) /\ y.cell? ⟨w.heap.size, 5, none⟩ = some (.int .i64 (dm S1 r1 3)) /\ y.cell? ⟨w.heap.size, 6, none⟩ = some (.int .i64 (dm S1 r1 4)) /\ y.cell? ⟨w.heap.size, 7, none⟩ = some (.int .i64 (dm S1 r1 5)) /\ y.cell? ⟨w.heap.size, 8, none⟩ = some (.int .i64 (dm S1 r1 6)) /\ y.cell? ⟨w.heap.size, 9, none⟩ = some (.int .i64 (dm S1 r1 7)) /\ y.cell? ⟨w.heap.size, 10, none⟩ = some (.slice na1 nn1 nc1) /\ y.cell? ⟨w.heap.size, 11, none⟩ = some (.slice ta1 tn1 tc1) /\ y.cell? ⟨w.heap.size + 1, 0, none⟩ = some (.bool false) /\ y.cell? ⟨w.heap.size + 1, 1, none⟩ = some (.int .i64 ((r2 : Int) - 1)) /\ y.cell? ⟨w.heap.size + 1, 2, none⟩ = some (.int .i64 (dm S2 r2 0)) /\ y.cell? ⟨w.heap.size + 1, 3, none⟩ = some (.int .i64 (dm S2 r2 1)) /\ y.cell? ⟨w.heap.size + 1, 4, none⟩ = some (.int .i64 (dm S2 r2 2)) /\ y.cell? ⟨w.heap.size + 1, 5, none⟩ = some (.int .i64 (dm S2 r2 3)) /\ y.cell? ⟨w.heap.size + 1, 6, none⟩ = some (.int .i64 (dm S2 r2 4)) /\ y.cell? ⟨w.heap.size + 1, 7, none⟩ = some (.int .i64 (dm S2 r2 5)) /\ y.cell? ⟨w.heap.size + 1, 8, none⟩ = some (.int .i64 (dm S2 r2 6)) /\ y.cell? ⟨w.heap.size + 1, 9, none⟩ = some (.int .i64 (dm S2 r2 7)) /\ y.cell? ⟨w.heap.size + 1, 10, none⟩ = some (.slice na2 nn2 nc2) /\ y.cell? ⟨w.heap.size + 1, 11, none⟩ = some (.slice ta2 tn2 tc2))
            (first
              | with_reducible exact HSF.out _ BD0.out
              | (have hq := HB6.out; with_reducible exact HSF.out _ hq)
              | (have hq := HB7.out; with_reducible exact HSF.out _ hq))
            (first
              | (go_at_call 49; (refine (IC1.out _).mono ?_); rintro e w6 ⟨rfl, hb6⟩; have HB6 : Hid (Below WW.heap.size WW w6) := Lib.hid (BD0.out.trans (hb6.mono BD0.out.size)))
              | (go_at_call 49; (refine (IC2.out _).mono ?_); rintro e w7 ⟨rfl, hb7⟩; have HB7 : Hid (Below WW.heap.size WW w7) := Lib.hid (HB6.out.trans (hb7.mono HB6.out.size))))
           have BB := Lib.hid (BB.out.go HB7.out)
           have HR := Lib.hid BB.out.now.1
           have HE := Lib.hid (MoTold.as HE1.out (MoTold.no (E := 22) (S := S1) (r := r1) (ch := true) (L := L1) (g := eC) (fP := eP) (fQ := eQ) (by decide) (below_put BB.out.below (show w.heap.size <= w.heap.size + 1 + 1 by omega) zerC)))
           clear HSF hb6 hb7
           go_wp2_with (refine st_arr rfl (.tmp 8) (.tmp 44) rfl (w.heap.size + 1 + 1) rfl false 0 (fun _ => 0) none 0 0 none 0 0 rfl HR.out rfl ?_)
           exact bodyPost_ret (res_arr2 Tryz.results16 rfl rfl (HR.out.put _) rfl) rfl HE.out
         | false =>
          cases ch2 with
          | false => exact absurd rfl hcc
          | true =>
           clear hcc
           go_wp2_with fail
           go_region_held3 (fun y => y.cell? ⟨w.heap.size, 0, none⟩ = some (.bool false) /\ y.cell? ⟨w.heap.size, 1, none⟩ = some (.int .i64 ((r1 : Int) - 1)) /\ y.cell? ⟨w.heap.size, 2, none⟩ = some (.int .i64 (dm S1 r1 0)) /\ y.cell? ⟨w.heap.size, 3, none⟩ = some (.int .i64 (dm S1 r1 1)) /\ y.cell? ⟨w.heap.size, 4, none⟩ = some (.int .i64 (dm S1 r1 2)) /\ y.cell? ⟨w.heap.size, 5, none⟩ = some (.int .i64 (dm S1 r1 3)) /\ y.cell? ⟨w.heap.size, 6, none⟩ = some (.int .i64 (dm S1 r1 4)) /\ y.cell? ⟨w.heap.size, 7, none⟩ = some (.int .i64 (dm S1 r1 5)) /\ y.cell? ⟨w.heap.size, 8, none⟩ = some (.int .i64 (dm S1 r1 6)) /\ y.cell? ⟨w.heap.size, 9, none⟩ = some (.int .i64 (dm S1 r1 7)) /\ y.cell? ⟨w.heap.size, 10, none⟩ = some (.slice na1 nn1 nc1) /\ y.cell? ⟨w.heap.size, 11, none⟩ = some (.slice ta1 tn1 tc1) /\ y.cell? ⟨w.heap.size + 1, 0, none⟩ = some (.bool true) /\ y.cell? ⟨w.heap.size + 1, 1, none⟩ = some (.int .i64 ((r2 : Int) - 1)) /\ y.cell? ⟨w.heap.size + 1, 2, none⟩ = some (.int .i64 (dm S2 r2 0)) /\ y.cell? ⟨w.heap.size + 1, 3, none⟩ = some (.int .i64 (dm S2 r2 1)) /\ y.cell? ⟨w.heap.size + 1, 4, none⟩ = some (.int .i64 (dm S2 r2 2)) /\ y.cell? ⟨w.heap.size + 1, 5, none⟩ = some (.int .i64 (dm S2 r2 3)) /\ y.cell? ⟨w.heap.size + 1, 6, none⟩ = some (.int .i64 (dm S2 r2 4)) /\ y.cell? ⟨w.heap.size + 1, 7, none⟩ = some (.int .i64 (dm S2 r2 5)) /\ y.cell? ⟨w.heap.size + 1, 8, none⟩ = some (.int .i64 (dm S2 r2 6)) /\ y.cell? ⟨w.heap.size + 1, 9, none⟩ = some (.int .i64 (dm S2 r2 7)) /\ y.cell? ⟨w.heap.size + 1, 10, none⟩ = some (.slice na2 nn2 nc2) /\ y.cell? ⟨w.heap.size + 1, 11, none⟩ = some (.slice ta2 tn2 tc2))
            (first
              | with_reducible exact HSF.out _ BD0.out
              | (have hq := HB6.out; with_reducible exact HSF.out _ hq)
              | (have hq := HB7.out; with_reducible exact HSF.out _ hq))
            (first
              | (go_at_call 49; (refine (IC1.out _).mono ?_); rintro e w6 ⟨rfl, hb6⟩; have HB6 : Hid (Below WW.heap.size WW w6) := Lib.hid (BD0.out.trans (hb6.mono BD0.out.size)))
              | (go_at_call 49; (refine (IC2.out _).mono ?_); rintro e w7 ⟨rfl, hb7⟩; have HB7 : Hid (Below WW.heap.size WW w7) := Lib.hid (HB6.out.trans (hb7.mono HB6.out.size))))
           have BB := Lib.hid (BB.out.go HB7.out)
           have HR := Lib.hid BB.out.now.1
           have HE := Lib.hid (MoTold.as HE1.out (MoTold.no (E := 22) (S := S1) (r := r1) (ch := false) (L := L1) (g := eC) (fP := eP) (fQ := eQ) (by decide) (below_put BB.out.below (show w.heap.size <= w.heap.size + 1 + 1 by omega) zerC)))
           clear HSF hb6 hb7
           go_wp2_with (refine st_arr rfl (.tmp 8) (.tmp 44) rfl (w.heap.size + 1 + 1) rfl false 0 (fun _ => 0) none 0 0 none 0 0 rfl HR.out rfl ?_)
           exact bodyPost_ret (res_arr2 Tryz.results16 rfl rfl (HR.out.put _) rfl) rfl HE.out
   · have dE : (F != 0) = true := bne_iff_ne.2 hf
     have HR := Lib.hid BB.out.now.1
     have e1 : seE 0 F m4 ch1 ch2 = F := by unfold seE; rw [if_neg (by decide), if_pos hf]
     have HE := Lib.hid (MoTold.as e1 (MoTold.no (S := S1) (r := r1) (ch := ch1) (L := L1) (g := eC) (fP := eP) (fQ := eQ) hf (below_put BB.out.below (show w.heap.size <= w.heap.size + 1 + 1 by omega) zerC)))
     clear e1 hf
     go_wp2_with (refine st_arr rfl (.tmp 8) (.tmp 31) rfl (w.heap.size + 1 + 1) rfl false 0 (fun _ => 0) none 0 0 none 0 0 rfl HR.out rfl ?_)
     exact bodyPost_ret (res_arr2 Tryz.results16 rfl rfl (HR.out.put _) rfl) rfl HE.out
 · have dE : (E != 0) = true := bne_iff_ne.2 h0
   have dE2 : (E == 0) = false := beq_eq_false_iff_ne.2 h0
   have HR := Lib.hid BB.out.now.1
   have e1 : seE E F M ch1 ch2 = E := by unfold seE; rw [if_pos h0]
   have HE := Lib.hid (MoTold.as e1 (MoTold.no (S := S1) (r := r1) (ch := ch1) (L := L1) (g := eC) (fP := eP) (fQ := eQ) h0 (below_put BB.out.below (show w.heap.size <= w.heap.size + 1 + 1 by omega) zerC)))
   clear h3 HZ SE h0 e1
   go_wp2_with (refine st_arr rfl (.tmp 8) (.tmp 31) rfl (w.heap.size + 1 + 1) rfl false 0 (fun _ => 0) none 0 0 none 0 0 rfl HR.out rfl ?_)
   exact bodyPost_ret (res_arr2 Tryz.results16 rfl rfl (HR.out.put _) rfl) rfl HE.out
end Go.Proofs.YtnpoakaffafdiaaGreatDoor
