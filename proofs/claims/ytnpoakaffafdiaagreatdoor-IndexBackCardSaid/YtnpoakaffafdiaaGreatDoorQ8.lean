/-
  Texts of this seat, laid together.
-/
import Derived.Deep.AppendLies
import Derived.ProofKit
import Derived.Carry
import Derived.Deep.Strs
import Derived.OpenShut
import Derived.Test.YtnpoakaffafdiaaGreatDoorRows
import Derived.Deep.Slices
import Derived.Lib.SmallJoins
import Derived.Lib.AppendZeros
import Derived.Deep.QuietTactic
import Derived.BigQuiet
import Derived.Deep.RegionHeld3
import Derived.Lib.MinMax
import Derived.Test.YtnpoakaffafdiaaGreatDoorQ1
import Derived.Test.YtnpoakaffafdiaaGreatDoorQ2
import Derived.Test.YtnpoakaffafdiaaGreatDoorQ3
import Derived.Test.YtnpoakaffafdiaaGreatDoorQ4
import Derived.Test.YtnpoakaffafdiaaGreatDoorQ5
import Derived.Test.YtnpoakaffafdiaaGreatDoorQ6
import Derived.Test.YtnpoakaffafdiaaGreatDoorQ7
set_option maxHeartbeats 12800000
set_option maxRecDepth 100000
set_option linter.unusedSimpArgs false
set_option linter.unusedVariables false
namespace Go.Proofs.YtnpoakaffafdiaaGreatDoor
open Go.RowKit
attribute [local go_sem ↓] Go.wp_at_zero Go.wp_at_succ
theorem MoTold.ok {E : Int} {S : Nat -> Int} {r : Nat} {ch : Bool} {L : Nat} {g fP : Nat -> Int} {fQ : Nat -> Nat} {w w' : World} {e : Ending} (h : MoTold E S r ch L g fP fQ w w' e) (hE : E = 0) : ∃ cs, e = .returned (.tuple #[.agg cs, .int .i64 0]) /\ Arr w' cs S r ch L g fP fQ /\ Below w.heap.size w w' := by
 obtain ⟨cs, he, h1, _, hb⟩ := h
 rw [hE] at he
 exact ⟨cs, he, h1 hE, hb⟩
theorem Bag.fresh {w y : World} (hb : Below w.heap.size w y) : Bag w (fun _ => True) y := ⟨hb, fun _ _ _ _ => trivial, trivial⟩
def PlJ (w : World) (p : Array Value) (l : List Int) (n : Nat) : Prop := ∀ T, Pln w p (fun _ => (n : Int)) 1 false n T (fun j => rB (lt l j)) (fun j => rS (lt l j)) (fun _ => str (dec 1))
theorem PlJ.below {w w' : World} {p : Array Value} {l : List Int} {n : Nat} (h : PlJ w p l n) (hb : Below w.heap.size w w') : PlJ w' p l n := fun T => (h T).below hb
theorem shownJ {w : World} {cs p : Array Value} {S : Nat -> Int} {L : Nat} {g fP : Nat -> Int} {fQ : Nat -> Nat} {l : List Int} (h : Arr w cs S 1 false L g fP fQ) (hp : PlJ w p l L) (hL : L <= 10) (hS : S 0 = (L : Int)) (hP : ∀ j, j < L -> fP j = lt l j /\ fQ j = 1 /\ (fP j).natAbs <= 100) : Shown w cs p := by
 refine ⟨S, 1, false, L, g, fP, fQ, fun _ => (L : Int), g, _, _, _, h, hp g, by omega, by omega, fun _ j hj => ?_, fun j hj => ?_, fun _ _ => rfl, fun j hj => ?_⟩
 · obtain ⟨e1, e2, e3⟩ := hP j hj
   rw [e2]
   refine ⟨by omega, ?_, by decide⟩
   have : (100 : Nat) < 4294967296 ^ 7 := by decide
   omega
 · obtain rfl : j = 0 := by omega
   exact hS
 · obtain ⟨e1, e2, e3⟩ := hP j hj
   rw [e1, e2]
   exact ⟨rfl, rfl, rfl⟩
def ArrA (w : World) (cs : Array Value) (S : Nat -> Int) (r : Nat) (ch : Bool) (L : Nat) (fP : Nat -> Int) (fQ : Nat -> Nat) : Prop := ∀ g, Arr w cs S r ch L g fP fQ
theorem ArrA.below {w w' : World} {cs : Array Value} {S : Nat -> Int} {r : Nat} {ch : Bool} {L : Nat} {fP : Nat -> Int} {fQ : Nat -> Nat} (h : ArrA w cs S r ch L fP fQ) (hb : Below w.heap.size w w') : ArrA w' cs S r ch L fP fQ := fun g => (h g).below hb
theorem ArrA.store {w : World} {cs : Array Value} {S : Nat -> Int} {r : Nat} {ch : Bool} {L : Nat} {fP : Nat -> Int} {fQ : Nat -> Nat} (h : ArrA w cs S r ch L fP fQ) {k : Nat} {t : TypeId} {z : Array Value} (hr : Row w k t z) (hz : IsA z) (cs' : Array Value) : ArrA (w.setRow k cs') cs S r ch L fP fQ := fun g => (h g).store hr hz cs'
theorem less3 {p : Nat -> Prop} (h0 : p 0) (h1 : p 1) (h2 : p 2) : ∀ j, j < 3 -> p j
 | 0, _ => h0
 | 1, _ => h1
 | 2, _ => h2
 | n + 3, h => absurd h (by omega)
theorem less2 {p : Nat -> Prop} (h0 : p 0) (h1 : p 1) : ∀ j, j < 2 -> p j
 | 0, _ => h0
 | 1, _ => h1
 | n + 2, h => absurd h (by omega)
end Go.Proofs.YtnpoakaffafdiaaGreatDoor
namespace Go.Proofs.YtnpoakaffafdiaaGreatDoor
open Go.RowKit
def MoR (w : World) (x : Array Value) (E : Int) (S : Nat -> Int) (r : Nat) (ch : Bool) (L : Nat) (g fP : Nat -> Int) (fQ : Nat -> Nat) : Prop := IsA x /\ (E = 0 -> Arr w x S r ch L g fP fQ) /\ (E ≠ 0 -> x = zerC)
theorem MoR.below {w w' : World} {x : Array Value} {E : Int} {S : Nat -> Int} {r : Nat} {ch : Bool} {L : Nat} {g fP : Nat -> Int} {fQ : Nat -> Nat} (h : MoR w x E S r ch L g fP fQ) (hb : Below w.heap.size w w') : MoR w' x E S r ch L g fP fQ := ⟨h.1, fun e => (h.2.1 e).below hb, h.2.2⟩
theorem MoR.store {w : World} {x : Array Value} {E : Int} {S : Nat -> Int} {r : Nat} {ch : Bool} {L : Nat} {g fP : Nat -> Int} {fQ : Nat -> Nat} (h : MoR w x E S r ch L g fP fQ) {k : Nat} {t : TypeId} {z : Array Value} (hr : Row w k t z) (hz : IsA z) (cs' : Array Value) : MoR (w.setRow k cs') x E S r ch L g fP fQ := ⟨h.1, fun e => (h.2.1 e).store hr hz cs', h.2.2⟩
theorem MoTold.res {E : Int} {S : Nat -> Int} {r : Nat} {ch : Bool} {L : Nat} {g fP : Nat -> Int} {fQ : Nat -> Nat} {w w' : World} {e : Ending} (h : MoTold E S r ch L g fP fQ w w' e) :
    ∃ x, e = .returned (.tuple #[.agg x, .int .i64 E]) /\ MoR w' x E S r ch L g fP fQ /\ Below w.heap.size w w' := by
 obtain ⟨x, he, h1, h2, hb⟩ := h
 refine ⟨x, he, ⟨?_, h1, h2⟩, hb⟩
 by_cases hE : E = 0
 · exact (h1 hE).isA
 · rw [h2 hE]
   exact IsA.zer
def IsP (p : Array Value) : Prop := ∃ sa sn sc ch ta tn tc na nn nc, p = plC sa sn sc ch ta tn tc na nn nc
theorem IsP.size {p : Array Value} (h : IsP p) : p.size = 4 := by
 obtain ⟨_, _, _, _, _, _, _, _, _, _, rfl⟩ := h
 rfl
def PoR (w : World) (p : Array Value) (E : Int) (S : Nat -> Int) (r : Nat) (ch : Bool) (L : Nat) (g : Nat -> Int) (fB : Nat -> Bool) (fS fT : Nat -> ByteArray) : Prop := IsP p /\ (E = 0 -> Pln w p S r ch L g fB fS fT)
theorem PoR.below {w w' : World} {p : Array Value} {E : Int} {S : Nat -> Int} {r : Nat} {ch : Bool} {L : Nat} {g : Nat -> Int} {fB : Nat -> Bool} {fS fT : Nat -> ByteArray} (h : PoR w p E S r ch L g fB fS fT) (hb : Below w.heap.size w w') : PoR w' p E S r ch L g fB fS fT := ⟨h.1, fun e => (h.2 e).below hb⟩
theorem PoR.put {w : World} {p : Array Value} {E : Int} {S : Nat -> Int} {r : Nat} {ch : Bool} {L : Nat} {g : Nat -> Int} {fB : Nat -> Bool} {fS fT : Nat -> ByteArray} (h : PoR w p E S r ch L g fB fS fT) {k : Nat} {t : TypeId} (hr : Row w k t plZer) (cs' : Array Value) : PoR (w.setRow k cs') p E S r ch L g fB fS fT := ⟨h.1, fun e => (h.2 e).put hr cs'⟩
theorem PoTold.res {E : Int} {S : Nat -> Int} {r : Nat} {ch : Bool} {L : Nat} {g : Nat -> Int} {fB : Nat -> Bool} {fS fT : Nat -> ByteArray} {w w' : World} {e : Ending} (h : PoTold E S r ch L g fB fS fT w w' e) :
    ∃ x, e = .returned (.tuple #[.agg x, .int .i64 E]) /\ PoR w' x E S r ch L g fB fS fT /\ Below w.heap.size w w' := by
 obtain ⟨x, he, h1, h2, hb⟩ := h
 refine ⟨x, he, ⟨?_, h1⟩, hb⟩
 by_cases hE : E = 0
 · obtain ⟨_, _, _, _, _, _, e, _⟩ := (h1 hE).form
   exact ⟨_, _, _, _, _, _, _, _, _, _, e⟩
 · rw [h2 hE]
   exact ⟨_, _, _, _, _, _, _, _, _, _, rfl⟩
def sls (A : Nat -> Option Addr) (C : Nat -> Nat) (L : Nat) : Nat -> List Value
 | 0 => []
 | k + 1 => sls A C L k ++ [.slice (A k) L (C k)]
theorem sls_length (A : Nat -> Option Addr) (C : Nat -> Nat) (L : Nat) : ∀ k, (sls A C L k).length = k
 | 0 => rfl
 | k + 1 => by unfold sls; rw [List.length_append, sls_length A C L k]; rfl
theorem sls_get (A : Nat -> Option Addr) (C : Nat -> Nat) (L : Nat) : ∀ k j, j < k -> (sls A C L k)[j]? = some (.slice (A j) L (C j))
 | 0, j, h => absurd h (Nat.not_lt_zero _)
 | k + 1, j, h => by
  have hl := sls_length A C L k
  unfold sls
  rcases Nat.lt_or_ge j k with h1 | h1
  · rw [List.getElem?_append_left (by omega)]
    exact sls_get A C L k j h1
  · obtain rfl : j = k := by omega
    rw [List.getElem?_append_right (by omega), hl, Nat.sub_self]
    rfl
def AllSt (y0 wr : World) (f : Nat -> Int) (i cnt : Nat) (v : Value) : Prop :=
 Below y0.heap.size y0 wr /\ ∃ A C, wr.ownsRow y0.heap.size 22 1 v cnt (sls A C (i + 1) cnt) /\ ∀ r, r < cnt -> KRow wr .i64 (A r) (i + 1) (C r) (dgs f (i + 1) (r : Nat)) /\ ∃ g, A r = some ⟨g, 0, none⟩
theorem AllSt.nought (y0 : World) (f : Nat -> Int) (i : Nat) : AllSt y0 y0 f i 0 (.slice none 0 0) := ⟨Below.refl _ _, fun _ => none, fun _ => 0, World.ownsRow_nil _ _ _ _, fun _ h => absurd h (Nat.not_lt_zero _)⟩
theorem AllSt.done {y0 wr : World} {f : Nat -> Int} {i cnt : Nat} {v : Value} (h : AllSt y0 wr f i cnt v) : ∃ la lc A C, v = .slice la cnt lc /\ LRow wr la cnt lc A (fun _ => i + 1) C (fun r => dgs f (i + 1) (r : Nat)) := by
 obtain ⟨_, A, C, ho, hk⟩ := h
 have hA : ∀ r, r < cnt -> A r ≠ none := fun r hr e => by
  obtain ⟨g, e2⟩ := (hk r hr).2
  rw [e] at e2
  cases e2
 rcases ho.2 with ⟨rfl, rfl⟩ | ⟨g, cap, cur, rfl, _, hh, h1, h2, _, _⟩
 · exact ⟨none, 0, A, C, rfl, Nat.le_refl _, Nat.zero_le _, .inl rfl⟩
 · refine ⟨some ⟨g, 0, none⟩, cap, A, C, rfl, h1, h2, .inr ⟨g, 0, rfl, Row.lt (t := 22) hh, fun j hj => ⟨?_, (hk j hj).1, fun e => absurd e (hA j hj)⟩⟩⟩
   have := ho.cells (g := g) rfl j _ (sls_get A C (i + 1) cnt j hj)
   rwa [show (⟨g, 0, none⟩ : Addr).add j = ⟨g, 0 + j, none⟩ by unfold Addr.add; split <;> simp_all] at this
end Go.Proofs.YtnpoakaffafdiaaGreatDoor
namespace Go.Proofs.YtnpoakaffafdiaaGreatDoor
open Go.RowKit
attribute [local go_sem ↓] Go.wp_at_zero Go.wp_at_succ
def LTo (w : World) (g n k : Nat) (N : Nat -> Nat) (F : Nat -> Nat -> Int) : Prop :=
 g < w.heap.size /\ Free w g /\ ∃ (A : Nat -> Option Addr) (C : Nat -> Nat), ∀ j, j < n -> (∃ z, w.cell? ⟨g, j, none⟩ = some z /\ ∀ ki x, z ≠ .int ki x) /\ (j < k -> w.cell? ⟨g, j, none⟩ = some (.slice (A j) (N j) (C j)) /\ KRow w .i64 (A j) (N j) (C j) (F j) /\ (A j = none -> C j = 0))
theorem LTo.below {w w' : World} {g n k : Nat} {N : Nat -> Nat} {F : Nat -> Nat -> Int} (h : LTo w g n k N F) (hb : Below w.heap.size w w') : LTo w' g n k N F := by
 obtain ⟨h1, h2, A, C, h3⟩ := h
 refine ⟨Nat.lt_of_lt_of_le h1 hb.size, h2.below hb h1, A, C, fun j hj => ?_⟩
 obtain ⟨⟨z, e1, e2⟩, e3⟩ := h3 j hj
 exact ⟨⟨z, (hb.cell (p := ⟨g, j, none⟩) h1).trans e1, e2⟩, fun hk => ⟨(hb.cell (p := ⟨g, j, none⟩) h1).trans (e3 hk).1, (e3 hk).2.1.below hb, (e3 hk).2.2⟩⟩
theorem LTo.place {w : World} {g n k : Nat} {N : Nat -> Nat} {F : Nat -> Nat -> Int} (h : LTo w g n k N F) {j : Nat} (hj : j < n) : (∃ z, w.cell? ⟨g, j, none⟩ = some z /\ ∀ ki x, z ≠ .int ki x) /\ w.frozen? ⟨g, j, none⟩ = false := by
 obtain ⟨h1, h2, A, C, h3⟩ := h
 exact ⟨(h3 j hj).1, h2 j⟩
theorem LTo.put {w : World} {g n k : Nat} {N N' : Nat -> Nat} {F F' : Nat -> Nat -> Int} (h : LTo w g n k N F) {i : Nat} (hi : i < n) {a : Option Addr} {c : Nat} (hr : KRow w .i64 a (N' i) c (F' i)) (ha : a = none -> c = 0) : ∀ k', (∀ j, j < k' -> j ≠ i -> j < k /\ N' j = N j /\ F' j = F j) -> LTo (w.setCell ⟨g, i, none⟩ (.slice a (N' i) c)) g n k' N' F' := by
 intro k' hk'
 obtain ⟨h1, h2, A, C, h3⟩ := h
 obtain ⟨⟨z0, q1, q2⟩, _⟩ := h3 i hi
 refine ⟨by simpa using h1, h2.set _ _, (fun j => if j = i then a else A j), (fun j => if j = i then c else C j), fun j hj => ?_⟩
 obtain ⟨⟨z, e1, e2⟩, e3⟩ := h3 j hj
 by_cases e : j = i
 · subst e
   have hs := World.cell?_setCell_same w ⟨g, j, none⟩ (.slice a (N' j) c) e1
   refine ⟨⟨_, hs, fun _ _ h => by cases h⟩, fun _ => ?_⟩
   simp only [if_true]
   exact ⟨hs, hr.setAt q1 (fun z => q2 _ z) _, ha⟩
 · have hs : (w.setCell ⟨g, i, none⟩ (.slice a (N' i) c)).cell? ⟨g, j, none⟩ = w.cell? ⟨g, j, none⟩ := World.cell?_setCell_other _ _ _ _ (fun h => by injection h with _ h; omega)
   refine ⟨⟨z, hs.trans e1, e2⟩, fun hk => ?_⟩
   simp only [if_neg e]
   obtain ⟨h4, h5, h6⟩ := hk' j hk e
   obtain ⟨q3, q4, q5⟩ := e3 h4
   rw [h5, h6]
   exact ⟨hs.trans q3, q4.setAt q1 (fun z => q2 _ z) _, q5⟩
theorem LTo.step {w : World} {g n k : Nat} {N : Nat -> Nat} {F : Nat -> Nat -> Int} (h : LTo w g n k N F) (hk : k < n) {a : Addr} {c : Nat} (hr : KRow w .i64 (some a) (N k) c (F k)) : LTo (w.setCell ⟨g, k, none⟩ (.slice (some a) (N k) c)) g n (k + 1) N F :=
 h.put hk hr (fun e => by cases e) (k + 1) (fun j hj hne => ⟨by omega, rfl, rfl⟩)
theorem LTo.done {w : World} {g n : Nat} {N : Nat -> Nat} {F : Nat -> Nat -> Int} (h : LTo w g n n N F) (hn : n <= maxLen) : ∃ A C, LRow w (some ⟨g, 0, none⟩) n n A N C F := by
 obtain ⟨h1, h2, A, C, h3⟩ := h
 refine ⟨A, C, Nat.le_refl _, hn, .inr ⟨g, 0, rfl, h1, fun j hj => ?_⟩⟩
 obtain ⟨_, e3⟩ := h3 j hj
 obtain ⟨e4, e5, e6⟩ := e3 hj
 rw [Nat.zero_add]
 exact ⟨e4, e5, e6⟩
theorem LTo.made (w : World) (n : Nat) (t : TypeId) (N : Nat -> Nat) (F : Nat -> Nat -> Int) {mc : Array Value} (hmc : mc = madeCells (Value.cells (.slice none 0 0)) n) : LTo (w.alloc (.cells mc t)) w.heap.size n 0 N F := by
 subst hmc
 have hR := Row.new w t (madeCells (Value.cells (.slice none 0 0)) n)
 refine ⟨hR.lt, fun o => hR.free o, fun _ => none, fun _ => 0, fun j hj => ⟨⟨.slice none 0 0, ?_, fun _ _ h => by cases h⟩, fun h => absurd h (Nat.not_lt_zero _)⟩⟩
 rw [hR.cell]
 unfold madeCells
 rw [Array.getElem?_map, Array.getElem?_range, if_pos (by omega), Option.map_some]
 simp [Value.cells, Nat.mod_one]
end Go.Proofs.YtnpoakaffafdiaaGreatDoor
namespace Go.Proofs.YtnpoakaffafdiaaGreatDoor
open Go.RowKit
theorem KRow.part {w : World} {ki : IntKind} {a : Option Addr} {n c : Nat} {f : Nat -> Int} (h : KRow w ki a n c f) {l m : Nat} (hm : l + m <= n) : KRow w ki (if c = l then a else a.map (·.add (l * 1))) m (c - l) (shf f l) := by
 have h1 := h.1
 have h2 := h.2.1
 rcases Nat.eq_zero_or_pos m with h0 | h0
 · subst h0
   exact ⟨Nat.zero_le _, by omega, .inl rfl⟩
 · rw [if_neg (by omega)]
   rcases h.2.2 with h3 | ⟨b, off, rfl, hb, hc⟩
   · omega
   · refine ⟨by omega, by omega, .inr ⟨b, off + l, by simp [Addr.add], hb, fun j hj => ?_⟩⟩
     rw [show off + l + j = off + (l + j) by omega]
     exact hc (l + j) (by omega)
theorem RRow.part {w : World} {a : Option Addr} {n c : Nat} {fP : Nat -> Int} {fQ : Nat -> Nat} (h : RRow w a n c fP fQ) {l m : Nat} (hm : l + m <= n) : RRow w (if c = l then a else a.map (·.add (l * 3))) m (c - l) (shf fP l) (fun j => fQ (l + j)) := by
 have h1 := h.1
 have h2 := h.2.1
 rcases Nat.eq_zero_or_pos m with h0 | h0
 · subst h0
   exact ⟨Nat.zero_le _, by omega, .inl rfl⟩
 · rw [if_neg (by omega)]
   rcases h.2.2 with h3 | ⟨b, off, rfl, hb, hc⟩
   · omega
   · refine ⟨by omega, by omega, .inr ⟨b, off + l * 3, by simp [Addr.add], hb, fun j hj => ?_⟩⟩
     obtain ⟨a', n', c', m', a2', n2', c2', e1, e2, e3, e4⟩ := hc (l + j) (by omega)
     refine ⟨a', n', c', m', a2', n2', c2', ?_, ?_, ?_, e4⟩
     · rw [show off + l * 3 + j * 3 = off + (l + j) * 3 by omega]; exact e1
     · rw [show off + l * 3 + j * 3 + 1 = off + (l + j) * 3 + 1 by omega]; exact e2
     · rw [show off + l * 3 + j * 3 + 2 = off + (l + j) * 3 + 2 by omega]; exact e3
def OwnC (y0 w : World) (a : Option Addr) (k c : Nat) (f : Nat -> Int) : Prop := Below y0.heap.size y0 w /\ w.ownsRow y0.heap.size 21 1 (.slice a k c) k (kcs .i32 f k)
theorem OwnC.krow {y0 w : World} {a : Option Addr} {k c : Nat} {f : Nat -> Int} (h : OwnC y0 w a k c f) : KRow w .i32 a k c f := by
 obtain ⟨a', c', e, q⟩ := KRow.of_own h.2
 cases e
 exact q
theorem OwnC.go {y0 w w' : World} {a : Option Addr} {k c : Nat} {f : Nat -> Int} (h : OwnC y0 w a k c f) (hb : Below w.heap.size w w') : OwnC y0 w' a k c f := ⟨h.1.trans (hb.mono h.1.size), own_below h.2 hb⟩
def OwnR (y0 w : World) (a : Option Addr) (k c : Nat) (fP : Nat -> Int) (fQ : Nat -> Nat) : Prop := Below y0.heap.size y0 w /\ ∃ xs, w.ownsRow y0.heap.size 60 3 (.slice a k c) k xs /\
 ∀ j, j < k -> ∃ a' n' c' m' a2' n2' c2', xs[j * 3]? = some (.slice a' n' c') /\ xs[j * 3 + 1]? = some (.bool m') /\ xs[j * 3 + 2]? = some (.slice a2' n2' c2') /\ RatAt y0 a' n' c' m' a2' n2' c2' (fP j) (fQ j)
theorem OwnR.go {y0 w w' : World} {a : Option Addr} {k c : Nat} {fP : Nat -> Int} {fQ : Nat -> Nat} (h : OwnR y0 w a k c fP fQ) (hb : Below w.heap.size w w') : OwnR y0 w' a k c fP fQ := by
 obtain ⟨h1, xs, h2, h3⟩ := h
 exact ⟨h1.trans (hb.mono h1.size), xs, own_below h2 hb, h3⟩
theorem OwnR.rrow {y0 w : World} {a : Option Addr} {k c : Nat} {fP : Nat -> Int} {fQ : Nat -> Nat} (h : OwnR y0 w a k c fP fQ) : RRow w a k c fP fQ := by
 obtain ⟨hb, xs, h1, h3⟩ := h
 rcases h1.2 with ⟨e, h0⟩ | ⟨g, cap, cur, e, _, hh, l1, l2, _, _⟩
 · cases e
   exact RRow.nought _ _ _ (Nat.zero_le _) _ _
 · cases e
   refine ⟨l1, l2, .inr ⟨g, 0, rfl, Row.lt (t := 60) hh, fun j hj => ?_⟩⟩
   have hc : ∀ i u, xs[i]? = some u -> w.cell? ⟨g, 0 + i, none⟩ = some u := fun i u hu => by
    have := h1.cells (g := g) rfl i u hu
    rwa [show (⟨g, 0, none⟩ : Addr).add i = ⟨g, 0 + i, none⟩ by unfold Addr.add; split <;> simp_all] at this
   obtain ⟨a', n', c', m', a2', n2', c2', e1, e2, e3, e4⟩ := h3 j hj
   exact ⟨a', n', c', m', a2', n2', c2', hc _ _ e1, by rw [show 0 + j * 3 + 1 = 0 + (j * 3 + 1) by omega]; exact hc _ _ e2, by rw [show 0 + j * 3 + 2 = 0 + (j * 3 + 2) by omega]; exact hc _ _ e3, e4.below hb⟩
end Go.Proofs.YtnpoakaffafdiaaGreatDoor
namespace Go.Proofs.YtnpoakaffafdiaaGreatDoor
open Go.RowKit
attribute [local go_sem ↓] Go.wp_at_zero Go.wp_at_succ
def SRow (w : World) (sa : Option Addr) (n c : Nat) (D : Nat -> Sb) : Prop := n <= c /\ c <= maxLen /\ (n = 0 ∨ ∃ b off, sa = some ⟨b, off, none⟩ /\ b < w.heap.size /\
 ∀ j, j < n -> ∃ na nn nc ta tn tc, w.rangeAt b (off + j * 13) (subC (D j).al (D j).ch (((D j).r : Nat) - 1) (dm (D j).S (D j).r) na nn nc ta tn tc).toList /\ Arr w (arrC (D j).ch (((D j).r : Nat) - 1) (dm (D j).S (D j).r) na nn nc ta tn tc) (D j).S (D j).r (D j).ch (D j).L (D j).g (D j).P (D j).Q)
theorem range_below {w w' : World} {b o : Nat} {cs : List Value} (h : w.rangeAt b o cs) (hb : Below w.heap.size w w') (hl : b < w.heap.size) : w'.rangeAt b o cs := fun j v hj => (hb.cell (p := ⟨b, o + j, none⟩) hl).trans (h j v hj)
theorem SRow.below {w w' : World} {sa : Option Addr} {n c : Nat} {D : Nat -> Sb} (h : SRow w sa n c D) (hb : Below w.heap.size w w') : SRow w' sa n c D := by
 obtain ⟨h0, h1, h2⟩ := h
 refine ⟨h0, h1, h2.imp id ?_⟩
 rintro ⟨b, off, rfl, hl, hc⟩
 refine ⟨b, off, rfl, Nat.lt_of_lt_of_le hl hb.size, fun j hj => ?_⟩
 obtain ⟨na, nn, nc, ta, tn, tc, e1, e2⟩ := hc j hj
 exact ⟨na, nn, nc, ta, tn, tc, range_below e1 hb hl, e2.below hb⟩
theorem SRow.get {w : World} {sa : Option Addr} {n c : Nat} {D : Nat -> Sb} (h : SRow w sa n c D) {j : Nat} (hj : j < n) :
    ∃ b off na nn nc ta tn tc, sa = some ⟨b, off, none⟩ /\ b < w.heap.size /\ w.rangeAt b (off + j * 13) (subC (D j).al (D j).ch (((D j).r : Nat) - 1) (dm (D j).S (D j).r) na nn nc ta tn tc).toList /\ Arr w (arrC (D j).ch (((D j).r : Nat) - 1) (dm (D j).S (D j).r) na nn nc ta tn tc) (D j).S (D j).r (D j).ch (D j).L (D j).g (D j).P (D j).Q := by
 obtain ⟨h0, h1, h2⟩ := h
 rcases h2 with h2 | ⟨b, off, rfl, hl, hc⟩
 · omega
 · obtain ⟨na, nn, nc, ta, tn, tc, e⟩ := hc j hj
   exact ⟨b, off, na, nn, nc, ta, tn, tc, rfl, hl, e⟩
theorem SRow.len {w : World} {sa : Option Addr} {n c : Nat} {D : Nat -> Sb} (h : SRow w sa n c D) : n <= c /\ c <= 9223372036854775807 := by
 have h1 := h.1
 have h2 := h.2.1
 unfold maxLen at h2
 exact ⟨h1, by omega⟩
theorem Bag.srow {w0 w : World} {B : World -> Prop} {sa : Option Addr} {n c : Nat} {D : Nat -> Sb} (h : Bag w0 B w) (q : SRow w sa n c D) : Bag w0 (fun y => SRow y sa n c D /\ B y) w := h.add (fun _ _ hb q => SRow.below q hb) q
theorem Row.range {w : World} {g o : Nat} {t : TypeId} {cs : Array Value} {l : List Value} (h : Row w g t cs) (e : ∀ j v, l[j]? = some v -> cs[o + j]? = some v) : w.rangeAt g o l := fun j v hj => (h.cell (o + j)).trans (e j v hj)
theorem ld_sub {ops : Array Oper} {rest : List Oper} {o : Oper} {a : Act} {w : World} {Q : Exit -> Act -> World -> Prop} (hgd : o.guard = none) (x : Operand) (ho : o.op = .load 79 x) (b off : Nat) (hx : a.eval x = .pointer (some ⟨b, off, none⟩))
    {al ch : Bool} {more : Int} {d : Nat -> Int} {na : Option Addr} {nn nc : Nat} {ta : Option Addr} {tn tc : Nat} (hc : w.rangeAt b off (subC al ch more d na nn nc ta tn tc).toList)
    (h : wpList Tryz.prog ops Q rest (a.put o.dst (.agg (subC al ch more d na nn nc ta tn tc))) w) : wpList Tryz.prog ops Q (o :: rest) a w :=
 wpList_load_mid hgd _ x ho b off hx _ _ hc Tryz.underlying79 rfl sub13 h
theorem ld_arrM {ops : Array Oper} {rest : List Oper} {o : Oper} {a : Act} {w : World} {Q : Exit -> Act -> World -> Prop} (hgd : o.guard = none) (x : Operand) (ho : o.op = .load 36 x) (g : Nat) (hx : a.eval x = .pointer (some ⟨g, 1, none⟩))
    {al ch : Bool} {more : Int} {d : Nat -> Int} {na : Option Addr} {nn nc : Nat} {ta : Option Addr} {tn tc : Nat} (hg : Row w g 79 (subC al ch more d na nn nc ta tn tc))
    (h : wpList Tryz.prog ops Q rest (a.put o.dst (.agg (arrC ch more d na nn nc ta tn tc))) w) : wpList Tryz.prog ops Q (o :: rest) a w := by
 refine wpList_load_mid hgd _ x ho g 1 hx (arrC ch more d na nn nc ta tn tc).toList _ (hg.range (fun j v hj => ?_)) Tryz.underlying36 rfl arr12 h
 unfold subC
 unfold arrC at hj
 rw [Nat.add_comm]
 simpa using hj
theorem st_subN {ops : Array Oper} {rest : List Oper} {o : Oper} {a : Act} {w : World} {Q : Exit -> Act -> World -> Prop} (hgd : o.guard = none) (x y : Operand) (ho : o.op = .store 79 x y) (hx : a.eval x = .pointer (some ⟨w.heap.size, 0, none⟩))
    (al ch : Bool) (more : Int) (d : Nat -> Int) (na : Option Addr) (nn nc : Nat) (ta : Option Addr) (tn tc : Nat) (hy : a.eval y = .agg (subC al ch more d na nn nc ta tn tc)) {old : Array Value} (ho2 : old.size = 13)
    (h : ∀ Y, Row Y w.heap.size 79 (subC al ch more d na nn nc ta tn tc) -> Below w.heap.size w Y -> wpList Tryz.prog ops Q rest (a.put o.dst undef) Y) : wpList Tryz.prog ops Q (o :: rest) a (w.alloc (.cells old 79)) :=
 wpList_store_row hgd _ x y ho w.heap.size _ hx hy _ old (Row.new w _ old) sub13 ho2 (by simp [subC, Value.oneCell']) (h _ ((Row.new w _ old).put _) (below_put ((Below.refl _ _).alloc (Nat.le_refl _) _) (Nat.le_refl _) _))
def NTo (w : World) (g n k : Nat) (D : Nat -> Sb) : Prop := g < w.heap.size /\ Free w g /\ ∀ j, j < n -> ∃ A m C, w.cell? ⟨g, j, none⟩ = some (.slice A m C) /\ (j < k -> (D j).al = false -> m = (D j).L /\ KRow w .i64 A m C (D j).P)
theorem NTo.below {w w' : World} {g n k : Nat} {D : Nat -> Sb} (h : NTo w g n k D) (hb : Below w.heap.size w w') : NTo w' g n k D := by
 obtain ⟨h1, h2, h3⟩ := h
 refine ⟨Nat.lt_of_lt_of_le h1 hb.size, h2.below hb h1, fun j hj => ?_⟩
 obtain ⟨A, m, C, e1, e2⟩ := h3 j hj
 exact ⟨A, m, C, (hb.cell (p := ⟨g, j, none⟩) h1).trans e1, fun hk ha => ⟨(e2 hk ha).1, (e2 hk ha).2.below hb⟩⟩
theorem NTo.place {w : World} {g n k : Nat} {D : Nat -> Sb} (h : NTo w g n k D) {j : Nat} (hj : j < n) : (∃ A m C, w.cell? ⟨g, j, none⟩ = some (.slice A m C)) /\ w.frozen? ⟨g, j, none⟩ = false := by
 obtain ⟨h1, h2, h3⟩ := h
 obtain ⟨A, m, C, e1, _⟩ := h3 j hj
 exact ⟨⟨A, m, C, e1⟩, h2 j⟩
theorem NTo.skip {w : World} {g n k : Nat} {D : Nat -> Sb} (h : NTo w g n k D) (ha : (D k).al = true) : NTo w g n (k + 1) D := by
 obtain ⟨h1, h2, h3⟩ := h
 refine ⟨h1, h2, fun j hj => ?_⟩
 obtain ⟨A, m, C, e1, e2⟩ := h3 j hj
 refine ⟨A, m, C, e1, fun hk hf => e2 ?_ hf⟩
 have : j ≠ k := fun e => by rw [e, ha] at hf; cases hf
 omega
theorem NTo.step {w : World} {g n k : Nat} {D : Nat -> Sb} (h : NTo w g n k D) (hk : k < n) {a : Option Addr} {m c : Nat} (hm : m = (D k).L) (hr : KRow w .i64 a m c (D k).P) : NTo (w.setCell ⟨g, k, none⟩ (.slice a m c)) g n (k + 1) D := by
 obtain ⟨h1, h2, h3⟩ := h
 obtain ⟨A0, m0, C0, q1, _⟩ := h3 k hk
 refine ⟨by simpa using h1, h2.set _ _, fun j hj => ?_⟩
 obtain ⟨A, m', C, e1, e2⟩ := h3 j hj
 by_cases e : j = k
 · subst e
   exact ⟨a, m, c, World.cell?_setCell_same w ⟨g, j, none⟩ _ e1, fun _ _ => ⟨hm, hr.setAt q1 (fun _ h => by cases h) _⟩⟩
 · exact ⟨A, m', C, (World.cell?_setCell_other _ _ _ _ (fun h => by injection h with _ h; omega)).trans e1, fun hk2 ha => ⟨(e2 (by omega) ha).1, (e2 (by omega) ha).2.setAt q1 (fun _ h => by cases h) _⟩⟩
theorem NTo.made (w : World) (n : Nat) (t : TypeId) (D : Nat -> Sb) {mc : Array Value} (hmc : mc = madeCells (Value.cells (.slice none 0 0)) n) : NTo (w.alloc (.cells mc t)) w.heap.size n 0 D := by
 obtain ⟨h1, h2, A, C, h3⟩ := LTo.made w n t (fun _ => 0) (fun _ _ => 0) hmc
 subst hmc
 have hR := Row.new w t (madeCells (Value.cells (.slice none 0 0)) n)
 refine ⟨h1, h2, fun j hj => ⟨none, 0, 0, ?_, fun h => absurd h (Nat.not_lt_zero _)⟩⟩
 rw [hR.cell]
 unfold madeCells
 rw [Array.getElem?_map, Array.getElem?_range, if_pos (by omega), Option.map_some]
 simp [Value.cells, Nat.mod_one]
def NRow (w : World) (a : Option Addr) (n c : Nat) (D : Nat -> Sb) : Prop := ∃ g, a = some ⟨g, 0, none⟩ /\ n <= c /\ c <= 1000000 /\ NTo w g n n D
theorem NRow.below {w w' : World} {a : Option Addr} {n c : Nat} {D : Nat -> Sb} (h : NRow w a n c D) (hb : Below w.heap.size w w') : NRow w' a n c D := by
 obtain ⟨g, h1, h2, h3, h4⟩ := h
 exact ⟨g, h1, h2, h3, h4.below hb⟩
def RdTold (b : Bool) (n : Nat) (D : Nat -> Sb) (w w' : World) (e : Ending) : Prop :=
 ∃ a m c, e = .returned (.tuple #[.slice a m c, .bool b]) /\ (if b then m = n /\ NRow w' a n c D else a = none /\ m = 0 /\ c = 0) /\ Below w.heap.size w w'
theorem iread_any (sa : Option Addr) (n c : Nat) (D : Nat -> Sb) (w : World) (h : SRow w sa n c D) (hok : ∀ j, j < n -> (D j).ok) (hn : n <= 1000) :
    Calls Tryz.prog 88 #[.slice sa n c] w fun e w' => RdTold (allB (fun j => (D j).wh) n) n D w w' e := by
 obtain ⟨i0, hi, hz0, hz1, hz2⟩ := info_parts infoL
 have hmk := fun wz => run_make (P := Tryz.prog) wz 90 22 i0 _ Tryz.underlying90 hi hz0 .i64 .i64 n n (by omega) (by omega) (by rw [hz2]; omega) (by omega)
 simp only [Int.toNat_natCast, hz1, Nat.mul_one] at hmk
 have hl := h.len
 have HS := Lib.hid h
 have HOK := Lib.hid hok
 have H0 : Hid (Below w.heap.size w (w.alloc (.cells (madeCells (Value.cells (.slice none 0 0)) n) 22)) /\ NTo (w.alloc (.cells (madeCells (Value.cells (.slice none 0 0)) n) 22)) w.heap.size n 0 D) :=
  Lib.hid ⟨(Below.refl _ _).alloc (Nat.le_refl _) _, NTo.made w n 22 D rfl⟩
 have hnn : (0 : Int) <= n := by omega
 clear hi hz0 hz1 hz2 h hok
 go_enter Tryz.func88, Tryz.ntmps88
 go_wp2_with fail
 go_loopw [13] (fun i wr => ∃ k : Nat, k <= n /\ i = .int .i64 k /\ Hid (Below w.heap.size w wr /\ NTo wr w.heap.size n k D /\ allB (fun j => (D j).wh) k = true)) (fun i _ => n - (intOf i).toNat)
 case atStart => exact ⟨0, by omega, rfl, H0.out.1, H0.out.2, rfl⟩
 case round =>
  obtain ⟨k, hk, rfl, hrel⟩ := hrel
  obtain ⟨hbl, hto, hwh⟩ := hrel.out
  by_cases hlt : k < n
  · have hk0 : (0 : Int) <= k := by omega
    have hk1 : (k : Int) < n := by omega
    obtain ⟨b, off, na, nn, nc, ta, tn, tc, rfl, hlb, hrg, harr⟩ := (HS.out.below hbl).get hlt
    have HRG := Lib.hid hrg
    have HAR := Lib.hid harr
    have HBL := Lib.hid hbl
    have HTO := Lib.hid hto
    have HWH := Lib.hid hwh
    have hok := HOK.out k hlt
    have HOKK := Lib.hid hok
    cases hal : (D k).al with
    | true =>
     rw [hal] at HRG
     have HALL : Hid (∀ y, Below wr.heap.size wr y -> Below w.heap.size w y /\ NTo y w.heap.size n (k + 1) D /\ allB (fun j => (D j).wh) (k + 1) = true) := Lib.hid (fun y hb => ⟨HBL.out.trans (hb.mono HBL.out.size), (HTO.out.below hb).skip hal, by
      show (allB (fun j => (D j).wh) k && (D k).wh) = true
      rw [HWH.out]
      unfold Sb.wh
      rw [hal]; rfl⟩)
     clear hrel hbl hto hwh hrg harr hok hal HTO HWH HOKK
     generalize (D k).ch = ch at *
     generalize (((D k).r : Nat) : Int) - 1 = more at *
     generalize dm (D k).S (D k).r = d at *
     go_wp2_with (first
      | (refine ld_sub rfl (.tmp 16) rfl b (off + k * 13) rfl HRG.out ?_)
      | (refine st_subN rfl (.tmp 6) (.tmp 17) rfl rfl true ch more d na nn nc ta tn tc rfl rfl ?_; intro Y hY hbY; have h0 : Y.cell? ⟨wr.heap.size, 0, none⟩ = some (.bool true) := hY.cell 0; have HN := Lib.hid (HALL.out Y hbY); clear hY hbY))
     go_roundw
     case rel => exact ⟨k + 1, by omega, by go_num, HN.out⟩
     case measure => simp [intOf]; omega
    | false =>
     rw [hal] at HRG
     obtain ⟨ch, hch⟩ : ∃ x, (D k).ch = x := ⟨_, rfl⟩
     obtain ⟨more, hmore⟩ : ∃ x, (((D k).r : Nat) : Int) - 1 = x := ⟨_, rfl⟩
     obtain ⟨d, hd⟩ : ∃ x, dm (D k).S (D k).r = x := ⟨_, rfl⟩
     have WH : Hid (∀ y, Below wr.heap.size wr y -> Calls Tryz.prog 140 #[.agg (arrC ch more d na nn nc ta tn tc)] y fun e w' => WhTold (whC (D k).ch (D k).L (D k).P (D k).Q) (D k).L (D k).P y w' e) := Lib.hid (fun y hb => by
      rw [← hch, ← hmore, ← hd]
      exact whole8_any _ (D k).S (D k).r (D k).ch (D k).L (D k).g (D k).P (D k).Q y (HAR.out.below hb) HOKK.out.2.2.2 (by have := HOKK.out.2.2.1; omega))
     rw [hch, hmore, hd] at HRG
     cases hw : whC (D k).ch (D k).L (D k).P (D k).Q with
     | true =>
      rw [hw] at WH
      have HALL : Hid (allB (fun j => (D j).wh) (k + 1) = true) := Lib.hid (by
       show (allB (fun j => (D j).wh) k && (D k).wh) = true
       rw [HWH.out]
       unfold Sb.wh
       rw [hw, Bool.or_true]; rfl)
      clear hrel hbl hto hwh hrg harr hok hal HWH HOKK HAR hw hch hmore hd
      go_wp2_with (first
       | (refine ld_sub rfl (.tmp 16) rfl b (off + k * 13) rfl HRG.out ?_)
       | (refine st_subN rfl (.tmp 6) (.tmp 17) rfl rfl false ch more d na nn nc ta tn tc rfl rfl ?_; intro Y hY hbY; have h0 : Y.cell? ⟨wr.heap.size, 0, none⟩ = some (.bool false) := hY.cell 0; have HY := Lib.hid hY; have HBY := Lib.hid hbY; clear hY hbY)
       | (refine ld_arrM rfl (.tmp 23) rfl wr.heap.size rfl HY.out ?_))
      go_at_call 140
      (with_reducible refine (WH.out _ HBY.out).mono ?_)
      rintro e w2 ⟨a, m, c2, rfl, h2, hb2⟩
      rw [if_pos rfl] at h2
      have hb3 := HBY.out.trans (hb2.mono HBY.out.size)
      have hto2 := HTO.out.below hb3
      obtain ⟨⟨A9, m9, C9, x1⟩, y1⟩ := hto2.place hlt
      have HN : Hid (Below w.heap.size w (w2.setCell ⟨w.heap.size, k, none⟩ (.slice a m c2)) /\ NTo (w2.setCell ⟨w.heap.size, k, none⟩ (.slice a m c2)) w.heap.size n (k + 1) D /\ allB (fun j => (D j).wh) (k + 1) = true) :=
       Lib.hid ⟨(HBL.out.trans (hb3.mono HBL.out.size)).setCell (p := ⟨w.heap.size, k, none⟩) (Nat.le_refl _) _, hto2.step hlt h2.1 (by rw [h2.1]; exact h2.2), HALL.out⟩
      clear h2 hb2 hb3 hto2 h0
      go_wp2_with fail
      go_roundw
      case rel => exact ⟨k + 1, by omega, by go_num, HN.out⟩
      case measure => simp [intOf]; omega
     | false =>
      rw [hw] at WH
      have HNO : Hid (allB (fun j => (D j).wh) n = false) := Lib.hid (allB_no hlt (by show (D k).wh = false; unfold Sb.wh; rw [hal, hw]; rfl))
      clear hrel hbl hto hwh hrg harr hok hal HWH HOKK HAR hw hch hmore hd
      go_wp2_with (first
       | (refine ld_sub rfl (.tmp 16) rfl b (off + k * 13) rfl HRG.out ?_)
       | (refine st_subN rfl (.tmp 6) (.tmp 17) rfl rfl false ch more d na nn nc ta tn tc rfl rfl ?_; intro Y hY hbY; have h0 : Y.cell? ⟨wr.heap.size, 0, none⟩ = some (.bool false) := hY.cell 0; have HY := Lib.hid hY; have HBY := Lib.hid hbY; clear hY hbY)
       | (refine ld_arrM rfl (.tmp 23) rfl wr.heap.size rfl HY.out ?_))
      go_at_call 140
      (with_reducible refine (WH.out _ HBY.out).mono ?_)
      rintro e w2 ⟨a, m, c2, rfl, h2, hb2⟩
      rw [if_neg (by decide)] at h2
      obtain ⟨rfl, rfl, rfl⟩ := h2
      have hb3 := HBY.out.trans (hb2.mono HBY.out.size)
      have hto2 := HTO.out.below hb3
      obtain ⟨⟨A9, m9, C9, x1⟩, y1⟩ := hto2.place hlt
      have HE : Hid (RdTold (allB (fun j => (D j).wh) n) n D w (w2.setCell ⟨w.heap.size, k, none⟩ (.slice none 0 0)) (.returned (.tuple #[.slice none 0 0, .bool false]))) := Lib.hid (by
       rw [HNO.out]
       exact ⟨_, _, _, rfl, by rw [if_neg (by decide)]; exact ⟨rfl, rfl, rfl⟩, (HBL.out.trans (hb3.mono HBL.out.size)).setCell (p := ⟨w.heap.size, k, none⟩) (Nat.le_refl _) _⟩)
      clear hb2 hb3 hto2 h0
      go_wp2_with fail
      exact bodyPost_ret (by simp [results, Tryz.results88, go_sem]) rfl HE.out
  · obtain rfl : k = n := by omega
    have HE : Hid (RdTold (allB (fun j => (D j).wh) k) k D w wr (.returned (.tuple #[.slice (some ⟨w.heap.size, 0, none⟩) k k, .bool true]))) := Lib.hid (by
     rw [hwh]
     exact ⟨_, _, _, rfl, by rw [if_pos rfl]; exact ⟨rfl, _, rfl, Nat.le_refl _, by omega, hto⟩, hbl⟩)
    clear hrel hbl hto hwh
    go_wp2
    exact bodyPost_ret (by simp [results, Tryz.results88, go_sem]) rfl HE.out
theorem ijoined_any (a1 : Option Addr) (n c1 : Nat) (S : Nat -> Int) (sa : Option Addr) (c : Nat) (D : Nat -> Sb) (w : World) (h1 : KRow w .i64 a1 n c1 S) (h : SRow w sa n c D) (hok : ∀ j, j < n -> (D j).ok) (hn : n <= 8) :
    Calls Tryz.prog 90 #[.slice a1 n c1, .slice sa n c] w fun e w' => ∃ a' c', e = .returned (.slice a' (ixR D n) c') /\ KRow w' .i64 a' (ixR D n) c' (ixT S D n) /\ Below w.heap.size w w' := by
 obtain ⟨i0, hi, hz0, hz1, hz2⟩ := info_parts infoL
 have hmk := fun wz => run_make (P := Tryz.prog) wz 90 22 i0 _ Tryz.underlying90 hi hz0 .i64 .i64 n n (by omega) (by omega) (by rw [hz2]; omega) (by omega)
 simp only [Int.toNat_natCast, hz1, Nat.mul_one] at hmk
 have hl := h.len
 have hl1 := h1.len
 have HS := Lib.hid h
 have HK := Lib.hid h1
 have HOK := Lib.hid hok
 have hcm := h1.2.1
 unfold maxLen at hcm
 have H0 : Hid (Below w.heap.size w (w.alloc (.cells (madeCells (Value.cells (.slice none 0 0)) n) 22)) /\ LTo (w.alloc (.cells (madeCells (Value.cells (.slice none 0 0)) n) 22)) w.heap.size n 0 (ixK D) (ixS S D)) :=
  Lib.hid ⟨(Below.refl _ _).alloc (Nat.le_refl _) _, LTo.made w n 22 _ _ rfl⟩
 have hnn : (0 : Int) <= n := by omega
 have HTOT : Hid (ixR D n <= 1000000) := Lib.hid (by
  have h8 : ∀ j, j < n -> ixK D j <= 8 := fun j hj => by
   unfold ixK Sb.k
   have := (sh_ax (hok j hj).1).1
   split <;> omega
  have : ∀ k, k <= n -> tot (ixK D) k <= k * 8 := fun k => by
   induction k with
   | zero => intro _; exact Nat.le_refl _
   | succ k ih =>
    intro hk
    have := ih (by omega)
    have := h8 k (by omega)
    show tot (ixK D) k + ixK D k <= _
    omega
  have := this n (Nat.le_refl _)
  show tot (ixK D) n <= _
  omega)
 have JN := Lib.hid (fun a c A C wz (q : LRow wz a n c A (ixK D) C (ixS S D)) => join_any a n c A (ixK D) C (ixS S D) wz q (by omega) HTOT.out)
 clear hi hz0 hz1 hz2 h hok h1
 go_enter Tryz.func90, Tryz.ntmps90
 go_wp2_with fail
 go_loopw [13] (fun i wr => ∃ k : Nat, k <= n /\ i = .int .i64 k /\ Hid (Below w.heap.size w wr /\ LTo wr w.heap.size n k (ixK D) (ixS S D))) (fun i _ => n - (intOf i).toNat)
 case atStart => exact ⟨0, by omega, rfl, H0.out.1, H0.out.2⟩
 case round =>
  obtain ⟨k, hk, rfl, hrel⟩ := hrel
  obtain ⟨hbl, hto⟩ := hrel.out
  by_cases hlt : k < n
  · have hk0 : (0 : Int) <= k := by omega
    have hk1 : (k : Int) < n := by omega
    obtain ⟨b, off, na, nn, nc, ta, tn, tc, rfl, hlb, hrg, harr⟩ := (HS.out.below hbl).get hlt
    have HRG := Lib.hid hrg
    have HAR := Lib.hid harr
    have HBL := Lib.hid hbl
    have HTO := Lib.hid hto
    have HOKK := Lib.hid (HOK.out k hlt)
    have SHP : Hid (∀ y, Below wr.heap.size wr y -> Calls Tryz.prog 40 #[.agg (arrC (D k).ch (((D k).r : Nat) - 1) (dm (D k).S (D k).r) na nn nc ta tn tc)] y fun e w' => ∃ g c', e = .returned (.slice (some ⟨g, 0, none⟩) (D k).r c') /\ y.heap.size <= g /\ g < w'.heap.size /\ KRow w' .i64 (some ⟨g, 0, none⟩) (D k).r c' (D k).S /\ Below y.heap.size y w') := Lib.hid (fun y hb => shape_new _ (D k).S (D k).r (D k).ch (D k).L (D k).g (D k).P (D k).Q y (HAR.out.below hb) (sh_ax HOKK.out.1).1)
    have HLEN : Hid (∀ y g c', KRow y .i64 (some ⟨g, 0, none⟩) (D k).r c' (D k).S -> (D k).r <= c' /\ c' <= maxLen) := Lib.hid (fun y g c' q => ⟨q.1, q.2.1⟩)
    cases hal : (D k).al with
    | true =>
     rw [hal] at HRG
     obtain ⟨b1, o1, ha1, hb1, hc1⟩ := (HK.out.below hbl).get hlt
     subst ha1
     have hNk : ixK D k = 1 := by unfold ixK Sb.k; rw [if_pos hal]
     have hFk : ixS S D k = fun _ => S k := by unfold ixS Sb.T; rw [if_pos hal]
     have HPART : Hid (∀ y, Below w.heap.size w y -> KRow y .i64 (some ⟨b1, o1 + k, none⟩) 1 (c1 - k) (fun _ => S k)) := Lib.hid (fun y hb => by
      have q := (HK.out.below hb)
      have q2 := (q.from (show k <= n by omega)).take (show 1 <= n - k by omega)
      exact q2.congr (fun j hj => by obtain rfl : j = 0 := by omega
                                     show S (k + 0) = S k; rw [Nat.add_zero]))
     clear hrel hbl hto hrg harr hc1 HOKK
     generalize (((D k).r : Nat) : Int) - 1 = more at *
     generalize dm (D k).S (D k).r = d at *
     generalize (D k).ch = ch at *
     generalize (D k).S = Sk at *
     generalize (D k).r = rk at *
     go_wp2_with (first
      | (refine ld_sub rfl (.tmp 16) rfl b (off + k * 13) rfl HRG.out ?_)
      | (refine st_subN rfl (.tmp 7) (.tmp 17) rfl rfl true ch more d na nn nc ta tn tc rfl rfl ?_; intro Y hY hbY; have HY := Lib.hid hY; have HBY := Lib.hid hbY; clear hY hbY)
      | (refine ld_arrM rfl (.tmp 20) rfl wr.heap.size rfl HY.out ?_))
     go_at_call 40
     (with_reducible refine (SHP.out _ HBY.out).mono ?_)
     rintro e w2 ⟨g2, c2, rfl, _, _, hk2, hb2⟩
     have hb3 := HBY.out.trans (hb2.mono HBY.out.size)
     have hto2 := HTO.out.below hb3
     obtain ⟨⟨z9, x1, x2⟩, y1⟩ := hto2.place hlt
     have L1 : LTo (w2.setCell ⟨w.heap.size, k, none⟩ (.slice (some ⟨g2, 0, none⟩) rk c2)) w.heap.size n k (fun j => if j = k then rk else ixK D j) (fun j => if j = k then Sk else ixS S D j) := by
      have := hto2.put (N' := fun j => if j = k then rk else ixK D j) (F' := fun j => if j = k then Sk else ixS S D j) hlt (a := some ⟨g2, 0, none⟩) (c := c2) (by simpa using hk2) (fun e => by cases e) k (fun j hj hne => ⟨hj, by simp [hne], by simp [hne]⟩)
      simpa using this
     have hw3 : Below w.heap.size w (w2.setCell ⟨w.heap.size, k, none⟩ (.slice (some ⟨g2, 0, none⟩) rk c2)) := (HBL.out.trans (hb3.mono HBL.out.size)).setCell (p := ⟨w.heap.size, k, none⟩) (Nat.le_refl _) _
     have hne : wr.heap.size ≠ w.heap.size := fun e => by have := HTO.out.1; omega
     have h0 : (w2.setCell ⟨w.heap.size, k, none⟩ (.slice (some ⟨g2, 0, none⟩) rk c2)).cell? ⟨wr.heap.size, 0, none⟩ = some (.bool true) := ((HY.out.below hb2).far (a := ⟨w.heap.size, k, none⟩) hne _).cell 0
     obtain ⟨⟨z5, x5, _⟩, y5⟩ := L1.place hlt
     have L2 := L1.put (N' := ixK D) (F' := ixS S D) hlt (a := some ⟨b1, o1 + k, none⟩) (c := c1 - k) (by rw [hNk, hFk]; exact HPART.out _ hw3) (fun e => by cases e) (k + 1) (fun j hj hne => ⟨by omega, by simp [hne], by simp [hne]⟩)
     rw [hNk] at L2
     have HN := Lib.hid (And.intro (hw3.setCell (p := ⟨w.heap.size, k, none⟩) (Nat.le_refl _) (.slice (some ⟨b1, o1 + k, none⟩) 1 (c1 - k))) L2)
     have w1 := IntWalk.i64_in ((k : Int) + 1) (by omega)
     have hk8 : (k : Int) + 1 <= n := by omega
     have hk9 : (k : Int) + 1 <= c1 := by omega
     have hg9 : ((k : Int) + 1).toNat = k + 1 := by omega
     have hck : c1 ≠ k := by omega
     clear hk2 hb2 hb3 hto2 L1 L2 hw3 hne hNk hFk
     go_wp2_with fail
     go_roundw
     case rel => exact ⟨k + 1, by omega, by go_num, HN.out⟩
     case measure => simp [intOf]; omega
    | false =>
     rw [hal] at HRG
     have hNk : ixK D k = (D k).r := by unfold ixK Sb.k; rw [if_neg (by rw [hal]; decide)]
     have hFk : ixS S D k = (D k).S := by unfold ixS Sb.T; rw [if_neg (by rw [hal]; decide)]
     clear hrel hbl hto hrg harr HOKK
     go_wp2_with (first
      | (refine ld_sub rfl (.tmp 16) rfl b (off + k * 13) rfl HRG.out ?_)
      | (refine st_subN rfl (.tmp 7) (.tmp 17) rfl rfl false _ _ _ na nn nc ta tn tc rfl rfl ?_; intro Y hY hbY; have HY := Lib.hid hY; have HBY := Lib.hid hbY; clear hY hbY)
      | (refine ld_arrM rfl (.tmp 20) rfl wr.heap.size rfl HY.out ?_))
     go_at_call 40
     (with_reducible refine (SHP.out _ HBY.out).mono ?_)
     rintro e w2 ⟨g2, c2, rfl, _, _, hk2, hb2⟩
     have hb3 := HBY.out.trans (hb2.mono HBY.out.size)
     have hto2 := HTO.out.below hb3
     obtain ⟨⟨z9, x1, x2⟩, y1⟩ := hto2.place hlt
     have L1 := hto2.put (N' := ixK D) (F' := ixS S D) hlt (a := some ⟨g2, 0, none⟩) (c := c2) (by rw [hNk, hFk]; exact hk2) (fun e => by cases e) (k + 1) (fun j hj hne => ⟨by omega, rfl, rfl⟩)
     rw [hNk] at L1
     have hw3 : Below w.heap.size w (w2.setCell ⟨w.heap.size, k, none⟩ (.slice (some ⟨g2, 0, none⟩) (D k).r c2)) := (HBL.out.trans (hb3.mono HBL.out.size)).setCell (p := ⟨w.heap.size, k, none⟩) (Nat.le_refl _) _
     have hne : wr.heap.size ≠ w.heap.size := fun e => by have := HTO.out.1; omega
     have h0 : (w2.setCell ⟨w.heap.size, k, none⟩ (.slice (some ⟨g2, 0, none⟩) (D k).r c2)).cell? ⟨wr.heap.size, 0, none⟩ = some (.bool false) := ((HY.out.below hb2).far (a := ⟨w.heap.size, k, none⟩) hne _).cell 0
     have HN := Lib.hid (And.intro hw3 L1)
     clear hk2 hb2 hb3 hto2 L1 hw3 hne hNk hFk
     generalize (D k).r = rk at *
     go_wp2_with fail
     go_roundw
     case rel => exact ⟨k + 1, by omega, by go_num, HN.out⟩
     case measure => simp [intOf]; omega
  · obtain rfl : k = n := by omega
    obtain ⟨A, C, hL⟩ := hto.done (by unfold maxLen; omega)
    have HL := Lib.hid hL
    have HBL := Lib.hid hbl
    clear hrel hbl hto hL
    go_wp2_with fail
    go_at_call 142
    (with_reducible refine (JN.out _ _ _ _ _ HL.out).mono ?_)
    rintro e w3 ⟨a', c', rfl, hk3, hb3⟩
    have HE := Lib.hid (And.intro hk3 (HBL.out.trans (hb3.mono HBL.out.size)))
    clear hk3 hb3
    go_wp2
    go_ret
    exact ⟨_, _, rfl, HE.out⟩
end Go.Proofs.YtnpoakaffafdiaaGreatDoor
namespace Go.Proofs.YtnpoakaffafdiaaGreatDoor
open Go.RowKit
def Posed (size : Nat) (q : Nat -> Value -> Prop) (w : World) (v : Value) : Prop := ∀ g, v.ownBlock = some g -> ∀ cur t fr, w.heap[g]? = some (.cells cur t fr) -> ∀ o u, cur.toList[o]? = some u -> q (o % size) u
theorem Posed.nil (size : Nat) (q : Nat -> Value -> Prop) (w : World) : Posed size q w (.slice none 0 0) := fun g h => by simp [Value.ownBlock] at h
theorem Posed.below {size : Nat} {q : Nat -> Value -> Prop} {w w' : World} {v : Value} (h : Posed size q w v) (hb : Below w.heap.size w w') (hv : ∀ g, v.ownBlock = some g -> g < w.heap.size) : Posed size q w' v := fun g hg cur t fr hc => h g hg cur t fr ((hb.block g (hv g hg)).symm.trans hc)
theorem posed_app {size : Nat} {q : Nat -> Value -> Prop} {l1 l2 : List Value} {k : Nat} (h1 : ∀ o u, l1[o]? = some u -> q (o % size) u) (e1 : l1.length = k * size) (h2 : ∀ o u, l2[o]? = some u -> q (o % size) u) : ∀ o u, (l1 ++ l2)[o]? = some u -> q (o % size) u := fun o u hu => by
 by_cases e : o < l1.length
 · rw [List.getElem?_append_left e] at hu
   exact h1 o u hu
 · rw [List.getElem?_append_right (by omega)] at hu
   have := h2 _ u hu
   rwa [show o % size = (o - l1.length) % size by rw [show o = (o - l1.length) + k * size by omega, Nat.add_mul_mod_self_right, show o - l1.length + k * size - l1.length = o - l1.length by omega]]
theorem posed_take {size : Nat} {q : Nat -> Value -> Prop} {l : List Value} {k : Nat} (h : ∀ o u, l[o]? = some u -> q (o % size) u) : ∀ o u, (l.take k)[o]? = some u -> q (o % size) u := fun o u hu => by
 rw [List.getElem?_take] at hu
 split at hu
 · exact h o u hu
 · cases hu
theorem posed_drop {size : Nat} {q : Nat -> Value -> Prop} {l : List Value} {k : Nat} (h : ∀ o u, l[o]? = some u -> q (o % size) u) : ∀ o u, (l.drop (k * size))[o]? = some u -> q (o % size) u := fun o u hu => by
 rw [List.getElem?_drop] at hu
 have := h _ u hu
 rwa [Nat.add_comm, Nat.add_mul_mod_self_right] at this
theorem posed_zero {q : Nat -> Value -> Prop} {z : Array Value} (h : ∀ o u, z.toList[o]? = some u -> q (o % z.size) u) (n : Nat) : ∀ o u, (Builtin.zeroCells z n).toList[o]? = some u -> q (o % z.size) u := fun o u hu => by
 unfold Builtin.zeroCells at hu
 rw [Array.getElem?_toList, Array.getElem?_map] at hu
 obtain ⟨i, hi, rfl⟩ := Option.map_eq_some_iff.1 hu
 obtain ⟨hlt, rfl⟩ := Array.getElem?_eq_some_iff.1 hi
 rw [Array.size_range] at hlt
 rw [Array.getElem_range]
 have h0 : 0 < z.size := by
  rcases Nat.eq_zero_or_pos z.size with h0 | h0
  · rw [h0, Nat.mul_zero] at hlt; omega
  · exact h0
 have hm : o % z.size < z.size := Nat.mod_lt _ h0
 rw [getElem!_pos z (o % z.size) hm]
 have := h (o % z.size) z[o % z.size] (by rw [Array.getElem?_toList]; exact Array.getElem?_eq_getElem hm)
 rwa [Nat.mod_mod] at this
theorem append_posed {P : Program} (q : Nat -> Value -> Prop) (w : World) (base : Nat) (t ty e : TypeId) (i : TypeInfo) (z : Value) (size bytes : Nat) (ht : P.underlying t = some (.slice e)) (hi : P.info? e = some i) (hz : i.zero = some z)
    (hsize : i.size = size) (hby : i.bytes = bytes) (hzs : z.cells.size = size)
    (v : Value) (n : Nat) (xs : List Value) (hown : w.ownsRow base e size v n xs) (hv : Posed size q w v) (hzp : ∀ o u, z.cells.toList[o]? = some u -> q (o % size) u)
    (a : Addr) (m c : Nat) (news : List Value) (hl : news.length = m * size) (hnews : ∀ j u, news[j]? = some u -> w.cell? (a.add j) = some u) (h1 : ∀ u ∈ news, u.oneCell' = true) (hnp : ∀ o u, news[o]? = some u -> q (o % size) u)
    (hm : 0 < m) (h63 : n + m <= maxLen) (hbytes : (n + m) * bytes <= 140737488355328) {v' : Value} {w' : World} (hr : (Builtin.append_ #[t, t] ty #[v, .slice (some a) m c]).run P w = .ok v' w') : Posed size q w' v' := by
 subst hsize
 subst hby
 have hsmall : n + m <= 9223372036854775807 := by simp only [maxLen] at h63; omega
 have hzz : ∀ k, ∀ o u, (Builtin.zeroCells z.cells k).toList[o]? = some u -> q (o % i.size) u := by
  have := posed_zero (q := q) (z := z.cells) (by rw [hzs]; exact hzp)
  rw [hzs] at this
  exact this
 rcases hown.2 with ⟨rfl, rfl⟩ | ⟨g, cap, cur, rfl, hbg, hg, hnc, hcm, hcs, htake⟩
 · have hr2 := run_append_nil (P := P) w t ty e i z ht hi hz a m c news hl hnews hm (by omega) (by have hb := hbytes; simp only [Nat.zero_add] at hb; omega)
   rw [hr] at hr2
   injection hr2 with e1 e2
   subst e1 e2
   intro g' hg' cur' t' fr hc o u hu
   obtain rfl : w.heap.size = g' := by simpa [Value.ownBlock] using hg'
   rw [show w.heap.size = w.drew.heap.size from rfl, heap_alloc_new] at hc
   injection hc with hc; injection hc with hc _ _
   subst hc
   rw [Array.toList_append] at hu
   exact posed_app (k := m) hnp hl (hzz _) o u hu
 · have hcur := hv g rfl cur e (0, 0) hg
   by_cases hroom : n + m <= cap
   · have hfit : n * i.size + news.length <= cur.size := by rw [hl, hcs, ← Nat.add_mul]; exact Nat.mul_le_mul_right _ hroom
     have hr2 := run_append_room (P := P) w t ty e i ht hi g n cap cur hg a m c news hl hnews h1 hroom hfit
     rw [hr] at hr2
     injection hr2 with e1 e2
     subst e1 e2
     intro g' hg' cur' t' fr hc o u hu
     obtain rfl : g = g' := by simpa [Value.ownBlock] using hg'
     rw [setRow_heap w g cur _ e _ hg] at hc
     injection hc with hc; injection hc with hc _ _
     subst hc
     have e8 : n * i.size + news.length = (n + m) * i.size := by rw [hl, Nat.add_mul]
     have e9 : (cur.toList.take (n * i.size)).length = n * i.size := by rw [List.length_take, Array.length_toList]; omega
     refine posed_app (k := n + m) (posed_app (k := n) (posed_take hcur) e9 hnp) (by rw [List.length_append, e9, hl, Nat.add_mul]) (l2 := cur.toList.drop ((n + m) * i.size)) (posed_drop hcur) o u ?_
     rw [← e8]
     simpa using hu
   · have holds : ∀ j u, xs[j]? = some u -> w.cell? ((⟨g, 0, none⟩ : Addr).add j) = some u := hown.cells (g := g) rfl
     have hr2 := run_append_grow (P := P) w t ty e i z ht hi hz ⟨g, 0, none⟩ n cap xs hown.1 holds a m c news hl hnews (by omega) (by omega) (growslice_fits (by omega) hbytes)
     rw [hr] at hr2
     injection hr2 with e1 e2
     subst e1 e2
     intro g' hg' cur' t' fr hc o u hu
     obtain rfl : w.heap.size = g' := by simpa [Value.ownBlock] using hg'
     rw [show w.heap.size = w.drew.heap.size from rfl, heap_alloc_new] at hc
     injection hc with hc; injection hc with hc _ _
     subst hc
     have hxs : ∀ o u, xs[o]? = some u -> q (o % i.size) u := by rw [← htake]; exact posed_take hcur
     have hu2 : (xs ++ news ++ (Builtin.zeroCells z.cells (grownCap w (n + m) cap e - (n + m))).toList)[o]? = some u := by
      rw [Array.toList_append, Array.toList_append] at hu
      exact hu
     exact posed_app (k := n + m) (posed_app (k := n) hxs hown.1 hnp) (by rw [List.length_append, hown.1, hl, Nat.add_mul]) (hzz _) o u hu2
def subQ (o : Nat) (v : Value) : Prop := (o < 2 /\ ∃ b, v = .bool b) ∨ (2 <= o /\ o < 11 /\ ∃ z, v = .int .i64 z) ∨ (11 <= o /\ ∃ a n c, v = .slice a n c)
theorem sub_cells {al ch : Bool} {more : Int} {d : Nat -> Int} {na : Option Addr} {nn nc : Nat} {ta : Option Addr} {tn tc : Nat} (o : Nat) (v : Value) (h : (subC al ch more d na nn nc ta tn tc).toList[o]? = some v) : subQ (o % 13) v := by
 unfold subC at h
 rcases o with _ | _ | _ | _ | _ | _ | _ | _ | _ | _ | _ | _ | _ | o
 · exact .inl ⟨by omega, _, (Option.some.inj h).symm⟩
 · exact .inl ⟨by omega, _, (Option.some.inj h).symm⟩
 all_goals first
  | exact .inr (.inl ⟨by omega, by omega, _, (Option.some.inj h).symm⟩)
  | exact .inr (.inr ⟨by omega, _, _, _, (Option.some.inj h).symm⟩)
  | simp at h
theorem subQ.int {o : Nat} {ki : IntKind} {z : Int} (h : subQ o (.int ki z)) : ki = .i64 := by
 rcases h with ⟨_, _, e⟩ | ⟨_, _, _, e⟩ | ⟨_, _, _, _, e⟩ <;> cases e
 rfl
theorem subQ.bool {o : Nat} {b : Bool} (h : subQ o (.bool b)) : o < 2 := by
 rcases h with ⟨h, _⟩ | ⟨_, _, _, e⟩ | ⟨_, _, _, _, e⟩
 · exact h
 · cases e
 · cases e
theorem subQ.slice {o : Nat} {a : Option Addr} {n c : Nat} (h : subQ o (.slice a n c)) : 11 <= o := by
 rcases h with ⟨_, _, e⟩ | ⟨_, _, _, e⟩ | ⟨h, _⟩
 · cases e
 · cases e
 · exact h
theorem Arr.awayQ {w w' : World} {cs : Array Value} {S : Nat -> Int} {r : Nat} {ch : Bool} {L : Nat} {g fP : Nat -> Int} {fQ : Nat -> Nat} (h : Arr w cs S r ch L g fP fQ) {k : Nat} (hq : ∀ o v, w.cell? ⟨k, o, none⟩ = some v -> subQ (o % 13) v) (hf : Far k w w') : Arr w' cs S r ch L g fP fQ := by
 refine ⟨fun e => ?_, fun e => ?_⟩
 · obtain ⟨a, c, h1, h2⟩ := h.1 e
   refine ⟨a, c, h1, h2.away ?_ hf⟩
   rcases Nat.eq_zero_or_pos L with h0 | h0
   · exact .inl h0
   · refine .inr fun x hx e => ?_
     obtain ⟨b, off, e0, hb, e1⟩ := h2.get h0
     rw [hx] at e0
     obtain rfl := Option.some.inj e0
     subst e
     cases (hq _ _ e1).int
 · obtain ⟨a, c, h1, h2⟩ := h.2 e
   refine ⟨a, c, h1, h2.away (fun o z hc => by cases (hq _ _ hc).int) ?_ hf⟩
   rcases Nat.eq_zero_or_pos L with h0 | h0
   · exact .inl h0
   · refine .inr fun x hx e => ?_
     obtain ⟨b, off, a', n', c', m', a2', n2', c2', e0, hb, e1, e2, e3, _⟩ := h2.get h0
     rw [hx] at e0
     obtain rfl := Option.some.inj e0
     subst e
     have q1 := (hq _ _ e1).slice
     have q2 := (hq _ _ e2).bool
     have q3 := (hq _ _ e3).slice
     omega
theorem infoSb : (Tryz.prog.info? 79).map (fun i => (i.zero, i.size, i.bytes)) = some (some (.agg #[.bool false, .bool false, .int .i64 0, .int .i64 0, .int .i64 0, .int .i64 0, .int .i64 0, .int .i64 0, .int .i64 0, .int .i64 0, .int .i64 0, .slice none 0 0, .slice none 0 0]), 13, 136) := by kernel_rfl
def OwnS (y0 w : World) (a : Option Addr) (k c : Nat) (D : Nat -> Sb) : Prop := Below y0.heap.size y0 w /\ ∃ xs, w.ownsRow y0.heap.size 79 13 (.slice a k c) k xs /\ Posed 13 subQ w (.slice a k c) /\
 ∀ j, j < k -> ∃ na nn nc ta tn tc, (∀ o v, (subC (D j).al (D j).ch (((D j).r : Nat) - 1) (dm (D j).S (D j).r) na nn nc ta tn tc).toList[o]? = some v -> xs[j * 13 + o]? = some v) /\ Arr w (arrC (D j).ch (((D j).r : Nat) - 1) (dm (D j).S (D j).r) na nn nc ta tn tc) (D j).S (D j).r (D j).ch (D j).L (D j).g (D j).P (D j).Q
theorem OwnS.nil (w : World) (D : Nat -> Sb) : OwnS w w none 0 0 D := ⟨Below.refl _ _, [], World.ownsRow_nil _ _ _ _, Posed.nil _ _ _, fun _ h => absurd h (Nat.not_lt_zero _)⟩
theorem OwnS.go {y0 w w' : World} {a : Option Addr} {k c : Nat} {D : Nat -> Sb} (h : OwnS y0 w a k c D) (hb : Below w.heap.size w w') : OwnS y0 w' a k c D := by
 obtain ⟨h1, xs, h2, h3, h4⟩ := h
 refine ⟨h1.trans (hb.mono h1.size), xs, own_below h2 hb, h3.below hb (fun g hg => (h2.lt g hg).2), fun j hj => ?_⟩
 obtain ⟨na, nn, nc, ta, tn, tc, e1, e2⟩ := h4 j hj
 exact ⟨na, nn, nc, ta, tn, tc, e1, e2.below hb⟩
theorem OwnS.srow {y0 w : World} {a : Option Addr} {k c : Nat} {D : Nat -> Sb} (h : OwnS y0 w a k c D) : SRow w a k c D := by
 obtain ⟨hb, xs, h1, _, h3⟩ := h
 rcases h1.2 with ⟨e, h0⟩ | ⟨g, cap, cur, e, _, hh, l1, l2, _, _⟩
 · cases e
   exact ⟨Nat.le_refl _, Nat.zero_le _, .inl rfl⟩
 · cases e
   refine ⟨l1, l2, .inr ⟨g, 0, rfl, Row.lt (t := 79) hh, fun j hj => ?_⟩⟩
   have hc : ∀ i u, xs[i]? = some u -> w.cell? ⟨g, 0 + i, none⟩ = some u := fun i u hu => by
    have := h1.cells (g := g) rfl i u hu
    rwa [show (⟨g, 0, none⟩ : Addr).add i = ⟨g, 0 + i, none⟩ by unfold Addr.add; split <;> simp_all] at this
   obtain ⟨na, nn, nc, ta, tn, tc, e1, e2⟩ := h3 j hj
   exact ⟨na, nn, nc, ta, tn, tc, fun o v hv => by rw [Nat.add_assoc]; exact hc _ _ (e1 o v hv), e2⟩
theorem ownS_add {y0 wr : World} {a : Option Addr} {k c : Nat} {D : Nat -> Sb} (h : OwnS y0 wr a k c D) {al : Bool} {na : Option Addr} {nn nc : Nat} {ta : Option Addr} {tn tc : Nat} (ha : al = (D k).al)
    (hA : Arr wr (arrC (D k).ch (((D k).r : Nat) - 1) (dm (D k).S (D k).r) na nn nc ta tn tc) (D k).S (D k).r (D k).ch (D k).L (D k).g (D k).P (D k).Q) (hk : k <= 1000) :
    ∃ a' c' y1, (Builtin.append_ #[28, 28] 28 #[.slice a k c, .slice (some ⟨wr.heap.size, 0, none⟩) 1 1]).run Tryz.prog (wr.alloc (.cells (subC al (D k).ch (((D k).r : Nat) - 1) (dm (D k).S (D k).r) na nn nc ta tn tc) 79)) = .ok (.slice a' (k + 1) c') y1 /\ OwnS y0 y1 a' (k + 1) c' D := by
 subst ha
 obtain ⟨i0, hi, hz0, hz1, hz2⟩ := info_parts infoSb
 obtain ⟨hb, xs, ho, hp, hx⟩ := h.go (w' := wr.alloc (.cells (subC (D k).al (D k).ch (((D k).r : Nat) - 1) (dm (D k).S (D k).r) na nn nc ta tn tc) 79)) ((Below.refl _ _).alloc (Nat.le_refl _) _)
 have hA2 := hA.below (w' := wr.alloc (.cells (subC (D k).al (D k).ch (((D k).r : Nat) - 1) (dm (D k).S (D k).r) na nn nc ta tn tc) 79)) ((Below.refl _ _).alloc (Nat.le_refl _) _)
 have hR := Row.new wr 79 (subC (D k).al (D k).ch (((D k).r : Nat) - 1) (dm (D k).S (D k).r) na nn nc ta tn tc)
 generalize wr.alloc (.cells (subC (D k).al (D k).ch (((D k).r : Nat) - 1) (dm (D k).S (D k).r) na nn nc ta tn tc) 79) = y at *
 have hs0 := hb.size
 have hone : ∀ u ∈ (subC (D k).al (D k).ch (((D k).r : Nat) - 1) (dm (D k).S (D k).r) na nn nc ta tn tc).toList, u.oneCell' = true := by intro u hu; simp [subC] at hu; rcases hu with rfl | rfl | rfl | rfl | rfl | rfl | rfl | rfl | rfl | rfl | rfl | rfl | rfl <;> rfl
 obtain ⟨v', w', r1, r2, r3, _⟩ := run_append_own (P := Tryz.prog) y y0.heap.size 28 28 79 i0 _ 13 136 Tryz.underlying28 hi hz0 hz1 hz2 rfl (by omega) _ k _ ho ⟨wr.heap.size, 0, none⟩ 1 1 _ rfl (World.news_of_block hR) hone (by unfold maxLen; omega) (by omega) hs0
 have r4 := append_posed subQ y y0.heap.size 28 28 79 i0 _ 13 136 Tryz.underlying28 hi hz0 hz1 hz2 rfl _ k _ ho hp (fun o u hu => sub_cells (al := false) (ch := false) (more := 0) (d := fun _ => 0) (na := none) (nn := 0) (nc := 0) (ta := none) (tn := 0) (tc := 0) o u hu) ⟨wr.heap.size, 0, none⟩ 1 1 _ rfl (World.news_of_block hR) hone sub_cells (by omega) (by unfold maxLen; omega) (by omega) r1
 have hlx := ho.1
 have keep : ∀ {cs : Array Value} {S : Nat -> Int} {r : Nat} {ch : Bool} {L : Nat} {g fP : Nat -> Int} {fQ : Nat -> Nat}, Arr y cs S r ch L g fP fQ -> Arr w' cs S r ch L g fP fQ := fun hh => by
  rcases ho.2 with ⟨e, _⟩ | ⟨g, cap, cur, e, _, hhp, _⟩
  · rw [e] at r3
    exact hh.below ⟨r3.os, r3.tape, r3.output, r3.size, fun j hj => r3.block j hj (by simp [Value.ownBlock])⟩
  · rw [e] at r3 hp
    refine hh.awayQ (k := g) (fun o v hv => ?_) ⟨r3.size, fun j hj hl => r3.block j hl (fun e => hj (by simpa [Value.ownBlock] using e))⟩
    rw [cell_of_row y g o cur 79 (0, 0) hhp] at hv
    exact hp g rfl cur 79 (0, 0) hhp o v (by rw [Array.getElem?_toList]; exact hv)
 have hv : ∃ a' c', v' = .slice a' (k + 1) c' := by
  rcases r2.2 with ⟨rfl, h0⟩ | ⟨g, cap, cur, rfl, _⟩
  · have := r2.1
    rw [h0] at this
    exact ⟨none, 0, by omega⟩
  · exact ⟨_, _, rfl⟩
 obtain ⟨a', c', rfl⟩ := hv
 refine ⟨a', c', w', r1, hb.grown r3 (by omega) (fun q hq => (ho.lt q hq).1), _, r2, r4, fun j hj => ?_⟩
 by_cases e : j = k
 · subst e
   refine ⟨na, nn, nc, ta, tn, tc, fun o v hv => ?_, keep hA2⟩
   rw [List.getElem?_append_right (by omega), hlx, Nat.add_sub_cancel_left]
   exact hv
 · obtain ⟨na', nn', nc', ta', tn', tc', q1, q2⟩ := hx j (by omega)
   refine ⟨na', nn', nc', ta', tn', tc', fun o v hv => ?_, keep q2⟩
   have q3 := q1 o v hv
   obtain ⟨hlt, _⟩ := List.getElem?_eq_some_iff.1 q3
   rw [List.getElem?_append_left hlt]
   exact q3
end Go.Proofs.YtnpoakaffafdiaaGreatDoor
namespace Go.Proofs.YtnpoakaffafdiaaGreatDoor
open Go.ChangeShapes Go.WideShapes Go.ChangeAt Go.RowKit
theorem in64_of {f : Nat -> Int} {n : Nat} (h : ∀ j, j < n -> (Lit.int .i64 (f j)).wf = true) : In64 f n := fun j hj => by
 simpa [Lit.wf, IntKind.min, IntKind.max, IntKind.signed, IntKind.bits] using h j hj
section
variable {H : Type} {enc : TypeId × Value -> H} {P : Program} {w : World} {base : Nat} {spare : Nat -> Bool} {held : Bool}
end
end Go.Proofs.YtnpoakaffafdiaaGreatDoor
namespace Go.Proofs.YtnpoakaffafdiaaGreatDoor
open Go.ChangeShapes Go.WideShapes Go.ChangeAt Go.RowKit Go.WideMaps Go.WideElems Go.Deep
theorem cellsNum : Tryz.prog.cellsOf 53 = 3 := by kernel_rfl
theorem cellsBool : Tryz.prog.cellsOf 4 = 1 := by kernel_rfl
theorem cellsStr : Tryz.prog.cellsOf 9 = 1 := by kernel_rfl
end Go.Proofs.YtnpoakaffafdiaaGreatDoor
namespace Go.Proofs.YtnpoakaffafdiaaGreatDoor
open Go.ChangeShapes Go.WideShapes Go.ChangeAt Go.RowKit Go.WideMaps Go.WideElems Go.Deep Go.Joins
theorem krow_cells {H : Type} {enc : TypeId × Value -> H} {P : Program} {w : World} {base : Nat} {t e : TypeId} {ki : IntKind} {cs : List Value} {fuel : Nat} {x : DataW H × List MemPlace} (ht : P.underlying t = some (.slice e)) (he : P.underlying e = some (.int ki)) (hc : P.cellsOf e = 1)
    (h : DataW.trod enc P w base (fun _ => true) true fuel t cs = some x) :
    ∃ a n c f, cs = [.slice a n c] /\ KRow w ki a n c f /\ ∀ j, j < n -> (Lit.int ki (f j)).wf = true := by
 rcases open_ints ht he hc h with ⟨hcs, _⟩ | ⟨a, len, cap, zs, hcs, _, hl, hmx, hz, _, hcell, hwz⟩
 · exact ⟨none, 0, 0, fun _ => 0, hcs, ⟨Nat.le_refl _, Nat.zero_le _, .inl rfl⟩, fun j hj => absurd hj (Nat.not_lt_zero _)⟩
 · simp only [if_true] at hz
   refine ⟨some a, len, cap, fun j => zs.getD j 0, hcs, ⟨hl, hmx, ?_⟩, fun j hj => ?_⟩
   · rcases Nat.eq_zero_or_pos len with h0 | h0
     · exact .inl h0
     · obtain ⟨b, off, spot⟩ := a
       have hspot : spot = none := by simpa [Addr.add] using World.cell?_spot (hcell 0 (by omega))
       subst hspot
       have h1 : ∀ j, j < zs.length -> w.cell? ⟨b, off + j, none⟩ = some (.int ki (zs.getD j 0)) := fun j hj => by rw [← add_plain]; exact hcell j hj
       exact .inr ⟨b, off, rfl, World.block_lt_of_cell? w _ (h1 0 (by omega)), fun j hj => h1 j (by omega)⟩
   · refine hwz _ ?_
     have : zs.getD j 0 = zs[j]'(by omega) := by simp [List.getD, show j < zs.length by omega]
     show zs.getD j 0 ∈ zs
     rw [this]
     exact List.getElem_mem _
theorem qrow_cells {H : Type} {enc : TypeId × Value -> H} {w : World} {base : Nat} {cs : List Value} {fuel : Nat} {x : DataW H × List MemPlace}
    (h : DataW.trod enc Tryz.prog w base (fun _ => true) true fuel 24 cs = some x) :
    ∃ a n c fB fS fT, cs = [.slice a n c] /\ QRow w a n c fB fS fT /\ ∀ j, j < n -> (fS j).size <= maxLen /\ (fT j).size <= maxLen := by
 rcases open_slice Tryz.underlying24 h with ⟨hcs, _⟩ | ⟨a, len, cap, m, n, D, Pl, hcs, hb, hl, hm, hmm, rfl, hx⟩
 · exact ⟨none, 0, 0, fun _ => false, fun _ => ⟨#[]⟩, fun _ => ⟨#[]⟩, hcs, QRow.nought _ _ _ (Nat.zero_le _) _ _ _, fun j hj => absurd hj (Nat.not_lt_zero _)⟩
 · simp only [if_true] at hmm
   subst hmm
   obtain ⟨b, off, spot⟩ := a
   rcases Nat.eq_zero_or_pos len with h0 | h0
   · subst h0
     exact ⟨_, 0, _, fun _ => false, fun _ => ⟨#[]⟩, fun _ => ⟨#[]⟩, hcs, QRow.nought _ _ _ hm _ _ _, fun j hj => absurd hj (Nat.not_lt_zero _)⟩
   have each : ∀ i, i < m -> ∃ q : Bool × ByteArray × ByteArray, w.cell? ((⟨b, off, spot⟩ : Addr).add (i * 3)) = some (.bool q.1) /\ w.cell? ((⟨b, off, spot⟩ : Addr).add (i * 3 + 1)) = some (.string q.2.1) /\ w.cell? ((⟨b, off, spot⟩ : Addr).add (i * 3 + 2)) = some (.string q.2.2) /\ q.2.1.size <= maxLen /\ q.2.2.size <= maxLen := by
    intro i hi
    obtain ⟨cs', h1, h2⟩ := hx i hi
    rw [cellsNum] at h1
    obtain ⟨_, hlen, hcell⟩ := World.cells?_some h1
    obtain ⟨y0, y1, y2, k, hxx, _, hy0, hy1, hy2⟩ := trod_struct3 Tryz.underlying53 h2
    match cs', hlen with
    | [c0, c1, c2], _ =>
     obtain ⟨u, e0, rfl⟩ := DataW.trod_bool Tryz.underlying4 hy0
     obtain ⟨s, e1, rfl, hs⟩ := DataW.trod_string Tryz.underlying9 hy1
     obtain ⟨t, e2, rfl, ht⟩ := DataW.trod_string Tryz.underlying9 hy2
     simp [cellsBool] at e0
     simp [cellsStr] at e1 e2
     subst e0 e1 e2
     have g0 := hcell 0 (by omega)
     have g1 := hcell 1 (by omega)
     have g2 := hcell 2 (by omega)
     rw [add_add] at g0 g1 g2
     exact ⟨(u, s, t), by simpa using g0, by simpa using g1, by simpa using g2, hs, ht⟩
   obtain ⟨q, hq⟩ := choose_lt each
   have hspot : spot = none := by simpa [Addr.add] using World.cell?_spot (hq 0 (by omega)).1
   subst hspot
   refine ⟨_, _, _, fun j => (q j).1, fun j => (q j).2.1, fun j => (q j).2.2, hcs, ⟨hl, hm, .inr ⟨b, off, rfl, ?_, fun j hj => ?_⟩⟩, fun j hj => ⟨(hq j (by omega)).2.2.2.1, (hq j (by omega)).2.2.2.2⟩⟩
   · exact World.block_lt_of_cell? w ⟨b, off + 0 * 3, none⟩ (by rw [← add_plain]; exact (hq 0 (by omega)).1)
   · have := hq j (by omega)
     simp only [add_plain] at this
     exact ⟨this.1, this.2.1, this.2.2.1⟩
theorem cellsPln : Tryz.prog.cellsOf 26 = 4 := by kernel_rfl
theorem cellsSlI : Tryz.prog.cellsOf 22 = 1 := by kernel_rfl
theorem cellsSlR : Tryz.prog.cellsOf 23 = 1 := by kernel_rfl
theorem cellsSlN : Tryz.prog.cellsOf 24 = 1 := by kernel_rfl
theorem cellsI : Tryz.prog.cellsOf 3 = 1 := by kernel_rfl
theorem cellsC : Tryz.prog.cellsOf 21 = 1 := by kernel_rfl
theorem open_pln {H : Type} {enc : TypeId × Value -> H} {W : World} {r : Reach} {b0 : Nat} {v0 : Value} {d0 : DataW H} {p0 : List MemPlace}
    (hv : Value.okWide Tryz.prog W r b0 26 v0) (h0 : DataW.Trod enc Tryz.prog W 0 (fun _ => true) true 26 v0 d0 p0) :
    ∃ cs S q ch g tn fB fS fT nn, v0 = .agg cs /\ PlnAt W cs S q ch g tn fB fS fT nn /\ In64 S q /\ ∀ j, j < nn -> (fS j).size <= maxLen /\ (fT j).size <= maxLen := by
 obtain ⟨cs, rfl, hsz⟩ := okWide_struct Tryz.underlying26 hv
 rw [cellsPln] at hsz
 obtain ⟨l⟩ := cs
 match l, hsz with
 | [c0, c1, c2, c3], _ =>
 obtain ⟨fuel, hf⟩ := h0
 obtain ⟨y0, y1, y2, y3, m, hx, _, hy0, hy1, hy2, hy3⟩ := trod_struct4 Tryz.underlying26 hf
 obtain ⟨sa, r, sc, S, e0, k0, w0⟩ := krow_cells (ki := .i64) Tryz.underlying22 Tryz.underlying3 cellsI hy0
 obtain ⟨ch, e1, rfl⟩ := DataW.trod_bool Tryz.underlying4 hy1
 obtain ⟨ta, tn, tc, g, e2, k2, w2⟩ := krow_cells (ki := .i32) Tryz.underlying23 Tryz.underlying21 cellsC hy2
 obtain ⟨na, nn, nc, fB, fS, fT, e3, k3, w3⟩ := qrow_cells hy3
 simp [Value.cells, cellsSlI] at e0
 simp [Value.cells, cellsBool] at e1
 simp [Value.cells, cellsSlR] at e2
 simp [Value.cells, cellsSlN] at e3
 subst e0 e1 e2 e3
 exact ⟨_, S, r, ch, g, tn, fB, fS, fT, nn, rfl, ⟨sa, sc, ta, tc, na, nc, rfl, k0, k2, k3⟩, in64_of w0, w3⟩
def Sr : Type := Bool × (Nat -> Int) × Nat × Bool × (Nat -> Int) × Nat × (Nat -> Bool) × (Nat -> ByteArray) × (Nat -> ByteArray) × Nat
instance : Inhabited Sr := ⟨(false, fun _ => 0, 0, false, fun _ => 0, 0, fun _ => false, fun _ => ⟨#[]⟩, fun _ => ⟨#[]⟩, 0)⟩
def Sr.al (d : Sr) : Bool := d.1
def Sr.S (d : Sr) : Nat -> Int := d.2.1
def Sr.r (d : Sr) : Nat := d.2.2.1
def Sr.ch (d : Sr) : Bool := d.2.2.2.1
def Sr.g (d : Sr) : Nat -> Int := d.2.2.2.2.1
def Sr.tn (d : Sr) : Nat := d.2.2.2.2.2.1
def Sr.B (d : Sr) : Nat -> Bool := d.2.2.2.2.2.2.1
def Sr.U (d : Sr) : Nat -> ByteArray := d.2.2.2.2.2.2.2.1
def Sr.V (d : Sr) : Nat -> ByteArray := d.2.2.2.2.2.2.2.2.1
def Sr.nn (d : Sr) : Nat := d.2.2.2.2.2.2.2.2.2
def Sr.L (d : Sr) : Nat := if d.ch then d.tn else d.nn
def Sr.sb (d : Sr) : Sb := (d.al, d.S, d.r, d.ch, d.L, d.g, gP d.B d.U d.V, gQ d.B d.U d.V)
def Sr.bd (d : Sr) : Prop := In64 d.S d.r /\ ∀ j, j < d.nn -> (d.U j).size <= maxLen /\ (d.V j).size <= maxLen
def Sr.good (d : Sr) : Prop := d.tn = tnO d.ch d.L /\ d.nn = nnO d.ch d.L /\ Good d.S d.r d.ch d.L d.B d.U d.V /\ d.L <= 60
def DRow (w : World) (sa : Option Addr) (n c : Nat) (E : Nat -> Sr) : Prop := n <= c /\ c <= maxLen /\ (n = 0 ∨ ∃ b off, sa = some ⟨b, off, none⟩ /\ b < w.heap.size /\
 ∀ j, j < n -> ∃ va vc ta tc na nc, w.rangeAt b (off + j * 5) (.bool (E j).al :: (plC va (E j).r vc (E j).ch ta (E j).tn tc na (E j).nn nc).toList) /\ PlnAt w (plC va (E j).r vc (E j).ch ta (E j).tn tc na (E j).nn nc) (E j).S (E j).r (E j).ch (E j).g (E j).tn (E j).B (E j).U (E j).V (E j).nn)
theorem DRow.below {w w' : World} {sa : Option Addr} {n c : Nat} {E : Nat -> Sr} (h : DRow w sa n c E) (hb : Below w.heap.size w w') : DRow w' sa n c E := by
 obtain ⟨h0, h1, h2⟩ := h
 refine ⟨h0, h1, h2.imp id ?_⟩
 rintro ⟨b, off, rfl, hl, hc⟩
 refine ⟨b, off, rfl, Nat.lt_of_lt_of_le hl hb.size, fun j hj => ?_⟩
 obtain ⟨va, vc, ta, tc, na, nc, e1, e2⟩ := hc j hj
 exact ⟨va, vc, ta, tc, na, nc, range_below e1 hb hl, e2.below hb⟩
theorem DRow.get {w : World} {sa : Option Addr} {n c : Nat} {E : Nat -> Sr} (h : DRow w sa n c E) {j : Nat} (hj : j < n) :
    ∃ b off va vc ta tc na nc, sa = some ⟨b, off, none⟩ /\ b < w.heap.size /\ w.rangeAt b (off + j * 5) (.bool (E j).al :: (plC va (E j).r vc (E j).ch ta (E j).tn tc na (E j).nn nc).toList) /\ PlnAt w (plC va (E j).r vc (E j).ch ta (E j).tn tc na (E j).nn nc) (E j).S (E j).r (E j).ch (E j).g (E j).tn (E j).B (E j).U (E j).V (E j).nn := by
 obtain ⟨h0, h1, h2⟩ := h
 rcases h2 with h2 | ⟨b, off, rfl, hl, hc⟩
 · omega
 · obtain ⟨va, vc, ta, tc, na, nc, e⟩ := hc j hj
   exact ⟨b, off, va, vc, ta, tc, na, nc, rfl, hl, e⟩
theorem DRow.len {w : World} {sa : Option Addr} {n c : Nat} {E : Nat -> Sr} (h : DRow w sa n c E) : n <= c /\ c <= 9223372036854775807 := by
 have h1 := h.1
 have h2 := h.2.1
 unfold maxLen at h2
 exact ⟨h1, by omega⟩
theorem cellsSub : Tryz.prog.cellsOf 76 = 5 := by kernel_rfl
theorem open_drow {H : Type} {enc : TypeId × Value -> H} {w : World} {r : Reach} {b0 : Nat} {v0 : Value} {d0 : DataW H} {p0 : List MemPlace}
    (hv : Value.okWide Tryz.prog w r b0 27 v0) (h0 : DataW.Trod enc Tryz.prog w 0 (fun _ => true) true 27 v0 d0 p0) :
    ∃ a n c E, v0 = .slice a n c /\ DRow w a n c E /\ ∀ j, j < n -> (E j).bd := by
 obtain ⟨a0, len, cap, rfl⟩ := okWide_slice Tryz.underlying27 hv
 obtain ⟨fuel, h⟩ := h0
 rcases open_slice Tryz.underlying27 h with ⟨hcs, _⟩ | ⟨a, len', cap', m, n, D, Pl, hcs, hb, hl, hm, hmm, _, hx⟩
 · simp [Value.cells] at hcs
   obtain ⟨rfl, rfl, rfl⟩ := hcs
   exact ⟨none, 0, 0, fun _ => default, rfl, ⟨Nat.le_refl _, Nat.zero_le _, .inl rfl⟩, fun j hj => absurd hj (Nat.not_lt_zero _)⟩
 · simp [Value.cells] at hcs
   obtain ⟨rfl, rfl, rfl⟩ := hcs
   simp only [if_true] at hmm
   subst hmm
   obtain ⟨b, off, spot⟩ := a
   rcases Nat.eq_zero_or_pos len with h0 | h0
   · subst h0
     exact ⟨_, 0, _, fun _ => default, rfl, ⟨Nat.zero_le _, hm, .inl rfl⟩, fun j hj => absurd hj (Nat.not_lt_zero _)⟩
   have each : ∀ i, i < m -> ∃ q : Sr, ∃ va vc ta tc na nc, (∀ o u, (Value.bool q.al :: (plC va q.r vc q.ch ta q.tn tc na q.nn nc).toList)[o]? = some u -> w.cell? ((⟨b, off, spot⟩ : Addr).add (i * 5 + o)) = some u) /\ PlnAt w (plC va q.r vc q.ch ta q.tn tc na q.nn nc) q.S q.r q.ch q.g q.tn q.B q.U q.V q.nn /\ q.bd := by
    intro i hi
    obtain ⟨cs', h1, h2⟩ := hx i hi
    rw [cellsSub] at h1
    obtain ⟨_, hlen, hcell⟩ := World.cells?_some h1
    obtain ⟨y0, y1, k, hxx, _, hy0, hy1⟩ := trod_struct2 Tryz.underlying76 h2
    match cs', hlen with
    | [c0, c1, c2, c3, c4], _ =>
     obtain ⟨u, e0, rfl⟩ := DataW.trod_bool Tryz.underlying4 hy0
     obtain ⟨z0, z1, z2, z3, k2, hx2, _, hz0, hz1, hz2, hz3⟩ := trod_struct4 Tryz.underlying26 hy1
     obtain ⟨sa, r, sc, S, e1, k0, w0⟩ := krow_cells (ki := .i64) Tryz.underlying22 Tryz.underlying3 cellsI hz0
     obtain ⟨ch, e2, rfl⟩ := DataW.trod_bool Tryz.underlying4 hz1
     obtain ⟨ta, tn, tc, g, e3, k2, w2⟩ := krow_cells (ki := .i32) Tryz.underlying23 Tryz.underlying21 cellsC hz2
     obtain ⟨na, nn, nc, fB, fS, fT, e4, k3, w3⟩ := qrow_cells hz3
     simp [cellsBool] at e0
     simp [cellsSlI, cellsPln] at e1
     simp [cellsBool, cellsPln] at e2
     simp [cellsSlR, cellsPln] at e3
     simp [cellsSlN, cellsPln] at e4
     subst e0 e1 e2 e3 e4
     refine ⟨(u, S, r, ch, g, tn, fB, fS, fT, nn), sa, sc, ta, tc, na, nc, fun o v hv => ?_, ⟨sa, sc, ta, tc, na, nc, rfl, k0, k2, k3⟩, in64_of w0, w3⟩
     have ho : o < 5 := by
      obtain ⟨hlt, _⟩ := List.getElem?_eq_some_iff.1 hv
      exact hlt
     have := hcell o ho
     rw [add_add] at this
     rw [this]
     exact hv
   obtain ⟨q, hq⟩ := choose_lt each
   have hspot : spot = none := by
    obtain ⟨va, vc, ta, tc, na, nc, h1, _⟩ := hq 0 (by omega)
    simpa [Addr.add] using World.cell?_spot (h1 0 _ rfl)
   subst hspot
   refine ⟨_, _, _, q, rfl, ⟨hl, hm, .inr ⟨b, off, rfl, ?_, fun j hj => ?_⟩⟩, fun j hj => ?_⟩
   · obtain ⟨va, vc, ta, tc, na, nc, h1, _⟩ := hq 0 (by omega)
     exact World.block_lt_of_cell? w ⟨b, off + (0 * 5 + 0), none⟩ (by rw [← add_plain]; exact h1 0 _ rfl)
   · obtain ⟨va, vc, ta, tc, na, nc, h1, h2, _⟩ := hq j (by omega)
     refine ⟨va, vc, ta, tc, na, nc, fun o v hv => ?_, h2⟩
     rw [Nat.add_assoc, ← add_plain]
     exact h1 o v hv
   · obtain ⟨va, vc, ta, tc, na, nc, _, _, h3⟩ := hq j (by omega)
     exact h3
theorem ld_plM {ops : Array Oper} {rest : List Oper} {o : Oper} {a : Act} {w : World} {Q : Exit -> Act -> World -> Prop} (hgd : o.guard = none) (x : Operand) (ho : o.op = .load 26 x) (b off : Nat) (hx : a.eval x = .pointer (some ⟨b, off + 1, none⟩))
    {al : Bool} {sa : Option Addr} {sn sc : Nat} {ch : Bool} {ta : Option Addr} {tn tc : Nat} {na : Option Addr} {nn nc : Nat} (hc : w.rangeAt b off (.bool al :: (plC sa sn sc ch ta tn tc na nn nc).toList))
    (h : wpList Tryz.prog ops Q rest (a.put o.dst (.agg (plC sa sn sc ch ta tn tc na nn nc))) w) : wpList Tryz.prog ops Q (o :: rest) a w :=
 wpList_load_mid hgd _ x ho b (off + 1) hx (plC sa sn sc ch ta tn tc na nn nc).toList _ (fun j v hj => by rw [show off + 1 + j = off + (j + 1) by omega]; exact hc (j + 1) v hj) Tryz.underlying26 rfl pln4 h
end Go.Proofs.YtnpoakaffafdiaaGreatDoor
namespace Go.Proofs.YtnpoakaffafdiaaGreatDoor
open Go.RowKit
theorem tn_nn (ch : Bool) (L : Nat) : tnO ch L + nnO ch L = L := by unfold tnO nnO; cases ch <;> simp
theorem Pln.len {cs : Array Value} {S : Nat -> Int} {r : Nat} {ch : Bool} {L : Nat} {g : Nat -> Int} {fB : Nat -> Bool} {fS fT : Nat -> ByteArray} (wz : World) (h : Pln wz cs S r ch L g fB fS fT) (hL : L <= 1000000) :
    Calls Tryz.prog 34 #[.agg cs] wz fun e w' => e = .returned (.int .i64 (L : Nat)) /\ Below wz.heap.size wz w' := by
 have := r6Len_any cs S r ch g (tnO ch L) fB fS fT (nnO ch L) wz h (by have := nnO_le ch L; omega) (by have := nnO_le ch L; omega)
 rw [tn_nn] at this
 exact this
theorem Pln.on {w : World} {cs : Array Value} {S : Nat -> Int} {r : Nat} {ch : Bool} {L : Nat} {g g' : Nat -> Int} {fB fB' : Nat -> Bool} {fS fT fS' fT' : Nat -> ByteArray} (h : Pln w cs S r ch L g fB fS fT) (e0 : ∀ j, j < L -> g j = g' j) (e1 : ∀ j, j < L -> fB j = fB' j) (e2 : ∀ j, j < L -> fS j = fS' j) (e3 : ∀ j, j < L -> fT j = fT' j) : Pln w cs S r ch L g' fB' fS' fT' := by
 obtain ⟨sa, sc, ta, tc, na, nc, e, h1, h2, h3⟩ := h
 have hn := nnO_le ch L
 exact ⟨sa, sc, ta, tc, na, nc, e, h1, h2.congr (fun j hj => e0 j (by omega)), h3.congr (fun j hj => ⟨e1 j (by omega), e2 j (by omega), e3 j (by omega)⟩)⟩
theorem step_append_run9 {P : Program} (w : World) {ops : Array Oper} {o : Oper} {a : Act} {K : Act -> World -> Prop} {Q : Exit -> Act -> World -> Prop} {E : Prop} (hgd : o.guard = none) (s x : Operand) (t tn : TypeId)
    (ho : o.op = .call { callee := .builtin .append, args := #[s, x], argTypes := #[t, tn] }) (vs vx : Value) (hs : a.eval s = vs) (hx : a.eval x = vx)
    (v' : Value) (w' : World) (hr : (Builtin.append_ #[t, tn] o.type #[vs, vx]).run P w = .ok v' w') (h : K (a.put o.dst v') w') : if Region.wanted o (yielded ops a.tmps) = true then Oper.wp P o a w K Q else E := by
 have hw : Region.wanted o (yielded ops a.tmps) = true := by simp [Region.wanted, hgd]
 rw [if_pos hw]
 exact Lib.wp_append_run w s x t tn ho vs vx hs hx v' w' hr h
end Go.Proofs.YtnpoakaffafdiaaGreatDoor
namespace Go.Proofs.YtnpoakaffafdiaaGreatDoor
open Go.RowKit
attribute [local go_sem ↓] Go.wp_at_zero Go.wp_at_succ
theorem step_ownS {ops : Array Oper} {o : Oper} {a : Act} {K : Act -> World -> Prop} {Q : Exit -> Act -> World -> Prop} {E : Prop} {y0 wr : World} (hgd : o.guard = none) (s x : Operand)
    (ho : o.op = .call { callee := .builtin .append, args := #[s, x], argTypes := #[28, 28] }) (hot : o.type = 28) {a0 : Option Addr} {k c : Nat} {D : Nat -> Sb} {al : Bool} {na : Option Addr} {nn nc : Nat} {ta : Option Addr} {tn tc : Nat} {S : Nat -> Int} {r : Nat} {ch : Bool} (hs : a.eval s = .slice a0 k c) (hx : a.eval x = .slice (some ⟨wr.heap.size, 0, none⟩) 1 1)
    (h : OwnS y0 wr a0 k c D) (ha : al = (D k).al) (hS : (D k).S = S) (hr : (D k).r = r) (hch : (D k).ch = ch) (hA : Arr wr (arrC ch ((r : Nat) - 1) (dm S r) na nn nc ta tn tc) S r ch (D k).L (D k).g (D k).P (D k).Q) (hk : k <= 1000)
    (hK : ∀ a' c' y1, OwnS y0 y1 a' (k + 1) c' D -> K (a.put o.dst (.slice a' (k + 1) c')) y1) : if Region.wanted o (yielded ops a.tmps) = true then Oper.wp Tryz.prog o a (wr.alloc (.cells (subC al ch ((r : Nat) - 1) (dm S r) na nn nc ta tn tc) 79)) K Q else E := by
 subst hS hr hch
 obtain ⟨a', c', y1, r1, r2⟩ := ownS_add h ha hA hk
 exact step_append_run9 _ hgd s x _ _ ho _ _ hs hx _ _ (by rw [hot]; exact r1) (hK a' c' y1 r2)
theorem OwnS.bel {y0 w : World} {a : Option Addr} {k c : Nat} {D : Nat -> Sb} (h : OwnS y0 w a k c D) : Below y0.heap.size y0 w := h.1
def SbTold (n : Nat) (E : Nat -> Sr) (w w' : World) (e : Ending) : Prop :=
 ∃ b a m c, e = .returned (.tuple #[.slice a m c, .bool b]) /\ (b = true -> m = n /\ SRow w' a n c (fun j => (E j).sb) /\ n <= 20 /\ ∀ j, j < n -> (E j).good) /\ Below w.heap.size w w'
theorem Sr.good_of {d : Sr} {w w' : World} {e : Ending} (h : LightTold 60 d.S d.r d.ch d.tn d.B d.U d.V d.nn w w' e) : ∃ b, e = .returned (.bool b) /\ (b = true -> d.good) /\ Below w.heap.size w w' := by
 obtain ⟨b, e1, h1, h2⟩ := h
 refine ⟨b, e1, fun hb => ?_, h2⟩
 obtain ⟨q1, q2, q3, q4, q5⟩ := h1 hb
 obtain ⟨L, z1, z2, z3⟩ := Go.Proofs.YtnpoakaffafdiaaGreatDoor.good_of ⟨by omega, by omega, q3, q4, q5⟩
 have hL : d.L = L := by
  unfold Sr.L
  rw [z1, z2]
  unfold tnO nnO
  cases d.ch <;> rfl
 have hle : L <= 60 := by
  rw [z1] at q1
  rw [z2] at q2
  unfold tnO at q1
  unfold nnO at q2
  cases hc : d.ch <;> rw [hc] at q1 q2 <;> simp at q1 q2 <;> omega
 exact ⟨by rw [hL]; exact z1, by rw [hL]; exact z2, by rw [hL]; exact z3, by rw [hL]; exact hle⟩
theorem subs_any (sa : Option Addr) (n c : Nat) (E : Nat -> Sr) (w : World) (h : DRow w sa n c E) (hbd : ∀ j, j < n -> (E j).bd) :
    Calls Tryz.prog 8 #[.slice sa n c] w fun e w' => SbTold n E w w' e := by
 have hl := h.len
 have HS := Lib.hid h
 have HBD := Lib.hid hbd
 clear h hbd
 by_cases h20 : 20 < n
 · have h20' : (20 : Int) < n := by omega
   go_enter Tryz.func8, Tryz.ntmps8
   have HE9 : Hid (SbTold n E w w (.returned (.tuple #[.slice none 0 0, .bool false]))) := Lib.hid ⟨false, none, 0, 0, rfl, fun h => (by cases h), Below.refl _ _⟩
   go_wp2
   exact bodyPost_ret (by simp [results, Tryz.results8, go_sem]) rfl HE9.out
 have h20' : ¬ (20 : Int) < n := by omega
 go_enter Tryz.func8, Tryz.ntmps8
 go_wp2_with fail
 go_loopw [4, 5, 6] (fun s m i wr => ∃ (k M : Nat) (a1 : Option Addr) (c1 : Nat), k <= n /\ M <= 5000 /\ s = .slice a1 k c1 /\ m = .int .i64 M /\ i = .int .i64 k /\ Hid (OwnS w wr a1 k c1 (fun j => (E j).sb) /\ ∀ j, j < k -> (E j).good)) (fun _ _ i _ => n - (intOf i).toNat)
 case atStart => exact ⟨0, 1, none, 0, by omega, by omega, rfl, rfl, rfl, OwnS.nil _ _, fun _ h => absurd h (Nat.not_lt_zero _)⟩
 case round =>
  obtain ⟨k, M, a1, c1, hk, hM, rfl, rfl, rfl, hrel⟩ := hrel
  by_cases hlt : k < n
  · have hk0 : (0 : Int) <= k := by omega
    have hk1 : (k : Int) < n := by omega
    obtain ⟨ho, hgd⟩ := hrel.out
    have HO := Lib.hid ho
    have HGD := Lib.hid hgd
    obtain ⟨b, off, va, vc, ta, tc, na, nc, rfl, hlb, hrg, hpl⟩ := HS.out.get hlt
    have hbdk := HBD.out k hlt
    have HRG := Lib.hid hrg
    have HPL := Lib.hid hpl
    have LG := Lib.hid (fun wz q => (light_any 60 (plC va (E k).r vc (E k).ch ta (E k).tn tc na (E k).nn nc) (E k).S (E k).r (E k).ch (E k).g (E k).tn (E k).B (E k).U (E k).V (E k).nn wz q hbdk.1 hbdk.2).mono (fun e w' q => Sr.good_of q))
    have LN := Lib.hid (fun wz q h1 h2 => r6Len_any (plC va (E k).r vc (E k).ch ta (E k).tn tc na (E k).nn nc) (E k).S (E k).r (E k).ch (E k).g (E k).tn (E k).B (E k).U (E k).V (E k).nn wz q h1 h2)
    have OF : Hid (∀ wz, PlnAt wz (plC va (E k).r vc (E k).ch ta (E k).tn tc na (E k).nn nc) (E k).S (E k).r (E k).ch (E k).g (E k).tn (E k).B (E k).U (E k).V (E k).nn -> (E k).good -> Calls Tryz.prog 12 #[.agg (plC va (E k).r vc (E k).ch ta (E k).tn tc na (E k).nn nc)] wz fun e w' => ∃ na nn nc ta tn tc, e = .returned (.agg (arrC (E k).ch (((E k).r : Nat) - 1) (dm (E k).S (E k).r) na nn nc ta tn tc)) /\ Arr w' (arrC (E k).ch (((E k).r : Nat) - 1) (dm (E k).S (E k).r) na nn nc ta tn tc) (E k).S (E k).r (E k).ch (E k).L (E k).g (gP (E k).B (E k).U (E k).V) (gQ (E k).B (E k).U (E k).V) /\ Below wz.heap.size wz w') := Lib.hid (fun wz q hg => by
     obtain ⟨g1, g2, g3, _⟩ := hg
     rw [g1, g2] at q ⊢
     refine (of8_any _ (E k).S (E k).r (E k).ch (E k).L (E k).g (E k).B (E k).U (E k).V wz q g3).mono ?_
     rintro e w' ⟨a, e1, e2, e3⟩
     obtain ⟨na, nn, nc, ta, tn, tc, rfl, _⟩ := e2.form
     exact ⟨na, nn, nc, ta, tn, tc, e1, e2, e3⟩)
    have HE : Hid ((E k).al = (E k).sb.al /\ (E k).sb.S = (E k).S /\ (E k).sb.r = (E k).r /\ (E k).sb.ch = (E k).ch /\ (E k).sb.L = (E k).L /\ (E k).sb.g = (E k).g /\ (E k).sb.P = gP (E k).B (E k).U (E k).V /\ (E k).sb.Q = gQ (E k).B (E k).U (E k).V) := Lib.hid ⟨rfl, rfl, rfl, rfl, rfl, rfl, rfl, rfl⟩
    have HGL : Hid ((E k).good -> (E k).tn <= 60 /\ (E k).nn <= 60) := Lib.hid (fun hg => by
     obtain ⟨g1, g2, _, g4⟩ := hg
     rw [g1, g2]
     unfold tnO nnO
     cases (E k).ch <;> simp <;> omega)
    clear hrel ho hgd hrg hpl hbdk
    obtain ⟨al, hal⟩ : ∃ x, (E k).al = x := ⟨_, rfl⟩
    obtain ⟨rr, hrr⟩ : ∃ x, (E k).r = x := ⟨_, rfl⟩
    obtain ⟨ch, hch⟩ : ∃ x, (E k).ch = x := ⟨_, rfl⟩
    obtain ⟨tn, htn⟩ : ∃ x, (E k).tn = x := ⟨_, rfl⟩
    obtain ⟨nn, hnn⟩ : ∃ x, (E k).nn = x := ⟨_, rfl⟩
    obtain ⟨SS, hSS⟩ : ∃ x, (E k).S = x := ⟨_, rfl⟩
    rw [hal, hrr, hch, htn, hnn] at HRG
    rw [hrr, hch, htn, hnn, hSS] at HPL LG LN OF
    rw [hal, hrr, hch, hSS] at HE
    rw [htn, hnn] at HGL
    clear hal hrr hch htn hnn hSS
    go_wp2_with (refine ld_plM rfl (.tmp 19) rfl b (off + k * 5) rfl (range_below HRG.out HO.out.bel hlb) ?_)
    go_at_call 9
    (with_reducible refine (LG.out _ (HPL.out.below HO.out.bel)).mono ?_)
    rintro e w2 ⟨lb, rfl, hlg, hb2⟩
    cases lb with
    | false =>
     have HE9 : Hid (SbTold n E w w2 (.returned (.tuple #[.slice none 0 0, .bool false]))) := Lib.hid ⟨false, none, 0, 0, rfl, fun h => (by cases h), (HO.out.go hb2).1⟩
     clear hb2 hlg
     go_wp2_with fail
     exact bodyPost_ret (by simp [results, Tryz.results8, go_sem]) rfl HE9.out
    | true =>
     have hg := hlg rfl
     obtain ⟨ht60, hn60⟩ := HGL.out hg
     have HG := Lib.hid hg
     have HO := Lib.hid (HO.out.go hb2)
     clear hlg hg hb2 HGL
     go_wp2_with (refine ld_plM rfl (.tmp 27) rfl b (off + k * 5) rfl (range_below HRG.out HO.out.bel hlb) ?_)
     go_at_call 34
     (with_reducible refine (LN.out _ (HPL.out.below HO.out.bel) (by omega) (by omega)).mono ?_)
     rintro e w3 ⟨rfl, hb3⟩
     have HO := Lib.hid (HO.out.go hb3)
     clear hb3 LG LN
     obtain ⟨N, hN⟩ : ∃ N : Nat, tn + nn = N := ⟨_, rfl⟩
     have hY2 : M * max 1 N <= 5000 * 120 := Nat.mul_le_mul hM (by omega)
     have hY0 : ((M * max 1 N : Nat) : Int) = (M : Int) * max 1 (N : Int) := by rw [Int.natCast_mul, show ((max 1 N : Nat) : Int) = max 1 (N : Int) by omega]
     have hw := IntWalk.wrap64_in ((M : Int) * max 1 (N : Int)) (by omega)
     rw [hN]
     by_cases h5 : 5000 < wrap64 ((M : Int) * max 1 (N : Int))
     · have HE9 : Hid (SbTold n E w w3 (.returned (.tuple #[.slice none 0 0, .bool false]))) := Lib.hid ⟨false, none, 0, 0, rfl, fun h => (by cases h), HO.out.bel⟩
       clear hY0 hw
       go_wp2_with fail
       exact bodyPost_ret (by simp [results, Tryz.results8, go_sem]) rfl HE9.out
     · have hM2 : M * max 1 N <= 5000 := by omega
       have HY0 := Lib.hid (hw.trans hY0.symm)
       have HGN : Hid (∀ j, j < k + 1 -> (E j).good) := Lib.hid (fun j hj => by
        by_cases e : j = k
        · rw [e]; exact HG.out
        · exact HGD.out j (by omega))
       have BD0 : Hid (Below w3.heap.size w3 w3.drew) := Lib.hid (Below.refl _ w3).drew
       have HSF : Hid (∀ y, Below w.heap.size w y -> y.cell? ⟨b, off + k * 5, none⟩ = some (.bool al) /\ y.cell? ⟨b, off + k * 5 + 1, none⟩ = some (.slice va rr vc) /\ y.cell? ⟨b, off + k * 5 + 2, none⟩ = some (.bool ch) /\ y.cell? ⟨b, off + k * 5 + 3, none⟩ = some (.slice ta tn tc) /\ y.cell? ⟨b, off + k * 5 + 4, none⟩ = some (.slice na nn nc)) := Lib.hid (fun y hb => by
        have q := range_below HRG.out hb hlb
        exact ⟨q 0 _ rfl, q 1 _ rfl, q 2 _ rfl, q 3 _ rfl, q 4 _ rfl⟩)
       have hk20 : k <= 1000 := by omega
       have BU : Hid (∀ y, Below w3.heap.size w3 y -> Below w.heap.size w y) := Lib.hid (fun y hb => HO.out.bel.trans (hb.mono HO.out.bel.size))
       clear hY0 hw hN
       go_wp2_with fail
       unfold plC arrC at OF
       go_region_held3 (fun y => y.cell? ⟨b, off + k * 5, none⟩ = some (.bool al) /\ y.cell? ⟨b, off + k * 5 + 1, none⟩ = some (.slice va rr vc) /\ y.cell? ⟨b, off + k * 5 + 2, none⟩ = some (.bool ch) /\ y.cell? ⟨b, off + k * 5 + 3, none⟩ = some (.slice ta tn tc) /\ y.cell? ⟨b, off + k * 5 + 4, none⟩ = some (.slice na nn nc))
        (first
          | with_reducible exact HSF.out _ (BU.out _ BD0.out)
          | (have hq := HB6.out; with_reducible exact HSF.out _ (BU.out _ hq))
          | (have hq := HB6.out; with_reducible exact HSF.out _ (BU.out _ (hq.alloc hq.size _)))
          | (have hq := ho9.bel; with_reducible exact HSF.out _ hq))
        (first
          | (go_at_call 12; (refine (OF.out _ (HPL.out.below (BU.out _ BD0.out)) HG.out).mono ?_); rintro e w5 ⟨a5, m5, c5, d5, n5, f5, rfl, h5, hb5⟩; (have HB6 := Lib.hid (BD0.out.trans (hb5.mono BD0.out.size))); (have HA5 := Lib.hid h5); (clear h5 hb5))
          | (refine step_ownS rfl (.tmp 34) (.tmp 47) rfl rfl rfl rfl (HO.out.go HB6.out) HE.out.1 HE.out.2.1 HE.out.2.2.1 HE.out.2.2.2.1 (by rw [HE.out.2.2.2.2.1, HE.out.2.2.2.2.2.1, HE.out.2.2.2.2.2.2.1, HE.out.2.2.2.2.2.2.2]; exact HA5.out) hk20 ?_; intro a9 c9 y9 ho9))
       all_goals have HN := Lib.hid ho9
       all_goals clear ho9
       all_goals go_wp2_with fail
       all_goals go_roundw
       all_goals first
        | exact ⟨k + 1, M * max 1 N, _, _, by omega, hM2, rfl, vint HY0.out, by go_num, HN.out, HGN.out⟩
        | (simp [intOf]; omega)
  · obtain rfl : k = n := by omega
    have hk1 : ¬ (k : Int) < k := by omega
    have HE9 : Hid (SbTold k E w wr (.returned (.tuple #[.slice a1 k c1, .bool true]))) := Lib.hid ⟨true, _, _, _, rfl, fun _ => ⟨rfl, hrel.out.1.srow, by omega, hrel.out.2⟩, hrel.out.1.1⟩
    clear hrel
    go_wp2
    exact bodyPost_ret (by simp [results, Tryz.results8, go_sem]) rfl HE9.out
theorem showsOkI_any (cs pcs : Array Value) (w : World) (h : Shown w cs pcs) :
    Calls Tryz.prog 15 #[.agg cs, .int .i64 0, .agg pcs, .int .i64 0] w fun e w' => e = .returned (.bool true) /\ Below w.heap.size w w' := by
 obtain ⟨S, r, ch, L, g, fP, fQ, S', g', fB, fS, fT, h1, h2, hr, hL, hs, e1, e2, e3⟩ := h.ex
 have HP := Lib.hid h2
 obtain ⟨na, nn, nc, ta, tn, tc, hcs, _⟩ := h1.form
 subst hcs
 obtain ⟨sa, sc, xa, xc, ya, yc, rfl, _⟩ := h2
 have H := Lib.hid h1
 have PL := Lib.hid (fun wz h => plain8_any (arrC ch ((r : Int) - 1) (dm S r) na nn nc ta tn tc) S r ch L g fP fQ wz hr h hL hs)
 have SM := Lib.hid (fun cs1 wz (q : Pln wz cs1 S r ch L g (fun j => rB (fP j)) (fun j => rS (fP j)) (fun j => str (dec (fQ j)))) (z : Pln wz (plC sa r sc ch xa (tnO ch L) xc ya (nnO ch L) yc) S' r ch L g' fB fS fT) => pl_same (plB_of2 e1 e2 e3) q z)
 have BB := Lib.hid (((Bag.start w).newRow (arrC ch ((r : Int) - 1) (dm S r) na nn nc ta tn tc) 36).newRow (plC sa r sc ch xa (tnO ch L) xc ya (nnO ch L) yc) 26)
 simp only [World.size_alloc] at BB
 clear h h1 hr hL hs e1 e2 e3
 unfold arrC plC
 go_enter Tryz.func15, Tryz.ntmps15
 go_wp2_with fail
 have hWW := BB.out.below
 unfold arrC plC at hWW
 unfold plC at BB
 unfold arrC at BB
 generalize hW : ((w.alloc (.cells _ 36)).alloc (.cells _ 26)) = WW at *
 clear hW hWW
 refine wp_region_inv2 ⟨(fun j => ([[17], [18], [19], [20], [8]] : List (List Nat)).getD j []), (fun j => ([[], [0], [], [0, 1, 2], [0, 1, 2, 3]] : List (List Nat)).getD j []), []⟩ (fun jj vv yy => match jj with | 0 => vv = [some (.agg (arrC ch ((r : Int) - 1) (dm S r) na nn nc ta tn tc))] | 1 => ∃ (x1 : Array Value), vv = [some (.agg x1)] /\ Pln yy x1 S r ch L g (fun j => rB (fP j)) (fun j => rS (fP j)) (fun j => str (dec (fQ j))) | 2 => vv = [some (.agg (plC sa r sc ch xa (tnO ch L) xc ya (nnO ch L) yc))] | 3 => vv = [some (.bool true)] | 4 => vv = [some (.bool true)] | _ => True) (Bag WW (fun _ => True)) (by kernel_rfl) (by kernel_rfl) (by kernel_rfl) (Bag.start WW).drew ?_ ?_ ?_
 · intro jj vv yw yw2 hb h
   match jj, h with
   | 0, h => exact h
   | 1, ⟨x1, e1, g1_0⟩ => exact Exists.intro x1 (And.intro e1 (g1_0.below hb))
   | 2, h => exact h
   | 3, h => exact h
   | 4, h => exact h
   | _ + 5, h => exact h
 · intro ac yw hsz hdf hold hB hp
   have t8 : ac.tmps[8]? = some (.bool true) := (List.cons.inj (hp 4 (by decide))).1
   have HE := Lib.hid (BB.out.go hB.below).below
   clear hold hp
   obtain ⟨TW, hTW⟩ : ∃ TW : Nat -> Value, ∀ i, (ac.tmps[i]?).getD undef = TW i := ⟨_, fun _ => rfl⟩
   have f8 := (hTW 8).symm.trans (congrArg (fun x => Option.getD x undef) t8)
   have hac := act_eq (n := 21) hsz TW hTW
   rw [show ((List.range 21).map TW).toArray = #[TW 0, TW 1, TW 2, TW 3, TW 4, TW 5, TW 6, TW 7, TW 8, TW 9, TW 10, TW 11, TW 12, TW 13, TW 14, TW 15, TW 16, TW 17, TW 18, TW 19, TW 20] from rfl, f8, hdf] at hac
   simp only [Option.getD_some] at hac
   subst hac
   clear hTW f8
   go_wp2
   go_ret
   exact ⟨rfl, HE.out⟩
 refine Stps2.cons (o := _) ?_ ?_
 · intro ac yw hsz hold hB hp K hK
   have t4 : ac.tmps[4]? = some (.pointer (some ⟨w.heap.size, 0, none⟩)) := hold 4 (by kernel_rfl)
   clear hold hp hsz
   rw [if_pos (by rfl)]
   refine ld8 4 rfl (w.heap.size) ((arrC ch ((r : Int) - 1) (dm S r) na nn nc ta tn tc)) t4 ((BB.out.go hB.below).now.2.1) (rfl) ?_
   exact hK.out _ _ ⟨hB, rfl, Nat.le_refl _, .inl (Below.refl _ _), fun h => absurd h (by decide)⟩
 refine Stps2.cons (o := _) ?_ ?_
 · intro ac yw hsz hold hB hp K hK
   have e0 := hp 0 (by decide)
   have t17 : ac.tmps[17]? = some (.agg (arrC ch ((r : Int) - 1) (dm S r) na nn nc ta tn tc)) := (List.cons.inj e0).1
   clear hold hp hsz e0
   go_simp
   (go_at_call 47; (with_reducible refine (PL.out _ (H.out.below (BB.out.go hB.below).below)).mono ?_); rintro e wz ⟨x1, rfl, h1_0, hbz⟩)
   exact hK.out _ _ ⟨hB.go hbz, Exists.intro x1 (And.intro rfl h1_0), hbz.size, .inl hbz, fun h => absurd h (by decide)⟩
 refine Stps2.cons (o := _) ?_ ?_
 · intro ac yw hsz hold hB hp K hK
   have t6 : ac.tmps[6]? = some (.pointer (some ⟨w.heap.size + 1, 0, none⟩)) := hold 6 (by kernel_rfl)
   clear hold hp hsz
   rw [if_pos (by rfl)]
   refine ldP 6 rfl (w.heap.size + 1) ((plC sa r sc ch xa (tnO ch L) xc ya (nnO ch L) yc)) t6 ((BB.out.go hB.below).now.1) (rfl) ?_
   exact hK.out _ _ ⟨hB, rfl, Nat.le_refl _, .inl (Below.refl _ _), fun h => absurd h (by decide)⟩
 refine Stps2.cons (o := _) ?_ ?_
 · intro ac yw hsz hold hB hp K hK
   obtain ⟨x1_1, e1, g1_0⟩ := hp 1 (by decide)
   have t18 : ac.tmps[18]? = some (.agg x1_1) := (List.cons.inj e1).1
   have e2 := hp 2 (by decide)
   have t19 : ac.tmps[19]? = some (.agg (plC sa r sc ch xa (tnO ch L) xc ya (nnO ch L) yc)) := (List.cons.inj e2).1
   clear hold hp hsz e1 e2
   go_simp
   (go_at_call 46; (with_reducible refine (SM.out _ _ g1_0 (HP.out.below (BB.out.go hB.below).below)).mono ?_); rintro e wz ⟨rfl, hbz⟩)
   exact hK.out _ _ ⟨hB.go hbz, rfl, hbz.size, .inl hbz, fun h => absurd h (by decide)⟩
 refine Stps2.cons (o := _) ?_ ?_
 · intro ac yw hsz hold hB hp K hK
   have e3 := hp 3 (by decide)
   have t20 : ac.tmps[20]? = some (.bool true) := (List.cons.inj e3).1
   clear hold hp hsz e3
   go_simp
   exact hK.out _ _ ⟨hB, rfl, Nat.le_refl _, .inl (Below.refl _ _), fun h => absurd h (by decide)⟩
 exact Stps2.nil _
theorem ix_le {S : Nat -> Int} {D : Nat -> Sb} : ∀ {n : Nat}, (∀ j, j < n -> (D j).ok /\ 0 <= S j /\ S j <= 4096) -> ∀ j, j < ixR D n -> 0 <= ixT S D n j /\ ixT S D n j <= 4096
 | 0, _, j, hj => absurd hj (Nat.not_lt_zero _)
 | n + 1, h, j, hj => by
  have e : ixT S D (n + 1) = app (ixT S D n) (ixR D n) ((D n).T (S n)) := rfl
  have e2 : ixR D (n + 1) = ixR D n + (D n).k := rfl
  rw [e2] at hj
  rw [e]
  unfold app
  split
  · exact ix_le (n := n) (fun j hj => h j (by omega)) j (by assumption)
  · obtain ⟨h1, h2, h3⟩ := h n (by omega)
    have h4 : j - ixR D n < (D n).k := by omega
    unfold Sb.T
    unfold Sb.k at h4
    cases hx : (D n).al with
    | true => exact ⟨h2, h3⟩
    | false =>
     rw [hx, if_neg (by decide)] at h4
     rw [if_neg (by decide)]
     exact ax_le4 h1.1 h4
def SeTold (E : Int) (R : Nat) (T : Nat -> Int) (M : Nat) (G : Nat -> Int) (w w' : World) (e : Ending) : Prop :=
 ∃ a m c a2 m2 c2, e = .returned (.tuple #[.slice a m c, .slice a2 m2 c2, .int .i64 E]) /\ (E = 0 -> m = R /\ KRow w' .i64 a R c T /\ m2 = M /\ KRow w' .i64 a2 M c2 G) /\ Below w.heap.size w w'
theorem SeTold.no {E : Int} (hE : E ≠ 0) {R : Nat} {T : Nat -> Int} {M : Nat} {G : Nat -> Int} {w w' : World} (hb : Below w.heap.size w w') : SeTold E R T M G w w' (.returned (.tuple #[.slice none 0 0, .slice none 0 0, .int .i64 E])) :=
 ⟨_, _, _, _, _, _, rfl, fun e => absurd e hE, hb⟩
theorem NRow.get {w : World} {a : Option Addr} {n c : Nat} {D : Nat -> Sb} (h : NRow w a n c D) {j : Nat} (hj : j < n) : ∃ g A m C, a = some ⟨g, 0, none⟩ /\ g < w.heap.size /\ w.cell? ⟨g, j, none⟩ = some (.slice A m C) /\ ((D j).al = false -> m = (D j).L /\ KRow w .i64 A m C (D j).P) := by
 obtain ⟨g, rfl, h1, h2, h3, h4, h5⟩ := h
 obtain ⟨A, m, C, e1, e2⟩ := h5 j hj
 exact ⟨g, A, m, C, rfl, h3, e1, e2 hj⟩
theorem iselected_any (a1 : Option Addr) (n c1 : Nat) (S : Nat -> Int) (o : Int) (sa : Option Addr) (m c : Nat) (D : Nat -> Sb) (w : World) (h1 : KRow w .i64 a1 n c1 S) (h : SRow w sa m c D) (hsh : shB S n = true) (hok : ∀ j, j < m -> (D j).ok) (hm : m <= 1000) (ho : 0 <= o /\ o <= 1) :
    Calls Tryz.prog 39 #[.slice a1 n c1, .int .i64 o, .slice sa m c] w fun e w' => SeTold (ixE o S n D m) (ixR D n) (ixT S D n) (itm (lnF (ixN S D)) n).toNat (pkG S (lnF (ixN S D)) n (ixF o D)) w w' e := by
 have hl := h.len
 have hl1 := h1.len
 have hn8 := (sh_ax hsh).1
 have hS4 : ∀ j, j < n -> 0 <= S j /\ S j <= 4096 := fun j hj => ax_le4 hsh hj
 have HK := Lib.hid h1
 have HS := Lib.hid h
 have HOK := Lib.hid hok
 have RD := Lib.hid (fun wz q => iread_any sa m c D wz q hok hm)
 obtain ⟨R, hR⟩ : ∃ x, ixR D n = x := ⟨_, rfl⟩
 obtain ⟨T, hT⟩ : ∃ x, ixT S D n = x := ⟨_, rfl⟩
 obtain ⟨M, hM⟩ : ∃ x, (itm (lnF (ixN S D)) n).toNat = x := ⟨_, rfl⟩
 obtain ⟨G, hG⟩ : ∃ x, pkG S (lnF (ixN S D)) n (ixF o D) = x := ⟨_, rfl⟩
 obtain ⟨E, hE⟩ : ∃ x, ixE o S n D m = x := ⟨_, rfl⟩
 rw [hR, hT, hM, hG, hE]
 unfold ixE at hE
 have hEn := hE
 by_cases hmn : m = n
 · subst hmn
   have hne : ((m : Int) != (m : Int)) = false := bne_self_eq_false _
   rw [if_neg (by omega)] at hE
   have HIN : Hid (allB (fun j => (D j).is o (S j)) m = true -> InAx S (ixN S D) (ixF o D) m) := Lib.hid ix_in
   have T64 : In64 T R := fun j hj => by
    have := ix_le (S := S) (D := D) (n := m) (fun j hj => ⟨hok j hj, hS4 j hj⟩) j (by rw [hR]; exact hj)
    rw [hT] at this
    omega
   have JN := Lib.hid (fun wz q q2 => ijoined_any a1 m c1 S sa c D wz q q2 hok hn8)
   rw [hR, hT] at JN
   have CN := Lib.hid (fun a c wz (q : KRow wz .i64 a R c T) => count_any a R c T wz q T64)
   unfold CntTold at CN
   have ST := Lib.hid (fun wz q => strides_any a1 m c1 S wz q (fun j hj => by have := hS4 j hj; omega))
   unfold StTold at ST
   rw [hsh] at ST
   have HAX : Hid (shB T R = true -> axB (lnF (ixN S D)) m = true /\ itm (lnF (ixN S D)) m = (M : Nat)) := Lib.hid (fun hs => by
    rw [← hT, ← hR] at hs
    obtain ⟨q1, q2⟩ := ix_ax (fun j hj => ⟨hok j hj, (hS4 j hj).1⟩) hs
    have := (ax_bd q1).2.2.1
    exact ⟨q1, by omega⟩)
   have CB : Hid (shB T R = true -> allB (fun j => (D j).is o (S j)) m = true -> ∀ ax mx cx aL cL A C wz, mx = m -> KRow wz .i64 ax m cx (stF S m) -> LRow wz aL m cL A (ixN S D) C (ixF o D) -> Calls Tryz.prog 92 #[.slice ax mx cx, .slice aL m cL] wz fun e w' => ∃ a' c', e = .returned (.slice a' M c') /\ KRow w' .i64 a' M c' G /\ Below wz.heap.size wz w') := Lib.hid (fun hs hi ax mx cx aL cL A C wz hmx k1 k2 => by
    subst hmx
    obtain ⟨q1, q2⟩ := HAX.out hs
    have q3 := HIN.out hi
    have hst : ∀ j, j < mx -> 0 <= stF S mx j /\ stF S mx j <= 4096 := fun j hj => by
     have := ax_bd (ax_shf (j + 1) (sh_ax hsh).2 (mx - (j + 1)) (by omega))
     show 0 <= itm (shf S (j + 1)) (mx - (j + 1)) /\ itm (shf S (j + 1)) (mx - (j + 1)) <= 4096
     omega
    refine (combined_any ax mx cx (stF S mx) aL cL A (ixN S D) C (ixF o D) M wz k1 k2 q1 q2 hn8 hst (fun j hj q hq => by have := q3 j hj q hq; have := hS4 j hj; omega)).mono ?_
    rintro e w' ⟨a', c', he, hk, hb⟩
    refine ⟨a', c', he, hk.congr (fun j hj => ?_), hb⟩
    rw [← hG]
    exact cb_pk q3 q1 (by omega))
   obtain ⟨i0, hi, hz0, hz1, hz2⟩ := info_parts infoL
   have hmk := fun wz => run_make (P := Tryz.prog) wz 90 22 i0 _ Tryz.underlying90 hi hz0 .i64 .i64 m m (by omega) (by omega) (by rw [hz2]; omega) (by omega)
   simp only [Int.toNat_natCast, hz1, Nat.mul_one] at hmk
   have hnn : (0 : Int) <= m := by omega
   rw [hR, hT] at hE
   clear hi hz0 hz1 hz2 h h1 hok hR hT hM hG HIN hEn
   cases hw : allB (fun j => (D j).wh) m with
   | false =>
    rw [if_pos hw] at hE
    subst hE
    rw [hw] at RD
    clear hmk hS4 T64
    go_enter Tryz.func39, Tryz.ntmps39
    go_wp2_with fail
    go_at_call 88
    (with_reducible refine (RD.out _ HS.out).mono ?_)
    rintro e w2 ⟨a, k, c2, rfl, _, hb2⟩
    have HE := Lib.hid (SeTold.no (E := 22) (R := R) (T := T) (M := M) (G := G) (by decide) hb2)
    clear hb2
    go_wp2_with fail
    exact bodyPost_ret (by simp [results, Tryz.results39, go_sem]) rfl HE.out
   | true =>
    rw [if_neg (by rw [hw]; decide)] at hE
    have HWA := Lib.hid hw
    rw [hw] at RD
    have HE25 : Hid (allB (fun j => (D j).is o (S j)) m = false -> E = 25) := Lib.hid (fun e => by rw [← hE, if_pos e])
    have HE0 : Hid (allB (fun j => (D j).is o (S j)) m = true -> E = if 8 < R then 23 else pkE T R) := Lib.hid (fun e => by rw [← hE, if_neg (by rw [e]; decide)])
    clear hE
    go_enter Tryz.func39, Tryz.ntmps39
    go_wp2_with fail
    go_at_call 88
    (with_reducible refine (RD.out _ HS.out).mono ?_)
    rintro e w2 ⟨a, k, c2, rfl, h2, hb2⟩
    rw [if_pos rfl] at h2
    obtain ⟨rfl, hnr⟩ := h2
    have HB2 := Lib.hid hb2
    have HNR := Lib.hid hnr
    have H0 : Hid (Below w2.heap.size w2 (w2.alloc (.cells (madeCells (Value.cells (.slice none 0 0)) k) 22)) /\ LTo (w2.alloc (.cells (madeCells (Value.cells (.slice none 0 0)) k) 22)) w2.heap.size k 0 (ixN S D) (ixF o D)) :=
     Lib.hid ⟨(Below.refl _ _).alloc (Nat.le_refl _) _, LTo.made w2 k 22 _ _ rfl⟩
    obtain ⟨gN, rfl, hN1, hN2, hN3, _⟩ := hnr
    have HN3 := Lib.hid hN3
    clear hb2 hw RD hN3
    go_wp2_with fail
    go_loopw [10, 34] (fun v i wr => ∃ j : Nat, j <= k /\ i = .int .i64 j /\ v = .bool true /\ Hid (Below w2.heap.size w2 wr /\ LTo wr w2.heap.size k j (ixN S D) (ixF o D) /\ allB (fun j => (D j).is o (S j)) j = true)) (fun _ i _ => k - (intOf i).toNat)
    case atStart => exact ⟨0, by omega, rfl, rfl, H0.out.1, H0.out.2, rfl⟩
    case round =>
     obtain ⟨j, hj, rfl, rfl, hrel⟩ := hrel
     obtain ⟨hbl, hto, his⟩ := hrel.out
     by_cases hlt : j < k
     · have hj0 : (0 : Int) <= j := by omega
       have hj1 : (j : Int) < k := by omega
       have hbw := HB2.out.trans (hbl.mono HB2.out.size)
       obtain ⟨b, off, na, nn, nc, ta, tn, tc, rfl, hlb, hrg, harr⟩ := (HS.out.below hbw).get hlt
       obtain ⟨b1, o1, rfl, hb1, hc1⟩ := (HK.out.below hbw).get hlt
       obtain ⟨gn, A9, m9, C9, hgn, hlg, hc9, hnum⟩ := (HNR.out.below hbl).get hlt
       cases hgn
       have hS := hS4 j hlt
       have HNM := Lib.hid hnum
       have hokj := HOK.out j hlt
       have PS : Hid (∀ y, Below wr.heap.size wr y -> Calls Tryz.prog 89 #[.agg (subC (D j).al (D j).ch (((D j).r : Nat) - 1) (dm (D j).S (D j).r) na nn nc ta tn tc), .slice A9 m9 C9, .int .i64 o, .int .i64 (S j)] y fun e w' => PsTold ((D j).is o (S j)) (ixN S D j) (ixF o D j) y w' e) := Lib.hid (fun y hb => by
        unfold Sb.is ixN Sb.n ixF Sb.F
        cases hal : (D j).al with
        | true =>
         rw [Bool.true_or, if_pos rfl]
         obtain ⟨Mj, hMj⟩ : ∃ q : Nat, S j = (q : Nat) := ⟨(S j).toNat, by omega⟩
         rw [hMj, Int.toNat_natCast]
         simp only [if_true]
         exact positionsA_any _ _ _ na nn nc ta tn tc A9 m9 C9 o Mj y (by omega)
        | false =>
         obtain ⟨rfl, hk9⟩ := HNM.out hal
         rw [Bool.false_or, if_neg (by decide)]
         simp only [Bool.false_eq_true, if_false]
         have hwj : (D j).wh = true := allB_iff.1 HWA.out j hlt
         unfold Sb.wh at hwj
         rw [hal, Bool.false_or] at hwj
         exact positionsN_any _ _ _ na nn nc ta tn tc A9 _ C9 (D j).P o (S j) y (hk9.below hb) (whC_in hwj) (by have := hokj.2.2.1; omega) ho hS)
       have HRG := Lib.hid hrg
       have HBL := Lib.hid hbl
       have HTO := Lib.hid hto
       have HIS := Lib.hid his
       have hsz := hto.1
       obtain ⟨⟨z9, x1, x2⟩, y1⟩ := hto.place hlt
       obtain ⟨al, hal⟩ : ∃ x, (D j).al = x := ⟨_, rfl⟩
       obtain ⟨ch, hch⟩ : ∃ x, (D j).ch = x := ⟨_, rfl⟩
       obtain ⟨more, hmore⟩ : ∃ x, (((D j).r : Nat) : Int) - 1 = x := ⟨_, rfl⟩
       obtain ⟨d, hd⟩ : ∃ x, dm (D j).S (D j).r = x := ⟨_, rfl⟩
       rw [hal, hch, hmore, hd] at PS HRG
       have HSF : Hid (∀ y, Below wr.heap.size wr y -> y.cell? ⟨b, off + j * 13, none⟩ = some (.bool al) /\ y.cell? ⟨b, off + j * 13 + 1, none⟩ = some (.bool ch) /\ y.cell? ⟨b, off + j * 13 + 2, none⟩ = some (.int .i64 more) /\ y.cell? ⟨b, off + j * 13 + 3, none⟩ = some (.int .i64 (d 0)) /\ y.cell? ⟨b, off + j * 13 + 4, none⟩ = some (.int .i64 (d 1)) /\ y.cell? ⟨b, off + j * 13 + 5, none⟩ = some (.int .i64 (d 2)) /\ y.cell? ⟨b, off + j * 13 + 6, none⟩ = some (.int .i64 (d 3)) /\ y.cell? ⟨b, off + j * 13 + 7, none⟩ = some (.int .i64 (d 4)) /\ y.cell? ⟨b, off + j * 13 + 8, none⟩ = some (.int .i64 (d 5)) /\ y.cell? ⟨b, off + j * 13 + 9, none⟩ = some (.int .i64 (d 6)) /\ y.cell? ⟨b, off + j * 13 + 10, none⟩ = some (.int .i64 (d 7)) /\ y.cell? ⟨b, off + j * 13 + 11, none⟩ = some (.slice na nn nc) /\ y.cell? ⟨b, off + j * 13 + 12, none⟩ = some (.slice ta tn tc) /\ y.cell? ⟨gN, j, none⟩ = some (.slice A9 m9 C9)) := Lib.hid (fun y hb => by
        have q := range_below HRG.out hb hlb
        exact ⟨q 0 _ rfl, q 1 _ rfl, q 2 _ rfl, q 3 _ rfl, q 4 _ rfl, q 5 _ rfl, q 6 _ rfl, q 7 _ rfl, q 8 _ rfl, q 9 _ rfl, q 10 _ rfl, q 11 _ rfl, q 12 _ rfl, (hb.cell (p := ⟨gN, j, none⟩) hlg).trans hc9⟩)
       have hbq : b < w2.heap.size := by
        obtain ⟨b', off', _, _, _, _, _, _, e, hl', _⟩ := (HS.out.below HB2.out).get hlt
        cases e
        exact hl'
       have HN3 := HN3.out
       have HSP : Hid (∀ y v, Below wr.heap.size wr y -> (y.setCell ⟨w2.heap.size, j, none⟩ v).cell? ⟨b, off + j * 13, none⟩ = some (.bool al) /\ (y.setCell ⟨w2.heap.size, j, none⟩ v).cell? ⟨b, off + j * 13 + 1, none⟩ = some (.bool ch) /\ (y.setCell ⟨w2.heap.size, j, none⟩ v).cell? ⟨b, off + j * 13 + 2, none⟩ = some (.int .i64 more) /\ (y.setCell ⟨w2.heap.size, j, none⟩ v).cell? ⟨b, off + j * 13 + 3, none⟩ = some (.int .i64 (d 0)) /\ (y.setCell ⟨w2.heap.size, j, none⟩ v).cell? ⟨b, off + j * 13 + 4, none⟩ = some (.int .i64 (d 1)) /\ (y.setCell ⟨w2.heap.size, j, none⟩ v).cell? ⟨b, off + j * 13 + 5, none⟩ = some (.int .i64 (d 2)) /\ (y.setCell ⟨w2.heap.size, j, none⟩ v).cell? ⟨b, off + j * 13 + 6, none⟩ = some (.int .i64 (d 3)) /\ (y.setCell ⟨w2.heap.size, j, none⟩ v).cell? ⟨b, off + j * 13 + 7, none⟩ = some (.int .i64 (d 4)) /\ (y.setCell ⟨w2.heap.size, j, none⟩ v).cell? ⟨b, off + j * 13 + 8, none⟩ = some (.int .i64 (d 5)) /\ (y.setCell ⟨w2.heap.size, j, none⟩ v).cell? ⟨b, off + j * 13 + 9, none⟩ = some (.int .i64 (d 6)) /\ (y.setCell ⟨w2.heap.size, j, none⟩ v).cell? ⟨b, off + j * 13 + 10, none⟩ = some (.int .i64 (d 7)) /\ (y.setCell ⟨w2.heap.size, j, none⟩ v).cell? ⟨b, off + j * 13 + 11, none⟩ = some (.slice na nn nc) /\ (y.setCell ⟨w2.heap.size, j, none⟩ v).cell? ⟨b, off + j * 13 + 12, none⟩ = some (.slice ta tn tc) /\ (y.setCell ⟨w2.heap.size, j, none⟩ v).cell? ⟨gN, j, none⟩ = some (.slice A9 m9 C9)) := Lib.hid (fun y v hb => by
        obtain ⟨q0, q1, q2, q3, q4, q5, q6, q7, q8, q9, q10, q11, q12, q13⟩ := HSF.out y hb
        have e : ∀ i, (y.setCell ⟨w2.heap.size, j, none⟩ v).cell? ⟨b, i, none⟩ = y.cell? ⟨b, i, none⟩ := fun i => World.cell?_setCell_other _ _ _ _ (fun h => by injection h with h _; omega)
        have e2 : (y.setCell ⟨w2.heap.size, j, none⟩ v).cell? ⟨gN, j, none⟩ = y.cell? ⟨gN, j, none⟩ := World.cell?_setCell_other _ _ _ _ (fun h => by injection h with h _; omega)
        exact ⟨(e _).trans q0, (e _).trans q1, (e _).trans q2, (e _).trans q3, (e _).trans q4, (e _).trans q5, (e _).trans q6, (e _).trans q7, (e _).trans q8, (e _).trans q9, (e _).trans q10, (e _).trans q11, (e _).trans q12, e2.trans q13⟩)
       unfold subC at PS
       clear hal hch hmore hd
       cases hps : (D j).is o (S j) with
       | true =>
        rw [hps] at PS
        have HIS2 : Hid (allB (fun j => (D j).is o (S j)) (j + 1) = true) := Lib.hid (by
         show (allB (fun j => (D j).is o (S j)) j && (D j).is o (S j)) = true
         rw [his, hps]; rfl)
        generalize hSj : S j = sj at *
        clear hrel hbl hto his hrg harr hnum hokj
        go_wp2_with fail
        have BD0 : Hid (Below wr.heap.size wr wr.drew) := Lib.hid (Below.refl _ wr).drew
        go_region_held3 (fun y => y.cell? ⟨b, off + j * 13, none⟩ = some (.bool al) /\ y.cell? ⟨b, off + j * 13 + 1, none⟩ = some (.bool ch) /\ y.cell? ⟨b, off + j * 13 + 2, none⟩ = some (.int .i64 more) /\ y.cell? ⟨b, off + j * 13 + 3, none⟩ = some (.int .i64 (d 0)) /\ y.cell? ⟨b, off + j * 13 + 4, none⟩ = some (.int .i64 (d 1)) /\ y.cell? ⟨b, off + j * 13 + 5, none⟩ = some (.int .i64 (d 2)) /\ y.cell? ⟨b, off + j * 13 + 6, none⟩ = some (.int .i64 (d 3)) /\ y.cell? ⟨b, off + j * 13 + 7, none⟩ = some (.int .i64 (d 4)) /\ y.cell? ⟨b, off + j * 13 + 8, none⟩ = some (.int .i64 (d 5)) /\ y.cell? ⟨b, off + j * 13 + 9, none⟩ = some (.int .i64 (d 6)) /\ y.cell? ⟨b, off + j * 13 + 10, none⟩ = some (.int .i64 (d 7)) /\ y.cell? ⟨b, off + j * 13 + 11, none⟩ = some (.slice na nn nc) /\ y.cell? ⟨b, off + j * 13 + 12, none⟩ = some (.slice ta tn tc) /\ y.cell? ⟨gN, j, none⟩ = some (.slice A9 m9 C9))
         (first
           | exact HSF.out _ BD0.out
           | (have hq := HB6.out; exact HSF.out _ hq)
           | (have hq := HB6.out; exact HSP.out _ _ hq))
         ((go_at_call 89; (refine (PS.out _ BD0.out).mono ?_); rintro e w5 ⟨a5, m5, c5, rfl, h5, hb5⟩; (have HB6 := Lib.hid (BD0.out.trans (hb5.mono BD0.out.size))); (rw [if_pos rfl] at h5); (obtain ⟨rfl, hk5, ⟨p5, rfl⟩⟩ := h5); (have hto5 := HTO.out.below HB6.out); (obtain ⟨⟨z5, x5, _⟩, y5⟩ := hto5.place hlt); (have HN := Lib.hid (And.intro ((HBL.out.trans (HB6.out.mono HBL.out.size)).setCell (p := ⟨w2.heap.size, j, none⟩) (Nat.le_refl _) (.slice (some p5) (ixN S D j) c5)) (And.intro (hto5.step hlt hk5) HIS2.out))); (clear hto5 hk5 hb5)))
        go_wp2_with fail
        go_roundw
        case rel => exact ⟨j + 1, by omega, by go_num, rfl, HN.out⟩
        case measure => simp [intOf]; omega
       | false =>
        rw [hps] at PS
        obtain rfl := HE25.out (allB_no hlt hps)
        generalize hSj : S j = sj at *
        clear hrel hbl hto his hrg harr hnum hokj
        go_wp2_with fail
        have BD0 : Hid (Below wr.heap.size wr wr.drew) := Lib.hid (Below.refl _ wr).drew
        go_region_held3 (fun y => y.cell? ⟨b, off + j * 13, none⟩ = some (.bool al) /\ y.cell? ⟨b, off + j * 13 + 1, none⟩ = some (.bool ch) /\ y.cell? ⟨b, off + j * 13 + 2, none⟩ = some (.int .i64 more) /\ y.cell? ⟨b, off + j * 13 + 3, none⟩ = some (.int .i64 (d 0)) /\ y.cell? ⟨b, off + j * 13 + 4, none⟩ = some (.int .i64 (d 1)) /\ y.cell? ⟨b, off + j * 13 + 5, none⟩ = some (.int .i64 (d 2)) /\ y.cell? ⟨b, off + j * 13 + 6, none⟩ = some (.int .i64 (d 3)) /\ y.cell? ⟨b, off + j * 13 + 7, none⟩ = some (.int .i64 (d 4)) /\ y.cell? ⟨b, off + j * 13 + 8, none⟩ = some (.int .i64 (d 5)) /\ y.cell? ⟨b, off + j * 13 + 9, none⟩ = some (.int .i64 (d 6)) /\ y.cell? ⟨b, off + j * 13 + 10, none⟩ = some (.int .i64 (d 7)) /\ y.cell? ⟨b, off + j * 13 + 11, none⟩ = some (.slice na nn nc) /\ y.cell? ⟨b, off + j * 13 + 12, none⟩ = some (.slice ta tn tc) /\ y.cell? ⟨gN, j, none⟩ = some (.slice A9 m9 C9))
         (first
           | exact HSF.out _ BD0.out
           | (have hq := HB6.out; exact HSF.out _ hq)
           | (have hq := HB6.out; exact HSP.out _ _ hq))
         ((go_at_call 89; (refine (PS.out _ BD0.out).mono ?_); rintro e w5 ⟨a5, m5, c5, rfl, h5, hb5⟩; (have HB6 := Lib.hid (BD0.out.trans (hb5.mono BD0.out.size))); (rw [if_neg (by decide)] at h5); (obtain ⟨rfl, rfl, rfl⟩ := h5); (have hto5 := HTO.out.below HB6.out); (obtain ⟨⟨z5, x5, _⟩, y5⟩ := hto5.place hlt); (have HE := Lib.hid (SeTold.no (E := 25) (R := R) (T := T) (M := M) (G := G) (by decide) (HB2.out.trans (((HBL.out.trans (HB6.out.mono HBL.out.size)).setCell (p := ⟨w2.heap.size, j, none⟩) (Nat.le_refl _) (.slice none 0 0)).mono HB2.out.size)))); (clear hto5 hb5)))
        go_wp2_with fail
        exact bodyPost_ret (by simp [results, Tryz.results39, go_sem]) rfl HE.out
     · obtain rfl : j = k := by omega
       have hE0 := HE0.out his
       obtain ⟨A, C, hL⟩ := hto.done (by unfold maxLen; omega)
       have HL := Lib.hid hL
       have HBW := Lib.hid (HB2.out.trans (hbl.mono HB2.out.size))
       have HIS := Lib.hid his
       clear hrel hbl hto his hL HE25 HE0
       by_cases h8 : 8 < R
       · rw [if_pos h8] at hE0
         subst hE0
         have h9 : (8 : Int) < R := by omega
         go_wp2_with fail
         go_at_call 90
         (with_reducible refine (JN.out _ (HK.out.below HBW.out) (HS.out.below HBW.out)).mono ?_)
         rintro e w3 ⟨a3, c3, rfl, hk3, hb3⟩
         have hl3 := hk3.len
         have HE := Lib.hid (SeTold.no (E := 23) (R := R) (T := T) (M := M) (G := G) (by decide) (HBW.out.trans (hb3.mono HBW.out.size)))
         clear hk3 hb3
         go_wp2_with fail
         exact bodyPost_ret (by simp [results, Tryz.results39, go_sem]) rfl HE.out
       · rw [if_neg h8] at hE0
         have h9 : ¬ (8 : Int) < R := by omega
         have h10 : (R : Int) <= 8 := by omega
         unfold pkE at hE0
         cases hsT : shB T R with
         | false =>
          rw [hsT, if_neg (by decide)] at hE0
          subst hE0
          rw [hsT] at CN
          generalize cntI T R = ci at *
          go_wp2_with fail
          go_at_call 90
          (with_reducible refine (JN.out _ (HK.out.below HBW.out) (HS.out.below HBW.out)).mono ?_)
          rintro e w3 ⟨a3, c3, rfl, hk3, hb3⟩
          have hl3 := hk3.len
          have HK3 := Lib.hid hk3
          have HE := Lib.hid (SeTold.no (E := 26) (R := R) (T := T) (M := M) (G := G) (by decide) (HBW.out.trans (hb3.mono HBW.out.size)))
          clear hk3 hb3
          go_wp2_with fail
          go_at_call 91
          (with_reducible refine (CN.out _ _ _ HK3.out).mono ?_)
          rintro e w4 ⟨rfl, rfl⟩
          go_wp2_with fail
          exact bodyPost_ret (by simp [results, Tryz.results39, go_sem]) rfl HE.out
         | true =>
          rw [hsT, if_pos rfl] at hE0
          subst hE0
          rw [hsT] at CN
          have CB2 := Lib.hid (CB.out hsT HIS.out)
          generalize cntI T R = ci at *
          go_wp2_with fail
          go_at_call 90
          (with_reducible refine (JN.out _ (HK.out.below HBW.out) (HS.out.below HBW.out)).mono ?_)
          rintro e w3 ⟨a3, c3, rfl, hk3, hb3⟩
          have hl3 := hk3.len
          have HK3 := Lib.hid hk3
          have HB3 := Lib.hid hb3
          clear hk3 hb3
          go_wp2_with fail
          go_at_call 91
          (with_reducible refine (CN.out _ _ _ HK3.out).mono ?_)
          rintro e w4 ⟨rfl, rfl⟩
          go_wp2_with fail
          go_at_call 93
          (with_reducible refine (ST.out _ ((HK.out.below HBW.out).below HB3.out)).mono ?_)
          rintro e w4 ⟨a4, m4, c4, rfl, h4, hb4⟩
          have h4 : m4 = j /\ KRow w4 .i64 a4 j c4 (stF S j) := by simpa using h4
          obtain ⟨hm4, hk4⟩ := h4
          have HK4 := Lib.hid hk4
          have HB4 := Lib.hid hb4
          have HM4 := Lib.hid hm4
          clear hb4 hk4 hm4
          go_wp2_with fail
          go_at_call 92
          (refine (CB2.out a4 m4 c4 _ _ _ _ _ HM4.out HK4.out ((HL.out.below HB3.out).below HB4.out)).mono ?_)
          rintro e w5 ⟨a5, c5, rfl, hk5, hb5⟩
          have HE : Hid (SeTold 0 R T M G w w5 (.returned (.tuple #[.slice a3 R c3, .slice a5 M c5, .int .i64 0]))) := Lib.hid ⟨_, _, _, _, _, _, rfl, fun _ => ⟨rfl, (HK3.out.below HB4.out).below hb5, rfl, hk5⟩, ((HBW.out.trans (HB3.out.mono HBW.out.size)).trans (HB4.out.mono (HBW.out.trans (HB3.out.mono HBW.out.size)).size)).trans (hb5.mono ((HBW.out.trans (HB3.out.mono HBW.out.size)).trans (HB4.out.mono (HBW.out.trans (HB3.out.mono HBW.out.size)).size)).size)⟩
          clear hk5 hb5
          go_wp2_with fail
          exact bodyPost_ret (by simp [results, Tryz.results39, go_sem]) rfl HE.out
 · rw [if_pos hmn] at hE
   subst hE
   have hne : ((m : Int) != (n : Int)) = true := bne_iff_ne.2 (by omega)
   have HE := Lib.hid (SeTold.no (E := 23) (R := R) (T := T) (M := M) (G := G) (by decide) (Below.refl w.heap.size w))
   clear h h1 hok hR hT hM hG hEn RD
   go_enter Tryz.func39, Tryz.ntmps39
   go_wp2_with fail
   exact bodyPost_ret (by simp [results, Tryz.results39, go_sem]) rfl HE.out
theorem NewAt.nil {w w' : World} {a : Option Addr} {n c : Nat} (h : NewAt w w' a n c) : a = none -> c = 0 := fun e => by
 rcases h with ⟨_, _, h⟩ | ⟨g, h, _⟩
 · exact h
 · rw [h] at e; cases e
theorem IsA.of (ch : Bool) (more : Int) (d : Nat -> Int) (na : Option Addr) (nn nc : Nat) (ta : Option Addr) (tn tc : Nat) : IsA (arrC ch more d na nn nc ta tn tc) := ⟨_, _, _, _, _, _, _, _, _, rfl⟩
theorem Arr.zero {w : World} {x : Array Value} {S : Nat -> Int} {r : Nat} {ch : Bool} {g P : Nat -> Int} {Q : Nat -> Nat} (h : Arr w x S r ch 0 g P Q) (g' P' : Nat -> Int) (Q' : Nat -> Nat) : Arr w x S r ch 0 g' P' Q' := by
 refine ⟨fun e => ?_, fun e => ?_⟩
 · obtain ⟨a, c, h1, h2⟩ := h.1 e
   exact ⟨a, c, h1, h2.zero _⟩
 · obtain ⟨a, c, h1, h2⟩ := h.2 e
   exact ⟨a, c, h1, h2.1, h2.2.1, .inl rfl⟩
def Keeps (K : World -> Prop) : Prop := (∀ a b, Below a.heap.size a b -> K a -> K b) /\ ∀ (y : World) (k : Nat) (z cs : Array Value), Row y k 36 z -> IsA z -> K y -> K (y.setRow k cs)
def AlkP (k1 k2 k3 k4 : Nat) (c1 c2 : Array Value) (K : World -> Prop) (y : World) : Prop := Row y k1 36 c1 /\ Row y k2 36 c2 /\ (∃ z, Row y k3 36 z /\ IsA z) /\ (∃ z, Row y k4 36 z /\ IsA z) /\ K y
theorem AlkP.stay {k1 k2 k3 k4 : Nat} {c1 c2 : Array Value} {K : World -> Prop} (hK : Keeps K) : ∀ a b, Below a.heap.size a b -> AlkP k1 k2 k3 k4 c1 c2 K a -> AlkP k1 k2 k3 k4 c1 c2 K b := by
 rintro a b hb ⟨h1, h2, ⟨z3, h3, i3⟩, ⟨z4, h4, i4⟩, h5⟩
 exact ⟨h1.below hb, h2.below hb, ⟨z3, h3.below hb, i3⟩, ⟨z4, h4.below hb, i4⟩, hK.1 _ _ hb h5⟩
theorem AlkP.put3 {w y : World} {k1 k2 k3 k4 : Nat} {c1 c2 : Array Value} {K : World -> Prop} (hK : Keeps K) (h : Bag w (AlkP k1 k2 k3 k4 c1 c2 K) y) (n1 : k1 ≠ k3) (n2 : k2 ≠ k3) (n4 : k4 ≠ k3) (hw : w.heap.size <= k3) (cs : Array Value) (hc : IsA cs) : Bag w (AlkP k1 k2 k3 k4 c1 c2 K) (y.setRow k3 cs) := by
 obtain ⟨h1, h2, ⟨z3, h3, i3⟩, ⟨z4, h4, i4⟩, h5⟩ := h.now
 exact ⟨below_put h.below hw _, AlkP.stay hK, h1.puto n1 _, h2.puto n2 _, ⟨_, h3.put _, hc⟩, ⟨z4, h4.puto n4 _, i4⟩, hK.2 _ _ _ _ h3 i3 h5⟩
theorem AlkP.put4 {w y : World} {k1 k2 k3 k4 : Nat} {c1 c2 : Array Value} {K : World -> Prop} (hK : Keeps K) (h : Bag w (AlkP k1 k2 k3 k4 c1 c2 K) y) (n1 : k1 ≠ k4) (n2 : k2 ≠ k4) (n3 : k3 ≠ k4) (hw : w.heap.size <= k4) (cs : Array Value) (hc : IsA cs) : Bag w (AlkP k1 k2 k3 k4 c1 c2 K) (y.setRow k4 cs) := by
 obtain ⟨h1, h2, ⟨z3, h3, i3⟩, ⟨z4, h4, i4⟩, h5⟩ := h.now
 exact ⟨below_put h.below hw _, AlkP.stay hK, h1.puto n1 _, h2.puto n2 _, ⟨z3, h3.puto n3 _, i3⟩, ⟨_, h4.put _, hc⟩, hK.2 _ _ _ _ h4 i4 h5⟩
def AlkB (f : Bool) (k1 k2 k3 k4 : Nat) (c1 c2 : Array Value) (y : World) : Prop := (f = false -> Row y k2 36 c2) /\ Row y k1 36 c1 /\ (∃ z, Row y k2 36 z /\ IsA z) /\ (∃ z, Row y k3 36 z /\ IsA z) /\ ∃ z, Row y k4 36 z /\ IsA z
theorem AlkB.stay {f : Bool} {k1 k2 k3 k4 : Nat} {c1 c2 : Array Value} : ∀ a b, Below a.heap.size a b -> AlkB f k1 k2 k3 k4 c1 c2 a -> AlkB f k1 k2 k3 k4 c1 c2 b := by
 rintro a b hb ⟨h0, h1, ⟨z2, h2, i2⟩, ⟨z3, h3, i3⟩, z4, h4, i4⟩
 exact ⟨fun e => (h0 e).below hb, h1.below hb, ⟨z2, h2.below hb, i2⟩, ⟨z3, h3.below hb, i3⟩, z4, h4.below hb, i4⟩
theorem AlkB.put {w y : World} {f : Bool} {k1 k2 k3 k4 : Nat} {c1 c2 : Array Value} (h : Bag w (AlkB f k1 k2 k3 k4 c1 c2) y) (n1 : k1 ≠ k2) (n34 : k3 ≠ k2 /\ k4 ≠ k2) (hw : w.heap.size <= k2) (cs : Array Value) (hc : IsA cs) : Bag w (AlkB true k1 k2 k3 k4 c1 c2) (y.setRow k2 cs) := by
 obtain ⟨h0, h1, ⟨z2, h2, i2⟩, ⟨z3, h3, i3⟩, z4, h4, i4⟩ := h.now
 exact ⟨below_put h.below hw _, AlkB.stay, (fun e => by cases e), h1.puto n1 _, ⟨_, h2.put _, hc⟩, ⟨z3, h3.puto n34.1 _, i3⟩, z4, h4.puto n34.2 _, i4⟩
def BhP (fl : Bool) (k1 k2 k3 k4 : Nat) (c1 c2 : Array Value) (aT : Option Addr) (r cT : Nat) (T : Nat -> Int) (y : World) : Prop := Row y k1 36 c1 /\ Row y k2 36 c2 /\ Row y k3 36 zerC /\ (∃ z, Row y k4 36 z /\ IsA z) /\ (fl = false -> KRow y .i64 aT r cT T)
theorem BhP.stay {fl : Bool} {k1 k2 k3 k4 : Nat} {c1 c2 : Array Value} {aT : Option Addr} {r cT : Nat} {T : Nat -> Int} : ∀ a b, Below a.heap.size a b -> BhP fl k1 k2 k3 k4 c1 c2 aT r cT T a -> BhP fl k1 k2 k3 k4 c1 c2 aT r cT T b := by
 rintro a b hb ⟨h1, h2, h3, ⟨z4, h4, i4⟩, h5⟩
 exact ⟨h1.below hb, h2.below hb, h3.below hb, ⟨z4, h4.below hb, i4⟩, fun e => (h5 e).below hb⟩
theorem BhP.put {w y : World} {fl : Bool} {k1 k2 k3 k4 : Nat} {c1 c2 : Array Value} {aT : Option Addr} {r cT : Nat} {T : Nat -> Int} (h : Bag w (BhP fl k1 k2 k3 k4 c1 c2 aT r cT T) y) (n1 : k1 ≠ k4) (n2 : k2 ≠ k4) (n3 : k3 ≠ k4) (hw : w.heap.size <= k4) (cs : Array Value) (hc : IsA cs) : Bag w (BhP true k1 k2 k3 k4 c1 c2 aT r cT T) (y.setRow k4 cs) := by
 obtain ⟨h1, h2, h3, ⟨z4, h4, i4⟩, _⟩ := h.now
 exact ⟨below_put h.below hw _, BhP.stay, h1.puto n1 _, h2.puto n2 _, h3.puto n3 _, ⟨_, h4.put _, hc⟩, fun e => by cases e⟩
theorem stA {ops : Array Oper} {rest : List Oper} {o : Oper} {a : Act} {w : World} {Q : Exit -> Act -> World -> Prop} (hgd : o.guard = none) (x y : Operand) (ho : o.op = .store 36 x y) (g : Nat) (hx : a.eval x = .pointer (some ⟨g, 0, none⟩))
    (cs : Array Value) (hy : a.eval y = .agg cs) (hc : IsA cs) {old : Array Value} (hg : Row w g 36 old) (hz : IsA old)
    (h : wpList Tryz.prog ops Q rest (a.put o.dst undef) (w.setRow g cs)) : wpList Tryz.prog ops Q (o :: rest) a w :=
 wpList_store_row hgd _ x y ho g _ hx hy _ old hg (by rw [arr12, hc.size]) (by rw [hz.size, hc.size]) hc.one h
theorem MoR.told {w w' : World} {x : Array Value} {E : Int} {S : Nat -> Int} {r : Nat} {ch : Bool} {L : Nat} {g fP : Nat -> Int} {fQ : Nat -> Nat} (h : MoR w' x E S r ch L g fP fQ) (hb : Below w.heap.size w w') : MoTold E S r ch L g fP fQ w w' (.returned (.tuple #[.agg x, .int .i64 E])) := ⟨x, rfl, h.2.1, h.2.2, hb⟩
theorem st_arrN {ops : Array Oper} {rest : List Oper} {o : Oper} {a : Act} {w : World} {Q : Exit -> Act -> World -> Prop} (hgd : o.guard = none) (x y : Operand) (ho : o.op = .store 36 x y) (hx : a.eval x = .pointer (some ⟨w.heap.size, 0, none⟩))
    (cs : Array Value) (hy : a.eval y = .agg cs) (hc : IsA cs) {old : Array Value} (ho2 : old.size = 12)
    (h : ∀ Y, Row Y w.heap.size 36 cs -> Below w.heap.size w Y -> wpList Tryz.prog ops Q rest (a.put o.dst undef) Y) : wpList Tryz.prog ops Q (o :: rest) a (w.alloc (.cells old 36)) :=
 wpList_store_row hgd _ x y ho w.heap.size _ hx hy _ old (Row.new w _ old) (by rw [arr12, hc.size]) (by rw [ho2, hc.size]) hc.one (h _ ((Row.new w _ old).put _) (below_put ((Below.refl _ _).alloc (Nat.le_refl _) _) (Nat.le_refl _) _))
theorem ix_zero {o : Int} {S : Nat -> Int} {r : Nat} {D : Nat -> Sb} {m : Nat} (h : ixE o S r D m = 0) : m = r /\ allB (fun j => (D j).wh) r = true /\ allB (fun j => (D j).is o (S j)) r = true /\ shB (ixT S D r) (ixR D r) = true := by
 unfold ixE at h
 by_cases h1 : m = r
 · subst h1
   rw [if_neg (by omega)] at h
   cases h2 : allB (fun j => (D j).wh) m with
   | false => rw [if_pos h2] at h; cases h
   | true =>
    rw [if_neg (by rw [h2]; decide)] at h
    cases h3 : allB (fun j => (D j).is o (S j)) m with
    | false => rw [if_pos h3] at h; cases h
    | true =>
     rw [if_neg (by rw [h3]; decide)] at h
     split at h
     · cases h
     · unfold pkE at h
       split at h
       · exact ⟨rfl, rfl, rfl, by assumption⟩
       · cases h
 · rw [if_pos h1] at h; cases h
theorem iindex_any (x : Array Value) (S : Nat -> Int) (r : Nat) (ch : Bool) (L : Nat) (g P : Nat -> Int) (Q : Nat -> Nat) (o : Int) (sa : Option Addr) (m c : Nat) (D : Nat -> Sb) (w : World) (h : Arr w x S r ch L g P Q) (hsh : shB S r = true) (hs : SRow w sa m c D) (hok : ∀ j, j < m -> (D j).ok) (hm : m <= 1000) (ho : 0 <= o /\ o <= 1) :
    Calls Tryz.prog 11 #[.agg x, .int .i64 o, .slice sa m c] w fun e w' => MoTold (ixE o S r D m) (ixT S D r) (ixR D r) ch (itm (lnF (ixN S D)) r).toNat (fun j => elC L g 32 (pkG S (lnF (ixN S D)) r (ixF o D) j)) (fun j => elP L P (pkG S (lnF (ixN S D)) r (ixF o D) j)) (fun j => elQ L Q (pkG S (lnF (ixN S D)) r (ixF o D) j)) w w' e := by
 obtain ⟨na, nn, nc, ta, tn, tc, hx, _⟩ := h.form
 subst hx
 have H := Lib.hid h
 have hr8 := (sh_ax hsh).1
 have SHP := Lib.hid (fun wz q => shape_new (arrC ch ((r : Int) - 1) (dm S r) na nn nc ta tn tc) S r ch L g P Q wz q hr8)
 have SE := Lib.hid (fun a c1 wz q q2 => iselected_any a r c1 S o sa m c D wz q q2 hsh hok hm ho)
 have HS := Lib.hid hs
 obtain ⟨R, hR⟩ : ∃ x, ixR D r = x := ⟨_, rfl⟩
 obtain ⟨T, hT⟩ : ∃ x, ixT S D r = x := ⟨_, rfl⟩
 obtain ⟨M, hM⟩ : ∃ x, (itm (lnF (ixN S D)) r).toNat = x := ⟨_, rfl⟩
 obtain ⟨G, hG⟩ : ∃ x, pkG S (lnF (ixN S D)) r (ixF o D) = x := ⟨_, rfl⟩
 obtain ⟨E, hE⟩ : ∃ x, ixE o S r D m = x := ⟨_, rfl⟩
 rw [hR, hT, hM, hG, hE] at SE
 rw [hR, hT, hM, hG, hE]
 unfold SeTold at SE
 have HZ : Hid (E = 0 -> shB T R = true /\ itm T R = (M : Nat) /\ M <= 4096) := Lib.hid (fun e => by
  rw [← hE] at e
  obtain ⟨rfl, _, _, q⟩ := ix_zero e
  obtain ⟨q1, q2⟩ := ix_ax (fun j hj => ⟨hok j hj, (ax_le4 hsh hj).1⟩) q
  have := ax_bd q1
  rw [hT, hR] at q q2
  exact ⟨q, by omega, by omega⟩)
 have PK := Lib.hid (fun (e : E = 0) a1 d1 a2 d2 wz q (k1 : KRow wz .i64 a1 R d1 T) (k2 : KRow wz .i64 a2 M d2 G) => pick8_any (arrC ch ((r : Int) - 1) (dm S r) na nn nc ta tn tc) S r ch L g P Q a1 R d1 T a2 M d2 G wz q k1 (fun j hj => by have := ax_le4 (HZ.out e).1 hj; omega) k2 (fun j hj => by rw [← hG]; have := pkG_bd (T := lnF (ixN S D)) (F := ixF o D) hsh j; omega) (by have := (HZ.out e).2.2; omega))
 unfold ArrTold at PK
 obtain ⟨eC, heC⟩ : ∃ f : Nat -> Int, (fun j => elC L g 32 (G j)) = f := ⟨_, rfl⟩
 obtain ⟨eP, heP⟩ : ∃ f : Nat -> Int, (fun j => elP L P (G j)) = f := ⟨_, rfl⟩
 obtain ⟨eQ, heQ⟩ : ∃ f : Nat -> Nat, (fun j => elQ L Q (G j)) = f := ⟨_, rfl⟩
 rw [heC, heP, heQ] at PK
 rw [heC, heP, heQ]
 have BB := Lib.hid (((Bag.start w).newRow (arrC ch ((r : Int) - 1) (dm S r) na nn nc ta tn tc) 36).newRow zerC 36)
 simp only [World.size_alloc] at BB
 have HR := Lib.hid BB.out.now.2.1
 clear h hsh hs hok hR hT hM hG hE heC heP heQ
 unfold arrC
 go_enter Tryz.func11, Tryz.ntmps11
 go_wp2_with (refine ld_arr rfl (.tmp 3) rfl w.heap.size rfl HR.out ?_)
 go_at_call 40
 (refine (SHP.out _ (H.out.below BB.out.below)).mono ?_)
 rintro e w2 ⟨g2, c2, rfl, _, _, hk2, hb2⟩
 have BB := Lib.hid (BB.out.go hb2)
 have HK2 := Lib.hid hk2
 clear hk2 hb2 HR
 go_wp2_with fail
 go_at_call 39
 (with_reducible refine (SE.out _ _ _ HK2.out (HS.out.below BB.out.below)).mono ?_)
 rintro e w3 ⟨a3, m3, c3, a4, m4, c4, rfl, h3, hb3⟩
 have BB := Lib.hid (BB.out.go hb3)
 clear hb3
 by_cases h0 : E = 0
 · obtain ⟨rfl, k3, rfl, k4⟩ := h3 h0
   subst h0
   have HK3 := Lib.hid k3
   have HK4 := Lib.hid k4
   have HR := Lib.hid BB.out.now.2.1
   have PK2 := Lib.hid (PK.out rfl)
   rw [(HZ.out rfl).1, decide_eq_true (HZ.out rfl).2.1] at PK2
   clear h3 k3 k4 PK HZ SE
   go_wp2_with (refine ld_arr rfl (.tmp 3) rfl w.heap.size rfl HR.out ?_)
   go_at_call 41
   (with_reducible refine (PK2.out _ _ _ _ _ (H.out.below BB.out.below) HK3.out HK4.out).mono ?_)
   rintro e w4 ⟨cs, rfl, h4, hb4⟩
   have h4 : Arr w4 cs T m3 ch m4 eC eP eQ := by simpa using h4
   have BB := Lib.hid (BB.out.go hb4)
   have HA := Lib.hid h4
   have HIA := Lib.hid h4.isA
   clear hb4 h4 HR
   go_wp2_with (first
    | (refine st_arrN rfl (.tmp 11) (.tmp 31) rfl rfl cs rfl HIA.out rfl ?_; intro Y hY hbY; have HY := Lib.hid hY; have BB := Lib.hid (BB.out.go hbY); have HA := Lib.hid (HA.out.below hbY); have HR := Lib.hid BB.out.now.1; clear hY hbY)
    | (refine ld8G (by rfl) 11 rfl _ cs (by rfl) HY.out HIA.out.size ?_)
    | (refine stA rfl (.tmp 6) (.tmp 33) rfl (w.heap.size + 1) rfl cs rfl HIA.out HR.out IsA.zer ?_))
   have HE := Lib.hid (MoTold.yes (HA.out.store HR.out IsA.zer cs) (below_put BB.out.below (show w.heap.size <= w.heap.size + 1 by omega) cs))
   exact bodyPost_ret (res_arr2 Tryz.results11 rfl rfl (HR.out.put _) HIA.out.size) rfl HE.out
 · have dE : (E != 0) = true := bne_iff_ne.2 h0
   have HR := Lib.hid BB.out.now.1
   have HE := Lib.hid (MoTold.no (S := T) (r := R) (ch := ch) (L := M) (g := eC) (fP := eP) (fQ := eQ) h0 (below_put BB.out.below (show w.heap.size <= w.heap.size + 1 by omega) zerC))
   clear h3 PK HZ SE h0
   go_wp2_with (refine st_arr rfl (.tmp 6) (.tmp 24) rfl (w.heap.size + 1) rfl false 0 (fun _ => 0) none 0 0 none 0 0 rfl HR.out rfl ?_)
   exact bodyPost_ret (res_arr2 Tryz.results11 rfl rfl (HR.out.put _) rfl) rfl HE.out
def fiE (r : Nat) (S : Nat -> Int) (R : Nat) (T : Nat -> Int) : Int := if r = 0 then 0 else if r ≠ R then 23 else if sameB S T r = true then 0 else 24
theorem ifits_any (x : Array Value) (S : Nat -> Int) (r : Nat) (ch : Bool) (L : Nat) (g P : Nat -> Int) (Q : Nat -> Nat) (a1 : Option Addr) (R c1 : Nat) (T : Nat -> Int) (w : World) (h : Arr w x S r ch L g P Q) (hr : r <= 8) (hT : KRow w .i64 a1 R c1 T) :
    Calls Tryz.prog 48 #[.agg x, .slice a1 R c1] w fun e w' => e = .returned (.int .i64 (fiE r S R T)) /\ Below w.heap.size w w' := by
 obtain ⟨na, nn, nc, ta, tn, tc, hx, _⟩ := h.form
 subst hx
 have H := Lib.hid h
 have HT := Lib.hid hT
 have hl := hT.len
 have SHP := Lib.hid (fun wz q => shape_new (arrC ch ((r : Int) - 1) (dm S r) na nn nc ta tn tc) S r ch L g P Q wz q hr)
 have RK := Lib.hid (fun wz q => rank8_any (arrC ch ((r : Int) - 1) (dm S r) na nn nc ta tn tc) S r ch L g P Q wz q (by omega))
 have SM := Lib.hid (fun a c wz (k : KRow wz .i64 a r c S) (k2 : KRow wz .i64 a1 R c1 T) => same_any a r c S a1 R c1 T wz k k2)
 unfold SameTold at SM
 have BB := Lib.hid ((Bag.start w).newRow (arrC ch ((r : Int) - 1) (dm S r) na nn nc ta tn tc) 36)
 have HR := Lib.hid BB.out.now.1
 have WB : Hid (∀ y e, Below w.heap.size w y -> fiE r S R T = e -> ((Ending.returned (.int .i64 e)) = .returned (.int .i64 (fiE r S R T)) /\ Below w.heap.size w y)) := Lib.hid (fun y e hb he => ⟨by rw [he], hb⟩)
 clear h hT
 unfold arrC
 by_cases h0 : r = 0
 · have dz : ((r : Int) == 0) = true := beq_iff_eq.2 (by omega)
   have hE : fiE r S R T = 0 := by unfold fiE; rw [if_pos h0]
   have HEE := Lib.hid hE
   clear h0 hE
   go_enter Tryz.func48, Tryz.ntmps48
   go_wp2_with (refine ld_arr rfl (.tmp 2) rfl w.heap.size rfl HR.out ?_)
   go_at_call 95
   (refine (RK.out _ (H.out.below BB.out.below)).mono ?_)
   rintro e w2 ⟨rfl, hb2⟩
   have HE := Lib.hid (WB.out _ _ (BB.out.go hb2).below HEE.out)
   clear hb2
   go_wp2_with fail
   go_ret
   exact HE.out
 · have dz : ((r : Int) == 0) = false := beq_eq_false_iff_ne.2 (by omega)
   by_cases h1 : r = R
   · have d1 : ((r : Int) != (R : Int)) = false := by rw [h1]; exact bne_self_eq_false _
     cases hsb : sameB S T r with
     | true =>
      have HEE : Hid (fiE r S R T = 0) := Lib.hid (by unfold fiE; rw [if_neg h0, if_neg (by omega), if_pos hsb])
      rw [hsb, decide_eq_true h1] at SM
      clear h0 hsb h1
      go_enter Tryz.func48, Tryz.ntmps48
      go_wp2_with (refine ld_arr rfl (.tmp 2) rfl w.heap.size rfl HR.out ?_)
      go_at_call 95
      (refine (RK.out _ (H.out.below BB.out.below)).mono ?_)
      rintro e w2 ⟨rfl, hb2⟩
      have BB := Lib.hid (BB.out.go hb2)
      have HR := Lib.hid BB.out.now.1
      clear hb2
      go_wp2_with (refine ld_arr rfl (.tmp 2) rfl w.heap.size rfl HR.out ?_)
      go_at_call 95
      (refine (RK.out _ (H.out.below BB.out.below)).mono ?_)
      rintro e w2 ⟨rfl, hb2⟩
      have BB := Lib.hid (BB.out.go hb2)
      have HR := Lib.hid BB.out.now.1
      clear hb2
      go_wp2_with (refine ld_arr rfl (.tmp 2) rfl w.heap.size rfl HR.out ?_)
      go_at_call 40
      (refine (SHP.out _ (H.out.below BB.out.below)).mono ?_)
      rintro e w3 ⟨g2, c2, rfl, _, _, hk2, hb2⟩
      have BB := Lib.hid (BB.out.go hb2)
      have HK2 := Lib.hid hk2
      clear hk2 hb2 HR
      go_wp2_with fail
      go_at_call 103
      (refine (SM.out _ _ _ HK2.out (HT.out.below BB.out.below)).mono ?_)
      rintro e w4 ⟨rfl, hb2⟩
      have HE := Lib.hid (WB.out _ _ (BB.out.go hb2).below HEE.out)
      clear hb2
      go_wp2_with fail
      go_ret
      exact HE.out
     | false =>
      have HEE : Hid (fiE r S R T = 24) := Lib.hid (by unfold fiE; rw [if_neg h0, if_neg (by omega), if_neg (by rw [hsb]; decide)])
      rw [hsb, Bool.and_false] at SM
      clear h0 hsb h1
      go_enter Tryz.func48, Tryz.ntmps48
      go_wp2_with (refine ld_arr rfl (.tmp 2) rfl w.heap.size rfl HR.out ?_)
      go_at_call 95
      (refine (RK.out _ (H.out.below BB.out.below)).mono ?_)
      rintro e w2 ⟨rfl, hb2⟩
      have BB := Lib.hid (BB.out.go hb2)
      have HR := Lib.hid BB.out.now.1
      clear hb2
      go_wp2_with (refine ld_arr rfl (.tmp 2) rfl w.heap.size rfl HR.out ?_)
      go_at_call 95
      (refine (RK.out _ (H.out.below BB.out.below)).mono ?_)
      rintro e w2 ⟨rfl, hb2⟩
      have BB := Lib.hid (BB.out.go hb2)
      have HR := Lib.hid BB.out.now.1
      clear hb2
      go_wp2_with (refine ld_arr rfl (.tmp 2) rfl w.heap.size rfl HR.out ?_)
      go_at_call 40
      (refine (SHP.out _ (H.out.below BB.out.below)).mono ?_)
      rintro e w3 ⟨g2, c2, rfl, _, _, hk2, hb2⟩
      have BB := Lib.hid (BB.out.go hb2)
      have HK2 := Lib.hid hk2
      clear hk2 hb2 HR
      go_wp2_with fail
      go_at_call 103
      (refine (SM.out _ _ _ HK2.out (HT.out.below BB.out.below)).mono ?_)
      rintro e w4 ⟨rfl, hb2⟩
      have HE := Lib.hid (WB.out _ _ (BB.out.go hb2).below HEE.out)
      clear hb2
      go_wp2_with fail
      go_ret
      exact HE.out
   · have d1 : ((r : Int) != (R : Int)) = true := bne_iff_ne.2 (by omega)
     have HEE : Hid (fiE r S R T = 23) := Lib.hid (by unfold fiE; rw [if_neg h0, if_pos h1])
     clear h0 h1
     go_enter Tryz.func48, Tryz.ntmps48
     go_wp2_with (refine ld_arr rfl (.tmp 2) rfl w.heap.size rfl HR.out ?_)
     go_at_call 95
     (refine (RK.out _ (H.out.below BB.out.below)).mono ?_)
     rintro e w2 ⟨rfl, hb2⟩
     have BB := Lib.hid (BB.out.go hb2)
     have HR := Lib.hid BB.out.now.1
     clear hb2
     go_wp2_with (refine ld_arr rfl (.tmp 2) rfl w.heap.size rfl HR.out ?_)
     go_at_call 95
     (refine (RK.out _ (H.out.below BB.out.below)).mono ?_)
     rintro e w2 ⟨rfl, hb2⟩
     have HE := Lib.hid (WB.out _ _ (BB.out.go hb2).below HEE.out)
     clear hb2
     go_wp2_with fail
     go_ret
     exact HE.out
end Go.Proofs.YtnpoakaffafdiaaGreatDoor
