/-
  Texts of this seat, laid together.
-/
import Derived.Lib.AppendZeros
import Derived.Laws.AppendOwnNone
import Derived.Shelf.Abstract
import Derived.Laws.EntriesVeiled
import Derived.Deep.AppendLies
import Derived.Test.YtdlccnmhcggjiaaGreatDoorQ1
import Derived.Test.YtdlccnmhcggjiaaGreatDoorQ2
import Derived.Test.YtdlccnmhcggjiaaGreatDoorQ3
import Derived.Test.YtdlccnmhcggjiaaGreatDoorQ4
import Derived.Test.YtdlccnmhcggjiaaGreatDoorQ5
import Derived.Test.YtdlccnmhcggjiaaGreatDoorQ6
set_option maxHeartbeats 12800000
set_option maxRecDepth 100000
set_option linter.unusedSimpArgs false
set_option linter.unusedVariables false
namespace Go.Proofs.YtdlccnmhcggjiaaGreatDoor
open Go.RowKit
def Arr (w : World) (cs : Array Value) (S : Nat -> Int) (r : Nat) (ch : Bool) (L : Nat) (g : Nat -> Int) (fP : Nat -> Int) (fQ : Nat -> Nat) : Prop := (ch = true -> ChrArr w cs S r L g) /\ (ch = false -> NumArr w cs S r L fP fQ)
theorem Arr.below {w w' : World} {cs : Array Value} {S : Nat -> Int} {r : Nat} {ch : Bool} {L : Nat} {g fP : Nat -> Int} {fQ : Nat -> Nat} (h : Arr w cs S r ch L g fP fQ) (hb : Below w.heap.size w w') : Arr w' cs S r ch L g fP fQ := ⟨fun e => (h.1 e).below hb, fun e => (h.2 e).below hb⟩
theorem Bag.arr {w0 w : World} {B : World -> Prop} {cs : Array Value} {S : Nat -> Int} {r : Nat} {ch : Bool} {L : Nat} {g fP : Nat -> Int} {fQ : Nat -> Nat} (h : Bag w0 B w) (q : Arr w cs S r ch L g fP fQ) : Bag w0 (fun y => Arr y cs S r ch L g fP fQ /\ B y) w := h.add (fun _ _ hb q => Arr.below q hb) q
theorem Arr.form {w : World} {cs : Array Value} {S : Nat -> Int} {r : Nat} {ch : Bool} {L : Nat} {g fP : Nat -> Int} {fQ : Nat -> Nat} (h : Arr w cs S r ch L g fP fQ) :
    ∃ na nn nc ta tn tc, cs = arrC ch ((r : Int) - 1) (dm S r) na nn nc ta tn tc /\ (if ch then tn else nn) = L /\ (if ch then nn else tn) = 0 := by
 cases ch with
 | true => obtain ⟨ta, tc, e, _⟩ := h.1 rfl; exact ⟨none, 0, 0, ta, L, tc, e, rfl, rfl⟩
 | false => obtain ⟨na, nc, e, _⟩ := h.2 rfl; exact ⟨na, L, nc, none, 0, 0, e, rfl, rfl⟩
theorem rank8_any (cs : Array Value) (S : Nat -> Int) (r : Nat) (ch : Bool) (L : Nat) (g fP : Nat -> Int) (fQ : Nat -> Nat) (w : World) (h : Arr w cs S r ch L g fP fQ) (hr : r <= 1000) :
    Calls Tryz.prog 34 #[.agg cs] w fun e w' => e = .returned (.int .i64 r) /\ Below w.heap.size w w' := by
 obtain ⟨na, nn, nc, ta, tn, tc, rfl, _⟩ := h.form
 exact rank_any ch (dm S r) r na nn nc ta tn tc w hr
theorem shape8_any (cs : Array Value) (S : Nat -> Int) (r : Nat) (ch : Bool) (L : Nat) (g fP : Nat -> Int) (fQ : Nat -> Nat) (w : World) (h : Arr w cs S r ch L g fP fQ) (hr : r <= 8) :
    Calls Tryz.prog 46 #[.agg cs] w fun e w' => ∃ a c, e = .returned (.slice a r c) /\ KRow w' .i64 a r c S /\ Below w.heap.size w w' := by
 obtain ⟨na, nn, nc, ta, tn, tc, rfl, _⟩ := h.form
 exact shape_any ch S r na nn nc ta tn tc w hr
theorem len8_any (cs : Array Value) (S : Nat -> Int) (r : Nat) (ch : Bool) (L : Nat) (g fP : Nat -> Int) (fQ : Nat -> Nat) (w : World) (h : Arr w cs S r ch L g fP fQ) :
    Calls Tryz.prog 26 #[.agg cs] w fun e w' => e = .returned (.int .i64 L) /\ Below w.heap.size w w' := by
 obtain ⟨na, nn, nc, ta, tn, tc, rfl, e, _⟩ := h.form
 have := len_any ch ((r : Int) - 1) (dm S r) na nn nc ta tn tc w
 have e2 : (if ch = true then (tn : Int) else (nn : Int)) = (L : Int) := by rw [← e]; split <;> rfl
 rw [e2] at this
 exact this
def whC (ch : Bool) (L : Nat) (fP : Nat -> Int) (fQ : Nat -> Nat) : Bool := if ch then decide (L = 0) else whB fP fQ L
theorem whole8_any (cs : Array Value) (S : Nat -> Int) (r : Nat) (ch : Bool) (L : Nat) (g fP : Nat -> Int) (fQ : Nat -> Nat) (w : World) (h : Arr w cs S r ch L g fP fQ) (hQ : ch = false -> ∀ j, j < L -> 0 < fQ j) (hL : L <= 1000000) :
    Calls Tryz.prog 32 #[.agg cs] w fun e w' => WhTold (whC ch L fP fQ) L fP w w' e := by
 cases ch with
 | true =>
  refine (wholeC_any cs S r L g w (h.1 rfl) hL).mono ?_
  rintro e w' ⟨a, m, c, he, h2, hb⟩
  refine ⟨a, m, c, he, ?_, hb⟩
  show if decide (L = 0) = true then _ else _
  by_cases h0 : L = 0
  · subst h0
    rw [decide_eq_true rfl, if_pos rfl] at h2 ⊢
    exact ⟨h2.1, h2.2.1, h2.2.2.1, .inl rfl⟩
  · rw [decide_eq_false h0, if_neg (by decide)] at h2 ⊢
    exact h2
 | false => exact whole6_any cs S r L fP fQ w (h.2 rfl) (hQ rfl) hL
def ArrTold (b : Bool) (S : Nat -> Int) (r : Nat) (ch : Bool) (L : Nat) (g fP : Nat -> Int) (fQ : Nat -> Nat) (w w' : World) (e : Ending) : Prop :=
 ∃ cs, e = .returned (.tuple #[.agg cs, .bool b]) /\ (if b then Arr w' cs S r ch L g fP fQ else cs = zerC) /\ Below w.heap.size w w'
theorem pick8_any (cs : Array Value) (S : Nat -> Int) (r : Nat) (ch : Bool) (L : Nat) (g fP : Nat -> Int) (fQ : Nat -> Nat) (sa : Option Addr) (sr sc : Nat) (T : Nat -> Int) (ta : Option Addr) (tn tc : Nat) (G : Nat -> Int) (w : World) (h : Arr w cs S r ch L g fP fQ)
    (hs : KRow w .i64 sa sr sc T) (hS : In64 T sr) (ht : KRow w .i64 ta tn tc G) (hg : In64 G tn) (hn : tn <= 1000000) :
    Calls Tryz.prog 53 #[.agg cs, .slice sa sr sc, .slice ta tn tc] w fun e w' => ArrTold (shB T sr && decide (itm T sr = tn)) T sr ch tn (fun j => elC L g 32 (G j)) (fun j => elP L fP (G j)) (fun j => elQ L fQ (G j)) w w' e := by
 cases ch with
 | true =>
  refine (pickC_any cs S r L g sa sr sc T ta tn tc G w (h.1 rfl) hs hS ht hg hn).mono ?_
  rintro e w' ⟨cs', he, h2, hb⟩
  refine ⟨cs', he, ?_, hb⟩
  split
  · rename_i q; rw [if_pos q] at h2; exact ⟨fun _ => h2, fun e => (by cases e)⟩
  · rename_i q; rw [if_neg q] at h2; exact h2
 | false =>
  refine (pickN_any cs S r L fP fQ sa sr sc T ta tn tc G w (h.2 rfl) hs hS ht hg hn).mono ?_
  rintro e w' ⟨cs', he, h2, hb⟩
  refine ⟨cs', he, ?_, hb⟩
  split
  · rename_i q; rw [if_pos q] at h2; exact ⟨fun e => (by cases e), fun _ => h2⟩
  · rename_i q; rw [if_neg q] at h2; exact h2
theorem ints8_any (sa : Option Addr) (sn sc : Nat) (f : Nat -> Int) (w : World) (hs : KRow w .i64 sa sn sc f) (hg : In64 f sn) (hn : sn <= 4096) :
    Calls Tryz.prog 30 #[.slice sa sn sc] w fun e w' => ∃ cs', e = .returned (.agg cs') /\ (∀ g, Arr w' cs' (fun _ => (sn : Int)) 1 false sn g f (fun _ => 1)) /\ Below w.heap.size w w' := by
 refine (ints_any sa sn sc f w hs hg hn).mono ?_
 rintro e w' ⟨cs', he, h2, hb⟩
 exact ⟨cs', he, fun g => ⟨fun e => (by cases e), fun _ => h2⟩, hb⟩
theorem int8_any (X : Int) (w : World) (h : -9223372036854775808 <= X /\ X <= 9223372036854775807) :
    Calls Tryz.prog 31 #[.int .i64 X] w fun e w' => ∃ cs', e = .returned (.agg cs') /\ (∀ g, Arr w' cs' (fun _ => 0) 0 false 1 g (fun _ => X) (fun _ => 1)) /\ Below w.heap.size w w' := by
 refine (arrInt_any X w h).mono ?_
 rintro e w' ⟨cs', he, h2, hb⟩
 exact ⟨cs', he, fun g => ⟨fun e => (by cases e), fun _ => h2⟩, hb⟩
def tnO (ch : Bool) (L : Nat) : Nat := if ch then L else 0
def nnO (ch : Bool) (L : Nat) : Nat := if ch then 0 else L
def Pln (w : World) (cs : Array Value) (S : Nat -> Int) (r : Nat) (ch : Bool) (L : Nat) (g : Nat -> Int) (fB : Nat -> Bool) (fS fT : Nat -> ByteArray) : Prop := PlnAt w cs S r ch g (tnO ch L) fB fS fT (nnO ch L)
theorem Pln.below {w w' : World} {cs : Array Value} {S : Nat -> Int} {r : Nat} {ch : Bool} {L : Nat} {g : Nat -> Int} {fB : Nat -> Bool} {fS fT : Nat -> ByteArray} (h : Pln w cs S r ch L g fB fS fT) (hb : Below w.heap.size w w') : Pln w' cs S r ch L g fB fS fT := PlnAt.below h hb
theorem QRow.zero {w : World} {sa : Option Addr} {c : Nat} {fB : Nat -> Bool} {fS fT : Nat -> ByteArray} (h : QRow w sa 0 c fB fS fT) (fB' : Nat -> Bool) (fS' fT' : Nat -> ByteArray) : QRow w sa 0 c fB' fS' fT' := ⟨h.1, h.2.1, .inl rfl⟩
theorem KRow.zero {w : World} {ki : IntKind} {sa : Option Addr} {c : Nat} {f : Nat -> Int} (h : KRow w ki sa 0 c f) (f' : Nat -> Int) : KRow w ki sa 0 c f' := ⟨h.1, h.2.1, .inl rfl⟩
theorem QRow.congr {w : World} {sa : Option Addr} {n c : Nat} {fB fB' : Nat -> Bool} {fS fT fS' fT' : Nat -> ByteArray} (h : QRow w sa n c fB fS fT) (e : ∀ j, j < n -> fB j = fB' j /\ fS j = fS' j /\ fT j = fT' j) : QRow w sa n c fB' fS' fT' := by
 refine ⟨h.1, h.2.1, h.2.2.imp id fun ⟨b, off, h1, h2, h3⟩ => ⟨b, off, h1, h2, fun j hj => ?_⟩⟩
 obtain ⟨e1, e2, e3⟩ := e j hj
 rw [← e1, ← e2, ← e3]
 exact h3 j hj
def Small (ch : Bool) (L : Nat) (fP : Nat -> Int) (fQ : Nat -> Nat) : Prop := ch = false -> CmpOk 7 fP fQ L
theorem plain8_any (cs : Array Value) (S : Nat -> Int) (r : Nat) (ch : Bool) (L : Nat) (g fP : Nat -> Int) (fQ : Nat -> Nat) (w : World) (hr : r <= 8) (h : Arr w cs S r ch L g fP fQ) (hn : L <= 1000000) (hs : Small ch L fP fQ) :
    Calls Tryz.prog 45 #[.agg cs] w fun e w' => ∃ cs', e = .returned (.agg cs') /\ Pln w' cs' S r ch L g (fun j => rB (fP j)) (fun j => rS (fP j)) (fun j => str (dec (fQ j))) /\ Below w.heap.size w w' := by
 cases ch with
 | true =>
  refine (plainC_any cs S r L g w hr (h.1 rfl) hn).mono ?_
  rintro e w' ⟨cs', he, ⟨sa, sc, ta, tc, na, nc, e1, k1, k2, k3⟩, hb⟩
  exact ⟨cs', he, ⟨sa, sc, ta, tc, na, nc, e1, k1, k2, k3.zero _ _ _⟩, hb⟩
 | false =>
  have hc := hs rfl
  refine (plainN_any cs S r L fP fQ w hr (h.2 rfl) hn (fun j hj => (hc j hj).1) 7 (by omega) (fun j hj => (hc j hj).2.1) (fun j hj => (hc j hj).2.2)).mono ?_
  rintro e w' ⟨cs', he, ⟨sa, sc, ta, tc, na, nc, e1, k1, k2, k3⟩, hb⟩
  exact ⟨cs', he, ⟨sa, sc, ta, tc, na, nc, e1, k1, k2.zero _, k3⟩, hb⟩
theorem rpick8_any (cs : Array Value) (S : Nat -> Int) (r : Nat) (ch : Bool) (L : Nat) (g : Nat -> Int) (fB : Nat -> Bool) (fS fT : Nat -> ByteArray) (s1 : Option Addr) (r' c1 : Nat) (T : Nat -> Int) (t1 : Option Addr) (m d1 : Nat) (G : Nat -> Int) (w : World) (h : Pln w cs S r ch L g fB fS fT) (hs : KRow w .i64 s1 r' c1 T) (ht : KRow w .i64 t1 m d1 G) (hm : m <= 1000000) (hL : L <= 1000000) :
    Calls Tryz.prog 55 #[.agg cs, .slice s1 r' c1, .slice t1 m d1] w fun e w' => ∃ cs', e = .returned (.agg cs') /\ Pln w' cs' T r' ch m (fun j => elC L g 32 (G j)) (fun j => elB L fB (G j)) (fun j => elS L fS (rS 0) (G j)) (fun j => elS L fT (str (dec 1)) (G j)) /\ Below w.heap.size w w' := by
 cases ch with
 | true =>
  refine (r6PickC_any cs S r g L fB fS fT s1 r' c1 T t1 m d1 G w h hs ht hm hL).mono ?_
  intro e w' hq
  exact hq _ _ _
 | false =>
  refine (r6PickN_any cs S r g L fB fS fT s1 r' c1 T t1 m d1 G w h hs ht hm hL).mono ?_
  intro e w' hq
  exact hq _
theorem plB_of2 {ch : Bool} {r : Nat} {S S' : Nat -> Int} {tn : Nat} {g g' : Nat -> Int} {nn : Nat} {fB gB : Nat -> Bool} {fS fT gS gT : Nat -> ByteArray} (h1 : ∀ j, j < r -> S j = S' j) (h3 : ∀ j, j < tn -> g j = g' j) (h2 : ∀ j, j < nn -> fB j = gB j /\ fS j = gS j /\ fT j = gT j) : plB ch ch r r S S' tn tn g g' nn nn fB fS fT gB gS gT = true := by
 unfold plB
 rw [sameB_iff.2 h1, sameB_iff.2 h3, nsB_iff.2 h2, decide_eq_true rfl, decide_eq_true rfl, decide_eq_true rfl, decide_eq_true rfl]
 rfl
def shf (f : Nat -> Int) (p : Nat) : Nat -> Int := fun j => f (p + j)
theorem rm_pos (f : Nat -> Int) : ∀ k, 1 <= rm f k
 | 0 => by show (1 : Int) <= 1; omega
 | k + 1 => by
  have h := rm_pos f k
  have e : 1 * 1 <= rm f k * max (f k) 1 := Int.mul_le_mul h (by omega) (by omega) (by omega)
  show 1 <= rm f k * max (f k) 1
  omega
theorem rm_add (f : Nat -> Int) (p : Nat) : ∀ k, rm f (p + k) = rm f p * rm (shf f p) k
 | 0 => by show rm f p = rm f p * 1; omega
 | k + 1 => by
  show rm f (p + k) * max (f (p + k)) 1 = rm f p * (rm (shf f p) k * max (f (p + k)) 1)
  rw [rm_add f p k, Int.mul_assoc]
theorem itm_add (f : Nat -> Int) (p : Nat) : ∀ k, itm f (p + k) = itm f p * itm (shf f p) k
 | 0 => by show itm f p = itm f p * 1; omega
 | k + 1 => by
  show itm f (p + k) * f (p + k) = itm f p * (itm (shf f p) k * f (p + k))
  rw [itm_add f p k, Int.mul_assoc]
theorem ax_nn {f : Nat -> Int} {n j : Nat} (h : axB f n = true) (hj : j < n) : 0 <= f j := by
 have h1 := ax_le (show j + 1 <= n by omega) h
 unfold axB at h1
 rw [Bool.and_eq_true, Bool.and_eq_true, decide_eq_true_eq] at h1
 exact h1.2.1
theorem ax_shf {f : Nat -> Int} {n : Nat} (p : Nat) (h : axB f n = true) : ∀ k, p + k <= n -> axB (shf f p) k = true
 | 0, _ => rfl
 | k + 1, hk => by
  have h1 := ax_shf p h k (by omega)
  have h2 := ax_bd (ax_le hk h)
  have h3 := rm_pos f p
  have h4 := rm_pos (shf f p) (k + 1)
  have h0 := ax_nn h (show p + k < n by omega)
  rw [rm_add f p (k + 1)] at h2
  have h5 : 1 * rm (shf f p) (k + 1) <= rm f p * rm (shf f p) (k + 1) := Int.mul_le_mul h3 (Int.le_refl _) (by omega) (by omega)
  unfold axB
  rw [h1, decide_eq_true (show 0 <= shf f p k from h0), decide_eq_true (show rm (shf f p) (k + 1) <= 4096 by omega)]
  rfl
theorem sh_ax {f : Nat -> Int} {n : Nat} (h : shB f n = true) : n <= 8 /\ axB f n = true := by
 unfold shB at h
 rw [Bool.and_eq_true, decide_eq_true_eq] at h
 exact h
theorem KRow.take {w : World} {ki : IntKind} {a : Option Addr} {n c : Nat} {f : Nat -> Int} (h : KRow w ki a n c f) {k : Nat} (hk : k <= n) : KRow w ki a k c f := by
 obtain ⟨h1, h2, h3⟩ := h
 refine ⟨by omega, h2, ?_⟩
 rcases h3 with h3 | ⟨b, off, e, hb, hc⟩
 · exact .inl (by omega)
 · exact .inr ⟨b, off, e, hb, fun j hj => hc j (by omega)⟩
theorem KRow.from {w : World} {ki : IntKind} {b off : Nat} {n c : Nat} {f : Nat -> Int} (h : KRow w ki (some ⟨b, off, none⟩) n c f) {p : Nat} (hp : p <= n) : KRow w ki (some ⟨b, off + p, none⟩) (n - p) (c - p) (shf f p) := by
 obtain ⟨h1, h2, h3⟩ := h
 refine ⟨by omega, by omega, ?_⟩
 rcases h3 with h3 | ⟨b', off', e, hb, hc⟩
 · exact .inl (by omega)
 · cases e
   exact .inr ⟨b, off + p, rfl, hb, fun j hj => by rw [Nat.add_assoc]; exact hc (p + j) (by omega)⟩
theorem has_any (a : Option Addr) (n c : Nat) (i : Int) (w : World) :
    Calls Tryz.prog 120 #[.slice a n c, .int .i64 i] w fun e w' => e = .returned (.bool (decide (0 <= i) && decide (i < n))) /\ w = w' := by
 by_cases h0 : 0 <= i
 · rw [decide_eq_true h0, Bool.true_and]
   go_enter Tryz.func120, Tryz.ntmps120
   go_wp2
   go_ret
   exact ⟨rfl, rfl⟩
 · rw [decide_eq_false h0, Bool.false_and]
   go_enter Tryz.func120, Tryz.ntmps120
   go_wp2
   go_ret
   exact ⟨rfl, rfl⟩
theorem product_any (a : Option Addr) (n c : Nat) (f : Nat -> Int) (w : World) (h : KRow w .i64 a n c f) (hx : axB f n = true) :
    Calls Tryz.prog 123 #[.slice a n c] w fun e w' => e = .returned (.int .i64 (itm f n)) /\ w = w' := by
 have hl := h.len
 have H := Lib.hid h
 have HX := Lib.hid hx
 clear h hx
 go_enter Tryz.func123, Tryz.ntmps123
 go_wp2
 go_loop [3, 8] (fun t i => ∃ k : Nat, k <= n /\ i = .int .i64 k /\ t = .int .i64 (itm f k)) (fun _ i => n - (intOf i).toNat)
 case atStart => exact ⟨0, by omega, rfl, rfl⟩
 case round =>
  obtain ⟨k, hk, rfl, rfl⟩ := hrel
  by_cases hlt : k < n
  · obtain ⟨b, off, rfl, hb, hc⟩ := H.out.get hlt
    obtain ⟨_, _, t1, t2⟩ := ax_bd (ax_le (show k + 1 <= n by omega) HX.out)
    obtain ⟨_, r2, _, _⟩ := ax_bd (ax_le (show k + 1 <= n by omega) HX.out)
    have e2 : itm f (k + 1) = itm f k * f k := rfl
    rw [e2] at t1 t2
    have E2 := Lib.hid e2
    have w2 := IntWalk.i64_in (itm f k * f k) (by omega)
    clear e2 t1 t2 r2
    generalize f k = x at *
    generalize itm f k = t at *
    go_wp2
    go_round
    case rel => exact ⟨k + 1, by omega, by go_num, vint E2.out.symm⟩
    case measure => simp [intOf]; omega
  · obtain rfl : k = n := by omega
    go_wp2
    go_ret
    exact ⟨rfl, rfl⟩
def plc (f g : Nat -> Int) : Nat -> Int
 | 0 => 0
 | k + 1 => plc f g k * f k + g k
def inB (f g : Nat -> Int) : Nat -> Bool
 | 0 => true
 | k + 1 => inB f g k && (decide (0 <= g k) && decide (g k < f k))
theorem inB_le {f g : Nat -> Int} : ∀ {k m : Nat}, k <= m -> inB f g m = true -> inB f g k = true := by
 intro k m
 induction m with
 | zero => intro h h2; obtain rfl : k = 0 := by omega
           exact h2
 | succ m ih =>
  intro h h2
  rcases Nat.lt_or_ge k (m + 1) with h3 | h3
  · refine ih (by omega) ?_
    unfold inB at h2
    rw [Bool.and_eq_true] at h2
    exact h2.1
  · obtain rfl : k = m + 1 := by omega
    exact h2
theorem inB_at {f g : Nat -> Int} {n j : Nat} (h : inB f g n = true) (hj : j < n) : 0 <= g j /\ g j < f j := by
 have h1 := inB_le (show j + 1 <= n by omega) h
 unfold inB at h1
 rw [Bool.and_eq_true, Bool.and_eq_true, decide_eq_true_eq, decide_eq_true_eq] at h1
 exact h1.2
theorem inB_no {f g : Nat -> Int} {n j : Nat} (hj : j < n) (h : ¬ (0 <= g j /\ g j < f j)) : inB f g n = false := by
 cases hx : inB f g n with
 | false => rfl
 | true => exact absurd (inB_at hx hj) h
theorem plc_bd {f g : Nat -> Int} : ∀ {k : Nat}, axB f k = true -> inB f g k = true -> 0 <= plc f g k /\ plc f g k < itm f k := by
 intro k
 induction k with
 | zero => intro _ _; exact ⟨Int.le_refl _, by show (0 : Int) < 1; omega⟩
 | succ k ih =>
  intro h1 h2
  have h3 := inB_at h2 (show k < k + 1 by omega)
  obtain ⟨i1, i2⟩ := ih (ax_le (by omega) h1) (inB_le (by omega) h2)
  have h4 : (plc f g k + 1) * f k <= itm f k * f k := Int.mul_le_mul_of_nonneg_right (by omega) (by omega)
  have h5 : 0 <= plc f g k * f k := Int.mul_nonneg i1 (by omega)
  rw [Int.add_mul, Int.one_mul] at h4
  show 0 <= plc f g k * f k + g k /\ plc f g k * f k + g k < itm f k * f k
  omega
def dgs (f : Nat -> Int) : Nat -> Int -> Nat -> Int
 | 0, _, _ => 0
 | k + 1, r, j => if j = k then r % f k else dgs f k (r / f k) j
theorem itm_pos {f : Nat -> Int} {n : Nat} (h : axB f n = true) {at' : Int} (h0 : 0 <= at') (h1 : at' < itm f n) : ∀ j, j < n -> 1 <= f j := by
 induction n generalizing at' with
 | zero => intro j hj; omega
 | succ n ih =>
  intro j hj
  have hn := ax_nn h (show n < n + 1 by omega)
  have hne : f n ≠ 0 := by
   intro e
   have : itm f (n + 1) = itm f n * f n := rfl
   rw [this, e, Int.mul_zero] at h1
   omega
  by_cases e : j = n
  · subst e; omega
  · have e1 : itm f (n + 1) = itm f n * f n := rfl
    have hb := (ax_bd (ax_le (Nat.le_succ n) h)).2.2.1
    have : 0 < itm f n := by
     rcases Int.lt_or_le 0 (itm f n) with h3 | h3
     · exact h3
     · have h4 : itm f n = 0 := by omega
       rw [e1, h4, Int.zero_mul] at h1
       omega
    exact ih (ax_le (Nat.le_succ n) h) (Int.le_refl 0) this j (by omega)
theorem quo_lt {f : Nat -> Int} {k : Nat} {r : Int} (h1 : 1 <= f k) (hr0 : 0 <= r) (hr : r < itm f (k + 1)) : 0 <= r / f k /\ r / f k < itm f k /\ 0 <= r % f k /\ r % f k < f k := by
 refine ⟨Int.ediv_nonneg hr0 (by omega), Int.ediv_lt_of_lt_mul (by omega) hr, Int.emod_nonneg _ (by omega), Int.emod_lt_of_pos _ (by omega)⟩
theorem dgs_in {f : Nat -> Int} : ∀ {n : Nat} {r : Int}, (∀ j, j < n -> 1 <= f j) -> 0 <= r -> r < itm f n -> inB f (dgs f n r) n = true /\ plc f (dgs f n r) n = r := by
 intro n
 induction n with
 | zero => intro r _ h0 h1; refine ⟨rfl, ?_⟩; have : itm f 0 = 1 := rfl; show 0 = r; omega
 | succ n ih =>
  intro r hp h0 h1
  obtain ⟨q1, q2, q3, q4⟩ := quo_lt (hp n (by omega)) h0 h1
  obtain ⟨i1, i2⟩ := ih (fun j hj => hp j (by omega)) q1 q2
  have hd : ∀ j, j < n -> dgs f (n + 1) r j = dgs f n (r / f n) j := fun j hj => by
   show (if j = n then _ else _) = _
   rw [if_neg (by omega)]
  have hn : dgs f (n + 1) r n = r % f n := by show (if n = n then _ else _) = _; rw [if_pos rfl]
  have hin : ∀ k, k <= n -> inB f (dgs f (n + 1) r) k = inB f (dgs f n (r / f n)) k := by
   intro k
   induction k with
   | zero => intro _; rfl
   | succ k ihk => intro hk; unfold inB; rw [ihk (by omega), hd k (by omega)]
  have hpl : ∀ k, k <= n -> plc f (dgs f (n + 1) r) k = plc f (dgs f n (r / f n)) k := by
   intro k
   induction k with
   | zero => intro _; rfl
   | succ k ihk => intro hk; unfold plc; rw [ihk (by omega), hd k (by omega)]
  constructor
  · unfold inB
    rw [hin n (Nat.le_refl _), i1, hn, decide_eq_true q3, decide_eq_true q4]
    rfl
  · unfold plc
    rw [hpl n (Nat.le_refl _), i2, hn, Int.mul_comm]
    exact Int.mul_ediv_add_emod _ _
def IBox (w : World) (g n : Nat) (h : Nat -> Int) : Prop := g < w.heap.size /\ Free w g /\ ∀ j, j < n -> w.cell? ⟨g, j, none⟩ = some (.int .i64 (h j))
theorem IBox.set {w : World} {g n k : Nat} {h : Nat -> Int} (q : IBox w g n h) (hk : k < n) (x : Int) : IBox (w.setCell ⟨g, k, none⟩ (.int .i64 x)) g n (fun j => if j = k then x else h j) := by
 refine ⟨by simpa using q.1, q.2.1.set _ _, fun j hj => ?_⟩
 by_cases e : j = k
 · subst e
   show _ = some (Value.int .i64 (if j = j then x else h j))
   rw [if_pos rfl]
   exact World.cell?_setCell_same _ _ _ (q.2.2 j hj)
 · show _ = some (Value.int .i64 (if j = k then x else h j))
   rw [if_neg e, World.cell?_setCell_other _ _ _ _ (fun h => by injection h with _ h; omega)]
   exact q.2.2 j hj
theorem IBox.congr {w : World} {g n : Nat} {h h' : Nat -> Int} (q : IBox w g n h) (e : ∀ j, j < n -> h j = h' j) : IBox w g n h' := ⟨q.1, q.2.1, fun j hj => by rw [q.2.2 j hj, e j hj]⟩
theorem IBox.made (w : World) (n : Nat) (t : TypeId) {mc : Array Value} (hmc : mc = madeCells (Value.cells (.int .i64 0)) n) : IBox (w.alloc (.cells mc t)) w.heap.size n (fun _ => 0) := by
 subst hmc
 have hR := Row.new w t (madeCells (Value.cells (.int .i64 0)) n)
 refine ⟨hR.lt, fun o => hR.free o, fun j hj => ?_⟩
 rw [hR.cell]
 unfold madeCells
 rw [Array.getElem?_map, Array.getElem?_range, if_pos (by omega), Option.map_some]
 simp [Value.cells, Nat.mod_one]
theorem growI_any (n : Nat) (w : World) (hn : n <= 1000000) :
    Calls Tryz.prog 144 #[.slice none 0 0, .int .i64 n] w fun e w' => ∃ v, e = .returned v /\ w'.ownsRow w.heap.size 3 1 v 0 [] /\ Below w.heap.size w w' := by
 obtain ⟨i0, hi, hz0, hz1, hz2⟩ := info_parts infoI
 have d0 : ¬ ((n : Int) < 0) := by omega
 have hw0 := IntWalk.i64_in (n : Int) (by omega)
 by_cases h0 : n = 0
 · subst h0
   go_enter Tryz.func144, Tryz.ntmps144
   go_wp2
   go_ret
   exact ⟨_, rfl, World.ownsRow_nil _ _ _ _, Below.refl _ _⟩
 · have d1 : (0 : Int) < n := by omega
   have hr := fun ty => Lib.run_append_nil_zeros (P := Tryz.prog) w 22 3 ty 3 i0 _ .i64 .i64 Tryz.underlying22 Tryz.underlying3 hi hz0 n (by omega) (by rw [hz1]; omega) (by omega) (by rw [hz2]; omega)
   have hge := grownCap_ge w n 0 3
   have hcm := grownCap_le_maxLen w n 0 3 (by unfold maxLen; omega)
   have HE : Hid (∀ z, z = n -> (w.drew.alloc (.cells (Builtin.zeroCells (Value.cells (.int .i64 0)) n ++ Builtin.zeroCells (Value.cells (.int .i64 0)) (grownCap w n 0 3 - n)) 3)).ownsRow w.heap.size 3 1 (.slice (some ⟨w.heap.size, 0, none⟩) 0 (grownCap w n 0 3)) 0 []) :=
    Lib.hid (fun _ _ => ⟨by simp, .inr ⟨w.heap.size, _, _, rfl, Nat.le_refl _, heap_alloc_new w.drew _, Nat.zero_le _, hcm, by rw [Array.size_append, size_zeroCells, size_zeroCells]; simp [Value.cells]; omega, by simp⟩⟩)
   have HB : Hid (Below w.heap.size w (w.drew.alloc (.cells (Builtin.zeroCells (Value.cells (.int .i64 0)) n ++ Builtin.zeroCells (Value.cells (.int .i64 0)) (grownCap w n 0 3 - n)) 3))) := Lib.hid ((Below.refl _ _).drew.alloc (Nat.le_refl _) _)
   generalize grownCap w n 0 3 = cp at *
   generalize w.drew.alloc (.cells (Builtin.zeroCells (Value.cells (.int .i64 0)) n ++ Builtin.zeroCells (Value.cells (.int .i64 0)) (cp - n)) 3) = w9 at *
   have d2 : (0 : Int) <= cp := by omega
   clear hi hz0 hz1 hz2 hcm
   go_enter Tryz.func144, Tryz.ntmps144
   go_wp2_with (at_builtin; refine Lib.wpList_append_run _ rfl _ _ _ _ rfl _ _ rfl rfl _ _ (hr _) ?_)
   go_ret
   exact ⟨_, rfl, HE.out n rfl, HB.out⟩
def LRow (w : World) (a : Option Addr) (m c : Nat) (A : Nat -> Option Addr) (N C : Nat -> Nat) (F : Nat -> Nat -> Int) : Prop := m <= c /\ c <= maxLen /\ (m = 0 ∨ ∃ b off, a = some ⟨b, off, none⟩ /\ b < w.heap.size /\
 ∀ j, j < m -> w.cell? ⟨b, off + j, none⟩ = some (.slice (A j) (N j) (C j)) /\ KRow w .i64 (A j) (N j) (C j) (F j) /\ (A j = none -> C j = 0))
theorem LRow.below {w w' : World} {a : Option Addr} {m c : Nat} {A : Nat -> Option Addr} {N C : Nat -> Nat} {F : Nat -> Nat -> Int} (h : LRow w a m c A N C F) (hb : Below w.heap.size w w') : LRow w' a m c A N C F := by
 obtain ⟨h1, h2, h3⟩ := h
 refine ⟨h1, h2, h3.imp id ?_⟩
 rintro ⟨b, off, rfl, hl, hc⟩
 exact ⟨b, off, rfl, Nat.lt_of_lt_of_le hl hb.size, fun j hj => ⟨(hb.cell (p := ⟨b, off + j, none⟩) hl).trans (hc j hj).1, (hc j hj).2.1.below hb, (hc j hj).2.2⟩⟩
theorem LRow.get {w : World} {a : Option Addr} {m c : Nat} {A : Nat -> Option Addr} {N C : Nat -> Nat} {F : Nat -> Nat -> Int} (h : LRow w a m c A N C F) {j : Nat} (hj : j < m) :
    ∃ b off, a = some ⟨b, off, none⟩ /\ b < w.heap.size /\ w.cell? ⟨b, off + j, none⟩ = some (.slice (A j) (N j) (C j)) /\ KRow w .i64 (A j) (N j) (C j) (F j) /\ (A j = none -> C j = 0) := by
 rcases h.2.2 with h | ⟨b, off, rfl, hl, hc⟩
 · omega
 · exact ⟨b, off, rfl, hl, hc j hj⟩
def app (f : Nat -> Int) (n : Nat) (g : Nat -> Int) : Nat -> Int := fun j => if j < n then f j else g (j - n)
theorem kcs_congr {ki : IntKind} {f g : Nat -> Int} : ∀ {n : Nat}, (∀ j, j < n -> f j = g j) -> kcs ki f n = kcs ki g n
 | 0, _ => rfl
 | n + 1, h => by unfold kcs; rw [kcs_congr (fun j hj => h j (by omega)), h n (by omega)]
theorem kcs_app (ki : IntKind) (f : Nat -> Int) (n : Nat) (g : Nat -> Int) : ∀ m, kcs ki (app f n g) (n + m) = kcs ki f n ++ kcs ki g m
 | 0 => by
  rw [Nat.add_zero, show kcs ki g 0 = [] from rfl, List.append_nil]
  exact kcs_congr fun j hj => by unfold app; rw [if_pos hj]
 | m + 1 => by
  show kcs ki (app f n g) (n + m) ++ [.int ki (app f n g (n + m))] = kcs ki f n ++ (kcs ki g m ++ [.int ki (g m)])
  rw [kcs_app ki f n g m, show app f n g (n + m) = g m by unfold app; rw [if_neg (by omega), Nat.add_sub_cancel_left], List.append_assoc]
def tot (N : Nat -> Nat) : Nat -> Nat
 | 0 => 0
 | k + 1 => tot N k + N k
theorem tot_le (N : Nat -> Nat) : ∀ {k m : Nat}, k <= m -> tot N k <= tot N m := by
 intro k m
 induction m with
 | zero => intro h; obtain rfl : k = 0 := by omega
           exact Nat.le_refl _
 | succ m ih =>
  intro h
  rcases Nat.lt_or_ge k (m + 1) with h3 | h3
  · have := ih (by omega)
    show tot N k <= tot N m + N m
    omega
  · obtain rfl : k = m + 1 := by omega
    exact Nat.le_refl _
def cat (N : Nat -> Nat) (F : Nat -> Nat -> Int) : Nat -> Nat -> Int
 | 0 => fun _ => 0
 | k + 1 => app (cat N F k) (tot N k) (F k)
theorem kcs_one (ki : IntKind) (f : Nat -> Int) (n : Nat) : ∀ u ∈ kcs ki f n, u.oneCell' = true := by
 induction n with
 | zero => intro u hu; cases hu
 | succ n ih =>
  intro u hu
  unfold kcs at hu
  rcases List.mem_append.1 hu with h | h
  · exact ih u h
  · simp at h; subst h; rfl
theorem krow_news {w : World} {ki : IntKind} {b off n c : Nat} {f : Nat -> Int} (h : KRow w ki (some ⟨b, off, none⟩) n c f) : ∀ j u, (kcs ki f n)[j]? = some u -> w.cell? ((⟨b, off, none⟩ : Addr).add j) = some u := fun j u hu => by
 have hj : j < n := by
  have := (List.getElem?_eq_some_iff.1 hu).1
  rwa [kcs_length] at this
 rw [kcs_get ki f n j hj] at hu
 obtain rfl := Option.some.inj hu
 obtain ⟨b', off', e, _, hc⟩ := h.get hj
 cases e
 rw [show (⟨b, off, none⟩ : Addr).add j = ⟨b, off + j, none⟩ by simp [Addr.add]]
 exact hc
theorem run_append_krow {w : World} (ty : TypeId) (base : Nat) (v : Value) (n : Nat) (xs : List Value) (hown : w.ownsRow base 3 1 v n xs) (a : Option Addr) (m c : Nat) (f : Nat -> Int) (h : KRow w .i64 a m c f) (hn : a = none -> c = 0) (h1 : n + m <= 1000000) (hbase : base <= w.heap.size) :
    ∃ v' w', (Builtin.append_ #[22, 22] ty #[v, .slice a m c]).run Tryz.prog w = .ok v' w' /\ w'.ownsRow base 3 1 v' (n + m) (xs ++ kcs .i64 f m) /\ w.grownBy w' v.ownBlock := by
 obtain ⟨i0, hi, hz0, hz1, hz2⟩ := info_parts infoI
 cases a with
 | none =>
  have hc := hn rfl
  subst hc
  have hm : m = 0 := by have := h.1; omega
  subst hm
  refine ⟨v, w, run_append_owned_none w base _ ty _ i0 1 Tryz.underlying22 hi v n xs hown, ?_, ⟨rfl, rfl, rfl, Nat.le_refl _, fun _ _ _ => rfl⟩⟩
  rw [show kcs .i64 f 0 = [] from rfl, List.append_nil]
  exact hown
 | some ad =>
  obtain ⟨b9, off9, sp⟩ := ad
  have hnews : ∀ i u, (kcs .i64 f m)[i]? = some u -> w.cell? ((⟨b9, off9, sp⟩ : Addr).add i) = some u := by
   rcases h.2.2 with h0 | ⟨_, _, e, _⟩
   · rw [h0]; intro i u hu; simp [kcs] at hu
   · cases e; exact krow_news h
  obtain ⟨v', w', e1, e2, e3, _⟩ := run_append_own (P := Tryz.prog) w base 22 ty 3 i0 _ 1 8 Tryz.underlying22 hi hz0 hz1 hz2 rfl (by omega) v n xs hown ⟨b9, off9, sp⟩ m c (kcs .i64 f m) (by rw [kcs_length, Nat.mul_one]) hnews (kcs_one .i64 f m) (by unfold maxLen; omega) (by omega) hbase
  exact ⟨v', w', e1, e2, e3⟩
theorem concat_any (a : Option Addr) (m c : Nat) (A : Nat -> Option Addr) (N C : Nat -> Nat) (F : Nat -> Nat -> Int) (w : World) (h : LRow w a m c A N C F) (hm : m <= 1000) (ht : tot N m <= 1000000) :
    Calls Tryz.prog 121 #[.slice a m c] w fun e w' => ∃ a' c', e = .returned (.slice a' (tot N m) c') /\ KRow w' .i64 a' (tot N m) c' (cat N F m) /\ NewAt w w' a' (tot N m) c' /\ Below w.heap.size w w' := by
 obtain ⟨i0, hi, hz0, hz1, hz2⟩ := info_parts infoI
 have H := Lib.hid h
 have HT : Hid (∀ k, k <= m -> tot N k <= 1000000) := Lib.hid (fun k hk => Nat.le_trans (tot_le N hk) ht)
 have GR := Lib.hid (fun wz => growI_any (tot N m) wz ht)
 have HZ := Lib.hid (show ∀ k, tot N (k + 1) = tot N k + N k from fun _ => rfl)
 have hl := h.1
 clear h ht
 go_enter Tryz.func121, Tryz.ntmps121
 go_wp2
 go_loop [3, 11] (fun t i => ∃ k : Nat, k <= m /\ i = .int .i64 k /\ t = .int .i64 (tot N k : Nat)) (fun _ i => m - (intOf i).toNat)
 case atStart => exact ⟨0, by omega, rfl, rfl⟩
 case round =>
  obtain ⟨k, hk, rfl, rfl⟩ := hrel
  by_cases hlt : k < m
  · obtain ⟨b, off, rfl, hb, hc, _, _⟩ := H.out.get hlt
    have h1 := HT.out (k + 1) (by omega)
    rw [HZ.out k] at h1
    have E := Lib.hid (show ((tot N k : Nat) : Int) + (N k : Nat) = ((tot N (k + 1) : Nat) : Int) by rw [HZ.out k]; omega)
    have w2 := IntWalk.i64_in (((tot N k : Nat) : Int) + (N k : Nat)) (by omega)
    have d0 : ¬ (((tot N k : Nat) : Int) + (N k : Nat) < 0) := by omega
    clear h1
    generalize ((tot N k : Nat) : Int) = t at *
    generalize A k = ak at *
    generalize N k = nk at *
    generalize C k = ck at *
    go_wp2
    go_round
    case rel => exact ⟨k + 1, by omega, by go_num, vint E.out⟩
    case measure => simp [intOf]; omega
  · obtain rfl : k = m := by omega
    clear hlt
    generalize hX : tot N k = X at *
    go_wp2_with fail
    go_at_call 144
    (with_reducible refine (GR.out _).mono ?_)
    rintro e w2 ⟨v2, rfl, hown2, hb2⟩
    have HB2 := Lib.hid hb2
    have HO2 := Lib.hid hown2
    have H2 := Lib.hid (H.out.below hb2)
    clear hown2 hb2
    go_wp2_with fail
    go_loopw [6, 27] (fun v i wr => ∃ (j : Nat) (v6 : Value), j <= k /\ i = .int .i64 j /\ v6 = v /\ Hid (Below w.heap.size w wr /\ wr.ownsRow w.heap.size 3 1 v6 (tot N j) (kcs .i64 (cat N F j) (tot N j)))) (fun _ i _ => k - (intOf i).toNat)
    case atStart => exact ⟨0, _, by omega, rfl, rfl, HB2.out, HO2.out⟩
    case round =>
     obtain ⟨j, v6, hj, rfl, hv6, hrel⟩ := hrel
     subst hv6
     obtain ⟨hbl, hown⟩ := hrel.out
     have hwr := hbl.size
     by_cases hlt : j < k
     · obtain ⟨b, off, rfl, hb, hc, hkr, hnn⟩ := (H.out.below hbl).get hlt
       have HOWN := Lib.hid hown
       have HBL := Lib.hid hbl
       have h1 := HT.out (j + 1) (by omega)
       rw [HZ.out j] at h1
       have HE : Hid (∀ (v5 : Value) (w5 : World), w5.ownsRow w.heap.size 3 1 v5 (tot N j + N j) (kcs .i64 (cat N F j) (tot N j) ++ kcs .i64 (F j) (N j)) -> w5.ownsRow w.heap.size 3 1 v5 (tot N (j + 1)) (kcs .i64 (cat N F (j + 1)) (tot N (j + 1)))) := Lib.hid (fun v5 w5 h => by
        rw [HZ.out j]
        show w5.ownsRow _ _ _ _ _ (kcs .i64 (app (cat N F j) (tot N j) (F j)) (tot N j + N j))
        rw [kcs_app]
        exact h)
       clear hown hbl hrel
       cases hA : A j with
       | none =>
        have hC := hnn hA
        have hN : N j = 0 := by have := hkr.1; omega
        rw [hA, hC, hN] at hc
        rw [hN, show kcs .i64 (F j) 0 = [] from rfl, List.append_nil, Nat.add_zero] at HE
        have HN := Lib.hid (HE.out _ _ HOWN.out)
        clear hkr hnn HE h1
        go_wp2_with (at_builtin; refine wpList_append_own_none rfl _ _ 22 rfl w.heap.size 3 i0 1 Tryz.underlying22 hi _ _ _ rfl HOWN.out rfl ?_)
        go_roundw
        case rel => exact ⟨j + 1, _, by omega, by go_num, rfl, HBL.out, HN.out⟩
        case measure => simp [intOf]; omega
       | some ad =>
        obtain ⟨b9, off9, sp⟩ := ad
        rw [hA] at hc hkr
        have hsp : sp = none ∨ N j = 0 := by
         rcases hkr.2.2 with h | ⟨_, _, e, _⟩
         · exact .inr h
         · cases e; exact .inl rfl
        have HNEWS : Hid (∀ i u, (kcs .i64 (F j) (N j))[i]? = some u -> wr.cell? ((⟨b9, off9, sp⟩ : Addr).add i) = some u) := Lib.hid (by
         rcases hsp with rfl | h0
         · exact krow_news hkr
         · rw [h0]; intro i u hu; simp [kcs] at hu)
        have HL := Lib.hid (show (kcs .i64 (F j) (N j)).length = N j * 1 by rw [kcs_length, Nat.mul_one])
        have HONE := Lib.hid (kcs_one .i64 (F j) (N j))
        have HM := Lib.hid (show tot N j + N j <= maxLen by unfold maxLen; omega)
        have HY := Lib.hid (show (tot N j + N j) * 8 <= 140737488355328 by omega)
        clear hkr hnn h1 hsp
        generalize N j = nj at *
        generalize C j = cj at *
        generalize kcs .i64 (F j) nj = news at *
        generalize tot N j = tj at *
        go_wp2_with (at_builtin; refine wpList_append_own _ rfl _ _ 22 rfl w.heap.size 3 i0 _ 1 8 Tryz.underlying22 hi hz0 hz1 hz2 rfl (by omega) _ _ _ rfl HOWN.out ⟨b9, off9, sp⟩ nj cj news rfl HL.out HNEWS.out HONE.out HM.out HY.out hwr ?_)
        intro v5 w5 hown5 hgrow _
        have HN := Lib.hid (And.intro (HBL.out.grown hgrow hwr (fun q hq => (HOWN.out.lt q hq).1)) (HE.out _ _ hown5))
        clear hown5 hgrow
        go_wp2
        go_roundw
        case rel => exact ⟨j + 1, _, by omega, by go_num, rfl, HN.out⟩
        case measure => simp [intOf]; omega
     · obtain rfl : j = k := by omega
       rw [hX] at hown
       have HE : Hid (∃ a' c', v6 = .slice a' X c' /\ KRow wr .i64 a' X c' (cat N F j) /\ NewAt w wr a' X c') := Lib.hid (by
        obtain ⟨a', c', e, hk⟩ := KRow.of_own hown
        refine ⟨a', c', e, hk, ?_⟩
        rcases hown.2 with ⟨e2, h0⟩ | ⟨g, cap, cur, e2, hge, hh, _⟩
        · rw [e] at e2
          injection e2 with e3 e4 e5
          exact .inl ⟨e3, e4, e5⟩
        · rw [e] at e2
          injection e2 with e3 e4 e5
          exact .inr ⟨g, e3, hge, Free.of_block hh⟩)
       have HBL := Lib.hid hbl
       clear hown hbl hrel hlt
       go_wp2
       go_ret
       obtain ⟨a', c', rfl, hk, hn⟩ := HE.out
       rw [hX]
       exact ⟨a', c', rfl, hk, hn, HBL.out⟩
theorem join_any (a : Option Addr) (m c : Nat) (A : Nat -> Option Addr) (N C : Nat -> Nat) (F : Nat -> Nat -> Int) (w : World) (h : LRow w a m c A N C F) (hm : m <= 1000) (ht : tot N m <= 1000000) :
    Calls Tryz.prog 89 #[.slice a m c] w fun e w' => ∃ a' c', e = .returned (.slice a' (tot N m) c') /\ KRow w' .i64 a' (tot N m) c' (cat N F m) /\ Below w.heap.size w w' := by
 have CO := Lib.hid (concat_any a m c A N C F w h hm ht)
 generalize tot N m = X at *
 generalize cat N F m = G at *
 clear h
 go_enter Tryz.func89, Tryz.ntmps89
 go_wp2_with fail
 go_at_call 121
 (with_reducible refine (CO.out).mono ?_)
 rintro e w1 ⟨a1, c1, rfl, hk, _, hb⟩
 have HE := Lib.hid (And.intro hk hb)
 clear hk hb
 go_wp2
 go_ret
 exact ⟨_, _, rfl, HE.out⟩
def wiF (f : Nat -> Int) (i x : Int) : Nat -> Int := fun j => if (j : Int) = i then x else f j
theorem with_any (a : Option Addr) (n c : Nat) (f : Nat -> Int) (i x : Int) (w : World) (h : KRow w .i64 a n c f) (hn : n <= 1000000) :
    Calls Tryz.prog 78 #[.slice a n c, .int .i64 i, .int .i64 x] w fun e w' => ∃ a' c', e = .returned (.slice a' n c') /\ KRow w' .i64 a' n c' (wiF f i x) /\ Below w.heap.size w w' := by
 have CL := Lib.hid (cloneI_new a n c f w h hn)
 have HA := Lib.hid (fun a c i wz => has_any a n c i wz)
 clear h
 by_cases hin : 0 <= i /\ i < n
 · obtain ⟨h0, h1⟩ := hin
   obtain ⟨k, rfl⟩ : ∃ k : Nat, i = k := ⟨i.toNat, by omega⟩
   have hk : k < n := by omega
   have HA := Lib.hid (fun a c wz => HA.out a c k wz)
   rw [decide_eq_true h0, decide_eq_true h1] at HA
   go_enter Tryz.func78, Tryz.ntmps78
   go_wp2_with fail
   go_at_call 88
   (with_reducible refine (CL.out).mono ?_)
   rintro e w1 ⟨a1, c1, rfl, hk1, hn1, hb1⟩
   obtain ⟨b, off, rfl, hb, hc⟩ := hk1.get hk
   have hg : w.heap.size <= b /\ off = 0 /\ Free w1 b := by
    rcases hn1 with ⟨e, _⟩ | ⟨g, e, h1, h2⟩
    · cases e
    · cases e; exact ⟨h1, rfl, h2⟩
   obtain ⟨hge, rfl, hfr⟩ := hg
   rw [Nat.zero_add] at hc
   have hfz := hfr k
   have HE : Hid (KRow (w1.setCell ⟨b, k, none⟩ (.int .i64 x)) .i64 (some ⟨b, 0, none⟩) n c1 (wiF f k x) /\ Below w.heap.size w (w1.setCell ⟨b, k, none⟩ (.int .i64 x))) := Lib.hid ⟨⟨hk1.1, hk1.2.1, .inr ⟨b, 0, rfl, by simpa using hb, fun j hj => by
    rw [Nat.zero_add]
    unfold wiF
    by_cases e : j = k
    · subst e
      rw [if_pos rfl]
      exact World.cell?_setCell_same _ _ _ hc
    · rw [if_neg (by omega), World.cell?_setCell_other _ _ _ _ (fun h => by injection h with _ h; omega)]
      obtain ⟨b', off', e', _, hc'⟩ := hk1.get hj
      cases e'
      rwa [Nat.zero_add] at hc'⟩⟩, hb1.setCell (p := ⟨b, k, none⟩) hge _⟩
   clear hk1 hn1 hb1 hfr
   go_wp2_with fail
   go_at_call 120
   (with_reducible refine (HA.out _ _ _).mono ?_)
   rintro e w2 ⟨rfl, rfl⟩
   go_wp2
   go_ret
   exact ⟨_, _, rfl, HE.out⟩
 · have HA := Lib.hid (fun a c wz => HA.out a c i wz)
   rw [show (decide (0 <= i) && decide (i < (n : Int))) = false from by
    cases hx : (decide (0 <= i) && decide (i < (n : Int))) with
    | false => rfl
    | true => rw [Bool.and_eq_true, decide_eq_true_eq, decide_eq_true_eq] at hx; exact absurd hx hin] at HA
   have HW : Hid (∀ j, j < n -> wiF f i x j = f j) := Lib.hid (fun j hj => by unfold wiF; rw [if_neg (by omega)])
   clear hin
   go_enter Tryz.func78, Tryz.ntmps78
   go_wp2_with fail
   go_at_call 88
   (with_reducible refine (CL.out).mono ?_)
   rintro e w1 ⟨a1, c1, rfl, hk1, hn1, hb1⟩
   have HE : Hid (KRow w1 .i64 a1 n c1 (wiF f i x) /\ Below w.heap.size w w1) := Lib.hid ⟨⟨hk1.1, hk1.2.1, hk1.2.2.imp id (by
    rintro ⟨b, off, rfl, hl, hc⟩
    exact ⟨b, off, rfl, hl, fun j hj => by rw [HW.out j hj]; exact hc j hj⟩)⟩, hb1⟩
   clear hk1 hn1 hb1
   go_wp2_with fail
   go_at_call 120
   (with_reducible refine (HA.out _ _ _).mono ?_)
   rintro e w2 ⟨rfl, rfl⟩
   go_wp2
   go_ret
   exact ⟨_, _, rfl, HE.out⟩
def outF (f : Nat -> Int) (k : Nat) : Nat -> Int := fun j => if j < k then f j else f (j + 1)
theorem has_no {n : Nat} {i : Int} (h : ¬ (0 <= i /\ i < n)) : (decide (0 <= i) && decide (i < (n : Int))) = false := by
 cases hx : (decide (0 <= i) && decide (i < (n : Int))) with
 | false => rfl
 | true => rw [Bool.and_eq_true, decide_eq_true_eq, decide_eq_true_eq] at hx; exact absurd hx h
theorem LRow.two {w : World} {g : Nat} {t : TypeId} {a1 a2 : Option Addr} {n1 c1 n2 c2 : Nat} {f1 f2 : Nat -> Int} (h : Row w g t #[.slice a1 n1 c1, .slice a2 n2 c2]) (k1 : KRow w .i64 a1 n1 c1 f1) (k2 : KRow w .i64 a2 n2 c2 f2) (e1 : a1 = none -> c1 = 0) (e2 : a2 = none -> c2 = 0) :
    LRow w (some ⟨g, 0, none⟩) 2 2 (fun j => if j = 0 then a1 else a2) (fun j => if j = 0 then n1 else n2) (fun j => if j = 0 then c1 else c2) (fun j => if j = 0 then f1 else f2) := by
 refine ⟨Nat.le_refl _, by unfold maxLen; omega, .inr ⟨g, 0, rfl, h.lt, fun j hj => ?_⟩⟩
 have : j = 0 ∨ j = 1 := by omega
 rcases this with rfl | rfl
 · exact ⟨h.cell 0, k1, e1⟩
 · exact ⟨h.cell 1, k2, e2⟩
theorem LRow.three {w : World} {g : Nat} {t : TypeId} {a1 a2 a3 : Option Addr} {n1 c1 n2 c2 n3 c3 : Nat} {f1 f2 f3 : Nat -> Int} (h : Row w g t #[.slice a1 n1 c1, .slice a2 n2 c2, .slice a3 n3 c3]) (k1 : KRow w .i64 a1 n1 c1 f1) (k2 : KRow w .i64 a2 n2 c2 f2) (k3 : KRow w .i64 a3 n3 c3 f3) (e1 : a1 = none -> c1 = 0) (e2 : a2 = none -> c2 = 0) (e3 : a3 = none -> c3 = 0) :
    LRow w (some ⟨g, 0, none⟩) 3 3 (fun j => if j = 0 then a1 else if j = 1 then a2 else a3) (fun j => if j = 0 then n1 else if j = 1 then n2 else n3) (fun j => if j = 0 then c1 else if j = 1 then c2 else c3) (fun j => if j = 0 then f1 else if j = 1 then f2 else f3) := by
 refine ⟨Nat.le_refl _, by unfold maxLen; omega, .inr ⟨g, 0, rfl, h.lt, fun j hj => ?_⟩⟩
 have : j = 0 ∨ j = 1 ∨ j = 2 := by omega
 rcases this with rfl | rfl | rfl
 · exact ⟨h.cell 0, k1, e1⟩
 · exact ⟨h.cell 1, k2, e2⟩
 · exact ⟨h.cell 2, k3, e3⟩
theorem KRow.congr {w : World} {ki : IntKind} {a : Option Addr} {n c : Nat} {f g : Nat -> Int} (h : KRow w ki a n c f) (e : ∀ j, j < n -> f j = g j) : KRow w ki a n c g := by
 refine ⟨h.1, h.2.1, h.2.2.imp id ?_⟩
 rintro ⟨b, off, rfl, hl, hc⟩
 exact ⟨b, off, rfl, hl, fun j hj => by rw [← e j hj]; exact hc j hj⟩
def spB (f : Nat -> Int) (n : Nat) (i : Int) : Bool := shB f n && (decide (0 <= i) && decide (i < (n : Int)))
def SpTold (f : Nat -> Int) (n : Nat) (i : Int) (w w' : World) (e : Ending) : Prop :=
 e = .returned (.tuple #[.int .i64 (if spB f n i then itm f i.toNat else 0), .int .i64 (if spB f n i then f i.toNat else 0), .int .i64 (if spB f n i then itm (shf f (i.toNat + 1)) (n - (i.toNat + 1)) else 0), .bool (spB f n i)]) /\ Below w.heap.size w w'
theorem SpTold.no {f : Nat -> Int} {n : Nat} {i : Int} {w w' : World} (hb : Below w.heap.size w w') (h : spB f n i = false) : SpTold f n i w w' (.returned (.tuple #[.int .i64 0, .int .i64 0, .int .i64 0, .bool false])) := by
 refine ⟨?_, hb⟩
 rw [h]
 rfl
theorem SpTold.yes {f : Nat -> Int} {n k : Nat} {w w' : World} (hb : Below w.heap.size w w') (h : shB f n = true) (hk : k < n) : SpTold f n k w w' (.returned (.tuple #[.int .i64 (itm f k), .int .i64 (f k), .int .i64 (itm (shf f (k + 1)) (n - (k + 1))), .bool true])) := by
 refine ⟨?_, hb⟩
 have : spB f n k = true := by unfold spB; rw [h, decide_eq_true (show (0 : Int) <= k by omega), decide_eq_true (show (k : Int) < n by omega)]; rfl
 rw [this]
 rfl
theorem split_any (a : Option Addr) (n c : Nat) (f : Nat -> Int) (i : Int) (w : World) (h : KRow w .i64 a n c f) (hf : In64 f n) :
    Calls Tryz.prog 77 #[.slice a n c, .int .i64 i] w fun e w' => SpTold f n i w w' e := by
 have hl := h.len
 have hcm := h.2.1
 unfold maxLen at hcm
 have CN := Lib.hid (fun wz (h : KRow wz .i64 a n c f) => count_any a n c f wz h hf)
 unfold CntTold at CN
 have HA := Lib.hid (has_any a n c i w)
 have H := Lib.hid h
 clear hf
 cases hs : shB f n with
 | false =>
  have HE := Lib.hid (SpTold.no (f := f) (n := n) (i := i) (Below.refl w.heap.size w) (by unfold spB; rw [hs]; rfl))
  rw [hs] at CN
  generalize cntI f n = x at *
  clear hs h
  go_enter Tryz.func77, Tryz.ntmps77
  go_wp2_with fail
  go_at_call 90
  (with_reducible refine (CN.out _ H.out).mono ?_)
  rintro e w1 ⟨rfl, rfl⟩
  go_wp2
  exact bodyPost_ret (v := .tuple #[.int .i64 0, .int .i64 0, .int .i64 0, .bool false]) (by simp [results, Tryz.results77, go_sem]) rfl HE.out
 | true =>
  rw [hs] at CN
  generalize cntI f n = x at *
  by_cases hin : 0 <= i /\ i < n
  · obtain ⟨h0, h1⟩ := hin
    obtain ⟨k, rfl⟩ : ∃ k : Nat, i = k := ⟨i.toNat, by omega⟩
    have hk : k < n := by omega
    rw [decide_eq_true h0, decide_eq_true h1] at HA
    have HY := Lib.hid (fun wz hb => SpTold.yes (f := f) (n := n) (k := k) (w := w) (w' := wz) hb hs hk)
    obtain ⟨h8, hax⟩ := sh_ax hs
    obtain ⟨b, off, rfl, hb, hc⟩ := h.get hk
    have hw1 := IntWalk.i64_in ((k : Int) + 1) (by omega)
    have P1 : Hid (∀ wz, Below w.heap.size w wz -> Calls Tryz.prog 123 #[.slice (some ⟨b, off, none⟩) k c] wz fun e w' => e = .returned (.int .i64 (itm f k)) /\ wz = w') := Lib.hid (fun wz hb => product_any _ _ _ _ wz ((h.take (by omega)).below hb) (ax_le (by omega) hax))
    have P2 : Hid (∀ (wz : World) (ad : Option Addr) (n2 c2 : Nat), n2 = n - (k + 1) -> n2 <= c2 -> c2 <= c -> (ad = some ⟨b, off + (k + 1), none⟩ /\ c2 = c - (k + 1) ∨ n2 = 0) -> Below w.heap.size w wz -> Calls Tryz.prog 123 #[.slice ad n2 c2] wz fun e w' => e = .returned (.int .i64 (itm (shf f (k + 1)) (n - (k + 1)))) /\ wz = w') := Lib.hid (fun wz ad n2 c2 hn2 hc1 hc2 had hb => by
     subst hn2
     refine product_any _ _ _ _ wz ?_ (ax_shf (k + 1) hax _ (by omega))
     rcases had with ⟨rfl, rfl⟩ | h0
     · exact (h.from (show k + 1 <= n by omega)).below hb
     · rw [h0]; exact KRow.nought _ _ _ _ (by unfold maxLen; omega) _)
    clear hs hax
    have HBND := Lib.hid hcm
    generalize itm f k = x1 at *
    generalize itm (shf f (k + 1)) (n - (k + 1)) = x3 at *
    generalize f k = x2 at *
    by_cases hck : c = k + 1
    · subst hck
      obtain rfl : n = k + 1 := by omega
      have Q1 : Hid (∀ q, Calls Tryz.prog 123 #[.slice (some ⟨b, off, none⟩) k (k + 1)] (w.drewN q) fun e w'' => e = .returned (.int .i64 x1) /\ ∃ m, w'' = w.drewN m) := Lib.hid (fun q => (P1.out _ (below_drewN (Below.refl _ _) q)).mono (fun e w' h => ⟨h.1, q, h.2.symm⟩))
      have Q2 : Hid (∀ q, Calls Tryz.prog 123 #[.slice (some ⟨b, off, none⟩) 0 0] (w.drewN q) fun e w'' => e = .returned (.int .i64 x3) /\ ∃ m, w'' = w.drewN m) := Lib.hid (fun q => (P2.out _ _ 0 0 (by omega) (by omega) (by omega) (.inr rfl) (below_drewN (Below.refl _ _) q)).mono (fun e w' h => ⟨h.1, q, h.2.symm⟩))
      have HYY := Lib.hid (fun q => HY.out (w.drewN q) (below_drewN (Below.refl _ _) q))
      have d1 : ¬ (((k + 1 : Nat) : Int) < k) := by omega
      have d2 : (0 : Int) <= k := by omega
      have d3 : ¬ (((k + 1 : Nat) : Int) < (k : Int) + 1) := by omega
      have d4 : (0 : Int) <= (k : Int) + 1 := by omega
      have hg : ((k : Int) + 1).toNat = k + 1 := by omega
      clear h
      go_enter Tryz.func77, Tryz.ntmps77
      go_wp2_with fail
      go_at_call 90
      (with_reducible refine (CN.out _ H.out).mono ?_)
      rintro e w1 ⟨rfl, rfl⟩
      go_wp2_with fail
      go_at_call 120
      (with_reducible refine (HA.out).mono ?_)
      rintro e w2 ⟨rfl, rfl⟩
      go_wp2_with fail
      go_quiet (first | (go_at_call 123; with_reducible exact Q1.out _) | (go_at_call 123; with_reducible exact Q2.out _))
      have HE := Lib.hid (HYY.out nq)
      go_wp2
      exact bodyPost_ret (v := .tuple #[.int .i64 x1, .int .i64 x2, .int .i64 x3, .bool true]) (by simp [results, Tryz.results77, go_sem]) rfl HE.out
    · have Q1 : Hid (∀ q, Calls Tryz.prog 123 #[.slice (some ⟨b, off, none⟩) k c] (w.drewN q) fun e w'' => e = .returned (.int .i64 x1) /\ ∃ m, w'' = w.drewN m) := Lib.hid (fun q => (P1.out _ (below_drewN (Below.refl _ _) q)).mono (fun e w' h => ⟨h.1, q, h.2.symm⟩))
      have Q2 : Hid (∀ q, Calls Tryz.prog 123 #[.slice (some ⟨b, off + (k + 1), none⟩) (n - (k + 1)) (c - (k + 1))] (w.drewN q) fun e w'' => e = .returned (.int .i64 x3) /\ ∃ m, w'' = w.drewN m) := Lib.hid (fun q => (P2.out _ _ _ _ rfl (by omega) (by omega) (.inl ⟨rfl, rfl⟩) (below_drewN (Below.refl _ _) q)).mono (fun e w' h => ⟨h.1, q, h.2.symm⟩))
      have HYY := Lib.hid (fun q => HY.out (w.drewN q) (below_drewN (Below.refl _ _) q))
      have d1 : ¬ ((c : Int) < k) := by omega
      have d2 : (0 : Int) <= k := by omega
      have d3 : ¬ ((n : Int) < (k : Int) + 1) := by omega
      have d4 : (0 : Int) <= (k : Int) + 1 := by omega
      have hg : ((k : Int) + 1).toNat = k + 1 := by omega
      clear h
      go_enter Tryz.func77, Tryz.ntmps77
      go_wp2_with fail
      go_at_call 90
      (with_reducible refine (CN.out _ H.out).mono ?_)
      rintro e w1 ⟨rfl, rfl⟩
      go_wp2_with fail
      go_at_call 120
      (with_reducible refine (HA.out).mono ?_)
      rintro e w2 ⟨rfl, rfl⟩
      go_wp2_with fail
      go_quiet (first | (go_at_call 123; with_reducible exact Q1.out _) | (go_at_call 123; with_reducible exact Q2.out _))
      have HE := Lib.hid (HYY.out nq)
      go_wp2
      exact bodyPost_ret (v := .tuple #[.int .i64 x1, .int .i64 x2, .int .i64 x3, .bool true]) (by simp [results, Tryz.results77, go_sem]) rfl HE.out
  · have HE := Lib.hid (SpTold.no (f := f) (n := n) (i := i) (Below.refl w.heap.size w) (by unfold spB; rw [has_no hin, Bool.and_false]))
    rw [has_no hin] at HA
    clear hin h hs
    go_enter Tryz.func77, Tryz.ntmps77
    go_wp2_with fail
    go_at_call 90
    (with_reducible refine (CN.out _ H.out).mono ?_)
    rintro e w1 ⟨rfl, rfl⟩
    go_wp2_with fail
    go_at_call 120
    (with_reducible refine (HA.out).mono ?_)
    rintro e w2 ⟨rfl, rfl⟩
    go_wp2
    exact bodyPost_ret (v := .tuple #[.int .i64 0, .int .i64 0, .int .i64 0, .bool false]) (by simp [results, Tryz.results77, go_sem]) rfl HE.out
theorem equalI_any (a : Option Addr) (n c : Nat) (f : Nat -> Int) (a2 : Option Addr) (n2 c2 : Nat) (g : Nat -> Int) (w : World) (h : KRow w .i64 a n c f) (h2 : KRow w .i64 a2 n2 c2 g) :
    Calls Tryz.prog 122 #[.slice a n c, .slice a2 n2 c2] w fun e w' => SameTold (decide (n = n2) && sameB f g n) w w' e := by
 have hl := h.len
 have hl2 := h2.len
 have H1 := Lib.hid h
 have H2 := Lib.hid h2
 clear h h2
 by_cases hn : n = n2
 · subst hn
   rw [decide_eq_true rfl, Bool.true_and]
   have dn : ((n : Int) != n) = false := bne_self_eq_false _
   go_enter Tryz.func122, Tryz.ntmps122
   go_wp2
   go_loopw [13] (fun i wr => ∃ k : Nat, k <= n /\ i = .int .i64 k /\ Hid (Below w.heap.size w wr /\ sameB f g k = true)) (fun i _ => n - (intOf i).toNat)
   case atStart => exact ⟨0, by omega, rfl, Below.refl _ _, rfl⟩
   case round =>
    obtain ⟨k, hk, rfl, hrel⟩ := hrel
    obtain ⟨hbl, hsm⟩ := hrel.out
    by_cases hlt : k < n
    · obtain ⟨b, off, rfl, hb, hc⟩ := (H1.out.below hbl).get hlt
      obtain ⟨b2, off2, rfl, hb2, hc2⟩ := (H2.out.below hbl).get hlt
      have HBL := Lib.hid hbl
      have hk0 : (0 : Int) <= k := by omega
      have hk1 : (k : Int) < n := by omega
      have hk2 : (k : Int) <= n := by omega
      by_cases hq : f k = g k
      · have hsm2 : Hid (sameB f g (k + 1) = true) := by show (sameB f g k && _) = true; rw [hsm, decide_eq_true hq]; rfl
        clear hbl hsm
        rw [← hq] at hc2
        have hne : (f k != f k) = false := bne_self_eq_false _
        generalize f k = x at *
        clear hq
        go_wp2_with fail
        go_quiet (fail)
        have HBE : Hid (Below w.heap.size w (wr.drewN nq) /\ sameB f g (k + 1) = true) := ⟨below_drewN HBL.out nq, hsm2.out⟩
        go_wp2
        go_roundw
        case rel => exact ⟨k + 1, by omega, by go_num, HBE.out⟩
        case measure => simp [intOf]; omega
      · have hno : sameB f g n = false := by
          cases hx : sameB f g n with
          | false => rfl
          | true => exact absurd ((sameB_iff.1 hx) k hlt) hq
        have HN := Lib.hid hno
        have hne : (f k != g k) = true := bne_iff_ne.2 hq
        clear hbl hsm hno
        generalize f k = x at *
        generalize g k = y at *
        clear hq
        go_wp2_with fail
        go_quiet (fail)
        have HBE : Hid (SameTold (sameB f g n) w (wr.drewN nq) (.returned (.bool false))) := ⟨by rw [HN.out], below_drewN HBL.out nq⟩
        go_wp2
        go_ret
        exact HBE.out
    · obtain rfl : k = n := by omega
      have HE : Hid (SameTold (sameB f g k) w wr (.returned (.bool true))) := ⟨by rw [hsm], hbl⟩
      clear hbl hsm
      go_wp2
      go_ret
      exact HE.out
 · rw [decide_eq_false hn, Bool.false_and]
   have dn : ((n : Int) != n2) = true := bne_iff_ne.2 (by omega)
   have HE : Hid (SameTold false w w (.returned (.bool false))) := ⟨rfl, Below.refl _ _⟩
   clear hn
   go_enter Tryz.func122, Tryz.ntmps122
   go_wp2
   go_ret
   exact HE.out
theorem same_any (a : Option Addr) (n c : Nat) (f : Nat -> Int) (a2 : Option Addr) (n2 c2 : Nat) (g : Nat -> Int) (w : World) (h : KRow w .i64 a n c f) (h2 : KRow w .i64 a2 n2 c2 g) :
    Calls Tryz.prog 76 #[.slice a n c, .slice a2 n2 c2] w fun e w' => SameTold (decide (n = n2) && sameB f g n) w w' e := by
 have EQ := Lib.hid (equalI_any a n c f a2 n2 c2 g w h h2)
 unfold SameTold at EQ
 unfold SameTold
 generalize (decide (n = n2) && sameB f g n) = x at *
 clear h h2
 go_enter Tryz.func76, Tryz.ntmps76
 go_wp2_with fail
 go_at_call 122
 (with_reducible refine (EQ.out).mono ?_)
 rintro e w1 ⟨rfl, hb⟩
 have HB := Lib.hid hb
 clear hb
 go_wp2
 go_ret
 exact ⟨rfl, HB.out⟩
def RPlTold (f : Nat -> Int) (n : Nat) (g : Nat -> Int) (m : Nat) (w w' : World) (e : Ending) : Prop :=
 ∃ x, e = .returned (.int .i64 x) /\ (inB f g (min n m) = false -> x = -1) /\ (axB f (min n m) = true -> inB f g (min n m) = true -> x = plc f g (min n m)) /\ Below w.heap.size w w'
theorem r6Place_any (a : Option Addr) (n c : Nat) (f : Nat -> Int) (a2 : Option Addr) (m c2 : Nat) (g : Nat -> Int) (w : World) (h : KRow w .i64 a n c f) (h2 : KRow w .i64 a2 m c2 g) :
    Calls Tryz.prog 102 #[.slice a n c, .slice a2 m c2] w fun e w' => RPlTold f n g m w w' e := by
 have hl := h.len
 have hl2 := h2.len
 have H1 := Lib.hid h
 have H2 := Lib.hid h2
 clear h h2
 obtain ⟨mn, hmn⟩ : ∃ q, min n m = q := ⟨_, rfl⟩
 have hm1 : mn <= n := by omega
 have hm2 : mn <= m := by omega
 unfold RPlTold
 rw [hmn]
 go_enter Tryz.func102, Tryz.ntmps102
 go_wp2
 go_loopw [5, 6] (fun t i wr => ∃ (k : Nat) (x : Int), k <= mn /\ i = .int .i64 k /\ t = .int .i64 x /\ Hid (inB f g k = true /\ (axB f k = true -> x = plc f g k) /\ Below w.heap.size w wr)) (fun _ i _ => mn - (intOf i).toNat)
 case atStart => exact ⟨0, 0, by omega, rfl, rfl, rfl, fun _ => rfl, Below.refl _ _⟩
 case round =>
  obtain ⟨k, x, hk, rfl, rfl, hrel⟩ := hrel
  obtain ⟨hin, hpl, hbl⟩ := hrel.out
  by_cases hlt : k < mn
  · obtain ⟨b, off, rfl, hb, hc⟩ := (H1.out.below hbl).get (show k < n by omega)
    obtain ⟨b2, off2, rfl, hb2, hc2⟩ := (H2.out.below hbl).get (show k < m by omega)
    have HBL := Lib.hid hbl
    have hk0 : (0 : Int) <= k := by omega
    have hk1 : (k : Int) < n := by omega
    have hk2 : (k : Int) < m := by omega
    by_cases h0 : g k < 0
    · have HN := Lib.hid (inB_no (f := f) (g := g) hlt (by omega))
      clear hbl hin hpl hrel hmn
      generalize g k = y at *
      generalize f k = x' at *
      go_wp2_with fail
      go_quiet (fail)
      have HBE := Lib.hid (below_drewN HBL.out nq)
      go_wp2
      go_ret
      exact ⟨-1, rfl, fun _ => rfl, (fun _ h => by rw [HN.out] at h; cases h), HBE.out⟩
    · by_cases h1 : f k <= g k
      · have HN := Lib.hid (inB_no (f := f) (g := g) hlt (by omega))
        clear hbl hin hpl hrel hmn
        generalize g k = y at *
        generalize f k = x' at *
        go_wp2_with fail
        go_quiet (fail)
        have HBE := Lib.hid (below_drewN HBL.out nq)
        go_wp2
        go_ret
        exact ⟨-1, rfl, fun _ => rfl, (fun _ h => by rw [HN.out] at h; cases h), HBE.out⟩
      · have hin' : inB f g (k + 1) = true := by unfold inB; rw [hin, decide_eq_true (show 0 <= g k by omega), decide_eq_true (show g k < f k by omega)]; rfl
        have hpl' : axB f (k + 1) = true -> wrap64 (wrap64 (x * f k) + g k) = plc f g (k + 1) := fun hax => by
         have hpb := plc_bd hax hin'
         have hpb0 := plc_bd (ax_le (Nat.le_succ k) hax) hin
         have hit := (ax_bd hax).2.2.2
         have hrm := (ax_bd hax).2.1
         have e2 : plc f g (k + 1) = plc f g k * f k + g k := rfl
         rw [e2] at hpb
         have hm0 : 0 <= plc f g k * f k := Int.mul_nonneg hpb0.1 (by omega)
         rw [hpl (ax_le (Nat.le_succ k) hax), IntWalk.wrap64_in (plc f g k * f k) (by omega), IntWalk.wrap64_in (plc f g k * f k + g k) (by omega)]
         exact e2.symm
        have HN := Lib.hid (And.intro hin' hpl')
        clear hbl hin hin' hpl hpl' hrel hmn
        generalize g k = y at *
        generalize f k = x' at *
        go_wp2_with fail
        go_quiet (fail)
        go_wp2_with fail
        go_quiet (fail)
        go_wp2
        go_roundw
        case rel => exact ⟨k + 1, _, by omega, by go_num, rfl, HN.out.1, HN.out.2, below_drewN HBL.out _⟩
        case measure => simp [intOf]; omega
  · obtain rfl : k = mn := by omega
    have HE := Lib.hid (And.intro hin (And.intro hpl hbl))
    clear hbl hin hpl hrel
    by_cases hkn : (k : Int) < n
    · have hkm : ¬ (k : Int) < m := by omega
      go_wp2
      go_ret
      exact ⟨x, rfl, fun h => (by rw [HE.out.1] at h; cases h), fun h _ => HE.out.2.1 h, HE.out.2.2⟩
    · go_wp2
      go_ret
      exact ⟨x, rfl, fun h => (by rw [HE.out.1] at h; cases h), fun h _ => HE.out.2.1 h, HE.out.2.2⟩
def stF (f : Nat -> Int) (n : Nat) : Nat -> Int := fun j => itm (shf f (j + 1)) (n - (j + 1))
theorem inB_of {f g : Nat -> Int} : ∀ {n : Nat}, (∀ j, j < n -> 0 <= g j /\ g j < f j) -> inB f g n = true
 | 0, _ => rfl
 | n + 1, h => by
  have h1 := h n (by omega)
  show (inB f g n && (decide (0 <= g n) && decide (g n < f n))) = true
  rw [inB_of (fun j hj => h j (by omega)), decide_eq_true h1.1, decide_eq_true h1.2]; rfl
theorem plc_congr {f f' g g' : Nat -> Int} : ∀ {n : Nat}, (∀ j, j < n -> f j = f' j /\ g j = g' j) -> plc f g n = plc f' g' n
 | 0, _ => rfl
 | n + 1, h => by
  show plc f g n * f n + g n = plc f' g' n * f' n + g' n
  rw [plc_congr (fun j hj => h j (by omega)), (h n (by omega)).1, (h n (by omega)).2]
theorem itm_congr {f f' : Nat -> Int} : ∀ {n : Nat}, (∀ j, j < n -> f j = f' j) -> itm f n = itm f' n
 | 0, _ => rfl
 | n + 1, h => by
  show itm f n * f n = itm f' n * f' n
  rw [itm_congr (fun j hj => h j (by omega)), h n (by omega)]
theorem plc_add (f g : Nat -> Int) (p : Nat) : ∀ k, plc f g (p + k) = plc f g p * itm (shf f p) k + plc (shf f p) (shf g p) k
 | 0 => by show _ = _ * 1 + 0; rw [Int.mul_one, Int.add_zero]; rfl
 | k + 1 => by
  show plc f g (p + k) * f (p + k) + g (p + k) = plc f g p * (itm (shf f p) k * f (p + k)) + (plc (shf f p) (shf g p) k * f (p + k) + g (p + k))
  rw [plc_add f g p k]
  grind
theorem itm_ge {f : Nat -> Int} : ∀ {n : Nat}, (∀ j, j < n -> 1 <= f j) -> 1 <= itm f n
 | 0, _ => Int.le_refl _
 | n + 1, h => by
  have h1 := itm_ge (f := f) (n := n) (fun j hj => h j (by omega))
  have h2 := h n (by omega)
  have h3 : 1 * 1 <= itm f n * f n := Int.mul_le_mul h1 h2 (by omega) (by omega)
  exact h3
theorem plc_lt {f g : Nat -> Int} : ∀ {n : Nat}, (∀ j, j < n -> 0 <= g j /\ g j < f j) -> 0 <= plc f g n /\ plc f g n < itm f n
 | 0, _ => ⟨Int.le_refl _, by show (0 : Int) < 1; decide⟩
 | n + 1, h => by
  obtain ⟨h1, h2⟩ := plc_lt (f := f) (g := g) (n := n) (fun j hj => h j (by omega))
  obtain ⟨h3, h4⟩ := h n (by omega)
  show 0 <= plc f g n * f n + g n /\ plc f g n * f n + g n < itm f n * f n
  have h5 : 0 <= plc f g n * f n := Int.mul_nonneg h1 (by omega)
  have h6 : (plc f g n + 1) * f n <= itm f n * f n := Int.mul_le_mul_of_nonneg_right (by omega) (by omega)
  rw [Int.add_mul, Int.one_mul] at h6
  omega
theorem plc_cut {f g : Nat -> Int} {n k : Nat} (hk : k < n) : plc f g n = (plc f g k * f k + g k) * stF f n k + plc (shf f (k + 1)) (shf g (k + 1)) (n - (k + 1)) := by
 have e := plc_add f g (k + 1) (n - (k + 1))
 rw [show k + 1 + (n - (k + 1)) = n by omega] at e
 rw [e]; rfl
theorem Arr.away {w w' : World} {cs : Array Value} {S : Nat -> Int} {r : Nat} {ch : Bool} {L : Nat} {g fP : Nat -> Int} {fQ : Nat -> Nat} (h : Arr w cs S r ch L g fP fQ) {k : Nat} {t : TypeId} {ch' : Bool} {more : Int} {d : Nat -> Int} {na : Option Addr} {nn nc : Nat} {ta : Option Addr} {tn tc : Nat} (hr : Row w k t (arrC ch' more d na nn nc ta tn tc)) (hf : Far k w w') : Arr w' cs S r ch L g fP fQ := by
 refine ⟨fun e => ?_, fun e => ?_⟩
 · obtain ⟨a, c, h1, h2⟩ := h.1 e
   exact ⟨a, c, h1, h2.away (KRow.ne h2 (by decide) hr) hf⟩
 · obtain ⟨a, c, h1, h2⟩ := h.2 e
   exact ⟨a, c, h1, h2.away (Row.noLimb hr) (RRow.ne h2 hr) hf⟩
theorem Arr.put {w : World} {cs : Array Value} {S : Nat -> Int} {r : Nat} {ch : Bool} {L : Nat} {g fP : Nat -> Int} {fQ : Nat -> Nat} (h : Arr w cs S r ch L g fP fQ) {k : Nat} {t : TypeId} (hr : Row w k t zerC) (cs' : Array Value) : Arr (w.setRow k cs') cs S r ch L g fP fQ := by
 rw [zerC_row] at hr
 exact h.away hr (Far.setRow _ _ _)
def IsA (cs : Array Value) : Prop := ∃ ch more d na nn nc ta tn tc, cs = arrC ch more d na nn nc ta tn tc
theorem IsA.zer : IsA zerC := ⟨_, _, _, _, _, _, _, _, _, rfl⟩
theorem IsA.size {cs : Array Value} (h : IsA cs) : cs.size = 12 := by
 obtain ⟨_, _, _, _, _, _, _, _, _, rfl⟩ := h
 rfl
theorem IsA.one {cs : Array Value} (h : IsA cs) : cs.all (·.oneCell') = true := by
 obtain ⟨_, _, _, _, _, _, _, _, _, rfl⟩ := h
 exact arrC_one _ _ _ _ _ _ _ _ _
theorem Arr.isA {w : World} {cs : Array Value} {S : Nat -> Int} {r : Nat} {ch : Bool} {L : Nat} {g fP : Nat -> Int} {fQ : Nat -> Nat} (h : Arr w cs S r ch L g fP fQ) : IsA cs := by
 obtain ⟨na, nn, nc, ta, tn, tc, rfl, _⟩ := h.form
 exact ⟨_, _, _, _, _, _, _, _, _, rfl⟩
theorem Arr.store {w : World} {cs : Array Value} {S : Nat -> Int} {r : Nat} {ch : Bool} {L : Nat} {g fP : Nat -> Int} {fQ : Nat -> Nat} (h : Arr w cs S r ch L g fP fQ) {k : Nat} {t : TypeId} {z : Array Value} (hr : Row w k t z) (hz : IsA z) (cs' : Array Value) : Arr (w.setRow k cs') cs S r ch L g fP fQ := by
 obtain ⟨_, _, _, _, _, _, _, _, _, rfl⟩ := hz
 exact h.away hr (Far.setRow _ _ _)
theorem ev_tmp {a : Act} {d : Nat} {v : Value} (h : a.tmps[d]? = some v) : a.eval (.tmp d) = v := by
 show a.tmps.getD d undef = v
 rw [Array.getD_eq_getD_getElem?, h]; rfl
theorem ld8 {o : Oper} {a : Act} {w : World} {K : Act -> World -> Prop} {Q : Exit -> Act -> World -> Prop} (d : Nat) (ho : o.op = .load 32 (.tmp d)) (g : Nat) (cs : Array Value) (hd : a.tmps[d]? = some (.pointer (some ⟨g, 0, none⟩))) (hr : Row w g 32 cs) (hs : cs.size = 12)
    (hK : K (a.put o.dst (.agg cs)) w) : o.wp Tryz.prog a w K Q :=
 wp_load_row 32 (.tmp d) ho g (ev_tmp hd) 32 cs (0, 0) _ hr Tryz.underlying32 rfl (by rw [arr12, hs]) hK
theorem ldP {o : Oper} {a : Act} {w : World} {K : Act -> World -> Prop} {Q : Exit -> Act -> World -> Prop} (d : Nat) (ho : o.op = .load 26 (.tmp d)) (g : Nat) (cs : Array Value) (hd : a.tmps[d]? = some (.pointer (some ⟨g, 0, none⟩))) (hr : Row w g 26 cs) (hs : cs.size = 4)
    (hK : K (a.put o.dst (.agg cs)) w) : o.wp Tryz.prog a w K Q :=
 wp_load_row 26 (.tmp d) ho g (ev_tmp hd) 26 cs (0, 0) _ hr Tryz.underlying26 rfl (by rw [pln4, hs]) hK
theorem st8 {o : Oper} {a : Act} {w : World} {K : Act -> World -> Prop} {Q : Exit -> Act -> World -> Prop} (d s : Nat) (ho : o.op = .store 32 (.tmp d) (.tmp s)) (g : Nat) (cs : Array Value) (hd : a.tmps[d]? = some (.pointer (some ⟨g, 0, none⟩))) (hs : a.tmps[s]? = some (.agg cs)) (t : TypeId) (z : Array Value) (hr : Row w g t z) (hz : IsA z) (hc : IsA cs)
    (hK : K (a.put o.dst undef) (w.setRow g cs)) : o.wp Tryz.prog a w K Q :=
 wp_store_row 32 (.tmp d) (.tmp s) ho g cs (ev_tmp hd) (ev_tmp hs) t z hr (by rw [arr12, hc.size]) (by rw [hz.size, hc.size]) hc.one hK
def MoTold (E : Int) (S : Nat -> Int) (r : Nat) (ch : Bool) (L : Nat) (g fP : Nat -> Int) (fQ : Nat -> Nat) (w w' : World) (e : Ending) : Prop :=
 ∃ cs, e = .returned (.tuple #[.agg cs, .int .i64 E]) /\ (E = 0 -> Arr w' cs S r ch L g fP fQ) /\ (E ≠ 0 -> cs = zerC) /\ Below w.heap.size w w'
theorem MoTold.no {E : Int} (hE : E ≠ 0) {S : Nat -> Int} {r : Nat} {ch : Bool} {L : Nat} {g fP : Nat -> Int} {fQ : Nat -> Nat} {w w' : World} (hb : Below w.heap.size w w') : MoTold E S r ch L g fP fQ w w' (.returned (.tuple #[.agg zerC, .int .i64 E])) :=
 ⟨zerC, rfl, fun e => absurd e hE, fun _ => rfl, hb⟩
theorem MoTold.yes {S : Nat -> Int} {r : Nat} {ch : Bool} {L : Nat} {g fP : Nat -> Int} {fQ : Nat -> Nat} {w w' : World} {cs : Array Value} (h : Arr w' cs S r ch L g fP fQ) (hb : Below w.heap.size w w') : MoTold 0 S r ch L g fP fQ w w' (.returned (.tuple #[.agg cs, .int .i64 0])) :=
 ⟨cs, rfl, fun _ => h, fun e => absurd rfl e, hb⟩
end Go.Proofs.YtdlccnmhcggjiaaGreatDoor
namespace Go.Proofs.YtdlccnmhcggjiaaGreatDoor
open Go.RowKit
attribute [local go_sem ↓] Go.wp_at_zero Go.wp_at_succ
theorem lenZ_any (w : World) : Calls Tryz.prog 26 #[.agg zerC] w fun e w' => e = .returned (.int .i64 0) /\ Below w.heap.size w w' :=
 len_any false 0 (fun _ => 0) none 0 0 none 0 0 w
structure Shown (w : World) (cs pcs : Array Value) : Prop where
 ex : ∃ S r ch L g fP fQ S' g' fB fS fT, Arr w cs S r ch L g fP fQ /\ Pln w pcs S' r ch L g' fB fS fT /\ r <= 8 /\ L <= 1000000 /\ Small ch L fP fQ /\ (∀ j, j < r -> S j = S' j) /\ (∀ j, j < tnO ch L -> g j = g' j) /\ ∀ j, j < nnO ch L -> rB (fP j) = fB j /\ rS (fP j) = fS j /\ str (dec (fQ j)) = fT j
end Go.Proofs.YtdlccnmhcggjiaaGreatDoor
namespace Go.Proofs.YtdlccnmhcggjiaaGreatDoor
open Go.RowKit
def gP (fB : Nat -> Bool) (fS fT : Nat -> ByteArray) : Nat -> Int := fun j => ofP (fB j) (fS j) (fT j)
def gQ (fB : Nat -> Bool) (fS fT : Nat -> ByteArray) : Nat -> Nat := fun j => ofQ (fB j) (fS j) (fT j)
structure Good (S : Nat -> Int) (r : Nat) (ch : Bool) (L : Nat) (fB : Nat -> Bool) (fS fT : Nat -> ByteArray) : Prop where
 le : L <= 250
 rank : r <= 8
 sh : shB S r = true
 cnt : itm S r = (L : Nat)
 short : Short fS fT (nnO ch L)
 of : ofB S r ch (tnO ch L) fB fS fT (nnO ch L) = true
theorem good_of {S : Nat -> Int} {r : Nat} {ch : Bool} {tn : Nat} {fB : Nat -> Bool} {fS fT : Nat -> ByteArray} {nn : Nat} (h : (tn : Int) <= 250 /\ (nn : Int) <= 250 /\ r <= 8 /\ Short fS fT nn /\ ofB S r ch tn fB fS fT nn = true) :
    ∃ L, tn = tnO ch L /\ nn = nnO ch L /\ Good S r ch L fB fS fT := by
 obtain ⟨h1, h2, h3, h4, h5⟩ := h
 obtain ⟨q1, q2, q3, q4, q5⟩ := ofB_true h5
 cases ch with
 | true =>
  obtain rfl := q3 rfl
  exact ⟨tn, rfl, rfl, by omega, h3, q1, q2, h4, h5⟩
 | false =>
  obtain rfl := q4 rfl
  exact ⟨nn, rfl, rfl, by omega, h3, q1, q2, h4, h5⟩
theorem Good.num {S : Nat -> Int} {r : Nat} {ch : Bool} {L : Nat} {fB : Nat -> Bool} {fS fT : Nat -> ByteArray} (h : Good S r ch L fB fS fT) : NumOk fB fS fT (gP fB fS fT) (gQ fB fS fT) (nnO ch L) := ofO_num (ofB_true h.of).2.2.2.2 h.short
theorem Good.small {S : Nat -> Int} {r : Nat} {ch : Bool} {L : Nat} {fB : Nat -> Bool} {fS fT : Nat -> ByteArray} (h : Good S r ch L fB fS fT) : Small ch L (gP fB fS fT) (gQ fB fS fT) := fun e => by
 have := ofO_cmp (ofB_true h.of).2.2.2.2 h.short
 subst e
 exact this
theorem Good.told {S : Nat -> Int} {r : Nat} {ch : Bool} {L : Nat} {fB : Nat -> Bool} {fS fT : Nat -> ByteArray} (h : Good S r ch L fB fS fT) : ∀ j, j < nnO ch L -> rB (gP fB fS fT j) = fB j /\ rS (gP fB fS fT j) = fS j /\ str (dec (gQ fB fS fT j)) = fT j := fun j hj => by
 obtain ⟨e1, e2, e3, _⟩ := h.num j hj
 exact ⟨e1.symm, e2.symm, e3.symm⟩
theorem Good.in64 {S : Nat -> Int} {r : Nat} {ch : Bool} {L : Nat} {fB : Nat -> Bool} {fS fT : Nat -> ByteArray} (h : Good S r ch L fB fS fT) : In64 S r := fun j hj => by
 have h1 := ax_bd (ax_le (show j + 1 <= r by omega) (sh_ax h.sh).2)
 have h2 := rm_pos S j
 have h3 : 1 * max (S j) 1 <= rm S j * max (S j) 1 := Int.mul_le_mul h2 (Int.le_refl _) (by omega) (by omega)
 have h4 : rm S (j + 1) = rm S j * max (S j) 1 := rfl
 have h5 := ax_nn (sh_ax h.sh).2 hj
 omega
theorem of8_any (cs : Array Value) (S : Nat -> Int) (r : Nat) (ch : Bool) (L : Nat) (g : Nat -> Int) (fB : Nat -> Bool) (fS fT : Nat -> ByteArray) (w : World) (h : Pln w cs S r ch L g fB fS fT) (hg : Good S r ch L fB fS fT) :
    Calls Tryz.prog 11 #[.agg cs] w fun e w' => ∃ a, e = .returned (.agg a) /\ Arr w' a S r ch L g (gP fB fS fT) (gQ fB fS fT) /\ Below w.heap.size w w' := by
 have h1 : nnO ch L <= 100000 := by have := hg.le; unfold nnO; split <;> omega
 have h2 : tnO ch L <= 100000 := by have := hg.le; unfold tnO; split <;> omega
 refine (lof_any cs S r ch g (tnO ch L) fB fS fT (nnO ch L) w h hg.in64 hg.short h1 h2 hg.of).mono ?_
 rintro e w' ⟨na, nc, ta, tc, rfl, k1, k2, k3, k4, hb⟩
 refine ⟨_, rfl, ⟨fun e => ?_, fun e => ?_⟩, hb⟩
 · subst e
   obtain ⟨rfl, rfl⟩ := k4 rfl
   exact ⟨ta, tc, rfl, k2⟩
 · subst e
   obtain ⟨rfl, rfl⟩ := k3 rfl
   exact ⟨na, nc, rfl, k1⟩
def OwnI (y0 w : World) (a : Option Addr) (k c : Nat) (f : Nat -> Int) : Prop := Below y0.heap.size y0 w /\ w.ownsRow y0.heap.size 3 1 (.slice a k c) k (kcs .i64 f k)
theorem OwnI.nil (y0 : World) (f : Nat -> Int) : OwnI y0 y0 none 0 0 f := ⟨Below.refl _ _, World.ownsRow_nil _ _ _ _⟩
theorem OwnI.go {y0 w w' : World} {a : Option Addr} {k c : Nat} {f : Nat -> Int} (h : OwnI y0 w a k c f) (hb : Below w.heap.size w w') : OwnI y0 w' a k c f := ⟨h.1.trans (hb.mono h.1.size), own_below h.2 hb⟩
theorem OwnI.krow {y0 w : World} {a : Option Addr} {k c : Nat} {f : Nat -> Int} (h : OwnI y0 w a k c f) : KRow w .i64 a k c f := by
 obtain ⟨a', c', e, q⟩ := KRow.of_own h.2
 cases e
 exact q
theorem app1_step {y0 wr : World} {a : Option Addr} {k c : Nat} {f : Nat -> Int} (h : OwnI y0 wr a k c f) {x : Int} (hx : x = f k) (hk : k + 1 <= 1000000) :
    ∃ a' c' y1, (Builtin.append_ #[22, 22] 22 #[.slice a k c, .slice (some ⟨wr.heap.size, 0, none⟩) 1 1]).run Tryz.prog (wr.alloc (.cells #[.int .i64 x] 3)) = .ok (.slice a' (k + 1) c') y1 /\ OwnI y0 y1 a' (k + 1) c' f := by
 have hb : Below wr.heap.size wr (wr.alloc (.cells #[.int .i64 x] 3)) := (Below.refl _ _).alloc (Nat.le_refl _) _
 have h2 := own_below h.2 hb
 obtain ⟨v', w', e1, e2, e3⟩ := run_append_krow 22 y0.heap.size (.slice a k c) k _ h2 (some ⟨wr.heap.size, 0, none⟩) 1 1 (fun _ => x) (KRow.one' wr .i64 x 3) (fun e => by cases e) hk (by have := h.1.size; rw [World.size_alloc]; omega)
 have e4 : kcs .i64 f k ++ kcs .i64 (fun _ => x) 1 = kcs .i64 f (k + 1) := by rw [hx]; rfl
 rw [e4] at e2
 obtain ⟨a', c', rfl, _⟩ := KRow.of_own e2
 refine ⟨a', c', w', e1, ?_, e2⟩
 refine (h.1.trans (hb.mono h.1.size)).trans ⟨e3.os, e3.tape, e3.output, e3.size, fun j hj => e3.block j (Nat.lt_of_lt_of_le hj (by have := h.1.size; rw [World.size_alloc]; omega)) (fun e => ?_)⟩
 have := (h2.lt j e.symm).1
 omega
theorem nnO_le (ch : Bool) (L : Nat) : nnO ch L <= L /\ tnO ch L <= L := by unfold nnO tnO; cases ch <;> simp
theorem Pln.put {w : World} {cs : Array Value} {S : Nat -> Int} {r : Nat} {ch : Bool} {L : Nat} {g : Nat -> Int} {fB : Nat -> Bool} {fS fT : Nat -> ByteArray} (h : Pln w cs S r ch L g fB fS fT) {k : Nat} {t : TypeId} (hr : Row w k t plZer) (cs' : Array Value) : Pln (w.setRow k cs') cs S r ch L g fB fS fT := PlnAt.away h hr (noInt_pl _ _ _ _ _ _ _ _ _ _) (noStr_pl _ _ _ _ _ _ _ _ _ _) (Far.setRow _ _ _)
def PoTold (E : Int) (S : Nat -> Int) (r : Nat) (ch : Bool) (L : Nat) (g : Nat -> Int) (fB : Nat -> Bool) (fS fT : Nat -> ByteArray) (w w' : World) (e : Ending) : Prop :=
 ∃ cs, e = .returned (.tuple #[.agg cs, .int .i64 E]) /\ (E = 0 -> Pln w' cs S r ch L g fB fS fT) /\ (E ≠ 0 -> cs = plZer) /\ Below w.heap.size w w'
theorem PoTold.no {E : Int} (hE : E ≠ 0) {S : Nat -> Int} {r : Nat} {ch : Bool} {L : Nat} {g : Nat -> Int} {fB : Nat -> Bool} {fS fT : Nat -> ByteArray} {w w' : World} (hb : Below w.heap.size w w') : PoTold E S r ch L g fB fS fT w w' (.returned (.tuple #[.agg plZer, .int .i64 E])) :=
 ⟨plZer, rfl, fun e => absurd e hE, fun _ => rfl, hb⟩
theorem PoTold.yes {S : Nat -> Int} {r : Nat} {ch : Bool} {L : Nat} {g : Nat -> Int} {fB : Nat -> Bool} {fS fT : Nat -> ByteArray} {w w' : World} {cs : Array Value} (h : Pln w' cs S r ch L g fB fS fT) (hb : Below w.heap.size w w') : PoTold 0 S r ch L g fB fS fT w w' (.returned (.tuple #[.agg cs, .int .i64 0])) :=
 ⟨cs, rfl, fun _ => h, fun e => absurd rfl e, hb⟩
theorem Pln.form {w : World} {cs : Array Value} {S : Nat -> Int} {r : Nat} {ch : Bool} {L : Nat} {g : Nat -> Int} {fB : Nat -> Bool} {fS fT : Nat -> ByteArray} (h : Pln w cs S r ch L g fB fS fT) : ∃ sa sc ta tc na nc, cs = plC sa r sc ch ta (tnO ch L) tc na (nnO ch L) nc /\ KRow w .i64 sa r sc S := by
 obtain ⟨sa, sc, ta, tc, na, nc, e, h1, _⟩ := h
 exact ⟨sa, sc, ta, tc, na, nc, e, h1⟩
theorem res_pln2 {fn : Func} {p q : Tmp} {tmps : Array Value} {w : World} {g : Nat} {cs : Array Value} {v : Value} (h : fn.results = #[.cell p 26, .tmp q]) (hp : tmps.getD p undef = .pointer (some ⟨g, 0, none⟩)) (hq : tmps.getD q undef = v) (hg : Row w g 26 cs) (hs : cs.size = 4) :
    (results fn tmps).run Tryz.prog w = .ok (.tuple #[.agg cs, v]) w := by
 have hp' : tmps[p]?.getD undef = .pointer (some ⟨g, 0, none⟩) := by simpa using hp
 have hq' : tmps[q]?.getD undef = v := by simpa using hq
 simp [results, h, hp', hq', asAddr, run_loadVar_row w g 26 26 cs (0, 0) _ hg Tryz.underlying26 rfl (by rw [pln4, hs])]
theorem dgs_bd {S : Nat -> Int} {r j : Nat} (h1 : ∀ a, a < r -> 1 <= S a) (hj : (j : Int) < itm S r) : (∀ a, a < r -> 0 <= dgs S r (j : Nat) a /\ dgs S r (j : Nat) a < S a) /\ plc S (dgs S r (j : Nat)) r = (j : Nat) := by
 obtain ⟨h2, h3⟩ := dgs_in (f := S) (n := r) (r := (j : Nat)) h1 (by omega) hj
 exact ⟨fun a ha => inB_at h2 ha, h3⟩
theorem RRow.congr {w : World} {sa : Option Addr} {n c : Nat} {fP fP' : Nat -> Int} {fQ fQ' : Nat -> Nat} (h : RRow w sa n c fP fQ) (e1 : ∀ j, j < n -> fP j = fP' j) (e2 : ∀ j, j < n -> fQ j = fQ' j) : RRow w sa n c fP' fQ' := by
 refine ⟨h.1, h.2.1, h.2.2.imp id fun ⟨b, off, h1, h2, h3⟩ => ⟨b, off, h1, h2, fun j hj => ?_⟩⟩
 rw [← e1 j hj, ← e2 j hj]
 exact h3 j hj
theorem Arr.on {w : World} {cs : Array Value} {S : Nat -> Int} {r : Nat} {ch : Bool} {L : Nat} {g g' fP fP' : Nat -> Int} {fQ fQ' : Nat -> Nat} (h : Arr w cs S r ch L g fP fQ) (e1 : ∀ j, j < L -> g j = g' j) (e2 : ∀ j, j < L -> fP j = fP' j) (e3 : ∀ j, j < L -> fQ j = fQ' j) : Arr w cs S r ch L g' fP' fQ' := by
 refine ⟨fun e => ?_, fun e => ?_⟩
 · obtain ⟨ta, tc, q, k⟩ := h.1 e
   exact ⟨ta, tc, q, k.congr e1⟩
 · obtain ⟨na, nc, q, k⟩ := h.2 e
   exact ⟨na, nc, q, k.congr e2 e3⟩
theorem dgs_top {f : Nat -> Int} (n : Nat) (r : Int) : dgs f (n + 1) r n = r % f n := by
 show (if n = n then _ else _) = _
 rw [if_pos rfl]
theorem dgs_low {f : Nat -> Int} {n j : Nat} (r : Int) (h : j < n) : dgs f (n + 1) r j = dgs f n (r / f n) j := by
 show (if j = n then _ else _) = _
 rw [if_neg (by omega)]
theorem IBox.drewN {w : World} {g n : Nat} {h : Nat -> Int} (q : IBox w g n h) (m : Nat) : IBox (w.drewN m) g n h := q
end Go.Proofs.YtdlccnmhcggjiaaGreatDoor
namespace Go.Proofs.YtdlccnmhcggjiaaGreatDoor
open Go.RowKit
attribute [local go_sem ↓] Go.wp_at_zero Go.wp_at_succ
theorem MoTold.ok {E : Int} {S : Nat -> Int} {r : Nat} {ch : Bool} {L : Nat} {g fP : Nat -> Int} {fQ : Nat -> Nat} {w w' : World} {e : Ending} (h : MoTold E S r ch L g fP fQ w w' e) (hE : E = 0) : ∃ cs, e = .returned (.tuple #[.agg cs, .int .i64 0]) /\ Arr w' cs S r ch L g fP fQ /\ Below w.heap.size w w' := by
 obtain ⟨cs, he, h1, _, hb⟩ := h
 rw [hE] at he
 exact ⟨cs, he, h1 hE, hb⟩
theorem Bag.fresh {w y : World} (hb : Below w.heap.size w y) : Bag w (fun _ => True) y := ⟨hb, fun _ _ _ _ => trivial, trivial⟩
def PlJ (w : World) (p : Array Value) (l : List Int) (n : Nat) : Prop := ∀ T, Pln w p (fun _ => (n : Int)) 1 false n T (fun j => rB (lt l j)) (fun j => rS (lt l j)) (fun _ => str (dec 1))
theorem PlJ.below {w w' : World} {p : Array Value} {l : List Int} {n : Nat} (h : PlJ w p l n) (hb : Below w.heap.size w w') : PlJ w' p l n := fun T => (h T).below hb
theorem shownJ {w : World} {cs p : Array Value} {S : Nat -> Int} {L : Nat} {g fP : Nat -> Int} {fQ : Nat -> Nat} {l : List Int} (h : Arr w cs S 1 false L g fP fQ) (hp : PlJ w p l L) (hL : L <= 10) (hS : S 0 = (L : Int)) (hP : ∀ j, j < L -> fP j = lt l j /\ fQ j = 1 /\ (fP j).natAbs <= 100) : Shown w cs p := by
 refine ⟨S, 1, false, L, g, fP, fQ, fun _ => (L : Int), g, _, _, _, h, hp g, by omega, by omega, fun _ j hj => ?_, fun j hj => ?_, fun _ _ => rfl, fun j hj => ?_⟩
 · obtain ⟨e1, e2, e3⟩ := hP j hj
   rw [e2]
   refine ⟨by omega, ?_, by decide⟩
   have : (100 : Nat) < 4294967296 ^ 7 := by decide
   omega
 · obtain rfl : j = 0 := by omega
   exact hS
 · obtain ⟨e1, e2, e3⟩ := hP j hj
   rw [e1, e2]
   exact ⟨rfl, rfl, rfl⟩
theorem less3 {p : Nat -> Prop} (h0 : p 0) (h1 : p 1) (h2 : p 2) : ∀ j, j < 3 -> p j
 | 0, _ => h0
 | 1, _ => h1
 | 2, _ => h2
 | n + 3, h => absurd h (by omega)
end Go.Proofs.YtdlccnmhcggjiaaGreatDoor
namespace Go.Proofs.YtdlccnmhcggjiaaGreatDoor
open Go.RowKit
def MoR (w : World) (x : Array Value) (E : Int) (S : Nat -> Int) (r : Nat) (ch : Bool) (L : Nat) (g fP : Nat -> Int) (fQ : Nat -> Nat) : Prop := IsA x /\ (E = 0 -> Arr w x S r ch L g fP fQ) /\ (E ≠ 0 -> x = zerC)
theorem MoR.below {w w' : World} {x : Array Value} {E : Int} {S : Nat -> Int} {r : Nat} {ch : Bool} {L : Nat} {g fP : Nat -> Int} {fQ : Nat -> Nat} (h : MoR w x E S r ch L g fP fQ) (hb : Below w.heap.size w w') : MoR w' x E S r ch L g fP fQ := ⟨h.1, fun e => (h.2.1 e).below hb, h.2.2⟩
theorem MoR.store {w : World} {x : Array Value} {E : Int} {S : Nat -> Int} {r : Nat} {ch : Bool} {L : Nat} {g fP : Nat -> Int} {fQ : Nat -> Nat} (h : MoR w x E S r ch L g fP fQ) {k : Nat} {t : TypeId} {z : Array Value} (hr : Row w k t z) (hz : IsA z) (cs' : Array Value) : MoR (w.setRow k cs') x E S r ch L g fP fQ := ⟨h.1, fun e => (h.2.1 e).store hr hz cs', h.2.2⟩
theorem MoTold.res {E : Int} {S : Nat -> Int} {r : Nat} {ch : Bool} {L : Nat} {g fP : Nat -> Int} {fQ : Nat -> Nat} {w w' : World} {e : Ending} (h : MoTold E S r ch L g fP fQ w w' e) :
    ∃ x, e = .returned (.tuple #[.agg x, .int .i64 E]) /\ MoR w' x E S r ch L g fP fQ /\ Below w.heap.size w w' := by
 obtain ⟨x, he, h1, h2, hb⟩ := h
 refine ⟨x, he, ⟨?_, h1, h2⟩, hb⟩
 by_cases hE : E = 0
 · exact (h1 hE).isA
 · rw [h2 hE]
   exact IsA.zer
def IsP (p : Array Value) : Prop := ∃ sa sn sc ch ta tn tc na nn nc, p = plC sa sn sc ch ta tn tc na nn nc
theorem IsP.size {p : Array Value} (h : IsP p) : p.size = 4 := by
 obtain ⟨_, _, _, _, _, _, _, _, _, _, rfl⟩ := h
 rfl
def PoR (w : World) (p : Array Value) (E : Int) (S : Nat -> Int) (r : Nat) (ch : Bool) (L : Nat) (g : Nat -> Int) (fB : Nat -> Bool) (fS fT : Nat -> ByteArray) : Prop := IsP p /\ (E = 0 -> Pln w p S r ch L g fB fS fT)
theorem PoR.below {w w' : World} {p : Array Value} {E : Int} {S : Nat -> Int} {r : Nat} {ch : Bool} {L : Nat} {g : Nat -> Int} {fB : Nat -> Bool} {fS fT : Nat -> ByteArray} (h : PoR w p E S r ch L g fB fS fT) (hb : Below w.heap.size w w') : PoR w' p E S r ch L g fB fS fT := ⟨h.1, fun e => (h.2 e).below hb⟩
theorem PoTold.res {E : Int} {S : Nat -> Int} {r : Nat} {ch : Bool} {L : Nat} {g : Nat -> Int} {fB : Nat -> Bool} {fS fT : Nat -> ByteArray} {w w' : World} {e : Ending} (h : PoTold E S r ch L g fB fS fT w w' e) :
    ∃ x, e = .returned (.tuple #[.agg x, .int .i64 E]) /\ PoR w' x E S r ch L g fB fS fT /\ Below w.heap.size w w' := by
 obtain ⟨x, he, h1, h2, hb⟩ := h
 refine ⟨x, he, ⟨?_, h1⟩, hb⟩
 by_cases hE : E = 0
 · obtain ⟨_, _, _, _, _, _, e, _⟩ := (h1 hE).form
   exact ⟨_, _, _, _, _, _, _, _, _, _, e⟩
 · rw [h2 hE]
   exact ⟨_, _, _, _, _, _, _, _, _, _, rfl⟩
def ElSame (ch : Bool) (L : Nat) (fP : Nat -> Int) (fQ : Nat -> Nat) (fB : Nat -> Bool) (fS fT : Nat -> ByteArray) : Prop := Small ch L fP fQ /\ ∀ j, j < nnO ch L -> rB (fP j) = fB j /\ rS (fP j) = fS j /\ str (dec (fQ j)) = fT j
end Go.Proofs.YtdlccnmhcggjiaaGreatDoor
namespace Go.Proofs.YtdlccnmhcggjiaaGreatDoor
open Go.RowKit
attribute [local go_sem ↓] Go.wp_at_zero Go.wp_at_succ
theorem lightJ_any (cs : Array Value) (S : Nat -> Int) (r : Nat) (ch : Bool) (g : Nat -> Int) (tn : Nat) (fB : Nat -> Bool) (fS fT : Nat -> ByteArray) (nn : Nat) (w : World) (h : PlnAt w cs S r ch g tn fB fS fT nn) (hS : In64 S r) (hz : ∀ j, j < nn -> (fS j).size <= maxLen /\ (fT j).size <= maxLen) :
    Calls Tryz.prog 8 #[.agg cs] w fun e w' => LightTold 250 S r ch tn fB fS fT nn w w' e := by
 have HP := Lib.hid h
 obtain ⟨sa, sc, ta, tc, na, nc, rfl, _⟩ := h
 have LP := Lib.hid (fun wz h => light_any 250 (plC sa r sc ch ta tn tc na nn nc) S r ch g tn fB fS fT nn wz h hS hz)
 unfold LightTold at LP
 have BB := Lib.hid ((Bag.start w).newRow (plC sa r sc ch ta tn tc na nn nc) 26)
 have HR := Lib.hid BB.out.now.1
 clear hS hz
 unfold plC
 go_enter Tryz.func8, Tryz.ntmps8
 go_wp2_with (refine ld_pln rfl (.tmp 1) rfl w.heap.size rfl HR.out ?_)
 go_at_call 17
 (with_reducible refine (LP.out _ ?_).mono ?_)
 · exact HP.out.below BB.out.below
 rintro e w2 ⟨b, rfl, hb, hb2⟩
 have HE := Lib.hid (BB.out.go hb2).below
 have HB := Lib.hid hb
 clear hb hb2
 go_wp2
 go_ret
 exact ⟨b, rfl, HB.out, HE.out⟩
theorem showsOkJ_any (cs pcs : Array Value) (w : World) (h : Shown w cs pcs) :
    Calls Tryz.prog 13 #[.agg cs, .int .i64 0, .agg pcs, .int .i64 0] w fun e w' => e = .returned (.bool true) /\ Below w.heap.size w w' := by
 obtain ⟨S, r, ch, L, g, fP, fQ, S', g', fB, fS, fT, h1, h2, hr, hL, hs, e1, e2, e3⟩ := h.ex
 have HP := Lib.hid h2
 obtain ⟨na, nn, nc, ta, tn, tc, hcs, _⟩ := h1.form
 subst hcs
 obtain ⟨sa, sc, xa, xc, ya, yc, rfl, _⟩ := h2
 have H := Lib.hid h1
 have PL := Lib.hid (fun wz h => plain8_any (arrC ch ((r : Int) - 1) (dm S r) na nn nc ta tn tc) S r ch L g fP fQ wz hr h hL hs)
 have SM := Lib.hid (fun cs1 wz (q : Pln wz cs1 S r ch L g (fun j => rB (fP j)) (fun j => rS (fP j)) (fun j => str (dec (fQ j)))) (z : Pln wz (plC sa r sc ch xa (tnO ch L) xc ya (nnO ch L) yc) S' r ch L g' fB fS fT) => pl_same (plB_of2 e1 e2 e3) q z)
 have BB := Lib.hid (((Bag.start w).newRow (arrC ch ((r : Int) - 1) (dm S r) na nn nc ta tn tc) 32).newRow (plC sa r sc ch xa (tnO ch L) xc ya (nnO ch L) yc) 26)
 simp only [World.size_alloc] at BB
 clear h h1 hr hL hs e1 e2 e3
 unfold arrC plC
 go_enter Tryz.func13, Tryz.ntmps13
 go_wp2_with fail
 have hWW := BB.out.below
 unfold arrC plC at hWW
 unfold plC at BB
 unfold arrC at BB
 generalize hW : ((w.alloc (.cells _ 32)).alloc (.cells _ 26)) = WW at *
 clear hW hWW
 refine wp_region_inv2 ⟨(fun j => ([[17], [18], [19], [20], [8]] : List (List Nat)).getD j []), (fun j => ([[], [0], [], [0, 1, 2], [0, 1, 2, 3]] : List (List Nat)).getD j []), []⟩ (fun jj vv yy => match jj with | 0 => vv = [some (.agg (arrC ch ((r : Int) - 1) (dm S r) na nn nc ta tn tc))] | 1 => ∃ (x1 : Array Value), vv = [some (.agg x1)] /\ Pln yy x1 S r ch L g (fun j => rB (fP j)) (fun j => rS (fP j)) (fun j => str (dec (fQ j))) | 2 => vv = [some (.agg (plC sa r sc ch xa (tnO ch L) xc ya (nnO ch L) yc))] | 3 => vv = [some (.bool true)] | 4 => vv = [some (.bool true)] | _ => True) (Bag WW (fun _ => True)) (by kernel_rfl) (by kernel_rfl) (by kernel_rfl) (Bag.start WW).drew ?_ ?_ ?_
 · intro jj vv yw yw2 hb h
   match jj, h with
   | 0, h => exact h
   | 1, ⟨x1, e1, g1_0⟩ => exact Exists.intro x1 (And.intro e1 (g1_0.below hb))
   | 2, h => exact h
   | 3, h => exact h
   | 4, h => exact h
   | _ + 5, h => exact h
 · intro ac yw hsz hdf hold hB hp
   have t8 : ac.tmps[8]? = some (.bool true) := (List.cons.inj (hp 4 (by decide))).1
   have HE := Lib.hid (BB.out.go hB.below).below
   clear hold hp
   obtain ⟨TW, hTW⟩ : ∃ TW : Nat -> Value, ∀ i, (ac.tmps[i]?).getD undef = TW i := ⟨_, fun _ => rfl⟩
   have f8 := (hTW 8).symm.trans (congrArg (fun x => Option.getD x undef) t8)
   have hac := act_eq (n := 21) hsz TW hTW
   rw [show ((List.range 21).map TW).toArray = #[TW 0, TW 1, TW 2, TW 3, TW 4, TW 5, TW 6, TW 7, TW 8, TW 9, TW 10, TW 11, TW 12, TW 13, TW 14, TW 15, TW 16, TW 17, TW 18, TW 19, TW 20] from rfl, f8, hdf] at hac
   simp only [Option.getD_some] at hac
   subst hac
   clear hTW f8
   go_wp2
   go_ret
   exact ⟨rfl, HE.out⟩
 refine Stps2.cons (o := _) ?_ ?_
 · intro ac yw hsz hold hB hp K hK
   have t4 : ac.tmps[4]? = some (.pointer (some ⟨w.heap.size, 0, none⟩)) := hold 4 (by kernel_rfl)
   clear hold hp hsz
   rw [if_pos (by rfl)]
   refine ld8 4 rfl (w.heap.size) ((arrC ch ((r : Int) - 1) (dm S r) na nn nc ta tn tc)) t4 ((BB.out.go hB.below).now.2.1) (rfl) ?_
   exact hK.out _ _ ⟨hB, rfl, Nat.le_refl _, .inl (Below.refl _ _), fun h => absurd h (by decide)⟩
 refine Stps2.cons (o := _) ?_ ?_
 · intro ac yw hsz hold hB hp K hK
   have e0 := hp 0 (by decide)
   have t17 : ac.tmps[17]? = some (.agg (arrC ch ((r : Int) - 1) (dm S r) na nn nc ta tn tc)) := (List.cons.inj e0).1
   clear hold hp hsz e0
   go_simp
   (go_at_call 45; (with_reducible refine (PL.out _ (H.out.below (BB.out.go hB.below).below)).mono ?_); rintro e wz ⟨x1, rfl, h1_0, hbz⟩)
   exact hK.out _ _ ⟨hB.go hbz, Exists.intro x1 (And.intro rfl h1_0), hbz.size, .inl hbz, fun h => absurd h (by decide)⟩
 refine Stps2.cons (o := _) ?_ ?_
 · intro ac yw hsz hold hB hp K hK
   have t6 : ac.tmps[6]? = some (.pointer (some ⟨w.heap.size + 1, 0, none⟩)) := hold 6 (by kernel_rfl)
   clear hold hp hsz
   rw [if_pos (by rfl)]
   refine ldP 6 rfl (w.heap.size + 1) ((plC sa r sc ch xa (tnO ch L) xc ya (nnO ch L) yc)) t6 ((BB.out.go hB.below).now.1) (rfl) ?_
   exact hK.out _ _ ⟨hB, rfl, Nat.le_refl _, .inl (Below.refl _ _), fun h => absurd h (by decide)⟩
 refine Stps2.cons (o := _) ?_ ?_
 · intro ac yw hsz hold hB hp K hK
   obtain ⟨x1_1, e1, g1_0⟩ := hp 1 (by decide)
   have t18 : ac.tmps[18]? = some (.agg x1_1) := (List.cons.inj e1).1
   have e2 := hp 2 (by decide)
   have t19 : ac.tmps[19]? = some (.agg (plC sa r sc ch xa (tnO ch L) xc ya (nnO ch L) yc)) := (List.cons.inj e2).1
   clear hold hp hsz e1 e2
   go_simp
   (go_at_call 44; (with_reducible refine (SM.out _ _ g1_0 (HP.out.below (BB.out.go hB.below).below)).mono ?_); rintro e wz ⟨rfl, hbz⟩)
   exact hK.out _ _ ⟨hB.go hbz, rfl, hbz.size, .inl hbz, fun h => absurd h (by decide)⟩
 refine Stps2.cons (o := _) ?_ ?_
 · intro ac yw hsz hold hB hp K hK
   have e3 := hp 3 (by decide)
   have t20 : ac.tmps[20]? = some (.bool true) := (List.cons.inj e3).1
   clear hold hp hsz e3
   go_simp
   exact hK.out _ _ ⟨hB, rfl, Nat.le_refl _, .inl (Below.refl _ _), fun h => absurd h (by decide)⟩
 exact Stps2.nil _
theorem showsNoJ_any (E : Int) (hE : E ≠ 0) (sa : Option Addr) (sn sc : Nat) (ch : Bool) (ta : Option Addr) (tn tc : Nat) (na : Option Addr) (nn nc : Nat) (w : World) :
    Calls Tryz.prog 13 #[.agg zerC, .int .i64 E, .agg (plC sa sn sc ch ta tn tc na nn nc), .int .i64 E] w fun e w' => e = .returned (.bool true) /\ Below w.heap.size w w' := by
 have LZ := Lib.hid (fun wz => lenZ_any wz)
 have BB := Lib.hid (((Bag.start w).newRow zerC 32).newRow (plC sa sn sc ch ta tn tc na nn nc) 26)
 simp only [World.size_alloc] at BB
 have HR := Lib.hid BB.out.now.2.1
 have d1 : (E != E) = false := bne_self_eq_false _
 have d2 : (E != 0) = true := bne_iff_ne.2 hE
 clear hE
 unfold zerC arrC plC
 unfold zerC at LZ
 unfold zerC at HR
 go_enter Tryz.func13, Tryz.ntmps13
 go_wp2_with (refine ld_arr rfl (.tmp 4) rfl w.heap.size rfl HR.out ?_)
 go_at_call 26
 (with_reducible refine (LZ.out _).mono ?_)
 rintro e w2 ⟨rfl, hb2⟩
 have HE := Lib.hid (BB.out.go hb2).below
 clear hb2
 go_wp2
 go_ret
 exact ⟨rfl, HE.out⟩
theorem lightK_any (cs : Array Value) (S : Nat -> Int) (r : Nat) (ch : Bool) (g : Nat -> Int) (tn : Nat) (fB : Nat -> Bool) (fS fT : Nat -> ByteArray) (nn : Nat) (w : World) (h : PlnAt w cs S r ch g tn fB fS fT nn) (hS : In64 S r) (hz : ∀ j, j < nn -> (fS j).size <= maxLen /\ (fT j).size <= maxLen) :
    Calls Tryz.prog 8 #[.agg cs] w fun e w' => ∃ b, e = .returned (.bool b) /\ (b = true -> ∃ L, tn = tnO ch L /\ nn = nnO ch L /\ Good S r ch L fB fS fT) /\ Below w.heap.size w w' :=
 (lightJ_any cs S r ch g tn fB fS fT nn w h hS hz).mono fun _ _ ⟨b, he, hb, hw⟩ => ⟨b, he, fun e => good_of (hb e), hw⟩
theorem showsJ_any (x p : Array Value) (E : Int) (S : Nat -> Int) (r : Nat) (ch : Bool) (L : Nat) (g fP : Nat -> Int) (fQ : Nat -> Nat) (fB : Nat -> Bool) (fS fT : Nat -> ByteArray) (w : World) (h : MoR w x E S r ch L g fP fQ) (hp : PoR w p E S r ch L g fB fS fT) (hr : E = 0 -> r <= 8 /\ L <= 1000000) (he : ElSame ch L fP fQ fB fS fT) :
    Calls Tryz.prog 13 #[.agg x, .int .i64 E, .agg p, .int .i64 E] w fun e w' => e = .returned (.bool true) /\ Below w.heap.size w w' := by
 by_cases hE : E = 0
 · subst hE
   exact showsOkJ_any x p w ⟨S, r, ch, L, g, fP, fQ, S, g, fB, fS, fT, h.2.1 rfl, hp.2 rfl, (hr rfl).1, (hr rfl).2, he.1, fun _ _ => rfl, fun _ _ => rfl, he.2⟩
 · rw [h.2.2 hE]
   obtain ⟨⟨sa, sn, sc, ch, ta, tn, tc, na, nn, nc, rfl⟩, _⟩ := hp
   exact showsNoJ_any E hE _ _ _ _ _ _ _ _ _ _ w
end Go.Proofs.YtdlccnmhcggjiaaGreatDoor
namespace Go.Proofs.YtdlccnmhcggjiaaGreatDoor
open Go.RowKit
theorem ld8G {ops : Array Oper} {rest : List Oper} {o : Oper} {a : Act} {w : World} {Q : Exit -> Act -> World -> Prop} (hw : Region.wanted o (yielded ops a.tmps) = true) (d : Nat) (ho : o.op = .load 32 (.tmp d)) (g : Nat) (cs : Array Value) (hx : a.eval (.tmp d) = .pointer (some ⟨g, 0, none⟩)) (hr : Row w g 32 cs) (hs : cs.size = 12)
    (h : wpList Tryz.prog ops Q rest (a.put o.dst (.agg cs)) w) : wpList Tryz.prog ops Q (o :: rest) a w := by
 show if Region.wanted o (yielded ops a.tmps) = true then _ else _
 rw [if_pos hw]
 exact Or.inl (wp_load_row 32 (.tmp d) ho g hx 32 cs (0, 0) _ hr Tryz.underlying32 rfl (by rw [arr12, hs]) h)
theorem ldPG {ops : Array Oper} {rest : List Oper} {o : Oper} {a : Act} {w : World} {Q : Exit -> Act -> World -> Prop} (hw : Region.wanted o (yielded ops a.tmps) = true) (d : Nat) (ho : o.op = .load 26 (.tmp d)) (g : Nat) (cs : Array Value) (hx : a.eval (.tmp d) = .pointer (some ⟨g, 0, none⟩)) (hr : Row w g 26 cs) (hs : cs.size = 4)
    (h : wpList Tryz.prog ops Q rest (a.put o.dst (.agg cs)) w) : wpList Tryz.prog ops Q (o :: rest) a w := by
 show if Region.wanted o (yielded ops a.tmps) = true then _ else _
 rw [if_pos hw]
 exact Or.inl (wp_load_row 26 (.tmp d) ho g hx 26 cs (0, 0) _ hr Tryz.underlying26 rfl (by rw [pln4, hs]) h)
theorem dm_congr {f f' : Nat -> Int} {n : Nat} (h : ∀ j, j < n -> f j = f' j) : dm f n = dm f' n := by
 funext j
 unfold dm
 split
 · rename_i hj; exact h j hj
 · rfl
theorem Arr.shape {w : World} {cs : Array Value} {S S' : Nat -> Int} {r : Nat} {ch : Bool} {L : Nat} {g fP : Nat -> Int} {fQ : Nat -> Nat} (h : Arr w cs S r ch L g fP fQ) (e : ∀ j, j < r -> S j = S' j) : Arr w cs S' r ch L g fP fQ := by
 refine ⟨fun q => ?_, fun q => ?_⟩
 · obtain ⟨ta, tc, h1, h2⟩ := h.1 q
   exact ⟨ta, tc, by rw [h1, dm_congr e], h2⟩
 · obtain ⟨na, nc, h1, h2⟩ := h.2 q
   exact ⟨na, nc, by rw [h1, dm_congr e], h2⟩
theorem ax_le4 {S : Nat -> Int} {r j : Nat} (h : shB S r = true) (hj : j < r) : 0 <= S j /\ S j <= 4096 := by
 obtain ⟨_, hax⟩ := sh_ax h
 have h1 := ax_bd (ax_le (show j + 1 <= r by omega) hax)
 have h2 := rm_pos S j
 have h3 : 1 * max (S j) 1 <= rm S j * max (S j) 1 := Int.mul_le_mul h2 (Int.le_refl _) (by omega) (by omega)
 have h4 : rm S (j + 1) = rm S j * max (S j) 1 := rfl
 have h5 := ax_nn hax hj
 omega
def wvF {α : Type} (N1 N2 : Nat) (f1 f2 : Nat -> α) (j : Nat) : α := if j % (N1 + N2) < N1 then f1 (j / (N1 + N2) * N1 + j % (N1 + N2)) else f2 (j / (N1 + N2) * N2 + (j % (N1 + N2) - N1))
theorem wv_dm {W i t : Nat} (ht : t < W) : (i * W + t) % W = t /\ (i * W + t) / W = i := by
 constructor
 · rw [Nat.mul_comm, Nat.mul_add_mod]; exact Nat.mod_eq_of_lt ht
 · rw [Nat.mul_comm, Nat.mul_add_div (by omega), Nat.div_eq_of_lt ht, Nat.add_zero]
theorem wv_one {α : Type} {N1 N2 i t : Nat} {f1 f2 : Nat -> α} (ht : t < N1) : wvF N1 N2 f1 f2 (i * (N1 + N2) + t) = f1 (i * N1 + t) := by
 obtain ⟨h1, h2⟩ := wv_dm (W := N1 + N2) (i := i) (t := t) (by omega)
 unfold wvF
 rw [h1, h2, if_pos ht]
theorem wv_two {α : Type} {N1 N2 i t : Nat} {f1 f2 : Nat -> α} (ht : t < N2) : wvF N1 N2 f1 f2 (i * (N1 + N2) + (N1 + t)) = f2 (i * N2 + t) := by
 obtain ⟨h1, h2⟩ := wv_dm (W := N1 + N2) (i := i) (t := N1 + t) (by omega)
 unfold wvF
 rw [h1, h2, if_neg (by omega), Nat.add_sub_cancel_left]
def insF (S : Nat -> Int) (k : Nat) (v : Int) : Nat -> Int := fun j => if j < k then S j else if j = k then v else S (j - 1)
def neB (f s : Nat -> Int) (k : Nat) : Nat -> Bool
 | 0 => true
 | n + 1 => neB f s k n && (decide (n = k) || decide (f n = s n))
theorem neB_iff {f s : Nat -> Int} {k : Nat} : ∀ {n : Nat}, neB f s k n = true ↔ ∀ j, j < n -> j ≠ k -> f j = s j
 | 0 => ⟨fun _ j hj => absurd hj (Nat.not_lt_zero _), fun _ => rfl⟩
 | n + 1 => by
  unfold neB
  rw [Bool.and_eq_true, Bool.or_eq_true, decide_eq_true_eq, decide_eq_true_eq, neB_iff (n := n)]
  constructor
  · rintro ⟨h1, h2⟩ j hj hk
    by_cases e : j = n
    · subst e; exact h2.resolve_left hk
    · exact h1 j (by omega) hk
  · intro h
    refine ⟨fun j hj hk => h j (by omega) hk, ?_⟩
    by_cases e : n = k
    · exact .inl e
    · exact .inr (h n (by omega) e)
theorem ne_ins {S s : Nat -> Int} {k q : Nat} (v : Int) (hk : k < q) : sameB S (outF s k) (q - 1) = neB (insF S k v) s k q := by
 rw [Bool.eq_iff_iff, sameB_iff, neB_iff]
 constructor
 · intro h j hj hjk
   unfold insF
   by_cases e : j < k
   · rw [if_pos e, h j (by omega)]; unfold outF; rw [if_pos e]
   · rw [if_neg e, if_neg hjk, h (j - 1) (by omega)]; unfold outF; rw [if_neg (by omega), show j - 1 + 1 = j by omega]
 · intro h j hj
   unfold outF
   by_cases e : j < k
   · rw [if_pos e]
     have := h j (by omega) (by omega)
     unfold insF at this
     rwa [if_pos e] at this
   · rw [if_neg e]
     have := h (j + 1) (by omega) (by omega)
     unfold insF at this
     rwa [if_neg (by omega), if_neg (by omega), Nat.add_sub_cancel] at this
theorem ne_out {S s : Nat -> Int} {k q : Nat} (hk : k < q) : sameB (outF S k) (outF s k) (q - 1) = neB S s k q := by
 rw [ne_ins 0 hk]
 rw [Bool.eq_iff_iff, neB_iff, neB_iff]
 have e : ∀ j, j ≠ k -> insF (outF S k) k 0 j = S j := fun j hj => by
  unfold insF outF
  by_cases h : j < k
  · rw [if_pos h, if_pos h]
  · rw [if_neg h, if_neg hj, if_neg (by omega), show j - 1 + 1 = j by omega]
 constructor
 · intro h j hj hk; rw [← e j hk]; exact h j hj hk
 · intro h j hj hk; rw [e j hk]; exact h j hj hk
theorem ins_out (s : Nat -> Int) (k : Nat) (v : Int) : insF (outF s k) k v = wiF s (k : Nat) v := by
 funext j
 unfold insF outF wiF
 by_cases h : j < k
 · rw [if_pos h, if_pos h, if_neg (by omega)]
 · rw [if_neg h]
   by_cases e : j = k
   · rw [if_pos e, if_pos (by omega)]
   · rw [if_neg e, if_neg (by omega), if_neg (by omega), show j - 1 + 1 = j by omega]
theorem wi_wi (s : Nat -> Int) (k : Nat) (u v : Int) : wiF (wiF s (k : Nat) u) (k : Nat) v = wiF s (k : Nat) v := by
 funext j
 unfold wiF
 split <;> rfl
theorem wi_at (s : Nat -> Int) (k : Nat) (v : Int) : wiF s (k : Nat) v k = v := by unfold wiF; rw [if_pos rfl]
theorem wi_off {s : Nat -> Int} {k j : Nat} (v : Int) (h : j ≠ k) : wiF s (k : Nat) v j = s j := by unfold wiF; rw [if_neg (by omega)]
theorem ins_at (s : Nat -> Int) (k : Nat) (v : Int) : insF s k v k = v := by unfold insF; rw [if_neg (by omega), if_pos rfl]
theorem sh_congr0 {f f' : Nat -> Int} {n : Nat} (h : ∀ j, j < n -> f j = f' j) : shB f n = shB f' n := by
 have e : ∀ {k : Nat}, (∀ j, j < k -> f j = f' j) -> rm f k = rm f' k /\ axB f k = axB f' k := by
  intro k
  induction k with
  | zero => intro _; exact ⟨rfl, rfl⟩
  | succ k ih =>
   intro hk
   obtain ⟨i1, i2⟩ := ih (fun j hj => hk j (by omega))
   have e2 : rm f (k + 1) = rm f' (k + 1) := by show rm f k * max (f k) 1 = rm f' k * max (f' k) 1; rw [i1, hk k (by omega)]
   refine ⟨e2, ?_⟩
   show (axB f k && (decide (0 <= f k) && decide (rm f (k + 1) <= 4096))) = (axB f' k && (decide (0 <= f' k) && decide (rm f' (k + 1) <= 4096)))
   rw [i2, e2, hk k (by omega)]
 unfold shB
 rw [(e h).2]
theorem ax_iff {f : Nat -> Int} : ∀ {n : Nat}, axB f n = true ↔ (∀ j, j < n -> 0 <= f j) /\ rm f n <= 4096
 | 0 => ⟨fun _ => ⟨fun j hj => absurd hj (Nat.not_lt_zero _), by show (1 : Int) <= 4096; decide⟩, fun _ => rfl⟩
 | n + 1 => by
  constructor
  · intro h
    exact ⟨fun j hj => ax_nn h hj, (ax_bd h).2.1⟩
  · rintro ⟨h1, h2⟩
    have h3 := rm_pos f n
    have h4 : rm f n * 1 <= rm f n * max (f n) 1 := Int.mul_le_mul_of_nonneg_left (by omega) (by omega)
    have h5 : rm f (n + 1) = rm f n * max (f n) 1 := rfl
    have h6 : axB f n = true := ax_iff.2 ⟨fun j hj => h1 j (by omega), by omega⟩
    show (axB f n && (decide (0 <= f n) && decide (rm f (n + 1) <= 4096))) = true
    rw [h6, decide_eq_true (h1 n (by omega)), decide_eq_true h2]; rfl
theorem rm_congr {f f' : Nat -> Int} : ∀ {n : Nat}, (∀ j, j < n -> f j = f' j) -> rm f n = rm f' n
 | 0, _ => rfl
 | n + 1, h => by
  show rm f n * max (f n) 1 = rm f' n * max (f' n) 1
  rw [rm_congr (fun j hj => h j (by omega)), h n (by omega)]
theorem rm_cut {f : Nat -> Int} {n k : Nat} (hk : k < n) : rm f n = rm f k * max (f k) 1 * rm (shf f (k + 1)) (n - (k + 1)) := by
 have := rm_add f (k + 1) (n - (k + 1))
 rw [show k + 1 + (n - (k + 1)) = n by omega] at this
 exact this
theorem itm_cut {f : Nat -> Int} {n k : Nat} (hk : k < n) : itm f n = itm f k * f k * stF f n k := by
 have := itm_add f (k + 1) (n - (k + 1))
 rw [show k + 1 + (n - (k + 1)) = n by omega] at this
 exact this
theorem shf_congr {f f' : Nat -> Int} {n k : Nat} (h : ∀ j, j < n -> j ≠ k -> f j = f' j) (hk : k < n) : (∀ j, j < k -> f j = f' j) /\ ∀ j, j < n - (k + 1) -> shf f (k + 1) j = shf f' (k + 1) j :=
 ⟨fun j hj => h j (by omega) (by omega), fun j hj => h (k + 1 + j) (by omega) (by omega)⟩
theorem ins_parts (S : Nat -> Int) (k : Nat) (v : Int) : (∀ j, j < k -> insF S k v j = S j) /\ ∀ j, shf (insF S k v) (k + 1) j = shf S k j :=
 ⟨fun j hj => by unfold insF; rw [if_pos hj], fun j => by
   show insF S k v (k + 1 + j) = S (k + j)
   unfold insF
   rw [if_neg (by omega), if_neg (by omega), show k + 1 + j - 1 = k + j by omega]⟩
theorem ins_rm {S : Nat -> Int} {k q : Nat} (hk : k <= q) : rm (insF S k 1) (q + 1) = rm S q /\ itm (insF S k 1) (q + 1) = itm S q := by
 obtain ⟨h1, h2⟩ := ins_parts S k 1
 have e1 := rm_cut (f := insF S k 1) (show k < q + 1 by omega)
 have e2 := itm_cut (f := insF S k 1) (show k < q + 1 by omega)
 have e3 := rm_add S k (q - k)
 have e4 := itm_add S k (q - k)
 rw [show k + (q - k) = q by omega] at e3 e4
 have e5 : stF (insF S k 1) (q + 1) k = itm (shf S k) (q - k) := by
  show itm (shf (insF S k 1) (k + 1)) (q + 1 - (k + 1)) = _
  rw [show q + 1 - (k + 1) = q - k by omega]
  exact itm_congr fun j _ => h2 j
 rw [ins_at, rm_congr (f' := S) h1, show q + 1 - (k + 1) = q - k by omega, rm_congr (f' := shf S k) (fun j _ => h2 j), show max (1 : Int) 1 = 1 from rfl, Int.mul_one] at e1
 rw [ins_at, itm_congr (f' := S) h1, Int.mul_one, e5] at e2
 exact ⟨e1.trans e3.symm, e2.trans e4.symm⟩
theorem ins_sh {S : Nat -> Int} {k q : Nat} (hk : k <= q) (h8 : q + 1 <= 8) (h : shB S q = true) : shB (insF S k 1) (q + 1) = true := by
 obtain ⟨_, hax⟩ := sh_ax h
 obtain ⟨h1, h2⟩ := ax_iff.1 hax
 unfold shB
 rw [decide_eq_true h8, Bool.true_and]
 refine ax_iff.2 ⟨fun j hj => ?_, by rw [(ins_rm hk).1]; exact h2⟩
 unfold insF
 split
 · exact h1 j (by omega)
 · split
   · decide
   · exact h1 (j - 1) (by omega)
theorem wi_sh {S : Nat -> Int} {k q : Nat} {v : Int} (hk : k < q) (h : shB S q = true) (h0 : 0 <= v) (hv : v <= max (S k) 1) : shB (wiF S (k : Nat) v) q = true := by
 obtain ⟨h8, hax⟩ := sh_ax h
 obtain ⟨h1, h2⟩ := ax_iff.1 hax
 unfold shB
 rw [decide_eq_true h8, Bool.true_and]
 refine ax_iff.2 ⟨fun j hj => ?_, ?_⟩
 · unfold wiF
   split
   · exact h0
   · exact h1 j hj
 · have e1 := rm_cut (f := wiF S (k : Nat) v) hk
   have e2 := rm_cut (f := S) hk
   obtain ⟨c1, c2⟩ := shf_congr (f := wiF S (k : Nat) v) (f' := S) (fun j _ hj => wi_off v hj) hk
   rw [wi_at, rm_congr c1, rm_congr c2] at e1
   have p1 := rm_pos S k
   have p2 := rm_pos (shf S (k + 1)) (q - (k + 1))
   have h3 : max v 1 <= max (S k) 1 := by omega
   have h4 : rm S k * max v 1 <= rm S k * max (S k) 1 := Int.mul_le_mul_of_nonneg_left h3 (by omega)
   have h5 : rm S k * max v 1 * rm (shf S (k + 1)) (q - (k + 1)) <= rm S k * max (S k) 1 * rm (shf S (k + 1)) (q - (k + 1)) := Int.mul_le_mul_of_nonneg_right h4 (by omega)
   omega
theorem wv_told {T x y : Nat -> Int} {r k j : Nat} {n m : Nat} {N1 N2 : Nat} (hk : k < r) (hT : axB T r = true) (hTk : T k = ((n + m : Nat) : Int)) (hxk : x k = n) (hyk : y k = m) (hx : ∀ a, a < r -> a ≠ k -> x a = T a) (hy : ∀ a, a < r -> a ≠ k -> y a = T a) (hj : (j : Int) < itm T r)
    (hN1 : (N1 : Int) = n * stF T r k) (hN2 : (N2 : Int) = m * stF T r k) :
    0 <= dgs T r (j : Nat) k /\ (∀ a, a < r -> 0 <= dgs T r (j : Nat) a /\ dgs T r (j : Nat) a < T a) /\
    (dgs T r (j : Nat) k < n -> (∀ a, a < r -> 0 <= dgs T r (j : Nat) a /\ dgs T r (j : Nat) a < x a) /\ ∀ {α : Type} (f1 f2 : Nat -> α), wvF N1 N2 f1 f2 j = f1 (plc x (dgs T r (j : Nat)) r).toNat) /\
    (¬ dgs T r (j : Nat) k < n -> (∀ a, a < r -> 0 <= wiF (dgs T r (j : Nat)) (k : Nat) (dgs T r (j : Nat) k - n) a /\ wiF (dgs T r (j : Nat)) (k : Nat) (dgs T r (j : Nat) k - n) a < y a) /\
      ∀ {α : Type} (f1 f2 : Nat -> α), wvF N1 N2 f1 f2 j = f2 (plc y (wiF (dgs T r (j : Nat)) (k : Nat) (dgs T r (j : Nat) k - n)) r).toNat) := by
 obtain ⟨hd, hp⟩ := dgs_bd (itm_pos hT (show (0 : Int) <= (j : Nat) by omega) hj) hj
 generalize dgs T r (j : Nat) = d at *
 have hdk := hd k hk
 obtain ⟨D, hD⟩ : ∃ D : Nat, d k = D := ⟨(d k).toNat, by omega⟩
 have hTp : ∀ a, a < r -> 1 <= T a := fun a ha => by have := hd a ha; omega
 obtain ⟨st, hst⟩ : ∃ s : Nat, stF T r k = s := ⟨(stF T r k).toNat, by have : 1 <= stF T r k := itm_ge (fun a ha => hTp _ (by omega)); omega⟩
 have hst1 : 1 <= st := by have : 1 <= stF T r k := itm_ge (fun a ha => hTp _ (by omega)); omega
 obtain ⟨o, ho⟩ : ∃ o : Nat, plc T d k = o := ⟨(plc T d k).toNat, by have := (plc_lt (f := T) (g := d) (n := k) (fun a ha => hd a (by omega))).1; omega⟩
 have hlb := plc_lt (f := shf T (k + 1)) (g := shf d (k + 1)) (n := r - (k + 1)) (fun a ha => hd (k + 1 + a) (by omega))
 obtain ⟨lo, hlo⟩ : ∃ l : Nat, plc (shf T (k + 1)) (shf d (k + 1)) (r - (k + 1)) = l := ⟨(plc (shf T (k + 1)) (shf d (k + 1)) (r - (k + 1))).toNat, by omega⟩
 have hlt : lo < st := by
  have h2 := hlb.2
  rw [hlo, show itm (shf T (k + 1)) (r - (k + 1)) = stF T r k from rfl, hst] at h2
  omega
 have e := plc_cut (f := T) (g := d) hk
 rw [hp, hTk, hD, hst, ho, hlo] at e
 obtain ⟨c1, c2⟩ := shf_congr hx hk
 obtain ⟨d1, d2⟩ := shf_congr hy hk
 have sx : stF x r k = (st : Int) := (itm_congr c2).trans hst
 have sy : stF y r k = (st : Int) := (itm_congr d2).trans hst
 rw [hst] at hN1 hN2
 have hN1 : N1 = n * st := by exact_mod_cast hN1
 have hN2 : N2 = m * st := by exact_mod_cast hN2
 have e : j = o * (N1 + N2) + (D * st + lo) := by
  have e3 : j = (o * (n + m) + D) * st + lo := by exact_mod_cast e
  rw [e3, hN1, hN2, Nat.add_mul, Nat.mul_assoc, Nat.add_mul, Nat.add_assoc]
 refine ⟨hdk.1, hd, fun h => ?_, fun h => ?_⟩
 · have hb : ∀ a, a < r -> 0 <= d a /\ d a < x a := fun a ha => by
     by_cases ea : a = k
     · subst ea; rw [hxk]; exact ⟨hdk.1, h⟩
     · rw [hx a ha ea]; exact hd a ha
   refine ⟨hb, fun f1 f2 => ?_⟩
   have hDn : D < n := by omega
   have ht : D * st + lo < N1 := by
    have : (D + 1) * st <= n * st := Nat.mul_le_mul_right _ hDn
    rw [Nat.add_mul] at this
    omega
   rw [e, wv_one ht]
   have e2 := plc_cut (f := x) (g := d) hk
   rw [plc_congr (f' := T) (g' := d) (fun a ha => ⟨c1 a ha, rfl⟩), plc_congr (f' := shf T (k + 1)) (g' := shf d (k + 1)) (fun a ha => ⟨c2 a ha, rfl⟩), sx, hxk, hD, ho, hlo] at e2
   have e3 : plc x d r = ((o * N1 + (D * st + lo) : Nat) : Int) := by
    rw [e2, hN1]
    push_cast
    rw [Int.add_mul, Int.mul_assoc, Int.add_assoc]
   rw [e3, Int.toNat_natCast]
 · obtain ⟨E, rfl⟩ : ∃ E, D = n + E := ⟨D - n, by omega⟩
   have hE : E < m := by rw [hTk] at hdk; omega
   have hwk : d k - (n : Int) = (E : Nat) := by omega
   rw [hwk]
   have hb : ∀ a, a < r -> 0 <= wiF d (k : Nat) ((E : Nat) : Int) a /\ wiF d (k : Nat) ((E : Nat) : Int) a < y a := fun a ha => by
    by_cases ea : a = k
    · subst ea; rw [hyk, wi_at]; omega
    · rw [hy a ha ea, wi_off _ ea]; exact hd a ha
   refine ⟨hb, fun f1 f2 => ?_⟩
   have ht : E * st + lo < N2 := by
    have : (E + 1) * st <= m * st := Nat.mul_le_mul_right _ hE
    rw [Nat.add_mul] at this
    omega
   rw [e, show (n + E) * st + lo = N1 + (E * st + lo) by rw [Nat.add_mul, hN1, Nat.add_assoc], wv_two ht]
   have e2 := plc_cut (f := y) (g := wiF d (k : Nat) ((E : Nat) : Int)) hk
   rw [plc_congr (f := y) (f' := T) (g := wiF d (k : Nat) ((E : Nat) : Int)) (g' := d) (n := k) (fun a ha => ⟨d1 a ha, wi_off (s := d) (k := k) (j := a) _ (by omega)⟩), plc_congr (f := shf y (k + 1)) (f' := shf T (k + 1)) (g := shf (wiF d (k : Nat) ((E : Nat) : Int)) (k + 1)) (g' := shf d (k + 1)) (n := r - (k + 1)) (fun a ha => ⟨d2 a ha, wi_off (s := d) (k := k) (j := k + 1 + a) _ (by omega)⟩), sy, hyk, wi_at, ho, hlo] at e2
   have e3 : plc y (wiF d (k : Nat) ((E : Nat) : Int)) r = ((o * N2 + (E * st + lo) : Nat) : Int) := by
    rw [e2, hN2]
    push_cast
    rw [Int.add_mul, Int.mul_assoc, Int.add_assoc]
   rw [e3, Int.toNat_natCast]
theorem wv_len {T x y : Nat -> Int} {r k : Nat} {n m N1 N2 : Nat} (hk : k < r) (hTk : T k = ((n + m : Nat) : Int)) (hxk : x k = n) (hyk : y k = m) (hx : ∀ a, a < r -> a ≠ k -> x a = T a) (hy : ∀ a, a < r -> a ≠ k -> y a = T a) (h0 : ∀ a, a < k -> 0 <= T a)
    (hN1 : (N1 : Int) = n * stF T r k) (hN2 : (N2 : Int) = m * stF T r k) :
    ∃ B : Nat, itm x k = B /\ itm y k = B /\ itm x r = ((B * N1 : Nat) : Int) /\ itm y r = ((B * N2 : Nat) : Int) /\ itm T r = ((B * (N1 + N2) : Nat) : Int) := by
 obtain ⟨c1, c2⟩ := shf_congr hx hk
 obtain ⟨d1, d2⟩ := shf_congr hy hk
 have hp : ∀ {q : Nat}, (∀ a, a < q -> 0 <= T a) -> 0 <= itm T q := by
  intro q
  induction q with
  | zero => intro _; show (0 : Int) <= 1; decide
  | succ q ih => intro h; exact Int.mul_nonneg (ih (fun a ha => h a (by omega))) (h q (by omega))
 obtain ⟨B, hB⟩ : ∃ B : Nat, itm T k = B := ⟨(itm T k).toNat, by have := hp h0; omega⟩
 have sx : stF x r k = stF T r k := itm_congr c2
 have sy : stF y r k = stF T r k := itm_congr d2
 refine ⟨B, (itm_congr c1).trans hB, (itm_congr d1).trans hB, ?_, ?_, ?_⟩
 · rw [itm_cut hk, itm_congr c1, hB, hxk, sx, Int.mul_assoc, ← hN1]; push_cast; rfl
 · rw [itm_cut hk, itm_congr d1, hB, hyk, sy, Int.mul_assoc, ← hN2]; push_cast; rfl
 · rw [itm_cut hk, hB, hTk, Int.mul_assoc]
   push_cast
   rw [Int.add_mul, ← hN1, ← hN2]
def exN (r : Nat) (S : Nat -> Int) (q k : Nat) : Int := if r = q then S k else 1
def exE (r : Nat) (S : Nat -> Int) (q : Nat) (s : Nat -> Int) (k : Nat) : Int :=
 if r = 0 then 0 else if r + 1 = q then (if neB (insF S k 1) s k q then 0 else 24) else if r = q then (if neB S s k q then 0 else 24) else 23
def exG (r : Nat) : Nat -> Int := fun j => if r = 0 then 0 else (j : Int)
def exS (r : Nat) (S : Nat -> Int) (q : Nat) (s : Nat -> Int) (k : Nat) : Nat -> Int := wiF s (k : Nat) (exN r S q k)
theorem exG_in (r M : Nat) (hM : M <= 1000000) : In64 (exG r) M := fun j hj => by unfold exG; split <;> omega
theorem ex_sh {r q k : Nat} {S s : Nat -> Int} (hk : k < q) (hs : shB s q = true) (h : shB S r = true) (hE : exE r S q s k = 0) : shB (exS r S q s k) q = true /\ 0 <= exN r S q k /\ exN r S q k <= 4096 /\ (r ≠ 0 -> itm (exS r S q s k) q = itm S r) := by
 unfold exE at hE
 unfold exS exN
 by_cases h0 : r = 0
 · rw [if_neg (by omega)]
   exact ⟨wi_sh hk hs (by decide) (by omega), by decide, by decide, fun e => absurd h0 e⟩
 · rw [if_neg h0] at hE
   by_cases h1 : r + 1 = q
   · rw [if_neg (by omega)]
     rw [if_pos h1] at hE
     have hn : neB (insF S k 1) s k q = true := by
      cases e : neB (insF S k 1) s k q with
      | true => rfl
      | false => rw [e] at hE; cases hE
     have hi := neB_iff.1 hn
     have e : ∀ j, j < q -> insF S k 1 j = wiF s (k : Nat) 1 j := fun j hj => by
      by_cases e : j = k
      · subst e; rw [ins_at, wi_at]
      · rw [wi_off _ e]; exact hi j hj e
     subst h1
     have h8 := (sh_ax hs).1
     refine ⟨by rw [← sh_congr0 e]; exact ins_sh (by omega) h8 h, by decide, by decide, fun _ => by rw [← itm_congr e]; exact (ins_rm (by omega)).2⟩
   · rw [if_neg h1] at hE
     by_cases h2 : r = q
     · rw [if_pos h2] at hE ⊢
       have hn : neB S s k q = true := by
        cases e : neB S s k q with
        | true => rfl
        | false => rw [e] at hE; cases hE
       have hi := neB_iff.1 hn
       have e : ∀ j, j < q -> S j = wiF s (k : Nat) (S k) j := fun j hj => by
        by_cases e : j = k
        · subst e; rw [wi_at]
        · rw [wi_off _ e]; exact hi j hj e
       subst h2
       have := ax_le4 h hk
       exact ⟨by rw [← sh_congr0 e]; exact h, this.1, this.2, fun _ => (itm_congr e).symm⟩
     · rw [if_neg h2] at hE
       cases hE
theorem KRow.part {w : World} {ki : IntKind} {a : Option Addr} {n c : Nat} {f : Nat -> Int} (h : KRow w ki a n c f) {l m : Nat} (hm : l + m <= n) : KRow w ki (if c = l then a else a.map (·.add (l * 1))) m (c - l) (shf f l) := by
 have h1 := h.1
 have h2 := h.2.1
 rcases Nat.eq_zero_or_pos m with h0 | h0
 · subst h0
   exact ⟨Nat.zero_le _, by omega, .inl rfl⟩
 · rw [if_neg (by omega)]
   rcases h.2.2 with h3 | ⟨b, off, rfl, hb, hc⟩
   · omega
   · refine ⟨by omega, by omega, .inr ⟨b, off + l, by simp [Addr.add], hb, fun j hj => ?_⟩⟩
     rw [show off + l + j = off + (l + j) by omega]
     exact hc (l + j) (by omega)
theorem RRow.part {w : World} {a : Option Addr} {n c : Nat} {fP : Nat -> Int} {fQ : Nat -> Nat} (h : RRow w a n c fP fQ) {l m : Nat} (hm : l + m <= n) : RRow w (if c = l then a else a.map (·.add (l * 3))) m (c - l) (shf fP l) (fun j => fQ (l + j)) := by
 have h1 := h.1
 have h2 := h.2.1
 rcases Nat.eq_zero_or_pos m with h0 | h0
 · subst h0
   exact ⟨Nat.zero_le _, by omega, .inl rfl⟩
 · rw [if_neg (by omega)]
   rcases h.2.2 with h3 | ⟨b, off, rfl, hb, hc⟩
   · omega
   · refine ⟨by omega, by omega, .inr ⟨b, off + l * 3, by simp [Addr.add], hb, fun j hj => ?_⟩⟩
     obtain ⟨a', n', c', m', a2', n2', c2', e1, e2, e3, e4⟩ := hc (l + j) (by omega)
     refine ⟨a', n', c', m', a2', n2', c2', ?_, ?_, ?_, e4⟩
     · rw [show off + l * 3 + j * 3 = off + (l + j) * 3 by omega]; exact e1
     · rw [show off + l * 3 + j * 3 + 1 = off + (l + j) * 3 + 1 by omega]; exact e2
     · rw [show off + l * 3 + j * 3 + 2 = off + (l + j) * 3 + 2 by omega]; exact e3
def OwnC (y0 w : World) (a : Option Addr) (k c : Nat) (f : Nat -> Int) : Prop := Below y0.heap.size y0 w /\ w.ownsRow y0.heap.size 21 1 (.slice a k c) k (kcs .i32 f k)
theorem OwnC.krow {y0 w : World} {a : Option Addr} {k c : Nat} {f : Nat -> Int} (h : OwnC y0 w a k c f) : KRow w .i32 a k c f := by
 obtain ⟨a', c', e, q⟩ := KRow.of_own h.2
 cases e
 exact q
theorem OwnC.go {y0 w w' : World} {a : Option Addr} {k c : Nat} {f : Nat -> Int} (h : OwnC y0 w a k c f) (hb : Below w.heap.size w w') : OwnC y0 w' a k c f := ⟨h.1.trans (hb.mono h.1.size), own_below h.2 hb⟩
theorem append_none1 {P : Program} {w : World} (base : Nat) (t e : TypeId) (i : TypeInfo) (size : Nat) (ht : P.underlying t = some (.slice e)) (hi : P.info? e = some i) (v : Value) (n : Nat) (xs : List Value) (c : Nat) (hown : w.ownsRow base e size v n xs) : (Builtin.append_ #[t, t] t #[v, .slice none 0 c]).run P w = .ok v w := by
 rcases hown.2 with ⟨rfl, rfl⟩ | ⟨g, cap, cur, rfl, _, _, hnc, _⟩
 · simp [Builtin.append_, run_underlying ht, sizeOf, typeInfo, hi, Builtin.lenOf, Builtin.firstCells]
 · simp [Builtin.append_, run_underlying ht, sizeOf, typeInfo, hi, Builtin.lenOf, Builtin.firstCells, hnc, storeCells]
theorem kcs_app1 (ki : IntKind) {F f g : Nat -> Int} {k : Nat} (h1 : ∀ j, j < k -> F j = f j) {m : Nat} (h2 : ∀ j, j < m -> F (k + j) = g j) : kcs ki f k ++ kcs ki g m = kcs ki F (k + m) := by
 rw [← kcs_app]
 refine kcs_congr fun j hj => ?_
 unfold app
 by_cases e : j < k
 · rw [if_pos e, h1 j e]
 · rw [if_neg e, ← h2 (j - k) (by omega)]; congr 1; omega
theorem ownC_more {y0 wr : World} {a a2 : Option Addr} {k c m c2 N : Nat} {f g F : Nat -> Int} (h : OwnC y0 wr a k c f) (h2 : KRow y0 .i32 a2 m c2 g) (hN : k + m = N) (hm : N <= 1000000) (e1 : ∀ j, j < k -> F j = f j) (e2 : ∀ j, j < m -> F (k + j) = g j) :
    ∃ a' c' y1, (Builtin.append_ #[23, 23] 23 #[.slice a k c, .slice a2 m c2]).run Tryz.prog wr = .ok (.slice a' N c') y1 /\ OwnC y0 y1 a' N c' F := by
 obtain ⟨i0, hi, hz0, hz1, hz2⟩ := info_parts infoC
 have hs0 := h.1.size
 have ek := kcs_app1 .i32 e1 e2
 subst hN
 cases a2 with
 | none =>
  have hm : m = 0 := by
   rcases h2.2.2 with h | ⟨_, _, h, _⟩
   · exact h
   · cases h
  subst hm
  have ho := h.2
  rw [show kcs .i32 g 0 = [] from rfl, List.append_nil] at ek
  rw [ek] at ho
  exact ⟨_, _, _, append_none1 y0.heap.size _ 21 i0 1 Tryz.underlying23 hi _ _ _ c2 ho, h.1, ho⟩
 | some ad =>
  obtain ⟨b9, off9, sp⟩ := ad
  have h3 := h2.below h.1
  have hnews : ∀ i u, (kcs .i32 g m)[i]? = some u -> wr.cell? ((⟨b9, off9, sp⟩ : Addr).add i) = some u := by
   rcases h3.2.2 with h0 | ⟨_, _, e, _⟩
   · rw [h0]; intro i u hu; simp [kcs] at hu
   · cases e; exact krow_news h3
  obtain ⟨v', w', r1, r2, r3, _⟩ := run_append_own (P := Tryz.prog) wr y0.heap.size 23 23 21 i0 _ 1 4 Tryz.underlying23 hi hz0 hz1 hz2 rfl (by omega) _ k _ h.2 ⟨b9, off9, sp⟩ m c2 (kcs .i32 g m) (by rw [kcs_length, Nat.mul_one]) hnews (kcs_one .i32 g m) (by unfold maxLen; omega) (by omega) hs0
  rw [ek] at r2
  obtain ⟨a', c', rfl, _⟩ := KRow.of_own r2
  exact ⟨a', c', w', r1, h.1.grown r3 (by omega) (fun q hq => (h.2.lt q hq).1), r2⟩
def OwnR (y0 w : World) (a : Option Addr) (k c : Nat) (fP : Nat -> Int) (fQ : Nat -> Nat) : Prop := Below y0.heap.size y0 w /\ ∃ xs, w.ownsRow y0.heap.size 64 3 (.slice a k c) k xs /\
 ∀ j, j < k -> ∃ a' n' c' m' a2' n2' c2', xs[j * 3]? = some (.slice a' n' c') /\ xs[j * 3 + 1]? = some (.bool m') /\ xs[j * 3 + 2]? = some (.slice a2' n2' c2') /\ RatAt y0 a' n' c' m' a2' n2' c2' (fP j) (fQ j)
theorem OwnR.rrow {y0 w : World} {a : Option Addr} {k c : Nat} {fP : Nat -> Int} {fQ : Nat -> Nat} (h : OwnR y0 w a k c fP fQ) : RRow w a k c fP fQ := by
 obtain ⟨hb, xs, h1, h3⟩ := h
 rcases h1.2 with ⟨e, h0⟩ | ⟨g, cap, cur, e, _, hh, l1, l2, _, _⟩
 · cases e
   exact RRow.nought _ _ _ (Nat.zero_le _) _ _
 · cases e
   refine ⟨l1, l2, .inr ⟨g, 0, rfl, Row.lt (t := 64) hh, fun j hj => ?_⟩⟩
   have hc : ∀ i u, xs[i]? = some u -> w.cell? ⟨g, 0 + i, none⟩ = some u := fun i u hu => by
    have := h1.cells (g := g) rfl i u hu
    rwa [show (⟨g, 0, none⟩ : Addr).add i = ⟨g, 0 + i, none⟩ by unfold Addr.add; split <;> simp_all] at this
   obtain ⟨a', n', c', m', a2', n2', c2', e1, e2, e3, e4⟩ := h3 j hj
   exact ⟨a', n', c', m', a2', n2', c2', hc _ _ e1, by rw [show 0 + j * 3 + 1 = 0 + (j * 3 + 1) by omega]; exact hc _ _ e2, by rw [show 0 + j * 3 + 2 = 0 + (j * 3 + 2) by omega]; exact hc _ _ e3, e4.below hb⟩
theorem ownR_more {y0 wr : World} {a a2 : Option Addr} {k c m c2 N : Nat} {f g F : Nat -> Int} {f' g' F' : Nat -> Nat} (h : OwnR y0 wr a k c f f') (h2 : RRow y0 a2 m c2 g g') (hN : k + m = N) (hm : N <= 1000000) (e1 : ∀ j, j < k -> F j = f j /\ F' j = f' j) (e2 : ∀ j, j < m -> F (k + j) = g j /\ F' (k + j) = g' j) :
    ∃ a' c' y1, (Builtin.append_ #[30, 30] 30 #[.slice a k c, .slice a2 m c2]).run Tryz.prog wr = .ok (.slice a' N c') y1 /\ OwnR y0 y1 a' N c' F F' := by
 obtain ⟨i0, hi, hz0, hz1, hz2⟩ := info_parts infoR
 obtain ⟨hb, xs, ho, hx⟩ := h
 have hs0 := hb.size
 have hex : ∃ news : List Value, news.length = m * 3 /\ (∀ ad, a2 = some ad -> ∀ j u, news[j]? = some u -> wr.cell? (ad.add j) = some u) /\ (∀ u ∈ news, u.oneCell' = true) /\
     ∀ j, j < m -> ∃ a' n' c' m' a2' n2' c2', news[j * 3]? = some (.slice a' n' c') /\ news[j * 3 + 1]? = some (.bool m') /\ news[j * 3 + 2]? = some (.slice a2' n2' c2') /\ RatAt y0 a' n' c' m' a2' n2' c2' (g j) (g' j) := by
  rcases h2.2.2 with h0 | ⟨b, off, he, hbb, hc⟩
  · subst h0
    exact ⟨[], rfl, fun ad _ j u hu => by simp at hu, fun u hu => by simp at hu, fun j hj => by omega⟩
  · have hs : ∀ i, i < m * 3 -> ∃ u, y0.cell? ⟨b, off + i, none⟩ = some u /\ u.oneCell' = true := three (p := fun i => ∃ u, y0.cell? ⟨b, off + i, none⟩ = some u /\ u.oneCell' = true) fun j hj => by
      obtain ⟨a', n', c', m', a2', n2', c2', e1, e2, e3, _⟩ := hc j hj
      exact ⟨⟨_, e1, rfl⟩, ⟨_, e2, rfl⟩, ⟨_, e3, rfl⟩⟩
    have hs' : ∀ i, i < m * 3 -> (y0.cell? ⟨b, off + i, none⟩).isSome = true := fun i hi => by obtain ⟨u, hu, _⟩ := hs i hi; rw [hu]; rfl
    refine ⟨lies y0 b off (m * 3), lies_length _ _ _ _, fun ad e j u hu => ?_, fun u hu => ?_, fun j hj => ?_⟩
    · rw [he] at e
      obtain rfl := Option.some.inj e
      rw [show (⟨b, off, none⟩ : Addr).add j = ⟨b, off + j, none⟩ by simp [Addr.add], hb.cell (p := ⟨b, off + j, none⟩) hbb]
      exact lies_get hu hs'
    · obtain ⟨j, hj⟩ := List.getElem?_of_mem hu
      have hl := (List.getElem?_eq_some_iff.1 hj).1
      rw [lies_length] at hl
      obtain ⟨v, hv, h1⟩ := hs j hl
      have := lies_get hj hs'
      rw [hv] at this
      obtain rfl := Option.some.inj this
      exact h1
    · obtain ⟨a', n', c', m', a2', n2', c2', e1, e2, e3, hr⟩ := hc j hj
      exact ⟨a', n', c', m', a2', n2', c2', lies_at (by omega) e1, lies_at (by omega) e2, lies_at (by omega) e3, hr⟩
 obtain ⟨news, hl, hcell, hone, hrat⟩ := hex
 have hlx := ho.1
 have hall : ∀ j, j < k + m -> ∃ a' n' c' m' a2' n2' c2', (xs ++ news)[j * 3]? = some (.slice a' n' c') /\ (xs ++ news)[j * 3 + 1]? = some (.bool m') /\ (xs ++ news)[j * 3 + 2]? = some (.slice a2' n2' c2') /\ RatAt y0 a' n' c' m' a2' n2' c2' (F j) (F' j) := fun j hj => by
  by_cases e : j < k
  · obtain ⟨a', n', c', m', a2', n2', c2', q1, q2, q3, q4⟩ := hx j e
    rw [(e1 j e).1, (e1 j e).2]
    exact ⟨a', n', c', m', a2', n2', c2', by rw [List.getElem?_append_left (by omega)]; exact q1, by rw [List.getElem?_append_left (by omega)]; exact q2, by rw [List.getElem?_append_left (by omega)]; exact q3, q4⟩
  · obtain ⟨t, rfl⟩ : ∃ t, j = k + t := ⟨j - k, by omega⟩
    have ht : t < m := by omega
    obtain ⟨a', n', c', m', a2', n2', c2', q1, q2, q3, q4⟩ := hrat t ht
    rw [(e2 t ht).1, (e2 t ht).2]
    refine ⟨a', n', c', m', a2', n2', c2', ?_, ?_, ?_, q4⟩
    · rw [List.getElem?_append_right (by omega), show (k + t) * 3 - xs.length = t * 3 by omega]; exact q1
    · rw [List.getElem?_append_right (by omega), show (k + t) * 3 + 1 - xs.length = t * 3 + 1 by omega]; exact q2
    · rw [List.getElem?_append_right (by omega), show (k + t) * 3 + 2 - xs.length = t * 3 + 2 by omega]; exact q3
 subst hN
 cases a2 with
 | none =>
  have hm : m = 0 := by
   rcases h2.2.2 with h | ⟨_, _, h, _⟩
   · exact h
   · cases h
  subst hm
  have hnil : news = [] := List.length_eq_zero_iff.1 (by omega)
  subst hnil
  rw [List.append_nil] at hall
  exact ⟨_, _, _, append_none1 y0.heap.size _ 64 i0 3 Tryz.underlying30 hi _ _ _ c2 ho, hb, xs, ho, hall⟩
 | some ad =>
  obtain ⟨v', w', r1, r2, r3, _⟩ := run_append_own (P := Tryz.prog) wr y0.heap.size 30 30 64 i0 _ 3 56 Tryz.underlying30 hi hz0 hz1 hz2 rfl (by omega) _ k _ ho ad m c2 news hl (hcell ad rfl) hone (by unfold maxLen; omega) (by omega) hs0
  have hv : ∃ a' c', v' = .slice a' (k + m) c' := by
   rcases r2.2 with ⟨rfl, h0⟩ | ⟨g, cap, cur, rfl, _⟩
   · exact ⟨none, 0, by rw [h0]⟩
   · exact ⟨_, _, rfl⟩
  obtain ⟨a', c', rfl⟩ := hv
  exact ⟨a', c', w', r1, hb.grown r3 (by omega) (fun q hq => (ho.lt q hq).1), xs ++ news, r2, hall⟩
theorem runCw_any (a : Option Addr) (L c : Nat) (f : Nat -> Int) (R N i : Nat) (w0 w : World) (h : KRow w0 .i32 a L c f) (hL : L = R * N) (hi : i < R) (hm : L <= 1000000) (hR : R <= 1000000) :
    Calls Tryz.prog 124 #[.slice a L c, .int .i64 (R : Nat), .int .i64 (i : Nat)] w fun e w' => ∃ a' c', e = .returned (.slice a' N c') /\ KRow w0 .i32 a' N c' (shf f (i * N)) /\ w = w' := by
 have hlen := h.len
 have hcm := h.2.1
 unfold maxLen at hcm
 have hm1 : (i + 1) * N <= R * N := Nat.mul_le_mul_right _ hi
 have hm2 : (i + 1) * N = i * N + N := by rw [Nat.add_mul, Nat.one_mul]
 have hN : N <= 1000000 := by
  have : 1 * N <= R * N := Nat.mul_le_mul_right _ (by omega)
  omega
 obtain ⟨X, hX⟩ : ∃ X, i * N = X := ⟨_, rfl⟩
 rw [hX]
 have HP := Lib.hid (KRow.part h (l := X) (m := N) (by omega))
 have HP : Hid (KRow w0 .i32 (if c = X then a else a.map (·.add (X * 1))) N (c - X) (shf f (X))) := HP
 have eX : ((i : Nat) : Int) * ((N : Nat) : Int) = ((X : Nat) : Int) := by rw [← hX]; push_cast; rfl
 have eZ : (((i : Nat) : Int) + 1) * ((N : Nat) : Int) = ((X + N : Nat) : Int) := by rw [show X + N = (i + 1) * N by omega]; push_cast; rfl
 have eD : Int.tdiv ((L : Nat) : Int) ((R : Nat) : Int) = ((N : Nat) : Int) := by
  rw [hL]
  show (((R * N) / R : Nat) : Int) = _
  rw [Nat.mul_div_cancel_left _ (by omega)]
 have eD2 : ((L : Nat) : Int) / ((R : Nat) : Int) = ((N : Nat) : Int) := by
  rw [hL]
  have : ((R * N / R : Nat) : Int) = ((R * N : Nat) : Int) / ((R : Nat) : Int) := by push_cast; rfl
  rw [← this, Nat.mul_div_cancel_left _ (by omega)]
 have n0 : R ≠ 0 := by omega
 have s0 : ((R : Nat) : Int) ≠ 0 := by omega
 have w1 := IntWalk.i64_in ((N : Nat) : Int) (by omega)
 have w2 := IntWalk.i64_in ((X : Nat) : Int) (by omega)
 have w3 := IntWalk.i64_in ((i : Int) + 1) (by omega)
 have w4 := IntWalk.i64_in (((X + N : Nat)) : Int) (by omega)
 have q0 : ((X + N : Nat) : Int).toNat = X + N := rfl
 have q1 : X + N - X = N := by omega
 have d1 : (0 : Int) <= ((X : Nat) : Int) := by omega
 have d2 : ((X : Nat) : Int) <= ((X + N : Nat) : Int) := by omega
 have d3 : ((X + N : Nat) : Int) <= c := by omega
 have d4 : ¬ (((X + N : Nat) : Int) < ((X : Nat) : Int)) := by omega
 have d5 : ¬ ((c : Int) < ((X + N : Nat) : Int)) := by omega
 have HS : ∀ wz, (Instr.slice 23 (.slice a L c) (some (.int .i64 ((X : Nat) : Int))) (some (.int .i64 ((X + N : Nat) : Int))) none).run Tryz.prog wz = .ok (.slice (if c = X then a else a.map (·.add (X * 1))) N (c - X)) wz := fun wz => by
  obtain ⟨i0, hi, hz0, hz1, hz2⟩ := info_parts infoC
  have ht : Tryz.prog.underlying 23 = some (.slice (Tryz.prog.elem 23)) := by kernel_rfl
  rw [run_slice_lh wz 23 a L c ht .i64 .i64 _ _ d1 d2 d3]
  have he : Tryz.prog.elem 23 = 21 := by kernel_rfl
  simp [sizeOf, typeInfo, he, hi, hz1, Result.andThen, sliced] <;> omega
 obtain ⟨A', hA'⟩ : ∃ x, (if c = X then a else a.map (·.add (X * 1))) = x := ⟨_, rfl⟩
 rw [hA'] at HP
 simp only [hA'] at HS
 generalize X + N = XN at *
 clear h hm1 hm2 hN hL hi hX hA' hcm q0 q1
 go_enter Tryz.func124, Tryz.ntmps124
 go_wp2
 go_ret
 exact ⟨_, _, rfl, HP.out, rfl⟩
theorem wovenC_any (a : Option Addr) (L c : Nat) (f : Nat -> Int) (b : Option Addr) (M d : Nat) (g : Nat -> Int) (R N1 N2 : Nat) (w : World) (h : KRow w .i32 a L c f) (h2 : KRow w .i32 b M d g) (hL : L = R * N1) (hM : M = R * N2) (hm : L <= 400000) (hm2 : M <= 400000) (hR : R <= 1000000) :
    Calls Tryz.prog 79 #[.slice a L c, .slice b M d, .int .i64 (R : Nat)] w fun e w' => ∃ a' c', e = .returned (.slice a' (L + M) c') /\ KRow w' .i32 a' (L + M) c' (wvF N1 N2 f g) /\ Below w.heap.size w w' := by
 obtain ⟨LM, hLM⟩ : ∃ x, L + M = x := ⟨_, rfl⟩
 rw [hLM]
 obtain ⟨i0, hi, hz0, hz1, hz2⟩ := info_parts infoC
 have hl1 := h.len
 have hl2 := h2.len
 have hmk := fun wz => run_make (P := Tryz.prog) wz 23 21 i0 _ Tryz.underlying23 hi hz0 .i64 .i64 0 ((LM : Nat) : Int) (by omega) (by omega) (by rw [hz2]; omega) (by omega)
 simp only [Int.toNat_natCast, hz1, Int.toNat_zero, Nat.mul_one] at hmk
 have eLM : ((L : Nat) : Int) + ((M : Nat) : Int) = ((LM : Nat) : Int) := by rw [← hLM]; push_cast; rfl
 have w1 := IntWalk.i64_in ((LM : Nat) : Int) (by omega)
 have hRM : R * (N1 + N2) = LM := by rw [← hLM, Nat.mul_add, hL, hM]
 have hbz : Below w.heap.size w (w.alloc (.cells (madeCells (Value.cells (.int .i32 0)) (LM)) 21)) := (Below.refl _ _).alloc (Nat.le_refl _) _
 have HO : Hid (OwnC w (w.alloc (.cells (madeCells (Value.cells (.int .i32 0)) (LM)) 21)) (some ⟨w.heap.size, 0, none⟩) 0 LM (wvF N1 N2 f g)) := Lib.hid (by
  have ho : (w.alloc (.cells (madeCells (Value.cells (.int .i32 0)) (LM)) 21)).ownsRow w.heap.size 21 1 (.slice (some ⟨w.heap.size, 0, none⟩) 0 LM) 0 [] := ⟨rfl, .inr ⟨w.heap.size, LM, _, rfl, Nat.le_refl _, heap_alloc_new w _, Nat.zero_le _, by unfold maxLen; omega, by simp [madeCells, Value.cells], by simp⟩⟩
  exact ⟨hbz, ho⟩)
 have H1 : Hid (∀ i wz, i < R -> Below w.heap.size w wz -> Calls Tryz.prog 124 #[.slice a L c, .int .i64 (R : Nat), .int .i64 (i : Nat)] wz fun e w' => ∃ a' c', e = .returned (.slice a' N1 c') /\ KRow w .i32 a' N1 c' (shf f (i * N1)) /\ wz = w') := Lib.hid (fun i wz hi _ => runCw_any a L c f R N1 i w wz h hL hi (by omega) hR)
 have H2 : Hid (∀ i wz, i < R -> Below w.heap.size w wz -> Calls Tryz.prog 124 #[.slice b M d, .int .i64 (R : Nat), .int .i64 (i : Nat)] wz fun e w' => ∃ a' c', e = .returned (.slice a' N2 c') /\ KRow w .i32 a' N2 c' (shf g (i * N2)) /\ wz = w') := Lib.hid (fun i wz hi _ => runCw_any b M d g R N2 i w wz h2 hM hi (by omega) hR)
 have HB : Hid (∀ i, i < R -> i * (N1 + N2) + N1 <= 900000 /\ i * (N1 + N2) + N1 + N2 = (i + 1) * (N1 + N2) /\ (i + 1) * (N1 + N2) <= 900000) := Lib.hid (fun i hi => by
  have h1 : (i + 1) * (N1 + N2) <= R * (N1 + N2) := Nat.mul_le_mul_right _ hi
  have h2 : (i + 1) * (N1 + N2) = i * (N1 + N2) + (N1 + N2) := by rw [Nat.add_mul, Nat.one_mul]
  omega)
 clear h h2 hi hz0 hz1 hz2 hbz hL hM hLM
 go_enter Tryz.func79, Tryz.ntmps79
 go_wp2_with fail
 go_loopw [7, 8, 16] (fun s ii jj wr => ∃ (j : Nat) (a : Option Addr) (c : Nat), j <= R /\ s = .slice a (j * (N1 + N2)) c /\ jj = .int .i64 j /\ (∃ v, v = ii) /\ Hid (OwnC w wr a (j * (N1 + N2)) c (wvF N1 N2 f g))) (fun _ _ jj _ => R - (intOf jj).toNat)
 case atStart => exact ⟨0, _, _, by omega, by rw [Nat.zero_mul], rfl, ⟨_, rfl⟩, by rw [Nat.zero_mul]; exact HO⟩
 case round =>
  obtain ⟨j, a', c', hj, rfl, rfl, ⟨v8, rfl⟩, ho⟩ := hrel
  by_cases hlt : j < R
  · have hj0 : (0 : Int) <= j := by omega
    have hj1 : (j : Int) < R := by omega
    obtain ⟨hb1, hb2, hb3⟩ := HB.out j hlt
    have hbo := ho.out.1
    go_wp2_with fail
    go_at_call 124
    (with_reducible refine (H1.out j _ hlt hbo).mono ?_)
    rintro e w5 ⟨a5, c5, rfl, hk5, rfl⟩
    obtain ⟨a6, c6, y6, hr6, ho6⟩ := ownC_more ho.out hk5 (N := j * (N1 + N2) + N1) rfl (by omega) (fun _ _ => rfl) (fun j hj => wv_one hj)
    have HO6 := Lib.hid ho6
    have hbo := ho6.1
    clear ho6 hk5 ho
    go_wp2_with (at_builtin; refine Lib.wpList_append_run _ rfl _ _ _ _ rfl _ _ rfl rfl _ _ hr6 ?_)
    go_at_call 124
    (with_reducible refine (H2.out j _ hlt hbo).mono ?_)
    rintro e w7 ⟨a7, c7, rfl, hk7, rfl⟩
    obtain ⟨a8, c8, y8, hr8, ho8⟩ := ownC_more HO6.out hk7 (N := (j + 1) * (N1 + N2)) hb2 (by omega) (fun _ _ => rfl) (fun j hj => by rw [Nat.add_assoc]; exact wv_two hj)
    have HO8 := Lib.hid ho8
    clear ho8 hk7 HO6 hr6
    go_wp2_with (at_builtin; refine Lib.wpList_append_run _ rfl _ _ _ _ rfl _ _ rfl rfl _ _ hr8 ?_)
    go_roundw
    case rel => exact ⟨j + 1, a8, c8, by omega, rfl, by go_num, ⟨_, rfl⟩, HO8⟩
    case measure => simp [intOf]; omega
  · obtain rfl : j = R := by omega
    rw [hRM] at ho ⊢
    have HE := Lib.hid (And.intro ho.out.krow ho.out.1)
    clear ho
    go_wp2
    go_ret
    exact ⟨_, _, rfl, HE.out⟩
theorem runRw_any (a : Option Addr) (L c : Nat) (f : Nat -> Int) (f2 : Nat -> Nat) (R N i : Nat) (w0 w : World) (h : RRow w0 a L c f f2) (hL : L = R * N) (hi : i < R) (hm : L <= 1000000) (hR : R <= 1000000) :
    Calls Tryz.prog 125 #[.slice a L c, .int .i64 (R : Nat), .int .i64 (i : Nat)] w fun e w' => ∃ a' c', e = .returned (.slice a' N c') /\ RRow w0 a' N c' (shf f (i * N)) (fun j => f2 (i * N + j)) /\ w = w' := by
 have hlen := h.len
 have hcm := h.2.1
 unfold maxLen at hcm
 have hm1 : (i + 1) * N <= R * N := Nat.mul_le_mul_right _ hi
 have hm2 : (i + 1) * N = i * N + N := by rw [Nat.add_mul, Nat.one_mul]
 have hN : N <= 1000000 := by
  have : 1 * N <= R * N := Nat.mul_le_mul_right _ (by omega)
  omega
 obtain ⟨X, hX⟩ : ∃ X, i * N = X := ⟨_, rfl⟩
 rw [hX]
 have HP := Lib.hid (RRow.part h (l := X) (m := N) (by omega))
 have HP : Hid (RRow w0 (if c = X then a else a.map (·.add (X * 3))) N (c - X) (shf f (X)) (fun j => f2 (X + j))) := HP
 have eX : ((i : Nat) : Int) * ((N : Nat) : Int) = ((X : Nat) : Int) := by rw [← hX]; push_cast; rfl
 have eZ : (((i : Nat) : Int) + 1) * ((N : Nat) : Int) = ((X + N : Nat) : Int) := by rw [show X + N = (i + 1) * N by omega]; push_cast; rfl
 have eD : Int.tdiv ((L : Nat) : Int) ((R : Nat) : Int) = ((N : Nat) : Int) := by
  rw [hL]
  show (((R * N) / R : Nat) : Int) = _
  rw [Nat.mul_div_cancel_left _ (by omega)]
 have eD2 : ((L : Nat) : Int) / ((R : Nat) : Int) = ((N : Nat) : Int) := by
  rw [hL]
  have : ((R * N / R : Nat) : Int) = ((R * N : Nat) : Int) / ((R : Nat) : Int) := by push_cast; rfl
  rw [← this, Nat.mul_div_cancel_left _ (by omega)]
 have n0 : R ≠ 0 := by omega
 have s0 : ((R : Nat) : Int) ≠ 0 := by omega
 have w1 := IntWalk.i64_in ((N : Nat) : Int) (by omega)
 have w2 := IntWalk.i64_in ((X : Nat) : Int) (by omega)
 have w3 := IntWalk.i64_in ((i : Int) + 1) (by omega)
 have w4 := IntWalk.i64_in (((X + N : Nat)) : Int) (by omega)
 have q0 : ((X + N : Nat) : Int).toNat = X + N := rfl
 have q1 : X + N - X = N := by omega
 have d1 : (0 : Int) <= ((X : Nat) : Int) := by omega
 have d2 : ((X : Nat) : Int) <= ((X + N : Nat) : Int) := by omega
 have d3 : ((X + N : Nat) : Int) <= c := by omega
 have d4 : ¬ (((X + N : Nat) : Int) < ((X : Nat) : Int)) := by omega
 have d5 : ¬ ((c : Int) < ((X + N : Nat) : Int)) := by omega
 have HS : ∀ wz, (Instr.slice 30 (.slice a L c) (some (.int .i64 ((X : Nat) : Int))) (some (.int .i64 ((X + N : Nat) : Int))) none).run Tryz.prog wz = .ok (.slice (if c = X then a else a.map (·.add (X * 3))) N (c - X)) wz := fun wz => by
  obtain ⟨i0, hi, hz0, hz1, hz2⟩ := info_parts infoR
  have ht : Tryz.prog.underlying 30 = some (.slice (Tryz.prog.elem 30)) := by kernel_rfl
  rw [run_slice_lh wz 30 a L c ht .i64 .i64 _ _ d1 d2 d3]
  have he : Tryz.prog.elem 30 = 64 := by kernel_rfl
  simp [sizeOf, typeInfo, he, hi, hz1, Result.andThen, sliced] <;> omega
 obtain ⟨A', hA'⟩ : ∃ x, (if c = X then a else a.map (·.add (X * 3))) = x := ⟨_, rfl⟩
 rw [hA'] at HP
 simp only [hA'] at HS
 generalize X + N = XN at *
 clear h hm1 hm2 hN hL hi hX hA' hcm q0 q1
 go_enter Tryz.func125, Tryz.ntmps125
 go_wp2
 go_ret
 exact ⟨_, _, rfl, HP.out, rfl⟩
theorem wovenR_any (a : Option Addr) (L c : Nat) (f : Nat -> Int) (f2 : Nat -> Nat) (b : Option Addr) (M d : Nat) (g : Nat -> Int) (g2 : Nat -> Nat) (R N1 N2 : Nat) (w : World) (h : RRow w a L c f f2) (h2 : RRow w b M d g g2) (hL : L = R * N1) (hM : M = R * N2) (hm : L <= 400000) (hm2 : M <= 400000) (hR : R <= 1000000) :
    Calls Tryz.prog 80 #[.slice a L c, .slice b M d, .int .i64 (R : Nat)] w fun e w' => ∃ a' c', e = .returned (.slice a' (L + M) c') /\ RRow w' a' (L + M) c' (wvF N1 N2 f g) (wvF N1 N2 f2 g2) /\ Below w.heap.size w w' := by
 obtain ⟨LM, hLM⟩ : ∃ x, L + M = x := ⟨_, rfl⟩
 rw [hLM]
 obtain ⟨i0, hi, hz0, hz1, hz2⟩ := info_parts infoR
 have hl1 := h.len
 have hl2 := h2.len
 have hmk := fun wz => run_make (P := Tryz.prog) wz 30 64 i0 _ Tryz.underlying30 hi hz0 .i64 .i64 0 ((LM : Nat) : Int) (by omega) (by omega) (by rw [hz2]; omega) (by omega)
 simp only [Int.toNat_natCast, hz1, Int.toNat_zero] at hmk
 have eLM : ((L : Nat) : Int) + ((M : Nat) : Int) = ((LM : Nat) : Int) := by rw [← hLM]; push_cast; rfl
 have w1 := IntWalk.i64_in ((LM : Nat) : Int) (by omega)
 have hRM : R * (N1 + N2) = LM := by rw [← hLM, Nat.mul_add, hL, hM]
 have hbz : Below w.heap.size w (w.alloc (.cells (madeCells (Value.cells (.agg #[.slice none 0 0, .bool false, .slice none 0 0])) (LM * 3)) 64)) := (Below.refl _ _).alloc (Nat.le_refl _) _
 have HO : Hid (OwnR w (w.alloc (.cells (madeCells (Value.cells (.agg #[.slice none 0 0, .bool false, .slice none 0 0])) (LM * 3)) 64)) (some ⟨w.heap.size, 0, none⟩) 0 LM (wvF N1 N2 f g) (wvF N1 N2 f2 g2)) := Lib.hid (by
  have ho : (w.alloc (.cells (madeCells (Value.cells (.agg #[.slice none 0 0, .bool false, .slice none 0 0])) (LM * 3)) 64)).ownsRow w.heap.size 64 3 (.slice (some ⟨w.heap.size, 0, none⟩) 0 LM) 0 [] := ⟨rfl, .inr ⟨w.heap.size, LM, _, rfl, Nat.le_refl _, heap_alloc_new w _, Nat.zero_le _, by unfold maxLen; omega, by simp [madeCells, Value.cells], by simp⟩⟩
  exact ⟨hbz, [], ho, fun _ h => absurd h (Nat.not_lt_zero _)⟩)
 have H1 : Hid (∀ i wz, i < R -> Below w.heap.size w wz -> Calls Tryz.prog 125 #[.slice a L c, .int .i64 (R : Nat), .int .i64 (i : Nat)] wz fun e w' => ∃ a' c', e = .returned (.slice a' N1 c') /\ RRow w a' N1 c' (shf f (i * N1)) (fun j => f2 (i * N1 + j)) /\ wz = w') := Lib.hid (fun i wz hi _ => runRw_any a L c f f2 R N1 i w wz h hL hi (by omega) hR)
 have H2 : Hid (∀ i wz, i < R -> Below w.heap.size w wz -> Calls Tryz.prog 125 #[.slice b M d, .int .i64 (R : Nat), .int .i64 (i : Nat)] wz fun e w' => ∃ a' c', e = .returned (.slice a' N2 c') /\ RRow w a' N2 c' (shf g (i * N2)) (fun j => g2 (i * N2 + j)) /\ wz = w') := Lib.hid (fun i wz hi _ => runRw_any b M d g g2 R N2 i w wz h2 hM hi (by omega) hR)
 have HB : Hid (∀ i, i < R -> i * (N1 + N2) + N1 <= 900000 /\ i * (N1 + N2) + N1 + N2 = (i + 1) * (N1 + N2) /\ (i + 1) * (N1 + N2) <= 900000) := Lib.hid (fun i hi => by
  have h1 : (i + 1) * (N1 + N2) <= R * (N1 + N2) := Nat.mul_le_mul_right _ hi
  have h2 : (i + 1) * (N1 + N2) = i * (N1 + N2) + (N1 + N2) := by rw [Nat.add_mul, Nat.one_mul]
  omega)
 clear h h2 hi hz0 hz1 hz2 hbz hL hM hLM
 go_enter Tryz.func80, Tryz.ntmps80
 go_wp2_with fail
 go_loopw [7, 8, 16] (fun s ii jj wr => ∃ (j : Nat) (a : Option Addr) (c : Nat), j <= R /\ s = .slice a (j * (N1 + N2)) c /\ jj = .int .i64 j /\ (∃ v, v = ii) /\ Hid (OwnR w wr a (j * (N1 + N2)) c (wvF N1 N2 f g) (wvF N1 N2 f2 g2))) (fun _ _ jj _ => R - (intOf jj).toNat)
 case atStart => exact ⟨0, _, _, by omega, by rw [Nat.zero_mul], rfl, ⟨_, rfl⟩, by rw [Nat.zero_mul]; exact HO⟩
 case round =>
  obtain ⟨j, a', c', hj, rfl, rfl, ⟨v8, rfl⟩, ho⟩ := hrel
  by_cases hlt : j < R
  · have hj0 : (0 : Int) <= j := by omega
    have hj1 : (j : Int) < R := by omega
    obtain ⟨hb1, hb2, hb3⟩ := HB.out j hlt
    have hbo := ho.out.1
    go_wp2_with fail
    go_at_call 125
    (with_reducible refine (H1.out j _ hlt hbo).mono ?_)
    rintro e w5 ⟨a5, c5, rfl, hk5, rfl⟩
    obtain ⟨a6, c6, y6, hr6, ho6⟩ := ownR_more ho.out hk5 (N := j * (N1 + N2) + N1) rfl (by omega) (fun _ _ => ⟨rfl, rfl⟩) (fun j hj => ⟨wv_one hj, wv_one hj⟩)
    have HO6 := Lib.hid ho6
    have hbo := ho6.1
    clear ho6 hk5 ho
    go_wp2_with (at_builtin; refine Lib.wpList_append_run _ rfl _ _ _ _ rfl _ _ rfl rfl _ _ hr6 ?_)
    go_at_call 125
    (with_reducible refine (H2.out j _ hlt hbo).mono ?_)
    rintro e w7 ⟨a7, c7, rfl, hk7, rfl⟩
    obtain ⟨a8, c8, y8, hr8, ho8⟩ := ownR_more HO6.out hk7 (N := (j + 1) * (N1 + N2)) hb2 (by omega) (fun _ _ => ⟨rfl, rfl⟩) (fun j hj => by rw [Nat.add_assoc]; exact ⟨wv_two hj, wv_two hj⟩)
    have HO8 := Lib.hid ho8
    clear ho8 hk7 HO6 hr6
    go_wp2_with (at_builtin; refine Lib.wpList_append_run _ rfl _ _ _ _ rfl _ _ rfl rfl _ _ hr8 ?_)
    go_roundw
    case rel => exact ⟨j + 1, a8, c8, by omega, rfl, by go_num, ⟨_, rfl⟩, HO8⟩
    case measure => simp [intOf]; omega
  · obtain rfl : j = R := by omega
    rw [hRM] at ho ⊢
    have HE := Lib.hid (And.intro ho.out.rrow ho.out.1)
    clear ho
    go_wp2
    go_ret
    exact ⟨_, _, rfl, HE.out⟩
end Go.Proofs.YtdlccnmhcggjiaaGreatDoor
