/-
  Texts of this seat, laid together.
-/
import Derived.Laws.StructEq
import Derived.Lib.ItoaNum
import Derived.IntWalk
import Derived.Test.YtpdcdebnkbnogaaGreatDoorShelf
import Derived.BigRegion
import Derived.RegionTactic
import Derived.Deep.RegionWith
import Derived.Deep.RegionHeld3
import Derived.Deep.DrawnRows
import Derived.Laws.BitsLemmas
import Derived.Deep.MidRow
import Derived.Deep.Strs
import Derived.ProofKit
import Derived.OpenShut
import Derived.Test.YtpdcdebnkbnogaaGreatDoorRows
import Derived.Test.YtpdcdebnkbnogaaGreatDoorQ1
import Derived.Test.YtpdcdebnkbnogaaGreatDoorQ2
import Derived.Test.YtpdcdebnkbnogaaGreatDoorQ3
import Derived.Test.YtpdcdebnkbnogaaGreatDoorQ4
import Derived.Test.YtpdcdebnkbnogaaGreatDoorQ5
import Derived.Test.YtpdcdebnkbnogaaGreatDoorQ6
import Derived.Test.YtpdcdebnkbnogaaGreatDoorQ7
import Derived.Test.YtpdcdebnkbnogaaGreatDoorQ8
import Derived.Test.YtpdcdebnkbnogaaGreatDoorQ9
import Derived.Test.YtpdcdebnkbnogaaGreatDoorQ10
import Derived.Test.YtpdcdebnkbnogaaGreatDoorU1
set_option maxHeartbeats 12800000
set_option maxRecDepth 100000
set_option linter.unusedSimpArgs false
set_option linter.unusedVariables false
namespace Go.Proofs.YtpdcdebnkbnogaaGreatDoor
open Go.RowKit
attribute [local go_sem ↓] Go.wp_at_zero Go.wp_at_succ
set_option linter.unusedVariables false
set_option linter.unusedSimpArgs false
def rd13 (b : Bool) (s t : ByteArray) : Bool := decide (s.size <= 40) && (decide (t.size <= 40) && ofO b s t)
theorem size_dl13 (N : Nat) : (str (dec N)).size = dl N := by rw [str_size]; exact sdig_length _ _
theorem ten40 : (10 : Nat) ^ 40 < 4294967296 ^ 7 := by decide
theorem rd13_spec {b : Bool} {s t : ByteArray} (h : rd13 b s t = true) : rB (ofP b s t) = b /\ rS (ofP b s t) = s /\ str (dec (ofQ b s t)) = t /\ 0 < ofQ b s t /\ Nat.gcd (ofP b s t).natAbs (ofQ b s t) = 1 /\ dl (ofP b s t).natAbs <= 40 /\ dl (ofQ b s t) <= 40 /\ (ofP b s t).natAbs < 4294967296 ^ 7 /\ ofQ b s t < 4294967296 ^ 7 := by
 unfold rd13 ofO at h
 rw [Bool.and_eq_true, Bool.and_eq_true, Bool.and_eq_true, decide_eq_true_eq, decide_eq_true_eq, decide_eq_true_eq] at h
 obtain ⟨hs, ht, hk, h1, h2, h3⟩ := h
 unfold ofK at hk
 rw [Bool.and_eq_true, Bool.and_eq_true, Bool.not_eq_true', decide_eq_false_iff_not] at hk
 have hM : 0 < numOf t.data.toList := by omega
 have d1 : dl (ofP b s t).natAbs <= 40 := by have := congrArg ByteArray.size h2; unfold rS at this; rw [size_dl13] at this; omega
 have d2 : dl (ofQ b s t) <= 40 := by have := congrArg ByteArray.size h3; rw [size_dl13] at this; omega
 have lim : ∀ N, dl N <= 40 -> N < 4294967296 ^ 7 := fun N h => Nat.lt_trans (Nat.lt_of_lt_of_le (dl_lt N) (Nat.pow_le_pow_right (by omega) h)) ten40
 exact ⟨h1, h2, h3, loQ_pos _ hM, lo_cop _ hM, d1, d2, lim _ d1, lim _ d2⟩
theorem read13_yes (b : Bool) (s t : ByteArray) (w : World) (h : rd13 b s t = true) :
    Calls Tryz.prog 15 #[.agg #[.bool b, .string s, .string t]] w fun e w' => RatTold3 w w' e (ofP b s t) (ofQ b s t) true := by
 unfold rd13 at h
 rw [Bool.and_eq_true, Bool.and_eq_true, decide_eq_true_eq, decide_eq_true_eq] at h
 have BB := Lib.hid ((Bag.start w).box3 (.bool b) (.string s) (.string t) 46 |>.box3 (.slice none 0 0) (.bool false) (.slice none 0 0) 53)
 simp only [World.size_alloc] at BB
 have RT := Lib.hid (fun wz => r3Right_any b s t wz (by omega) (by omega))
 have OF := Lib.hid (fun wz => of_any' b s t wz (by omega) (by omega))
 rw [h.2.2, if_pos rfl, if_pos rfl] at OF
 rw [h.2.2] at RT
 unfold RatTold3 at OF
 generalize ofP b s t = P at *
 generalize ofQ b s t = Q at *
 have q0 := BB.out.now.2.1.cell
 have q1 := BB.out.now.2.1.cell1
 have q2 := BB.out.now.2.1.cell2
 have l1 : decide ((40 : Int) < s.size) = false := decide_eq_false (by omega)
 have l2 : decide ((40 : Int) < t.size) = false := decide_eq_false (by omega)
 clear h
 go_enter Tryz.func15, Tryz.ntmps15
 go_wp2_with fail
 go_at_call 52
 (with_reducible refine (RT.out _).mono ?_)
 rintro e w2 ⟨rfl, hb2⟩
 have BB := Lib.hid (BB.out.go hb2)
 have q0 := BB.out.now.2.1.cell
 have q1 := BB.out.now.2.1.cell1
 have q2 := BB.out.now.2.1.cell2
 clear hb2
 go_wp2_with fail
 go_at_call 53
 (with_reducible refine (OF.out _).mono ?_)
 rintro e w3 ⟨a3, n3, c3, m3, a4, n4, c4, rfl, hr, hb3⟩
 have BB := Lib.hid (BB.out.go hb3)
 have hs := BB.out.now.1
 have u0 := hs.cell
 have u1 := hs.cell1
 have u2 := hs.cell2
 have g0 := hs.free
 have g1 := hs.free1
 have g2 := hs.free2
 have HS := hs.set (.slice a3 n3 c3) (.bool m3) (.slice a4 n4 c4)
 have HE := Lib.hid (RatTold3.done true BB.out.below (by omega) hs hr)
 clear hs hr hb3
 go_wp2
 exact bodyPost_ret (v := .tuple #[.agg #[.slice a3 n3 c3, .bool m3, .slice a4 n4 c4], .bool true]) (by simp [results, Tryz.results15, go_sem, HS]) rfl HE.out
theorem read13_no (b : Bool) (s t : ByteArray) (w : World) (h : rd13 b s t = false) :
    Calls Tryz.prog 15 #[.agg #[.bool b, .string s, .string t]] w fun e w' => RatTold3 w w' e 0 1 false := by
 have BB := Lib.hid ((Bag.start w).box3 (.bool b) (.string s) (.string t) 46 |>.box3 (.slice none 0 0) (.bool false) (.slice none 0 0) 53)
 simp only [World.size_alloc] at BB
 have q0 := BB.out.now.2.1.cell
 have q1 := BB.out.now.2.1.cell1
 have q2 := BB.out.now.2.1.cell2
 by_cases h1 : s.size <= 40
 · by_cases h2 : t.size <= 40
   · unfold rd13 at h
     rw [decide_eq_true h1, decide_eq_true h2, Bool.true_and, Bool.true_and] at h
     have RT := Lib.hid (fun wz => r3Right_any b s t wz (by omega) (by omega))
     rw [h] at RT
     have l1 : decide ((40 : Int) < s.size) = false := decide_eq_false (by omega)
     have l2 : decide ((40 : Int) < t.size) = false := decide_eq_false (by omega)
     clear h h1 h2
     go_enter Tryz.func15, Tryz.ntmps15
     go_wp2_with fail
     go_at_call 52
     (with_reducible refine (RT.out _).mono ?_)
     rintro e w2 ⟨rfl, hb2⟩
     have BB := Lib.hid (BB.out.go hb2)
     have hs := BB.out.now.1
     have u0 := hs.cell
     have u1 := hs.cell1
     have u2 := hs.cell2
     have g0 := hs.free
     have g1 := hs.free1
     have g2 := hs.free2
     have HS := hs.set (.slice none 0 0) (.bool false) (.slice none 0 0)
     have HE := Lib.hid (RatTold3.done false BB.out.below (by omega) hs (RatAt.zero _))
     clear hs hb2
     go_wp2
     exact bodyPost_ret (v := .tuple #[.agg #[.slice none 0 0, .bool false, .slice none 0 0], .bool false]) (by simp [results, Tryz.results15, go_sem, HS]) rfl HE.out
   · have l1 : decide ((40 : Int) < s.size) = false := decide_eq_false (by omega)
     have l2 : decide ((40 : Int) < t.size) = true := decide_eq_true (by omega)
     have hs := BB.out.now.1
     have u0 := hs.cell
     have u1 := hs.cell1
     have u2 := hs.cell2
     have g0 := hs.free
     have g1 := hs.free1
     have g2 := hs.free2
     clear hs h h1 h2
     go_enter Tryz.func15, Tryz.ntmps15
     go_wp2
     exact bodyPost_ret (v := .tuple #[.agg #[.slice none 0 0, .bool false, .slice none 0 0], .bool false]) (by simp [results, Tryz.results15, go_sem]) rfl ⟨none, 0, 0, false, none, 0, 0, rfl, RatAt.zero _, BB.out.below⟩
 · have l1 : decide ((40 : Int) < s.size) = true := decide_eq_true (by omega)
   have hs := BB.out.now.1
   have u0 := hs.cell
   have u1 := hs.cell1
   have u2 := hs.cell2
   have g0 := hs.free
   have g1 := hs.free1
   have g2 := hs.free2
   clear hs h h1
   go_enter Tryz.func15, Tryz.ntmps15
   go_wp2
   exact bodyPost_ret (v := .tuple #[.agg #[.slice none 0 0, .bool false, .slice none 0 0], .bool false]) (by simp [results, Tryz.results15, go_sem]) rfl ⟨none, 0, 0, false, none, 0, 0, rfl, RatAt.zero _, BB.out.below⟩
end Go.Proofs.YtpdcdebnkbnogaaGreatDoor
namespace Go.Proofs.YtpdcdebnkbnogaaGreatDoor
open Go.RowKit
theorem lim_val {P : Int} {Q : Nat} (h1 : P.natAbs < 4294967296 ^ 64) (h2 : Q < 4294967296 ^ 64) : lim3 64 (P, Q, 0) = (P, Q, 0) := by
 rw [lim3_yes, if_neg]
 unfold limZ
 have := lbs_le32.2 h1
 have := lbs_le32.2 h2
 omega
theorem cmpZ_eq {Z Y : Int} (h : Z = Y) : cmpZ Z Y = 0 := by rw [h]; unfold cmpZ; rw [if_neg (by omega), if_pos rfl]
def KRow (w : World) (ki : IntKind) (a : Option Addr) (n c : Nat) (f : Nat -> Int) : Prop := n <= c /\ c <= maxLen /\ (n = 0 ∨ ∃ b off, a = some ⟨b, off, none⟩ /\ b < w.heap.size /\ ∀ j, j < n -> w.cell? ⟨b, off + j, none⟩ = some (.int ki (f j)))
theorem KRow.below {w w' : World} {ki : IntKind} {a : Option Addr} {n c : Nat} {f : Nat -> Int} (h : KRow w ki a n c f) (hb : Below w.heap.size w w') : KRow w' ki a n c f := by
 obtain ⟨h1, h2, h3⟩ := h
 refine ⟨h1, h2, h3.imp id ?_⟩
 rintro ⟨b, off, rfl, hl, hc⟩
 exact ⟨b, off, rfl, Nat.lt_of_lt_of_le hl hb.size, fun j hj => (hb.cell (p := ⟨b, off + j, none⟩) hl).trans (hc j hj)⟩
theorem KRow.get {w : World} {ki : IntKind} {a : Option Addr} {n c : Nat} {f : Nat -> Int} (h : KRow w ki a n c f) {j : Nat} (hj : j < n) : ∃ b off, a = some ⟨b, off, none⟩ /\ b < w.heap.size /\ w.cell? ⟨b, off + j, none⟩ = some (.int ki (f j)) := by
 rcases h.2.2 with h | ⟨b, off, rfl, hl, hc⟩
 · omega
 · exact ⟨b, off, rfl, hl, hc j hj⟩
theorem KRow.len {w : World} {ki : IntKind} {a : Option Addr} {n c : Nat} {f : Nat -> Int} (h : KRow w ki a n c f) : n <= c /\ n <= 9223372036854775807 := by
 have h1 := h.1
 have h2 := h.2.1
 unfold maxLen at h2
 exact ⟨h1, by omega⟩
def Row (w : World) (g : Nat) (t : TypeId) (cs : Array Value) : Prop := w.heap[g]? = some (.cells cs t (0, 0))
theorem Row.lt {w : World} {g : Nat} {t : TypeId} {cs : Array Value} (h : Row w g t cs) : g < w.heap.size := by
 rcases Nat.lt_or_ge g w.heap.size with h1 | h1
 · exact h1
 · unfold Row at h; rw [Array.getElem?_eq_none h1] at h; cases h
theorem Row.below {w w' : World} {g : Nat} {t : TypeId} {cs : Array Value} (h : Row w g t cs) (hb : Below w.heap.size w w') : Row w' g t cs := (hb.block g h.lt).trans h
theorem Row.new (w : World) (t : TypeId) (cs : Array Value) : Row (w.alloc (.cells cs t)) w.heap.size t cs := heap_new _ _
theorem Row.cell {w : World} {g : Nat} {t : TypeId} {cs : Array Value} (h : Row w g t cs) (i : Nat) : w.cell? ⟨g, i, none⟩ = cs[i]? := cell_of_row w g i cs t (0, 0) h
theorem Row.free {w : World} {g : Nat} {t : TypeId} {cs : Array Value} (h : Row w g t cs) (i : Nat) : w.frozen? ⟨g, i, none⟩ = false := frozen_of_row w g i cs t h
theorem Bag.row {w0 w : World} {P : World -> Prop} {g : Nat} {t : TypeId} {cs : Array Value} (h : Bag w0 P w) (q : Row w g t cs) : Bag w0 (fun y => Row y g t cs /\ P y) w := h.add (fun _ _ hb q => q.below hb) q
theorem Row.put {w : World} {g : Nat} {t : TypeId} {cs : Array Value} (h : Row w g t cs) (cs' : Array Value) : Row (w.setRow g cs') g t cs' := setRow_heap w g cs cs' t (0, 0) h
def twoP (A B : Int) (j : Nat) : Int := if j = 0 then A else B
def twoQ (A B : Nat) (j : Nat) : Nat := if j = 0 then A else B
theorem RatsAt.old2 {wk w : World} {k : Nat} {a : Option Addr} {n c : Nat} {m : Bool} {a2 : Option Addr} {n2 c2 : Nat} {P : Int} {Q : Nat} {d : Option Addr} {i l : Nat} {v : Bool} {d2 : Option Addr} {i2 l2 : Nat} {P' : Int} {Q' : Nat} {t : TypeId}
    (hb : Below (wk.alloc (.cells #[.slice a n c, .bool m, .slice a2 n2 c2, .slice d i l, .bool v, .slice d2 i2 l2] t)).heap.size (wk.alloc (.cells #[.slice a n c, .bool m, .slice a2 n2 c2, .slice d i l, .bool v, .slice d2 i2 l2] t)) w)
    (hk : wk.heap.size = k) (h : RatAt w a n c m a2 n2 c2 P Q) (g : RatAt w d i l v d2 i2 l2 P' Q') : RatsAt w (some ⟨k, 0, none⟩) 2 2 (twoP P P') (twoQ Q Q') := by
 subst hk
 have hl : wk.heap.size < (wk.alloc (.cells #[.slice a n c, .bool m, .slice a2 n2 c2, .slice d i l, .bool v, .slice d2 i2 l2] t)).heap.size := by simp
 refine ⟨Nat.le_refl _, by omega, .inr ⟨_, 0, rfl, Nat.lt_of_lt_of_le hl hb.size, fun j hj => ?_⟩⟩
 rcases (by omega : j = 0 ∨ j = 1) with rfl | rfl
 · exact ⟨a, n, c, m, a2, n2, c2, (hb.cell (p := ⟨wk.heap.size, 0, none⟩) hl).trans (by simp), (hb.cell (p := ⟨wk.heap.size, 1, none⟩) hl).trans (by simp), (hb.cell (p := ⟨wk.heap.size, 2, none⟩) hl).trans (by simp), h⟩
 · exact ⟨d, i, l, v, d2, i2, l2, (hb.cell (p := ⟨wk.heap.size, 3, none⟩) hl).trans (by simp), (hb.cell (p := ⟨wk.heap.size, 4, none⟩) hl).trans (by simp), (hb.cell (p := ⟨wk.heap.size, 5, none⟩) hl).trans (by simp), g⟩
theorem twoT_cmp {c : Int} (h : cmpK c = true) (P : Int) (Q : Nat) (P' : Int) (Q' : Nat) (l : Int) : twoT c P Q P' Q' l = (b1 (cmpB c (cmpZ (P * Q') (P' * Q))), 1, 0) := by
 unfold twoT
 rw [h]
 rfl
theorem twoT_num {c : Int} (h1 : cmpK c = false) (h2 : logK c = false) (h3 : numK c = true) (P : Int) (Q : Nat) (P' : Int) (Q' : Nat) (l : Int) : twoT c P Q P' Q' l = lim3 l (numT c P Q P' Q' l) := by
 unfold twoT
 rw [h1, h2, h3]
 rfl
def Turned (c P : Int) (Q : Nat) (P' : Int) (Q' : Nat) : Prop := ∃ (X : Int) (Y : Nat) (X' : Int) (Y' : Nat), twoT c P Q P' Q' 64 = (X, Y, 0) /\ twoT c P' Q' P Q 64 = (X', Y', 0) /\ cmpZ (X * Y') (X' * Y) = 0 /\ 0 < Y /\ 0 < Y' /\ X.natAbs < 4294967296 ^ 64 /\ Y < 4294967296 ^ 64 /\ X'.natAbs < 4294967296 ^ 64 /\ Y' < 4294967296 ^ 64
theorem turned_same {c P P' X : Int} {Q Q' Y : Nat} (h1 : twoT c P Q P' Q' 64 = (X, Y, 0)) (h2 : twoT c P' Q' P Q 64 = (X, Y, 0)) (hY : 0 < Y) (b1 : X.natAbs < 4294967296 ^ 64) (b2 : Y < 4294967296 ^ 64) : Turned c P Q P' Q' :=
 ⟨X, Y, X, Y, h1, h2, cmpZ_eq rfl, hY, hY, b1, b2, b1, b2⟩
theorem turned_cmp {c P P' : Int} {Q Q' : Nat} (hc : cmpK c = true) (h : cmpB c (cmpZ (P' * Q) (P * Q')) = cmpB c (cmpZ (P * Q') (P' * Q))) : Turned c P Q P' Q' := by
 have e1 := twoT_cmp hc P Q P' Q' 64
 have e2 := twoT_cmp hc P' Q' P Q 64
 rw [h] at e2
 have hb := b1_bd (cmpB c (cmpZ (P * Q') (P' * Q)))
 have h1 : (1 : Nat) < 4294967296 ^ 64 := Nat.one_lt_pow (by omega) (by omega)
 exact turned_same e1 e2 Nat.one_pos (Nat.lt_of_le_of_lt (show _ <= 1 by omega) h1) h1
theorem turned_any {P P' : Int} {Q Q' : Nat} (hQ : 0 < Q) (hQ' : 0 < Q') (h1 : P.natAbs < 4294967296 ^ 7) (h2 : Q < 4294967296 ^ 7) (h3 : P'.natAbs < 4294967296 ^ 7) (h4 : Q' < 4294967296 ^ 7) {c : Int} (hc : c = 43 ∨ c = 215 ∨ c = 8968 ∨ c = 8970 ∨ c = 61 ∨ c = 8800) : Turned c P Q P' Q' := by
 have u : ∀ {N : Nat}, N < 4294967296 ^ 7 -> N < 4294967296 ^ 64 := fun h => lt32_up h (by decide)
 have m1 := mulZ_lt32 h1 h4
 have m2 := mulZ_lt32 h3 h2
 have m3 := mulI_lt32 h1 h3
 have m4 := mul_lt32 h2 h4
 rcases hc with rfl | rfl | rfl | rfl | rfl | rfl
 · have e : plP P' Q' P Q = plP P Q P' Q' /\ plQ P' Q' P Q = plQ P Q P' Q' := by
     unfold plP plQ
     rw [Int.add_comm, Nat.mul_comm Q' Q]
     exact ⟨rfl, rfl⟩
   have hs : (P * (Q' : Int) + P' * (Q : Int)).natAbs < 4294967296 ^ 15 := by
    rw [show 15 = 7 + 7 + 1 from rfl, Nat.pow_succ]
    omega
   have b1 : (plP P Q P' Q').natAbs < 4294967296 ^ 64 := Nat.lt_of_le_of_lt (loP_absle _ _) (lt32_up hs (by decide))
   have b2 : plQ P Q P' Q' < 4294967296 ^ 64 := Nat.lt_of_le_of_lt (loQ_le _ _) (lt32_up m4 (by decide))
   refine turned_same (X := plP P Q P' Q') (Y := plQ P Q P' Q') ?_ ?_ (plQ_pos _ _ hQ hQ') b1 b2
   · rw [twoT_num rfl rfl rfl, numT_43]; exact lim_val b1 b2
   · rw [twoT_num rfl rfl rfl, numT_43, e.1, e.2]; exact lim_val b1 b2
 · have e : tmP P' Q' P Q = tmP P Q P' Q' /\ tmQ P' Q' P Q = tmQ P Q P' Q' := by
     unfold tmP tmQ
     rw [Int.mul_comm P' P, Nat.mul_comm Q' Q]
     exact ⟨rfl, rfl⟩
   have b1 : (tmP P Q P' Q').natAbs < 4294967296 ^ 64 := Nat.lt_of_le_of_lt (loP_absle _ _) (lt32_up m3 (by decide))
   have b2 : tmQ P Q P' Q' < 4294967296 ^ 64 := Nat.lt_of_le_of_lt (loQ_le _ _) (lt32_up m4 (by decide))
   refine turned_same (X := tmP P Q P' Q') (Y := tmQ P Q P' Q') ?_ ?_ (tmQ_pos _ _ hQ hQ') b1 b2
   · rw [twoT_num rfl rfl rfl, numT_215]; exact lim_val b1 b2
   · rw [twoT_num rfl rfl rfl, numT_215, e.1, e.2]; exact lim_val b1 b2
 · have e1 := twoT_num (c := 8968) rfl rfl rfl P Q P' Q' 64
   have e2 := twoT_num (c := 8968) rfl rfl rfl P' Q' P Q 64
   rw [numT_8968] at e1 e2
   rw [cmpZ_turn (P * Q') (P' * Q)] at e2
   by_cases z1 : cmpZ (P * Q') (P' * Q) < 0
   · rw [if_pos z1, lim_val (u h3) (u h4)] at e1
     rw [if_neg (by omega), lim_val (u h3) (u h4)] at e2
     exact turned_same e1 e2 hQ' (u h3) (u h4)
   · rw [if_neg z1, lim_val (u h1) (u h2)] at e1
     by_cases z2 : cmpZ (P * Q') (P' * Q) = 0
     · rw [if_neg (by omega), lim_val (u h3) (u h4)] at e2
       exact ⟨P, Q, P', Q', e1, e2, z2, hQ, hQ', u h1, u h2, u h3, u h4⟩
     · rw [if_pos (by omega), lim_val (u h1) (u h2)] at e2
       exact turned_same e1 e2 hQ (u h1) (u h2)
 · have e1 := twoT_num (c := 8970) rfl rfl rfl P Q P' Q' 64
   have e2 := twoT_num (c := 8970) rfl rfl rfl P' Q' P Q 64
   rw [numT_8970] at e1 e2
   rw [cmpZ_turn (P * Q') (P' * Q)] at e2
   by_cases z1 : 0 < cmpZ (P * Q') (P' * Q)
   · rw [if_pos z1, lim_val (u h3) (u h4)] at e1
     rw [if_neg (by omega), lim_val (u h3) (u h4)] at e2
     exact turned_same e1 e2 hQ' (u h3) (u h4)
   · rw [if_neg z1, lim_val (u h1) (u h2)] at e1
     by_cases z2 : cmpZ (P * Q') (P' * Q) = 0
     · rw [if_neg (by omega), lim_val (u h3) (u h4)] at e2
       exact ⟨P, Q, P', Q', e1, e2, z2, hQ, hQ', u h1, u h2, u h3, u h4⟩
     · rw [if_pos (by omega), lim_val (u h1) (u h2)] at e2
       exact turned_same e1 e2 hQ (u h1) (u h2)
 · refine turned_cmp rfl ?_
   rw [cmpZ_turn (P * Q') (P' * Q)]
   unfold cmpB
   simp
 · refine turned_cmp rfl ?_
   rw [cmpZ_turn (P * Q') (P' * Q)]
   unfold cmpB
   simp
theorem tri_any (P : Int) (Q : Nat) (P' : Int) (Q' : Nat) : ∃ L E A : Int, twoT 60 P Q P' Q' 64 = (L, 1, 0) /\ twoT 62 P' Q' P Q 64 = (L, 1, 0) /\ twoT 61 P Q P' Q' 64 = (E, 1, 0) /\ twoT 62 P Q P' Q' 64 = (A, 1, 0) /\ sumS L 1 (twoP E A) (twoQ 1 1) 2 = (1, 1) /\ sumS L 1 (twoP E A) (twoQ 1 1) 1 = (L + E, 1) /\ (0 <= L /\ L <= 1) /\ (0 <= E /\ E <= 1) /\ (0 <= A /\ A <= 1) := by
 have hc := cmpZ_turn (P * Q') (P' * Q)
 rcases (by omega : cmpZ (P * Q') (P' * Q) < 0 ∨ cmpZ (P * Q') (P' * Q) = 0 ∨ 0 < cmpZ (P * Q') (P' * Q)) with h | h | h
 · refine ⟨1, 0, 0, ?_, ?_, ?_, ?_, by decide +kernel, by decide +kernel, by decide, by decide, by decide⟩
   · rw [twoT_cmp rfl]; unfold cmpB; simp [h, b1]
   · rw [twoT_cmp rfl, hc]; unfold cmpB; simp [b1]; omega
   · rw [twoT_cmp rfl]; unfold cmpB; simp [b1]; omega
   · rw [twoT_cmp rfl]; unfold cmpB; simp [b1]; omega
 · refine ⟨0, 1, 0, ?_, ?_, ?_, ?_, by decide +kernel, by decide +kernel, by decide, by decide, by decide⟩
   · rw [twoT_cmp rfl, h]; rfl
   · rw [twoT_cmp rfl, hc, h]; rfl
   · rw [twoT_cmp rfl, h]; rfl
   · rw [twoT_cmp rfl, h]; rfl
 · refine ⟨0, 0, 1, ?_, ?_, ?_, ?_, by decide +kernel, by decide +kernel, by decide, by decide, by decide⟩
   · rw [twoT_cmp rfl]; unfold cmpB; simp [b1]; omega
   · rw [twoT_cmp rfl, hc]; unfold cmpB; simp [b1]; omega
   · rw [twoT_cmp rfl]; unfold cmpB; simp [b1]; omega
   · rw [twoT_cmp rfl]; unfold cmpB; simp [h, b1]
def sgT (j : Nat) : Int := if j = 0 then 43 else if j = 1 then 215 else if j = 2 then 8968 else if j = 3 then 8970 else if j = 4 then 61 else 8800
theorem sgT_in (j : Nat) : sgT j = 43 ∨ sgT j = 215 ∨ sgT j = 8968 ∨ sgT j = 8970 ∨ sgT j = 61 ∨ sgT j = 8800 := by
 unfold sgT
 repeat' split
 all_goals simp
abbrev sgV : Array Value := #[.int .i32 43, .int .i32 215, .int .i32 8968, .int .i32 8970, .int .i32 61, .int .i32 8800]
theorem sgT_cell {y : World} {k : Nat} {t : TypeId} (h : Row y k t sgV) {j : Nat} (hj : j < 6) : y.cell? ⟨k, j, none⟩ = some (.int .i32 (sgT j)) := by
 rcases (by omega : j = 0 ∨ j = 1 ∨ j = 2 ∨ j = 3 ∨ j = 4 ∨ j = 5) with rfl | rfl | rfl | rfl | rfl | rfl <;> exact h.cell _
end Go.Proofs.YtpdcdebnkbnogaaGreatDoor
namespace Go.Proofs.YtpdcdebnkbnogaaGreatDoor
open Go.ChangeShapes Go.WideShapes Go.ChangeAt Go.RowKit Go.WideMaps Go.WideElems Go.Deep
theorem cellsNum : Tryz.prog.cellsOf 46 = 3 := by kernel_rfl
theorem cellsBool : Tryz.prog.cellsOf 4 = 1 := by kernel_rfl
theorem cellsStr : Tryz.prog.cellsOf 9 = 1 := by kernel_rfl
theorem open_num {H : Type} {enc : TypeId × Value -> H} {W : World} {r : Reach} {b0 : Nat} {sp : Nat -> Bool} {v0 : Value} {d0 : DataW H} {p0 : List MemPlace}
    (hv : Value.okWide Tryz.prog W r b0 46 v0) (h0 : DataW.Trod enc Tryz.prog W 0 sp true 46 v0 d0 p0) :
    ∃ (b : Bool) (s t : ByteArray), v0 = .agg #[.bool b, .string s, .string t] /\ d0 = .agg [.lit (.bool b), .lit (.string s.data.toList), .lit (.string t.data.toList)] /\ p0 = [] /\ s.size <= maxLen /\ t.size <= maxLen := by
 obtain ⟨cs, rfl, hsz⟩ := okWide_struct Tryz.underlying46 hv
 rw [cellsNum] at hsz
 obtain ⟨l⟩ := cs
 match l, hsz with
 | [c0, c1, c2], _ =>
 obtain ⟨fuel, hf⟩ := h0
 obtain ⟨y0, y1, y2, m, hx, _, hy0, hy1, hy2⟩ := trod_struct3 Tryz.underlying46 hf
 obtain ⟨b, e0, rfl⟩ := DataW.trod_bool Tryz.underlying4 hy0
 obtain ⟨s, e1, rfl, hs⟩ := DataW.trod_string Tryz.underlying9 hy1
 obtain ⟨t, e2, rfl, ht⟩ := DataW.trod_string Tryz.underlying9 hy2
 simp [Value.cells, cellsBool] at e0
 simp [Value.cells, cellsStr] at e1 e2
 subst e0 e1 e2
 simp only [Prod.mk.injEq] at hx
 obtain ⟨rfl, rfl⟩ := hx
 exact ⟨b, s, t, rfl, rfl, rfl, hs, ht⟩
theorem shut_num {H : Type} {enc : TypeId × Value -> H} {W : World} {sp : Nat -> Bool} {b : Bool} {s t : ByteArray} (hs : s.size <= maxLen) (ht : t.size <= maxLen) :
    DataW.Trod enc Tryz.prog W 0 sp true 46 (.agg #[.bool b, .string s, .string t]) (.agg [.lit (.bool b), .lit (.string s.data.toList), .lit (.string t.data.toList)]) [] :=
 ⟨2, by
   have f0 : DataW.trod enc Tryz.prog W 0 sp true 1 4 [.bool b] = some (.lit (.bool b), []) := by simp [DataW.trod, Tryz.underlying4]
   have f1 : DataW.trod enc Tryz.prog W 0 sp true 1 9 [.string s] = some (.lit (.string s.data.toList), []) := by simp [DataW.trod, Tryz.underlying9, hs]
   have f2 : DataW.trod enc Tryz.prog W 0 sp true 1 9 [.string t] = some (.lit (.string t.data.toList), []) := by simp [DataW.trod, Tryz.underlying9, ht]
   have := trod_struct3_mk (enc := enc) (w := W) (base := 0) (spare := sp) (held := true) (n := 1) (cs := [.bool b, .string s, .string t]) Tryz.underlying46 (by simp [cellsNum]) (by simpa [cellsBool] using f0) (by simpa [cellsStr] using f1) (by simpa [cellsStr] using f2)
   simpa [Value.cells] using this⟩
end Go.Proofs.YtpdcdebnkbnogaaGreatDoor
