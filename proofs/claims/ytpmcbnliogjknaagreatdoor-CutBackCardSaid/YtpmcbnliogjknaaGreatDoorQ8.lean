/-
  Texts of this seat, laid together.
-/
import Derived.StillTailTactics
import Derived.Laws.OwnMore
import Derived.Deep.RegionHeld3
import Derived.Test.YtpmcbnliogjknaaGreatDoorQ1
import Derived.Test.YtpmcbnliogjknaaGreatDoorQ2
import Derived.Test.YtpmcbnliogjknaaGreatDoorQ3
import Derived.Test.YtpmcbnliogjknaaGreatDoorQ4
import Derived.Test.YtpmcbnliogjknaaGreatDoorQ5
import Derived.Test.YtpmcbnliogjknaaGreatDoorQ6
import Derived.Test.YtpmcbnliogjknaaGreatDoorQ7

namespace Go.Proofs.YtpmcbnliogjknaaGreatDoor
open Go.RowKit
set_option maxHeartbeats 1600000 in
set_option maxRecDepth 100000 in
theorem cutList_any (cs : Array Value) (S : Nat → Int) (r : Nat) (ch : Bool) (L : Nat) (g fP : Nat → Int) (fQ : Nat → Nat) (w : World) (h : Arr w cs S r ch L g fP fQ) (hr : r ≤ 8) (hQ : ch = false → ∀ j, j < L → 0 < fQ j) (hL : L ≤ 1000000) :
    Calls Tryz.prog 43 #[.agg cs] w fun e w' => LiNew (liE r (whC ch L fP fQ)) L fP w w' e := by
  obtain ⟨na, nn, nc, ta, tn, tc, hcs, _⟩ := h.form
  subst hcs
  have H := Lib.hid h
  have RK := Lib.hid (fun wz h => rank8_any (arrC ch ((r : Int) - 1) (dm S r) na nn nc ta tn tc) S r ch L g fP fQ wz h (by omega))
  have WH := Lib.hid (fun wz h => whole8_new (arrC ch ((r : Int) - 1) (dm S r) na nn nc ta tn tc) S r ch L g fP fQ wz h hQ hL)
  have BB := Lib.hid ((Bag.start w).newRow (arrC ch ((r : Int) - 1) (dm S r) na nn nc ta tn tc) 32)
  have HR1 := Lib.hid BB.out.now.1
  generalize hb : whC ch L fP fQ = b at *
  unfold WhNew at WH
  clear h hQ hb
  unfold arrC
  by_cases h1 : 1 < r
  · have d1 : (1 : Int) < (r : Int) := by omega
    have hE : liE r b = 23 := by unfold liE; rw [if_pos h1]
    rw [hE]
    clear h1 hE
    go_enter Tryz.func43, Tryz.ntmps43
    go_wp2_with (refine ld_arr rfl (.tmp 1) rfl w.heap.size rfl HR1.out ?_)
    go_at_call 18
    (with_reducible refine (WH.out _ ?_).mono ?_)
    · exact H.out.below BB.out.below
    rintro e w2 ⟨a, m, c, rfl, hk, hb2⟩
    have BB := Lib.hid (BB.out.go hb2)
    have HR2 := Lib.hid BB.out.now.1
    clear hb2 hk
    go_wp2_with (refine ld_arr rfl (.tmp 1) rfl w.heap.size rfl HR2.out ?_)
    go_at_call 44
    (with_reducible refine (RK.out _ ?_).mono ?_)
    · exact H.out.below BB.out.below
    rintro e w3 ⟨rfl, hb3⟩
    have HE := Lib.hid (BB.out.go hb3).below
    clear hb3
    go_wp2
    exact bodyPost_ret (v := .tuple #[.slice none 0 0, .int .i64 23]) (by simp [results, Tryz.results43, go_sem]) rfl ⟨none, 0, 0, rfl, fun e => (by cases e), HE.out⟩
  · have d1 : ¬ ((1 : Int) < (r : Int)) := by omega
    have hE : liE r b = if b then 0 else 22 := by unfold liE; rw [if_neg h1]
    rw [hE]
    clear h1 hE
    go_enter Tryz.func43, Tryz.ntmps43
    go_wp2_with (refine ld_arr rfl (.tmp 1) rfl w.heap.size rfl HR1.out ?_)
    go_at_call 18
    (with_reducible refine (WH.out _ ?_).mono ?_)
    · exact H.out.below BB.out.below
    have HSZ := Lib.hid BB.out.below.size
    rintro e w2 ⟨a, m, c, rfl, hk, hb2⟩
    have BB := Lib.hid (BB.out.go hb2)
    have HR2 := Lib.hid BB.out.now.1
    have HK := Lib.hid hk
    clear hb2 hk
    go_wp2_with (refine ld_arr rfl (.tmp 1) rfl w.heap.size rfl HR2.out ?_)
    go_at_call 44
    (with_reducible refine (RK.out _ ?_).mono ?_)
    · exact H.out.below BB.out.below
    rintro e w3 ⟨rfl, hb3⟩
    have HE := Lib.hid (BB.out.go hb3).below
    have HB3 := Lib.hid hb3
    clear hb3
    cases b with
    | false =>
      go_wp2
      exact bodyPost_ret (v := .tuple #[.slice none 0 0, .int .i64 22]) (by simp [results, Tryz.results43, go_sem]) rfl ⟨none, 0, 0, rfl, fun e => (by cases e), HE.out⟩
    | true =>
      have HK2 : Hid (m = L ∧ KRow w3 .i64 a L c fP ∧ (L = 0 ∨ ∀ x, a = some x → w.heap.size ≤ x.block)) := Lib.hid ⟨HK.out.1, HK.out.2.1.below HB3.out, HK.out.2.2.imp id (fun h x hx => Nat.le_trans HSZ.out (h x hx))⟩
      go_wp2
      exact bodyPost_ret (v := .tuple #[.slice a m c, .int .i64 0]) (by simp [results, Tryz.results43, go_sem]) rfl ⟨a, m, c, rfl, fun _ => HK2.out, HE.out⟩
set_option maxHeartbeats 1600000 in
set_option maxRecDepth 100000 in
theorem crun_any (x : Int) (M : Nat) (w : World) (hM : M ≤ 1000000) (hx : -1000000000 ≤ x ∧ x ≤ 1000000000) :
    Calls Tryz.prog 50 #[.int .i64 x, .int .i64 M] w fun e w' => e = .returned (.slice (some ⟨w.heap.size, 0, none⟩) M M) ∧ KRow w' .i64 (some ⟨w.heap.size, 0, none⟩) M M (fun j => x + (j : Int)) ∧ Below w.heap.size w w' := by
  obtain ⟨i0, hi, hz0, hz1, hz2⟩ := info_parts infoI
  have hmk := fun wz => run_make (P := Tryz.prog) wz 22 3 i0 _ Tryz.underlying22 hi hz0 .i64 .i64 M M (by omega) (by omega) (by rw [hz2]; omega) (by omega)
  simp only [Int.toNat_natCast, hz1, Nat.mul_one] at hmk
  have H0 : Hid (Below w.heap.size w (w.alloc (.cells (madeCells (Value.cells (.int .i64 0)) M) 3)) ∧ KTo (w.alloc (.cells (madeCells (Value.cells (.int .i64 0)) M) 3)) w.heap.size M 0 (fun j => x + (j : Int))) :=
    Lib.hid ⟨(Below.refl _ _).alloc (Nat.le_refl _) _, KTo.made w M 3 _ rfl⟩
  have hMn : (0 : Int) ≤ M := by omega
  clear hi hz0 hz1 hz2
  go_enter Tryz.func50, Tryz.ntmps50
  go_wp2_with fail
  go_loopw [11] (fun i wr => ∃ k : Nat, k ≤ M ∧ i = .int .i64 k ∧ Hid (Below w.heap.size w wr ∧ KTo wr w.heap.size M k (fun j => x + (j : Int)))) (fun i _ => M - (intOf i).toNat)
  case atStart => exact ⟨0, by omega, rfl, H0.out⟩
  case round =>
    obtain ⟨k, hk, rfl, hrel⟩ := hrel
    obtain ⟨hbl, hto⟩ := hrel.out
    by_cases hlt : k < M
    · have hk0 : (0 : Int) ≤ k := by omega
      have hk1 : (k : Int) < M := by omega
      have w1 := IntWalk.i64_in (x + (k : Int)) (by omega)
      obtain ⟨⟨z0, x1⟩, y1⟩ := hto.place hlt
      have HN : Hid (Below w.heap.size w (wr.setCell ⟨w.heap.size, k, none⟩ (.int .i64 (x + (k : Int)))) ∧ KTo (wr.setCell ⟨w.heap.size, k, none⟩ (.int .i64 (x + (k : Int)))) w.heap.size M (k + 1) (fun j => x + (j : Int))) :=
        Lib.hid ⟨hbl.setCell (p := ⟨w.heap.size, k, none⟩) (Nat.le_refl _) _, hto.step hlt⟩
      clear hrel hbl hto
      go_wp2
      go_roundw
      case rel => exact ⟨k + 1, by omega, by go_num, HN.out⟩
      case measure => simp [intOf]; omega
    · obtain rfl : k = M := by omega
      have HE : Hid (KRow wr .i64 (some ⟨w.heap.size, 0, none⟩) k k (fun j => x + (j : Int)) ∧ Below w.heap.size w wr) := Lib.hid ⟨hto.done (by unfold maxLen; omega), hbl⟩
      clear hrel hbl hto
      go_wp2
      go_ret
      exact ⟨rfl, HE.out⟩
/-- A number brought near to 0. -/
def bnd (b x : Int) : Int := min (max x (0 - b)) b
theorem bnd_bd {b : Int} (hb : 0 ≤ b) (x : Int) : 0 - b ≤ bnd b x ∧ bnd b x ≤ b := by unfold bnd; omega
set_option maxHeartbeats 400000 in
set_option maxRecDepth 100000 in
theorem bounded_any (x : Int) (w : World) : Calls Tryz.prog 48 #[.int .i64 x] w fun e w' => e = .returned (.int .i64 (bnd 4097 x)) ∧ w = w' := by
  have e1 : bnd 4097 x = min (max x (-4097)) 4097 := rfl
  rw [e1]
  go_enter Tryz.func48, Tryz.ntmps48
  go_wp2
  go_ret
  exact ⟨rfl, rfl⟩
/-- How many of n elements a number takes, or leaves. -/
def tkN (drop : Bool) (t n : Int) : Int := if drop then max (n - (t.natAbs : Int)) 0 else (t.natAbs : Int)
/-- The place of the first one. -/
def tkF (drop : Bool) (t n : Int) : Int := if drop then (if 0 < t then t else 0) else (if t < 0 then n + t else 0)
/-- A function value that tells the places of an axis. -/
def Tells (fv : FuncId) (drop : Bool) : Prop :=
  ∀ (wz : World) (t n : Int), -5000 ≤ t → t ≤ 5000 → 0 ≤ n → n ≤ 4096 → Calls Tryz.prog fv #[.int .i64 t, .int .i64 n] wz fun e w' => ∃ a m c, e = .returned (.slice (some a) m c) ∧ (m : Int) = tkN drop t n ∧ KRow w' .i64 (some a) m c (fun j => tkF drop t n + (j : Int)) ∧ Below wz.heap.size wz w'
theorem ent_taken : Enters Tryz.prog 23 := enters_of Tryz.func23 (by kernel_rfl) rfl
set_option maxHeartbeats 400000 in
set_option maxRecDepth 100000 in
theorem taken_any : Tells 23 false := by
  intro w t n ht0 ht1 hn0 hn1
  by_cases h0 : t < 0
  · obtain ⟨m, hm⟩ : ∃ m : Nat, t = -(m : Int) := ⟨t.natAbs, by omega⟩
    have e1 : tkN false t n = (m : Int) := by unfold tkN; rw [if_neg (by decide)]; omega
    have e2 : tkF false t n = n + t := by unfold tkF; rw [if_neg (by decide), if_pos h0]
    rw [e1, e2]
    have hm2 : -t = (m : Int) := by omega
    have w1 := IntWalk.i64_in (n + t) (by omega)
    have w2 := IntWalk.i64_in (-t) (by omega)
    have RN := Lib.hid (crun_any (n + t) m w (by omega) (by omega))
    rw [hm2] at w2
    clear hm e1 e2
    go_enter Tryz.func23, Tryz.ntmps23
    go_wp2_with fail
    go_at_call 50
    (with_reducible refine RN.out.mono ?_)
    rintro e w2 ⟨rfl, hk, hb⟩
    have HE := Lib.hid (And.intro hk hb)
    clear hk hb
    go_wp2
    go_ret
    exact ⟨_, _, _, rfl, rfl, HE.out⟩
  · obtain ⟨m, hm⟩ : ∃ m : Nat, t = (m : Int) := ⟨t.natAbs, by omega⟩
    subst hm
    have e1 : tkN false (m : Int) n = (m : Int) := by unfold tkN; rw [if_neg (by decide)]; omega
    have e2 : tkF false (m : Int) n = 0 := by unfold tkF; rw [if_neg (by decide), if_neg h0]
    rw [e1, e2]
    have RN := Lib.hid (crun_any 0 m w (by omega) (by omega))
    clear e1 e2
    go_enter Tryz.func23, Tryz.ntmps23
    go_wp2_with fail
    go_at_call 50
    (with_reducible refine RN.out.mono ?_)
    rintro e w2 ⟨rfl, hk, hb⟩
    have HE := Lib.hid (And.intro hk hb)
    clear hk hb
    go_wp2
    go_ret
    exact ⟨_, _, _, rfl, rfl, HE.out⟩
/-- Is a number no flag? -/
def nfB (x : Int) : Bool := decide (x ≠ 0) && decide (x ≠ 1)
set_option maxHeartbeats 400000 in
set_option maxRecDepth 100000 in
theorem neither_any (x : Int) (w : World) : Calls Tryz.prog 62 #[.int .i64 x] w fun e w' => e = .returned (.bool (nfB x)) ∧ w = w' := by
  by_cases h0 : x = 0
  · subst h0
    go_enter Tryz.func62, Tryz.ntmps62
    go_wp2
    go_ret
    exact ⟨rfl, rfl⟩
  · have d0 : (x != 0) = true := bne_iff_ne.2 h0
    by_cases h1 : x = 1
    · subst h1
      go_enter Tryz.func62, Tryz.ntmps62
      go_wp2
      go_ret
      exact ⟨rfl, rfl⟩
    · have d1 : (x != 1) = true := bne_iff_ne.2 h1
      have hn : nfB x = true := by unfold nfB; rw [decide_eq_true h0, decide_eq_true h1]; rfl
      rw [hn]
      go_enter Tryz.func62, Tryz.ntmps62
      go_wp2
      go_ret
      exact ⟨rfl, rfl⟩
/-- Is one of the first numbers no flag? -/
def nfA (f : Nat → Int) : Nat → Bool
  | 0 => false
  | k + 1 => nfA f k || nfB (f k)
theorem nfB_no {x : Int} : nfB x = false ↔ x = 0 ∨ x = 1 := by
  unfold nfB
  by_cases h0 : x = 0
  · subst h0; exact ⟨fun _ => .inl rfl, fun _ => rfl⟩
  · by_cases h1 : x = 1
    · subst h1; exact ⟨fun _ => .inr rfl, fun _ => rfl⟩
    · rw [decide_eq_true h0, decide_eq_true h1]
      exact ⟨fun h => (by cases h), fun h => (by omega)⟩
theorem nfA_iff {f : Nat → Int} : ∀ {n : Nat}, nfA f n = false ↔ ∀ j, j < n → f j = 0 ∨ f j = 1
  | 0 => ⟨fun _ j h => absurd h (Nat.not_lt_zero _), fun _ => rfl⟩
  | n + 1 => by
    show (nfA f n || nfB (f n)) = false ↔ _
    rw [Bool.or_eq_false_iff, nfA_iff (n := n), nfB_no]
    constructor
    · rintro ⟨h1, h2⟩ j hj
      rcases Nat.lt_or_ge j n with h | h
      · exact h1 j h
      · obtain rfl : j = n := by omega
        exact h2
    · intro h
      exact ⟨fun j hj => h j (by omega), h n (by omega)⟩
theorem nfA_no {f : Nat → Int} {n k : Nat} (hk : k < n) (h : nfB (f k) = true) : nfA f n = true := by
  cases hx : nfA f n with
  | true => rfl
  | false => have := nfA_iff.1 hx k hk; rw [nfB_no.2 this] at h; cases h
set_option maxHeartbeats 1600000 in
set_option maxRecDepth 100000 in
theorem indexNf_any (a : Option Addr) (n c : Nat) (f : Nat → Int) (w : World) (h : KRow w .i64 a n c f) :
    Calls Tryz.prog 90 #[.slice a n c, .func (.func 62) #[] #[]] w fun e w' => ∃ z, e = .returned (.int .i64 z) ∧ decide (0 ≤ z) = nfA f n ∧ Below w.heap.size w w' := by
  have hl := h.len
  have H1 := Lib.hid h
  have NG := Lib.hid (fun x wz => neither_any x wz)
  clear h
  go_enter Tryz.func90, Tryz.ntmps90
  go_wp2_with fail
  go_loopw [8] (fun i wr => ∃ k : Nat, k ≤ n ∧ i = .int .i64 k ∧ Hid (Below w.heap.size w wr ∧ nfA f k = false)) (fun i _ => n - (intOf i).toNat)
  case atStart => exact ⟨0, by omega, rfl, Below.refl _ _, rfl⟩
  case round =>
    obtain ⟨k, hk, rfl, hrel⟩ := hrel
    obtain ⟨hbl, hsm⟩ := hrel.out
    by_cases hlt : k < n
    · obtain ⟨b, off, rfl, hb, hc⟩ := (H1.out.below hbl).get hlt
      have HBL := Lib.hid hbl
      have hk0 : (0 : Int) ≤ k := by omega
      have hk1 : (k : Int) < n := by omega
      cases hq : nfB (f k) with
      | true =>
        have HN := Lib.hid (nfA_no hlt hq)
        clear hbl hsm hrel
        generalize f k = x at *
        go_wp2_with fail
        go_at_call 62
        (refine (NG.out _ _).mono ?_)
        rintro e w2 ⟨rfl, rfl⟩
        rw [hq]
        go_wp2
        go_ret
        exact ⟨_, rfl, by rw [HN.out, decide_eq_true hk0], HBL.out⟩
      | false =>
        have hsm2 : Hid (nfA f (k + 1) = false) := by show (nfA f k || nfB (f k)) = false; rw [hsm, hq]; rfl
        clear hbl hsm hrel
        generalize f k = x at *
        go_wp2_with fail
        go_at_call 62
        (refine (NG.out _ _).mono ?_)
        rintro e w2 ⟨rfl, rfl⟩
        rw [hq]
        have HBE : Hid (Below w.heap.size w wr ∧ nfA f (k + 1) = false) := ⟨HBL.out, hsm2.out⟩
        go_wp2
        go_roundw
        case rel => exact ⟨k + 1, by omega, by go_num, HBE.out⟩
        case measure => simp [intOf]; omega
    · obtain rfl : k = n := by omega
      have HE : Hid (decide (0 ≤ (-1 : Int)) = nfA f k ∧ Below w.heap.size w wr) := ⟨by rw [hsm]; rfl, hbl⟩
      clear hbl hsm hrel
      go_wp2
      go_ret
      exact ⟨_, rfl, HE.out⟩
set_option maxHeartbeats 400000 in
set_option maxRecDepth 100000 in
theorem anyNf_any (a : Option Addr) (n c : Nat) (f : Nat → Int) (w : World) (h : KRow w .i64 a n c f) :
    Calls Tryz.prog 61 #[.slice a n c, .func (.func 62) #[] #[]] w fun e w' => e = .returned (.bool (nfA f n)) ∧ Below w.heap.size w w' := by
  have IX := Lib.hid (indexNf_any a n c f w h)
  clear h
  generalize nfA f n = b at *
  go_enter Tryz.func61, Tryz.ntmps61
  go_wp2_with fail
  go_at_call 90
  (with_reducible refine (IX.out).mono ?_)
  rintro e w2 ⟨z, rfl, hz, hb2⟩
  have HB := Lib.hid hb2
  have HZ := Lib.hid hz
  clear hb2 hz
  by_cases h0 : 0 ≤ z
  · obtain rfl : b = true := by rw [← HZ.out, decide_eq_true h0]
    clear HZ
    go_wp2
    go_ret
    exact ⟨rfl, HB.out⟩
  · obtain rfl : b = false := by rw [← HZ.out, decide_eq_false h0]
    have dz : decide (0 ≤ z) = false := decide_eq_false h0
    clear HZ h0
    go_wp2
    go_ret
    exact ⟨rfl, HB.out⟩
/-- How many of the first flags are 1. -/
def kpN (f : Nat → Int) : Nat → Nat
  | 0 => 0
  | k + 1 => if f k = 1 then kpN f k + 1 else kpN f k
theorem kpN_le (f : Nat → Int) : ∀ n, kpN f n ≤ n
  | 0 => Nat.le_refl _
  | n + 1 => by have := kpN_le f n; unfold kpN; split <;> omega
theorem kpN_mono (f : Nat → Int) {k m : Nat} (h : k ≤ m) : kpN f k ≤ kpN f m := by
  induction m with
  | zero => obtain rfl : k = 0 := by omega
            exact Nat.le_refl _
  | succ m ih =>
    rcases Nat.lt_or_ge k (m + 1) with h3 | h3
    · have := ih (by omega)
      show kpN f k ≤ if f m = 1 then kpN f m + 1 else kpN f m
      split <;> omega
    · obtain rfl : k = m + 1 := by omega
      exact Nat.le_refl _
theorem kpN_lt {f : Nat → Int} {k n : Nat} (hk : k < n) (h1 : f k = 1) : kpN f k < kpN f n := by
  have h2 := kpN_mono f (show k + 1 ≤ n by omega)
  have h3 : kpN f (k + 1) = kpN f k + 1 := by show (if f k = 1 then _ else _) = _; rw [if_pos h1]
  omega
set_option maxHeartbeats 1600000 in
set_option maxRecDepth 100000 in
theorem ones_any (a : Option Addr) (n c : Nat) (f : Nat → Int) (w : World) (h : KRow w .i64 a n c f) (hf : ∀ j, j < n → f j = 0 ∨ f j = 1) (hn : n ≤ 1000000) :
    Calls Tryz.prog 66 #[.slice a n c] w fun e w' => e = .returned (.int .i64 (kpN f n)) ∧ w = w' := by
  have hl := h.len
  have H1 := Lib.hid h
  have HF := Lib.hid hf
  clear h hf
  go_enter Tryz.func66, Tryz.ntmps66
  go_wp2_with fail
  go_loopw [3, 8] (fun s i wr => ∃ k : Nat, k ≤ n ∧ i = .int .i64 k ∧ s = .int .i64 (kpN f k) ∧ wr = w) (fun _ i _ => n - (intOf i).toNat)
  case atStart => exact ⟨0, by omega, rfl, rfl, rfl⟩
  case round =>
    obtain ⟨k, hk, rfl, rfl, rfl⟩ := hrel
    by_cases hlt : k < n
    · obtain ⟨b, off, rfl, hb, hc⟩ := H1.out.get hlt
      have hk0 : (0 : Int) ≤ k := by omega
      have hk1 : (k : Int) < n := by omega
      have hs : ((kpN f (k + 1) : Nat) : Int) = kpN f k + f k := by
        show ((if f k = 1 then kpN f k + 1 else kpN f k : Nat) : Int) = _
        rcases HF.out k hlt with e | e
        · rw [e, if_neg (by decide)]; omega
        · rw [e, if_pos rfl]; omega
      have hb2 := kpN_le f k
      have hb3 := HF.out k hlt
      have w1 := IntWalk.i64_in ((kpN f k : Int) + f k) (by omega)
      have HS := Lib.hid hs
      clear hs hb2 hb3
      generalize f k = x at *
      generalize kpN f k = s at *
      go_wp2
      go_roundw
      case rel => exact ⟨k + 1, by omega, by go_num, by rw [HS.out], trivial⟩
      case measure => simp [intOf]; omega
    · obtain rfl : k = n := by omega
      go_wp2
      go_ret
      exact ⟨rfl, rfl⟩
end Go.Proofs.YtpmcbnliogjknaaGreatDoor

namespace Go.Proofs.YtpmcbnliogjknaaGreatDoor
open Go.RowKit
theorem Wrote.over {g k lo hi lo' hi' : Nat} {a b c : World} (h : Wrote g lo hi a b) (q : Wrote k lo' hi' b c) (hk : a.heap.size ≤ k) (hg : g < a.heap.size) : Wrote g lo hi a c := by
  have hs := h.size
  have hb : c.heap[g]? = b.heap[g]? := q.block g (by omega) (by omega)
  exact ⟨q.os.trans h.os, q.tape.trans h.tape, q.output.trans h.output, Nat.le_trans h.size q.size, fun j hj hne => (q.block j (by omega) (by omega)).trans (h.block j hj hne), fun o ho => (World.cell?_of_block (w := b) (w' := c) (a := ⟨g, o, none⟩) hb).trans (h.cell o ho), fun o => (World.frozen?_of_block (w := b) (w' := c) (a := ⟨g, o, none⟩) hb).trans (h.frozen o)⟩
/-- A function value wrote into its own block alone. -/
def Scr (gb nb : Nat) (w0 w : World) : Prop := Wrote gb 0 nb w0 w ∧ ∃ h, IBox w gb nb h
theorem Scr.over {gb nb k lo hi : Nat} {a b c : World} (h : Scr gb nb a b) (q : Wrote k lo hi b c) (hk : a.heap.size ≤ k) (hg : gb < a.heap.size) : Scr gb nb a c := by
  obtain ⟨h1, x, h2⟩ := h
  exact ⟨h1.over q hk hg, x, h2.wrote q (by omega)⟩
theorem Scr.next {gb nb : Nat} {a b c : World} (h : Scr gb nb a b) (q : Scr gb nb b c) : Scr gb nb a c := ⟨h.1.trans q.1, q.2⟩
/-- The older blocks of a world alone. -/
def cutW (w : World) (n : Nat) : World := { w with heap := w.heap.extract 0 n }
theorem cutW_size {w : World} {n : Nat} (h : n ≤ w.heap.size) : (cutW w n).heap.size = n := by
  show (w.heap.extract 0 n).size = n
  rw [Array.size_extract]
  omega
theorem cutW_get {w : World} {n j : Nat} (hj : j < n) : (cutW w n).heap[j]? = w.heap[j]? := by
  show (w.heap.extract 0 n)[j]? = w.heap[j]?
  rw [Array.getElem?_extract]
  rcases Nat.lt_or_ge j w.heap.size with h | h
  · rw [if_pos (by omega), Nat.zero_add]
  · rw [if_neg (by omega), Array.getElem?_eq_none h]
theorem cutW_below {w : World} {n : Nat} (h : n ≤ w.heap.size) : Below (cutW w n).heap.size (cutW w n) w := by
  have e := cutW_size h
  refine ⟨rfl, rfl, rfl, by rw [e]; exact h, fun j hj => ?_⟩
  rw [e] at hj
  exact (cutW_get hj).symm
theorem KRow.cut {w X : World} {a : Option Addr} {n c g lo hi : Nat} {f : Nat → Int} (h : KRow w .i64 a n c f) (q : Wrote g lo hi w X) (hne : ∀ x, a = some x → x.block ≠ g) : KRow (cutW X w.heap.size) .i64 a n c f := by
  refine ⟨h.1, h.2.1, h.2.2.imp id ?_⟩
  rintro ⟨b, off, rfl, hl, hc⟩
  exact ⟨b, off, rfl, by rw [cutW_size q.size]; exact hl, fun j hj => (World.cell?_of_block (w := w) (a := ⟨b, off + j, none⟩) ((cutW_get hl).trans (q.block b hl (hne _ rfl)))).trans (hc j hj)⟩
/-- A function value that answers a number for the index of every place, and that writes into its own block. -/
def GivesW (fv : FuncId) (cap : Array Value) (gb nb : Nat) (G : Nat → Int) (f : Nat → Int) (n M : Nat) (w : World) : Prop :=
  ∀ wz, Scr gb nb w wz → ∀ k : Nat, k < M → ∀ g2, g2 ≠ gb → KRow wz .i64 (some ⟨g2, 0, none⟩) n n (dgs f n (k : Nat)) → Calls Tryz.prog fv (#[.slice (some ⟨g2, 0, none⟩) n n] ++ cap) wz fun e w' => e = .returned (.int .i64 (G k)) ∧ Scr gb nb wz w'
/-- The blocks of Places, apart from one another and from the function value's. -/
def PlSw (gb nb : Nat) (G : Nat → Int) (w0 w : World) (f : Nat → Int) (n M gp gi gh : Nat) (k : Nat) : Prop :=
  Scr gb nb w0 w ∧ IBox w gp M (fun j => if j < k then G j else 0) ∧ IBox w gi n (dgs f n k) ∧ ∃ cur, Row w gh 3 cur ∧ cur.size = n
set_option maxHeartbeats 3200000 in
set_option maxRecDepth 100000 in
theorem placesW_any (fv : FuncId) (cap : Array Value) (he : Enters Tryz.prog fv) (a : Option Addr) (n c : Nat) (f : Nat → Int) (M : Nat) (G : Nat → Int) (w : World) (h : KRow w .i64 a n c f) (hf : In64 f n) (hs : shB f n = true) (hM : itm f n = (M : Nat)) (gb nb : Nat) (hgb : gb < w.heap.size) (hbx : ∃ x, IBox w gb nb x) (hne : ∀ x, a = some x → x.block ≠ gb) (CL : GivesW fv cap gb nb G f n M w) :
    Calls Tryz.prog 79 #[.slice a n c, .func (.func fv) #[] cap] w fun e w' => ∃ c', e = .returned (.slice (some ⟨w.heap.size, 0, none⟩) M c') ∧ KRow w' .i64 (some ⟨w.heap.size, 0, none⟩) M c' G ∧ Scr gb nb w w' := by
  have he' := he
  unfold Enters at he'
  have HCL := Lib.hid CL
  have hl := h.len
  have CN := Lib.hid (count_any a n c f w h hf)
  unfold CntTold at CN
  have hx : cntI f n = (M : Nat) := by unfold cntI; rw [hs, if_pos rfl, hM]
  rw [hs, hx] at CN
  obtain ⟨h8, hax⟩ := sh_ax hs
  have hbd := ax_bd hax
  have hM4 : M ≤ 4096 := by omega
  have HP := Lib.hid (fun (k : Nat) (hk : k < M) => itm_pos hax (show (0 : Int) ≤ k by omega) (show (k : Int) < itm f n by omega))
  have HF : Hid (∀ j, j < n → f j ≤ 4096) := Lib.hid (fun j hj => by
    have h1 := ax_bd (ax_le (show j + 1 ≤ n by omega) hax)
    have h2 := rm_pos f j
    have h3 : 1 * max (f j) 1 ≤ rm f j * max (f j) 1 := Int.mul_le_mul h2 (Int.le_refl _) (by omega) (by omega)
    have h4 : rm f (j + 1) = rm f j * max (f j) 1 := rfl
    omega)
  have HD := Lib.hid (fun (k : Nat) (hk : k < M) => dgs_in (HP.out k hk) (show (0 : Int) ≤ k by omega) (show (k : Int) < itm f n by omega))
  have H := Lib.hid h
  have HAX := Lib.hid hax
  have HMM := Lib.hid hM
  obtain ⟨i0, hi, hz0, hz1, hz2⟩ := info_parts infoI
  have hmk := fun wz => run_make (P := Tryz.prog) wz 22 3 i0 _ Tryz.underlying22 hi hz0 .i64 .i64 M M (by omega) (by omega) (by rw [hz2]; omega) (by omega)
  have hmk2 := fun wz => run_make (P := Tryz.prog) wz 22 3 i0 _ Tryz.underlying22 hi hz0 .i64 .i64 n n (by omega) (by omega) (by rw [hz2]; omega) (by omega)
  simp only [Int.toNat_natCast, hz1, Nat.mul_one] at hmk hmk2
  have hsz : (Tryz.prog.info? 3).map (·.size) = some 1 := by rw [hi, Option.map_some, hz1]
  have qf : ∀ (w : World) (fn : Fn) (x y : Array Value), (binOp .eql 108 (.func fn x y) .nilFunc).run Tryz.prog w = .ok (.bool false) w := fun _ _ _ _ => rfl
  have W3 : Hid (∀ wz, wz = ((w.alloc (.cells (madeCells (Value.cells (.int .i64 0)) M) 3)).alloc (.cells (madeCells (Value.cells (.int .i64 0)) n) 3)).alloc (.cells (madeCells (Value.cells (.int .i64 0)) n) 3) → PlSw gb nb G w wz f n M w.heap.size (w.heap.size + 1) (w.heap.size + 1 + 1) 0 ∧ PlSw gb nb G w wz f n M w.heap.size (w.heap.size + 1 + 1) (w.heap.size + 1) 0) := Lib.hid (by
    rintro wz rfl
    have b1 : Below w.heap.size w (w.alloc (.cells (madeCells (Value.cells (.int .i64 0)) M) 3)) := (Below.refl _ _).alloc (Nat.le_refl _) _
    have i1 := IBox.made w M 3 rfl
    have i2 := IBox.made (w.alloc (.cells (madeCells (Value.cells (.int .i64 0)) M) 3)) n 3 rfl
    have r2 := Row.new (w.alloc (.cells (madeCells (Value.cells (.int .i64 0)) M) 3)) 3 (madeCells (Value.cells (.int .i64 0)) n)
    have i3 := IBox.made ((w.alloc (.cells (madeCells (Value.cells (.int .i64 0)) M) 3)).alloc (.cells (madeCells (Value.cells (.int .i64 0)) n) 3)) n 3 rfl
    have r3 := Row.new ((w.alloc (.cells (madeCells (Value.cells (.int .i64 0)) M) 3)).alloc (.cells (madeCells (Value.cells (.int .i64 0)) n) 3)) 3 (madeCells (Value.cells (.int .i64 0)) n)
    have hms : (madeCells (Value.cells (.int .i64 0)) n).size = n := by simp [madeCells]
    have g2 : ∀ (y : World) (o : Obj), Below y.heap.size y (y.alloc o) := fun y o => (Below.refl _ _).alloc (Nat.le_refl _) o
    rw [World.size_alloc] at i2 r2
    rw [World.size_alloc, World.size_alloc] at i3 r3
    have bb := (b1.trans ((g2 (w.alloc (.cells (madeCells (Value.cells (.int .i64 0)) M) 3)) (.cells (madeCells (Value.cells (.int .i64 0)) n) 3)).mono b1.size)).trans ((g2 ((w.alloc (.cells (madeCells (Value.cells (.int .i64 0)) M) 3)).alloc (.cells (madeCells (Value.cells (.int .i64 0)) n) 3)) (.cells (madeCells (Value.cells (.int .i64 0)) n) 3)).mono (Nat.le_trans b1.size (g2 _ _).size))
    have z0 : ∀ j, j < M → (fun _ => (0 : Int)) j = (fun j : Nat => if j < 0 then G j else 0) j := fun j _ => rfl
    have z1 : ∀ j, j < n → (fun _ => (0 : Int)) j = dgs f n (0 : Nat) j := fun j _ => (dgs_zero n j).symm
    obtain ⟨x0, hx0⟩ := hbx
    have sc : Scr gb nb w (((w.alloc (.cells (madeCells (Value.cells (.int .i64 0)) M) 3)).alloc (.cells (madeCells (Value.cells (.int .i64 0)) n) 3)).alloc (.cells (madeCells (Value.cells (.int .i64 0)) n) 3)) := ⟨Wrote.of_below bb hgb, x0, hx0.below bb⟩
    refine ⟨⟨sc, ((i1.below (g2 _ _)).below (g2 _ _)).congr z0, (i2.below (g2 _ _)).congr z1, _, r3, hms⟩, ⟨sc, ((i1.below (g2 _ _)).below (g2 _ _)).congr z0, i3.congr z1, _, r2.below (g2 _ _), hms⟩⟩)
  have hnn : (0 : Int) ≤ n := by omega
  have hMn : (0 : Int) ≤ M := by omega
  have HNE := Lib.hid hne
  clear h hf hs hM hx hax hbd hi hz0 hz1 hz2 he CL hbx hne
  go_enter Tryz.func79, Tryz.ntmps79
  go_wp2_with fail
  go_at_call 94
  (with_reducible refine (CN.out).mono ?_)
  rintro e w1 ⟨rfl, rfl⟩
  go_wp2_with fail
  go_region
  · go_wp2_with fail
    have H0 : Hid (PlSw gb nb G w (((w.alloc (.cells (madeCells (Value.cells (.int .i64 0)) M) 3)).alloc (.cells (madeCells (Value.cells (.int .i64 0)) n) 3)).alloc (.cells (madeCells (Value.cells (.int .i64 0)) n) 3)).drew f n M w.heap.size (w.heap.size + 1) (w.heap.size + 1 + 1) 0) := Lib.hid (by
      have h := (W3.out _ rfl).1
      exact ⟨⟨h.1.1.drew, h.1.2⟩, h.2⟩)
    go_loopw [32] (fun i wr => ∃ k : Nat, k ≤ M ∧ i = .int .i64 k ∧ Hid (PlSw gb nb G w wr f n M w.heap.size (w.heap.size + 1) (w.heap.size + 1 + 1) k)) (fun i _ => M - (intOf i).toNat)
    case atStart => exact ⟨0, by omega, rfl, H0.out⟩
    case round =>
      obtain ⟨k, hk, rfl, hrel⟩ := hrel
      obtain ⟨hbl, hbp, hbi, cur, hrow, hcur⟩ := hrel.out
      have hwr := hbl.1.size
      by_cases hlt : k < M
      · obtain ⟨hin, hpl⟩ := HD.out k hlt
        have HIN := Lib.hid (And.intro hin hpl)
        have hp1 := HP.out k hlt
        have HP1 := Lib.hid hp1
        have HBL := Lib.hid hbl
        have HBP := Lib.hid hbp
        have HBI := Lib.hid hbi
        have HROW := Lib.hid hrow
        have HCUR := Lib.hid hcur
        clear hrel hin hpl hbl hbp hbi hrow hcur hp1
        go_wp2_with (refine wpList_copy_full rfl (.tmp 35) (.tmp 36) 22 22 rfl 3 Tryz.underlying22 hsz (w.heap.size + 1 + 1) n n (w.heap.size + 1) n rfl rfl cur 3 HROW.out HCUR.out (dgs f n k) HBI.out ?_)
        intro w2 hrow2 hwr2
        have b2 := HBL.out.over hwr2 (show w.heap.size ≤ w.heap.size + 1 + 1 by omega) hgb
        have CLS : Hid (Calls Tryz.prog fv (#[.slice (some ⟨w.heap.size + 1 + 1, 0, none⟩) n n] ++ cap) w2 fun e w' => e = .returned (.int .i64 (G k)) ∧ Scr gb nb w2 w') := Lib.hid (HCL.out w2 b2 k hlt _ (show w.heap.size + 1 + 1 ≠ gb by omega) ((IBox.of_row hrow2).krow (by unfold maxLen; omega)))
        have HR2 := Lib.hid hrow2
        have HW2 := Lib.hid hwr2
        have HB2 := Lib.hid b2
        clear hrow2 hwr2 b2
        go_wp2_with fail
        go_at_fn fv
        (refine (CLS.out).mono ?_)
        rintro e w3 ⟨rfl, hb3⟩
        have hs2 := HB2.out.1.size
        have b3 := HB2.out.next hb3
        have p3 := (HBP.out.wrote HW2.out (show w.heap.size ≠ w.heap.size + 1 + 1 by omega)).wrote hb3.1 (show w.heap.size ≠ gb by omega)
        have i3 := (HBI.out.wrote HW2.out (show w.heap.size + 1 ≠ w.heap.size + 1 + 1 by omega)).wrote hb3.1 (show w.heap.size + 1 ≠ gb by omega)
        have r3 : Row w3 (w.heap.size + 1 + 1) 3 (kcs .i64 (dgs f n k) n).toArray := (hb3.1.block (w.heap.size + 1 + 1) HR2.out.lt (by omega)).trans HR2.out
        have p4 := p3.set hlt (G k)
        have q4 : Wrote w.heap.size 0 M w3 (w3.setCell ⟨w.heap.size, k, none⟩ (.int .i64 (G k))) := (Wrote.refl _ _ _ _).setCell (Nat.zero_le k) hlt _
        have i4 := i3.wrote q4 (show w.heap.size + 1 ≠ w.heap.size by omega)
        have r4 := r3.far (a := ⟨w.heap.size, k, none⟩) (show w.heap.size + 1 + 1 ≠ w.heap.size by omega) (.int .i64 (G k))
        have b4 : Scr gb nb w (w3.setCell ⟨w.heap.size, k, none⟩ (.int .i64 (G k))) := b3.over q4 (Nat.le_refl _) hgb
        have AD := Lib.hid (advance_any a n c f (w.heap.size + 1) n k (cutW (w3.setCell ⟨w.heap.size, k, none⟩ (.int .i64 (G k))) w.heap.size) _ (H.out.cut b4.1 HNE.out) (cutW_below b4.1.size) (by rw [cutW_size b4.1.size]; omega) h8 HP1.out HF.out ⟨by omega, by have := HMM.out; omega⟩ i4 ⟨Nat.le_refl _, by unfold maxLen; omega⟩)
        have x1 := p3.2.2 k hlt
        have x2 := p3.2.1 k
        have hk0 : (0 : Int) ≤ k := by omega
        have hk1 : (k : Int) < M := by omega
        have HEND : Hid (∀ w5, Wrote (w.heap.size + 1) 0 n (w3.setCell ⟨w.heap.size, k, none⟩ (.int .i64 (G k))) w5 → IBox w5 (w.heap.size + 1) n (dgs f n ((k : Int) + 1)) → PlSw gb nb G w w5 f n M w.heap.size (w.heap.size + 1) (w.heap.size + 1 + 1) (k + 1)) := Lib.hid (fun w5 q5 i5 => ⟨b4.over q5 (by omega) hgb, (p4.wrote q5 (by omega)).congr (fun j hj => by
          show (if j = k then G k else if j < k then G j else 0) = if j < k + 1 then G j else 0
          by_cases e : j = k
          · subst e; rw [if_pos rfl, if_pos (by omega)]
          · rw [if_neg e]
            by_cases e2 : j < k
            · rw [if_pos e2, if_pos (by omega)]
            · rw [if_neg e2, if_neg (by omega)]), i5, _, (q5.block (w.heap.size + 1 + 1) r4.lt (by omega)).trans r4, by rw [List.size_toArray, kcs_length]⟩)
        clear b3 p3 i3 r3 p4 q4 i4 r4 b4 hb3 hs2
        go_wp2_with fail
        go_at_call 105
        (refine (AD.out).mono ?_)
        rintro e w5 ⟨rfl, q5, i5⟩
        have HN := Lib.hid (HEND.out w5 q5 i5)
        clear q5 i5
        go_wp2
        go_roundw
        case rel => exact ⟨k + 1, by omega, by go_num, HN.out⟩
        case measure => simp [intOf]; omega
      · obtain rfl : k = M := by omega
        have HE : Hid (KRow wr .i64 (some ⟨w.heap.size, 0, none⟩) k k G ∧ Scr gb nb w wr) := Lib.hid ⟨(hbp.congr (h' := G) (fun j hj => by rw [if_pos hj])).krow (by unfold maxLen; omega), hbl⟩
        clear hrel hbl hbp hbi hrow hcur
        go_wp2
        go_ret
        exact ⟨_, rfl, HE.out⟩
  · go_wp2_with fail
    have H0 : Hid (PlSw gb nb G w (((w.alloc (.cells (madeCells (Value.cells (.int .i64 0)) M) 3)).alloc (.cells (madeCells (Value.cells (.int .i64 0)) n) 3)).alloc (.cells (madeCells (Value.cells (.int .i64 0)) n) 3)).drew f n M w.heap.size (w.heap.size + 1 + 1) (w.heap.size + 1) 0) := Lib.hid (by
      have h := (W3.out _ rfl).2
      exact ⟨⟨h.1.1.drew, h.1.2⟩, h.2⟩)
    go_loopw [32] (fun i wr => ∃ k : Nat, k ≤ M ∧ i = .int .i64 k ∧ Hid (PlSw gb nb G w wr f n M w.heap.size (w.heap.size + 1 + 1) (w.heap.size + 1) k)) (fun i _ => M - (intOf i).toNat)
    case atStart => exact ⟨0, by omega, rfl, H0.out⟩
    case round =>
      obtain ⟨k, hk, rfl, hrel⟩ := hrel
      obtain ⟨hbl, hbp, hbi, cur, hrow, hcur⟩ := hrel.out
      have hwr := hbl.1.size
      by_cases hlt : k < M
      · obtain ⟨hin, hpl⟩ := HD.out k hlt
        have HIN := Lib.hid (And.intro hin hpl)
        have hp1 := HP.out k hlt
        have HP1 := Lib.hid hp1
        have HBL := Lib.hid hbl
        have HBP := Lib.hid hbp
        have HBI := Lib.hid hbi
        have HROW := Lib.hid hrow
        have HCUR := Lib.hid hcur
        clear hrel hin hpl hbl hbp hbi hrow hcur hp1
        go_wp2_with (refine wpList_copy_full rfl (.tmp 35) (.tmp 36) 22 22 rfl 3 Tryz.underlying22 hsz (w.heap.size + 1) n n (w.heap.size + 1 + 1) n rfl rfl cur 3 HROW.out HCUR.out (dgs f n k) HBI.out ?_)
        intro w2 hrow2 hwr2
        have b2 := HBL.out.over hwr2 (show w.heap.size ≤ w.heap.size + 1 by omega) hgb
        have CLS : Hid (Calls Tryz.prog fv (#[.slice (some ⟨w.heap.size + 1, 0, none⟩) n n] ++ cap) w2 fun e w' => e = .returned (.int .i64 (G k)) ∧ Scr gb nb w2 w') := Lib.hid (HCL.out w2 b2 k hlt _ (show w.heap.size + 1 ≠ gb by omega) ((IBox.of_row hrow2).krow (by unfold maxLen; omega)))
        have HR2 := Lib.hid hrow2
        have HW2 := Lib.hid hwr2
        have HB2 := Lib.hid b2
        clear hrow2 hwr2 b2
        go_wp2_with fail
        go_at_fn fv
        (refine (CLS.out).mono ?_)
        rintro e w3 ⟨rfl, hb3⟩
        have hs2 := HB2.out.1.size
        have b3 := HB2.out.next hb3
        have p3 := (HBP.out.wrote HW2.out (show w.heap.size ≠ w.heap.size + 1 by omega)).wrote hb3.1 (show w.heap.size ≠ gb by omega)
        have i3 := (HBI.out.wrote HW2.out (show w.heap.size + 1 + 1 ≠ w.heap.size + 1 by omega)).wrote hb3.1 (show w.heap.size + 1 + 1 ≠ gb by omega)
        have r3 : Row w3 (w.heap.size + 1) 3 (kcs .i64 (dgs f n k) n).toArray := (hb3.1.block (w.heap.size + 1) HR2.out.lt (by omega)).trans HR2.out
        have p4 := p3.set hlt (G k)
        have q4 : Wrote w.heap.size 0 M w3 (w3.setCell ⟨w.heap.size, k, none⟩ (.int .i64 (G k))) := (Wrote.refl _ _ _ _).setCell (Nat.zero_le k) hlt _
        have i4 := i3.wrote q4 (show w.heap.size + 1 + 1 ≠ w.heap.size by omega)
        have r4 := r3.far (a := ⟨w.heap.size, k, none⟩) (show w.heap.size + 1 ≠ w.heap.size by omega) (.int .i64 (G k))
        have b4 : Scr gb nb w (w3.setCell ⟨w.heap.size, k, none⟩ (.int .i64 (G k))) := b3.over q4 (Nat.le_refl _) hgb
        have AD := Lib.hid (advance_any a n c f (w.heap.size + 1 + 1) n k (cutW (w3.setCell ⟨w.heap.size, k, none⟩ (.int .i64 (G k))) w.heap.size) _ (H.out.cut b4.1 HNE.out) (cutW_below b4.1.size) (by rw [cutW_size b4.1.size]; omega) h8 HP1.out HF.out ⟨by omega, by have := HMM.out; omega⟩ i4 ⟨Nat.le_refl _, by unfold maxLen; omega⟩)
        have x1 := p3.2.2 k hlt
        have x2 := p3.2.1 k
        have hk0 : (0 : Int) ≤ k := by omega
        have hk1 : (k : Int) < M := by omega
        have HEND : Hid (∀ w5, Wrote (w.heap.size + 1 + 1) 0 n (w3.setCell ⟨w.heap.size, k, none⟩ (.int .i64 (G k))) w5 → IBox w5 (w.heap.size + 1 + 1) n (dgs f n ((k : Int) + 1)) → PlSw gb nb G w w5 f n M w.heap.size (w.heap.size + 1 + 1) (w.heap.size + 1) (k + 1)) := Lib.hid (fun w5 q5 i5 => ⟨b4.over q5 (by omega) hgb, (p4.wrote q5 (by omega)).congr (fun j hj => by
          show (if j = k then G k else if j < k then G j else 0) = if j < k + 1 then G j else 0
          by_cases e : j = k
          · subst e; rw [if_pos rfl, if_pos (by omega)]
          · rw [if_neg e]
            by_cases e2 : j < k
            · rw [if_pos e2, if_pos (by omega)]
            · rw [if_neg e2, if_neg (by omega)]), i5, _, (q5.block (w.heap.size + 1) r4.lt (by omega)).trans r4, by rw [List.size_toArray, kcs_length]⟩)
        clear b3 p3 i3 r3 p4 q4 i4 r4 b4 hb3 hs2
        go_wp2_with fail
        go_at_call 105
        (refine (AD.out).mono ?_)
        rintro e w5 ⟨rfl, q5, i5⟩
        have HN := Lib.hid (HEND.out w5 q5 i5)
        clear q5 i5
        go_wp2
        go_roundw
        case rel => exact ⟨k + 1, by omega, by go_num, HN.out⟩
        case measure => simp [intOf]; omega
      · obtain rfl : k = M := by omega
        have HE : Hid (KRow wr .i64 (some ⟨w.heap.size, 0, none⟩) k k G ∧ Scr gb nb w wr) := Lib.hid ⟨(hbp.congr (h' := G) (fun j hj => by rw [if_pos hj])).krow (by unfold maxLen; omega), hbl⟩
        clear hrel hbl hbp hbi hrow hcur
        go_wp2
        go_ret
        exact ⟨_, rfl, HE.out⟩
end Go.Proofs.YtpmcbnliogjknaaGreatDoor

namespace Go.Proofs.YtpmcbnliogjknaaGreatDoor
open Go.RowKit
/-- The index that an index is picked from: each axis by its own places. -/
def pkI (F : Nat → Nat → Int) (d : Nat → Int) : Nat → Int := fun j => F j (d j).toNat
/-- Where the elements come from when places are picked along each axis. -/
def pkG (S T : Nat → Int) (r : Nat) (F : Nat → Nat → Int) (k : Nat) : Int := if inB S (pkI F (dgs T r (k : Nat))) r then plc S (pkI F (dgs T r (k : Nat))) r else -1
theorem pkG_bd {S T : Nat → Int} {r : Nat} {F : Nat → Nat → Int} (hsh : shB S r = true) (k : Nat) : -1 ≤ pkG S T r F k ∧ pkG S T r F k < 4096 := by
  obtain ⟨_, hax⟩ := sh_ax hsh
  unfold pkG
  split
  · rename_i h
    have h1 := plc_bd hax h
    have h2 := ax_bd hax
    omega
  · omega
theorem pkI_congr {F F' : Nat → Nat → Int} {d : Nat → Int} {S : Nat → Int} {r : Nat} (h : ∀ j, j < r → F j (d j).toNat = F' j (d j).toNat) : inB S (pkI F d) r = inB S (pkI F' d) r ∧ plc S (pkI F d) r = plc S (pkI F' d) r := by
  induction r with
  | zero => exact ⟨rfl, rfl⟩
  | succ r ih =>
    obtain ⟨h1, h2⟩ := ih (fun j hj => h j (by omega))
    have h3 : pkI F d r = pkI F' d r := h r (by omega)
    constructor
    · show (inB S (pkI F d) r && (decide (0 ≤ pkI F d r) && decide (pkI F d r < S r))) = (inB S (pkI F' d) r && (decide (0 ≤ pkI F' d r) && decide (pkI F' d r < S r)))
      rw [h1, h3]
    · show plc S (pkI F d) r * S r + pkI F d r = plc S (pkI F' d) r * S r + pkI F' d r
      rw [h2, h3]
set_option maxHeartbeats 1600000 in
set_option maxRecDepth 100000 in
theorem cloneI_some (ad : Addr) (n c : Nat) (f : Nat → Int) (w : World) (h : KRow w .i64 (some ad) n c f) (hn : n ≤ 1000000) :
    Calls Tryz.prog 78 #[.slice (some ad) n c] w fun e w' => ∃ g c', e = .returned (.slice (some ⟨g, 0, none⟩) n c') ∧ w.heap.size ≤ g ∧ g < w'.heap.size ∧ KRow w' .i64 (some ⟨g, 0, none⟩) n c' f ∧ Below w.heap.size w w' := by
  obtain ⟨i0, hi, hz0, hz1, hz2⟩ := info_parts infoI
  have q22 : ∀ (w : World) (a : Option Addr) (n c n' c' : Nat), (binOp .eql 22 (.slice a n c) (.slice none n' c')).run Tryz.prog w = .ok (.bool a.isNone) w := fun w a n c n' c' => Lib.run_eql_slice_nil w _ _ a n c n' c' Tryz.underlying22
  have hex : ∃ news : List Value, news.length = n * 1 ∧ (∀ j u, news[j]? = some u → w.cell? (ad.add j) = some u) ∧ (∀ u ∈ news, u.oneCell' = true) ∧ ∀ j, j < n → news[j]? = some (.int .i64 (f j)) := by
    rcases h.2.2 with h0 | ⟨b, off, he, hb, hc⟩
    · subst h0
      exact ⟨[], rfl, fun j u hu => by simp at hu, fun u hu => by simp at hu, fun j hj => by omega⟩
    · obtain rfl := Option.some.inj he
      have hg : ∀ j, j < n → ((List.range n).map fun j => Value.int .i64 (f j))[j]? = some (.int .i64 (f j)) := fun j hj => by rw [List.getElem?_map, List.getElem?_range hj]; rfl
      refine ⟨(List.range n).map fun j => .int .i64 (f j), by simp, fun j u hu => ?_, fun u hu => ?_, hg⟩
      · have hj : j < n := by
          have := (List.getElem?_eq_some_iff.1 hu).1
          simpa using this
        rw [hg j hj] at hu
        obtain rfl := Option.some.inj hu
        rw [show (⟨b, off, none⟩ : Addr).add j = ⟨b, off + j, none⟩ by simp [Addr.add]]
        exact hc j hj
      · obtain ⟨j, _, rfl⟩ := List.mem_map.1 hu
        rfl
  obtain ⟨news, hl, hcell, hone, hrat⟩ := hex
  have HC := Lib.hid hcell
  have HO := Lib.hid hone
  have HR := Lib.hid hrat
  have HL := Lib.hid hl
  have HN := Lib.hid hn
  clear hcell hone hrat hl h hn
  go_enter Tryz.func78, Tryz.ntmps78
  go_wp2_with (at_builtin; refine wpList_append_own _ rfl _ _ 22 rfl w.heap.size 3 i0 _ 1 8 Tryz.underlying22 hi hz0 hz1 hz2 rfl (by omega) _ _ _ rfl (World.ownsRow_made w #[] 0 (Nat.le_refl _) (Nat.zero_le _) (by simp)) ad n c news rfl ?qc1 ?qc2 ?qc3 ?qc4 ?qc5 ?qc6 ?_)
  case qc1 => exact HL.out
  case qc2 => exact fun j u hj => Lib.cell?_alloc_some _ (HC.out j u hj)
  case qc3 => exact HO.out
  case qc4 => have := HN.out; unfold maxLen; omega
  case qc5 => have := HN.out; omega
  case qc6 => simp
  intro v' w1 hown hgrow hnil
  have hb : Below w.heap.size w w1 := ((Below.refl _ w).alloc (Nat.le_refl _) _).grown hgrow (by simp) (by intro k hk; simp [Value.ownBlock] at hk; omega)
  have HE : Hid (∃ g c', v' = .slice (some ⟨g, 0, none⟩) n c' ∧ w.heap.size ≤ g ∧ g < w1.heap.size ∧ KRow w1 .i64 (some ⟨g, 0, none⟩) n c' f) := by
    rcases hown.2 with ⟨e0, h0⟩ | ⟨g, cap, cur, rfl, hge, hh, h1, h2, _, hcs⟩
    · exact absurd e0 (by first | exact hnil | (intro e1; have := (hnil.1 e1).1; cases this))
    · try rw [Nat.zero_add] at h1
      refine ⟨g, cap, by first | rfl | rw [Nat.zero_add], hge, Row.lt (t := 3) hh, h1, h2, .inr ⟨g, 0, rfl, Row.lt (t := 3) hh, fun j hj => ?_⟩⟩
      have := hown.cells (g := g) rfl j _ (by first | exact HR.out j hj | (rw [List.nil_append]; exact HR.out j hj))
      rwa [show (⟨g, 0, none⟩ : Addr).add j = ⟨g, 0 + j, none⟩ by unfold Addr.add; split <;> simp_all] at this
  have HB := Lib.hid hb
  clear hown hgrow hnil hb
  go_wp2
  go_ret
  obtain ⟨g, c', rfl, hr⟩ := HE.out
  exact ⟨g, c', rfl, hr.1, hr.2.1, hr.2.2, HB.out⟩
set_option maxHeartbeats 1600000 in
set_option maxRecDepth 100000 in
theorem shape_new (cs : Array Value) (S : Nat → Int) (r : Nat) (ch : Bool) (L : Nat) (g fP : Nat → Int) (fQ : Nat → Nat) (w : World) (h : Arr w cs S r ch L g fP fQ) (hr : r ≤ 8) :
    Calls Tryz.prog 47 #[.agg cs] w fun e w' => ∃ g c', e = .returned (.slice (some ⟨g, 0, none⟩) r c') ∧ w.heap.size ≤ g ∧ g < w'.heap.size ∧ KRow w' .i64 (some ⟨g, 0, none⟩) r c' S ∧ Below w.heap.size w w' := by
  obtain ⟨na, nn, nc, ta, tn, tc, rfl, _⟩ := h.form
  have RK := Lib.hid (fun wz => rank_any ch (dm S r) r na nn nc ta tn tc wz (by omega))
  have CL := Lib.hid (fun a c wz h => cloneI_some a r c S wz h (by omega))
  have BB := Lib.hid ((Bag.start w).newRow (arrC ch ((r : Int) - 1) (dm S r) na nn nc ta tn tc) 32)
  have HR := Lib.hid BB.out.now.1
  have h0 : (0 : Int) ≤ r := by omega
  have h8 : (r : Int) ≤ 8 := by omega
  clear h
  unfold arrC
  go_enter Tryz.func47, Tryz.ntmps47
  go_wp2_with (refine ld_arr rfl (.tmp 1) rfl w.heap.size rfl HR.out ?_)
  go_at_call 44
  (with_reducible refine (RK.out _).mono ?_)
  rintro e w2 ⟨rfl, hb2⟩
  have BB := Lib.hid (BB.out.go hb2)
  clear hb2
  go_wp2_with fail
  go_at_call 78
  (with_reducible refine (CL.out _ _ _ ?_).mono ?_)
  · exact KRow.of_box BB.out.now.1 hr
  rintro e w3 ⟨g3, c3, rfl, hg3, hg4, hk3, hb3⟩
  have HE : Hid (w.heap.size ≤ g3 ∧ g3 < w3.heap.size ∧ KRow w3 .i64 (some ⟨g3, 0, none⟩) r c3 S ∧ Below w.heap.size w w3) := ⟨Nat.le_trans BB.out.below.size hg3, hg4, hk3, (BB.out.go hb3).below⟩
  clear hk3 hb3 hg3 hg4
  go_wp2
  go_ret
  exact ⟨_, _, rfl, HE.out⟩
theorem Scr.cell {gb nb : Nat} {w wz : World} (h : Scr gb nb w wz) {p : Addr} (hl : p.block < w.heap.size) (hne : p.block ≠ gb) : wz.cell? p = w.cell? p := World.cell?_of_block (h.1.block _ hl hne)
theorem Scr.krow {gb nb g n c : Nat} {f : Nat → Int} {w wz : World} (h : Scr gb nb w wz) (q : KRow w .i64 (some ⟨g, 0, none⟩) n c f) (hne : g ≠ gb) : KRow wz .i64 (some ⟨g, 0, none⟩) n c f := by
  refine ⟨q.1, q.2.1, q.2.2.imp id ?_⟩
  rintro ⟨b, off, e, hl, hc⟩
  cases e
  exact ⟨_, _, rfl, Nat.lt_of_lt_of_le hl h.1.size, fun j hj => (h.cell (p := ⟨g, 0 + j, none⟩) hl hne).trans (hc j hj)⟩
theorem ent_cpick1 : Enters Tryz.prog 80 := enters_of Tryz.func80 (by kernel_rfl) rfl
set_option maxHeartbeats 3200000 in
set_option maxRecDepth 100000 in
theorem cpick1_any (gF gI gW gb g1 c1 r M : Nat) (S T : Nat → Int) (aF : Option Addr) (cF : Nat) (A : Nat → Option Addr) (N C : Nat → Nat) (F : Nat → Nat → Int) (w0 w : World) (hb : Below w0.heap.size w0 w) (hgb : w0.heap.size ≤ gb)
    (hF : w.cell? ⟨gF, 0, none⟩ = some (.slice aF r cF)) (lF : gF < w.heap.size) (nF : gF ≠ gb) (hI : w.cell? ⟨gI, 0, none⟩ = some (.slice (some ⟨gb, 0, none⟩) r r)) (lI : gI < w.heap.size) (nI : gI ≠ gb)
    (hW : w.cell? ⟨gW, 0, none⟩ = some (.slice (some ⟨g1, 0, none⟩) r c1)) (lW : gW < w.heap.size) (nW : gW ≠ gb) (hL : LRow w0 aF r cF A N C F) (hT : ∀ j, j < r → T j = (N j : Int)) (hTs : shB T r = true) (hM : itm T r = (M : Nat)) (hFb : ∀ j q, j < r → q < N j → -1000000000 ≤ F j q ∧ F j q ≤ 1000000000)
    (hS : KRow w .i64 (some ⟨g1, 0, none⟩) r c1 S) (nS : g1 ≠ gb) (hsh : shB S r = true) (hS64 : In64 S r) :
    GivesW 80 #[.pointer (some ⟨gF, 0, none⟩), .pointer (some ⟨gI, 0, none⟩), .pointer (some ⟨gW, 0, none⟩)] gb r (pkG S T r F) T r M w := by
  intro wz hz k hk g2 hg2 hx
  show Calls Tryz.prog 80 #[.slice (some ⟨g2, 0, none⟩) r r, .pointer (some ⟨gF, 0, none⟩), .pointer (some ⟨gI, 0, none⟩), .pointer (some ⟨gW, 0, none⟩)] wz _
  obtain ⟨h8, hax⟩ := sh_ax hTs
  have hpos := itm_pos hax (show (0 : Int) ≤ (k : Nat) by omega) (show ((k : Nat) : Int) < itm T r by omega)
  obtain ⟨hin, _⟩ := dgs_in hpos (show (0 : Int) ≤ (k : Nat) by omega) (show ((k : Nat) : Int) < itm T r by omega)
  have HD : Hid (∀ j, j < r → 0 ≤ dgs T r (k : Nat) j ∧ (dgs T r (k : Nat) j).toNat < N j) := Lib.hid (fun j hj => by
    have h1 := inB_at hin hj
    have h2 := hT j hj
    omega)
  have hsz0 := hb.size
  have HBL := Lib.hid (hz.1.below hb hgb hsz0)
  have HL := Lib.hid hL
  have HFB := Lib.hid hFb
  have uF := (hz.cell (p := ⟨gF, 0, none⟩) lF nF).trans hF
  have uI := (hz.cell (p := ⟨gI, 0, none⟩) lI nI).trans hI
  have uW := (hz.cell (p := ⟨gW, 0, none⟩) lW nW).trans hW
  have HX := Lib.hid hx
  have HS := Lib.hid (hz.krow hS nS)
  have hgz : gb < wz.heap.size := by obtain ⟨x, q⟩ := hz.2; exact q.1
  have hlF := Nat.lt_of_lt_of_le lF hz.1.size
  have hlI := Nat.lt_of_lt_of_le lI hz.1.size
  have hlW := Nat.lt_of_lt_of_le lW hz.1.size
  have H0 : Hid (∃ x, Wrote gb 0 r wz wz ∧ IBox wz gb r x ∧ ∀ a, a < 0 → x a = pkI F (dgs T r (k : Nat)) a) := Lib.hid (by
    obtain ⟨x, q⟩ := hz.2
    exact ⟨x, Wrote.refl _ _ _ _, q, fun a ha => absurd ha (Nat.not_lt_zero _)⟩)
  have PLC := Lib.hid (fun wy x (q1 : KRow wy .i64 (some ⟨g1, 0, none⟩) r c1 S) (q2 : KRow wy .i64 (some ⟨gb, 0, none⟩) r r x) (q3 : In64 x r) => place_any (some ⟨g1, 0, none⟩) r c1 S (some ⟨gb, 0, none⟩) r r x wy q1 hS64 q2 q3)
  unfold PlTold at PLC
  have HPK : Hid (∀ x, (∀ a, a < r → x a = pkI F (dgs T r (k : Nat)) a) → shP S r x r = inB S (pkI F (dgs T r (k : Nat))) r ∧ plI S r x r = if inB S (pkI F (dgs T r (k : Nat))) r then plc S (pkI F (dgs T r (k : Nat))) r else 0) := Lib.hid (fun x hx => by
    have e := pkI_congr (F := fun a _ => x a) (F' := F) (d := dgs T r (k : Nat)) (S := S) (r := r) (fun j hj => hx j hj)
    have e0 : pkI (fun a _ => x a) (dgs T r (k : Nat)) = x := rfl
    rw [e0] at e
    have e1 : shP S r x r = inB S (pkI F (dgs T r (k : Nat))) r := by unfold shP; rw [hsh, decide_eq_true rfl, e.1]; rfl
    refine ⟨e1, ?_⟩
    unfold plI
    rw [e1, e.2])
  have HG : Hid (pkG S T r F k = if inB S (pkI F (dgs T r (k : Nat))) r then plc S (pkI F (dgs T r (k : Nat))) r else -1) := Lib.hid rfl
  have HP64 : Hid (∀ x, (∀ a, a < r → x a = pkI F (dgs T r (k : Nat)) a) → In64 x r) := Lib.hid (fun x hx j hj => by
    rw [hx j hj]
    have := hFb j _ hj (HD.out j hj).2
    show -9223372036854775808 ≤ F j (dgs T r (k : Nat) j).toNat ∧ F j (dgs T r (k : Nat) j).toNat ≤ 9223372036854775807
    omega)
  have HPI : Hid (∀ j, pkI F (dgs T r (k : Nat)) j = F j (dgs T r (k : Nat) j).toNat) := Lib.hid (fun _ => rfl)
  have hgne : g2 ≠ gb := hg2
  have hlF0 := hL.1
  have hlF1 := hL.2.1
  unfold maxLen at hlF1
  generalize pkG S T r F k = G at *
  generalize dgs T r (k : Nat) = d at *
  generalize inB S (pkI F d) r = B at *
  generalize plc S (pkI F d) r = pl at *
  generalize pkI F d = X at *
  clear hx hS hF hI hW hL hT hTs hM hsh hS64 hax hpos hin hFb
  go_enter Tryz.func80, Tryz.ntmps80
  go_wp2_with fail
  go_loopw [12] (fun i wr => ∃ j : Nat, j ≤ r ∧ i = .int .i64 j ∧ Hid (∃ x, Wrote gb 0 r wz wr ∧ IBox wr gb r x ∧ ∀ a, a < j → x a = X a)) (fun i _ => r - (intOf i).toNat)
  case atStart => exact ⟨0, by omega, rfl, H0.out⟩
  case round =>
    obtain ⟨j, hj, rfl, hrel⟩ := hrel
    obtain ⟨x, hwr, hbox, hxa⟩ := hrel.out
    have hsw : Scr gb r wz wr := ⟨hwr, x, hbox⟩
    have uF2 := (hsw.cell (p := ⟨gF, 0, none⟩) hlF nF).trans uF
    have uI2 := (hsw.cell (p := ⟨gI, 0, none⟩) hlI nI).trans uI
    have uW2 := (hsw.cell (p := ⟨gW, 0, none⟩) hlW nW).trans uW
    by_cases hlt : j < r
    · have hbl := hwr.below HBL.out hgb (by have := HBL.out.size; omega)
      obtain ⟨bF, oF, haF, hbF, hcF, hrow, _⟩ := (HL.out.below hbl).get hlt
      cases haF
      obtain ⟨hd0, hd1⟩ := HD.out j hlt
      obtain ⟨bx, ox, hax2, hbx2, hcx⟩ := (hsw.krow HX.out hgne).get hlt
      cases hax2
      obtain ⟨q, hq⟩ : ∃ q : Nat, d j = q := ⟨(d j).toNat, by omega⟩
      have hqn : (d j).toNat = q := by omega
      rw [hqn] at hd1
      obtain ⟨bA, oA, haA, hbA, hcA⟩ := hrow.get hd1
      have hNC := hrow.len
      rw [hq, Nat.zero_add] at hcx
      rw [haA] at hcF
      have hj0 : (0 : Int) ≤ j := by omega
      have hj1 : (j : Int) < r := by omega
      have hq0 : (0 : Int) ≤ q := by omega
      have hq1 : (q : Int) < N j := by omega
      have x1 := hbox.2.2 j hlt
      have y1 := hbox.2.1 j
      have HN : Hid (∃ x, Wrote gb 0 r wz (wr.drew.setCell ⟨gb, j, none⟩ (.int .i64 (F j q))) ∧ IBox (wr.drew.setCell ⟨gb, j, none⟩ (.int .i64 (F j q))) gb r x ∧ ∀ a, a < j + 1 → x a = X a) := Lib.hid ⟨_, hwr.drew.setCell (Nat.zero_le j) hlt _, (show IBox wr.drew gb r x from hbox).set hlt (F j q), fun a ha => by
        show (if a = j then F j q else x a) = X a
        by_cases e : a = j
        · subst e; rw [if_pos rfl, HPI.out a, hqn]
        · rw [if_neg e]; exact hxa a (by omega)⟩
      have z1 : wr.drew.cell? ⟨gb, j, none⟩ = some (.int .i64 (x j)) := x1
      have z2 : wr.drew.frozen? ⟨gb, j, none⟩ = false := y1
      clear hrel hwr hbox hxa hsw hbl hrow hd0 hd1 hqn uW2
      generalize F j q = y at *
      generalize x j = xj at *
      generalize N j = nj at *
      generalize C j = cj at *
      generalize d j = dj at *
      go_wp2_with fail
      go_still_tail 10, (by kernel_rfl)
      change wpList _ _ _ _ _ wr.drew
      clear x1 y1 uF2 uI2 hcF hcA hcx
      generalize wr.drew = Y2 at *
      go_wp2
      go_roundw
      case rel => exact ⟨j + 1, by omega, by go_num, HN.out⟩
      case measure => simp [intOf]; omega
    · have hjr : j = r := by omega
      subst j
      have hpk := HPK.out x hxa
      have PLC := Lib.hid (PLC.out wr x (hsw.krow HS.out nS) (hbox.krow (by unfold maxLen; omega)) (HP64.out x hxa))
      rw [hpk.1, hpk.2] at PLC
      have HWR := Lib.hid hsw
      clear hrel hwr hbox hxa hsw hpk
      cases B with
      | true =>
        rw [if_pos rfl] at PLC
        have hg0 := HG.out
        rw [if_pos rfl] at hg0
        go_wp2_with fail
        go_at_call 81
        (with_reducible refine PLC.out.mono ?_)
        rintro e w5 ⟨rfl, hb5⟩
        have HE : Hid (Scr gb r wz w5) := Lib.hid (by
          obtain ⟨q1, x, q2⟩ := HWR.out
          exact ⟨q1.trans (Wrote.of_below hb5 q2.1), x, q2.below hb5⟩)
        rw [← hg0]
        clear hb5 hg0
        go_wp2
        go_ret
        exact ⟨rfl, HE.out⟩
      | false =>
        rw [if_neg (by decide)] at PLC
        have hg0 := HG.out
        rw [if_neg (by decide)] at hg0
        go_wp2_with fail
        go_at_call 81
        (with_reducible refine PLC.out.mono ?_)
        rintro e w5 ⟨rfl, hb5⟩
        have HE : Hid (Scr gb r wz w5) := Lib.hid (by
          obtain ⟨q1, x, q2⟩ := HWR.out
          exact ⟨q1.trans (Wrote.of_below hb5 q2.1), x, q2.below hb5⟩)
        have HG0 := Lib.hid hg0
        clear hb5 hg0
        go_wp2
        go_ret
        exact ⟨by rw [HG0.out]; rfl, HE.out⟩
end Go.Proofs.YtpmcbnliogjknaaGreatDoor

namespace Go.Proofs.YtpmcbnliogjknaaGreatDoor
open Go Go.RowKit
section
variable {P : Program} {md : Region.Mode} {ops : Array Oper} {Q : Exit → Act → World → Prop} {L : Plan} {p : Nat → List (Option Value) → World → Prop} {B : World → Prop} {a0 : Act}
theorem wpAny_inv5 (ok : L.ok md ops a0.tmps.size = true) (hal : L.al.all (fun i => (dstI ops i).isSome) = true) (stay : ∀ j v w w', Below w.heap.size w w' → p j v w → p j v w') (steps : Stps2 P ops Q L p B a0 0 ops.toList)
    (done : ∀ a w, a.tmps.size = a0.tmps.size → a.defers = a0.defers → (∀ t, stays ops t = true → a.tmps[t]? = a0.tmps[t]?) → B w → (∀ j, j < ops.size → p j (vw a (L.D j)) w) → (∀ i ∈ L.al, ∀ j ∈ L.al, i ≠ j → i < ops.size → j < ops.size → ∀ k, Ptr2 a ops i k → ¬ Ptr2 a ops j k) → Q .normal a w) :
    ∀ (fuel : Nat) (listed : Array Bool) (a : Act) (w : World), Inv2 md ops L p B a0 listed a w → (List.range ops.size).countP (fun i => !listed.getD i true) ≤ fuel → wpAny P md ops Q fuel listed a w := by
  intro fuel
  induction fuel with
  | zero =>
    intro listed a w I hc
    have hall : ∀ j, j < ops.size → listed.getD j true = true := by
      intro j hj
      have := List.countP_eq_zero.1 (Nat.le_zero.1 hc) j (List.mem_range.2 hj)
      simpa using this
    have hr : Region.ready md ops listed = [] := by
      rw [List.eq_nil_iff_forall_not_mem]
      intro j hj
      obtain ⟨h1, o, h2, _⟩ := mem_ready.1 hj
      rw [hall j (Array.getElem?_eq_some_iff.1 h2).1] at h1; cases h1
    exact ⟨hr, done a w I.asz I.dfs I.old I.bag (fun j hj => I.fct j (ready_all ok I.lsz hr j hj)) (fun i hi j hj hne h1 h2 => I.apt i hi j hj hne (ready_all ok I.lsz hr i h1) (ready_all ok I.lsz hr j h2))⟩
  | succ fuel ih =>
    intro listed a w I hc
    refine ⟨fun hr => done a w I.asz I.dfs I.old I.bag (fun j hj => I.fct j (ready_all ok I.lsz hr j hj)) (fun i hi j hj hne h1 h2 => I.apt i hi j hj hne (ready_all ok I.lsz hr i h1) (ready_all ok I.lsz hr j h2)), fun i hi => ?_⟩
    obtain ⟨hu, o, ho, hr⟩ := mem_ready.1 hi
    have hio : i < ops.size := (Array.getElem?_eq_some_iff.1 ho).1
    have hst := steps.get i o (by rw [Array.getElem?_toList]; exact ho)
    rw [Nat.zero_add] at hst
    have hpre : ∀ e ∈ L.pre i, listed.getD e false = true := by
      intro e he
      rcases (Plan.ok_spec ok hio).2.1 e he with h | ⟨k, hk, hek⟩
      · obtain ⟨x, h1, h2, rfl⟩ := (aft_mem ho).1 h; exact hr x h1 h2
      · obtain ⟨x, h1, h2, rfl⟩ := (aft_mem ho).1 hk; exact I.clo _ (hr x h1 h2) e hek
    refine wpOp_step ho (fun K hK => hst a w I.asz I.old I.bag (fun j hj => I.fct j (hpre j hj)) K (fun v w' G => hK _ _ (ih _ _ _ (I.step ok hal stay ho hu hr G) ?_)))
    have hil : i < listed.size := by rw [I.lsz]; exact hio
    have hun : listed[i] = false := by simpa [hil] using hu
    have := cnt_set (fun j => !listed.getD j true) (fun j => !(listed.setIfInBounds i true).getD j true) i (by simp [hil, hun]) (by simp [hil]) (fun j hj => by simp [Ne.symm hj]) ops.size
    rw [if_pos hio] at this
    omega
/-- THE BEGINNING. -/
theorem wp_region_inv5 {id : Nat} {l : List Oper} {w : World} (L : Plan) (p : Nat → List (Option Value) → World → Prop) (B : World → Prop) (hm : P.follows .mixedOrders = true) (ok : L.ok .any l.toArray a0.tmps.size = true) (hal : L.al.all (fun i => (dstI l.toArray i).isSome) = true)
    (hB : B w.drew) (stay : ∀ j v w w', Below w.heap.size w w' → p j v w → p j v w')
    (done : ∀ a w, a.tmps.size = a0.tmps.size → a.defers = a0.defers → (∀ t, stays l.toArray t = true → a.tmps[t]? = a0.tmps[t]?) → B w → (∀ j, j < l.length → p j (vw a (L.D j)) w) → (∀ i ∈ L.al, ∀ j ∈ L.al, i ≠ j → i < l.length → j < l.length → ∀ k, Ptr2 a l.toArray i k → ¬ Ptr2 a l.toArray j k) → Q .normal a w)
    (steps : Stps2 P l.toArray Q L p B a0 0 l) :
    (Code.region id l.toArray true).wp P Q a0 w := by
  refine wp_region_any hm (wpAny_inv5 ok hal stay steps (fun a w h1 h2 h3 h4 h5 h6 => done a w h1 h2 h3 h4 (fun j hj => h5 j (by simpa using hj)) (fun i hi j hj hne q1 q2 => h6 i hi j hj hne (by simpa using q1) (by simpa using q2))) _ _ _ _ ⟨by simp, rfl, rfl, fun _ _ => rfl, hB, ?_, ?_, ?_, ?_⟩ ?_)
  · intro j hj; rw [lg0] at hj; cases hj
  · intro j hj; rw [lg0] at hj; cases hj
  · intro j _ hj; rw [lg0] at hj; cases hj
  · intro j _ i _ _ hj; rw [lg0] at hj; cases hj
  · exact Nat.le_trans List.countP_le_length (by simp)
end
end Go.Proofs.YtpmcbnliogjknaaGreatDoor

namespace Go.Proofs.YtpmcbnliogjknaaGreatDoor
open Go.RowKit
set_option maxHeartbeats 1600000 in
set_option maxRecDepth 100000 in
theorem places_no (a : Option Addr) (n c : Nat) (f : Nat → Int) (v : Value) (w : World) (h : KRow w .i64 a n c f) (hf : In64 f n) (hs : shB f n = false) :
    Calls Tryz.prog 79 #[.slice a n c, v] w fun e w' => e = .returned (.slice none 0 0) ∧ w = w' := by
  have hl := h.len
  have CN := Lib.hid (count_any a n c f w h hf)
  unfold CntTold at CN
  rw [hs] at CN
  generalize cntI f n = x at *
  clear h hf hs
  go_enter Tryz.func79, Tryz.ntmps79
  go_wp2_with fail
  go_at_call 94
  (with_reducible refine (CN.out).mono ?_)
  rintro e w1 ⟨rfl, rfl⟩
  go_wp2
  go_ret
  exact ⟨rfl, rfl⟩
end Go.Proofs.YtpmcbnliogjknaaGreatDoor

namespace Go.Proofs.YtpmcbnliogjknaaGreatDoor
open Go.RowKit
set_option maxHeartbeats 1600000 in
set_option maxRecDepth 100000 in
theorem r7With_any (a : Option Addr) (n c : Nat) (f : Nat → Int) (i x : Int) (w : World) (h : KRow w .i64 a n c f) (hn : n ≤ 1000000) :
    Calls Tryz.prog 65 #[.slice a n c, .int .i64 i, .int .i64 x] w fun e w' => ∃ a' c', e = .returned (.slice a' n c') ∧ KRow w' .i64 a' n c' (wiF f i x) ∧ Below w.heap.size w w' := by
  obtain ⟨i0, hi, hz0, hz1, hz2⟩ := info_parts infoI
  have hl := h.len
  have H := Lib.hid h
  clear h
  go_enter Tryz.func65, Tryz.ntmps65
  go_wp2
  go_loopw [7, 8] (fun v j wr => ∃ (k : Nat) (a1 : Option Addr) (c1 : Nat), k ≤ n ∧ j = .int .i64 k ∧ v = .slice a1 k c1 ∧ Hid (Below w.heap.size w wr ∧ wr.ownsRow w.heap.size 3 1 (.slice a1 k c1) k (kcs .i64 (wiF f i x) k))) (fun _ j _ => n - (intOf j).toNat)
  case atStart => exact ⟨0, none, 0, by omega, rfl, rfl, Below.refl _ _, World.ownsRow_nil _ _ _ _⟩
  case round =>
    obtain ⟨k, a1, c1, hk, rfl, rfl, hrel⟩ := hrel
    obtain ⟨hbl, hown⟩ := hrel.out
    by_cases hlt : k < n
    · obtain ⟨b, off, rfl, hb, hc⟩ := (H.out.below hbl).get hlt
      have HMX := Lib.hid (show k + 1 ≤ maxLen by unfold maxLen; omega)
      have HMY := Lib.hid (show (k + 1) * 8 ≤ 140737488355328 by omega)
      have hwr := hbl.size
      have HW : Hid (∀ y, y = wiF f i x k → ∀ (v5 : Value) (w5 : World), w5.ownsRow w.heap.size 3 1 v5 (k + 1) (kcs .i64 (wiF f i x) k ++ [.int .i64 y]) → w5.ownsRow w.heap.size 3 1 v5 (k + 1) (kcs .i64 (wiF f i x) (k + 1))) := Lib.hid (fun y hy v5 w5 h => by subst hy; exact h)
      have HO2 := Lib.hid (fun y => own_below hown ((Below.refl _ _).alloc (Nat.le_refl _) (.cells #[.int .i64 y] 3)))
      have HNEW := Lib.hid (fun y => World.news_of_block (Row.new wr 3 #[.int .i64 y]))
      have HB2 := Lib.hid (fun y => hbl.trans ((Below.refl wr.heap.size wr).alloc (Nat.le_refl _) (.cells #[.int .i64 y] 3) |>.mono hwr))
      have HBA : Hid (∀ y, w.heap.size ≤ (wr.alloc (.cells #[.int .i64 y] 3)).heap.size) := Lib.hid (fun y => by rw [World.size_alloc]; omega)
      by_cases hik : (k : Int) = i
      · have hq : ((k : Int) == i) = true := beq_iff_eq.2 hik
        have HX := Lib.hid (show x = wiF f i x k by unfold wiF; rw [if_pos hik])
        have HW := Lib.hid (HW.out x HX.out)
        clear hik hbl hown hrel HX
        go_wp2_with (at_builtin; refine wpList_append_lies _ rfl (.tmp 18) (.tmp 20) 22 rfl w.heap.size 3 i0 _ 1 8 Tryz.underlying22 hi hz0 hz1 hz2 rfl (by omega) (.slice a1 k c1) k _ rfl (HO2.out x) ⟨wr.heap.size, 0, none⟩ 1 1 [.int .i64 x] rfl rfl (HNEW.out x) ?q1 (by omega) HMX.out HMY.out (HBA.out x) _ rfl ?_)
        case q1 => rfl
        intro g9 cap9 w5 hown5 hgrow _ _
        have HN2 := Lib.hid (And.intro ((HB2.out x).grown hgrow (HBA.out x) (fun q hq => ((HO2.out x).lt q hq).1)) (HW.out _ _ hown5))
        clear hown5 hgrow
        go_wp2
        go_roundw
        case rel => exact ⟨k + 1, _, cap9, by omega, by go_num, rfl, HN2.out⟩
        case measure => simp [intOf]; omega
      · have hq : ((k : Int) == i) = false := beq_eq_false_iff_ne.2 hik
        have HX := Lib.hid (show f k = wiF f i x k by unfold wiF; rw [if_neg hik])
        have HW := Lib.hid (HW.out (f k) HX.out)
        clear hik hbl hown hrel HX
        generalize f k = y at *
        go_wp2_with (at_builtin; refine wpList_append_lies _ rfl (.tmp 22) (.tmp 27) 22 rfl w.heap.size 3 i0 _ 1 8 Tryz.underlying22 hi hz0 hz1 hz2 rfl (by omega) (.slice a1 k c1) k _ rfl (HO2.out y) ⟨wr.heap.size, 0, none⟩ 1 1 [.int .i64 y] rfl rfl (HNEW.out y) ?q1 (by omega) HMX.out HMY.out (HBA.out y) _ rfl ?_)
        case q1 => rfl
        intro g9 cap9 w5 hown5 hgrow _ _
        have HN2 := Lib.hid (And.intro ((HB2.out y).grown hgrow (HBA.out y) (fun q hq => ((HO2.out y).lt q hq).1)) (HW.out _ _ hown5))
        clear hown5 hgrow
        go_wp2
        go_roundw
        case rel => exact ⟨k + 1, _, cap9, by omega, by go_num, rfl, HN2.out⟩
        case measure => simp [intOf]; omega
    · obtain rfl : k = n := by omega
      obtain ⟨a9, c9, he, hq⟩ := KRow.of_own hown
      injection he with he1 _ he2
      subst he1 he2
      have HE := Lib.hid (And.intro hq hbl)
      clear hbl hown hq hrel
      go_wp2
      go_ret
      exact ⟨_, _, rfl, HE.out⟩
end Go.Proofs.YtpmcbnliogjknaaGreatDoor

namespace Go.Proofs.YtpmcbnliogjknaaGreatDoor
open Go.RowKit
attribute [local go_sem ↓] Go.wp_at_zero Go.wp_at_succ
theorem IBox.setAt {w : World} {g n : Nat} {f : Nat → Int} {p : Addr} {x : Value} (h : IBox w g n f) (hp : w.cell? p = some x) (hx : ∀ z, x ≠ .int .i64 z) (v : Value) : IBox (w.setCell p v) g n f := by
  refine ⟨by simpa using h.1, h.2.1.set _ _, fun j hj => ?_⟩
  rw [World.cell?_setCell_other _ _ _ _ (fun e => by subst e; rw [h.2.2 j hj] at hp; exact hx _ (Option.some.inj hp).symm)]
  exact h.2.2 j hj
/-- The error of parts that are picked. -/
def pkE (T : Nat → Int) (r : Nat) : Int := if shB T r then 0 else 26
/-- The lengths of rows. -/
def lnF (N : Nat → Nat) : Nat → Int := fun j => (N j : Int)
set_option linter.unusedSimpArgs false in
set_option linter.unusedVariables false in
set_option maxHeartbeats 6400000 in
set_option maxRecDepth 100000 in
theorem cpicked_any (cs : Array Value) (S : Nat → Int) (r : Nat) (ch : Bool) (L : Nat) (g fP : Nat → Int) (fQ : Nat → Nat) (aF : Option Addr) (cF : Nat) (A : Nat → Option Addr) (N C : Nat → Nat) (F : Nat → Nat → Int) (w : World) (h : Arr w cs S r ch L g fP fQ) (hr : r ≤ 8) (hS64 : In64 S r) (hsh : shB S r = true) (hL : LRow w aF r cF A N C F) (hN : ∀ j, j < r → N j ≤ 1000000)
    (hFb : ∀ j q, j < r → q < N j → -1000000000 ≤ F j q ∧ F j q ≤ 1000000000) :
    Calls Tryz.prog 49 #[.agg cs, .slice aF r cF] w fun e w' => MoTold (pkE (lnF N) r) (lnF N) r ch (itm (lnF N) r).toNat (fun j => elC L g 32 (pkG S (lnF N) r F j)) (fun j => elP L fP (pkG S (lnF N) r F j)) (fun j => elQ L fQ (pkG S (lnF N) r F j)) w w' e := by
  obtain ⟨na, nn, nc, ta, tn, tc, hcs, _⟩ := h.form
  subst hcs
  obtain ⟨i0, hi, hz0, hz1, hz2⟩ := info_parts infoI
  have hmk := fun wz => run_make (P := Tryz.prog) wz 22 3 i0 _ Tryz.underlying22 hi hz0 .i64 .i64 r r (by omega) (by omega) (by rw [hz2]; omega) (by omega)
  simp only [Int.toNat_natCast, hz1, Nat.mul_one] at hmk
  have H := Lib.hid h
  have HL := Lib.hid hL
  have HN := Lib.hid hN
  have HFB := Lib.hid hFb
  obtain ⟨T, hT⟩ : ∃ T, lnF N = T := ⟨_, rfl⟩
  have HT : Hid (∀ j, T j = (N j : Int)) := Lib.hid (fun j => by rw [← hT]; rfl)
  rw [hT]
  have HT64 : Hid (In64 T r) := Lib.hid (fun j hj => by have := HT.out j; have := hN j hj; omega)
  have SH := Lib.hid (fun wz h => shape_new (arrC ch ((r : Int) - 1) (dm S r) na nn nc ta tn tc) S r ch L g fP fQ wz h hr)
  have BB := Lib.hid ((((Bag.start w).newRow (arrC ch ((r : Int) - 1) (dm S r) na nn nc ta tn tc) 32).newRow #[.slice aF r cF] 88).newRow zerC 32)
  simp only [World.size_alloc] at BB
  have K0 := KTo.made (((w.alloc (.cells (arrC ch ((r : Int) - 1) (dm S r) na nn nc ta tn tc) 32)).alloc (.cells #[.slice aF r cF] 88)).alloc (.cells zerC 32)) r 3 T rfl
  have B0 := BB.out.alloc (.cells (madeCells (Value.cells (.int .i64 0)) r) 3)
  simp only [World.size_alloc] at K0
  have H0 := Lib.hid (And.intro B0 K0)
  obtain ⟨G, hG⟩ : ∃ G, pkG S T r F = G := ⟨_, rfl⟩
  rw [hG]
  obtain ⟨eC, heC⟩ : ∃ f : Nat → Int, (fun j => elC L g 32 (G j)) = f := ⟨_, rfl⟩
  obtain ⟨eP, heP⟩ : ∃ f : Nat → Int, (fun j => elP L fP (G j)) = f := ⟨_, rfl⟩
  obtain ⟨eQ, heQ⟩ : ∃ f : Nat → Nat, (fun j => elQ L fQ (G j)) = f := ⟨_, rfl⟩
  rw [heC, heP, heQ]
  obtain ⟨EE, hEE⟩ : ∃ E, pkE T r = E := ⟨_, rfl⟩
  obtain ⟨MM, hMM⟩ : ∃ E, (itm T r).toNat = E := ⟨_, rfl⟩
  rw [hEE, hMM]
  have HNO : Hid (∀ E wz, E ≠ 0 → EE = E → Below w.heap.size w wz → MoTold EE T r ch MM eC eP eQ w (wz.setRow (w.heap.size + 1 + 1) zerC) (.returned (.tuple #[.agg zerC, .int .i64 E]))) := Lib.hid (fun E wz hE e hb => by
    subst e
    exact MoTold.no hE (below_put hb (show w.heap.size ≤ w.heap.size + 1 + 1 by omega) zerC))
  have HFIN : Hid (EE = 0 → ∀ y v, MoTold 0 T r ch MM eC eP eQ w y v → MoTold EE T r ch MM eC eP eQ w y v) := Lib.hid (fun e y v q => by rw [e]; exact q)
  have HEE := Lib.hid hEE
  have HMM := Lib.hid hMM
  have HGG := Lib.hid hG
  have HeC := Lib.hid (And.intro heC (And.intro heP heQ))
  clear hEE hMM hG heC heP heQ
  have HS64 := Lib.hid hS64
  have HSH := Lib.hid hsh
  have hl0 := hL.1
  have hl1 := hL.2.1
  unfold maxLen at hl1
  have hrn : (0 : Int) ≤ r := by omega
  clear h hL hN hFb hz1 hz2 hz0 hi K0 B0 hS64 hsh hT
  unfold arrC zerC at H0
  unfold arrC
  go_enter Tryz.func49, Tryz.ntmps49
  go_wp2_with fail
  go_loopw [19] (fun i wr => ∃ k : Nat, k ≤ r ∧ i = .int .i64 k ∧ Hid (Bag w (fun y => Row y (w.heap.size + 1 + 1) 32 zerC ∧ Row y (w.heap.size + 1) 88 #[.slice aF r cF] ∧ Row y w.heap.size 32 (arrC ch ((r : Int) - 1) (dm S r) na nn nc ta tn tc) ∧ True) wr ∧ KTo wr (w.heap.size + 1 + 1 + 1) r k T)) (fun i _ => r - (intOf i).toNat)
  case atStart => exact ⟨0, by omega, rfl, H0.out⟩
  case round =>
    obtain ⟨k, hk, rfl, hrel⟩ := hrel
    obtain ⟨hbg, hto⟩ := hrel.out
    by_cases hlt : k < r
    · obtain ⟨bF, oF, haF, hbF, hcF, hrow, _⟩ := (HL.out.below hbg.below).get hlt
      cases haF
      have hNk := HN.out k hlt
      have hNC := hrow.len
      have hk0 : (0 : Int) ≤ k := by omega
      have hk1 : (k : Int) < r := by omega
      obtain ⟨⟨z0, x1⟩, y1⟩ := hto.place hlt
      have hst := hto.step hlt
      rw [HT.out k] at hst
      have hne : bF ≠ w.heap.size + 1 + 1 + 1 := fun e => by
        obtain ⟨b', o', e1, e2, _⟩ := HL.out.get hlt
        cases e1
        omega
      have hbg2 : Bag w (fun y => Row y (w.heap.size + 1 + 1) 32 zerC ∧ Row y (w.heap.size + 1) 88 #[.slice (some ⟨bF, oF, none⟩) r cF] ∧ Row y w.heap.size 32 (arrC ch ((r : Int) - 1) (dm S r) na nn nc ta tn tc) ∧ True) (wr.setCell ⟨w.heap.size + 1 + 1 + 1, k, none⟩ (.int .i64 (N k : Int))) :=
        ⟨hbg.below.setCell (p := ⟨w.heap.size + 1 + 1 + 1, k, none⟩) (by show w.heap.size ≤ w.heap.size + 1 + 1 + 1; omega) _, hbg.stay, hbg.now.1.far (a := ⟨w.heap.size + 1 + 1 + 1, k, none⟩) (by show w.heap.size + 1 + 1 ≠ w.heap.size + 1 + 1 + 1; omega) _, hbg.now.2.1.far (a := ⟨w.heap.size + 1 + 1 + 1, k, none⟩) (by show w.heap.size + 1 ≠ w.heap.size + 1 + 1 + 1; omega) _, hbg.now.2.2.1.far (a := ⟨w.heap.size + 1 + 1 + 1, k, none⟩) (by show w.heap.size ≠ w.heap.size + 1 + 1 + 1; omega) _, trivial⟩
      have HNX := Lib.hid (And.intro hbg2 hst)
      clear hrel hbg hto hst hrow hbg2
      generalize N k = nk at *
      generalize A k = ak at *
      generalize C k = ck at *
      go_wp2
      go_roundw
      case rel => exact ⟨k + 1, by omega, by go_num, HNX.out⟩
      case measure => simp [intOf]; omega
    · have hkr : k = r := by omega
      subst k
      have HKS := Lib.hid (hto.done (by unfold maxLen; omega))
      have BY := Lib.hid (hbg.krow HKS.out)
      have hsy : w.heap.size + 1 + 1 + 1 < wr.heap.size := hto.1
      clear hrel hbg hto hlt hk
      go_wp2_with fail
      generalize hYY : wr = YY at *
      clear hYY
      refine wp_region_inv5 ⟨(fun j => ([[30], [31], [32], [33], [34], [9], [10], [9, 31], [10, 34]] : List (List Nat)).getD j []), (fun j => ([[], [0], [], [2], [2, 3], [], [], [0, 1, 5], [0, 1, 2, 3, 4, 5, 6, 7]] : List (List Nat)).getD j []), [1, 4, 5, 6]⟩ (fun jj vv yy => match jj with
        | 0 => vv = [some (.agg (arrC ch ((r : Int) - 1) (dm S r) na nn nc ta tn tc))]
        | 1 => ∃ (g1 c1 : Nat), vv = [some (.slice (some ⟨g1, 0, none⟩) r c1)] ∧ KRow yy .i64 (some ⟨g1, 0, none⟩) r c1 S
        | 2 => vv = [some (.slice aF r cF)]
        | 3 => vv = [some (.int .i64 r)]
        | 4 => ∃ (g4 : Nat), vv = [some (.slice (some ⟨g4, 0, none⟩) r r)] ∧ IBox yy g4 r (fun _ => 0) ∧ YY.heap.size ≤ g4
        | 5 => ∃ (k5 : Nat) (z5 : Value), vv = [some (.pointer (some ⟨k5, 0, none⟩))] ∧ Row yy k5 22 #[z5] ∧ (∀ z, z5 ≠ .int .i64 z) ∧ YY.heap.size ≤ k5
        | 6 => ∃ (k6 : Nat) (z6 : Value), vv = [some (.pointer (some ⟨k6, 0, none⟩))] ∧ Row yy k6 22 #[z6] ∧ (∀ z, z6 ≠ .int .i64 z) ∧ YY.heap.size ≤ k6
        | 7 => ∃ (k5 g1 c1 : Nat), vv = [some (.pointer (some ⟨k5, 0, none⟩)), some (.slice (some ⟨g1, 0, none⟩) r c1)] ∧ Row yy k5 22 #[.slice (some ⟨g1, 0, none⟩) r c1] ∧ KRow yy .i64 (some ⟨g1, 0, none⟩) r c1 S
        | 8 => ∃ (k6 g4 : Nat), vv = [some (.pointer (some ⟨k6, 0, none⟩)), some (.slice (some ⟨g4, 0, none⟩) r r)] ∧ Row yy k6 22 #[.slice (some ⟨g4, 0, none⟩) r r] ∧ IBox yy g4 r (fun _ => 0) ∧ YY.heap.size ≤ g4
        | _ => True) (Bag YY (fun _ => True)) (by kernel_rfl) (by kernel_rfl) (by kernel_rfl) (Bag.start YY).drew ?_ ?_ ?_
      · intro jj vv yw yw2 hb h
        match jj, h with
        | 0, h => exact h
        | 1, ⟨g1, c1, e1, q1⟩ => exact ⟨g1, c1, e1, q1.below hb⟩
        | 2, h => exact h
        | 3, h => exact h
        | 4, ⟨g4, e4, q4, q5⟩ => exact ⟨g4, e4, q4.below hb, q5⟩
        | 5, ⟨k5, z5, e5, q5, q6⟩ => exact ⟨k5, z5, e5, q5.below hb, q6⟩
        | 6, ⟨k6, z6, e6, q5, q6⟩ => exact ⟨k6, z6, e6, q5.below hb, q6⟩
        | 7, ⟨k5, g1, c1, e7, q5, q6⟩ => exact ⟨k5, g1, c1, e7, q5.below hb, q6.below hb⟩
        | 8, ⟨k6, g4, e8, q5, q6, q7⟩ => exact ⟨k6, g4, e8, q5.below hb, q6.below hb, q7⟩
        | _ + 9, h => exact h
      · intro ac yw hsz hdf hold hB hp hap
        obtain ⟨k5, g1, c1, e7, rk5, kS⟩ := hp 7 (by decide)
        obtain ⟨k6, g4, e8, rk6, bx4, hg4⟩ := hp 8 (by decide)
        have t9 : ac.tmps[9]? = some (.pointer (some ⟨k5, 0, none⟩)) := (List.cons.inj e7).1
        have t31 : ac.tmps[31]? = some (.slice (some ⟨g1, 0, none⟩) r c1) := (List.cons.inj (List.cons.inj e7).2).1
        have t10 : ac.tmps[10]? = some (.pointer (some ⟨k6, 0, none⟩)) := (List.cons.inj e8).1
        have t34 : ac.tmps[34]? = some (.slice (some ⟨g4, 0, none⟩) r r) := (List.cons.inj (List.cons.inj e8).2).1
        have n14 : g1 ≠ g4 := fun e => hap 1 (by decide) 4 (by decide) (by decide) (by decide) (by decide) g1 ⟨31, _, by kernel_rfl, t31, rfl⟩ ⟨34, _, by kernel_rfl, t34, by rw [e]; rfl⟩
        have n54 : k5 ≠ g4 := fun e => hap 5 (by decide) 4 (by decide) (by decide) (by decide) (by decide) k5 ⟨9, _, by kernel_rfl, t9, rfl⟩ ⟨34, _, by kernel_rfl, t34, by rw [e]; rfl⟩
        have n64 : k6 ≠ g4 := fun e => hap 6 (by decide) 4 (by decide) (by decide) (by decide) (by decide) k6 ⟨10, _, by kernel_rfl, t10, rfl⟩ ⟨34, _, by kernel_rfl, t34, by rw [e]; rfl⟩
        have t2 : ac.tmps[2]? = some (.pointer (some ⟨w.heap.size, 0, none⟩)) := hold 2 (by kernel_rfl)
        have t3 : ac.tmps[3]? = some (.pointer (some ⟨w.heap.size + 1, 0, none⟩)) := hold 3 (by kernel_rfl)
        have t4 : ac.tmps[4]? = some (.pointer (some ⟨w.heap.size + 1 + 1, 0, none⟩)) := hold 4 (by kernel_rfl)
        have t6 : ac.tmps[6]? = some (.slice (some ⟨w.heap.size + 1 + 1 + 1, 0, none⟩) r r) := hold 6 (by kernel_rfl)
        have BZ := BY.out.go hB.below
        have hszy := hB.below.size
        have PN := Lib.hid (fun (hs : shB T r = false) v => places_no (some ⟨w.heap.size + 1 + 1 + 1, 0, none⟩) r r T v yw BZ.now.1 HT64.out hs)
        have PY := Lib.hid (fun (hs : shB T r = true) M (hM : itm T r = (M : Nat)) => placesW_any 80 #[.pointer (some ⟨w.heap.size + 1, 0, none⟩), .pointer (some ⟨k6, 0, none⟩), .pointer (some ⟨k5, 0, none⟩)] ent_cpick1 (some ⟨w.heap.size + 1 + 1 + 1, 0, none⟩) r r T M (pkG S T r F) yw BZ.now.1 HT64.out hs hM g4 r bx4.1 ⟨_, bx4⟩ (fun x hx => by cases hx; show w.heap.size + 1 + 1 + 1 ≠ g4; omega)
          (cpick1_any (w.heap.size + 1) k6 k5 g4 g1 c1 r M S T aF cF A N C F w yw BZ.below (by have := BY.out.below.size; omega) (BZ.now.2.2.1.cell 0) BZ.now.2.2.1.lt (by omega) (rk6.cell 0) rk6.lt n64 (rk5.cell 0) rk5.lt n54 HL.out (fun j _ => HT.out j) hs hM HFB.out kS n14 HSH.out HS64.out))
        have HBX := Lib.hid bx4.1
        have HGE : Hid (w.heap.size + 1 + 1 + 1 < g4) := Lib.hid (by omega)
        have BY := Lib.hid BZ
        clear hold hp hap e7 e8 rk5 rk6 kS bx4 hg4 n14 n54 n64 hB BZ hszy
        obtain ⟨TW, hTW⟩ : ∃ TW : Nat → Value, ∀ i, (ac.tmps[i]?).getD undef = TW i := ⟨_, fun _ => rfl⟩
        have f2 := (hTW 2).symm.trans (congrArg (fun x => Option.getD x undef) t2)
        have f3 := (hTW 3).symm.trans (congrArg (fun x => Option.getD x undef) t3)
        have f4 := (hTW 4).symm.trans (congrArg (fun x => Option.getD x undef) t4)
        have f6 := (hTW 6).symm.trans (congrArg (fun x => Option.getD x undef) t6)
        have f9 := (hTW 9).symm.trans (congrArg (fun x => Option.getD x undef) t9)
        have f10 := (hTW 10).symm.trans (congrArg (fun x => Option.getD x undef) t10)
        have hac := act_eq (n := 49) hsz TW hTW
        rw [show ((List.range 49).map TW).toArray = #[TW 0, TW 1, TW 2, TW 3, TW 4, TW 5, TW 6, TW 7, TW 8, TW 9, TW 10, TW 11, TW 12, TW 13, TW 14, TW 15, TW 16, TW 17, TW 18, TW 19, TW 20, TW 21, TW 22, TW 23, TW 24, TW 25, TW 26, TW 27, TW 28, TW 29, TW 30, TW 31, TW 32, TW 33, TW 34, TW 35, TW 36, TW 37, TW 38, TW 39, TW 40, TW 41, TW 42, TW 43, TW 44, TW 45, TW 46, TW 47, TW 48] from rfl, f2, f3, f4, f6, f9, f10, hdf] at hac
        simp only [Option.getD_some] at hac
        subst hac
        clear hTW f2 f3 f4 f6 f9 f10
        cases hs : shB T r with
        | false =>
          have hE : EE = 26 := by rw [← HEE.out]; unfold pkE; rw [hs]; rfl
          have PN := Lib.hid (PN.out hs)
          have PK := Lib.hid (fun wz (q : Arr wz (arrC ch ((r : Int) - 1) (dm S r) na nn nc ta tn tc) S r ch L g fP fQ) (q2 : KRow wz .i64 (some ⟨w.heap.size + 1 + 1 + 1, 0, none⟩) r r T) => pick8_any (arrC ch ((r : Int) - 1) (dm S r) na nn nc ta tn tc) S r ch L g fP fQ (some ⟨w.heap.size + 1 + 1 + 1, 0, none⟩) r r T none 0 0 (fun _ => 0) wz q q2 HT64.out (KRow.nought _ _ _ _ (by unfold maxLen; omega) _) (fun j hj => absurd hj (Nat.not_lt_zero _)) (by omega))
          unfold ArrTold at PK
          rw [hs, Bool.false_and] at PK
          clear PY hs
          go_wp2_with fail
          go_at_call 79
          (with_reducible refine (PN.out _).mono ?_)
          rintro e w5 ⟨rfl, rfl⟩
          have HR3 := Lib.hid BY.out.now.2.2.2.1
          go_wp2_with (refine ld_arr rfl (.tmp 2) rfl w.heap.size rfl HR3.out ?_)
          go_at_call 45
          (with_reducible refine (PK.out _ (H.out.below BY.out.below) BY.out.now.1).mono ?_)
          rintro e w6 ⟨cs6, rfl, hcs, hb6⟩
          rw [if_neg (by decide)] at hcs
          subst hcs
          have B6 := (BY.out.go hb6).alloc (.cells zerC 32)
          have HZ := Lib.hid B6.now.2.1
          have HE := Lib.hid (HNO.out 26 _ (by decide) hE B6.below)
          clear hb6 B6
          unfold zerC arrC
          unfold zerC arrC at HZ
          go_wp2_with (refine st_arr rfl (.tmp 4) (.tmp 47) rfl (w.heap.size + 1 + 1) rfl false 0 (fun _ => 0) none 0 0 none 0 0 rfl HZ.out rfl ?_)
          exact bodyPost_ret (res_arr2 Tryz.results49 rfl rfl (HZ.out.put _) rfl) rfl HE.out
        | true =>
          have hE : EE = 0 := by rw [← HEE.out]; unfold pkE; rw [hs]; rfl
          have hbd := ax_bd (sh_ax hs).2
          obtain ⟨M, hM⟩ : ∃ M : Nat, itm T r = (M : Nat) := ⟨(itm T r).toNat, by omega⟩
          have hMM : M = MM := by rw [← HMM.out, hM]; rfl
          subst hMM
          have PY := Lib.hid (PY.out hs M hM)
          have hG64 : In64 G M := fun j _ => by have := pkG_bd (S := S) (T := T) (r := r) (F := F) HSH.out j; rw [HGG.out] at this; omega
          have PK := Lib.hid (fun ap cp wz (q : Arr wz (arrC ch ((r : Int) - 1) (dm S r) na nn nc ta tn tc) S r ch L g fP fQ) (q2 : KRow wz .i64 (some ⟨w.heap.size + 1 + 1 + 1, 0, none⟩) r r T) (q3 : KRow wz .i64 ap M cp G) => pick8_any (arrC ch ((r : Int) - 1) (dm S r) na nn nc ta tn tc) S r ch L g fP fQ (some ⟨w.heap.size + 1 + 1 + 1, 0, none⟩) r r T ap M cp G wz q q2 HT64.out q3 hG64 (by omega))
          unfold ArrTold at PK
          rw [hs, hM, decide_eq_true rfl, Bool.true_and, HeC.out.1, HeC.out.2.1, HeC.out.2.2] at PK
          rw [HGG.out] at PY
          have HFIN := Lib.hid (HFIN.out hE)
          clear PN hs hbd hM HNO hE hG64
          go_wp2_with fail
          go_at_call 79
          (with_reducible refine PY.out.mono ?_)
          rintro e w5 ⟨c5, rfl, hk5, hsc5⟩
          have hg5 := HGE.out
          have HBL5 := Lib.hid (hsc5.1.below BY.out.below (by omega) BY.out.below.size)
          have hrw : ∀ k5 t5 cs5, k5 < w.heap.size + 1 + 1 + 1 → Row yw k5 t5 cs5 → Row w5 k5 t5 cs5 := fun k5 t5 cs5 hk q => (hsc5.1.block k5 q.lt (by omega)).trans q
          have HR5 := Lib.hid (hrw _ _ _ (by omega) BY.out.now.2.2.2.1)
          have HZ5 := Lib.hid (hrw _ _ _ (by omega) BY.out.now.2.1)
          have HK5 := Lib.hid hk5
          have HS5 := Lib.hid (hsc5.krow BY.out.now.1 (by omega))
          clear hk5 hsc5 hrw hg5
          go_wp2_with (refine ld_arr rfl (.tmp 2) rfl w.heap.size rfl HR5.out ?_)
          go_at_call 45
          (with_reducible refine (PK.out _ _ _ (H.out.below HBL5.out) HS5.out HK5.out).mono ?_)
          rintro e w6 ⟨cs6, rfl, hcs, hb6⟩
          first | rw [if_pos rfl] at hcs | rw [if_pos trivial] at hcs
          have HZ6 := Lib.hid (HZ5.out.below hb6)
          have HBB := Lib.hid (HBL5.out.trans (hb6.mono HBL5.out.size))
          have HCS := Lib.hid hcs
          obtain ⟨na3, nn3, nc3, ta3, tn3, tc3, hcs3, _⟩ := hcs.form
          subst hcs3
          have hb7 : Below w6.heap.size w6 (w6.alloc (.cells (arrC ch ((r : Int) - 1) (dm T r) na3 nn3 nc3 ta3 tn3 tc3) 32)) := (Below.refl _ _).alloc (Nat.le_refl _) _
          have HR6 := Lib.hid (Row.new w6 32 (arrC ch ((r : Int) - 1) (dm T r) na3 nn3 nc3 ta3 tn3 tc3))
          have HZ7 := Lib.hid (HZ6.out.below hb7)
          have HE := Lib.hid (HFIN.out _ _ (MoTold.yes ((HCS.out.below hb7).put HZ7.out (arrC ch ((r : Int) - 1) (dm T r) na3 nn3 nc3 ta3 tn3 tc3)) (below_put (HBB.out.trans (hb7.mono HBB.out.size)) (show w.heap.size ≤ w.heap.size + 1 + 1 by omega) (arrC ch ((r : Int) - 1) (dm T r) na3 nn3 nc3 ta3 tn3 tc3))))
          clear hcs hb6 hb7
          unfold arrC
          unfold arrC at HZ7
          go_wp2_with (first
            | (refine ld_arr rfl (.tmp 12) rfl w6.heap.size rfl HR6.out ?_)
            | (refine st_arr rfl (.tmp 4) (.tmp 48) rfl (w.heap.size + 1 + 1) rfl _ _ _ _ _ _ _ _ _ rfl HZ7.out rfl ?_))
          exact bodyPost_ret (res_arr2 Tryz.results49 rfl rfl (HZ7.out.put _) rfl) rfl HE.out
      refine Stps2.cons (o := _) ?_ ?_
      · intro ac yw hsz hold hB hp K hK
        have t2 : ac.tmps[2]? = some (.pointer (some ⟨w.heap.size, 0, none⟩)) := hold 2 (by kernel_rfl)
        clear hold hp hsz
        rw [if_pos (by rfl)]
        refine ld8 2 rfl (w.heap.size) ((arrC ch ((r : Int) - 1) (dm S r) na nn nc ta tn tc)) t2 ((BY.out.go hB.below).now.2.2.2.1) (rfl) ?_
        exact hK.out _ _ ⟨hB, rfl, Nat.le_refl _, .inl (Below.refl _ _), fun h => absurd h (by decide)⟩
      refine Stps2.cons (o := _) ?_ ?_
      · intro ac yw hsz hold hB hp K hK
        have e0 := hp 0 (by decide)
        have t30 : ac.tmps[30]? = some (.agg (arrC ch ((r : Int) - 1) (dm S r) na nn nc ta tn tc)) := (List.cons.inj e0).1
        clear hold hp hsz e0
        go_simp
        (go_at_call 47; (with_reducible refine (SH.out _ (H.out.below (BY.out.go hB.below).below)).mono ?_); rintro e wz ⟨g1, c1, rfl, hge, hlt2, h1_0, hbz⟩)
        exact hK.out _ _ ⟨hB.go hbz, ⟨g1, c1, rfl, h1_0⟩, hbz.size, .inl hbz, fun _ => ⟨_, rfl, hge, hlt2⟩⟩
      refine Stps2.cons (o := _) ?_ ?_
      · intro ac yw hsz hold hB hp K hK
        have t3 : ac.tmps[3]? = some (.pointer (some ⟨w.heap.size + 1, 0, none⟩)) := hold 3 (by kernel_rfl)
        clear hold hp hsz
        have v0 : yw.cell? ⟨w.heap.size + 1, 0, none⟩ = some (.slice aF r cF) := (BY.out.go hB.below).now.2.2.1.cell 0
        go_simp
        exact hK.out _ _ ⟨hB, rfl, Nat.le_refl _, .inl (Below.refl _ _), fun h => absurd h (by decide)⟩
      refine Stps2.cons (o := _) ?_ ?_
      · intro ac yw hsz hold hB hp K hK
        have e2 := hp 2 (by decide)
        have t32 : ac.tmps[32]? = some (.slice aF r cF) := (List.cons.inj e2).1
        clear hold hp hsz e2
        go_simp
        exact hK.out _ _ ⟨hB, rfl, Nat.le_refl _, .inl (Below.refl _ _), fun h => absurd h (by decide)⟩
      refine Stps2.cons (o := _) ?_ ?_
      · intro ac yw hsz hold hB hp K hK
        have e3 := hp 3 (by decide)
        have t33 : ac.tmps[33]? = some (.int .i64 r) := (List.cons.inj e3).1
        have hbz : Below yw.heap.size yw (yw.alloc (.cells (madeCells (Value.cells (.int .i64 0)) r) 3)) ∧ yw.heap.size < (yw.alloc (.cells (madeCells (Value.cells (.int .i64 0)) r) 3)).heap.size := ⟨(Below.refl _ _).alloc (Nat.le_refl _) _, by rw [World.size_alloc]; omega⟩
        have hbx := IBox.made yw r 3 rfl
        clear hold hp hsz e3
        go_simp
        exact hK.out _ _ ⟨hB.alloc _, ⟨yw.heap.size, rfl, hbx, hB.below.size⟩, Nat.le_of_lt hbz.2, .inl hbz.1, fun _ => ⟨_, rfl, Nat.le_refl _, hbz.2⟩⟩
      refine Stps2.cons (o := _) ?_ ?_
      · intro ac yw hsz hold hB hp K hK
        clear hold hp hsz
        have hbz : Below yw.heap.size yw (yw.alloc (.cells #[.slice none 0 0] 22)) ∧ yw.heap.size < (yw.alloc (.cells #[.slice none 0 0] 22)).heap.size := ⟨(Below.refl _ _).alloc (Nat.le_refl _) _, by rw [World.size_alloc]; omega⟩
        go_simp
        exact hK.out _ _ ⟨hB.alloc _, ⟨yw.heap.size, .slice none 0 0, rfl, Row.new yw _ _, (fun _ h => by cases h), hB.below.size⟩, Nat.le_of_lt hbz.2, .inl hbz.1, fun _ => ⟨_, rfl, Nat.le_refl _, hbz.2⟩⟩
      refine Stps2.cons (o := _) ?_ ?_
      · intro ac yw hsz hold hB hp K hK
        clear hold hp hsz
        have hbz : Below yw.heap.size yw (yw.alloc (.cells #[.slice none 0 0] 22)) ∧ yw.heap.size < (yw.alloc (.cells #[.slice none 0 0] 22)).heap.size := ⟨(Below.refl _ _).alloc (Nat.le_refl _) _, by rw [World.size_alloc]; omega⟩
        go_simp
        exact hK.out _ _ ⟨hB.alloc _, ⟨yw.heap.size, .slice none 0 0, rfl, Row.new yw _ _, (fun _ h => by cases h), hB.below.size⟩, Nat.le_of_lt hbz.2, .inl hbz.1, fun _ => ⟨_, rfl, Nat.le_refl _, hbz.2⟩⟩
      refine Stps2.cons (o := _) ?_ ?_
      · intro ac yw hsz hold hB hp K hK
        obtain ⟨k5, z5, e5, r5, nz5, hg5⟩ := hp 5 (by decide)
        have t9 : ac.tmps[9]? = some (.pointer (some ⟨k5, 0, none⟩)) := (List.cons.inj e5).1
        obtain ⟨g1, c1, e1, kS⟩ := hp 1 (by decide)
        have t31 : ac.tmps[31]? = some (.slice (some ⟨g1, 0, none⟩) r c1) := (List.cons.inj e1).1
        have v0 : yw.cell? ⟨k5, 0, none⟩ = some z5 := r5.cell 0
        have v1 := r5.free 0
        clear hold hp hsz e5 e1
        go_simp
        refine hK.out undef _ ⟨⟨hB.below.setCell (p := ⟨k5, 0, none⟩) hg5 _, fun _ _ _ _ => trivial, trivial⟩, ⟨k5, g1, c1, ?_, r5.set 0 _, kS.setAt v0 nz5 _⟩, by simp, .inr ?_, fun h => absurd h (by decide)⟩
        · exact (show [ac.tmps[9]?, ac.tmps[31]?] = _ by rw [t9, t31])
        intro jj hj hap h
        match jj, h with
        | 0, h => exact h
        | 1, ⟨g1', c1', e1', q1⟩ => exact ⟨g1', c1', e1', q1.setAt v0 nz5 _⟩
        | 2, h => exact h
        | 3, h => exact h
        | 4, ⟨g4', e4', q4, q5⟩ => exact ⟨g4', e4', q4.setAt v0 nz5 _, q5⟩
        | 5, ⟨k5', z5', e5', q5, q6, q7⟩ =>
          have e9 : k5' = k5 := by have := (List.cons.inj e5').1.symm.trans t9; cases this; rfl
          subst e9
          exact ⟨_, _, e5', q5.set 0 _, (fun _ h => by cases h), q7⟩
        | 6, ⟨k6', z6', e6', q5, q6, q7⟩ =>
          have n56 : k6' ≠ k5 := fun e => hap 5 (by decide) 6 (by decide) (by decide) (by decide) (.inr rfl) k5 ⟨9, _, by kernel_rfl, t9, rfl⟩ ⟨10, _, by kernel_rfl, (List.cons.inj e6').1, by rw [e]; rfl⟩
          exact ⟨k6', z6', e6', q5.far (a := ⟨k5, 0, none⟩) n56 _, q6, q7⟩
        | 7, _ => exact absurd rfl hj
        | 8, ⟨k6', g4', e8', q5, q6, q7⟩ =>
          have n56 : k6' ≠ k5 := fun e => hap 5 (by decide) 6 (by decide) (by decide) (by decide) (.inl (by decide)) k5 ⟨9, _, by kernel_rfl, t9, rfl⟩ ⟨10, _, by kernel_rfl, (List.cons.inj e8').1, by rw [e]; rfl⟩
          exact ⟨k6', g4', e8', q5.far (a := ⟨k5, 0, none⟩) n56 _, q6.setAt v0 nz5 _, q7⟩
        | _ + 9, h => exact h
      refine Stps2.cons (o := _) ?_ ?_
      · intro ac yw hsz hold hB hp K hK
        obtain ⟨k6, z6, e6, r6, nz6, hg6⟩ := hp 6 (by decide)
        have t10 : ac.tmps[10]? = some (.pointer (some ⟨k6, 0, none⟩)) := (List.cons.inj e6).1
        obtain ⟨g4, e4, bx4, hg4⟩ := hp 4 (by decide)
        have t34 : ac.tmps[34]? = some (.slice (some ⟨g4, 0, none⟩) r r) := (List.cons.inj e4).1
        have v0 : yw.cell? ⟨k6, 0, none⟩ = some z6 := r6.cell 0
        have v1 := r6.free 0
        clear hold hp hsz e6 e4
        go_simp
        refine hK.out undef _ ⟨⟨hB.below.setCell (p := ⟨k6, 0, none⟩) hg6 _, fun _ _ _ _ => trivial, trivial⟩, ⟨k6, g4, ?_, r6.set 0 _, bx4.setAt v0 nz6 _, hg4⟩, by simp, .inr ?_, fun h => absurd h (by decide)⟩
        · exact (show [ac.tmps[10]?, ac.tmps[34]?] = _ by rw [t10, t34])
        intro jj hj hap h
        match jj, h with
        | 0, h => exact h
        | 1, ⟨g1', c1', e1', q1⟩ => exact ⟨g1', c1', e1', q1.setAt v0 nz6 _⟩
        | 2, h => exact h
        | 3, h => exact h
        | 4, ⟨g4', e4', q4, q5⟩ => exact ⟨g4', e4', q4.setAt v0 nz6 _, q5⟩
        | 5, ⟨k5', z5', e5', q5, q6, q7⟩ =>
          have n56 : k5' ≠ k6 := fun e => hap 6 (by decide) 5 (by decide) (by decide) (by decide) (.inr rfl) k6 ⟨10, _, by kernel_rfl, t10, rfl⟩ ⟨9, _, by kernel_rfl, (List.cons.inj e5').1, by rw [e]; rfl⟩
          exact ⟨k5', z5', e5', q5.far (a := ⟨k6, 0, none⟩) n56 _, q6, q7⟩
        | 6, ⟨k6', z6', e6', q5, q6, q7⟩ =>
          have e9 : k6' = k6 := by have := (List.cons.inj e6').1.symm.trans t10; cases this; rfl
          subst e9
          exact ⟨_, _, e6', q5.set 0 _, (fun _ h => by cases h), q7⟩
        | 7, ⟨k5', g1', c1', e7', q5, q6⟩ =>
          have n56 : k5' ≠ k6 := fun e => hap 6 (by decide) 5 (by decide) (by decide) (by decide) (.inl (by decide)) k6 ⟨10, _, by kernel_rfl, t10, rfl⟩ ⟨9, _, by kernel_rfl, (List.cons.inj e7').1, by rw [e]; rfl⟩
          exact ⟨k5', g1', c1', e7', q5.far (a := ⟨k6, 0, none⟩) n56 _, q6.setAt v0 nz6 _⟩
        | 8, _ => exact absurd rfl hj
        | _ + 9, h => exact h
      exact Stps2.nil _
end Go.Proofs.YtpmcbnliogjknaaGreatDoor

namespace Go.Proofs.YtpmcbnliogjknaaGreatDoor
open Go.RowKit
theorem kcs_splice (ki : IntKind) {F G F' : Nat → Int} {M off m : Nat} (h : off + m ≤ M) (e1 : ∀ j, j < off → F' j = F j) (e2 : ∀ j, j < m → F' (off + j) = G j) (e3 : ∀ j, off + m ≤ j → j < M → F' j = F j) :
    splice (kcs ki F M) off (kcs ki G m) = kcs ki F' M := by
  have hF := kcs_length ki F M
  have hG := kcs_length ki G m
  have hF' := kcs_length ki F' M
  apply List.ext_getElem?
  intro j
  unfold splice
  rw [hG]
  rcases Nat.lt_or_ge j off with h1 | h1
  · rw [List.getElem?_append_left (by rw [List.length_take, hF]; omega), List.getElem?_take_of_lt h1, kcs_get ki F M j (by omega), kcs_get ki F' M j (by omega), e1 j h1]
  · rw [List.getElem?_append_right (by rw [List.length_take, hF]; omega), List.length_take, hF, Nat.min_eq_left (by omega)]
    rcases Nat.lt_or_ge j (off + m) with h2 | h2
    · rw [List.getElem?_append_left (by rw [hG]; omega), kcs_get ki G m (j - off) (by omega), kcs_get ki F' M j (by omega), ← e2 (j - off) (by omega), show off + (j - off) = j by omega]
    · rw [List.getElem?_append_right (by rw [hG]; omega), hG, List.getElem?_drop, show off + m + (j - off - m) = j by omega]
      rcases Nat.lt_or_ge j M with h3 | h3
      · rw [kcs_get ki F M j h3, kcs_get ki F' M j h3, e3 j h2 h3]
      · rw [List.getElem?_eq_none (by omega), List.getElem?_eq_none (by omega)]
theorem kcs_made (M : Nat) : madeCells (Value.cells (.int .i64 0)) M = (kcs .i64 (fun _ => 0) M).toArray := by
  apply Array.toList_inj.1
  have h : (madeCells (Value.cells (.int .i64 0)) M).toList = List.replicate M (.int .i64 0) := toList_madeCells_one (.int .i64 0) M
  rw [h]
  apply List.ext_getElem?
  intro j
  show _ = (kcs .i64 (fun _ => 0) M)[j]?
  rcases Nat.lt_or_ge j M with h3 | h3
  · rw [kcs_get _ _ _ _ h3, List.getElem?_replicate, if_pos h3]
  · rw [List.getElem?_eq_none (by rw [List.length_replicate]; omega), List.getElem?_eq_none (by rw [kcs_length]; omega)]
/-- The first ones laid. -/
def fst (x : Int) (n : Nat) : Nat → Int := fun j => if j < n then x else 0
set_option maxHeartbeats 3200000 in
set_option maxRecDepth 100000 in
theorem repeat1_at (a : Option Addr) (c : Nat) (f : Nat → Int) (M : Nat) (w : World) (h : KRow w .i64 a 1 c f) (hM : M ≤ 1000000) :
    Calls Tryz.prog 46 #[.slice a 1 c, .int .i64 M] w fun e w' => e = .returned (.slice (some ⟨w.heap.size, 0, none⟩) M M) ∧ KRow w' .i64 (some ⟨w.heap.size, 0, none⟩) M M (fun _ => f 0) ∧ Below w.heap.size w w' ∧ w.heap.size < w'.heap.size := by
  obtain ⟨i0, hi, hz0, hz1, hz2⟩ := info_parts infoI
  have hmk := fun wz => run_make (P := Tryz.prog) wz 22 3 i0 _ Tryz.underlying22 hi hz0 .i64 .i64 M M (by omega) (by omega) (by rw [hz2]; omega) (by omega)
  simp only [Int.toNat_natCast, hz1, Nat.mul_one] at hmk
  have hsz : (Tryz.prog.info? 3).map (·.size) = some 1 := by rw [hi, Option.map_some, hz1]
  obtain ⟨b, off, rfl, hb, hc⟩ := h.get (show 0 < 1 by omega)
  rw [Nat.add_zero] at hc
  generalize f 0 = x at *
  have MU : Hid (∀ wz, Calls Tryz.prog 77 #[.int .u64 1, .int .u64 (M : Nat)] wz fun e w' => e = .returned (.tuple #[.int .u64 0, .int .u64 (M : Nat)]) ∧ wz = w') := Lib.hid (fun wz => by
    have h0 := Tryz.bits_Mul 1 M (by omega) (by omega) wz
    rw [Nat.one_mul, Nat.div_eq_of_lt (by omega), Nat.mod_eq_of_lt (by omega)] at h0
    exact h0.mono (by rintro e w' ⟨rfl, rfl⟩; exact ⟨rfl, rfl⟩))
  have wu := IntWalk.u64_in (M : Int) (by omega)
  have wi := IntWalk.i64_in (M : Int) (by omega)
  have HR0 := Row.new w 3 (madeCells (Value.cells (.int .i64 0)) M)
  have hb0 : Below w.heap.size w (w.alloc (.cells (madeCells (Value.cells (.int .i64 0)) M) 3)) := (Below.refl _ _).alloc (Nat.le_refl _) _
  have hcb := (hb0.cell (p := ⟨b, off, none⟩) hb).trans hc
  rw [kcs_made] at hmk HR0 hb0 hcb
  have HG := Lib.hid HR0
  have HB := Lib.hid hb0
  have HLN : Hid ((kcs .i64 (fun _ => x) (min 1 M)).length = Nat.min 1 M) := Lib.hid (kcs_length _ _ _)
  have HPOS : Hid (∀ j v, (kcs .i64 (fun _ => x) (min 1 M))[j]? = some v → (w.alloc (.cells (kcs .i64 (fun _ => 0) M).toArray 3)).cell? ((⟨b, off, none⟩ : Addr).add j) = some v) := Lib.hid (fun j v hj => by
    have hj2 : j < min 1 M := by
      have := (List.getElem?_eq_some_iff.1 hj).1
      rwa [kcs_length] at this
    rw [kcs_get _ _ _ _ hj2] at hj
    obtain rfl := Option.some.inj hj
    obtain rfl : j = 0 := by omega
    rw [show (⟨b, off, none⟩ : Addr).add 0 = ⟨b, off, none⟩ by simp [Addr.add]]
    exact hcb)
  have HFIT : Hid (0 + (kcs .i64 (fun _ => x) (min 1 M)).length ≤ (kcs .i64 (fun _ => 0) M).length) := Lib.hid (by rw [kcs_length, kcs_length]; omega)
  have HONE := Lib.hid (kcs_one .i64 (fun _ => x) (min 1 M))
  have HSP : Hid (splice (kcs .i64 (fun _ => 0) M) 0 (kcs .i64 (fun _ => x) (min 1 M)) = kcs .i64 (fst x (min 1 M)) M) := Lib.hid (kcs_splice .i64 (by omega) (fun j hj => absurd hj (Nat.not_lt_zero _)) (fun j hj => by unfold fst; rw [if_pos (by omega)]) (fun j hj _ => by unfold fst; rw [if_neg (by omega)]))
  have hMn : (0 : Int) ≤ M := by omega
  clear h hi hz0 hz1 hz2 HR0 hb0 hcb
  go_enter Tryz.func46, Tryz.ntmps46
  go_wp2_with fail
  go_at_call 77
  (with_reducible refine (MU.out _).mono ?_)
  rintro e w1 ⟨rfl, rfl⟩
  go_wp2_with (refine wpList_copy_splice rfl (.tmp 31) (.tmp 32) 22 22 rfl 3 Tryz.underlying22 hsz (some ⟨w.heap.size, 0, none⟩) (some ⟨b, off, none⟩) M M 1 c rfl rfl w.heap.size 0 (kcs .i64 (fun _ => 0) M) 3 HG.out (kcs .i64 (fun _ => x) (min 1 M)) HLN.out (fun _ => ⟨rfl, _, rfl, HPOS.out⟩) HFIT.out HONE.out w.heap.size w HB.out (Nat.le_refl _) ?_)
  intro w2 hg2 hb2
  have hln := HLN.out
  rw [HSP.out] at hg2
  rw [hln]
  have H0 : Hid (Row w2 w.heap.size 3 (kcs .i64 (fst x (min 1 M)) M).toArray ∧ Below w.heap.size w w2) := Lib.hid ⟨hg2.out, hb2⟩
  clear hg2 hb2 HG HB HLN HPOS HFIT HONE HSP hln
  go_wp2_with fail
  go_loopw [8] (fun i wr => ∃ k : Nat, k ≤ M ∧ (M = 0 ∨ 1 ≤ k) ∧ i = .int .i64 k ∧ Hid (Row wr w.heap.size 3 (kcs .i64 (fst x k) M).toArray ∧ Below w.heap.size w wr)) (fun i _ => M - (intOf i).toNat)
  case atStart => exact ⟨min 1 M, by omega, by omega, rfl, H0.out⟩
  case round =>
    obtain ⟨k, hk, hk1, rfl, hrel⟩ := hrel
    by_cases hlt : k < M
    · have hk0 : 1 ≤ k := by omega
      have hki : (k : Int) < M := by omega
      have hkn : (0 : Int) ≤ k := by omega
      have HG := Lib.hid hrel.out.1
      have HB := Lib.hid hrel.out.2.drew
      have HLN : Hid ((kcs .i64 (fun _ => x) (min k (M - k))).length = Nat.min k (M - k)) := Lib.hid (kcs_length _ _ _)
      have HPOS : Hid (∀ j v, (kcs .i64 (fun _ => x) (min k (M - k)))[j]? = some v → wr.drew.cell? ((⟨w.heap.size, 0, none⟩ : Addr).add j) = some v) := Lib.hid (fun j v hj => by
        have hj2 : j < min k (M - k) := by
          have := (List.getElem?_eq_some_iff.1 hj).1
          rwa [kcs_length] at this
        rw [kcs_get _ _ _ _ hj2] at hj
        obtain rfl := Option.some.inj hj
        rw [show (⟨w.heap.size, 0, none⟩ : Addr).add j = ⟨w.heap.size, j, none⟩ by unfold Addr.add; split <;> simp_all]
        show wr.cell? _ = _
        rw [hrel.out.1.cell, List.getElem?_toArray, kcs_get _ _ _ _ (by omega)]
        unfold fst
        rw [if_pos (by omega)])
      have HFIT : Hid (k + (kcs .i64 (fun _ => x) (min k (M - k))).length ≤ (kcs .i64 (fst x k) M).length) := Lib.hid (by rw [kcs_length, kcs_length]; omega)
      have HONE := Lib.hid (kcs_one .i64 (fun _ => x) (min k (M - k)))
      have HSP : Hid (splice (kcs .i64 (fst x k) M) k (kcs .i64 (fun _ => x) (min k (M - k))) = kcs .i64 (fst x (k + min k (M - k))) M) := Lib.hid (kcs_splice .i64 (by omega) (fun j hj => by unfold fst; rw [if_pos (by omega), if_pos hj]) (fun j hj => by unfold fst; rw [if_pos (by omega)]) (fun j hj _ => by unfold fst; rw [if_neg (by omega), if_neg (by omega)]))
      obtain ⟨q, hq⟩ : ∃ q : Nat, Nat.min k (M - k) = q := ⟨_, rfl⟩
      have hq1 : 1 ≤ q := by have : Nat.min k (M - k) = min k (M - k) := rfl; omega
      have hq2 : k + q ≤ M := by have : Nat.min k (M - k) = min k (M - k) := rfl; omega
      have HQ : Hid (min k (M - k) = q) := Lib.hid hq
      have w2 := IntWalk.i64_in ((k : Int) + (q : Int)) (by omega)
      have HLQ : Hid ((kcs .i64 (fun _ => x) (min k (M - k))).length = q) := Lib.hid (HLN.out.trans hq)
      have HMK : Hid (¬ M = k) := Lib.hid (by omega)
      clear hrel hq
      go_wp2_with fail
      go_region_held3 (fun _ => True)
        (exact trivial)
        ((refine step_copy_splice rfl (.tmp 41) (.tmp 44) 22 22 rfl 3 Tryz.underlying22 hsz (some ⟨w.heap.size, k, none⟩) (some ⟨w.heap.size, 0, none⟩) (M - k) (M - k) k M (by rw [if_neg HMK.out]; rfl) rfl w.heap.size k (kcs .i64 (fst x k) M) 3 HG.out (kcs .i64 (fun _ => x) (min k (M - k))) HLN.out (fun _ => ⟨rfl, _, rfl, HPOS.out⟩) HFIT.out HONE.out w.heap.size w HB.out (Nat.le_refl _) ?_; intro w4 hg4 hb4; rw [HLQ.out]))
      have HN : Hid (Row w4 w.heap.size 3 (kcs .i64 (fst x (k + q)) M).toArray ∧ Below w.heap.size w w4) := Lib.hid ⟨by have := hg4.out; rw [HSP.out, HQ.out] at this; exact this, hb4⟩
      clear hg4 hb4
      go_wp2
      go_roundw
      case rel => exact ⟨k + q, hq2, by omega, by go_num, HN.out⟩
      case measure => simp [intOf]; omega
    · obtain rfl : k = M := by omega
      have HE : Hid (KRow wr .i64 (some ⟨w.heap.size, 0, none⟩) k k (fun _ => x) ∧ Below w.heap.size w wr ∧ w.heap.size < wr.heap.size) := Lib.hid ⟨((IBox.of_row hrel.out.1).congr (h' := fun _ => x) (fun j hj => by unfold fst; rw [if_pos hj])).krow (by unfold maxLen; omega), hrel.out.2, hrel.out.1.lt⟩
      clear hrel
      go_wp2
      go_ret
      exact ⟨rfl, HE.out⟩
theorem repeat1_any (a : Option Addr) (c : Nat) (f : Nat → Int) (M : Nat) (w : World) (h : KRow w .i64 a 1 c f) (hM : M ≤ 1000000) :
    Calls Tryz.prog 46 #[.slice a 1 c, .int .i64 M] w fun e w' => e = .returned (.slice (some ⟨w.heap.size, 0, none⟩) M M) ∧ KRow w' .i64 (some ⟨w.heap.size, 0, none⟩) M M (fun _ => f 0) ∧ Below w.heap.size w w' :=
  (repeat1_at a c f M w h hM).mono (fun _ _ ⟨h1, h2, h3, _⟩ => ⟨h1, h2, h3⟩)
/-- The values of the places whose flag is 1, one behind the other. -/
def kpP (f v : Nat → Int) : Nat → Nat → Int
  | 0, _ => 0
  | n + 1, q => if f n = 1 ∧ q = kpN f n then v n else kpP f v n q
theorem kpP_at {f v : Nat → Int} {k : Nat} (h1 : f k = 1) : ∀ {n : Nat}, k < n → kpP f v n (kpN f k) = v k
  | 0, h => absurd h (Nat.not_lt_zero _)
  | n + 1, h => by
    unfold kpP
    rcases Nat.lt_or_ge k n with h2 | h2
    · have := kpN_lt h2 h1
      rw [if_neg (by omega)]
      exact kpP_at h1 h2
    · obtain rfl : k = n := by omega
      rw [if_pos ⟨h1, rfl⟩]
theorem kpP_of {f v : Nat → Int} : ∀ {n q : Nat}, q < kpN f n → ∃ k, k < n ∧ f k = 1 ∧ kpN f k = q ∧ kpP f v n q = v k
  | 0, _, h => absurd h (Nat.not_lt_zero _)
  | n + 1, q, h => by
    unfold kpP
    by_cases e : f n = 1 ∧ q = kpN f n
    · rw [if_pos e]
      exact ⟨n, by omega, e.1, e.2.symm, rfl⟩
    · rw [if_neg e]
      have h2 : q < kpN f n := by
        have h3 : kpN f (n + 1) = if f n = 1 then kpN f n + 1 else kpN f n := rfl
        by_cases h4 : f n = 1
        · rw [if_pos h4] at h3
          have : q ≠ kpN f n := fun e2 => e ⟨h4, e2⟩
          omega
        · rw [if_neg h4] at h3
          omega
      obtain ⟨k, e1, e2, e3, e4⟩ := kpP_of (v := v) h2
      exact ⟨k, by omega, e2, e3, e4⟩
/-- What kept and spread answer: places along an axis, or that there are none. -/
def WcTold (b : Bool) (m : Nat) (H : Nat → Int) (w w' : World) (e : Ending) : Prop :=
  ∃ a q c, e = .returned (.tuple #[.slice a q c, .bool b]) ∧ (b = true → q = m ∧ KRow w' .i64 a m c H ∧ (a = none → c = 0)) ∧ Below w.heap.size w w'
/-- The flags of every element of an axis. -/
def wcF (f : Nat → Int) (n : Nat) : Nat → Int := fun j => if n = 1 then f 0 else f j
def wcL (n N : Nat) : Nat := if n = 1 then N else n
/-- The function of the two: does it fit, how many, and where from. -/
def wcB (ex : Bool) (f : Nat → Int) (n N : Nat) : Bool := if ex then decide (N = 1) || decide (kpN f n = N) else decide (N = 1) || decide (wcL n N = N)
def wcM (ex : Bool) (f : Nat → Int) (n N : Nat) : Nat := if ex then n else kpN (wcF f n) (wcL n N)
def wcH (ex : Bool) (f : Nat → Int) (n N : Nat) : Nat → Int := if ex then (fun q => if f q = 1 then ((kpN f q % N : Nat) : Int) else -1) else kpP (wcF f n) (fun m => ((m % N : Nat) : Int)) (wcL n N)
theorem wcM_le {ex : Bool} {f : Nat → Int} {n N : Nat} (hn : n ≤ 4096) (hN : N ≤ 4096) : wcM ex f n N ≤ 4096 := by
  unfold wcM
  split
  · exact hn
  · have h1 := kpN_le (wcF f n) (wcL n N)
    have h2 : wcL n N ≤ 4096 := by unfold wcL; split <;> omega
    omega
theorem wcH_bd {ex : Bool} {f : Nat → Int} {n N : Nat} (hn : n ≤ 4096) (hN : N ≤ 4096) : ∀ q, q < wcM ex f n N → -1 ≤ wcH ex f n N q ∧ wcH ex f n N q ≤ 4096 := fun q hq => by
  have h2 : wcL n N ≤ 4096 := by unfold wcL; split <;> omega
  have hm : ∀ x : Nat, x ≤ 4096 → x % N ≤ 4096 := fun x hx => Nat.le_trans (Nat.mod_le _ _) hx
  unfold wcM at hq
  unfold wcH
  cases ex with
  | true =>
    rw [if_pos rfl] at hq
    rw [if_pos rfl]
    have h1 := kpN_le f q
    have h3 := hm (kpN f q) (by omega)
    show -1 ≤ (if f q = 1 then _ else _) ∧ (if f q = 1 then _ else _) ≤ _
    split <;> omega
  | false =>
    rw [if_neg (by decide)] at hq
    rw [if_neg (by decide)]
    obtain ⟨k, h1, _, _, e⟩ := kpP_of (v := fun m => ((m % N : Nat) : Int)) hq
    rw [e]
    have := hm k (by omega)
    show -1 ≤ ((k % N : Nat) : Int) ∧ ((k % N : Nat) : Int) ≤ 4096
    omega
/-- A function value that is one of the two. -/
def Whiches (fv : FuncId) (ex : Bool) : Prop :=
  ∀ (wz : World) (a : Option Addr) (n c : Nat) (f : Nat → Int) (N : Nat), KRow wz .i64 a n c f → (∀ j, j < n → f j = 0 ∨ f j = 1) → n ≤ 4096 → N ≤ 4096 → Calls Tryz.prog fv #[.slice a n c, .int .i64 N] wz fun e w' => WcTold (wcB ex f n N) (wcM ex f n N) (wcH ex f n N) wz w' e
theorem ent_kept : Enters Tryz.prog 32 := enters_of Tryz.func32 (by kernel_rfl) rfl
theorem ent_spread : Enters Tryz.prog 36 := enters_of Tryz.func36 (by kernel_rfl) rfl
theorem KTo.over {w : World} {g n k : Nat} {f : Nat → Int} (h : KTo w g n k f) (x : Int) : KTo (w.setCell ⟨g, k, none⟩ (.int .i64 x)) g n k f := by
  obtain ⟨h1, h2, h3⟩ := h
  refine ⟨by simpa using h1, h2.set _ _, fun j hj => ?_⟩
  obtain ⟨z, e1, e2⟩ := h3 j hj
  by_cases e : j = k
  · subst e
    exact ⟨x, World.cell?_setCell_same _ _ _ e1, fun h => absurd h (Nat.lt_irrefl _)⟩
  · exact ⟨z, by rw [World.cell?_setCell_other _ _ _ _ (fun h => by injection h with _ h; omega)]; exact e1, e2⟩
theorem OwnI.bare {y0 w : World} {a : Option Addr} {k c : Nat} {f : Nat → Int} (h : OwnI y0 w a k c f) : a = none → c = 0 := fun e => by
  subst e
  rcases h.2.2 with ⟨e, _⟩ | ⟨_, _, _, e, _⟩
  · injection e
  · injection e with e _ _
    cases e
set_option maxHeartbeats 1600000 in
set_option maxRecDepth 100000 in
theorem spread_any : Whiches 36 true := by
  intro w a n c f N h hf hn hN
  have hl := h.len
  obtain ⟨i0, hi, hz0, hz1, hz2⟩ := info_parts infoI
  have hmk := fun wz => run_make (P := Tryz.prog) wz 22 3 i0 _ Tryz.underlying22 hi hz0 .i64 .i64 n n (by omega) (by omega) (by rw [hz2]; omega) (by omega)
  simp only [Int.toNat_natCast, hz1, Nat.mul_one] at hmk
  have ON := Lib.hid (fun wz (q : KRow wz .i64 a n c f) => ones_any a n c f wz q hf (by omega))
  have H1 := Lib.hid h
  have HF := Lib.hid hf
  have HB : wcB true f n N = (decide (N = 1) || decide (kpN f n = N)) := rfl
  have hnn : (0 : Int) ≤ n := by omega
  by_cases hc : N = 1 ∨ kpN f n = N
  · have hB : wcB true f n N = true := by rw [HB, Bool.or_eq_true, decide_eq_true_eq, decide_eq_true_eq]; exact hc
    rw [hB]
    have H0 : Hid (Below w.heap.size w (w.alloc (.cells (madeCells (Value.cells (.int .i64 0)) n) 3)) ∧ KTo (w.alloc (.cells (madeCells (Value.cells (.int .i64 0)) n) 3)) w.heap.size n 0 (wcH true f n N)) :=
      Lib.hid ⟨(Below.refl _ _).alloc (Nat.le_refl _) _, KTo.made w n 3 _ rfl⟩
    have HKEY : Hid (∀ w2, Below w.heap.size w w2 → KTo w2 w.heap.size n n (wcH true f n N) → WcTold true (wcM true f n N) (wcH true f n N) w w2 (.returned (.tuple #[.slice (some ⟨w.heap.size, 0, none⟩) n n, .bool true]))) := Lib.hid (fun w2 b2 k2 => ⟨_, _, _, rfl, fun _ => ⟨rfl, k2.done (by unfold maxLen; omega), fun e => by cases e⟩, b2⟩)
    have HX : Hid (∀ q, q < n → wcH true f n N q = if f q = 1 then ((kpN f q % N : Nat) : Int) else -1) := Lib.hid (fun q _ => rfl)
    have HPOS : Hid (∀ k, k < n → f k = 1 → (N : Int) ≠ 0) := Lib.hid (fun k hk e => by
      have h2 := kpN_lt hk e
      omega)
    have hd : ((N : Int) != 1) = false ∨ (((N : Int) != 1) = true ∧ ((kpN f n : Int) != (N : Int)) = false) := by
      by_cases e : N = 1
      · exact .inl (by subst e; rfl)
      · exact .inr ⟨bne_iff_ne.2 (by omega), by rw [show kpN f n = N from hc.resolve_left e]; exact bne_self_eq_false _⟩
    generalize wcM true f n N = MM at *
    generalize wcH true f n N = HH at *
    clear h hf hi hz0 hz1 hz2 hc hB HB
    rcases hd with dN | ⟨dN, dK⟩
    all_goals
      go_enter Tryz.func36, Tryz.ntmps36
      go_wp2_with (go_at_call 66; (with_reducible refine (ON.out _ H1.out).mono ?_); rintro e w1 ⟨rfl, rfl⟩)
      go_loopw [7, 23] (fun s i wr => ∃ k : Nat, k ≤ n ∧ i = .int .i64 k ∧ s = .int .i64 (kpN f k) ∧ Hid (Below w.heap.size w wr ∧ KTo wr w.heap.size n k HH)) (fun _ i _ => n - (intOf i).toNat)
      case atStart => exact ⟨0, by omega, rfl, rfl, H0.out⟩
      case round =>
        obtain ⟨k, hk, rfl, rfl, hrel⟩ := hrel
        obtain ⟨hbl, hto⟩ := hrel.out
        by_cases hlt : k < n
        · obtain ⟨b, off, rfl, hb, hc⟩ := H1.out.get hlt
          have hne : b ≠ w.heap.size := by omega
          have hcw := (hbl.cell (p := ⟨b, off + k, none⟩) hb).trans hc
          have hk0 : (0 : Int) ≤ k := by omega
          have hk1 : (k : Int) < n := by omega
          obtain ⟨⟨z0, x1⟩, y1⟩ := hto.place hlt
          have hx := HX.out k hlt
          have x2 : (wr.setCell ⟨w.heap.size, k, none⟩ (.int .i64 (-1))).cell? ⟨w.heap.size, k, none⟩ = some (.int .i64 (-1)) := World.cell?_setCell_same _ _ _ x1
          have y2 : (wr.setCell ⟨w.heap.size, k, none⟩ (.int .i64 (-1))).frozen? ⟨w.heap.size, k, none⟩ = false := by simpa using y1
          have B1 := hbl.setCell (p := ⟨w.heap.size, k, none⟩) (Nat.le_refl _) (.int .i64 (-1))
          by_cases e : f k = 1
          · rw [if_pos e] at hx
            have hs : kpN f (k + 1) = kpN f k + 1 := by show (if f k = 1 then _ else _) = _; rw [if_pos e]
            have HS := Lib.hid hs
            have hle := kpN_le f k
            have hN0 := HPOS.out k hlt e
            have HN : Hid (Below w.heap.size w ((wr.setCell ⟨w.heap.size, k, none⟩ (.int .i64 (-1))).setCell ⟨w.heap.size, k, none⟩ (.int .i64 (HH k))) ∧ KTo ((wr.setCell ⟨w.heap.size, k, none⟩ (.int .i64 (-1))).setCell ⟨w.heap.size, k, none⟩ (.int .i64 (HH k))) w.heap.size n (k + 1) HH) := Lib.hid ⟨B1.setCell (p := ⟨w.heap.size, k, none⟩) (Nat.le_refl _) _, (hto.over (-1)).step hlt⟩
            have em : Int.tmod ((kpN f k : Nat) : Int) (N : Nat) = HH k := by rw [hx]; rfl
            have d1 : ((1 : Int) == 1) = true := rfl
            rw [e] at hcw hc
            clear hrel hbl hto hx hs B1
            generalize HH k = z at *
            generalize kpN f k = q at *
            have w9 := IntWalk.i64_in ((q : Int) + 1) (by omega)
            go_wp2
            go_roundw
            case rel => exact ⟨k + 1, by omega, by go_num, by rw [HS.out]; go_num, HN.out⟩
            case measure => simp [intOf]; omega
          · rw [if_neg e] at hx
            have h0 : f k = 0 := (HF.out k hlt).resolve_right e
            have hs : kpN f (k + 1) = kpN f k := by show (if f k = 1 then _ else _) = _; rw [if_neg e]
            have HS := Lib.hid hs
            have HN : Hid (Below w.heap.size w (wr.setCell ⟨w.heap.size, k, none⟩ (.int .i64 (-1))) ∧ KTo (wr.setCell ⟨w.heap.size, k, none⟩ (.int .i64 (-1))) w.heap.size n (k + 1) HH) := Lib.hid ⟨B1, by rw [← hx]; exact hto.step hlt⟩
            rw [h0] at hcw hc
            clear hrel hbl hto hx hs B1 e h0
            generalize kpN f k = q at *
            go_wp2
            go_roundw
            case rel => exact ⟨k + 1, by omega, by go_num, by rw [HS.out], HN.out⟩
            case measure => simp [intOf]; omega
        · obtain rfl : k = n := by omega
          have HE := Lib.hid (HKEY.out _ hbl hto)
          clear hrel hbl hto
          go_wp2
          go_ret2
          exact HE.out
  · have hB : wcB true f n N = false := by rw [HB, decide_eq_false (fun e => hc (.inl e)), decide_eq_false (fun e => hc (.inr e))]; rfl
    rw [hB]
    have HNO : Hid (WcTold false (wcM true f n N) (wcH true f n N) w w (.returned (.tuple #[.slice none 0 0, .bool false]))) := Lib.hid ⟨_, _, _, rfl, (fun e => by cases e), Below.refl _ _⟩
    have dN : ((N : Int) != 1) = true := bne_iff_ne.2 (fun e => hc (.inl (by omega)))
    have dK : ((kpN f n : Int) != (N : Int)) = true := bne_iff_ne.2 (fun e => hc (.inr (by omega)))
    generalize wcM true f n N = MM at *
    generalize wcH true f n N = HH at *
    generalize kpN f n = q at *
    clear h hf hi hz0 hz1 hz2 hc hB HB hmk
    go_enter Tryz.func36, Tryz.ntmps36
    go_wp2_with (go_at_call 66; (with_reducible refine (ON.out _ H1.out).mono ?_); rintro e w1 ⟨rfl, rfl⟩)
    go_ret2
    exact HNO.out
set_option maxHeartbeats 1600000 in
set_option maxRecDepth 100000 in
theorem kept_any : Whiches 32 false := by
  intro w a n c f N h hf hn hN
  have hl := h.len
  have HB : wcB false f n N = (decide (N = 1) || decide (wcL n N = N)) := rfl
  have hnn : (0 : Int) ≤ n := by omega
  have HM : wcM false f n N = kpN (wcF f n) (wcL n N) := rfl
  have HH : wcH false f n N = kpP (wcF f n) (fun m => ((m % N : Nat) : Int)) (wcL n N) := rfl
  by_cases h1 : n = 1
  · subst h1
    have eF : wcF f 1 = fun _ => f 0 := rfl
    have eL : wcL 1 N = N := rfl
    have hB : wcB false f 1 N = true := by rw [HB, eL, decide_eq_true rfl, Bool.or_true]
    rw [hB, HM, HH, eF, eL]
    obtain ⟨F, hF⟩ : ∃ F : Nat → Int, F = fun _ => f 0 := ⟨_, rfl⟩
    rw [← hF]
    have hf0 : ∀ k, k < N → F k = 0 ∨ F k = 1 := fun k _ => by rw [hF]; exact hf 0 (by omega)
    have HF := Lib.hid hf0
    have HPP : Hid (∀ k, k < N → F k = 1 → ((k % N : Nat) : Int) = kpP F (fun m => ((m % N : Nat) : Int)) N (kpN F k)) := Lib.hid (fun k hk e => (kpP_at (v := fun m => ((m % N : Nat) : Int)) e hk).symm)
    have HPOS : Hid (∀ k, k < N → (N : Int) ≠ 0) := Lib.hid (fun k hk => by omega)
    have RP := Lib.hid (fun wz (q : KRow wz .i64 a 1 c f) => repeat1_any a c f N wz q (by omega))
    rw [← hF] at RP
    have H1 := Lib.hid h
    generalize kpP F (fun m => ((m % N : Nat) : Int)) N = PP at *
    clear hf hf0 HB HM HH eF eL hB hF
    have dN : ((N : Int) != (N : Int)) = false := bne_self_eq_false _
    go_enter Tryz.func32, Tryz.ntmps32
    go_wp2_with fail
    go_at_call 46
    (with_reducible refine (RP.out _ H1.out).mono ?_)
    rintro e y0 ⟨rfl, hk0, hb0⟩
    have HROW := Lib.hid hk0
    have HKEY : Hid (∀ w2 a1 c1, OwnI y0 w2 a1 (kpN F N) c1 PP → WcTold true (kpN F N) PP w w2 (.returned (.tuple #[.slice a1 (kpN F N) c1, .bool true]))) := Lib.hid (fun w2 a1 c1 ho => ⟨_, _, _, rfl, fun _ => ⟨rfl, ho.krow, ho.bare⟩, hb0.trans (ho.1.mono hb0.size)⟩)
    clear hk0 hb0 RP H1 h
    rcases (show ((N : Int) != 1) = false ∨ ((N : Int) != 1) = true by cases (N : Int) != 1 <;> simp) with d2 | d2
    all_goals
      go_wp2_with fail
      go_loopw [6, 25] (fun s i wr => ∃ (k : Nat) (a1 : Option Addr) (c1 : Nat), k ≤ N ∧ i = .int .i64 k ∧ s = .slice a1 (kpN F k) c1 ∧ Hid (OwnI y0 wr a1 (kpN F k) c1 PP)) (fun _ i _ => N - (intOf i).toNat)
      case atStart => exact ⟨0, none, 0, by omega, rfl, rfl, OwnI.nil _ _⟩
      case round =>
        obtain ⟨k, a1, c1, hk, rfl, rfl, ho⟩ := hrel
        by_cases hlt : k < N
        · obtain ⟨b, off, hab, hb, hc⟩ := (HROW.out.below ho.out.1).get hlt
          cases hab
          try rw [Nat.zero_add] at hc
          have hk0 : (0 : Int) ≤ k := by omega
          have hk1 : (k : Int) < N := by omega
          have hkl := kpN_le F k
          by_cases e : F k = 1
          · have hs : kpN F (k + 1) = kpN F k + 1 := by show (if F k = 1 then _ else _) = _; rw [if_pos e]
            have HS := Lib.hid hs
            obtain ⟨z, hz⟩ : ∃ z, ((k % N : Nat) : Int) = z := ⟨_, rfl⟩
            have hpp := HPP.out k hlt e
            rw [hz] at hpp
            have em : Int.tmod ((k : Nat) : Int) (N : Nat) = z := by rw [← hz]; rfl
            have hN0 : (N : Int) ≠ 0 := HPOS.out k hlt
            obtain ⟨a', c', y3, hr3, ho'⟩ := app1_step ho.out hpp (by omega)
            have HO' := Lib.hid ho'
            rw [e] at hc
            have d1 : ((1 : Int) == 1) = true := rfl
            clear ho ho' hs hpp hz hkl
            generalize kpN F k = q at *
            go_wp2_with (at_builtin; refine Lib.wpList_append_run _ rfl _ _ _ _ rfl _ _ rfl rfl _ _ hr3 ?_)
            go_roundw
            case rel => exact ⟨k + 1, a', c', by omega, by go_num, by rw [HS.out], by rw [HS.out]; exact HO'⟩
            case measure => simp [intOf]; omega
          · have hs : kpN F (k + 1) = kpN F k := by show (if F k = 1 then _ else _) = _; rw [if_neg e]
            have h0 : F k = 0 := (HF.out k hlt).resolve_right e
            have HS := Lib.hid hs
            have HO' := Lib.hid ho.out
            rw [h0] at hc
            clear ho hs e h0
            generalize kpN F k = q at *
            go_wp2
            go_roundw
            case rel => exact ⟨k + 1, a1, c1, by omega, by go_num, by rw [HS.out], by rw [HS.out]; exact HO'⟩
            case measure => simp [intOf]; omega
        · have hkn : k = N := by omega
          subst hkn
          have HE := Lib.hid (HKEY.out _ _ _ ho.out)
          clear ho
          go_wp2
          go_ret2
          exact HE.out
  · have eF : ∀ j, wcF f n j = f j := fun j => by unfold wcF; rw [if_neg h1]
    have eF2 : wcF f n = f := funext eF
    have eL : wcL n N = n := by unfold wcL; rw [if_neg h1]
    rw [HM, HH, eF2, eL]
    rw [eL] at HB
    have dn1 : ((n : Int) == 1) = false := beq_eq_false_iff_ne.2 (by omega)
    by_cases hc : N = 1 ∨ n = N
    · have hB : wcB false f n N = true := by rw [HB, Bool.or_eq_true, decide_eq_true_eq, decide_eq_true_eq]; exact hc
      rw [hB]
      have HF := Lib.hid hf
      have HPP : Hid (∀ k, k < n → f k = 1 → ((k % N : Nat) : Int) = kpP f (fun m => ((m % N : Nat) : Int)) n (kpN f k)) := Lib.hid (fun k hk e => (kpP_at (v := fun m => ((m % N : Nat) : Int)) e hk).symm)
      have HPOS : Hid (∀ k, k < n → (N : Int) ≠ 0) := Lib.hid (fun k hk => by omega)
      have HROW := Lib.hid h
      generalize kpP f (fun m => ((m % N : Nat) : Int)) n = PP at *
      have HKEY : Hid (∀ w2 a1 c1, OwnI w w2 a1 (kpN f n) c1 PP → WcTold true (kpN f n) PP w w2 (.returned (.tuple #[.slice a1 (kpN f n) c1, .bool true]))) := Lib.hid (fun w2 a1 c1 ho => ⟨_, _, _, rfl, fun _ => ⟨rfl, ho.krow, ho.bare⟩, ho.1⟩)
      have hd : ((N : Int) != 1) = false ∨ (((N : Int) != 1) = true ∧ ((n : Int) != (N : Int)) = false) := by
        by_cases e : N = 1
        · exact .inl (by subst e; rfl)
        · exact .inr ⟨bne_iff_ne.2 (by omega), by rw [show n = N from hc.resolve_left e]; exact bne_self_eq_false _⟩
      clear h hf HB HM HH eF eF2 eL hB hc
      rcases hd with dN | ⟨dN, dK⟩
      all_goals
        go_enter Tryz.func32, Tryz.ntmps32
        go_wp2_with fail
        go_loopw [6, 25] (fun s i wr => ∃ (k : Nat) (a1 : Option Addr) (c1 : Nat), k ≤ n ∧ i = .int .i64 k ∧ s = .slice a1 (kpN f k) c1 ∧ Hid (OwnI w wr a1 (kpN f k) c1 PP)) (fun _ i _ => n - (intOf i).toNat)
        case atStart => exact ⟨0, none, 0, by omega, rfl, rfl, OwnI.nil _ _⟩
        case round =>
          obtain ⟨k, a1, c1, hk, rfl, rfl, ho⟩ := hrel
          by_cases hlt : k < n
          · obtain ⟨b, off, hab, hb, hc⟩ := (HROW.out.below ho.out.1).get hlt
            cases hab
            try rw [Nat.zero_add] at hc
            have hk0 : (0 : Int) ≤ k := by omega
            have hk1 : (k : Int) < n := by omega
            have hkl := kpN_le f k
            by_cases e : f k = 1
            · have hs : kpN f (k + 1) = kpN f k + 1 := by show (if f k = 1 then _ else _) = _; rw [if_pos e]
              have HS := Lib.hid hs
              obtain ⟨z, hz⟩ : ∃ z, ((k % N : Nat) : Int) = z := ⟨_, rfl⟩
              have hpp := HPP.out k hlt e
              rw [hz] at hpp
              have em : Int.tmod ((k : Nat) : Int) (N : Nat) = z := by rw [← hz]; rfl
              have hN0 : (N : Int) ≠ 0 := HPOS.out k hlt
              obtain ⟨a', c', y3, hr3, ho'⟩ := app1_step ho.out hpp (by omega)
              have HO' := Lib.hid ho'
              rw [e] at hc
              have d1 : ((1 : Int) == 1) = true := rfl
              clear ho ho' hs hpp hz hkl
              generalize kpN f k = q at *
              go_wp2_with (at_builtin; refine Lib.wpList_append_run _ rfl _ _ _ _ rfl _ _ rfl rfl _ _ hr3 ?_)
              go_roundw
              case rel => exact ⟨k + 1, a', c', by omega, by go_num, by rw [HS.out], by rw [HS.out]; exact HO'⟩
              case measure => simp [intOf]; omega
            · have hs : kpN f (k + 1) = kpN f k := by show (if f k = 1 then _ else _) = _; rw [if_neg e]
              have h0 : f k = 0 := (HF.out k hlt).resolve_right e
              have HS := Lib.hid hs
              have HO' := Lib.hid ho.out
              rw [h0] at hc
              clear ho hs e h0
              generalize kpN f k = q at *
              go_wp2
              go_roundw
              case rel => exact ⟨k + 1, a1, c1, by omega, by go_num, by rw [HS.out], by rw [HS.out]; exact HO'⟩
              case measure => simp [intOf]; omega
          · have hkn : k = n := by omega
            subst hkn
            have HE := Lib.hid (HKEY.out _ _ _ ho.out)
            clear ho
            go_wp2
            go_ret2
            exact HE.out
    · have hB : wcB false f n N = false := by rw [HB, decide_eq_false (fun e => hc (.inl e)), decide_eq_false (fun e => hc (.inr e))]; rfl
      rw [hB]
      have HNO : Hid (WcTold false (kpN f n) (kpP f (fun m => ((m % N : Nat) : Int)) n) w w (.returned (.tuple #[.slice none 0 0, .bool false]))) := Lib.hid ⟨_, _, _, rfl, (fun e => by cases e), Below.refl _ _⟩
      have dN : ((N : Int) != 1) = true := bne_iff_ne.2 (fun e => hc (.inl (by omega)))
      have dK : ((n : Int) != (N : Int)) = true := bne_iff_ne.2 (fun e => hc (.inr (by omega)))
      generalize kpP f (fun m => ((m % N : Nat) : Int)) n = PP at *
      generalize kpN f n = q at *
      clear h hf HB HM HH eF eF2 eL hB hc
      go_enter Tryz.func32, Tryz.ntmps32
      go_wp2
      go_ret2
      exact HNO.out
end Go.Proofs.YtpmcbnliogjknaaGreatDoor

namespace Go.Proofs.YtpmcbnliogjknaaGreatDoor
open Go.RowKit
theorem ld8G {ops : Array Oper} {rest : List Oper} {o : Oper} {a : Act} {w : World} {Q : Exit → Act → World → Prop} (hw : Region.wanted o (yielded ops a.tmps) = true) (d : Nat) (ho : o.op = .load 32 (.tmp d)) (g : Nat) (cs : Array Value) (hx : a.eval (.tmp d) = .pointer (some ⟨g, 0, none⟩)) (hr : Row w g 32 cs) (hs : cs.size = 12)
    (h : wpList Tryz.prog ops Q rest (a.put o.dst (.agg cs)) w) : wpList Tryz.prog ops Q (o :: rest) a w := by
  show if Region.wanted o (yielded ops a.tmps) = true then _ else _
  rw [if_pos hw]
  exact Or.inl (wp_load_row 32 (.tmp d) ho g hx 32 cs (0, 0) _ hr Tryz.underlying32 rfl (by rw [arr12, hs]) h)
theorem ldPG {ops : Array Oper} {rest : List Oper} {o : Oper} {a : Act} {w : World} {Q : Exit → Act → World → Prop} (hw : Region.wanted o (yielded ops a.tmps) = true) (d : Nat) (ho : o.op = .load 26 (.tmp d)) (g : Nat) (cs : Array Value) (hx : a.eval (.tmp d) = .pointer (some ⟨g, 0, none⟩)) (hr : Row w g 26 cs) (hs : cs.size = 4)
    (h : wpList Tryz.prog ops Q rest (a.put o.dst (.agg cs)) w) : wpList Tryz.prog ops Q (o :: rest) a w := by
  show if Region.wanted o (yielded ops a.tmps) = true then _ else _
  rw [if_pos hw]
  exact Or.inl (wp_load_row 26 (.tmp d) ho g hx 26 cs (0, 0) _ hr Tryz.underlying26 rfl (by rw [pln4, hs]) h)
theorem dgs_congr {f f' : Nat → Int} : ∀ {n : Nat} (r : Int) (j : Nat), (∀ a, a < n → f a = f' a) → dgs f n r j = dgs f' n r j
  | 0, _, _, _ => rfl
  | n + 1, r, j, h => by
    show (if j = n then r % f n else dgs f n (r / f n) j) = if j = n then r % f' n else dgs f' n (r / f' n) j
    rw [h n (by omega), dgs_congr (r / f' n) j (fun a ha => h a (by omega))]
theorem ax_le4 {S : Nat → Int} {r j : Nat} (h : shB S r = true) (hj : j < r) : 0 ≤ S j ∧ S j ≤ 4096 := by
  obtain ⟨_, hax⟩ := sh_ax h
  have h1 := ax_bd (ax_le (show j + 1 ≤ r by omega) hax)
  have h2 := rm_pos S j
  have h3 : 1 * max (S j) 1 ≤ rm S j * max (S j) 1 := Int.mul_le_mul h2 (Int.le_refl _) (by omega) (by omega)
  have h4 : rm S (j + 1) = rm S j * max (S j) 1 := rfl
  have h5 := ax_nn hax hj
  omega
end Go.Proofs.YtpmcbnliogjknaaGreatDoor

namespace Go.Proofs.YtpmcbnliogjknaaGreatDoor
open Go.RowKit
/-- The cells of a row of slices of one length. -/
def sls (A : Nat → Option Addr) (C : Nat → Nat) (L : Nat) : Nat → List Value
  | 0 => []
  | k + 1 => sls A C L k ++ [.slice (A k) L (C k)]
theorem sls_length (A : Nat → Option Addr) (C : Nat → Nat) (L : Nat) : ∀ k, (sls A C L k).length = k
  | 0 => rfl
  | k + 1 => by unfold sls; rw [List.length_append, sls_length A C L k]; rfl
theorem sls_get (A : Nat → Option Addr) (C : Nat → Nat) (L : Nat) : ∀ k j, j < k → (sls A C L k)[j]? = some (.slice (A j) L (C j))
  | 0, j, h => absurd h (Nat.not_lt_zero _)
  | k + 1, j, h => by
    have hl := sls_length A C L k
    unfold sls
    rcases Nat.lt_or_ge j k with h1 | h1
    · rw [List.getElem?_append_left (by omega)]
      exact sls_get A C L k j h1
    · obtain rfl : j = k := by omega
      rw [List.getElem?_append_right (by omega), hl, Nat.sub_self]
      rfl
theorem sls_congr {A A' : Nat → Option Addr} {C C' : Nat → Nat} {L : Nat} : ∀ {n : Nat}, (∀ j, j < n → A j = A' j ∧ C j = C' j) → sls A C L n = sls A' C' L n
  | 0, _ => rfl
  | n + 1, h => by unfold sls; rw [sls_congr (fun j hj => h j (by omega)), (h n (by omega)).1, (h n (by omega)).2]
theorem infoS : (Tryz.prog.info? 22).map (fun i => (i.zero, i.size, i.bytes)) = some (some (.slice none 0 0), 1, 24) := by kernel_rfl
/-- The rows of the next axis in the making. -/
def AllSt (y0 wr : World) (f : Nat → Int) (i cnt : Nat) (v : Value) : Prop :=
  Below y0.heap.size y0 wr ∧ ∃ A C, wr.ownsRow y0.heap.size 22 1 v cnt (sls A C (i + 1) cnt) ∧ ∀ r, r < cnt → KRow wr .i64 (A r) (i + 1) (C r) (dgs f (i + 1) (r : Nat)) ∧ ∃ g, A r = some ⟨g, 0, none⟩
theorem AllSt.nought (y0 : World) (f : Nat → Int) (i : Nat) : AllSt y0 y0 f i 0 (.slice none 0 0) := ⟨Below.refl _ _, fun _ => none, fun _ => 0, World.ownsRow_nil _ _ _ _, fun _ h => absurd h (Nat.not_lt_zero _)⟩
/-- All rows of an axis, as a row of rows. -/
theorem AllSt.done {y0 wr : World} {f : Nat → Int} {i cnt : Nat} {v : Value} (h : AllSt y0 wr f i cnt v) : ∃ la lc A C, v = .slice la cnt lc ∧ LRow wr la cnt lc A (fun _ => i + 1) C (fun r => dgs f (i + 1) (r : Nat)) := by
  obtain ⟨_, A, C, ho, hk⟩ := h
  have hA : ∀ r, r < cnt → A r ≠ none := fun r hr e => by
    obtain ⟨g, e2⟩ := (hk r hr).2
    rw [e] at e2
    cases e2
  rcases ho.2 with ⟨rfl, rfl⟩ | ⟨g, cap, cur, rfl, _, hh, h1, h2, _, _⟩
  · exact ⟨none, 0, A, C, rfl, Nat.le_refl _, Nat.zero_le _, .inl rfl⟩
  · refine ⟨some ⟨g, 0, none⟩, cap, A, C, rfl, h1, h2, .inr ⟨g, 0, rfl, Row.lt (t := 22) hh, fun j hj => ⟨?_, (hk j hj).1, fun e => absurd e (hA j hj)⟩⟩⟩
    have := ho.cells (g := g) rfl j _ (sls_get A C (i + 1) cnt j hj)
    rwa [show (⟨g, 0, none⟩ : Addr).add j = ⟨g, 0 + j, none⟩ by unfold Addr.add; split <;> simp_all] at this
theorem add_zero0 (g j : Nat) : (⟨g, 0, none⟩ : Addr).add j = ⟨g, 0 + j, none⟩ := by unfold Addr.add; split <;> simp_all
/-- One more row: the row of the axes before, and one number more. -/
theorem all_step {y0 wr : World} {f : Nat → Int} {i cnt k m : Nat} {v : Value} {ak : Option Addr} {ck : Nat} (h : AllSt y0 wr f i cnt v) (hk : KRow wr .i64 ak i ck (dgs f i (k : Nat))) (hn : ak = none → ck = 0) (hi8 : i ≤ 8) (hcnt : cnt ≤ 5000) (hf : f i = ((f i).toNat : Nat)) (hm : m < (f i).toNat) (hc : cnt = k * (f i).toNat + m) :
    ∃ v1 y1, (Builtin.append_ #[22, 22] 22 #[.slice (some ⟨wr.heap.size, 0, none⟩) 0 0, .slice ak i ck]).run Tryz.prog (wr.alloc (.cells #[] 3)) = .ok v1 y1 ∧
    ∃ a2 c2 y3, (Builtin.append_ #[22, 22] 22 #[v1, .slice (some ⟨y1.heap.size, 0, none⟩) 1 1]).run Tryz.prog (y1.alloc (.cells #[.int .i64 (m : Nat)] 3)) = .ok (.slice a2 (i + 1) c2) y3 ∧
    ∃ v9 y5, (Builtin.append_ #[88, 88] 88 #[v, .slice (some ⟨y3.heap.size, 0, none⟩) 1 1]).run Tryz.prog (y3.alloc (.cells #[.slice a2 (i + 1) c2] 22)) = .ok v9 y5 ∧ AllSt y0 y5 f i (cnt + 1) v9 := by
  obtain ⟨hbl, A, C, ho, hrows⟩ := h
  have hwr := hbl.size
  have g0 : Below wr.heap.size wr (wr.alloc (.cells #[] 3)) := (Below.refl _ _).alloc (Nat.le_refl _) _
  have o0 := World.ownsRow_lit (e := 3) (size := 1) wr #[] 0 (Nat.le_refl _) (Nat.zero_le _) rfl
  obtain ⟨v1, y1, r1, o1, q1⟩ := run_append_krow (w := wr.alloc (.cells #[] 3)) 22 wr.heap.size _ 0 _ o0 ak i ck _ (hk.below g0) hn (by omega) g0.size
  have g1 := g0.grown q1 g0.size (fun z hz => (o0.lt z hz).1)
  rw [Nat.zero_add, List.nil_append] at o1
  refine ⟨v1, y1, r1, ?_⟩
  have g2 : Below wr.heap.size wr (y1.alloc (.cells #[.int .i64 (m : Nat)] 3)) := g1.alloc g1.size _
  have o1' := own_below o1 ((Below.refl y1.heap.size y1).alloc (Nat.le_refl _) (.cells #[.int .i64 (m : Nat)] 3))
  have kone : KRow (y1.alloc (.cells #[.int .i64 (m : Nat)] 3)) .i64 (some ⟨y1.heap.size, 0, none⟩) 1 1 (fun _ => (m : Nat)) := by
    refine ⟨Nat.le_refl _, by unfold maxLen; omega, .inr ⟨_, 0, rfl, by simp, fun j hj => ?_⟩⟩
    obtain rfl : j = 0 := by omega
    exact (Row.new y1 3 #[.int .i64 (m : Nat)]).cell 0
  obtain ⟨v2, y3, r2, o2, q2⟩ := run_append_krow (w := y1.alloc (.cells #[.int .i64 (m : Nat)] 3)) 22 wr.heap.size _ i _ o1' (some ⟨y1.heap.size, 0, none⟩) 1 1 _ kone (fun e => by cases e) (by omega) g2.size
  have g3 := g2.grown q2 g2.size (fun z hz => (o1'.lt z hz).1)
  have hd : ∀ j, j < i + 1 → app (dgs f i (k : Nat)) i (fun _ => (m : Nat)) j = dgs f (i + 1) (cnt : Nat) j := fun j hj => by
    have e0 : ((cnt : Nat) : Int) = (m : Nat) + f i * (k : Nat) := by rw [hc, hf]; simp [Int.mul_comm, Int.add_comm]
    have hfp : (0 : Int) < f i := by omega
    have e1 : ((cnt : Nat) : Int) % f i = m := by rw [e0, Int.add_mul_emod_self_left]; exact Int.emod_eq_of_lt (by omega) (by omega)
    have e2 : ((cnt : Nat) : Int) / f i = k := by rw [e0, Int.add_mul_ediv_left _ _ (by omega), Int.ediv_eq_zero_of_lt (by omega) (by omega), Int.zero_add]
    unfold app
    by_cases e : j < i
    · rw [if_pos e, dgs_low _ e, e2]
    · obtain rfl : j = i := by omega
      rw [if_neg e, dgs_top, e1]
  rw [← kcs_app, kcs_congr hd] at o2
  obtain ⟨a2, c2, rfl, hk2⟩ := KRow.of_own o2
  refine ⟨a2, c2, y3, r2, ?_⟩
  have g4 : Below wr.heap.size wr (y3.alloc (.cells #[.slice a2 (i + 1) c2] 22)) := g3.alloc g3.size _
  have ho4 := own_below ho g4
  obtain ⟨i0, hi, hz0, hz1, hz2⟩ := info_parts infoS
  obtain ⟨v9, y5, r3, o3, q3, _⟩ := run_append_own (P := Tryz.prog) (y3.alloc (.cells #[.slice a2 (i + 1) c2] 22)) y0.heap.size 88 88 22 i0 _ 1 24 Tryz.underlying88 hi hz0 hz1 hz2 rfl (by omega) v cnt _ ho4 ⟨y3.heap.size, 0, none⟩ 1 1 [.slice a2 (i + 1) c2] rfl (World.news_of_block (Row.new y3 22 #[.slice a2 (i + 1) c2])) (by intro u hu; simp at hu; subst hu; rfl) (by unfold maxLen; omega) (by omega) (Nat.le_trans hwr g4.size)
  refine ⟨v9, y5, r3, (hbl.trans (g4.mono hwr)).grown q3 (Nat.le_trans hwr g4.size) (fun z hz => (ho4.lt z hz).1), (fun r => if r = cnt then a2 else A r), (fun r => if r = cnt then c2 else C r), ?_, fun r hr => ?_⟩
  · show y5.ownsRow _ _ _ _ _ (sls _ _ (i + 1) cnt ++ [_])
    simp only [if_true]
    rw [sls_congr (A' := A) (C' := C) (fun j hj => ⟨if_neg (by omega), if_neg (by omega)⟩)]
    exact o3
  · have far : ∀ (ad : Option Addr) (cd : Nat) (h : Nat → Int), KRow (y3.alloc (.cells #[.slice a2 (i + 1) c2] 22)) .i64 ad (i + 1) cd h → (∀ b off, ad = some ⟨b, off, none⟩ → v.ownBlock ≠ some b) → KRow y5 .i64 ad (i + 1) cd h := fun ad cd h hkk hne => by
      refine ⟨hkk.1, hkk.2.1, hkk.2.2.imp id ?_⟩
      rintro ⟨b, off, rfl, hl, hcc⟩
      exact ⟨b, off, rfl, Nat.lt_of_lt_of_le hl q3.size, fun j hj => (World.cell?_of_block (a := ⟨b, off + j, none⟩) (q3.block b hl (fun e => hne b off rfl e.symm))).trans (hcc j hj)⟩
    by_cases e : r = cnt
    · subst e
      simp only [if_true]
      obtain ⟨gz, cz, ez, _, _⟩ := o2.form (show 0 < i + 1 by omega)
      injection ez with ez _ _
      refine ⟨far _ _ _ (hk2.below ((Below.refl y3.heap.size y3).alloc (Nat.le_refl _) _)) (fun b off e hb => ?_), gz, ez⟩
      have h1 := (ho.lt b hb).2
      subst e
      have h2 := (o2.lt b rfl).1
      omega
    · simp only [if_neg e]
      refine ⟨far _ _ _ ((hrows r (by omega)).1.below g4) (fun b off e2 hb => ?_), (hrows r (by omega)).2⟩
      obtain ⟨b', off', e3, hlb, hc3⟩ := (hrows r (by omega)).1.get (show 0 < i + 1 by omega)
      obtain ⟨gz, ez⟩ := (hrows r (by omega)).2
      rw [e2] at e3 ez
      cases e3
      cases ez
      rcases ho.2 with ⟨rfl, _⟩ | ⟨g, cap, cur, rfl, _, hh, _⟩
      · cases hb
      · have hgb : g = b := by simpa [Value.ownBlock] using hb
        subst hgb
        have h6 := ho.cells (g := g) rfl 0 _ (sls_get A C (i + 1) cnt 0 (by omega))
        rw [add_zero0, hc3] at h6
        cases h6
set_option maxHeartbeats 6400000 in
set_option maxRecDepth 100000 in
theorem r6All_any (a : Option Addr) (n c : Nat) (f : Nat → Int) (M0 : Nat) (w : World) (h : KRow w .i64 a n c f) (hs : shB f n = true) (hM0 : itm f n = (M0 : Nat)) :
    Calls Tryz.prog 55 #[.slice a n c] w fun e w' => ∃ a' c' A C, e = .returned (.slice a' M0 c') ∧ LRow w' a' M0 c' A (fun _ => n) C (fun r => dgs f n (r : Nat)) ∧ Below w.heap.size w w' := by
  obtain ⟨h8, hax⟩ := sh_ax hs
  have hl := h.len
  have H := Lib.hid h
  have HAX := Lib.hid hax
  have H0 : Hid (itm f 0 = ((1 : Nat) : Int) ∧ Below w.heap.size w ((w.alloc (.cells #[] 3)).alloc (.cells #[.slice (some ⟨w.heap.size, 0, none⟩) 0 0] 22)) ∧ LRow ((w.alloc (.cells #[] 3)).alloc (.cells #[.slice (some ⟨w.heap.size, 0, none⟩) 0 0] 22)) (some ⟨w.heap.size + 1, 0, none⟩) 1 1 (fun _ => some ⟨w.heap.size, 0, none⟩) (fun _ => 0) (fun _ => 0) (fun r => dgs f 0 (r : Nat))) := Lib.hid (by
    have r1 := Row.new (w.alloc (.cells #[] 3)) 22 #[.slice (some ⟨w.heap.size, 0, none⟩) 0 0]
    rw [World.size_alloc] at r1
    refine ⟨rfl, ((Below.refl _ _).alloc (Nat.le_refl _) _).alloc (by simp) _, Nat.le_refl _, by unfold maxLen; omega, .inr ⟨_, 0, rfl, r1.lt, fun j hj => ?_⟩⟩
    obtain rfl : j = 0 := by omega
    exact ⟨r1.cell 0, KRow.nought _ _ _ _ (Nat.zero_le _) _, fun e => by cases e⟩)
  clear h hs hax
  go_enter Tryz.func55, Tryz.ntmps55
  go_wp2_with fail
  go_loopw [3, 4] (fun l j wr => ∃ (i M : Nat) (la : Option Addr) (lc : Nat), i ≤ n ∧ j = .int .i64 i ∧ l = .slice la M lc ∧ Hid (itm f i = (M : Nat) ∧ Below w.heap.size w wr ∧ ∃ A C, LRow wr la M lc A (fun _ => i) C (fun r => dgs f i (r : Nat)))) (fun _ j _ => n - (intOf j).toNat)
  case atStart => exact ⟨0, 1, _, 1, by omega, rfl, rfl, H0.out.1, H0.out.2.1, _, _, H0.out.2.2⟩
  case round =>
    obtain ⟨i, M, la, lc, hi, rfl, rfl, hrel⟩ := hrel
    obtain ⟨hM, hbl, A, C, hL⟩ := hrel.out
    by_cases hlt : i < n
    · obtain ⟨F, hF⟩ : ∃ F, (f i).toNat = F := ⟨_, rfl⟩
      have hf0 := ax_nn HAX.out hlt
      have hfF : f i = (F : Nat) := by omega
      have hb1 := ax_bd (ax_le (show i + 1 ≤ n by omega) HAX.out)
      have hF4 : F ≤ 4096 := by
        have h2 := rm_pos f i
        have h3 : 1 * max (f i) 1 ≤ rm f i * max (f i) 1 := Int.mul_le_mul h2 (Int.le_refl _) (by omega) (by omega)
        have h4 : rm f (i + 1) = rm f i * max (f i) 1 := rfl
        omega
      have hMF : itm f (i + 1) = ((M * F : Nat) : Int) := by
        show itm f i * f i = _
        rw [hM, hfF, Int.natCast_mul]
      have hMF4 : M * F ≤ 4096 := by rw [hMF] at hb1; omega
      have HMF := Lib.hid (And.intro hMF hMF4)
      have HBL := Lib.hid hbl
      have HL := Lib.hid hL
      have HFF := Lib.hid (And.intro hF hfF)
      have hlen := hL.1
      have H1 := Lib.hid (AllSt.nought wr f i)
      have HK := Lib.hid (H.out.below hbl)
      have hml : M ≤ 9223372036854775807 := by have := hL.1; have := hL.2.1; unfold maxLen at this; omega
      clear hrel hbl hL hb1 hMF hMF4 hF hf0 hM
      have hwr := HBL.out.size
      obtain ⟨y0, hy0⟩ : ∃ y0, y0 = wr := ⟨_, rfl⟩
      subst hy0
      go_wp2_with fail
      go_loopw [5, 6] (fun v kk wk => ∃ (k : Nat) (v5 : Value), k ≤ M ∧ kk = .int .i64 k ∧ v5 = v ∧ Hid (AllSt y0 wk f i (k * F) v5)) (fun _ kk _ => M - (intOf kk).toNat)
      case atStart => exact ⟨0, _, by omega, rfl, rfl, by rw [Nat.zero_mul]; exact H1.out⟩
      case round =>
        obtain ⟨k, v5, hk, rfl, hv5, hst⟩ := hrel
        subst hv5
        by_cases hkM : k < M
        · have HST := Lib.hid hst.out
          have hkF : k * F + F ≤ M * F := by
            have := Nat.mul_le_mul_right F (show k + 1 ≤ M by omega)
            rwa [Nat.add_mul, Nat.one_mul] at this
          have HKF := Lib.hid hkF
          clear hst hkF
          obtain ⟨y1, hy1⟩ : ∃ y1, y1 = wr := ⟨_, rfl⟩
          subst hy1
          go_wp2_with fail
          go_loopw [5, 7] (fun v mm wm => ∃ (m : Nat) (v6 : Value), m ≤ F ∧ mm = .int .i64 m ∧ v6 = v ∧ Hid (AllSt y0 wm f i (k * F + m) v6)) (fun _ mm _ => F - (intOf mm).toNat)
          case atStart => exact ⟨0, _, by omega, rfl, rfl, HST.out⟩
          case round =>
            obtain ⟨m, v6, hm, rfl, hv6, hst⟩ := hrel
            subst hv6
            obtain ⟨b0, off0, hab, hb0, hc0⟩ := (HK.out.below hst.out.1).get hlt
            subst hab
            rw [HFF.out.2] at hc0
            by_cases hmF : m < F
            · have hL := HL.out
              obtain ⟨b, off, hlab, hb, hcl, hkr, hnn⟩ := (hL.below hst.out.1).get hkM
              subst hlab
              obtain ⟨v1, y2, r1, a2, c2, y3, r2, v9, y5, r3, hnew⟩ := all_step (m := m) (k := k) hst.out hkr hnn (by omega) (by have := HKF.out; have := HMF.out.2; omega) (by rw [HFF.out.1]; exact HFF.out.2) (by rw [HFF.out.1]; exact hmF) (by rw [HFF.out.1])
              have HN := Lib.hid hnew
              have d1 : (m : Int) < F := by omega
              have d2 : (m : Int) < 4096 := by omega
              clear hst hnew hL hkr hnn
              generalize A k = ak at *
              generalize C k = ck at *
              go_wp2_with (first
                | (at_builtin; refine Lib.wpList_append_run _ rfl (.tmp 35) (.tmp 39) 22 22 rfl _ _ rfl rfl _ _ r1 ?_)
                | (at_builtin; refine Lib.wpList_append_run _ rfl (.tmp 40) (.tmp 42) 22 22 rfl _ _ rfl rfl _ _ r2 ?_)
                | (at_builtin; refine Lib.wpList_append_run _ rfl (.tmp 34) (.tmp 44) 88 88 rfl _ _ rfl rfl _ _ r3 ?_))
              go_roundw
              case rel => exact ⟨m + 1, v9, by omega, by go_num, rfl, HN.out⟩
              case measure => simp [intOf]; omega
            · obtain rfl : m = F := by omega
              have HN : Hid (AllSt y0 wr f i ((k + 1) * m) v6) := Lib.hid (by rw [Nat.add_mul, Nat.one_mul]; exact hst.out)
              clear hst
              go_wp2
              go_roundw
              case rel => exact ⟨k + 1, v6, by omega, by go_num, rfl, HN.out⟩
              case measure => simp [intOf]; omega
        · obtain rfl : k = M := by omega
          obtain ⟨la2, lc2, A2, C2, hv, hL2⟩ := hst.out.done
          subst hv
          have HN : Hid (itm f (i + 1) = ((k * F : Nat) : Int) ∧ Below w.heap.size w wr ∧ ∃ A C, LRow wr la2 (k * F) lc2 A (fun _ => i + 1) C (fun r => dgs f (i + 1) (r : Nat))) := Lib.hid ⟨HMF.out.1, HBL.out.trans (hst.out.1.mono hwr), _, _, hL2⟩
          clear hst hL2
          go_wp2
          go_roundw
          case rel => exact ⟨i + 1, k * F, la2, lc2, by omega, by go_num, rfl, HN.out⟩
          case measure => simp [intOf]; omega
    · obtain rfl : i = n := by omega
      have hMM : M = M0 := by rw [hM0] at hM; omega
      subst hMM
      have HE : Hid (∃ A C, LRow wr la M lc A (fun _ => i) C (fun r => dgs f i (r : Nat))) := Lib.hid ⟨A, C, hL⟩
      have HBL := Lib.hid hbl
      clear hrel hbl hL hM
      go_wp2
      go_ret
      obtain ⟨A, C, hL⟩ := HE.out
      exact ⟨_, _, A, C, rfl, hL, HBL.out⟩
end Go.Proofs.YtpmcbnliogjknaaGreatDoor
