/-
  Package shape: Without, Split, Strides, by contract.
-/
import Derived.Test.YtgpcfncolhmgfaaSh2
import Derived.Test.YtgpcfncolhmgfaaSh4
namespace Go.Proofs.Ytgpcfncolhmgfaa
open Go.RowKit

/-- Without one place. -/
def outF (f : Nat → Int) (k : Nat) : Nat → Int := fun j => if j < k then f j else f (j + 1)
def woN (n : Nat) (i : Int) : Nat := if 0 ≤ i ∧ i < n then n - 1 else n
def woF (f : Nat → Int) (n : Nat) (i : Int) : Nat → Int := if 0 ≤ i ∧ i < n then outF f i.toNat else f

theorem has_no {n : Nat} {i : Int} (h : ¬ (0 ≤ i ∧ i < n)) : (decide (0 ≤ i) && decide (i < (n : Int))) = false := by
  cases hx : (decide (0 ≤ i) && decide (i < (n : Int))) with
  | false => rfl
  | true => rw [Bool.and_eq_true, decide_eq_true_eq, decide_eq_true_eq] at hx; exact absurd hx h

/-- Two rows laid in a block. -/
theorem LRow.two {w : World} {g : Nat} {t : TypeId} {a1 a2 : Option Addr} {n1 c1 n2 c2 : Nat} {f1 f2 : Nat → Int} (h : Row w g t #[.slice a1 n1 c1, .slice a2 n2 c2]) (k1 : KRow w .i64 a1 n1 c1 f1) (k2 : KRow w .i64 a2 n2 c2 f2) (e1 : a1 = none → c1 = 0) (e2 : a2 = none → c2 = 0) :
    LRow w (some ⟨g, 0, none⟩) 2 2 (fun j => if j = 0 then a1 else a2) (fun j => if j = 0 then n1 else n2) (fun j => if j = 0 then c1 else c2) (fun j => if j = 0 then f1 else f2) := by
  refine ⟨Nat.le_refl _, by unfold maxLen; omega, .inr ⟨g, 0, rfl, h.lt, fun j hj => ?_⟩⟩
  have : j = 0 ∨ j = 1 := by omega
  rcases this with rfl | rfl
  · exact ⟨h.cell 0, k1, e1⟩
  · exact ⟨h.cell 1, k2, e2⟩
theorem LRow.three {w : World} {g : Nat} {t : TypeId} {a1 a2 a3 : Option Addr} {n1 c1 n2 c2 n3 c3 : Nat} {f1 f2 f3 : Nat → Int} (h : Row w g t #[.slice a1 n1 c1, .slice a2 n2 c2, .slice a3 n3 c3]) (k1 : KRow w .i64 a1 n1 c1 f1) (k2 : KRow w .i64 a2 n2 c2 f2) (k3 : KRow w .i64 a3 n3 c3 f3) (e1 : a1 = none → c1 = 0) (e2 : a2 = none → c2 = 0) (e3 : a3 = none → c3 = 0) :
    LRow w (some ⟨g, 0, none⟩) 3 3 (fun j => if j = 0 then a1 else if j = 1 then a2 else a3) (fun j => if j = 0 then n1 else if j = 1 then n2 else n3) (fun j => if j = 0 then c1 else if j = 1 then c2 else c3) (fun j => if j = 0 then f1 else if j = 1 then f2 else f3) := by
  refine ⟨Nat.le_refl _, by unfold maxLen; omega, .inr ⟨g, 0, rfl, h.lt, fun j hj => ?_⟩⟩
  have : j = 0 ∨ j = 1 ∨ j = 2 := by omega
  rcases this with rfl | rfl | rfl
  · exact ⟨h.cell 0, k1, e1⟩
  · exact ⟨h.cell 1, k2, e2⟩
  · exact ⟨h.cell 2, k3, e3⟩
theorem KRow.congr {w : World} {ki : IntKind} {a : Option Addr} {n c : Nat} {f g : Nat → Int} (h : KRow w ki a n c f) (e : ∀ j, j < n → f j = g j) : KRow w ki a n c g := by
  refine ⟨h.1, h.2.1, h.2.2.imp id ?_⟩
  rintro ⟨b, off, rfl, hl, hc⟩
  exact ⟨b, off, rfl, hl, fun j hj => by rw [← e j hj]; exact hc j hj⟩

set_option maxHeartbeats 1600000 in
set_option maxRecDepth 100000 in
theorem without_any (a : Option Addr) (n c : Nat) (f : Nat → Int) (i : Int) (w : World) (h : KRow w .i64 a n c f) (hn : n ≤ 1000000) :
    Calls Try.prog 24 #[.slice a n c, .int .i64 i] w fun e w' => ∃ a' c', e = .returned (.slice a' (woN n i) c') ∧ KRow w' .i64 a' (woN n i) c' (woF f n i) ∧ Below w.heap.size w w' := by
  have hl := h.len
  have hcm := h.2.1
  unfold maxLen at hcm
  have CL := Lib.hid (cloneI_any a n c f w h hn)
  have HA := Lib.hid (has_any a n c i w)
  unfold woN woF
  by_cases hin : 0 ≤ i ∧ i < n
  · rw [if_pos hin, if_pos hin]
    obtain ⟨h0, h1⟩ := hin
    obtain ⟨k, rfl⟩ : ∃ k : Nat, i = k := ⟨i.toNat, by omega⟩
    have hk : k < n := by omega
    rw [show ((k : Nat) : Int).toNat = k from rfl]
    rw [decide_eq_true h0, decide_eq_true h1] at HA
    obtain ⟨b, off, rfl, hb, _⟩ := h.get hk
    have hw1 := IntWalk.i64_in ((k : Int) + 1) (by omega)
    have CO : Hid (∀ (wz : World) (ad : Option Addr), (ad = some ⟨b, off + (k + 1), none⟩ ∨ (ad ≠ none ∧ n - (k + 1) = 0)) → Below w.heap.size w wz → Row wz w.heap.size 22 #[.slice (some ⟨b, off, none⟩) k c, .slice ad (n - (k + 1)) (c - (k + 1))] → Calls Try.prog 32 #[.slice (some ⟨w.heap.size, 0, none⟩) 2 2] wz fun e w' => ∃ a' c', e = .returned (.slice a' (n - 1) c') ∧ KRow w' .i64 a' (n - 1) c' (outF f k) ∧ Below wz.heap.size wz w') := Lib.hid (fun wz ad hads hbz hrow => by
      have hadn : ad ≠ none := by rcases hads with rfl | ⟨h, _⟩; · simp
                                  · exact h
      have k1 := (h.take (show k ≤ n by omega)).below hbz
      have k2 : KRow wz .i64 ad (n - (k + 1)) (c - (k + 1)) (shf f (k + 1)) := by
        rcases hads with rfl | ⟨_, h0⟩
        · exact (h.from (show k + 1 ≤ n by omega)).below hbz
        · rw [h0]; exact KRow.nought _ _ _ _ (by unfold maxLen; omega) _
      have hL := LRow.two hrow k1 k2 (fun e => absurd e (by simp)) (fun e => absurd e hadn)
      have ht : tot (fun j => if j = 0 then k else n - (k + 1)) 2 = n - 1 := by show 0 + k + (n - (k + 1)) = n - 1; omega
      have := concat_any _ 2 2 _ _ _ _ wz hL (by omega) (by rw [ht]; omega)
      rw [ht] at this
      refine this.mono ?_
      rintro e w' ⟨a', c', rfl, hk', _, hb'⟩
      refine ⟨a', c', rfl, hk'.congr (fun j hj => ?_), hb'⟩
      show app (app (fun _ => 0) 0 f) (0 + k) (shf f (k + 1)) j = outF f k j
      unfold app outF shf
      rw [Nat.zero_add]
      by_cases e : j < k
      · rw [if_pos e, if_pos e, if_neg (by omega)]; rfl
      · rw [if_neg e, if_neg e]; congr 1; omega)
    by_cases hck : c = k + 1
    · subst hck
      obtain rfl : n = k + 1 := by omega
      rw [show k + 1 - 1 = k by omega] at CO ⊢
      have CO2 : Hid (Calls Try.prog 32 #[.slice (some ⟨w.heap.size, 0, none⟩) 2 2] (w.alloc (.cells #[.slice (some ⟨b, off, none⟩) k (k + 1), .slice (some ⟨b, off, none⟩) 0 0] 22)).drew fun e w' => ∃ a' c', e = .returned (.slice a' k c') ∧ KRow w' .i64 a' k c' (outF f k) ∧ Below w.heap.size w w') := Lib.hid (by
        have hbz : Below w.heap.size w (w.alloc (.cells #[.slice (some ⟨b, off, none⟩) k (k + 1), .slice (some ⟨b, off, none⟩) 0 0] 22)).drew := ((Below.refl _ _).alloc (Nat.le_refl _) _).drew
        have hrow : Row (w.alloc (.cells #[.slice (some ⟨b, off, none⟩) k (k + 1), .slice (some ⟨b, off, none⟩) 0 0] 22)).drew w.heap.size 22 #[.slice (some ⟨b, off, none⟩) k (k + 1), .slice (some ⟨b, off, none⟩) 0 0] := Row.new w _ _
        refine (CO.out _ (some ⟨b, off, none⟩) (.inr ⟨by simp, by omega⟩) hbz (by rw [show k + 1 - (k + 1) = 0 by omega]; exact hrow)).mono ?_
        rintro e w' ⟨a', c', rfl, hk', hb'⟩
        exact ⟨a', c', rfl, hk', hbz.trans (hb'.mono hbz.size)⟩)
      have d1 : ¬ (((k + 1 : Nat) : Int) < k) := by omega
      have d2 : (0 : Int) ≤ k := by omega
      have d3 : ¬ (((k + 1 : Nat) : Int) < (k : Int) + 1) := by omega
      have d4 : (0 : Int) ≤ (k : Int) + 1 := by omega
      have hg : ((k : Int) + 1).toNat = k + 1 := by omega
      clear h
      go_enter Try.func24, Try.ntmps24
      go_wp2_with fail
      go_at_call 29
      (with_reducible refine (HA.out).mono ?_)
      rintro e w2 ⟨rfl, rfl⟩
      go_wp2_with fail
      go_region_with (go_at_call 32; (refine CO2.out.mono ?_); rintro e w3 ⟨a3, c3, rfl, hq3⟩; have HE := Lib.hid hq3; clear hq3)
      go_wp2
      go_ret
      exact ⟨_, _, rfl, HE.out⟩
    · have CO2 : Hid (Calls Try.prog 32 #[.slice (some ⟨w.heap.size, 0, none⟩) 2 2] (w.alloc (.cells #[.slice (some ⟨b, off, none⟩) k c, .slice (some ⟨b, off + (k + 1), none⟩) (n - (k + 1)) (c - (k + 1))] 22)).drew fun e w' => ∃ a' c', e = .returned (.slice a' (n - 1) c') ∧ KRow w' .i64 a' (n - 1) c' (outF f k) ∧ Below w.heap.size w w') := Lib.hid (by
        have hbz : Below w.heap.size w (w.alloc (.cells #[.slice (some ⟨b, off, none⟩) k c, .slice (some ⟨b, off + (k + 1), none⟩) (n - (k + 1)) (c - (k + 1))] 22)).drew := ((Below.refl _ _).alloc (Nat.le_refl _) _).drew
        have hrow : Row (w.alloc (.cells #[.slice (some ⟨b, off, none⟩) k c, .slice (some ⟨b, off + (k + 1), none⟩) (n - (k + 1)) (c - (k + 1))] 22)).drew w.heap.size 22 #[.slice (some ⟨b, off, none⟩) k c, .slice (some ⟨b, off + (k + 1), none⟩) (n - (k + 1)) (c - (k + 1))] := Row.new w _ _
        refine (CO.out _ _ (.inl rfl) hbz hrow).mono ?_
        rintro e w' ⟨a', c', rfl, hk', hb'⟩
        exact ⟨a', c', rfl, hk', hbz.trans (hb'.mono hbz.size)⟩)
      have d1 : ¬ ((c : Int) < k) := by omega
      have d2 : (0 : Int) ≤ k := by omega
      have d3 : ¬ ((n : Int) < (k : Int) + 1) := by omega
      have d4 : (0 : Int) ≤ (k : Int) + 1 := by omega
      have hg : ((k : Int) + 1).toNat = k + 1 := by omega
      clear h
      go_enter Try.func24, Try.ntmps24
      go_wp2_with fail
      go_at_call 29
      (with_reducible refine (HA.out).mono ?_)
      rintro e w2 ⟨rfl, rfl⟩
      go_wp2_with fail
      go_region_with (go_at_call 32; (refine CO2.out.mono ?_); rintro e w3 ⟨a3, c3, rfl, hq3⟩; have HE := Lib.hid hq3; clear hq3)
      go_wp2
      go_ret
      exact ⟨_, _, rfl, HE.out⟩
  · rw [if_neg hin, if_neg hin]
    rw [has_no hin] at HA
    clear hin h
    go_enter Try.func24, Try.ntmps24
    go_wp2_with fail
    go_at_call 29
    (with_reducible refine (HA.out).mono ?_)
    rintro e w2 ⟨rfl, rfl⟩
    go_wp2_with fail
    go_at_call 33
    (with_reducible refine (CL.out).mono ?_)
    rintro e w1 ⟨a1, c1, rfl, hk1, hb1⟩
    have HE := Lib.hid (And.intro hk1 hb1)
    clear hk1 hb1
    go_wp2
    go_ret
    exact ⟨_, _, rfl, HE.out⟩

/-- What Split answers. -/
def spB (f : Nat → Int) (n : Nat) (i : Int) : Bool := shB f n && (decide (0 ≤ i) && decide (i < (n : Int)))
def SpTold (f : Nat → Int) (n : Nat) (i : Int) (w w' : World) (e : Ending) : Prop :=
  e = .returned (.tuple #[.int .i64 (if spB f n i then itm f i.toNat else 0), .int .i64 (if spB f n i then f i.toNat else 0), .int .i64 (if spB f n i then itm (shf f (i.toNat + 1)) (n - (i.toNat + 1)) else 0), .bool (spB f n i)]) ∧ Below w.heap.size w w'
theorem SpTold.no {f : Nat → Int} {n : Nat} {i : Int} {w w' : World} (hb : Below w.heap.size w w') (h : spB f n i = false) : SpTold f n i w w' (.returned (.tuple #[.int .i64 0, .int .i64 0, .int .i64 0, .bool false])) := by
  refine ⟨?_, hb⟩
  rw [h]
  rfl
theorem SpTold.yes {f : Nat → Int} {n k : Nat} {w w' : World} (hb : Below w.heap.size w w') (h : shB f n = true) (hk : k < n) : SpTold f n k w w' (.returned (.tuple #[.int .i64 (itm f k), .int .i64 (f k), .int .i64 (itm (shf f (k + 1)) (n - (k + 1))), .bool true])) := by
  refine ⟨?_, hb⟩
  have : spB f n k = true := by unfold spB; rw [h, decide_eq_true (show (0 : Int) ≤ k by omega), decide_eq_true (show (k : Int) < n by omega)]; rfl
  rw [this]
  rfl

set_option maxHeartbeats 1600000 in
set_option maxRecDepth 100000 in
theorem split_any (a : Option Addr) (n c : Nat) (f : Nat → Int) (i : Int) (w : World) (h : KRow w .i64 a n c f) (hf : In64 f n) :
    Calls Try.prog 19 #[.slice a n c, .int .i64 i] w fun e w' => SpTold f n i w w' e := by
  have hl := h.len
  have hcm := h.2.1
  unfold maxLen at hcm
  have CN := Lib.hid (fun wz (h : KRow wz .i64 a n c f) => count_any a n c f wz h hf)
  unfold CntTold at CN
  have HA := Lib.hid (has_any a n c i w)
  have H := Lib.hid h
  clear hf
  cases hs : shB f n with
  | false =>
    have HE := Lib.hid (SpTold.no (f := f) (n := n) (i := i) (Below.refl w.heap.size w) (by unfold spB; rw [hs]; rfl))
    rw [hs] at CN
    generalize cntI f n = x at *
    clear hs h
    go_enter Try.func19, Try.ntmps19
    go_wp2_with fail
    go_at_call 27
    (with_reducible refine (CN.out _ H.out).mono ?_)
    rintro e w1 ⟨rfl, rfl⟩
    go_wp2
    exact bodyPost_ret (v := .tuple #[.int .i64 0, .int .i64 0, .int .i64 0, .bool false]) (by simp [results, Try.results19, go_sem]) rfl HE.out
  | true =>
    rw [hs] at CN
    generalize cntI f n = x at *
    by_cases hin : 0 ≤ i ∧ i < n
    · obtain ⟨h0, h1⟩ := hin
      obtain ⟨k, rfl⟩ : ∃ k : Nat, i = k := ⟨i.toNat, by omega⟩
      have hk : k < n := by omega
      rw [decide_eq_true h0, decide_eq_true h1] at HA
      have HY := Lib.hid (fun wz hb => SpTold.yes (f := f) (n := n) (k := k) (w := w) (w' := wz) hb hs hk)
      obtain ⟨h8, hax⟩ := sh_ax hs
      obtain ⟨b, off, rfl, hb, hc⟩ := h.get hk
      have hw1 := IntWalk.i64_in ((k : Int) + 1) (by omega)
      have P1 : Hid (∀ wz, Below w.heap.size w wz → Calls Try.prog 30 #[.slice (some ⟨b, off, none⟩) k c] wz fun e w' => e = .returned (.int .i64 (itm f k)) ∧ wz = w') := Lib.hid (fun wz hb => product_any _ _ _ _ wz ((h.take (by omega)).below hb) (ax_le (by omega) hax))
      have P2 : Hid (∀ (wz : World) (ad : Option Addr) (n2 c2 : Nat), n2 = n - (k + 1) → n2 ≤ c2 → c2 ≤ c → (ad = some ⟨b, off + (k + 1), none⟩ ∧ c2 = c - (k + 1) ∨ n2 = 0) → Below w.heap.size w wz → Calls Try.prog 30 #[.slice ad n2 c2] wz fun e w' => e = .returned (.int .i64 (itm (shf f (k + 1)) (n - (k + 1)))) ∧ wz = w') := Lib.hid (fun wz ad n2 c2 hn2 hc1 hc2 had hb => by
        subst hn2
        refine product_any _ _ _ _ wz ?_ (ax_shf (k + 1) hax _ (by omega))
        rcases had with ⟨rfl, rfl⟩ | h0
        · exact (h.from (show k + 1 ≤ n by omega)).below hb
        · rw [h0]; exact KRow.nought _ _ _ _ (by unfold maxLen; omega) _)
      clear hs hax
      have HBND := Lib.hid hcm
      generalize itm f k = x1 at *
      generalize itm (shf f (k + 1)) (n - (k + 1)) = x3 at *
      generalize f k = x2 at *
      by_cases hck : c = k + 1
      · subst hck
        obtain rfl : n = k + 1 := by omega
        have Q1 : Hid (∀ q, Calls Try.prog 30 #[.slice (some ⟨b, off, none⟩) k (k + 1)] (w.drewN q) fun e w'' => e = .returned (.int .i64 x1) ∧ ∃ m, w'' = w.drewN m) := Lib.hid (fun q => (P1.out _ (below_drewN (Below.refl _ _) q)).mono (fun e w' h => ⟨h.1, q, h.2.symm⟩))
        have Q2 : Hid (∀ q, Calls Try.prog 30 #[.slice (some ⟨b, off, none⟩) 0 0] (w.drewN q) fun e w'' => e = .returned (.int .i64 x3) ∧ ∃ m, w'' = w.drewN m) := Lib.hid (fun q => (P2.out _ _ 0 0 (by omega) (by omega) (by omega) (.inr rfl) (below_drewN (Below.refl _ _) q)).mono (fun e w' h => ⟨h.1, q, h.2.symm⟩))
        have HYY := Lib.hid (fun q => HY.out (w.drewN q) (below_drewN (Below.refl _ _) q))
        have d1 : ¬ (((k + 1 : Nat) : Int) < k) := by omega
        have d2 : (0 : Int) ≤ k := by omega
        have d3 : ¬ (((k + 1 : Nat) : Int) < (k : Int) + 1) := by omega
        have d4 : (0 : Int) ≤ (k : Int) + 1 := by omega
        have hg : ((k : Int) + 1).toNat = k + 1 := by omega
        clear h
        go_enter Try.func19, Try.ntmps19
        go_wp2_with fail
        go_at_call 27
        (with_reducible refine (CN.out _ H.out).mono ?_)
        rintro e w1 ⟨rfl, rfl⟩
        go_wp2_with fail
        go_at_call 29
        (with_reducible refine (HA.out).mono ?_)
        rintro e w2 ⟨rfl, rfl⟩
        go_wp2_with fail
        go_quiet (first | (go_at_call 30; with_reducible exact Q1.out _) | (go_at_call 30; with_reducible exact Q2.out _))
        have HE := Lib.hid (HYY.out nq)
        go_wp2
        exact bodyPost_ret (v := .tuple #[.int .i64 x1, .int .i64 x2, .int .i64 x3, .bool true]) (by simp [results, Try.results19, go_sem]) rfl HE.out
      · have Q1 : Hid (∀ q, Calls Try.prog 30 #[.slice (some ⟨b, off, none⟩) k c] (w.drewN q) fun e w'' => e = .returned (.int .i64 x1) ∧ ∃ m, w'' = w.drewN m) := Lib.hid (fun q => (P1.out _ (below_drewN (Below.refl _ _) q)).mono (fun e w' h => ⟨h.1, q, h.2.symm⟩))
        have Q2 : Hid (∀ q, Calls Try.prog 30 #[.slice (some ⟨b, off + (k + 1), none⟩) (n - (k + 1)) (c - (k + 1))] (w.drewN q) fun e w'' => e = .returned (.int .i64 x3) ∧ ∃ m, w'' = w.drewN m) := Lib.hid (fun q => (P2.out _ _ _ _ rfl (by omega) (by omega) (.inl ⟨rfl, rfl⟩) (below_drewN (Below.refl _ _) q)).mono (fun e w' h => ⟨h.1, q, h.2.symm⟩))
        have HYY := Lib.hid (fun q => HY.out (w.drewN q) (below_drewN (Below.refl _ _) q))
        have d1 : ¬ ((c : Int) < k) := by omega
        have d2 : (0 : Int) ≤ k := by omega
        have d3 : ¬ ((n : Int) < (k : Int) + 1) := by omega
        have d4 : (0 : Int) ≤ (k : Int) + 1 := by omega
        have hg : ((k : Int) + 1).toNat = k + 1 := by omega
        clear h
        go_enter Try.func19, Try.ntmps19
        go_wp2_with fail
        go_at_call 27
        (with_reducible refine (CN.out _ H.out).mono ?_)
        rintro e w1 ⟨rfl, rfl⟩
        go_wp2_with fail
        go_at_call 29
        (with_reducible refine (HA.out).mono ?_)
        rintro e w2 ⟨rfl, rfl⟩
        go_wp2_with fail
        go_quiet (first | (go_at_call 30; with_reducible exact Q1.out _) | (go_at_call 30; with_reducible exact Q2.out _))
        have HE := Lib.hid (HYY.out nq)
        go_wp2
        exact bodyPost_ret (v := .tuple #[.int .i64 x1, .int .i64 x2, .int .i64 x3, .bool true]) (by simp [results, Try.results19, go_sem]) rfl HE.out
    · have HE := Lib.hid (SpTold.no (f := f) (n := n) (i := i) (Below.refl w.heap.size w) (by unfold spB; rw [has_no hin, Bool.and_false]))
      rw [has_no hin] at HA
      clear hin h hs
      go_enter Try.func19, Try.ntmps19
      go_wp2_with fail
      go_at_call 27
      (with_reducible refine (CN.out _ H.out).mono ?_)
      rintro e w1 ⟨rfl, rfl⟩
      go_wp2_with fail
      go_at_call 29
      (with_reducible refine (HA.out).mono ?_)
      rintro e w2 ⟨rfl, rfl⟩
      go_wp2
      exact bodyPost_ret (v := .tuple #[.int .i64 0, .int .i64 0, .int .i64 0, .bool false]) (by simp [results, Try.results19, go_sem]) rfl HE.out

end Go.Proofs.Ytgpcfncolhmgfaa
