/-
  The document's layer 7: Strides; layer 6: All, by contract.
-/
import Derived.Test.YtgpcfncolhmgfaaSh6
import Derived.Test.YtgpcfncolhmgfaaSh9
namespace Go.Proofs.Ytgpcfncolhmgfaa
open Go.RowKit

set_option maxHeartbeats 3200000 in
set_option maxRecDepth 100000 in
theorem r7Strides_any (a : Option Addr) (n c : Nat) (f : Nat → Int) (w : World) (h : KRow w .i64 a n c f) (hs : shB f n = true) :
    Calls Try.prog 16 #[.slice a n c] w fun e w' => ∃ a' c', e = .returned (.slice a' n c') ∧ KRow w' .i64 a' n c' (stF f n) ∧ Below w.heap.size w w' := by
  obtain ⟨h8, hax⟩ := sh_ax hs
  obtain ⟨i0, hi, hz0, hz1, hz2⟩ := info_parts infoI
  have hl := h.len
  have hcm := h.2.1
  unfold maxLen at hcm
  have H := Lib.hid h
  have HAX := Lib.hid hax
  clear h hs hax
  go_enter Try.func16, Try.ntmps16
  go_wp2
  go_loopw [3, 4] (fun v j wr => ∃ (k : Nat) (a1 : Option Addr) (c1 : Nat), k ≤ n ∧ j = .int .i64 k ∧ v = .slice a1 k c1 ∧ Hid (Below w.heap.size w wr ∧ wr.ownsRow w.heap.size 3 1 (.slice a1 k c1) k (kcs .i64 (stF f n) k))) (fun _ j _ => n - (intOf j).toNat)
  case atStart => exact ⟨0, none, 0, by omega, rfl, rfl, Below.refl _ _, World.ownsRow_nil _ _ _ _⟩
  case round =>
    obtain ⟨k, a1, c1, hk, rfl, rfl, hrel⟩ := hrel
    obtain ⟨hbl, hown⟩ := hrel.out
    by_cases hlt : k < n
    · have hkr := H.out.below hbl
      obtain ⟨b, off, rfl, hb, hc⟩ := hkr.get hlt
      have HMX := Lib.hid (show k + 1 ≤ maxLen by unfold maxLen; omega)
      have HMY := Lib.hid (show (k + 1) * 8 ≤ 140737488355328 by omega)
      have hwr := hbl.size
      have HW : Hid (∀ (v5 : Value) (w5 : World), w5.ownsRow w.heap.size 3 1 v5 (k + 1) (kcs .i64 (stF f n) k ++ [.int .i64 (stF f n k)]) → w5.ownsRow w.heap.size 3 1 v5 (k + 1) (kcs .i64 (stF f n) (k + 1))) := Lib.hid (fun v5 w5 h => h)
      have HO2 := Lib.hid (fun y => own_below hown ((Below.refl _ _).alloc (Nat.le_refl _) (.cells #[.int .i64 y] 3)))
      have HNEW := Lib.hid (fun y => World.news_of_block (Row.new wr 3 #[.int .i64 y]))
      have HB2 := Lib.hid (fun y => hbl.trans ((Below.refl wr.heap.size wr).alloc (Nat.le_refl _) (.cells #[.int .i64 y] 3) |>.mono hwr))
      have HBA : Hid (∀ y, w.heap.size ≤ (wr.alloc (.cells #[.int .i64 y] 3)).heap.size) := Lib.hid (fun y => by rw [World.size_alloc]; omega)
      have P2 : Hid (∀ (ad : Option Addr) (n9 c9 : Nat), n9 = n - (k + 1) → n9 ≤ c9 → c9 ≤ c → (ad = some ⟨b, off + (k + 1), none⟩ ∧ c9 = c - (k + 1) ∨ n9 = 0) → Calls Try.prog 26 #[.slice ad n9 c9] wr fun e w' => e = .returned (.int .i64 (stF f n k)) ∧ wr = w') := Lib.hid (fun ad n9 c9 hn9 hc1 hc2 had => by
        subst hn9
        refine r7Product_any _ _ _ _ wr ?_ (ax_shf (k + 1) HAX.out _ (by omega))
        rcases had with ⟨rfl, rfl⟩ | h0
        · exact hkr.from (show k + 1 ≤ n by omega)
        · rw [h0]; exact KRow.nought _ _ _ _ (by unfold maxLen; omega) _)
      have hw1 := IntWalk.i64_in ((k : Int) + 1) (by omega)
      have d5 : ¬ ((n : Int) < (k : Int) + 1) := by omega
      have d6 : (0 : Int) ≤ (k : Int) + 1 := by omega
      have hg9 : ((k : Int) + 1).toNat = k + 1 := by omega
      clear hbl hown hrel hkr
      generalize stF f n k = y at *
      by_cases hck : c = k + 1
      · subst hck
        obtain rfl : n = k + 1 := by omega
        have P2 := Lib.hid (P2.out (some ⟨b, off, none⟩) 0 0 (by omega) (by omega) (by omega) (.inr rfl))
        go_wp2_with fail
        go_at_call 26
        (with_reducible refine (P2.out).mono ?_)
        rintro e w4 ⟨rfl, rfl⟩
        go_wp2_with (at_builtin; refine wpList_append_lies _ rfl (.tmp 11) (.tmp 17) 22 rfl w.heap.size 3 i0 _ 1 8 Try.underlying22 hi hz0 hz1 hz2 rfl (by omega) (.slice a1 k c1) k _ rfl (HO2.out y) ⟨wr.heap.size, 0, none⟩ 1 1 [.int .i64 y] rfl rfl (HNEW.out y) ?q1 (by omega) HMX.out HMY.out (HBA.out y) _ rfl ?_)
        case q1 => first | rfl | (intro u hu; simp at hu; subst hu; rfl)
        intro g9 cap9 w5 hown5 hgrow _ _
        have HN2 := Lib.hid (And.intro ((HB2.out y).grown hgrow (HBA.out y) (fun q hq => ((HO2.out y).lt q hq).1)) (HW.out _ _ hown5))
        clear hown5 hgrow
        go_wp2
        go_roundw
        case rel => exact ⟨k + 1, _, cap9, by omega, by go_num, rfl, HN2.out⟩
        case measure => simp [intOf]
      · have P2 := Lib.hid (P2.out _ _ _ rfl (by omega) (by omega) (.inl ⟨rfl, rfl⟩))
        go_wp2_with fail
        go_at_call 26
        (with_reducible refine (P2.out).mono ?_)
        rintro e w4 ⟨rfl, rfl⟩
        go_wp2_with (at_builtin; refine wpList_append_lies _ rfl (.tmp 11) (.tmp 17) 22 rfl w.heap.size 3 i0 _ 1 8 Try.underlying22 hi hz0 hz1 hz2 rfl (by omega) (.slice a1 k c1) k _ rfl (HO2.out y) ⟨wr.heap.size, 0, none⟩ 1 1 [.int .i64 y] rfl rfl (HNEW.out y) ?q1 (by omega) HMX.out HMY.out (HBA.out y) _ rfl ?_)
        case q1 => first | rfl | (intro u hu; simp at hu; subst hu; rfl)
        intro g9 cap9 w5 hown5 hgrow _ _
        have HN2 := Lib.hid (And.intro ((HB2.out y).grown hgrow (HBA.out y) (fun q hq => ((HO2.out y).lt q hq).1)) (HW.out _ _ hown5))
        clear hown5 hgrow
        go_wp2
        go_roundw
        case rel => exact ⟨k + 1, _, cap9, by omega, by go_num, rfl, HN2.out⟩
        case measure => simp [intOf]; omega
    · obtain rfl : k = n := by omega
      obtain ⟨a9, c9, he, hq⟩ := KRow.of_own hown
      injection he with he1 _ he2
      subst he1 he2
      have HE := Lib.hid (And.intro hq hbl)
      clear hbl hown hq hrel
      go_wp2
      go_ret
      exact ⟨_, _, rfl, HE.out⟩

/-- The cells of a row of slices of one length. -/
def sls (A : Nat → Option Addr) (C : Nat → Nat) (L : Nat) : Nat → List Value
  | 0 => []
  | k + 1 => sls A C L k ++ [.slice (A k) L (C k)]
theorem sls_length (A : Nat → Option Addr) (C : Nat → Nat) (L : Nat) : ∀ k, (sls A C L k).length = k
  | 0 => rfl
  | k + 1 => by unfold sls; rw [List.length_append, sls_length A C L k]; rfl
theorem sls_get (A : Nat → Option Addr) (C : Nat → Nat) (L : Nat) : ∀ k j, j < k → (sls A C L k)[j]? = some (.slice (A j) L (C j))
  | 0, j, h => absurd h (Nat.not_lt_zero _)
  | k + 1, j, h => by
    have hl := sls_length A C L k
    unfold sls
    rcases Nat.lt_or_ge j k with h1 | h1
    · rw [List.getElem?_append_left (by omega)]
      exact sls_get A C L k j h1
    · obtain rfl : j = k := by omega
      rw [List.getElem?_append_right (by omega), hl, Nat.sub_self]
      rfl
theorem sls_congr {A A' : Nat → Option Addr} {C C' : Nat → Nat} {L : Nat} : ∀ {n : Nat}, (∀ j, j < n → A j = A' j ∧ C j = C' j) → sls A C L n = sls A' C' L n
  | 0, _ => rfl
  | n + 1, h => by unfold sls; rw [sls_congr (fun j hj => h j (by omega)), (h n (by omega)).1, (h n (by omega)).2]
theorem infoS : (Try.prog.info? 22).map (fun i => (i.zero, i.size, i.bytes)) = some (some (.slice none 0 0), 1, 24) := by kernel_rfl

/-- The rows of the next axis in the making. -/
def AllSt (y0 wr : World) (f : Nat → Int) (i cnt : Nat) (v : Value) : Prop :=
  Below y0.heap.size y0 wr ∧ ∃ A C, wr.ownsRow y0.heap.size 22 1 v cnt (sls A C (i + 1) cnt) ∧ ∀ r, r < cnt → KRow wr .i64 (A r) (i + 1) (C r) (dgs f (i + 1) (r : Nat)) ∧ ∃ g, A r = some ⟨g, 0, none⟩
theorem AllSt.nought (y0 : World) (f : Nat → Int) (i : Nat) : AllSt y0 y0 f i 0 (.slice none 0 0) := ⟨Below.refl _ _, fun _ => none, fun _ => 0, World.ownsRow_nil _ _ _ _, fun _ h => absurd h (Nat.not_lt_zero _)⟩
/-- All rows of an axis, as a row of rows. -/
theorem AllSt.done {y0 wr : World} {f : Nat → Int} {i cnt : Nat} {v : Value} (h : AllSt y0 wr f i cnt v) : ∃ la lc A C, v = .slice la cnt lc ∧ LRow wr la cnt lc A (fun _ => i + 1) C (fun r => dgs f (i + 1) (r : Nat)) := by
  obtain ⟨_, A, C, ho, hk⟩ := h
  have hA : ∀ r, r < cnt → A r ≠ none := fun r hr e => by
    obtain ⟨g, e2⟩ := (hk r hr).2
    rw [e] at e2
    cases e2
  rcases ho.2 with ⟨rfl, rfl⟩ | ⟨g, cap, cur, rfl, _, hh, h1, h2, _, _⟩
  · exact ⟨none, 0, A, C, rfl, Nat.le_refl _, Nat.zero_le _, .inl rfl⟩
  · refine ⟨some ⟨g, 0, none⟩, cap, A, C, rfl, h1, h2, .inr ⟨g, 0, rfl, Row.lt (t := 22) hh, fun j hj => ⟨?_, (hk j hj).1, fun e => absurd e (hA j hj)⟩⟩⟩
    have := ho.cells (g := g) rfl j _ (sls_get A C (i + 1) cnt j hj)
    rwa [show (⟨g, 0, none⟩ : Addr).add j = ⟨g, 0 + j, none⟩ by unfold Addr.add; split <;> simp_all] at this

theorem add_zero0 (g j : Nat) : (⟨g, 0, none⟩ : Addr).add j = ⟨g, 0 + j, none⟩ := by unfold Addr.add; split <;> simp_all

/-- One more row: the row of the axes before, and one number more. -/
theorem all_step {y0 wr : World} {f : Nat → Int} {i cnt k m : Nat} {v : Value} {ak : Option Addr} {ck : Nat} (h : AllSt y0 wr f i cnt v) (hk : KRow wr .i64 ak i ck (dgs f i (k : Nat))) (hn : ak = none → ck = 0) (hi8 : i ≤ 8) (hcnt : cnt ≤ 5000) (hf : f i = ((f i).toNat : Nat)) (hm : m < (f i).toNat) (hc : cnt = k * (f i).toNat + m) :
    ∃ v1 y1, (Builtin.append_ #[22, 22] 22 #[.slice (some ⟨wr.heap.size, 0, none⟩) 0 0, .slice ak i ck]).run Try.prog (wr.alloc (.cells #[] 3)) = .ok v1 y1 ∧
    ∃ a2 c2 y3, (Builtin.append_ #[22, 22] 22 #[v1, .slice (some ⟨y1.heap.size, 0, none⟩) 1 1]).run Try.prog (y1.alloc (.cells #[.int .i64 (m : Nat)] 3)) = .ok (.slice a2 (i + 1) c2) y3 ∧
    ∃ v9 y5, (Builtin.append_ #[30, 30] 30 #[v, .slice (some ⟨y3.heap.size, 0, none⟩) 1 1]).run Try.prog (y3.alloc (.cells #[.slice a2 (i + 1) c2] 22)) = .ok v9 y5 ∧ AllSt y0 y5 f i (cnt + 1) v9 := by
  obtain ⟨hbl, A, C, ho, hrows⟩ := h
  have hwr := hbl.size
  have g0 : Below wr.heap.size wr (wr.alloc (.cells #[] 3)) := (Below.refl _ _).alloc (Nat.le_refl _) _
  have o0 := World.ownsRow_lit (e := 3) (size := 1) wr #[] 0 (Nat.le_refl _) (Nat.zero_le _) rfl
  obtain ⟨v1, y1, r1, o1, q1⟩ := run_append_krow (w := wr.alloc (.cells #[] 3)) 22 wr.heap.size _ 0 _ o0 ak i ck _ (hk.below g0) hn (by omega) g0.size
  have g1 := g0.grown q1 g0.size (fun z hz => (o0.lt z hz).1)
  rw [Nat.zero_add, List.nil_append] at o1
  refine ⟨v1, y1, r1, ?_⟩
  have g2 : Below wr.heap.size wr (y1.alloc (.cells #[.int .i64 (m : Nat)] 3)) := g1.alloc g1.size _
  have o1' := own_below o1 ((Below.refl y1.heap.size y1).alloc (Nat.le_refl _) (.cells #[.int .i64 (m : Nat)] 3))
  have kone : KRow (y1.alloc (.cells #[.int .i64 (m : Nat)] 3)) .i64 (some ⟨y1.heap.size, 0, none⟩) 1 1 (fun _ => (m : Nat)) := by
    refine ⟨Nat.le_refl _, by unfold maxLen; omega, .inr ⟨_, 0, rfl, by simp, fun j hj => ?_⟩⟩
    obtain rfl : j = 0 := by omega
    exact (Row.new y1 3 #[.int .i64 (m : Nat)]).cell 0
  obtain ⟨v2, y3, r2, o2, q2⟩ := run_append_krow (w := y1.alloc (.cells #[.int .i64 (m : Nat)] 3)) 22 wr.heap.size _ i _ o1' (some ⟨y1.heap.size, 0, none⟩) 1 1 _ kone (fun e => by cases e) (by omega) g2.size
  have g3 := g2.grown q2 g2.size (fun z hz => (o1'.lt z hz).1)
  have hd : ∀ j, j < i + 1 → app (dgs f i (k : Nat)) i (fun _ => (m : Nat)) j = dgs f (i + 1) (cnt : Nat) j := fun j hj => by
    have e0 : ((cnt : Nat) : Int) = (m : Nat) + f i * (k : Nat) := by rw [hc, hf]; simp [Int.mul_comm, Int.add_comm]
    have hfp : (0 : Int) < f i := by omega
    have e1 : ((cnt : Nat) : Int) % f i = m := by rw [e0, Int.add_mul_emod_self_left]; exact Int.emod_eq_of_lt (by omega) (by omega)
    have e2 : ((cnt : Nat) : Int) / f i = k := by rw [e0, Int.add_mul_ediv_left _ _ (by omega), Int.ediv_eq_zero_of_lt (by omega) (by omega), Int.zero_add]
    unfold app
    by_cases e : j < i
    · rw [if_pos e, dgs_low _ e, e2]
    · obtain rfl : j = i := by omega
      rw [if_neg e, dgs_top, e1]
  rw [← kcs_app, kcs_congr hd] at o2
  obtain ⟨a2, c2, rfl, hk2⟩ := KRow.of_own o2
  refine ⟨a2, c2, y3, r2, ?_⟩
  have g4 : Below wr.heap.size wr (y3.alloc (.cells #[.slice a2 (i + 1) c2] 22)) := g3.alloc g3.size _
  have ho4 := own_below ho g4
  obtain ⟨i0, hi, hz0, hz1, hz2⟩ := info_parts infoS
  obtain ⟨v9, y5, r3, o3, q3, _⟩ := run_append_own (P := Try.prog) (y3.alloc (.cells #[.slice a2 (i + 1) c2] 22)) y0.heap.size 30 30 22 i0 _ 1 24 Try.underlying30 hi hz0 hz1 hz2 rfl (by omega) v cnt _ ho4 ⟨y3.heap.size, 0, none⟩ 1 1 [.slice a2 (i + 1) c2] rfl (World.news_of_block (Row.new y3 22 #[.slice a2 (i + 1) c2])) (by intro u hu; simp at hu; subst hu; rfl) (by unfold maxLen; omega) (by omega) (Nat.le_trans hwr g4.size)
  refine ⟨v9, y5, r3, (hbl.trans (g4.mono hwr)).grown q3 (Nat.le_trans hwr g4.size) (fun z hz => (ho4.lt z hz).1), (fun r => if r = cnt then a2 else A r), (fun r => if r = cnt then c2 else C r), ?_, fun r hr => ?_⟩
  · show y5.ownsRow _ _ _ _ _ (sls _ _ (i + 1) cnt ++ [_])
    simp only [if_true]
    rw [sls_congr (A' := A) (C' := C) (fun j hj => ⟨if_neg (by omega), if_neg (by omega)⟩)]
    exact o3
  · have far : ∀ (ad : Option Addr) (cd : Nat) (h : Nat → Int), KRow (y3.alloc (.cells #[.slice a2 (i + 1) c2] 22)) .i64 ad (i + 1) cd h → (∀ b off, ad = some ⟨b, off, none⟩ → v.ownBlock ≠ some b) → KRow y5 .i64 ad (i + 1) cd h := fun ad cd h hkk hne => by
      refine ⟨hkk.1, hkk.2.1, hkk.2.2.imp id ?_⟩
      rintro ⟨b, off, rfl, hl, hcc⟩
      exact ⟨b, off, rfl, Nat.lt_of_lt_of_le hl q3.size, fun j hj => (World.cell?_of_block (a := ⟨b, off + j, none⟩) (q3.block b hl (fun e => hne b off rfl e.symm))).trans (hcc j hj)⟩
    by_cases e : r = cnt
    · subst e
      simp only [if_true]
      obtain ⟨gz, cz, ez, _, _⟩ := o2.form (show 0 < i + 1 by omega)
      injection ez with ez _ _
      refine ⟨far _ _ _ (hk2.below ((Below.refl y3.heap.size y3).alloc (Nat.le_refl _) _)) (fun b off e hb => ?_), gz, ez⟩
      have h1 := (ho.lt b hb).2
      subst e
      have h2 := (o2.lt b rfl).1
      omega
    · simp only [if_neg e]
      refine ⟨far _ _ _ ((hrows r (by omega)).1.below g4) (fun b off e2 hb => ?_), (hrows r (by omega)).2⟩
      obtain ⟨b', off', e3, hlb, hc3⟩ := (hrows r (by omega)).1.get (show 0 < i + 1 by omega)
      obtain ⟨gz, ez⟩ := (hrows r (by omega)).2
      rw [e2] at e3 ez
      cases e3
      cases ez
      rcases ho.2 with ⟨rfl, _⟩ | ⟨g, cap, cur, rfl, _, hh, _⟩
      · cases hb
      · have hgb : g = b := by simpa [Value.ownBlock] using hb
        subst hgb
        have h6 := ho.cells (g := g) rfl 0 _ (sls_get A C (i + 1) cnt 0 (by omega))
        rw [add_zero0, hc3] at h6
        cases h6

set_option maxHeartbeats 6400000 in
set_option maxRecDepth 100000 in
theorem r6All_any (a : Option Addr) (n c : Nat) (f : Nat → Int) (M0 : Nat) (w : World) (h : KRow w .i64 a n c f) (hs : shB f n = true) (hM0 : itm f n = (M0 : Nat)) :
    Calls Try.prog 11 #[.slice a n c] w fun e w' => ∃ a' c' A C, e = .returned (.slice a' M0 c') ∧ LRow w' a' M0 c' A (fun _ => n) C (fun r => dgs f n (r : Nat)) ∧ Below w.heap.size w w' := by
  obtain ⟨h8, hax⟩ := sh_ax hs
  have hl := h.len
  have H := Lib.hid h
  have HAX := Lib.hid hax
  have H0 : Hid (itm f 0 = ((1 : Nat) : Int) ∧ Below w.heap.size w ((w.alloc (.cells #[] 3)).alloc (.cells #[.slice (some ⟨w.heap.size, 0, none⟩) 0 0] 22)) ∧ LRow ((w.alloc (.cells #[] 3)).alloc (.cells #[.slice (some ⟨w.heap.size, 0, none⟩) 0 0] 22)) (some ⟨w.heap.size + 1, 0, none⟩) 1 1 (fun _ => some ⟨w.heap.size, 0, none⟩) (fun _ => 0) (fun _ => 0) (fun r => dgs f 0 (r : Nat))) := Lib.hid (by
    have r1 := Row.new (w.alloc (.cells #[] 3)) 22 #[.slice (some ⟨w.heap.size, 0, none⟩) 0 0]
    rw [World.size_alloc] at r1
    refine ⟨rfl, ((Below.refl _ _).alloc (Nat.le_refl _) _).alloc (by simp) _, Nat.le_refl _, by unfold maxLen; omega, .inr ⟨_, 0, rfl, r1.lt, fun j hj => ?_⟩⟩
    obtain rfl : j = 0 := by omega
    exact ⟨r1.cell 0, KRow.nought _ _ _ _ (Nat.zero_le _) _, fun e => by cases e⟩)
  clear h hs hax
  go_enter Try.func11, Try.ntmps11
  go_wp2_with fail
  go_loopw [3, 4] (fun l j wr => ∃ (i M : Nat) (la : Option Addr) (lc : Nat), i ≤ n ∧ j = .int .i64 i ∧ l = .slice la M lc ∧ Hid (itm f i = (M : Nat) ∧ Below w.heap.size w wr ∧ ∃ A C, LRow wr la M lc A (fun _ => i) C (fun r => dgs f i (r : Nat)))) (fun _ j _ => n - (intOf j).toNat)
  case atStart => exact ⟨0, 1, _, 1, by omega, rfl, rfl, H0.out.1, H0.out.2.1, _, _, H0.out.2.2⟩
  case round =>
    obtain ⟨i, M, la, lc, hi, rfl, rfl, hrel⟩ := hrel
    obtain ⟨hM, hbl, A, C, hL⟩ := hrel.out
    by_cases hlt : i < n
    · obtain ⟨F, hF⟩ : ∃ F, (f i).toNat = F := ⟨_, rfl⟩
      have hf0 := ax_nn HAX.out hlt
      have hfF : f i = (F : Nat) := by omega
      have hb1 := ax_bd (ax_le (show i + 1 ≤ n by omega) HAX.out)
      have hF4 : F ≤ 4096 := by
        have h2 := rm_pos f i
        have h3 : 1 * max (f i) 1 ≤ rm f i * max (f i) 1 := Int.mul_le_mul h2 (Int.le_refl _) (by omega) (by omega)
        have h4 : rm f (i + 1) = rm f i * max (f i) 1 := rfl
        omega
      have hMF : itm f (i + 1) = ((M * F : Nat) : Int) := by
        show itm f i * f i = _
        rw [hM, hfF, Int.natCast_mul]
      have hMF4 : M * F ≤ 4096 := by rw [hMF] at hb1; omega
      have HMF := Lib.hid (And.intro hMF hMF4)
      have HBL := Lib.hid hbl
      have HL := Lib.hid hL
      have HFF := Lib.hid (And.intro hF hfF)
      have hlen := hL.1
      have H1 := Lib.hid (AllSt.nought wr f i)
      have HK := Lib.hid (H.out.below hbl)
      have hml : M ≤ 9223372036854775807 := by have := hL.1; have := hL.2.1; unfold maxLen at this; omega
      clear hrel hbl hL hb1 hMF hMF4 hF hf0 hM
      have hwr := HBL.out.size
      obtain ⟨y0, hy0⟩ : ∃ y0, y0 = wr := ⟨_, rfl⟩
      subst hy0
      go_wp2_with fail
      go_loopw [5, 6] (fun v kk wk => ∃ (k : Nat) (v5 : Value), k ≤ M ∧ kk = .int .i64 k ∧ v5 = v ∧ Hid (AllSt y0 wk f i (k * F) v5)) (fun _ kk _ => M - (intOf kk).toNat)
      case atStart => exact ⟨0, _, by omega, rfl, rfl, by rw [Nat.zero_mul]; exact H1.out⟩
      case round =>
        obtain ⟨k, v5, hk, rfl, hv5, hst⟩ := hrel
        subst hv5
        by_cases hkM : k < M
        · have HST := Lib.hid hst.out
          have hkF : k * F + F ≤ M * F := by
            have := Nat.mul_le_mul_right F (show k + 1 ≤ M by omega)
            rwa [Nat.add_mul, Nat.one_mul] at this
          have HKF := Lib.hid hkF
          clear hst hkF
          obtain ⟨y1, hy1⟩ : ∃ y1, y1 = wr := ⟨_, rfl⟩
          subst hy1
          go_wp2_with fail
          go_loopw [5, 7] (fun v mm wm => ∃ (m : Nat) (v6 : Value), m ≤ F ∧ mm = .int .i64 m ∧ v6 = v ∧ Hid (AllSt y0 wm f i (k * F + m) v6)) (fun _ mm _ => F - (intOf mm).toNat)
          case atStart => exact ⟨0, _, by omega, rfl, rfl, HST.out⟩
          case round =>
            obtain ⟨m, v6, hm, rfl, hv6, hst⟩ := hrel
            subst hv6
            obtain ⟨b0, off0, hab, hb0, hc0⟩ := (HK.out.below hst.out.1).get hlt
            subst hab
            rw [HFF.out.2] at hc0
            by_cases hmF : m < F
            · have hL := HL.out
              obtain ⟨b, off, hlab, hb, hcl, hkr, hnn⟩ := (hL.below hst.out.1).get hkM
              subst hlab
              obtain ⟨v1, y2, r1, a2, c2, y3, r2, v9, y5, r3, hnew⟩ := all_step (m := m) (k := k) hst.out hkr hnn (by omega) (by have := HKF.out; have := HMF.out.2; omega) (by rw [HFF.out.1]; exact HFF.out.2) (by rw [HFF.out.1]; exact hmF) (by rw [HFF.out.1])
              have HN := Lib.hid hnew
              have d1 : (m : Int) < F := by omega
              have d2 : (m : Int) < 4096 := by omega
              clear hst hnew hL hkr hnn
              generalize A k = ak at *
              generalize C k = ck at *
              go_wp2_with (first
                | (at_builtin; refine Lib.wpList_append_run _ rfl (.tmp 35) (.tmp 39) 22 22 rfl _ _ rfl rfl _ _ r1 ?_)
                | (at_builtin; refine Lib.wpList_append_run _ rfl (.tmp 40) (.tmp 42) 22 22 rfl _ _ rfl rfl _ _ r2 ?_)
                | (at_builtin; refine Lib.wpList_append_run _ rfl (.tmp 34) (.tmp 44) 30 30 rfl _ _ rfl rfl _ _ r3 ?_))
              go_roundw
              case rel => exact ⟨m + 1, v9, by omega, by go_num, rfl, HN.out⟩
              case measure => simp [intOf]; omega
            · obtain rfl : m = F := by omega
              have HN : Hid (AllSt y0 wr f i ((k + 1) * m) v6) := Lib.hid (by rw [Nat.add_mul, Nat.one_mul]; exact hst.out)
              clear hst
              go_wp2
              go_roundw
              case rel => exact ⟨k + 1, v6, by omega, by go_num, rfl, HN.out⟩
              case measure => simp [intOf]; omega
        · obtain rfl : k = M := by omega
          obtain ⟨la2, lc2, A2, C2, hv, hL2⟩ := hst.out.done
          subst hv
          have HN : Hid (itm f (i + 1) = ((k * F : Nat) : Int) ∧ Below w.heap.size w wr ∧ ∃ A C, LRow wr la2 (k * F) lc2 A (fun _ => i + 1) C (fun r => dgs f (i + 1) (r : Nat))) := Lib.hid ⟨HMF.out.1, HBL.out.trans (hst.out.1.mono hwr), _, _, hL2⟩
          clear hst hL2
          go_wp2
          go_roundw
          case rel => exact ⟨i + 1, k * F, la2, lc2, by omega, by go_num, rfl, HN.out⟩
          case measure => simp [intOf]; omega
    · obtain rfl : i = n := by omega
      have hMM : M = M0 := by rw [hM0] at hM; omega
      subst hMM
      have HE : Hid (∃ A C, LRow wr la M lc A (fun _ => i) C (fun r => dgs f i (r : Nat))) := Lib.hid ⟨A, C, hL⟩
      have HBL := Lib.hid hbl
      clear hrel hbl hL hM
      go_wp2
      go_ret
      obtain ⟨A, C, hL⟩ := HE.out
      exact ⟨_, _, A, C, rfl, hL, HBL.out⟩

end Go.Proofs.Ytgpcfncolhmgfaa
