/-
  Texts of this seat, laid together.
-/
import Derived.Lib.AppendZeros
import Derived.Laws.AppendOwnNone
import Derived.Laws.EntriesVeiled
import Derived.Deep.AppendLies
import Derived.Test.YtifnamlgkooacaaGreatDoorQ1
import Derived.Test.YtifnamlgkooacaaGreatDoorQ2
import Derived.Test.YtifnamlgkooacaaGreatDoorQ3
import Derived.Test.YtifnamlgkooacaaGreatDoorQ4

namespace Go.Proofs.YtifnamlgkooacaaGreatDoor
open Go.RowKit
set_option maxHeartbeats 1600000 in
set_option maxRecDepth 100000 in
theorem growI_any (n : Nat) (w : World) (hn : n ≤ 1000000) :
    Calls Tryz.prog 121 #[.slice none 0 0, .int .i64 n] w fun e w' => ∃ v, e = .returned v ∧ w'.ownsRow w.heap.size 3 1 v 0 [] ∧ Below w.heap.size w w' := by
  obtain ⟨i0, hi, hz0, hz1, hz2⟩ := info_parts infoI
  have d0 : ¬ ((n : Int) < 0) := by omega
  have hw0 := IntWalk.i64_in (n : Int) (by omega)
  by_cases h0 : n = 0
  · subst h0
    go_enter Tryz.func121, Tryz.ntmps121
    go_wp2
    go_ret
    exact ⟨_, rfl, World.ownsRow_nil _ _ _ _, Below.refl _ _⟩
  · have d1 : (0 : Int) < n := by omega
    have hr := fun ty => Lib.run_append_nil_zeros (P := Tryz.prog) w 22 3 ty 3 i0 _ .i64 .i64 Tryz.underlying22 Tryz.underlying3 hi hz0 n (by omega) (by rw [hz1]; omega) (by omega) (by rw [hz2]; omega)
    have hge := grownCap_ge w n 0 3
    have hcm := grownCap_le_maxLen w n 0 3 (by unfold maxLen; omega)
    have HE : Hid (∀ z, z = n → (w.drew.alloc (.cells (Builtin.zeroCells (Value.cells (.int .i64 0)) n ++ Builtin.zeroCells (Value.cells (.int .i64 0)) (grownCap w n 0 3 - n)) 3)).ownsRow w.heap.size 3 1 (.slice (some ⟨w.heap.size, 0, none⟩) 0 (grownCap w n 0 3)) 0 []) :=
      Lib.hid (fun _ _ => ⟨by simp, .inr ⟨w.heap.size, _, _, rfl, Nat.le_refl _, heap_alloc_new w.drew _, Nat.zero_le _, hcm, by rw [Array.size_append, size_zeroCells, size_zeroCells]; simp [Value.cells]; omega, by simp⟩⟩)
    have HB : Hid (Below w.heap.size w (w.drew.alloc (.cells (Builtin.zeroCells (Value.cells (.int .i64 0)) n ++ Builtin.zeroCells (Value.cells (.int .i64 0)) (grownCap w n 0 3 - n)) 3))) := Lib.hid ((Below.refl _ _).drew.alloc (Nat.le_refl _) _)
    generalize grownCap w n 0 3 = cp at *
    generalize w.drew.alloc (.cells (Builtin.zeroCells (Value.cells (.int .i64 0)) n ++ Builtin.zeroCells (Value.cells (.int .i64 0)) (cp - n)) 3) = w9 at *
    have d2 : (0 : Int) ≤ cp := by omega
    clear hi hz0 hz1 hz2 hcm
    go_enter Tryz.func121, Tryz.ntmps121
    go_wp2_with (at_builtin; refine Lib.wpList_append_run _ rfl _ _ _ _ rfl _ _ rfl rfl _ _ (hr _) ?_)
    go_ret
    exact ⟨_, rfl, HE.out n rfl, HB.out⟩
/-- Rows of integers in a row. -/
def LRow (w : World) (a : Option Addr) (m c : Nat) (A : Nat → Option Addr) (N C : Nat → Nat) (F : Nat → Nat → Int) : Prop := m ≤ c ∧ c ≤ maxLen ∧ (m = 0 ∨ ∃ b off, a = some ⟨b, off, none⟩ ∧ b < w.heap.size ∧
  ∀ j, j < m → w.cell? ⟨b, off + j, none⟩ = some (.slice (A j) (N j) (C j)) ∧ KRow w .i64 (A j) (N j) (C j) (F j) ∧ (A j = none → C j = 0))
theorem LRow.below {w w' : World} {a : Option Addr} {m c : Nat} {A : Nat → Option Addr} {N C : Nat → Nat} {F : Nat → Nat → Int} (h : LRow w a m c A N C F) (hb : Below w.heap.size w w') : LRow w' a m c A N C F := by
  obtain ⟨h1, h2, h3⟩ := h
  refine ⟨h1, h2, h3.imp id ?_⟩
  rintro ⟨b, off, rfl, hl, hc⟩
  exact ⟨b, off, rfl, Nat.lt_of_lt_of_le hl hb.size, fun j hj => ⟨(hb.cell (p := ⟨b, off + j, none⟩) hl).trans (hc j hj).1, (hc j hj).2.1.below hb, (hc j hj).2.2⟩⟩
theorem LRow.get {w : World} {a : Option Addr} {m c : Nat} {A : Nat → Option Addr} {N C : Nat → Nat} {F : Nat → Nat → Int} (h : LRow w a m c A N C F) {j : Nat} (hj : j < m) :
    ∃ b off, a = some ⟨b, off, none⟩ ∧ b < w.heap.size ∧ w.cell? ⟨b, off + j, none⟩ = some (.slice (A j) (N j) (C j)) ∧ KRow w .i64 (A j) (N j) (C j) (F j) ∧ (A j = none → C j = 0) := by
  rcases h.2.2 with h | ⟨b, off, rfl, hl, hc⟩
  · omega
  · exact ⟨b, off, rfl, hl, hc j hj⟩
/-- One row behind another one. -/
def app (f : Nat → Int) (n : Nat) (g : Nat → Int) : Nat → Int := fun j => if j < n then f j else g (j - n)
theorem kcs_congr {ki : IntKind} {f g : Nat → Int} : ∀ {n : Nat}, (∀ j, j < n → f j = g j) → kcs ki f n = kcs ki g n
  | 0, _ => rfl
  | n + 1, h => by unfold kcs; rw [kcs_congr (fun j hj => h j (by omega)), h n (by omega)]
theorem kcs_app (ki : IntKind) (f : Nat → Int) (n : Nat) (g : Nat → Int) : ∀ m, kcs ki (app f n g) (n + m) = kcs ki f n ++ kcs ki g m
  | 0 => by
    rw [Nat.add_zero, show kcs ki g 0 = [] from rfl, List.append_nil]
    exact kcs_congr fun j hj => by unfold app; rw [if_pos hj]
  | m + 1 => by
    show kcs ki (app f n g) (n + m) ++ [.int ki (app f n g (n + m))] = kcs ki f n ++ (kcs ki g m ++ [.int ki (g m)])
    rw [kcs_app ki f n g m, show app f n g (n + m) = g m by unfold app; rw [if_neg (by omega), Nat.add_sub_cancel_left], List.append_assoc]
def tot (N : Nat → Nat) : Nat → Nat
  | 0 => 0
  | k + 1 => tot N k + N k
theorem tot_le (N : Nat → Nat) : ∀ {k m : Nat}, k ≤ m → tot N k ≤ tot N m := by
  intro k m
  induction m with
  | zero => intro h; obtain rfl : k = 0 := by omega
            exact Nat.le_refl _
  | succ m ih =>
    intro h
    rcases Nat.lt_or_ge k (m + 1) with h3 | h3
    · have := ih (by omega)
      show tot N k ≤ tot N m + N m
      omega
    · obtain rfl : k = m + 1 := by omega
      exact Nat.le_refl _
/-- All rows, one behind the other. -/
def cat (N : Nat → Nat) (F : Nat → Nat → Int) : Nat → Nat → Int
  | 0 => fun _ => 0
  | k + 1 => app (cat N F k) (tot N k) (F k)
theorem kcs_one (ki : IntKind) (f : Nat → Int) (n : Nat) : ∀ u ∈ kcs ki f n, u.oneCell' = true := by
  induction n with
  | zero => intro u hu; cases hu
  | succ n ih =>
    intro u hu
    unfold kcs at hu
    rcases List.mem_append.1 hu with h | h
    · exact ih u h
    · simp at h; subst h; rfl
theorem krow_news {w : World} {ki : IntKind} {b off n c : Nat} {f : Nat → Int} (h : KRow w ki (some ⟨b, off, none⟩) n c f) : ∀ j u, (kcs ki f n)[j]? = some u → w.cell? ((⟨b, off, none⟩ : Addr).add j) = some u := fun j u hu => by
  have hj : j < n := by
    have := (List.getElem?_eq_some_iff.1 hu).1
    rwa [kcs_length] at this
  rw [kcs_get ki f n j hj] at hu
  obtain rfl := Option.some.inj hu
  obtain ⟨b', off', e, _, hc⟩ := h.get hj
  cases e
  rw [show (⟨b, off, none⟩ : Addr).add j = ⟨b, off + j, none⟩ by simp [Addr.add]]
  exact hc
/-- A row of integers, nil or not, appended to a row that the call owns. -/
theorem run_append_krow {w : World} (ty : TypeId) (base : Nat) (v : Value) (n : Nat) (xs : List Value) (hown : w.ownsRow base 3 1 v n xs) (a : Option Addr) (m c : Nat) (f : Nat → Int) (h : KRow w .i64 a m c f) (hn : a = none → c = 0) (h1 : n + m ≤ 1000000) (hbase : base ≤ w.heap.size) :
    ∃ v' w', (Builtin.append_ #[22, 22] ty #[v, .slice a m c]).run Tryz.prog w = .ok v' w' ∧ w'.ownsRow base 3 1 v' (n + m) (xs ++ kcs .i64 f m) ∧ w.grownBy w' v.ownBlock := by
  obtain ⟨i0, hi, hz0, hz1, hz2⟩ := info_parts infoI
  cases a with
  | none =>
    have hc := hn rfl
    subst hc
    have hm : m = 0 := by have := h.1; omega
    subst hm
    refine ⟨v, w, run_append_owned_none w base _ ty _ i0 1 Tryz.underlying22 hi v n xs hown, ?_, ⟨rfl, rfl, rfl, Nat.le_refl _, fun _ _ _ => rfl⟩⟩
    rw [show kcs .i64 f 0 = [] from rfl, List.append_nil]
    exact hown
  | some ad =>
    obtain ⟨b9, off9, sp⟩ := ad
    have hnews : ∀ i u, (kcs .i64 f m)[i]? = some u → w.cell? ((⟨b9, off9, sp⟩ : Addr).add i) = some u := by
      rcases h.2.2 with h0 | ⟨_, _, e, _⟩
      · rw [h0]; intro i u hu; simp [kcs] at hu
      · cases e; exact krow_news h
    obtain ⟨v', w', e1, e2, e3, _⟩ := run_append_own (P := Tryz.prog) w base 22 ty 3 i0 _ 1 8 Tryz.underlying22 hi hz0 hz1 hz2 rfl (by omega) v n xs hown ⟨b9, off9, sp⟩ m c (kcs .i64 f m) (by rw [kcs_length, Nat.mul_one]) hnews (kcs_one .i64 f m) (by unfold maxLen; omega) (by omega) hbase
    exact ⟨v', w', e1, e2, e3⟩
set_option maxHeartbeats 3200000 in
set_option maxRecDepth 100000 in
theorem concat_any (a : Option Addr) (m c : Nat) (A : Nat → Option Addr) (N C : Nat → Nat) (F : Nat → Nat → Int) (w : World) (h : LRow w a m c A N C F) (hm : m ≤ 1000) (ht : tot N m ≤ 1000000) :
    Calls Tryz.prog 92 #[.slice a m c] w fun e w' => ∃ a' c', e = .returned (.slice a' (tot N m) c') ∧ KRow w' .i64 a' (tot N m) c' (cat N F m) ∧ NewAt w w' a' (tot N m) c' ∧ Below w.heap.size w w' := by
  obtain ⟨i0, hi, hz0, hz1, hz2⟩ := info_parts infoI
  have H := Lib.hid h
  have HT : Hid (∀ k, k ≤ m → tot N k ≤ 1000000) := Lib.hid (fun k hk => Nat.le_trans (tot_le N hk) ht)
  have GR := Lib.hid (fun wz => growI_any (tot N m) wz ht)
  have HZ := Lib.hid (show ∀ k, tot N (k + 1) = tot N k + N k from fun _ => rfl)
  have hl := h.1
  clear h ht
  go_enter Tryz.func92, Tryz.ntmps92
  go_wp2
  go_loop [3, 11] (fun t i => ∃ k : Nat, k ≤ m ∧ i = .int .i64 k ∧ t = .int .i64 (tot N k : Nat)) (fun _ i => m - (intOf i).toNat)
  case atStart => exact ⟨0, by omega, rfl, rfl⟩
  case round =>
    obtain ⟨k, hk, rfl, rfl⟩ := hrel
    by_cases hlt : k < m
    · obtain ⟨b, off, rfl, hb, hc, _, _⟩ := H.out.get hlt
      have h1 := HT.out (k + 1) (by omega)
      rw [HZ.out k] at h1
      have E := Lib.hid (show ((tot N k : Nat) : Int) + (N k : Nat) = ((tot N (k + 1) : Nat) : Int) by rw [HZ.out k]; omega)
      have w2 := IntWalk.i64_in (((tot N k : Nat) : Int) + (N k : Nat)) (by omega)
      have d0 : ¬ (((tot N k : Nat) : Int) + (N k : Nat) < 0) := by omega
      clear h1
      generalize ((tot N k : Nat) : Int) = t at *
      generalize A k = ak at *
      generalize N k = nk at *
      generalize C k = ck at *
      go_wp2
      go_round
      case rel => exact ⟨k + 1, by omega, by go_num, vint E.out⟩
      case measure => simp [intOf]; omega
    · obtain rfl : k = m := by omega
      clear hlt
      generalize hX : tot N k = X at *
      go_wp2_with fail
      go_at_call 121
      (with_reducible refine (GR.out _).mono ?_)
      rintro e w2 ⟨v2, rfl, hown2, hb2⟩
      have HB2 := Lib.hid hb2
      have HO2 := Lib.hid hown2
      have H2 := Lib.hid (H.out.below hb2)
      clear hown2 hb2
      go_wp2_with fail
      go_loopw [6, 27] (fun v i wr => ∃ (j : Nat) (v6 : Value), j ≤ k ∧ i = .int .i64 j ∧ v6 = v ∧ Hid (Below w.heap.size w wr ∧ wr.ownsRow w.heap.size 3 1 v6 (tot N j) (kcs .i64 (cat N F j) (tot N j)))) (fun _ i _ => k - (intOf i).toNat)
      case atStart => exact ⟨0, _, by omega, rfl, rfl, HB2.out, HO2.out⟩
      case round =>
        obtain ⟨j, v6, hj, rfl, hv6, hrel⟩ := hrel
        subst hv6
        obtain ⟨hbl, hown⟩ := hrel.out
        have hwr := hbl.size
        by_cases hlt : j < k
        · obtain ⟨b, off, rfl, hb, hc, hkr, hnn⟩ := (H.out.below hbl).get hlt
          have HOWN := Lib.hid hown
          have HBL := Lib.hid hbl
          have h1 := HT.out (j + 1) (by omega)
          rw [HZ.out j] at h1
          have HE : Hid (∀ (v5 : Value) (w5 : World), w5.ownsRow w.heap.size 3 1 v5 (tot N j + N j) (kcs .i64 (cat N F j) (tot N j) ++ kcs .i64 (F j) (N j)) → w5.ownsRow w.heap.size 3 1 v5 (tot N (j + 1)) (kcs .i64 (cat N F (j + 1)) (tot N (j + 1)))) := Lib.hid (fun v5 w5 h => by
            rw [HZ.out j]
            show w5.ownsRow _ _ _ _ _ (kcs .i64 (app (cat N F j) (tot N j) (F j)) (tot N j + N j))
            rw [kcs_app]
            exact h)
          clear hown hbl hrel
          cases hA : A j with
          | none =>
            have hC := hnn hA
            have hN : N j = 0 := by have := hkr.1; omega
            rw [hA, hC, hN] at hc
            rw [hN, show kcs .i64 (F j) 0 = [] from rfl, List.append_nil, Nat.add_zero] at HE
            have HN := Lib.hid (HE.out _ _ HOWN.out)
            clear hkr hnn HE h1
            go_wp2_with (at_builtin; refine wpList_append_own_none rfl _ _ 22 rfl w.heap.size 3 i0 1 Tryz.underlying22 hi _ _ _ rfl HOWN.out rfl ?_)
            go_roundw
            case rel => exact ⟨j + 1, _, by omega, by go_num, rfl, HBL.out, HN.out⟩
            case measure => simp [intOf]; omega
          | some ad =>
            obtain ⟨b9, off9, sp⟩ := ad
            rw [hA] at hc hkr
            have hsp : sp = none ∨ N j = 0 := by
              rcases hkr.2.2 with h | ⟨_, _, e, _⟩
              · exact .inr h
              · cases e; exact .inl rfl
            have HNEWS : Hid (∀ i u, (kcs .i64 (F j) (N j))[i]? = some u → wr.cell? ((⟨b9, off9, sp⟩ : Addr).add i) = some u) := Lib.hid (by
              rcases hsp with rfl | h0
              · exact krow_news hkr
              · rw [h0]; intro i u hu; simp [kcs] at hu)
            have HL := Lib.hid (show (kcs .i64 (F j) (N j)).length = N j * 1 by rw [kcs_length, Nat.mul_one])
            have HONE := Lib.hid (kcs_one .i64 (F j) (N j))
            have HM := Lib.hid (show tot N j + N j ≤ maxLen by unfold maxLen; omega)
            have HY := Lib.hid (show (tot N j + N j) * 8 ≤ 140737488355328 by omega)
            clear hkr hnn h1 hsp
            generalize N j = nj at *
            generalize C j = cj at *
            generalize kcs .i64 (F j) nj = news at *
            generalize tot N j = tj at *
            go_wp2_with (at_builtin; refine wpList_append_own _ rfl _ _ 22 rfl w.heap.size 3 i0 _ 1 8 Tryz.underlying22 hi hz0 hz1 hz2 rfl (by omega) _ _ _ rfl HOWN.out ⟨b9, off9, sp⟩ nj cj news rfl HL.out HNEWS.out HONE.out HM.out HY.out hwr ?_)
            intro v5 w5 hown5 hgrow _
            have HN := Lib.hid (And.intro (HBL.out.grown hgrow hwr (fun q hq => (HOWN.out.lt q hq).1)) (HE.out _ _ hown5))
            clear hown5 hgrow
            go_wp2
            go_roundw
            case rel => exact ⟨j + 1, _, by omega, by go_num, rfl, HN.out⟩
            case measure => simp [intOf]; omega
        · obtain rfl : j = k := by omega
          rw [hX] at hown
          have HE : Hid (∃ a' c', v6 = .slice a' X c' ∧ KRow wr .i64 a' X c' (cat N F j) ∧ NewAt w wr a' X c') := Lib.hid (by
            obtain ⟨a', c', e, hk⟩ := KRow.of_own hown
            refine ⟨a', c', e, hk, ?_⟩
            rcases hown.2 with ⟨e2, h0⟩ | ⟨g, cap, cur, e2, hge, hh, _⟩
            · rw [e] at e2
              injection e2 with e3 e4 e5
              exact .inl ⟨e3, e4, e5⟩
            · rw [e] at e2
              injection e2 with e3 e4 e5
              exact .inr ⟨g, e3, hge, Free.of_block hh⟩)
          have HBL := Lib.hid hbl
          clear hown hbl hrel hlt
          go_wp2
          go_ret
          obtain ⟨a', c', rfl, hk, hn⟩ := HE.out
          rw [hX]
          exact ⟨a', c', rfl, hk, hn, HBL.out⟩
set_option maxHeartbeats 1600000 in
theorem join_any (a : Option Addr) (m c : Nat) (A : Nat → Option Addr) (N C : Nat → Nat) (F : Nat → Nat → Int) (w : World) (h : LRow w a m c A N C F) (hm : m ≤ 1000) (ht : tot N m ≤ 1000000) :
    Calls Tryz.prog 73 #[.slice a m c] w fun e w' => ∃ a' c', e = .returned (.slice a' (tot N m) c') ∧ KRow w' .i64 a' (tot N m) c' (cat N F m) ∧ Below w.heap.size w w' := by
  have CO := Lib.hid (concat_any a m c A N C F w h hm ht)
  generalize tot N m = X at *
  generalize cat N F m = G at *
  clear h
  go_enter Tryz.func73, Tryz.ntmps73
  go_wp2_with fail
  go_at_call 92
  (with_reducible refine (CO.out).mono ?_)
  rintro e w1 ⟨a1, c1, rfl, hk, _, hb⟩
  have HE := Lib.hid (And.intro hk hb)
  clear hk hb
  go_wp2
  go_ret
  exact ⟨_, _, rfl, HE.out⟩
/-- With another number at one place. -/
def wiF (f : Nat → Int) (i x : Int) : Nat → Int := fun j => if (j : Int) = i then x else f j
set_option maxHeartbeats 1600000 in
set_option maxRecDepth 100000 in
theorem with_any (a : Option Addr) (n c : Nat) (f : Nat → Int) (i x : Int) (w : World) (h : KRow w .i64 a n c f) (hn : n ≤ 1000000) :
    Calls Tryz.prog 56 #[.slice a n c, .int .i64 i, .int .i64 x] w fun e w' => ∃ a' c', e = .returned (.slice a' n c') ∧ KRow w' .i64 a' n c' (wiF f i x) ∧ Below w.heap.size w w' := by
  have CL := Lib.hid (cloneI_new a n c f w h hn)
  have HA := Lib.hid (fun a c i wz => has_any a n c i wz)
  clear h
  by_cases hin : 0 ≤ i ∧ i < n
  · obtain ⟨h0, h1⟩ := hin
    obtain ⟨k, rfl⟩ : ∃ k : Nat, i = k := ⟨i.toNat, by omega⟩
    have hk : k < n := by omega
    have HA := Lib.hid (fun a c wz => HA.out a c k wz)
    rw [decide_eq_true h0, decide_eq_true h1] at HA
    go_enter Tryz.func56, Tryz.ntmps56
    go_wp2_with fail
    go_at_call 72
    (with_reducible refine (CL.out).mono ?_)
    rintro e w1 ⟨a1, c1, rfl, hk1, hn1, hb1⟩
    obtain ⟨b, off, rfl, hb, hc⟩ := hk1.get hk
    have hg : w.heap.size ≤ b ∧ off = 0 ∧ Free w1 b := by
      rcases hn1 with ⟨e, _⟩ | ⟨g, e, h1, h2⟩
      · cases e
      · cases e; exact ⟨h1, rfl, h2⟩
    obtain ⟨hge, rfl, hfr⟩ := hg
    rw [Nat.zero_add] at hc
    have hfz := hfr k
    have HE : Hid (KRow (w1.setCell ⟨b, k, none⟩ (.int .i64 x)) .i64 (some ⟨b, 0, none⟩) n c1 (wiF f k x) ∧ Below w.heap.size w (w1.setCell ⟨b, k, none⟩ (.int .i64 x))) := Lib.hid ⟨⟨hk1.1, hk1.2.1, .inr ⟨b, 0, rfl, by simpa using hb, fun j hj => by
      rw [Nat.zero_add]
      unfold wiF
      by_cases e : j = k
      · subst e
        rw [if_pos rfl]
        exact World.cell?_setCell_same _ _ _ hc
      · rw [if_neg (by omega), World.cell?_setCell_other _ _ _ _ (fun h => by injection h with _ h; omega)]
        obtain ⟨b', off', e', _, hc'⟩ := hk1.get hj
        cases e'
        rwa [Nat.zero_add] at hc'⟩⟩, hb1.setCell (p := ⟨b, k, none⟩) hge _⟩
    clear hk1 hn1 hb1 hfr
    go_wp2_with fail
    go_at_call 91
    (with_reducible refine (HA.out _ _ _).mono ?_)
    rintro e w2 ⟨rfl, rfl⟩
    go_wp2
    go_ret
    exact ⟨_, _, rfl, HE.out⟩
  · have HA := Lib.hid (fun a c wz => HA.out a c i wz)
    rw [show (decide (0 ≤ i) && decide (i < (n : Int))) = false from by
      cases hx : (decide (0 ≤ i) && decide (i < (n : Int))) with
      | false => rfl
      | true => rw [Bool.and_eq_true, decide_eq_true_eq, decide_eq_true_eq] at hx; exact absurd hx hin] at HA
    have HW : Hid (∀ j, j < n → wiF f i x j = f j) := Lib.hid (fun j hj => by unfold wiF; rw [if_neg (by omega)])
    clear hin
    go_enter Tryz.func56, Tryz.ntmps56
    go_wp2_with fail
    go_at_call 72
    (with_reducible refine (CL.out).mono ?_)
    rintro e w1 ⟨a1, c1, rfl, hk1, hn1, hb1⟩
    have HE : Hid (KRow w1 .i64 a1 n c1 (wiF f i x) ∧ Below w.heap.size w w1) := Lib.hid ⟨⟨hk1.1, hk1.2.1, hk1.2.2.imp id (by
      rintro ⟨b, off, rfl, hl, hc⟩
      exact ⟨b, off, rfl, hl, fun j hj => by rw [HW.out j hj]; exact hc j hj⟩)⟩, hb1⟩
    clear hk1 hn1 hb1
    go_wp2_with fail
    go_at_call 91
    (with_reducible refine (HA.out _ _ _).mono ?_)
    rintro e w2 ⟨rfl, rfl⟩
    go_wp2
    go_ret
    exact ⟨_, _, rfl, HE.out⟩
end Go.Proofs.YtifnamlgkooacaaGreatDoor

namespace Go.Proofs.YtifnamlgkooacaaGreatDoor
open Go.RowKit
/-- Without one place. -/
def outF (f : Nat → Int) (k : Nat) : Nat → Int := fun j => if j < k then f j else f (j + 1)
theorem has_no {n : Nat} {i : Int} (h : ¬ (0 ≤ i ∧ i < n)) : (decide (0 ≤ i) && decide (i < (n : Int))) = false := by
  cases hx : (decide (0 ≤ i) && decide (i < (n : Int))) with
  | false => rfl
  | true => rw [Bool.and_eq_true, decide_eq_true_eq, decide_eq_true_eq] at hx; exact absurd hx h
/-- Two rows laid in a block. -/
theorem LRow.two {w : World} {g : Nat} {t : TypeId} {a1 a2 : Option Addr} {n1 c1 n2 c2 : Nat} {f1 f2 : Nat → Int} (h : Row w g t #[.slice a1 n1 c1, .slice a2 n2 c2]) (k1 : KRow w .i64 a1 n1 c1 f1) (k2 : KRow w .i64 a2 n2 c2 f2) (e1 : a1 = none → c1 = 0) (e2 : a2 = none → c2 = 0) :
    LRow w (some ⟨g, 0, none⟩) 2 2 (fun j => if j = 0 then a1 else a2) (fun j => if j = 0 then n1 else n2) (fun j => if j = 0 then c1 else c2) (fun j => if j = 0 then f1 else f2) := by
  refine ⟨Nat.le_refl _, by unfold maxLen; omega, .inr ⟨g, 0, rfl, h.lt, fun j hj => ?_⟩⟩
  have : j = 0 ∨ j = 1 := by omega
  rcases this with rfl | rfl
  · exact ⟨h.cell 0, k1, e1⟩
  · exact ⟨h.cell 1, k2, e2⟩
theorem LRow.three {w : World} {g : Nat} {t : TypeId} {a1 a2 a3 : Option Addr} {n1 c1 n2 c2 n3 c3 : Nat} {f1 f2 f3 : Nat → Int} (h : Row w g t #[.slice a1 n1 c1, .slice a2 n2 c2, .slice a3 n3 c3]) (k1 : KRow w .i64 a1 n1 c1 f1) (k2 : KRow w .i64 a2 n2 c2 f2) (k3 : KRow w .i64 a3 n3 c3 f3) (e1 : a1 = none → c1 = 0) (e2 : a2 = none → c2 = 0) (e3 : a3 = none → c3 = 0) :
    LRow w (some ⟨g, 0, none⟩) 3 3 (fun j => if j = 0 then a1 else if j = 1 then a2 else a3) (fun j => if j = 0 then n1 else if j = 1 then n2 else n3) (fun j => if j = 0 then c1 else if j = 1 then c2 else c3) (fun j => if j = 0 then f1 else if j = 1 then f2 else f3) := by
  refine ⟨Nat.le_refl _, by unfold maxLen; omega, .inr ⟨g, 0, rfl, h.lt, fun j hj => ?_⟩⟩
  have : j = 0 ∨ j = 1 ∨ j = 2 := by omega
  rcases this with rfl | rfl | rfl
  · exact ⟨h.cell 0, k1, e1⟩
  · exact ⟨h.cell 1, k2, e2⟩
  · exact ⟨h.cell 2, k3, e3⟩
theorem KRow.congr {w : World} {ki : IntKind} {a : Option Addr} {n c : Nat} {f g : Nat → Int} (h : KRow w ki a n c f) (e : ∀ j, j < n → f j = g j) : KRow w ki a n c g := by
  refine ⟨h.1, h.2.1, h.2.2.imp id ?_⟩
  rintro ⟨b, off, rfl, hl, hc⟩
  exact ⟨b, off, rfl, hl, fun j hj => by rw [← e j hj]; exact hc j hj⟩
/-- What Split answers. -/
def spB (f : Nat → Int) (n : Nat) (i : Int) : Bool := shB f n && (decide (0 ≤ i) && decide (i < (n : Int)))
def SpTold (f : Nat → Int) (n : Nat) (i : Int) (w w' : World) (e : Ending) : Prop :=
  e = .returned (.tuple #[.int .i64 (if spB f n i then itm f i.toNat else 0), .int .i64 (if spB f n i then f i.toNat else 0), .int .i64 (if spB f n i then itm (shf f (i.toNat + 1)) (n - (i.toNat + 1)) else 0), .bool (spB f n i)]) ∧ Below w.heap.size w w'
theorem SpTold.no {f : Nat → Int} {n : Nat} {i : Int} {w w' : World} (hb : Below w.heap.size w w') (h : spB f n i = false) : SpTold f n i w w' (.returned (.tuple #[.int .i64 0, .int .i64 0, .int .i64 0, .bool false])) := by
  refine ⟨?_, hb⟩
  rw [h]
  rfl
theorem SpTold.yes {f : Nat → Int} {n k : Nat} {w w' : World} (hb : Below w.heap.size w w') (h : shB f n = true) (hk : k < n) : SpTold f n k w w' (.returned (.tuple #[.int .i64 (itm f k), .int .i64 (f k), .int .i64 (itm (shf f (k + 1)) (n - (k + 1))), .bool true])) := by
  refine ⟨?_, hb⟩
  have : spB f n k = true := by unfold spB; rw [h, decide_eq_true (show (0 : Int) ≤ k by omega), decide_eq_true (show (k : Int) < n by omega)]; rfl
  rw [this]
  rfl
set_option maxHeartbeats 1600000 in
set_option maxRecDepth 100000 in
theorem split_any (a : Option Addr) (n c : Nat) (f : Nat → Int) (i : Int) (w : World) (h : KRow w .i64 a n c f) (hf : In64 f n) :
    Calls Tryz.prog 55 #[.slice a n c, .int .i64 i] w fun e w' => SpTold f n i w w' e := by
  have hl := h.len
  have hcm := h.2.1
  unfold maxLen at hcm
  have CN := Lib.hid (fun wz (h : KRow wz .i64 a n c f) => count_any a n c f wz h hf)
  unfold CntTold at CN
  have HA := Lib.hid (has_any a n c i w)
  have H := Lib.hid h
  clear hf
  cases hs : shB f n with
  | false =>
    have HE := Lib.hid (SpTold.no (f := f) (n := n) (i := i) (Below.refl w.heap.size w) (by unfold spB; rw [hs]; rfl))
    rw [hs] at CN
    generalize cntI f n = x at *
    clear hs h
    go_enter Tryz.func55, Tryz.ntmps55
    go_wp2_with fail
    go_at_call 74
    (with_reducible refine (CN.out _ H.out).mono ?_)
    rintro e w1 ⟨rfl, rfl⟩
    go_wp2
    exact bodyPost_ret (v := .tuple #[.int .i64 0, .int .i64 0, .int .i64 0, .bool false]) (by simp [results, Tryz.results55, go_sem]) rfl HE.out
  | true =>
    rw [hs] at CN
    generalize cntI f n = x at *
    by_cases hin : 0 ≤ i ∧ i < n
    · obtain ⟨h0, h1⟩ := hin
      obtain ⟨k, rfl⟩ : ∃ k : Nat, i = k := ⟨i.toNat, by omega⟩
      have hk : k < n := by omega
      rw [decide_eq_true h0, decide_eq_true h1] at HA
      have HY := Lib.hid (fun wz hb => SpTold.yes (f := f) (n := n) (k := k) (w := w) (w' := wz) hb hs hk)
      obtain ⟨h8, hax⟩ := sh_ax hs
      obtain ⟨b, off, rfl, hb, hc⟩ := h.get hk
      have hw1 := IntWalk.i64_in ((k : Int) + 1) (by omega)
      have P1 : Hid (∀ wz, Below w.heap.size w wz → Calls Tryz.prog 94 #[.slice (some ⟨b, off, none⟩) k c] wz fun e w' => e = .returned (.int .i64 (itm f k)) ∧ wz = w') := Lib.hid (fun wz hb => product_any _ _ _ _ wz ((h.take (by omega)).below hb) (ax_le (by omega) hax))
      have P2 : Hid (∀ (wz : World) (ad : Option Addr) (n2 c2 : Nat), n2 = n - (k + 1) → n2 ≤ c2 → c2 ≤ c → (ad = some ⟨b, off + (k + 1), none⟩ ∧ c2 = c - (k + 1) ∨ n2 = 0) → Below w.heap.size w wz → Calls Tryz.prog 94 #[.slice ad n2 c2] wz fun e w' => e = .returned (.int .i64 (itm (shf f (k + 1)) (n - (k + 1)))) ∧ wz = w') := Lib.hid (fun wz ad n2 c2 hn2 hc1 hc2 had hb => by
        subst hn2
        refine product_any _ _ _ _ wz ?_ (ax_shf (k + 1) hax _ (by omega))
        rcases had with ⟨rfl, rfl⟩ | h0
        · exact (h.from (show k + 1 ≤ n by omega)).below hb
        · rw [h0]; exact KRow.nought _ _ _ _ (by unfold maxLen; omega) _)
      clear hs hax
      have HBND := Lib.hid hcm
      generalize itm f k = x1 at *
      generalize itm (shf f (k + 1)) (n - (k + 1)) = x3 at *
      generalize f k = x2 at *
      by_cases hck : c = k + 1
      · subst hck
        obtain rfl : n = k + 1 := by omega
        have Q1 : Hid (∀ q, Calls Tryz.prog 94 #[.slice (some ⟨b, off, none⟩) k (k + 1)] (w.drewN q) fun e w'' => e = .returned (.int .i64 x1) ∧ ∃ m, w'' = w.drewN m) := Lib.hid (fun q => (P1.out _ (below_drewN (Below.refl _ _) q)).mono (fun e w' h => ⟨h.1, q, h.2.symm⟩))
        have Q2 : Hid (∀ q, Calls Tryz.prog 94 #[.slice (some ⟨b, off, none⟩) 0 0] (w.drewN q) fun e w'' => e = .returned (.int .i64 x3) ∧ ∃ m, w'' = w.drewN m) := Lib.hid (fun q => (P2.out _ _ 0 0 (by omega) (by omega) (by omega) (.inr rfl) (below_drewN (Below.refl _ _) q)).mono (fun e w' h => ⟨h.1, q, h.2.symm⟩))
        have HYY := Lib.hid (fun q => HY.out (w.drewN q) (below_drewN (Below.refl _ _) q))
        have d1 : ¬ (((k + 1 : Nat) : Int) < k) := by omega
        have d2 : (0 : Int) ≤ k := by omega
        have d3 : ¬ (((k + 1 : Nat) : Int) < (k : Int) + 1) := by omega
        have d4 : (0 : Int) ≤ (k : Int) + 1 := by omega
        have hg : ((k : Int) + 1).toNat = k + 1 := by omega
        clear h
        go_enter Tryz.func55, Tryz.ntmps55
        go_wp2_with fail
        go_at_call 74
        (with_reducible refine (CN.out _ H.out).mono ?_)
        rintro e w1 ⟨rfl, rfl⟩
        go_wp2_with fail
        go_at_call 91
        (with_reducible refine (HA.out).mono ?_)
        rintro e w2 ⟨rfl, rfl⟩
        go_wp2_with fail
        go_quiet (first | (go_at_call 94; with_reducible exact Q1.out _) | (go_at_call 94; with_reducible exact Q2.out _))
        have HE := Lib.hid (HYY.out nq)
        go_wp2
        exact bodyPost_ret (v := .tuple #[.int .i64 x1, .int .i64 x2, .int .i64 x3, .bool true]) (by simp [results, Tryz.results55, go_sem]) rfl HE.out
      · have Q1 : Hid (∀ q, Calls Tryz.prog 94 #[.slice (some ⟨b, off, none⟩) k c] (w.drewN q) fun e w'' => e = .returned (.int .i64 x1) ∧ ∃ m, w'' = w.drewN m) := Lib.hid (fun q => (P1.out _ (below_drewN (Below.refl _ _) q)).mono (fun e w' h => ⟨h.1, q, h.2.symm⟩))
        have Q2 : Hid (∀ q, Calls Tryz.prog 94 #[.slice (some ⟨b, off + (k + 1), none⟩) (n - (k + 1)) (c - (k + 1))] (w.drewN q) fun e w'' => e = .returned (.int .i64 x3) ∧ ∃ m, w'' = w.drewN m) := Lib.hid (fun q => (P2.out _ _ _ _ rfl (by omega) (by omega) (.inl ⟨rfl, rfl⟩) (below_drewN (Below.refl _ _) q)).mono (fun e w' h => ⟨h.1, q, h.2.symm⟩))
        have HYY := Lib.hid (fun q => HY.out (w.drewN q) (below_drewN (Below.refl _ _) q))
        have d1 : ¬ ((c : Int) < k) := by omega
        have d2 : (0 : Int) ≤ k := by omega
        have d3 : ¬ ((n : Int) < (k : Int) + 1) := by omega
        have d4 : (0 : Int) ≤ (k : Int) + 1 := by omega
        have hg : ((k : Int) + 1).toNat = k + 1 := by omega
        clear h
        go_enter Tryz.func55, Tryz.ntmps55
        go_wp2_with fail
        go_at_call 74
        (with_reducible refine (CN.out _ H.out).mono ?_)
        rintro e w1 ⟨rfl, rfl⟩
        go_wp2_with fail
        go_at_call 91
        (with_reducible refine (HA.out).mono ?_)
        rintro e w2 ⟨rfl, rfl⟩
        go_wp2_with fail
        go_quiet (first | (go_at_call 94; with_reducible exact Q1.out _) | (go_at_call 94; with_reducible exact Q2.out _))
        have HE := Lib.hid (HYY.out nq)
        go_wp2
        exact bodyPost_ret (v := .tuple #[.int .i64 x1, .int .i64 x2, .int .i64 x3, .bool true]) (by simp [results, Tryz.results55, go_sem]) rfl HE.out
    · have HE := Lib.hid (SpTold.no (f := f) (n := n) (i := i) (Below.refl w.heap.size w) (by unfold spB; rw [has_no hin, Bool.and_false]))
      rw [has_no hin] at HA
      clear hin h hs
      go_enter Tryz.func55, Tryz.ntmps55
      go_wp2_with fail
      go_at_call 74
      (with_reducible refine (CN.out _ H.out).mono ?_)
      rintro e w1 ⟨rfl, rfl⟩
      go_wp2_with fail
      go_at_call 91
      (with_reducible refine (HA.out).mono ?_)
      rintro e w2 ⟨rfl, rfl⟩
      go_wp2
      exact bodyPost_ret (v := .tuple #[.int .i64 0, .int .i64 0, .int .i64 0, .bool false]) (by simp [results, Tryz.results55, go_sem]) rfl HE.out
end Go.Proofs.YtifnamlgkooacaaGreatDoor

namespace Go.Proofs.YtifnamlgkooacaaGreatDoor
open Go.RowKit
set_option maxHeartbeats 1600000 in
set_option maxRecDepth 100000 in
theorem equalI_any (a : Option Addr) (n c : Nat) (f : Nat → Int) (a2 : Option Addr) (n2 c2 : Nat) (g : Nat → Int) (w : World) (h : KRow w .i64 a n c f) (h2 : KRow w .i64 a2 n2 c2 g) :
    Calls Tryz.prog 93 #[.slice a n c, .slice a2 n2 c2] w fun e w' => SameTold (decide (n = n2) && sameB f g n) w w' e := by
  have hl := h.len
  have hl2 := h2.len
  have H1 := Lib.hid h
  have H2 := Lib.hid h2
  clear h h2
  by_cases hn : n = n2
  · subst hn
    rw [decide_eq_true rfl, Bool.true_and]
    have dn : ((n : Int) != n) = false := bne_self_eq_false _
    go_enter Tryz.func93, Tryz.ntmps93
    go_wp2
    go_loopw [13] (fun i wr => ∃ k : Nat, k ≤ n ∧ i = .int .i64 k ∧ Hid (Below w.heap.size w wr ∧ sameB f g k = true)) (fun i _ => n - (intOf i).toNat)
    case atStart => exact ⟨0, by omega, rfl, Below.refl _ _, rfl⟩
    case round =>
      obtain ⟨k, hk, rfl, hrel⟩ := hrel
      obtain ⟨hbl, hsm⟩ := hrel.out
      by_cases hlt : k < n
      · obtain ⟨b, off, rfl, hb, hc⟩ := (H1.out.below hbl).get hlt
        obtain ⟨b2, off2, rfl, hb2, hc2⟩ := (H2.out.below hbl).get hlt
        have HBL := Lib.hid hbl
        have hk0 : (0 : Int) ≤ k := by omega
        have hk1 : (k : Int) < n := by omega
        have hk2 : (k : Int) ≤ n := by omega
        by_cases hq : f k = g k
        · have hsm2 : Hid (sameB f g (k + 1) = true) := by show (sameB f g k && _) = true; rw [hsm, decide_eq_true hq]; rfl
          clear hbl hsm
          rw [← hq] at hc2
          have hne : (f k != f k) = false := bne_self_eq_false _
          generalize f k = x at *
          clear hq
          go_wp2_with fail
          go_quiet (fail)
          have HBE : Hid (Below w.heap.size w (wr.drewN nq) ∧ sameB f g (k + 1) = true) := ⟨below_drewN HBL.out nq, hsm2.out⟩
          go_wp2
          go_roundw
          case rel => exact ⟨k + 1, by omega, by go_num, HBE.out⟩
          case measure => simp [intOf]; omega
        · have hno : sameB f g n = false := by
            cases hx : sameB f g n with
            | false => rfl
            | true => exact absurd ((sameB_iff.1 hx) k hlt) hq
          have HN := Lib.hid hno
          have hne : (f k != g k) = true := bne_iff_ne.2 hq
          clear hbl hsm hno
          generalize f k = x at *
          generalize g k = y at *
          clear hq
          go_wp2_with fail
          go_quiet (fail)
          have HBE : Hid (SameTold (sameB f g n) w (wr.drewN nq) (.returned (.bool false))) := ⟨by rw [HN.out], below_drewN HBL.out nq⟩
          go_wp2
          go_ret
          exact HBE.out
      · obtain rfl : k = n := by omega
        have HE : Hid (SameTold (sameB f g k) w wr (.returned (.bool true))) := ⟨by rw [hsm], hbl⟩
        clear hbl hsm
        go_wp2
        go_ret
        exact HE.out
  · rw [decide_eq_false hn, Bool.false_and]
    have dn : ((n : Int) != n2) = true := bne_iff_ne.2 (by omega)
    have HE : Hid (SameTold false w w (.returned (.bool false))) := ⟨rfl, Below.refl _ _⟩
    clear hn
    go_enter Tryz.func93, Tryz.ntmps93
    go_wp2
    go_ret
    exact HE.out
set_option maxHeartbeats 1600000 in
theorem same_any (a : Option Addr) (n c : Nat) (f : Nat → Int) (a2 : Option Addr) (n2 c2 : Nat) (g : Nat → Int) (w : World) (h : KRow w .i64 a n c f) (h2 : KRow w .i64 a2 n2 c2 g) :
    Calls Tryz.prog 54 #[.slice a n c, .slice a2 n2 c2] w fun e w' => SameTold (decide (n = n2) && sameB f g n) w w' e := by
  have EQ := Lib.hid (equalI_any a n c f a2 n2 c2 g w h h2)
  unfold SameTold at EQ
  unfold SameTold
  generalize (decide (n = n2) && sameB f g n) = x at *
  clear h h2
  go_enter Tryz.func54, Tryz.ntmps54
  go_wp2_with fail
  go_at_call 93
  (with_reducible refine (EQ.out).mono ?_)
  rintro e w1 ⟨rfl, hb⟩
  have HB := Lib.hid hb
  clear hb
  go_wp2
  go_ret
  exact ⟨rfl, HB.out⟩
end Go.Proofs.YtifnamlgkooacaaGreatDoor

namespace Go.Proofs.YtifnamlgkooacaaGreatDoor
open Go.RowKit
/-- How far apart neighbours lie. -/
def stF (f : Nat → Int) (n : Nat) : Nat → Int := fun j => itm (shf f (j + 1)) (n - (j + 1))
end Go.Proofs.YtifnamlgkooacaaGreatDoor

namespace Go.Proofs.YtifnamlgkooacaaGreatDoor
open Go.RowKit
theorem itm_congr {f f' : Nat → Int} : ∀ {n : Nat}, (∀ j, j < n → f j = f' j) → itm f n = itm f' n
  | 0, _ => rfl
  | n + 1, h => by
    show itm f n * f n = itm f' n * f' n
    rw [itm_congr (fun j hj => h j (by omega)), h n (by omega)]
end Go.Proofs.YtifnamlgkooacaaGreatDoor

namespace Go.Proofs.YtifnamlgkooacaaGreatDoor
open Go.RowKit
theorem Arr.away {w w' : World} {cs : Array Value} {S : Nat → Int} {r : Nat} {ch : Bool} {L : Nat} {g fP : Nat → Int} {fQ : Nat → Nat} (h : Arr w cs S r ch L g fP fQ) {k : Nat} {t : TypeId} {ch' : Bool} {more : Int} {d : Nat → Int} {na : Option Addr} {nn nc : Nat} {ta : Option Addr} {tn tc : Nat} (hr : Row w k t (arrC ch' more d na nn nc ta tn tc)) (hf : Far k w w') : Arr w' cs S r ch L g fP fQ := by
  refine ⟨fun e => ?_, fun e => ?_⟩
  · obtain ⟨a, c, h1, h2⟩ := h.1 e
    exact ⟨a, c, h1, h2.away (KRow.ne h2 (by decide) hr) hf⟩
  · obtain ⟨a, c, h1, h2⟩ := h.2 e
    exact ⟨a, c, h1, h2.away (Row.noLimb hr) (RRow.ne h2 hr) hf⟩
theorem Arr.put {w : World} {cs : Array Value} {S : Nat → Int} {r : Nat} {ch : Bool} {L : Nat} {g fP : Nat → Int} {fQ : Nat → Nat} (h : Arr w cs S r ch L g fP fQ) {k : Nat} {t : TypeId} (hr : Row w k t zerC) (cs' : Array Value) : Arr (w.setRow k cs') cs S r ch L g fP fQ := by
  rw [zerC_row] at hr
  exact h.away hr (Far.setRow _ _ _)
end Go.Proofs.YtifnamlgkooacaaGreatDoor

namespace Go.Proofs.YtifnamlgkooacaaGreatDoor
open Go.RowKit
/-- Where the elements are taken that go again and again. -/
def arG (L : Nat) : Nat → Int := fun j => if L = 0 then (j : Int) else ((j % L : Nat) : Int)
end Go.Proofs.YtifnamlgkooacaaGreatDoor

namespace Go.Proofs.YtifnamlgkooacaaGreatDoor
open Go.RowKit
/-- Twelve cells that are an array's. -/
def IsA (cs : Array Value) : Prop := ∃ ch more d na nn nc ta tn tc, cs = arrC ch more d na nn nc ta tn tc
theorem IsA.zer : IsA zerC := ⟨_, _, _, _, _, _, _, _, _, rfl⟩
theorem IsA.size {cs : Array Value} (h : IsA cs) : cs.size = 12 := by
  obtain ⟨_, _, _, _, _, _, _, _, _, rfl⟩ := h
  rfl
theorem IsA.one {cs : Array Value} (h : IsA cs) : cs.all (·.oneCell') = true := by
  obtain ⟨_, _, _, _, _, _, _, _, _, rfl⟩ := h
  exact arrC_one _ _ _ _ _ _ _ _ _
theorem Arr.isA {w : World} {cs : Array Value} {S : Nat → Int} {r : Nat} {ch : Bool} {L : Nat} {g fP : Nat → Int} {fQ : Nat → Nat} (h : Arr w cs S r ch L g fP fQ) : IsA cs := by
  obtain ⟨na, nn, nc, ta, tn, tc, rfl, _⟩ := h.form
  exact ⟨_, _, _, _, _, _, _, _, _, rfl⟩
theorem Arr.store {w : World} {cs : Array Value} {S : Nat → Int} {r : Nat} {ch : Bool} {L : Nat} {g fP : Nat → Int} {fQ : Nat → Nat} (h : Arr w cs S r ch L g fP fQ) {k : Nat} {t : TypeId} {z : Array Value} (hr : Row w k t z) (hz : IsA z) (cs' : Array Value) : Arr (w.setRow k cs') cs S r ch L g fP fQ := by
  obtain ⟨_, _, _, _, _, _, _, _, _, rfl⟩ := hz
  exact h.away hr (Far.setRow _ _ _)
theorem ev_tmp {a : Act} {d : Nat} {v : Value} (h : a.tmps[d]? = some v) : a.eval (.tmp d) = v := by
  show a.tmps.getD d undef = v
  rw [Array.getD_eq_getD_getElem?, h]; rfl
theorem ld8 {o : Oper} {a : Act} {w : World} {K : Act → World → Prop} {Q : Exit → Act → World → Prop} (d : Nat) (ho : o.op = .load 32 (.tmp d)) (g : Nat) (cs : Array Value) (hd : a.tmps[d]? = some (.pointer (some ⟨g, 0, none⟩))) (hr : Row w g 32 cs) (hs : cs.size = 12)
    (hK : K (a.put o.dst (.agg cs)) w) : o.wp Tryz.prog a w K Q :=
  wp_load_row 32 (.tmp d) ho g (ev_tmp hd) 32 cs (0, 0) _ hr Tryz.underlying32 rfl (by rw [arr12, hs]) hK
theorem ldP {o : Oper} {a : Act} {w : World} {K : Act → World → Prop} {Q : Exit → Act → World → Prop} (d : Nat) (ho : o.op = .load 26 (.tmp d)) (g : Nat) (cs : Array Value) (hd : a.tmps[d]? = some (.pointer (some ⟨g, 0, none⟩))) (hr : Row w g 26 cs) (hs : cs.size = 4)
    (hK : K (a.put o.dst (.agg cs)) w) : o.wp Tryz.prog a w K Q :=
  wp_load_row 26 (.tmp d) ho g (ev_tmp hd) 26 cs (0, 0) _ hr Tryz.underlying26 rfl (by rw [pln4, hs]) hK
theorem st8 {o : Oper} {a : Act} {w : World} {K : Act → World → Prop} {Q : Exit → Act → World → Prop} (d s : Nat) (ho : o.op = .store 32 (.tmp d) (.tmp s)) (g : Nat) (cs : Array Value) (hd : a.tmps[d]? = some (.pointer (some ⟨g, 0, none⟩))) (hs : a.tmps[s]? = some (.agg cs)) (t : TypeId) (z : Array Value) (hr : Row w g t z) (hz : IsA z) (hc : IsA cs)
    (hK : K (a.put o.dst undef) (w.setRow g cs)) : o.wp Tryz.prog a w K Q :=
  wp_store_row 32 (.tmp d) (.tmp s) ho g cs (ev_tmp hd) (ev_tmp hs) t z hr (by rw [arr12, hc.size]) (by rw [hz.size, hc.size]) hc.one hK
/-- What answers an array and an error. -/
def MoTold (E : Int) (S : Nat → Int) (r : Nat) (ch : Bool) (L : Nat) (g fP : Nat → Int) (fQ : Nat → Nat) (w w' : World) (e : Ending) : Prop :=
  ∃ cs, e = .returned (.tuple #[.agg cs, .int .i64 E]) ∧ (E = 0 → Arr w' cs S r ch L g fP fQ) ∧ (E ≠ 0 → cs = zerC) ∧ Below w.heap.size w w'
theorem MoTold.no {E : Int} (hE : E ≠ 0) {S : Nat → Int} {r : Nat} {ch : Bool} {L : Nat} {g fP : Nat → Int} {fQ : Nat → Nat} {w w' : World} (hb : Below w.heap.size w w') : MoTold E S r ch L g fP fQ w w' (.returned (.tuple #[.agg zerC, .int .i64 E])) :=
  ⟨zerC, rfl, fun e => absurd e hE, fun _ => rfl, hb⟩
theorem MoTold.yes {S : Nat → Int} {r : Nat} {ch : Bool} {L : Nat} {g fP : Nat → Int} {fQ : Nat → Nat} {w w' : World} {cs : Array Value} (h : Arr w' cs S r ch L g fP fQ) (hb : Below w.heap.size w w') : MoTold 0 S r ch L g fP fQ w w' (.returned (.tuple #[.agg cs, .int .i64 0])) :=
  ⟨cs, rfl, fun _ => h, fun e => absurd rfl e, hb⟩
end Go.Proofs.YtifnamlgkooacaaGreatDoor

namespace Go.Proofs.YtifnamlgkooacaaGreatDoor
open Go.RowKit
attribute [local go_sem ↓] Go.wp_at_zero Go.wp_at_succ
/-- A function value that answers a number for every row and place in it. -/
def Gives2 (fv : FuncId) (cap : Array Value) (F : Nat → Nat → Int) (R N : Nat) (w : World) : Prop :=
  ∀ wz, Below w.heap.size w wz → ∀ row i : Nat, row < R → i < N → Calls Tryz.prog fv (#[.int .i64 (row : Nat), .int .i64 (i : Nat)] ++ cap) wz fun e w' => e = .returned (.int .i64 (F row i)) ∧ Below wz.heap.size wz w'
theorem Gives2.below {fv : FuncId} {cap : Array Value} {F : Nat → Nat → Int} {R N : Nat} {w w' : World} (h : Gives2 fv cap F R N w) (hb : Below w.heap.size w w') : Gives2 fv cap F R N w' := fun wz hz => h wz (hb.trans (hz.mono hb.size))
end Go.Proofs.YtifnamlgkooacaaGreatDoor

namespace Go.Proofs.YtifnamlgkooacaaGreatDoor
open Go.RowKit
attribute [local go_sem ↓] Go.wp_at_zero Go.wp_at_succ
/-- An array and a plain one that say the same. -/
structure Shown (w : World) (cs pcs : Array Value) : Prop where
  ex : ∃ S r ch L g fP fQ S' g' fB fS fT, Arr w cs S r ch L g fP fQ ∧ Pln w pcs S' r ch L g' fB fS fT ∧ r ≤ 8 ∧ L ≤ 1000000 ∧ Small ch L fP fQ ∧ (∀ j, j < r → S j = S' j) ∧ (∀ j, j < tnO ch L → g j = g' j) ∧ ∀ j, j < nnO ch L → rB (fP j) = fB j ∧ rS (fP j) = fS j ∧ str (dec (fQ j)) = fT j
theorem Shown.below {w w' : World} {cs pcs : Array Value} (h : Shown w cs pcs) (hb : Below w.heap.size w w') : Shown w' cs pcs := by
  obtain ⟨S, r, ch, L, g, fP, fQ, S', g', fB, fS, fT, h1, h2, h3⟩ := h.ex
  exact ⟨S, r, ch, L, g, fP, fQ, S', g', fB, fS, fT, h1.below hb, h2.below hb, h3⟩
end Go.Proofs.YtifnamlgkooacaaGreatDoor

namespace Go.Proofs.YtifnamlgkooacaaGreatDoor
open Go.RowKit
/-- The numbers of a plain array. -/
def gP (fB : Nat → Bool) (fS fT : Nat → ByteArray) : Nat → Int := fun j => ofP (fB j) (fS j) (fT j)
def gQ (fB : Nat → Bool) (fS fT : Nat → ByteArray) : Nat → Nat := fun j => ofQ (fB j) (fS j) (fT j)
/-- A plain array that is light. -/
structure Good (S : Nat → Int) (r : Nat) (ch : Bool) (L : Nat) (fB : Nat → Bool) (fS fT : Nat → ByteArray) : Prop where
  le : L ≤ 250
  rank : r ≤ 8
  sh : shB S r = true
  cnt : itm S r = (L : Nat)
  short : Short fS fT (nnO ch L)
  of : ofB S r ch (tnO ch L) fB fS fT (nnO ch L) = true
theorem Good.num {S : Nat → Int} {r : Nat} {ch : Bool} {L : Nat} {fB : Nat → Bool} {fS fT : Nat → ByteArray} (h : Good S r ch L fB fS fT) : NumOk fB fS fT (gP fB fS fT) (gQ fB fS fT) (nnO ch L) := ofO_num (ofB_true h.of).2.2.2.2 h.short
theorem Good.told {S : Nat → Int} {r : Nat} {ch : Bool} {L : Nat} {fB : Nat → Bool} {fS fT : Nat → ByteArray} (h : Good S r ch L fB fS fT) : ∀ j, j < nnO ch L → rB (gP fB fS fT j) = fB j ∧ rS (gP fB fS fT j) = fS j ∧ str (dec (gQ fB fS fT j)) = fT j := fun j hj => by
  obtain ⟨e1, e2, e3, _⟩ := h.num j hj
  exact ⟨e1.symm, e2.symm, e3.symm⟩
end Go.Proofs.YtifnamlgkooacaaGreatDoor

namespace Go.Proofs.YtifnamlgkooacaaGreatDoor
open Go.RowKit
theorem RRow.congr {w : World} {sa : Option Addr} {n c : Nat} {fP fP' : Nat → Int} {fQ fQ' : Nat → Nat} (h : RRow w sa n c fP fQ) (e1 : ∀ j, j < n → fP j = fP' j) (e2 : ∀ j, j < n → fQ j = fQ' j) : RRow w sa n c fP' fQ' := by
  refine ⟨h.1, h.2.1, h.2.2.imp id fun ⟨b, off, h1, h2, h3⟩ => ⟨b, off, h1, h2, fun j hj => ?_⟩⟩
  rw [← e1 j hj, ← e2 j hj]
  exact h3 j hj
theorem Arr.on {w : World} {cs : Array Value} {S : Nat → Int} {r : Nat} {ch : Bool} {L : Nat} {g g' fP fP' : Nat → Int} {fQ fQ' : Nat → Nat} (h : Arr w cs S r ch L g fP fQ) (e1 : ∀ j, j < L → g j = g' j) (e2 : ∀ j, j < L → fP j = fP' j) (e3 : ∀ j, j < L → fQ j = fQ' j) : Arr w cs S r ch L g' fP' fQ' := by
  refine ⟨fun e => ?_, fun e => ?_⟩
  · obtain ⟨ta, tc, q, k⟩ := h.1 e
    exact ⟨ta, tc, q, k.congr e1⟩
  · obtain ⟨na, nc, q, k⟩ := h.2 e
    exact ⟨na, nc, q, k.congr e2 e3⟩
end Go.Proofs.YtifnamlgkooacaaGreatDoor

namespace Go.Proofs.YtifnamlgkooacaaGreatDoor
open Go.RowKit
attribute [local go_sem ↓] Go.wp_at_zero Go.wp_at_succ
theorem WhTold.yes {n : Nat} {f : Nat → Int} {w w' : World} {e : Ending} (h : WhTold true n f w w' e) : ∃ a c, e = .returned (.tuple #[.slice a n c, .bool true]) ∧ KRow w' .i64 a n c f ∧ Below w.heap.size w w' := by
  obtain ⟨a, m, c, he, h2, hb⟩ := h
  rw [if_pos rfl] at h2
  obtain ⟨rfl, hk⟩ := h2
  exact ⟨a, c, he, hk, hb⟩
theorem WhTold.no {n : Nat} {f : Nat → Int} {w w' : World} {e : Ending} (h : WhTold false n f w w' e) : e = .returned (.tuple #[.slice none 0 0, .bool false]) ∧ Below w.heap.size w w' := by
  obtain ⟨a, m, c, he, h2, hb⟩ := h
  rw [if_neg (by decide)] at h2
  obtain ⟨rfl, rfl, rfl⟩ := h2
  exact ⟨he, hb⟩
end Go.Proofs.YtifnamlgkooacaaGreatDoor

namespace Go.Proofs.YtifnamlgkooacaaGreatDoor
open Go.RowKit
theorem dgs_zero {f : Nat → Int} : ∀ (n j : Nat), dgs f n 0 j = 0
  | 0, _ => rfl
  | n + 1, j => by
    show (if j = n then 0 % f n else dgs f n (0 / f n) j) = 0
    rw [Int.zero_emod, Int.zero_ediv, dgs_zero n j]
    split <;> rfl
theorem dgs_top {f : Nat → Int} (n : Nat) (r : Int) : dgs f (n + 1) r n = r % f n := by
  show (if n = n then _ else _) = _
  rw [if_pos rfl]
theorem dgs_low {f : Nat → Int} {n j : Nat} (r : Int) (h : j < n) : dgs f (n + 1) r j = dgs f n (r / f n) j := by
  show (if j = n then _ else _) = _
  rw [if_neg (by omega)]
/-- One more: the last number goes up, or comes to 0 and the others go up. -/
theorem next_up {d q : Int} (hd : 1 ≤ d) (h : q % d + 1 < d) : (q + 1) % d = q % d + 1 ∧ (q + 1) / d = q / d := by
  have h1 := Int.mul_ediv_add_emod q d
  have h2 := Int.emod_nonneg q (show d ≠ 0 by omega)
  have e : q + 1 = (q % d + 1) + d * (q / d) := by omega
  constructor
  · rw [e, Int.add_mul_emod_self_left]
    exact Int.emod_eq_of_lt (by omega) h
  · rw [e, Int.add_mul_ediv_left _ _ (by omega), Int.ediv_eq_zero_of_lt (by omega) h, Int.zero_add]
theorem next_over {d q : Int} (hd : 1 ≤ d) (h : q % d + 1 = d) : (q + 1) % d = 0 ∧ (q + 1) / d = q / d + 1 := by
  have h1 := Int.mul_ediv_add_emod q d
  have e : q + 1 = d * (q / d + 1) := by rw [Int.mul_add]; omega
  constructor
  · rw [e, Int.mul_emod_right]
  · rw [e, Int.mul_ediv_cancel_left _ (by omega)]
theorem IBox.wrote {w w' : World} {g n k lo hi : Nat} {h : Nat → Int} (q : IBox w g n h) (hw : Wrote k lo hi w w') (hk : g ≠ k) : IBox w' g n h :=
  ⟨Nat.lt_of_lt_of_le q.1 hw.size, q.2.1.wrote hw q.1, fun j hj => (World.cell?_of_block (w := w) (w' := w') (a := ⟨g, j, none⟩) (hw.block g q.1 hk)).trans (q.2.2 j hj)⟩
theorem IBox.drewN {w : World} {g n : Nat} {h : Nat → Int} (q : IBox w g n h) (m : Nat) : IBox (w.drewN m) g n h := q
set_option maxHeartbeats 1600000 in
set_option maxRecDepth 100000 in
theorem advance_any (a : Option Addr) (n c : Nat) (f : Nat → Int) (g c2 : Nat) (r : Int) (w0 w : World) (h : KRow w0 .i64 a n c f) (hb : Below w0.heap.size w0 w) (hg : w0.heap.size ≤ g) (hn : n ≤ 8) (hp : ∀ j, j < n → 1 ≤ f j) (hf : ∀ j, j < n → f j ≤ 4096) (hr : 0 ≤ r ∧ r < itm f n) (hx : IBox w g n (dgs f n r)) (hc : n ≤ c2 ∧ c2 ≤ maxLen) :
    Calls Tryz.prog 132 #[.slice a n c, .slice (some ⟨g, 0, none⟩) n c2] w fun e w' => e = .returned (.tuple #[]) ∧ Wrote g 0 n w w' ∧ IBox w' g n (dgs f n (r + 1)) := by
  have hl := h.len
  have H := Lib.hid h
  have HB := Lib.hid hb
  have HP := Lib.hid hp
  have HF := Lib.hid hf
  have H0 : Hid (0 ≤ r ∧ r < itm f n ∧ Wrote g 0 n w w ∧ IBox w g n (fun j => if j < n then dgs f n r j else dgs f n (r + 1) j)) :=
    Lib.hid ⟨hr.1, hr.2, Wrote.refl _ _ _ _, hx.congr (fun j hj => by rw [if_pos hj])⟩
  have hw1 := IntWalk.i64_in ((n : Int) - 1) (by omega)
  have hnn : (0 : Int) ≤ n := by omega
  obtain ⟨hc1, hc2⟩ := hc
  unfold maxLen at hc2
  clear h hb hp hf hr hx
  go_enter Tryz.func132, Tryz.ntmps132
  go_wp2_with fail
  go_loopw [4] (fun ax wr => ∃ (k : Nat) (q z : Int), k ≤ n ∧ z = (k : Int) - 1 ∧ ax = .int .i64 z ∧ Hid (0 ≤ q ∧ q < itm f k ∧ (∀ j, j < k → dgs f n r j = dgs f k q j ∧ dgs f n (r + 1) j = dgs f k (q + 1) j) ∧ Wrote g 0 n w wr ∧ IBox wr g n (fun j => if j < k then dgs f n r j else dgs f n (r + 1) j))) (fun ax _ => (intOf ax + 1).toNat)
  case atStart => exact ⟨n, r, (n : Int) - 1, Nat.le_refl _, rfl, rfl, H0.out.1, H0.out.2.1, fun _ _ => ⟨rfl, rfl⟩, H0.out.2.2⟩
  case round =>
    obtain ⟨k, q, z, hk, hz, rfl, hrel⟩ := hrel
    obtain ⟨q0, q1, hd, hwr, hbox⟩ := hrel.out
    by_cases hk0 : 0 < k
    · obtain ⟨k, rfl⟩ : ∃ k', k = k' + 1 := ⟨k - 1, by omega⟩
      obtain rfl : z = (k : Int) := by omega
      have hlt : k < n := by omega
      have hfk := HP.out k hlt
      have hfm := HF.out k hlt
      obtain ⟨u1, u2, u3, u4⟩ := quo_lt hfk q0 q1
      obtain ⟨b, off, rfl, hbl, hc0⟩ := H.out.get hlt
      have hne : b ≠ g := by omega
      have hcb := (HB.out.cell (p := ⟨b, off + k, none⟩) hbl).trans hc0
      have hlt0 : b < w.heap.size := Nat.lt_of_lt_of_le hbl HB.out.size
      have hcw := (World.cell?_of_block (w := w) (w' := wr) (a := ⟨b, off + k, none⟩) (hwr.block b hlt0 hne)).trans hcb
      have hcs : ∀ v, (wr.setCell ⟨g, k, none⟩ v).cell? ⟨b, off + k, none⟩ = some (.int .i64 (f k)) := fun v => by rw [World.cell?_setCell_other _ _ _ _ (fun e => by injection e with e; omega)]; exact hcw
      have x1 := hbox.2.2 k hlt
      simp only [show k < k + 1 by omega, if_true] at x1
      rw [(hd k (by omega)).1, dgs_top] at x1
      have x2 := hbox.2.1 k
      have hkn : (0 : Int) ≤ k := by omega
      have hkl : (k : Int) < n := by omega
      have w4 := IntWalk.i64_in ((k : Int) - 1) (by omega)
      have w5 := IntWalk.i64_in (q % f k + 1) (by omega)
      have BX := hbox.set hlt (q % f k + 1)
      have y1 := BX.2.2 k hlt
      simp only [if_true] at y1
      have y2 := BX.2.1 k
      by_cases hov : q % f k + 1 < f k
      · obtain ⟨e1, e2⟩ := next_up hfk hov
        have HE : Hid (∀ m, Wrote g 0 n w ((wr.setCell ⟨g, k, none⟩ (.int .i64 (q % f k + 1))).drewN m) ∧ IBox ((wr.setCell ⟨g, k, none⟩ (.int .i64 (q % f k + 1))).drewN m) g n (dgs f n (r + 1))) := Lib.hid (fun m =>
          ⟨(hwr.setCell (Nat.zero_le k) hlt _).drewN m, (BX.congr (fun j hj => by
            by_cases e : j = k
            · subst e
              rw [if_pos rfl, (hd j (by omega)).2, dgs_top, e1]
            · rw [if_neg e]
              by_cases e3 : j < k
              · rw [if_pos (by omega), (hd j (by omega)).1, (hd j (by omega)).2, dgs_low _ e3, dgs_low _ e3, e2]
              · rw [if_neg (by omega)])).drewN m⟩)
        clear hrel q0 q1 hd hwr hbox u1 u2 u3 u4 e1 e2 BX hcb hc0 hz
        generalize q % f k = v0 at *
        generalize f k = x at *
        go_wp2_with fail
        go_quiet (fail)
        have HEE := Lib.hid (HE.out nq)
        go_wp2
        exact bodyPost_ret (v := .tuple #[]) (by simp [results, Tryz.results132, go_sem]) rfl ⟨rfl, HEE.out⟩
      · obtain ⟨e1, e2⟩ := next_over hfk (show q % f k + 1 = f k by omega)
        have HN : Hid (∀ m, 0 ≤ q / f k ∧ q / f k < itm f k ∧ (∀ j, j < k → dgs f n r j = dgs f k (q / f k) j ∧ dgs f n (r + 1) j = dgs f k (q / f k + 1) j) ∧ Wrote g 0 n w (((wr.setCell ⟨g, k, none⟩ (.int .i64 (q % f k + 1))).drewN m).setCell ⟨g, k, none⟩ (.int .i64 0)) ∧ IBox (((wr.setCell ⟨g, k, none⟩ (.int .i64 (q % f k + 1))).drewN m).setCell ⟨g, k, none⟩ (.int .i64 0)) g n (fun j => if j < k then dgs f n r j else dgs f n (r + 1) j)) := Lib.hid (fun m =>
          ⟨u1, u2, fun j hj => ⟨by rw [(hd j (by omega)).1, dgs_low _ hj], by rw [(hd j (by omega)).2, dgs_low _ hj, e2]⟩, ((hwr.setCell (Nat.zero_le k) hlt _).drewN m).setCell (Nat.zero_le k) hlt _, ((BX.drewN m).set hlt 0).congr (fun j hj => by
            by_cases e : j = k
            · subst e
              rw [if_pos rfl, if_neg (by omega), (hd j (by omega)).2, dgs_top, e1]
            · rw [if_neg e, if_neg e]
              by_cases e3 : j < k
              · rw [if_pos (by omega), if_pos e3]
              · rw [if_neg (by omega), if_neg e3])⟩)
        clear hrel q0 q1 hd hwr hbox u1 u2 u3 u4 e1 e2 BX hcb hc0 hz
        generalize q / f k = q' at *
        generalize q % f k = v0 at *
        generalize f k = x at *
        go_wp2_with fail
        go_quiet (fail)
        have HNN := Lib.hid (HN.out nq)
        go_wp2
        go_roundw
        case rel => exact ⟨k, q', (k : Int) - 1, by omega, rfl, by go_num, HNN.out⟩
        case measure => simp [intOf]
    · obtain rfl : k = 0 := by omega
      obtain rfl : z = -1 := by omega
      have HE : Hid (Wrote g 0 n w wr ∧ IBox wr g n (dgs f n (r + 1))) := Lib.hid ⟨hwr, hbox.congr (fun j _ => by rw [if_neg (by omega)])⟩
      clear hrel q0 q1 hd hwr hbox hz
      go_wp2
      go_end0
      exact ⟨rfl, HE.out⟩
/-- A row of integers copied whole over a block of its own. -/
theorem wpList_copy_full {w : World} {ops : Array Oper} {rest : List Oper} {o : Oper} {a : Act} {Q : Exit → Act → World → Prop} (hgd : o.guard = none) (d s : Operand) (dT sT : TypeId)
    (ho : o.op = .call { callee := .builtin .copy, args := #[d, s], argTypes := #[dT, sT] }) (elem : TypeId) (hu : Tryz.prog.underlying dT = some (.slice elem)) (hsz : (Tryz.prog.info? elem).map (·.size) = some 1)
    (g n c1 gi c2 : Nat) (hd : a.eval d = .slice (some ⟨g, 0, none⟩) n c1) (hs : a.eval s = .slice (some ⟨gi, 0, none⟩) n c2)
    (cur : Array Value) (t : TypeId) (hg : Row w g t cur) (hcur : cur.size = n) (h : Nat → Int) (hsrc : IBox w gi n h)
    (k : ∀ w', Row w' g t (kcs .i64 h n).toArray → Wrote g 0 n w w' → wpList Tryz.prog ops Q rest (a.put o.dst (goInt n)) w') : wpList Tryz.prog ops Q (o :: rest) a w := by
  by_cases h0 : n = 0
  · subst h0
    refine wpList_copy_nothing hgd d s dT sT ho elem hu hsz _ _ 0 c1 0 c2 hd hs rfl (k w ?_ (Wrote.refl _ _ _ _))
    have : cur = #[] := Array.eq_empty_of_size_eq_zero hcur
    rw [this] at hg
    exact hg
  · have hl := kcs_length .i64 h n
    refine wpList_copy_own hgd d s dT sT ho elem hu hsz g 0 n c1 ⟨gi, 0, none⟩ n c2 hd hs cur t hg (kcs .i64 h n) (by rw [hl]; exact (Nat.min_self n).symm) (fun j v hj => ?_) (by rw [hl]; omega) (kcs_one .i64 h n) ?_
    · have hj2 : j < n := by
        have := (List.getElem?_eq_some_iff.1 hj).1
        rwa [hl] at this
      rw [kcs_get .i64 h n j hj2] at hj
      obtain rfl := Option.some.inj hj
      rw [show (⟨gi, 0, none⟩ : Addr).add j = ⟨gi, j, none⟩ by unfold Addr.add; split <;> simp_all]
      exact hsrc.2.2 j hj2
    · rw [hl]
      have hrow : Row (w.setRow g (cur.toList.take 0 ++ (kcs .i64 h n ++ cur.toList.drop (0 + n))).toArray) g t (kcs .i64 h n).toArray := by
        have := hg.put (cur.toList.take 0 ++ (kcs .i64 h n ++ cur.toList.drop (0 + n))).toArray
        rw [show (cur.toList.take 0 ++ (kcs .i64 h n ++ cur.toList.drop (0 + n))).toArray = (kcs .i64 h n).toArray by
          rw [List.take_zero, List.nil_append, Nat.zero_add, List.drop_of_length_le (by rw [Array.length_toList]; omega), List.append_nil]] at this ⊢
        exact this
      refine k _ hrow ⟨rfl, rfl, rfl, by simp [World.setRow], fun j hj hne => setRow_other w g j _ hne, fun o ho => ?_, fun o => ?_⟩
      · have ho' : n ≤ o := by omega
        rw [hrow.cell, hg.cell, Array.getElem?_eq_none (by rw [List.size_toArray, hl]; omega), Array.getElem?_eq_none (by omega)]
      · rw [hrow.free, hg.free]
theorem IBox.of_row {w : World} {g n : Nat} {t : TypeId} {h : Nat → Int} (q : Row w g t (kcs .i64 h n).toArray) : IBox w g n h :=
  ⟨q.lt, fun o => q.free o, fun j hj => by rw [q.cell, List.getElem?_toArray]; exact kcs_get .i64 h n j hj⟩
end Go.Proofs.YtifnamlgkooacaaGreatDoor

namespace Go.Proofs.YtifnamlgkooacaaGreatDoor
open Go.RowKit
theorem liE_whole {r : Nat} {b : Bool} (h : liE r b = 0) : b = true := by
  unfold liE at h
  split at h
  · cases h
  · cases b
    · cases h
    · rfl
end Go.Proofs.YtifnamlgkooacaaGreatDoor

namespace Go.Proofs.YtifnamlgkooacaaGreatDoor
open Go.RowKit
theorem ld8G {ops : Array Oper} {rest : List Oper} {o : Oper} {a : Act} {w : World} {Q : Exit → Act → World → Prop} (hw : Region.wanted o (yielded ops a.tmps) = true) (d : Nat) (ho : o.op = .load 32 (.tmp d)) (g : Nat) (cs : Array Value) (hx : a.eval (.tmp d) = .pointer (some ⟨g, 0, none⟩)) (hr : Row w g 32 cs) (hs : cs.size = 12)
    (h : wpList Tryz.prog ops Q rest (a.put o.dst (.agg cs)) w) : wpList Tryz.prog ops Q (o :: rest) a w := by
  show if Region.wanted o (yielded ops a.tmps) = true then _ else _
  rw [if_pos hw]
  exact Or.inl (wp_load_row 32 (.tmp d) ho g hx 32 cs (0, 0) _ hr Tryz.underlying32 rfl (by rw [arr12, hs]) h)
theorem dm_congr {f f' : Nat → Int} {n : Nat} (h : ∀ j, j < n → f j = f' j) : dm f n = dm f' n := by
  funext j
  unfold dm
  split
  · rename_i hj; exact h j hj
  · rfl
theorem Arr.shape {w : World} {cs : Array Value} {S S' : Nat → Int} {r : Nat} {ch : Bool} {L : Nat} {g fP : Nat → Int} {fQ : Nat → Nat} (h : Arr w cs S r ch L g fP fQ) (e : ∀ j, j < r → S j = S' j) : Arr w cs S' r ch L g fP fQ := by
  refine ⟨fun q => ?_, fun q => ?_⟩
  · obtain ⟨ta, tc, h1, h2⟩ := h.1 q
    exact ⟨ta, tc, by rw [h1, dm_congr e], h2⟩
  · obtain ⟨na, nc, h1, h2⟩ := h.2 q
    exact ⟨na, nc, by rw [h1, dm_congr e], h2⟩
theorem ax_le4 {S : Nat → Int} {r j : Nat} (h : shB S r = true) (hj : j < r) : 0 ≤ S j ∧ S j ≤ 4096 := by
  obtain ⟨_, hax⟩ := sh_ax h
  have h1 := ax_bd (ax_le (show j + 1 ≤ r by omega) hax)
  have h2 := rm_pos S j
  have h3 : 1 * max (S j) 1 ≤ rm S j * max (S j) 1 := Int.mul_le_mul h2 (Int.le_refl _) (by omega) (by omega)
  have h4 : rm S (j + 1) = rm S j * max (S j) 1 := rfl
  have h5 := ax_nn hax hj
  omega
end Go.Proofs.YtifnamlgkooacaaGreatDoor

namespace Go.Proofs.YtifnamlgkooacaaGreatDoor
open Go.RowKit
/-- Runs of two rows in turn, so many of the one and so many of the other. -/
def wvF {α : Type} (N1 N2 : Nat) (f1 f2 : Nat → α) (j : Nat) : α := if j % (N1 + N2) < N1 then f1 (j / (N1 + N2) * N1 + j % (N1 + N2)) else f2 (j / (N1 + N2) * N2 + (j % (N1 + N2) - N1))
theorem wv_dm {W i t : Nat} (ht : t < W) : (i * W + t) % W = t ∧ (i * W + t) / W = i := by
  constructor
  · rw [Nat.mul_comm, Nat.mul_add_mod]; exact Nat.mod_eq_of_lt ht
  · rw [Nat.mul_comm, Nat.mul_add_div (by omega), Nat.div_eq_of_lt ht, Nat.add_zero]
theorem wv_one {α : Type} {N1 N2 i t : Nat} {f1 f2 : Nat → α} (ht : t < N1) : wvF N1 N2 f1 f2 (i * (N1 + N2) + t) = f1 (i * N1 + t) := by
  obtain ⟨h1, h2⟩ := wv_dm (W := N1 + N2) (i := i) (t := t) (by omega)
  unfold wvF
  rw [h1, h2, if_pos ht]
theorem wv_two {α : Type} {N1 N2 i t : Nat} {f1 f2 : Nat → α} (ht : t < N2) : wvF N1 N2 f1 f2 (i * (N1 + N2) + (N1 + t)) = f2 (i * N2 + t) := by
  obtain ⟨h1, h2⟩ := wv_dm (W := N1 + N2) (i := i) (t := N1 + t) (by omega)
  unfold wvF
  rw [h1, h2, if_neg (by omega), Nat.add_sub_cancel_left]
/-- A number put in as an axis. -/
def insF (S : Nat → Int) (k : Nat) (v : Int) : Nat → Int := fun j => if j < k then S j else if j = k then v else S (j - 1)
/-- Are all numbers but one the same? -/
def neB (f s : Nat → Int) (k : Nat) : Nat → Bool
  | 0 => true
  | n + 1 => neB f s k n && (decide (n = k) || decide (f n = s n))
theorem neB_iff {f s : Nat → Int} {k : Nat} : ∀ {n : Nat}, neB f s k n = true ↔ ∀ j, j < n → j ≠ k → f j = s j
  | 0 => ⟨fun _ j hj => absurd hj (Nat.not_lt_zero _), fun _ => rfl⟩
  | n + 1 => by
    unfold neB
    rw [Bool.and_eq_true, Bool.or_eq_true, decide_eq_true_eq, decide_eq_true_eq, neB_iff (n := n)]
    constructor
    · rintro ⟨h1, h2⟩ j hj hk
      by_cases e : j = n
      · subst e; exact h2.resolve_left hk
      · exact h1 j (by omega) hk
    · intro h
      refine ⟨fun j hj hk => h j (by omega) hk, ?_⟩
      by_cases e : n = k
      · exact .inl e
      · exact .inr (h n (by omega) e)
theorem ne_ins {S s : Nat → Int} {k q : Nat} (v : Int) (hk : k < q) : sameB S (outF s k) (q - 1) = neB (insF S k v) s k q := by
  rw [Bool.eq_iff_iff, sameB_iff, neB_iff]
  constructor
  · intro h j hj hjk
    unfold insF
    by_cases e : j < k
    · rw [if_pos e, h j (by omega)]; unfold outF; rw [if_pos e]
    · rw [if_neg e, if_neg hjk, h (j - 1) (by omega)]; unfold outF; rw [if_neg (by omega), show j - 1 + 1 = j by omega]
  · intro h j hj
    unfold outF
    by_cases e : j < k
    · rw [if_pos e]
      have := h j (by omega) (by omega)
      unfold insF at this
      rwa [if_pos e] at this
    · rw [if_neg e]
      have := h (j + 1) (by omega) (by omega)
      unfold insF at this
      rwa [if_neg (by omega), if_neg (by omega), Nat.add_sub_cancel] at this
theorem ne_out {S s : Nat → Int} {k q : Nat} (hk : k < q) : sameB (outF S k) (outF s k) (q - 1) = neB S s k q := by
  rw [ne_ins 0 hk]
  rw [Bool.eq_iff_iff, neB_iff, neB_iff]
  have e : ∀ j, j ≠ k → insF (outF S k) k 0 j = S j := fun j hj => by
    unfold insF outF
    by_cases h : j < k
    · rw [if_pos h, if_pos h]
    · rw [if_neg h, if_neg hj, if_neg (by omega), show j - 1 + 1 = j by omega]
  constructor
  · intro h j hj hk; rw [← e j hk]; exact h j hj hk
  · intro h j hj hk; rw [e j hk]; exact h j hj hk
theorem ins_out (s : Nat → Int) (k : Nat) (v : Int) : insF (outF s k) k v = wiF s (k : Nat) v := by
  funext j
  unfold insF outF wiF
  by_cases h : j < k
  · rw [if_pos h, if_pos h, if_neg (by omega)]
  · rw [if_neg h]
    by_cases e : j = k
    · rw [if_pos e, if_pos (by omega)]
    · rw [if_neg e, if_neg (by omega), if_neg (by omega), show j - 1 + 1 = j by omega]
theorem wi_wi (s : Nat → Int) (k : Nat) (u v : Int) : wiF (wiF s (k : Nat) u) (k : Nat) v = wiF s (k : Nat) v := by
  funext j
  unfold wiF
  split <;> rfl
theorem wi_at (s : Nat → Int) (k : Nat) (v : Int) : wiF s (k : Nat) v k = v := by unfold wiF; rw [if_pos rfl]
theorem wi_off {s : Nat → Int} {k j : Nat} (v : Int) (h : j ≠ k) : wiF s (k : Nat) v j = s j := by unfold wiF; rw [if_neg (by omega)]
theorem ins_at (s : Nat → Int) (k : Nat) (v : Int) : insF s k v k = v := by unfold insF; rw [if_neg (by omega), if_pos rfl]
theorem sh_congr0 {f f' : Nat → Int} {n : Nat} (h : ∀ j, j < n → f j = f' j) : shB f n = shB f' n := by
  have e : ∀ {k : Nat}, (∀ j, j < k → f j = f' j) → rm f k = rm f' k ∧ axB f k = axB f' k := by
    intro k
    induction k with
    | zero => intro _; exact ⟨rfl, rfl⟩
    | succ k ih =>
      intro hk
      obtain ⟨i1, i2⟩ := ih (fun j hj => hk j (by omega))
      have e2 : rm f (k + 1) = rm f' (k + 1) := by show rm f k * max (f k) 1 = rm f' k * max (f' k) 1; rw [i1, hk k (by omega)]
      refine ⟨e2, ?_⟩
      show (axB f k && (decide (0 ≤ f k) && decide (rm f (k + 1) ≤ 4096))) = (axB f' k && (decide (0 ≤ f' k) && decide (rm f' (k + 1) ≤ 4096)))
      rw [i2, e2, hk k (by omega)]
  unfold shB
  rw [(e h).2]
/-- The axes of a shape, told by each of them and by the room. -/
theorem ax_iff {f : Nat → Int} : ∀ {n : Nat}, axB f n = true ↔ (∀ j, j < n → 0 ≤ f j) ∧ rm f n ≤ 4096
  | 0 => ⟨fun _ => ⟨fun j hj => absurd hj (Nat.not_lt_zero _), by show (1 : Int) ≤ 4096; decide⟩, fun _ => rfl⟩
  | n + 1 => by
    constructor
    · intro h
      exact ⟨fun j hj => ax_nn h hj, (ax_bd h).2.1⟩
    · rintro ⟨h1, h2⟩
      have h3 := rm_pos f n
      have h4 : rm f n * 1 ≤ rm f n * max (f n) 1 := Int.mul_le_mul_of_nonneg_left (by omega) (by omega)
      have h5 : rm f (n + 1) = rm f n * max (f n) 1 := rfl
      have h6 : axB f n = true := ax_iff.2 ⟨fun j hj => h1 j (by omega), by omega⟩
      show (axB f n && (decide (0 ≤ f n) && decide (rm f (n + 1) ≤ 4096))) = true
      rw [h6, decide_eq_true (h1 n (by omega)), decide_eq_true h2]; rfl
theorem rm_congr {f f' : Nat → Int} : ∀ {n : Nat}, (∀ j, j < n → f j = f' j) → rm f n = rm f' n
  | 0, _ => rfl
  | n + 1, h => by
    show rm f n * max (f n) 1 = rm f' n * max (f' n) 1
    rw [rm_congr (fun j hj => h j (by omega)), h n (by omega)]
/-- The room, and how many elements there are, cut at an axis. -/
theorem rm_cut {f : Nat → Int} {n k : Nat} (hk : k < n) : rm f n = rm f k * max (f k) 1 * rm (shf f (k + 1)) (n - (k + 1)) := by
  have := rm_add f (k + 1) (n - (k + 1))
  rw [show k + 1 + (n - (k + 1)) = n by omega] at this
  exact this
theorem itm_cut {f : Nat → Int} {n k : Nat} (hk : k < n) : itm f n = itm f k * f k * stF f n k := by
  have := itm_add f (k + 1) (n - (k + 1))
  rw [show k + 1 + (n - (k + 1)) = n by omega] at this
  exact this
theorem shf_congr {f f' : Nat → Int} {n k : Nat} (h : ∀ j, j < n → j ≠ k → f j = f' j) (hk : k < n) : (∀ j, j < k → f j = f' j) ∧ ∀ j, j < n - (k + 1) → shf f (k + 1) j = shf f' (k + 1) j :=
  ⟨fun j hj => h j (by omega) (by omega), fun j hj => h (k + 1 + j) (by omega) (by omega)⟩
/-- An axis of 1 put in. -/
theorem ins_parts (S : Nat → Int) (k : Nat) (v : Int) : (∀ j, j < k → insF S k v j = S j) ∧ ∀ j, shf (insF S k v) (k + 1) j = shf S k j :=
  ⟨fun j hj => by unfold insF; rw [if_pos hj], fun j => by
    show insF S k v (k + 1 + j) = S (k + j)
    unfold insF
    rw [if_neg (by omega), if_neg (by omega), show k + 1 + j - 1 = k + j by omega]⟩
theorem ins_rm {S : Nat → Int} {k q : Nat} (hk : k ≤ q) : rm (insF S k 1) (q + 1) = rm S q ∧ itm (insF S k 1) (q + 1) = itm S q := by
  obtain ⟨h1, h2⟩ := ins_parts S k 1
  have e1 := rm_cut (f := insF S k 1) (show k < q + 1 by omega)
  have e2 := itm_cut (f := insF S k 1) (show k < q + 1 by omega)
  have e3 := rm_add S k (q - k)
  have e4 := itm_add S k (q - k)
  rw [show k + (q - k) = q by omega] at e3 e4
  have e5 : stF (insF S k 1) (q + 1) k = itm (shf S k) (q - k) := by
    show itm (shf (insF S k 1) (k + 1)) (q + 1 - (k + 1)) = _
    rw [show q + 1 - (k + 1) = q - k by omega]
    exact itm_congr fun j _ => h2 j
  rw [ins_at, rm_congr (f' := S) h1, show q + 1 - (k + 1) = q - k by omega, rm_congr (f' := shf S k) (fun j _ => h2 j), show max (1 : Int) 1 = 1 from rfl, Int.mul_one] at e1
  rw [ins_at, itm_congr (f' := S) h1, Int.mul_one, e5] at e2
  exact ⟨e1.trans e3.symm, e2.trans e4.symm⟩
theorem ins_sh {S : Nat → Int} {k q : Nat} (hk : k ≤ q) (h8 : q + 1 ≤ 8) (h : shB S q = true) : shB (insF S k 1) (q + 1) = true := by
  obtain ⟨_, hax⟩ := sh_ax h
  obtain ⟨h1, h2⟩ := ax_iff.1 hax
  unfold shB
  rw [decide_eq_true h8, Bool.true_and]
  refine ax_iff.2 ⟨fun j hj => ?_, by rw [(ins_rm hk).1]; exact h2⟩
  unfold insF
  split
  · exact h1 j (by omega)
  · split
    · decide
    · exact h1 (j - 1) (by omega)
/-- An axis made no longer. -/
theorem wi_sh {S : Nat → Int} {k q : Nat} {v : Int} (hk : k < q) (h : shB S q = true) (h0 : 0 ≤ v) (hv : v ≤ max (S k) 1) : shB (wiF S (k : Nat) v) q = true := by
  obtain ⟨h8, hax⟩ := sh_ax h
  obtain ⟨h1, h2⟩ := ax_iff.1 hax
  unfold shB
  rw [decide_eq_true h8, Bool.true_and]
  refine ax_iff.2 ⟨fun j hj => ?_, ?_⟩
  · unfold wiF
    split
    · exact h0
    · exact h1 j hj
  · have e1 := rm_cut (f := wiF S (k : Nat) v) hk
    have e2 := rm_cut (f := S) hk
    obtain ⟨c1, c2⟩ := shf_congr (f := wiF S (k : Nat) v) (f' := S) (fun j _ hj => wi_off v hj) hk
    rw [wi_at, rm_congr c1, rm_congr c2] at e1
    have p1 := rm_pos S k
    have p2 := rm_pos (shf S (k + 1)) (q - (k + 1))
    have h3 : max v 1 ≤ max (S k) 1 := by omega
    have h4 : rm S k * max v 1 ≤ rm S k * max (S k) 1 := Int.mul_le_mul_of_nonneg_left h3 (by omega)
    have h5 : rm S k * max v 1 * rm (shf S (k + 1)) (q - (k + 1)) ≤ rm S k * max (S k) 1 * rm (shf S (k + 1)) (q - (k + 1)) := Int.mul_le_mul_of_nonneg_right h4 (by omega)
    omega
/-- How many elements there are, cut at the axis along which two arrays are joined. -/
theorem wv_len {T x y : Nat → Int} {r k : Nat} {n m N1 N2 : Nat} (hk : k < r) (hTk : T k = ((n + m : Nat) : Int)) (hxk : x k = n) (hyk : y k = m) (hx : ∀ a, a < r → a ≠ k → x a = T a) (hy : ∀ a, a < r → a ≠ k → y a = T a) (h0 : ∀ a, a < k → 0 ≤ T a)
    (hN1 : (N1 : Int) = n * stF T r k) (hN2 : (N2 : Int) = m * stF T r k) :
    ∃ B : Nat, itm x k = B ∧ itm y k = B ∧ itm x r = ((B * N1 : Nat) : Int) ∧ itm y r = ((B * N2 : Nat) : Int) ∧ itm T r = ((B * (N1 + N2) : Nat) : Int) := by
  obtain ⟨c1, c2⟩ := shf_congr hx hk
  obtain ⟨d1, d2⟩ := shf_congr hy hk
  have hp : ∀ {q : Nat}, (∀ a, a < q → 0 ≤ T a) → 0 ≤ itm T q := by
    intro q
    induction q with
    | zero => intro _; show (0 : Int) ≤ 1; decide
    | succ q ih => intro h; exact Int.mul_nonneg (ih (fun a ha => h a (by omega))) (h q (by omega))
  obtain ⟨B, hB⟩ : ∃ B : Nat, itm T k = B := ⟨(itm T k).toNat, by have := hp h0; omega⟩
  have sx : stF x r k = stF T r k := itm_congr c2
  have sy : stF y r k = stF T r k := itm_congr d2
  refine ⟨B, (itm_congr c1).trans hB, (itm_congr d1).trans hB, ?_, ?_, ?_⟩
  · rw [itm_cut hk, itm_congr c1, hB, hxk, sx, Int.mul_assoc, ← hN1]; push_cast; rfl
  · rw [itm_cut hk, itm_congr d1, hB, hyk, sy, Int.mul_assoc, ← hN2]; push_cast; rfl
  · rw [itm_cut hk, hB, hTk, Int.mul_assoc]
    push_cast
    rw [Int.add_mul, ← hN1, ← hN2]
/-- How long the axis is along which an array is joined, the error of one that doesn't fit, and where its elements come from. -/
def exN (r : Nat) (S : Nat → Int) (q k : Nat) : Int := if r = q then S k else 1
def exE (r : Nat) (S : Nat → Int) (q : Nat) (s : Nat → Int) (k : Nat) : Int :=
  if r = 0 then 0 else if r + 1 = q then (if neB (insF S k 1) s k q then 0 else 24) else if r = q then (if neB S s k q then 0 else 24) else 23
def exG (r : Nat) : Nat → Int := fun j => if r = 0 then 0 else (j : Int)
def exS (r : Nat) (S : Nat → Int) (q : Nat) (s : Nat → Int) (k : Nat) : Nat → Int := wiF s (k : Nat) (exN r S q k)
theorem exG_in (r M : Nat) (hM : M ≤ 1000000) : In64 (exG r) M := fun j hj => by unfold exG; split <;> omega
/-- The shape that an array counts as. -/
theorem ex_sh {r q k : Nat} {S s : Nat → Int} (hk : k < q) (hs : shB s q = true) (h : shB S r = true) (hE : exE r S q s k = 0) : shB (exS r S q s k) q = true ∧ 0 ≤ exN r S q k ∧ exN r S q k ≤ 4096 ∧ (r ≠ 0 → itm (exS r S q s k) q = itm S r) := by
  unfold exE at hE
  unfold exS exN
  by_cases h0 : r = 0
  · rw [if_neg (by omega)]
    exact ⟨wi_sh hk hs (by decide) (by omega), by decide, by decide, fun e => absurd h0 e⟩
  · rw [if_neg h0] at hE
    by_cases h1 : r + 1 = q
    · rw [if_neg (by omega)]
      rw [if_pos h1] at hE
      have hn : neB (insF S k 1) s k q = true := by
        cases e : neB (insF S k 1) s k q with
        | true => rfl
        | false => rw [e] at hE; cases hE
      have hi := neB_iff.1 hn
      have e : ∀ j, j < q → insF S k 1 j = wiF s (k : Nat) 1 j := fun j hj => by
        by_cases e : j = k
        · subst e; rw [ins_at, wi_at]
        · rw [wi_off _ e]; exact hi j hj e
      subst h1
      have h8 := (sh_ax hs).1
      refine ⟨by rw [← sh_congr0 e]; exact ins_sh (by omega) h8 h, by decide, by decide, fun _ => by rw [← itm_congr e]; exact (ins_rm (by omega)).2⟩
    · rw [if_neg h1] at hE
      by_cases h2 : r = q
      · rw [if_pos h2] at hE ⊢
        have hn : neB S s k q = true := by
          cases e : neB S s k q with
          | true => rfl
          | false => rw [e] at hE; cases hE
        have hi := neB_iff.1 hn
        have e : ∀ j, j < q → S j = wiF s (k : Nat) (S k) j := fun j hj => by
          by_cases e : j = k
          · subst e; rw [wi_at]
          · rw [wi_off _ e]; exact hi j hj e
        subst h2
        have := ax_le4 h hk
        exact ⟨by rw [← sh_congr0 e]; exact h, this.1, this.2, fun _ => (itm_congr e).symm⟩
      · rw [if_neg h2] at hE
        cases hE
end Go.Proofs.YtifnamlgkooacaaGreatDoor

namespace Go.Proofs.YtifnamlgkooacaaGreatDoor
open Go.RowKit
/-- Part of a row, as slicing makes it. -/
theorem KRow.part {w : World} {ki : IntKind} {a : Option Addr} {n c : Nat} {f : Nat → Int} (h : KRow w ki a n c f) {l m : Nat} (hm : l + m ≤ n) : KRow w ki (if c = l then a else a.map (·.add (l * 1))) m (c - l) (shf f l) := by
  have h1 := h.1
  have h2 := h.2.1
  rcases Nat.eq_zero_or_pos m with h0 | h0
  · subst h0
    exact ⟨Nat.zero_le _, by omega, .inl rfl⟩
  · rw [if_neg (by omega)]
    rcases h.2.2 with h3 | ⟨b, off, rfl, hb, hc⟩
    · omega
    · refine ⟨by omega, by omega, .inr ⟨b, off + l, by simp [Addr.add], hb, fun j hj => ?_⟩⟩
      rw [show off + l + j = off + (l + j) by omega]
      exact hc (l + j) (by omega)
theorem RRow.part {w : World} {a : Option Addr} {n c : Nat} {fP : Nat → Int} {fQ : Nat → Nat} (h : RRow w a n c fP fQ) {l m : Nat} (hm : l + m ≤ n) : RRow w (if c = l then a else a.map (·.add (l * 3))) m (c - l) (shf fP l) (fun j => fQ (l + j)) := by
  have h1 := h.1
  have h2 := h.2.1
  rcases Nat.eq_zero_or_pos m with h0 | h0
  · subst h0
    exact ⟨Nat.zero_le _, by omega, .inl rfl⟩
  · rw [if_neg (by omega)]
    rcases h.2.2 with h3 | ⟨b, off, rfl, hb, hc⟩
    · omega
    · refine ⟨by omega, by omega, .inr ⟨b, off + l * 3, by simp [Addr.add], hb, fun j hj => ?_⟩⟩
      obtain ⟨a', n', c', m', a2', n2', c2', e1, e2, e3, e4⟩ := hc (l + j) (by omega)
      refine ⟨a', n', c', m', a2', n2', c2', ?_, ?_, ?_, e4⟩
      · rw [show off + l * 3 + j * 3 = off + (l + j) * 3 by omega]; exact e1
      · rw [show off + l * 3 + j * 3 + 1 = off + (l + j) * 3 + 1 by omega]; exact e2
      · rw [show off + l * 3 + j * 3 + 2 = off + (l + j) * 3 + 2 by omega]; exact e3
/-- A row of characters that the call makes and that grows. -/
def OwnC (y0 w : World) (a : Option Addr) (k c : Nat) (f : Nat → Int) : Prop := Below y0.heap.size y0 w ∧ w.ownsRow y0.heap.size 21 1 (.slice a k c) k (kcs .i32 f k)
theorem OwnC.krow {y0 w : World} {a : Option Addr} {k c : Nat} {f : Nat → Int} (h : OwnC y0 w a k c f) : KRow w .i32 a k c f := by
  obtain ⟨a', c', e, q⟩ := KRow.of_own h.2
  cases e
  exact q
theorem OwnC.go {y0 w w' : World} {a : Option Addr} {k c : Nat} {f : Nat → Int} (h : OwnC y0 w a k c f) (hb : Below w.heap.size w w') : OwnC y0 w' a k c f := ⟨h.1.trans (hb.mono h.1.size), own_below h.2 hb⟩
theorem append_none1 {P : Program} {w : World} (base : Nat) (t e : TypeId) (i : TypeInfo) (size : Nat) (ht : P.underlying t = some (.slice e)) (hi : P.info? e = some i) (v : Value) (n : Nat) (xs : List Value) (c : Nat) (hown : w.ownsRow base e size v n xs) : (Builtin.append_ #[t, t] t #[v, .slice none 0 c]).run P w = .ok v w := by
  rcases hown.2 with ⟨rfl, rfl⟩ | ⟨g, cap, cur, rfl, _, _, hnc, _⟩
  · simp [Builtin.append_, run_underlying ht, sizeOf, typeInfo, hi, Builtin.lenOf, Builtin.firstCells]
  · simp [Builtin.append_, run_underlying ht, sizeOf, typeInfo, hi, Builtin.lenOf, Builtin.firstCells, hnc, storeCells]
theorem kcs_app1 (ki : IntKind) {F f g : Nat → Int} {k : Nat} (h1 : ∀ j, j < k → F j = f j) {m : Nat} (h2 : ∀ j, j < m → F (k + j) = g j) : kcs ki f k ++ kcs ki g m = kcs ki F (k + m) := by
  rw [← kcs_app]
  refine kcs_congr fun j hj => ?_
  unfold app
  by_cases e : j < k
  · rw [if_pos e, h1 j e]
  · rw [if_neg e, ← h2 (j - k) (by omega)]; congr 1; omega
theorem ownC_more {y0 wr : World} {a a2 : Option Addr} {k c m c2 N : Nat} {f g F : Nat → Int} (h : OwnC y0 wr a k c f) (h2 : KRow y0 .i32 a2 m c2 g) (hN : k + m = N) (hm : N ≤ 1000000) (e1 : ∀ j, j < k → F j = f j) (e2 : ∀ j, j < m → F (k + j) = g j) :
    ∃ a' c' y1, (Builtin.append_ #[23, 23] 23 #[.slice a k c, .slice a2 m c2]).run Tryz.prog wr = .ok (.slice a' N c') y1 ∧ OwnC y0 y1 a' N c' F := by
  obtain ⟨i0, hi, hz0, hz1, hz2⟩ := info_parts infoC
  have hs0 := h.1.size
  have ek := kcs_app1 .i32 e1 e2
  subst hN
  cases a2 with
  | none =>
    have hm : m = 0 := by
      rcases h2.2.2 with h | ⟨_, _, h, _⟩
      · exact h
      · cases h
    subst hm
    have ho := h.2
    rw [show kcs .i32 g 0 = [] from rfl, List.append_nil] at ek
    rw [ek] at ho
    exact ⟨_, _, _, append_none1 y0.heap.size _ 21 i0 1 Tryz.underlying23 hi _ _ _ c2 ho, h.1, ho⟩
  | some ad =>
    obtain ⟨b9, off9, sp⟩ := ad
    have h3 := h2.below h.1
    have hnews : ∀ i u, (kcs .i32 g m)[i]? = some u → wr.cell? ((⟨b9, off9, sp⟩ : Addr).add i) = some u := by
      rcases h3.2.2 with h0 | ⟨_, _, e, _⟩
      · rw [h0]; intro i u hu; simp [kcs] at hu
      · cases e; exact krow_news h3
    obtain ⟨v', w', r1, r2, r3, _⟩ := run_append_own (P := Tryz.prog) wr y0.heap.size 23 23 21 i0 _ 1 4 Tryz.underlying23 hi hz0 hz1 hz2 rfl (by omega) _ k _ h.2 ⟨b9, off9, sp⟩ m c2 (kcs .i32 g m) (by rw [kcs_length, Nat.mul_one]) hnews (kcs_one .i32 g m) (by unfold maxLen; omega) (by omega) hs0
    rw [ek] at r2
    obtain ⟨a', c', rfl, _⟩ := KRow.of_own r2
    exact ⟨a', c', w', r1, h.1.grown r3 (by omega) (fun q hq => (h.2.lt q hq).1), r2⟩
/-- A row of numbers that the call makes and that grows: what its numbers are made of lay there before. -/
def OwnR (y0 w : World) (a : Option Addr) (k c : Nat) (fP : Nat → Int) (fQ : Nat → Nat) : Prop := Below y0.heap.size y0 w ∧ ∃ xs, w.ownsRow y0.heap.size 77 3 (.slice a k c) k xs ∧
  ∀ j, j < k → ∃ a' n' c' m' a2' n2' c2', xs[j * 3]? = some (.slice a' n' c') ∧ xs[j * 3 + 1]? = some (.bool m') ∧ xs[j * 3 + 2]? = some (.slice a2' n2' c2') ∧ RatAt y0 a' n' c' m' a2' n2' c2' (fP j) (fQ j)
theorem OwnR.go {y0 w w' : World} {a : Option Addr} {k c : Nat} {fP : Nat → Int} {fQ : Nat → Nat} (h : OwnR y0 w a k c fP fQ) (hb : Below w.heap.size w w') : OwnR y0 w' a k c fP fQ := by
  obtain ⟨h1, xs, h2, h3⟩ := h
  exact ⟨h1.trans (hb.mono h1.size), xs, own_below h2 hb, h3⟩
theorem OwnR.rrow {y0 w : World} {a : Option Addr} {k c : Nat} {fP : Nat → Int} {fQ : Nat → Nat} (h : OwnR y0 w a k c fP fQ) : RRow w a k c fP fQ := by
  obtain ⟨hb, xs, h1, h3⟩ := h
  rcases h1.2 with ⟨e, h0⟩ | ⟨g, cap, cur, e, _, hh, l1, l2, _, _⟩
  · cases e
    exact RRow.nought _ _ _ (Nat.zero_le _) _ _
  · cases e
    refine ⟨l1, l2, .inr ⟨g, 0, rfl, Row.lt (t := 77) hh, fun j hj => ?_⟩⟩
    have hc : ∀ i u, xs[i]? = some u → w.cell? ⟨g, 0 + i, none⟩ = some u := fun i u hu => by
      have := h1.cells (g := g) rfl i u hu
      rwa [show (⟨g, 0, none⟩ : Addr).add i = ⟨g, 0 + i, none⟩ by unfold Addr.add; split <;> simp_all] at this
    obtain ⟨a', n', c', m', a2', n2', c2', e1, e2, e3, e4⟩ := h3 j hj
    exact ⟨a', n', c', m', a2', n2', c2', hc _ _ e1, by rw [show 0 + j * 3 + 1 = 0 + (j * 3 + 1) by omega]; exact hc _ _ e2, by rw [show 0 + j * 3 + 2 = 0 + (j * 3 + 2) by omega]; exact hc _ _ e3, e4.below hb⟩
theorem ownR_more {y0 wr : World} {a a2 : Option Addr} {k c m c2 N : Nat} {f g F : Nat → Int} {f' g' F' : Nat → Nat} (h : OwnR y0 wr a k c f f') (h2 : RRow y0 a2 m c2 g g') (hN : k + m = N) (hm : N ≤ 1000000) (e1 : ∀ j, j < k → F j = f j ∧ F' j = f' j) (e2 : ∀ j, j < m → F (k + j) = g j ∧ F' (k + j) = g' j) :
    ∃ a' c' y1, (Builtin.append_ #[30, 30] 30 #[.slice a k c, .slice a2 m c2]).run Tryz.prog wr = .ok (.slice a' N c') y1 ∧ OwnR y0 y1 a' N c' F F' := by
  obtain ⟨i0, hi, hz0, hz1, hz2⟩ := info_parts infoR
  obtain ⟨hb, xs, ho, hx⟩ := h
  have hs0 := hb.size
  have hex : ∃ news : List Value, news.length = m * 3 ∧ (∀ ad, a2 = some ad → ∀ j u, news[j]? = some u → wr.cell? (ad.add j) = some u) ∧ (∀ u ∈ news, u.oneCell' = true) ∧
      ∀ j, j < m → ∃ a' n' c' m' a2' n2' c2', news[j * 3]? = some (.slice a' n' c') ∧ news[j * 3 + 1]? = some (.bool m') ∧ news[j * 3 + 2]? = some (.slice a2' n2' c2') ∧ RatAt y0 a' n' c' m' a2' n2' c2' (g j) (g' j) := by
    rcases h2.2.2 with h0 | ⟨b, off, he, hbb, hc⟩
    · subst h0
      exact ⟨[], rfl, fun ad _ j u hu => by simp at hu, fun u hu => by simp at hu, fun j hj => by omega⟩
    · have hs : ∀ i, i < m * 3 → ∃ u, y0.cell? ⟨b, off + i, none⟩ = some u ∧ u.oneCell' = true := three (p := fun i => ∃ u, y0.cell? ⟨b, off + i, none⟩ = some u ∧ u.oneCell' = true) fun j hj => by
        obtain ⟨a', n', c', m', a2', n2', c2', e1, e2, e3, _⟩ := hc j hj
        exact ⟨⟨_, e1, rfl⟩, ⟨_, e2, rfl⟩, ⟨_, e3, rfl⟩⟩
      have hs' : ∀ i, i < m * 3 → (y0.cell? ⟨b, off + i, none⟩).isSome = true := fun i hi => by obtain ⟨u, hu, _⟩ := hs i hi; rw [hu]; rfl
      refine ⟨lies y0 b off (m * 3), lies_length _ _ _ _, fun ad e j u hu => ?_, fun u hu => ?_, fun j hj => ?_⟩
      · rw [he] at e
        obtain rfl := Option.some.inj e
        rw [show (⟨b, off, none⟩ : Addr).add j = ⟨b, off + j, none⟩ by simp [Addr.add], hb.cell (p := ⟨b, off + j, none⟩) hbb]
        exact lies_get hu hs'
      · obtain ⟨j, hj⟩ := List.getElem?_of_mem hu
        have hl := (List.getElem?_eq_some_iff.1 hj).1
        rw [lies_length] at hl
        obtain ⟨v, hv, h1⟩ := hs j hl
        have := lies_get hj hs'
        rw [hv] at this
        obtain rfl := Option.some.inj this
        exact h1
      · obtain ⟨a', n', c', m', a2', n2', c2', e1, e2, e3, hr⟩ := hc j hj
        exact ⟨a', n', c', m', a2', n2', c2', lies_at (by omega) e1, lies_at (by omega) e2, lies_at (by omega) e3, hr⟩
  obtain ⟨news, hl, hcell, hone, hrat⟩ := hex
  have hlx := ho.1
  have hall : ∀ j, j < k + m → ∃ a' n' c' m' a2' n2' c2', (xs ++ news)[j * 3]? = some (.slice a' n' c') ∧ (xs ++ news)[j * 3 + 1]? = some (.bool m') ∧ (xs ++ news)[j * 3 + 2]? = some (.slice a2' n2' c2') ∧ RatAt y0 a' n' c' m' a2' n2' c2' (F j) (F' j) := fun j hj => by
    by_cases e : j < k
    · obtain ⟨a', n', c', m', a2', n2', c2', q1, q2, q3, q4⟩ := hx j e
      rw [(e1 j e).1, (e1 j e).2]
      exact ⟨a', n', c', m', a2', n2', c2', by rw [List.getElem?_append_left (by omega)]; exact q1, by rw [List.getElem?_append_left (by omega)]; exact q2, by rw [List.getElem?_append_left (by omega)]; exact q3, q4⟩
    · obtain ⟨t, rfl⟩ : ∃ t, j = k + t := ⟨j - k, by omega⟩
      have ht : t < m := by omega
      obtain ⟨a', n', c', m', a2', n2', c2', q1, q2, q3, q4⟩ := hrat t ht
      rw [(e2 t ht).1, (e2 t ht).2]
      refine ⟨a', n', c', m', a2', n2', c2', ?_, ?_, ?_, q4⟩
      · rw [List.getElem?_append_right (by omega), show (k + t) * 3 - xs.length = t * 3 by omega]; exact q1
      · rw [List.getElem?_append_right (by omega), show (k + t) * 3 + 1 - xs.length = t * 3 + 1 by omega]; exact q2
      · rw [List.getElem?_append_right (by omega), show (k + t) * 3 + 2 - xs.length = t * 3 + 2 by omega]; exact q3
  subst hN
  cases a2 with
  | none =>
    have hm : m = 0 := by
      rcases h2.2.2 with h | ⟨_, _, h, _⟩
      · exact h
      · cases h
    subst hm
    have hnil : news = [] := List.length_eq_zero_iff.1 (by omega)
    subst hnil
    rw [List.append_nil] at hall
    exact ⟨_, _, _, append_none1 y0.heap.size _ 77 i0 3 Tryz.underlying30 hi _ _ _ c2 ho, hb, xs, ho, hall⟩
  | some ad =>
    obtain ⟨v', w', r1, r2, r3, _⟩ := run_append_own (P := Tryz.prog) wr y0.heap.size 30 30 77 i0 _ 3 56 Tryz.underlying30 hi hz0 hz1 hz2 rfl (by omega) _ k _ ho ad m c2 news hl (hcell ad rfl) hone (by unfold maxLen; omega) (by omega) hs0
    have hv : ∃ a' c', v' = .slice a' (k + m) c' := by
      rcases r2.2 with ⟨rfl, h0⟩ | ⟨g, cap, cur, rfl, _⟩
      · exact ⟨none, 0, by rw [h0]⟩
      · exact ⟨_, _, rfl⟩
    obtain ⟨a', c', rfl⟩ := hv
    exact ⟨a', c', w', r1, hb.grown r3 (by omega) (fun q hq => (ho.lt q hq).1), xs ++ news, r2, hall⟩
end Go.Proofs.YtifnamlgkooacaaGreatDoor

namespace Go.Proofs.YtifnamlgkooacaaGreatDoor
open Go.RowKit
set_option linter.unusedSimpArgs false in
set_option maxHeartbeats 1600000 in
set_option maxRecDepth 100000 in
theorem runCw_any (a : Option Addr) (L c : Nat) (f : Nat → Int) (R N i : Nat) (w0 w : World) (h : KRow w0 .i32 a L c f) (hL : L = R * N) (hi : i < R) (hm : L ≤ 1000000) (hR : R ≤ 1000000) :
    Calls Tryz.prog 96 #[.slice a L c, .int .i64 (R : Nat), .int .i64 (i : Nat)] w fun e w' => ∃ a' c', e = .returned (.slice a' N c') ∧ KRow w0 .i32 a' N c' (shf f (i * N)) ∧ w = w' := by
  have hlen := h.len
  have hcm := h.2.1
  unfold maxLen at hcm
  have hm1 : (i + 1) * N ≤ R * N := Nat.mul_le_mul_right _ hi
  have hm2 : (i + 1) * N = i * N + N := by rw [Nat.add_mul, Nat.one_mul]
  have hN : N ≤ 1000000 := by
    have : 1 * N ≤ R * N := Nat.mul_le_mul_right _ (by omega)
    omega
  obtain ⟨X, hX⟩ : ∃ X, i * N = X := ⟨_, rfl⟩
  rw [hX]
  have HP := Lib.hid (KRow.part h (l := X) (m := N) (by omega))
  have HP : Hid (KRow w0 .i32 (if c = X then a else a.map (·.add (X * 1))) N (c - X) (shf f (X))) := HP
  have eX : ((i : Nat) : Int) * ((N : Nat) : Int) = ((X : Nat) : Int) := by rw [← hX]; push_cast; rfl
  have eZ : (((i : Nat) : Int) + 1) * ((N : Nat) : Int) = ((X + N : Nat) : Int) := by rw [show X + N = (i + 1) * N by omega]; push_cast; rfl
  have eD : Int.tdiv ((L : Nat) : Int) ((R : Nat) : Int) = ((N : Nat) : Int) := by
    rw [hL]
    show (((R * N) / R : Nat) : Int) = _
    rw [Nat.mul_div_cancel_left _ (by omega)]
  have eD2 : ((L : Nat) : Int) / ((R : Nat) : Int) = ((N : Nat) : Int) := by
    rw [hL]
    have : ((R * N / R : Nat) : Int) = ((R * N : Nat) : Int) / ((R : Nat) : Int) := by push_cast; rfl
    rw [← this, Nat.mul_div_cancel_left _ (by omega)]
  have n0 : R ≠ 0 := by omega
  have s0 : ((R : Nat) : Int) ≠ 0 := by omega
  have w1 := IntWalk.i64_in ((N : Nat) : Int) (by omega)
  have w2 := IntWalk.i64_in ((X : Nat) : Int) (by omega)
  have w3 := IntWalk.i64_in ((i : Int) + 1) (by omega)
  have w4 := IntWalk.i64_in (((X + N : Nat)) : Int) (by omega)
  have q0 : ((X + N : Nat) : Int).toNat = X + N := rfl
  have q1 : X + N - X = N := by omega
  have d1 : (0 : Int) ≤ ((X : Nat) : Int) := by omega
  have d2 : ((X : Nat) : Int) ≤ ((X + N : Nat) : Int) := by omega
  have d3 : ((X + N : Nat) : Int) ≤ c := by omega
  have d4 : ¬ (((X + N : Nat) : Int) < ((X : Nat) : Int)) := by omega
  have d5 : ¬ ((c : Int) < ((X + N : Nat) : Int)) := by omega
  have HS : ∀ wz, (Instr.slice 23 (.slice a L c) (some (.int .i64 ((X : Nat) : Int))) (some (.int .i64 ((X + N : Nat) : Int))) none).run Tryz.prog wz = .ok (.slice (if c = X then a else a.map (·.add (X * 1))) N (c - X)) wz := fun wz => by
    obtain ⟨i0, hi, hz0, hz1, hz2⟩ := info_parts infoC
    have ht : Tryz.prog.underlying 23 = some (.slice (Tryz.prog.elem 23)) := by kernel_rfl
    rw [run_slice_lh wz 23 a L c ht .i64 .i64 _ _ d1 d2 d3]
    have he : Tryz.prog.elem 23 = 21 := by kernel_rfl
    simp [sizeOf, typeInfo, he, hi, hz1, Result.andThen, sliced] <;> omega
  obtain ⟨A', hA'⟩ : ∃ x, (if c = X then a else a.map (·.add (X * 1))) = x := ⟨_, rfl⟩
  rw [hA'] at HP
  simp only [hA'] at HS
  generalize X + N = XN at *
  clear h hm1 hm2 hN hL hi hX hA' hcm q0 q1
  go_enter Tryz.func96, Tryz.ntmps96
  go_wp2

  go_ret
  exact ⟨_, _, rfl, HP.out, rfl⟩
set_option linter.unusedVariables false in
set_option maxHeartbeats 1600000 in
set_option maxRecDepth 100000 in
theorem wovenC_any (a : Option Addr) (L c : Nat) (f : Nat → Int) (b : Option Addr) (M d : Nat) (g : Nat → Int) (R N1 N2 : Nat) (w : World) (h : KRow w .i32 a L c f) (h2 : KRow w .i32 b M d g) (hL : L = R * N1) (hM : M = R * N2) (hm : L ≤ 400000) (hm2 : M ≤ 400000) (hR : R ≤ 1000000) :
    Calls Tryz.prog 58 #[.slice a L c, .slice b M d, .int .i64 (R : Nat)] w fun e w' => ∃ a' c', e = .returned (.slice a' (L + M) c') ∧ KRow w' .i32 a' (L + M) c' (wvF N1 N2 f g) ∧ Below w.heap.size w w' := by
  obtain ⟨LM, hLM⟩ : ∃ x, L + M = x := ⟨_, rfl⟩
  rw [hLM]
  obtain ⟨i0, hi, hz0, hz1, hz2⟩ := info_parts infoC
  have hl1 := h.len
  have hl2 := h2.len
  have hmk := fun wz => run_make (P := Tryz.prog) wz 23 21 i0 _ Tryz.underlying23 hi hz0 .i64 .i64 0 ((LM : Nat) : Int) (by omega) (by omega) (by rw [hz2]; omega) (by omega)
  simp only [Int.toNat_natCast, hz1, Int.toNat_zero, Nat.mul_one] at hmk
  have eLM : ((L : Nat) : Int) + ((M : Nat) : Int) = ((LM : Nat) : Int) := by rw [← hLM]; push_cast; rfl
  have w1 := IntWalk.i64_in ((LM : Nat) : Int) (by omega)
  have hRM : R * (N1 + N2) = LM := by rw [← hLM, Nat.mul_add, hL, hM]
  have hbz : Below w.heap.size w (w.alloc (.cells (madeCells (Value.cells (.int .i32 0)) (LM)) 21)) := (Below.refl _ _).alloc (Nat.le_refl _) _
  have HO : Hid (OwnC w (w.alloc (.cells (madeCells (Value.cells (.int .i32 0)) (LM)) 21)) (some ⟨w.heap.size, 0, none⟩) 0 LM (wvF N1 N2 f g)) := Lib.hid (by
    have ho : (w.alloc (.cells (madeCells (Value.cells (.int .i32 0)) (LM)) 21)).ownsRow w.heap.size 21 1 (.slice (some ⟨w.heap.size, 0, none⟩) 0 LM) 0 [] := ⟨rfl, .inr ⟨w.heap.size, LM, _, rfl, Nat.le_refl _, heap_alloc_new w _, Nat.zero_le _, by unfold maxLen; omega, by simp [madeCells, Value.cells], by simp⟩⟩
    exact ⟨hbz, ho⟩)
  have H1 : Hid (∀ i wz, i < R → Below w.heap.size w wz → Calls Tryz.prog 96 #[.slice a L c, .int .i64 (R : Nat), .int .i64 (i : Nat)] wz fun e w' => ∃ a' c', e = .returned (.slice a' N1 c') ∧ KRow w .i32 a' N1 c' (shf f (i * N1)) ∧ wz = w') := Lib.hid (fun i wz hi _ => runCw_any a L c f R N1 i w wz h hL hi (by omega) hR)
  have H2 : Hid (∀ i wz, i < R → Below w.heap.size w wz → Calls Tryz.prog 96 #[.slice b M d, .int .i64 (R : Nat), .int .i64 (i : Nat)] wz fun e w' => ∃ a' c', e = .returned (.slice a' N2 c') ∧ KRow w .i32 a' N2 c' (shf g (i * N2)) ∧ wz = w') := Lib.hid (fun i wz hi _ => runCw_any b M d g R N2 i w wz h2 hM hi (by omega) hR)
  have HB : Hid (∀ i, i < R → i * (N1 + N2) + N1 ≤ 900000 ∧ i * (N1 + N2) + N1 + N2 = (i + 1) * (N1 + N2) ∧ (i + 1) * (N1 + N2) ≤ 900000) := Lib.hid (fun i hi => by
    have h1 : (i + 1) * (N1 + N2) ≤ R * (N1 + N2) := Nat.mul_le_mul_right _ hi
    have h2 : (i + 1) * (N1 + N2) = i * (N1 + N2) + (N1 + N2) := by rw [Nat.add_mul, Nat.one_mul]
    omega)
  clear h h2 hi hz0 hz1 hz2 hbz hL hM hLM
  go_enter Tryz.func58, Tryz.ntmps58
  go_wp2_with fail
  go_loopw [7, 8, 16] (fun s ii jj wr => ∃ (j : Nat) (a : Option Addr) (c : Nat), j ≤ R ∧ s = .slice a (j * (N1 + N2)) c ∧ jj = .int .i64 j ∧ (∃ v, v = ii) ∧ Hid (OwnC w wr a (j * (N1 + N2)) c (wvF N1 N2 f g))) (fun _ _ jj _ => R - (intOf jj).toNat)
  case atStart => exact ⟨0, _, _, by omega, by rw [Nat.zero_mul], rfl, ⟨_, rfl⟩, by rw [Nat.zero_mul]; exact HO⟩
  case round =>
    obtain ⟨j, a', c', hj, rfl, rfl, ⟨v8, rfl⟩, ho⟩ := hrel
    by_cases hlt : j < R
    · have hj0 : (0 : Int) ≤ j := by omega
      have hj1 : (j : Int) < R := by omega
      obtain ⟨hb1, hb2, hb3⟩ := HB.out j hlt
      have hbo := ho.out.1
      go_wp2_with fail
      go_at_call 96
      (with_reducible refine (H1.out j _ hlt hbo).mono ?_)
      rintro e w5 ⟨a5, c5, rfl, hk5, rfl⟩
      obtain ⟨a6, c6, y6, hr6, ho6⟩ := ownC_more ho.out hk5 (N := j * (N1 + N2) + N1) rfl (by omega) (fun _ _ => rfl) (fun j hj => wv_one hj)
      have HO6 := Lib.hid ho6
      have hbo := ho6.1
      clear ho6 hk5 ho
      go_wp2_with (at_builtin; refine Lib.wpList_append_run _ rfl _ _ _ _ rfl _ _ rfl rfl _ _ hr6 ?_)
      go_at_call 96
      (with_reducible refine (H2.out j _ hlt hbo).mono ?_)
      rintro e w7 ⟨a7, c7, rfl, hk7, rfl⟩
      obtain ⟨a8, c8, y8, hr8, ho8⟩ := ownC_more HO6.out hk7 (N := (j + 1) * (N1 + N2)) hb2 (by omega) (fun _ _ => rfl) (fun j hj => by rw [Nat.add_assoc]; exact wv_two hj)
      have HO8 := Lib.hid ho8
      clear ho8 hk7 HO6 hr6
      go_wp2_with (at_builtin; refine Lib.wpList_append_run _ rfl _ _ _ _ rfl _ _ rfl rfl _ _ hr8 ?_)
      go_roundw
      case rel => exact ⟨j + 1, a8, c8, by omega, rfl, by go_num, ⟨_, rfl⟩, HO8⟩
      case measure => simp [intOf]; omega
    · obtain rfl : j = R := by omega
      rw [hRM] at ho ⊢
      have HE := Lib.hid (And.intro ho.out.krow ho.out.1)
      clear ho
      go_wp2
      go_ret
      exact ⟨_, _, rfl, HE.out⟩
set_option linter.unusedSimpArgs false in
set_option maxHeartbeats 1600000 in
set_option maxRecDepth 100000 in
theorem runRw_any (a : Option Addr) (L c : Nat) (f : Nat → Int) (f2 : Nat → Nat) (R N i : Nat) (w0 w : World) (h : RRow w0 a L c f f2) (hL : L = R * N) (hi : i < R) (hm : L ≤ 1000000) (hR : R ≤ 1000000) :
    Calls Tryz.prog 97 #[.slice a L c, .int .i64 (R : Nat), .int .i64 (i : Nat)] w fun e w' => ∃ a' c', e = .returned (.slice a' N c') ∧ RRow w0 a' N c' (shf f (i * N)) (fun j => f2 (i * N + j)) ∧ w = w' := by
  have hlen := h.len
  have hcm := h.2.1
  unfold maxLen at hcm
  have hm1 : (i + 1) * N ≤ R * N := Nat.mul_le_mul_right _ hi
  have hm2 : (i + 1) * N = i * N + N := by rw [Nat.add_mul, Nat.one_mul]
  have hN : N ≤ 1000000 := by
    have : 1 * N ≤ R * N := Nat.mul_le_mul_right _ (by omega)
    omega
  obtain ⟨X, hX⟩ : ∃ X, i * N = X := ⟨_, rfl⟩
  rw [hX]
  have HP := Lib.hid (RRow.part h (l := X) (m := N) (by omega))
  have HP : Hid (RRow w0 (if c = X then a else a.map (·.add (X * 3))) N (c - X) (shf f (X)) (fun j => f2 (X + j))) := HP
  have eX : ((i : Nat) : Int) * ((N : Nat) : Int) = ((X : Nat) : Int) := by rw [← hX]; push_cast; rfl
  have eZ : (((i : Nat) : Int) + 1) * ((N : Nat) : Int) = ((X + N : Nat) : Int) := by rw [show X + N = (i + 1) * N by omega]; push_cast; rfl
  have eD : Int.tdiv ((L : Nat) : Int) ((R : Nat) : Int) = ((N : Nat) : Int) := by
    rw [hL]
    show (((R * N) / R : Nat) : Int) = _
    rw [Nat.mul_div_cancel_left _ (by omega)]
  have eD2 : ((L : Nat) : Int) / ((R : Nat) : Int) = ((N : Nat) : Int) := by
    rw [hL]
    have : ((R * N / R : Nat) : Int) = ((R * N : Nat) : Int) / ((R : Nat) : Int) := by push_cast; rfl
    rw [← this, Nat.mul_div_cancel_left _ (by omega)]
  have n0 : R ≠ 0 := by omega
  have s0 : ((R : Nat) : Int) ≠ 0 := by omega
  have w1 := IntWalk.i64_in ((N : Nat) : Int) (by omega)
  have w2 := IntWalk.i64_in ((X : Nat) : Int) (by omega)
  have w3 := IntWalk.i64_in ((i : Int) + 1) (by omega)
  have w4 := IntWalk.i64_in (((X + N : Nat)) : Int) (by omega)
  have q0 : ((X + N : Nat) : Int).toNat = X + N := rfl
  have q1 : X + N - X = N := by omega
  have d1 : (0 : Int) ≤ ((X : Nat) : Int) := by omega
  have d2 : ((X : Nat) : Int) ≤ ((X + N : Nat) : Int) := by omega
  have d3 : ((X + N : Nat) : Int) ≤ c := by omega
  have d4 : ¬ (((X + N : Nat) : Int) < ((X : Nat) : Int)) := by omega
  have d5 : ¬ ((c : Int) < ((X + N : Nat) : Int)) := by omega
  have HS : ∀ wz, (Instr.slice 30 (.slice a L c) (some (.int .i64 ((X : Nat) : Int))) (some (.int .i64 ((X + N : Nat) : Int))) none).run Tryz.prog wz = .ok (.slice (if c = X then a else a.map (·.add (X * 3))) N (c - X)) wz := fun wz => by
    obtain ⟨i0, hi, hz0, hz1, hz2⟩ := info_parts infoR
    have ht : Tryz.prog.underlying 30 = some (.slice (Tryz.prog.elem 30)) := by kernel_rfl
    rw [run_slice_lh wz 30 a L c ht .i64 .i64 _ _ d1 d2 d3]
    have he : Tryz.prog.elem 30 = 77 := by kernel_rfl
    simp [sizeOf, typeInfo, he, hi, hz1, Result.andThen, sliced] <;> omega
  obtain ⟨A', hA'⟩ : ∃ x, (if c = X then a else a.map (·.add (X * 3))) = x := ⟨_, rfl⟩
  rw [hA'] at HP
  simp only [hA'] at HS
  generalize X + N = XN at *
  clear h hm1 hm2 hN hL hi hX hA' hcm q0 q1
  go_enter Tryz.func97, Tryz.ntmps97
  go_wp2

  go_ret
  exact ⟨_, _, rfl, HP.out, rfl⟩
set_option linter.unusedVariables false in
set_option maxHeartbeats 1600000 in
set_option maxRecDepth 100000 in
theorem wovenR_any (a : Option Addr) (L c : Nat) (f : Nat → Int) (f2 : Nat → Nat) (b : Option Addr) (M d : Nat) (g : Nat → Int) (g2 : Nat → Nat) (R N1 N2 : Nat) (w : World) (h : RRow w a L c f f2) (h2 : RRow w b M d g g2) (hL : L = R * N1) (hM : M = R * N2) (hm : L ≤ 400000) (hm2 : M ≤ 400000) (hR : R ≤ 1000000) :
    Calls Tryz.prog 60 #[.slice a L c, .slice b M d, .int .i64 (R : Nat)] w fun e w' => ∃ a' c', e = .returned (.slice a' (L + M) c') ∧ RRow w' a' (L + M) c' (wvF N1 N2 f g) (wvF N1 N2 f2 g2) ∧ Below w.heap.size w w' := by
  obtain ⟨LM, hLM⟩ : ∃ x, L + M = x := ⟨_, rfl⟩
  rw [hLM]
  obtain ⟨i0, hi, hz0, hz1, hz2⟩ := info_parts infoR
  have hl1 := h.len
  have hl2 := h2.len
  have hmk := fun wz => run_make (P := Tryz.prog) wz 30 77 i0 _ Tryz.underlying30 hi hz0 .i64 .i64 0 ((LM : Nat) : Int) (by omega) (by omega) (by rw [hz2]; omega) (by omega)
  simp only [Int.toNat_natCast, hz1, Int.toNat_zero] at hmk
  have eLM : ((L : Nat) : Int) + ((M : Nat) : Int) = ((LM : Nat) : Int) := by rw [← hLM]; push_cast; rfl
  have w1 := IntWalk.i64_in ((LM : Nat) : Int) (by omega)
  have hRM : R * (N1 + N2) = LM := by rw [← hLM, Nat.mul_add, hL, hM]
  have hbz : Below w.heap.size w (w.alloc (.cells (madeCells (Value.cells (.agg #[.slice none 0 0, .bool false, .slice none 0 0])) (LM * 3)) 77)) := (Below.refl _ _).alloc (Nat.le_refl _) _
  have HO : Hid (OwnR w (w.alloc (.cells (madeCells (Value.cells (.agg #[.slice none 0 0, .bool false, .slice none 0 0])) (LM * 3)) 77)) (some ⟨w.heap.size, 0, none⟩) 0 LM (wvF N1 N2 f g) (wvF N1 N2 f2 g2)) := Lib.hid (by
    have ho : (w.alloc (.cells (madeCells (Value.cells (.agg #[.slice none 0 0, .bool false, .slice none 0 0])) (LM * 3)) 77)).ownsRow w.heap.size 77 3 (.slice (some ⟨w.heap.size, 0, none⟩) 0 LM) 0 [] := ⟨rfl, .inr ⟨w.heap.size, LM, _, rfl, Nat.le_refl _, heap_alloc_new w _, Nat.zero_le _, by unfold maxLen; omega, by simp [madeCells, Value.cells], by simp⟩⟩
    exact ⟨hbz, [], ho, fun _ h => absurd h (Nat.not_lt_zero _)⟩)
  have H1 : Hid (∀ i wz, i < R → Below w.heap.size w wz → Calls Tryz.prog 97 #[.slice a L c, .int .i64 (R : Nat), .int .i64 (i : Nat)] wz fun e w' => ∃ a' c', e = .returned (.slice a' N1 c') ∧ RRow w a' N1 c' (shf f (i * N1)) (fun j => f2 (i * N1 + j)) ∧ wz = w') := Lib.hid (fun i wz hi _ => runRw_any a L c f f2 R N1 i w wz h hL hi (by omega) hR)
  have H2 : Hid (∀ i wz, i < R → Below w.heap.size w wz → Calls Tryz.prog 97 #[.slice b M d, .int .i64 (R : Nat), .int .i64 (i : Nat)] wz fun e w' => ∃ a' c', e = .returned (.slice a' N2 c') ∧ RRow w a' N2 c' (shf g (i * N2)) (fun j => g2 (i * N2 + j)) ∧ wz = w') := Lib.hid (fun i wz hi _ => runRw_any b M d g g2 R N2 i w wz h2 hM hi (by omega) hR)
  have HB : Hid (∀ i, i < R → i * (N1 + N2) + N1 ≤ 900000 ∧ i * (N1 + N2) + N1 + N2 = (i + 1) * (N1 + N2) ∧ (i + 1) * (N1 + N2) ≤ 900000) := Lib.hid (fun i hi => by
    have h1 : (i + 1) * (N1 + N2) ≤ R * (N1 + N2) := Nat.mul_le_mul_right _ hi
    have h2 : (i + 1) * (N1 + N2) = i * (N1 + N2) + (N1 + N2) := by rw [Nat.add_mul, Nat.one_mul]
    omega)
  clear h h2 hi hz0 hz1 hz2 hbz hL hM hLM
  go_enter Tryz.func60, Tryz.ntmps60
  go_wp2_with fail
  go_loopw [7, 8, 16] (fun s ii jj wr => ∃ (j : Nat) (a : Option Addr) (c : Nat), j ≤ R ∧ s = .slice a (j * (N1 + N2)) c ∧ jj = .int .i64 j ∧ (∃ v, v = ii) ∧ Hid (OwnR w wr a (j * (N1 + N2)) c (wvF N1 N2 f g) (wvF N1 N2 f2 g2))) (fun _ _ jj _ => R - (intOf jj).toNat)
  case atStart => exact ⟨0, _, _, by omega, by rw [Nat.zero_mul], rfl, ⟨_, rfl⟩, by rw [Nat.zero_mul]; exact HO⟩
  case round =>
    obtain ⟨j, a', c', hj, rfl, rfl, ⟨v8, rfl⟩, ho⟩ := hrel
    by_cases hlt : j < R
    · have hj0 : (0 : Int) ≤ j := by omega
      have hj1 : (j : Int) < R := by omega
      obtain ⟨hb1, hb2, hb3⟩ := HB.out j hlt
      have hbo := ho.out.1
      go_wp2_with fail
      go_at_call 97
      (with_reducible refine (H1.out j _ hlt hbo).mono ?_)
      rintro e w5 ⟨a5, c5, rfl, hk5, rfl⟩
      obtain ⟨a6, c6, y6, hr6, ho6⟩ := ownR_more ho.out hk5 (N := j * (N1 + N2) + N1) rfl (by omega) (fun _ _ => ⟨rfl, rfl⟩) (fun j hj => ⟨wv_one hj, wv_one hj⟩)
      have HO6 := Lib.hid ho6
      have hbo := ho6.1
      clear ho6 hk5 ho
      go_wp2_with (at_builtin; refine Lib.wpList_append_run _ rfl _ _ _ _ rfl _ _ rfl rfl _ _ hr6 ?_)
      go_at_call 97
      (with_reducible refine (H2.out j _ hlt hbo).mono ?_)
      rintro e w7 ⟨a7, c7, rfl, hk7, rfl⟩
      obtain ⟨a8, c8, y8, hr8, ho8⟩ := ownR_more HO6.out hk7 (N := (j + 1) * (N1 + N2)) hb2 (by omega) (fun _ _ => ⟨rfl, rfl⟩) (fun j hj => by rw [Nat.add_assoc]; exact ⟨wv_two hj, wv_two hj⟩)
      have HO8 := Lib.hid ho8
      clear ho8 hk7 HO6 hr6
      go_wp2_with (at_builtin; refine Lib.wpList_append_run _ rfl _ _ _ _ rfl _ _ rfl rfl _ _ hr8 ?_)
      go_roundw
      case rel => exact ⟨j + 1, a8, c8, by omega, rfl, by go_num, ⟨_, rfl⟩, HO8⟩
      case measure => simp [intOf]; omega
    · obtain rfl : j = R := by omega
      rw [hRM] at ho ⊢
      have HE := Lib.hid (And.intro ho.out.rrow ho.out.1)
      clear ho
      go_wp2
      go_ret
      exact ⟨_, _, rfl, HE.out⟩
end Go.Proofs.YtifnamlgkooacaaGreatDoor

namespace Go.Proofs.YtifnamlgkooacaaGreatDoor
open Go.RowKit
attribute [local go_sem ↓] Go.wp_at_zero Go.wp_at_succ
theorem NewAt.nil {w w' : World} {a : Option Addr} {n c : Nat} (h : NewAt w w' a n c) : a = none → c = 0 := fun e => by
  rcases h with ⟨_, _, h⟩ | ⟨g, h, _⟩
  · exact h
  · rw [h] at e; cases e
set_option maxHeartbeats 1600000 in
set_option maxRecDepth 100000 in
theorem without_new (a : Option Addr) (n c : Nat) (f : Nat → Int) (k : Nat) (w : World) (h : KRow w .i64 a n c f) (hn : n ≤ 1000000) (hk : k < n) :
    Calls Tryz.prog 53 #[.slice a n c, .int .i64 (k : Nat)] w fun e w' => ∃ a' c', e = .returned (.slice a' (n - 1) c') ∧ KRow w' .i64 a' (n - 1) c' (outF f k) ∧ (a' = none → c' = 0) ∧ Below w.heap.size w w' := by
  have hl := h.len
  have hcm := h.2.1
  unfold maxLen at hcm
  have h0 : (0 : Int) ≤ (k : Nat) := by omega
  have h1 : ((k : Nat) : Int) < n := by omega
  have HA := Lib.hid (has_any a n c (k : Nat) w)
  rw [decide_eq_true h0, decide_eq_true h1] at HA
  obtain ⟨b, off, rfl, hb, _⟩ := h.get hk
  have hw1 := IntWalk.i64_in ((k : Int) + 1) (by omega)
  have CO : Hid (∀ (wz : World) (ad : Option Addr), (ad = some ⟨b, off + (k + 1), none⟩ ∨ (ad ≠ none ∧ n - (k + 1) = 0)) → Below w.heap.size w wz → Row wz w.heap.size 22 #[.slice (some ⟨b, off, none⟩) k c, .slice ad (n - (k + 1)) (c - (k + 1))] → Calls Tryz.prog 92 #[.slice (some ⟨w.heap.size, 0, none⟩) 2 2] wz fun e w' => ∃ a' c', e = .returned (.slice a' (n - 1) c') ∧ KRow w' .i64 a' (n - 1) c' (outF f k) ∧ (a' = none → c' = 0) ∧ Below wz.heap.size wz w') := Lib.hid (fun wz ad hads hbz hrow => by
    have hadn : ad ≠ none := by rcases hads with rfl | ⟨h, _⟩; · simp
                                · exact h
    have k1 := (h.take (show k ≤ n by omega)).below hbz
    have k2 : KRow wz .i64 ad (n - (k + 1)) (c - (k + 1)) (shf f (k + 1)) := by
      rcases hads with rfl | ⟨_, h0⟩
      · exact (h.from (show k + 1 ≤ n by omega)).below hbz
      · rw [h0]; exact KRow.nought _ _ _ _ (by unfold maxLen; omega) _
    have hL := LRow.two hrow k1 k2 (fun e => absurd e (by simp)) (fun e => absurd e hadn)
    have ht : tot (fun j => if j = 0 then k else n - (k + 1)) 2 = n - 1 := by show 0 + k + (n - (k + 1)) = n - 1; omega
    have := concat_any _ 2 2 _ _ _ _ wz hL (by omega) (by rw [ht]; omega)
    rw [ht] at this
    refine this.mono ?_
    rintro e w' ⟨a', c', rfl, hk', hnw, hb'⟩
    refine ⟨a', c', rfl, hk'.congr (fun j hj => ?_), hnw.nil, hb'⟩
    show app (app (fun _ => 0) 0 f) (0 + k) (shf f (k + 1)) j = outF f k j
    unfold app outF shf
    rw [Nat.zero_add]
    by_cases e : j < k
    · rw [if_pos e, if_pos e, if_neg (by omega)]; rfl
    · rw [if_neg e, if_neg e]; congr 1; omega)
  by_cases hck : c = k + 1
  · subst hck
    obtain rfl : n = k + 1 := by omega
    rw [show k + 1 - 1 = k by omega] at CO ⊢
    have CO2 : Hid (Calls Tryz.prog 92 #[.slice (some ⟨w.heap.size, 0, none⟩) 2 2] (w.alloc (.cells #[.slice (some ⟨b, off, none⟩) k (k + 1), .slice (some ⟨b, off, none⟩) 0 0] 22)).drew fun e w' => ∃ a' c', e = .returned (.slice a' k c') ∧ KRow w' .i64 a' k c' (outF f k) ∧ (a' = none → c' = 0) ∧ Below w.heap.size w w') := Lib.hid (by
      have hbz : Below w.heap.size w (w.alloc (.cells #[.slice (some ⟨b, off, none⟩) k (k + 1), .slice (some ⟨b, off, none⟩) 0 0] 22)).drew := ((Below.refl _ _).alloc (Nat.le_refl _) _).drew
      have hrow : Row (w.alloc (.cells #[.slice (some ⟨b, off, none⟩) k (k + 1), .slice (some ⟨b, off, none⟩) 0 0] 22)).drew w.heap.size 22 #[.slice (some ⟨b, off, none⟩) k (k + 1), .slice (some ⟨b, off, none⟩) 0 0] := Row.new w _ _
      refine (CO.out _ (some ⟨b, off, none⟩) (.inr ⟨by simp, by omega⟩) hbz (by rw [show k + 1 - (k + 1) = 0 by omega]; exact hrow)).mono ?_
      rintro e w' ⟨a', c', rfl, hk', hnw, hb'⟩
      exact ⟨a', c', rfl, hk', hnw, hbz.trans (hb'.mono hbz.size)⟩)
    have d1 : ¬ (((k + 1 : Nat) : Int) < k) := by omega
    have d2 : (0 : Int) ≤ k := by omega
    have d3 : ¬ (((k + 1 : Nat) : Int) < (k : Int) + 1) := by omega
    have d4 : (0 : Int) ≤ (k : Int) + 1 := by omega
    have hg : ((k : Int) + 1).toNat = k + 1 := by omega
    clear h
    go_enter Tryz.func53, Tryz.ntmps53
    go_wp2_with fail
    go_at_call 91
    (with_reducible refine (HA.out).mono ?_)
    rintro e w2 ⟨rfl, rfl⟩
    go_wp2_with fail
    go_region_with (go_at_call 92; (refine CO2.out.mono ?_); rintro e w3 ⟨a3, c3, rfl, hq3⟩; have HE := Lib.hid hq3; clear hq3)
    go_wp2
    go_ret
    exact ⟨_, _, rfl, HE.out⟩
  · have CO2 : Hid (Calls Tryz.prog 92 #[.slice (some ⟨w.heap.size, 0, none⟩) 2 2] (w.alloc (.cells #[.slice (some ⟨b, off, none⟩) k c, .slice (some ⟨b, off + (k + 1), none⟩) (n - (k + 1)) (c - (k + 1))] 22)).drew fun e w' => ∃ a' c', e = .returned (.slice a' (n - 1) c') ∧ KRow w' .i64 a' (n - 1) c' (outF f k) ∧ (a' = none → c' = 0) ∧ Below w.heap.size w w') := Lib.hid (by
      have hbz : Below w.heap.size w (w.alloc (.cells #[.slice (some ⟨b, off, none⟩) k c, .slice (some ⟨b, off + (k + 1), none⟩) (n - (k + 1)) (c - (k + 1))] 22)).drew := ((Below.refl _ _).alloc (Nat.le_refl _) _).drew
      have hrow : Row (w.alloc (.cells #[.slice (some ⟨b, off, none⟩) k c, .slice (some ⟨b, off + (k + 1), none⟩) (n - (k + 1)) (c - (k + 1))] 22)).drew w.heap.size 22 #[.slice (some ⟨b, off, none⟩) k c, .slice (some ⟨b, off + (k + 1), none⟩) (n - (k + 1)) (c - (k + 1))] := Row.new w _ _
      refine (CO.out _ _ (.inl rfl) hbz hrow).mono ?_
      rintro e w' ⟨a', c', rfl, hk', hnw, hb'⟩
      exact ⟨a', c', rfl, hk', hnw, hbz.trans (hb'.mono hbz.size)⟩)
    have d1 : ¬ ((c : Int) < k) := by omega
    have d2 : (0 : Int) ≤ k := by omega
    have d3 : ¬ ((n : Int) < (k : Int) + 1) := by omega
    have d4 : (0 : Int) ≤ (k : Int) + 1 := by omega
    have hg : ((k : Int) + 1).toNat = k + 1 := by omega
    clear h
    go_enter Tryz.func53, Tryz.ntmps53
    go_wp2_with fail
    go_at_call 91
    (with_reducible refine (HA.out).mono ?_)
    rintro e w2 ⟨rfl, rfl⟩
    go_wp2_with fail
    go_region_with (go_at_call 92; (refine CO2.out.mono ?_); rintro e w3 ⟨a3, c3, rfl, hq3⟩; have HE := Lib.hid hq3; clear hq3)
    go_wp2
    go_ret
    exact ⟨_, _, rfl, HE.out⟩
/-- A row behind another one and one number between them, as slicing makes them of one row. -/
theorem ins_cat {k q : Nat} {R : Nat → Int} : ∀ j, j < q + 1 → cat (fun j => if j = 0 then k else if j = 1 then 1 else q - k) (fun j => if j = 0 then R else if j = 1 then fun _ => 1 else shf R k) 3 j = insF R k 1 j := fun j hj => by
  show app (app (app (fun _ => 0) 0 R) (0 + k) (fun _ => 1)) (0 + k + 1) (shf R k) j = insF R k 1 j
  unfold app insF shf
  rw [Nat.zero_add]
  by_cases h : j < k
  · rw [if_pos (by omega), if_pos h, if_neg (by omega), if_pos h]; rfl
  · by_cases e : j = k
    · rw [if_pos (by omega), if_neg h, if_neg h, if_pos e]
    · rw [if_neg (by omega), if_neg h, if_neg e]
      congr 1
      omega
theorem made0 {w : World} {n j : Nat} {t : TypeId} {z : Int} (hz : (w.alloc (.cells (madeCells (Value.cells (.int .i64 0)) n) t)).cell? ⟨w.heap.size, j, none⟩ = some (.int .i64 z)) (hj : j < n) : z = 0 := by
  have h := (IBox.made w n t rfl).2.2 j hj
  rw [h] at hz
  cases hz
  rfl
set_option linter.unusedSimpArgs false in
set_option linter.unusedVariables false in
set_option maxHeartbeats 3200000 in
set_option maxRecDepth 100000 in
theorem layer_any (cs : Array Value) (S : Nat → Int) (r : Nat) (ch : Bool) (L : Nat) (g fP : Nat → Int) (fQ : Nat → Nat) (ra : Option Addr) (q rc : Nat) (R : Nat → Int) (k : Nat) (w : World) (h : Arr w cs S r ch L g fP fQ) (hr : r ≤ 8) (hR : KRow w .i64 ra q rc R) (hnil : ra = none → rc = 0) (hk : k ≤ q) (h8 : q + 1 ≤ 8) (hsh : shB R q = true) :
    Calls Tryz.prog 37 #[.agg cs, .slice ra q rc, .int .i64 (k : Nat)] w fun e w' => ∃ cs', e = .returned (.agg cs') ∧ Arr w' cs' (insF R k 1) (q + 1) ch (itm R q).toNat (fun j => elC L g 32 (exG r j)) (fun j => elP L fP (exG r j)) (fun j => elQ L fQ (exG r j)) ∧ Below w.heap.size w w' := by
  obtain ⟨na, nn, nc, ta, tn, tc, hcs, _⟩ := h.form
  subst hcs
  obtain ⟨i0, hi, hz0, hz1, hz2⟩ := info_parts infoI
  have hshi := ins_sh hk h8 hsh
  have hbd := ax_bd (sh_ax hsh).2
  obtain ⟨M, hM⟩ : ∃ M : Nat, itm R q = (M : Nat) := ⟨(itm R q).toNat, by omega⟩
  have hMi : itm (insF R k 1) (q + 1) = (M : Nat) := (ins_rm hk).2.trans hM
  have hM4 : M ≤ 4096 := by omega
  rw [hM, Int.toNat_natCast]
  have hT : In64 (insF R k 1) (q + 1) := fun j hj => by have := ax_le4 hshi hj; omega
  have hmk := fun wz => run_make (P := Tryz.prog) wz 22 3 i0 _ Tryz.underlying22 hi hz0 .i64 .i64 M M (by omega) (by omega) (by rw [hz2]; omega) (by omega)
  simp only [Int.toNat_natCast, hz1, Nat.mul_one] at hmk
  have H := Lib.hid h
  have RK := Lib.hid (fun wz (h : Arr wz (arrC ch ((r : Int) - 1) (dm S r) na nn nc ta tn tc) S r ch L g fP fQ) => rank8_any (arrC ch ((r : Int) - 1) (dm S r) na nn nc ta tn tc) S r ch L g fP fQ wz h (by omega))
  have CN := Lib.hid (fun sa sc wz (h : KRow wz .i64 sa (q + 1) sc (insF R k 1)) => count_any sa (q + 1) sc (insF R k 1) wz h hT)
  unfold CntTold at CN
  have hx : cntI (insF R k 1) (q + 1) = (M : Nat) := by unfold cntI; rw [hshi, if_pos rfl, hMi]
  rw [hshi, hx] at CN
  have PK := Lib.hid (fun sa sc wz pa pc (h : Arr wz (arrC ch ((r : Int) - 1) (dm S r) na nn nc ta tn tc) S r ch L g fP fQ) (h2 : KRow wz .i64 sa (q + 1) sc (insF R k 1)) (h3 : KRow wz .i64 pa M pc (exG r)) => pick8_any (arrC ch ((r : Int) - 1) (dm S r) na nn nc ta tn tc) S r ch L g fP fQ sa (q + 1) sc (insF R k 1) pa M pc (exG r) wz h h2 hT h3 (exG_in r M (by omega)) (by omega))
  rw [hshi, hMi, decide_eq_true rfl, Bool.true_and] at PK
  unfold ArrTold at PK
  have hl := hR.len
  have hcm := hR.2.1
  unfold maxLen at hcm
  have BB := Lib.hid ((((Bag.start w).krow hR).newRow (arrC ch ((r : Int) - 1) (dm S r) na nn nc ta tn tc) 32).newRow zerC 32)
  simp only [World.size_alloc] at BB
  -- rows[:axis] and rows[axis:]
  have k1 := KRow.part hR (l := 0) (m := k) (by omega)
  have k2 := KRow.part hR (l := k) (m := q - k) (by omega)
  have n1 : (if rc = 0 then ra else ra.map (·.add (0 * 1))) = none → rc = 0 := fun e => by
    split at e
    · assumption
    · exact hnil (by cases ra with | none => rfl | some x => cases e)
  have n2 : (if rc = k then ra else ra.map (·.add (k * 1))) = none → rc - k = 0 := fun e => by
    split at e
    · omega
    · have := hnil (by cases ra with | none => rfl | some x => cases e)
      omega
  have hs1 : ∀ wz, (Instr.slice 22 (.slice ra q rc) none (some (.int .i64 (k : Nat))) none).run Tryz.prog wz = .ok (.slice (if rc = 0 then ra else ra.map (·.add (0 * 1))) k rc) wz := fun wz => by
    have ht : Tryz.prog.underlying 22 = some (.slice (Tryz.prog.elem 22)) := by kernel_rfl
    have he : Tryz.prog.elem 22 = 3 := by kernel_rfl
    rw [run_slice_h wz 22 ra q rc ht .i64 _ (by omega) (by omega)]
    simp [sizeOf, typeInfo, he, hi, hz1, Result.andThen, sliced]
  have hs2 : ∀ wz, (Instr.slice 22 (.slice ra q rc) (some (.int .i64 (k : Nat))) none none).run Tryz.prog wz = .ok (.slice (if rc = k then ra else ra.map (·.add (k * 1))) (q - k) (rc - k)) wz := fun wz => by
    have ht : Tryz.prog.underlying 22 = some (.slice (Tryz.prog.elem 22)) := by kernel_rfl
    have he : Tryz.prog.elem 22 = 3 := by kernel_rfl
    rw [run_slice_l wz 22 ra q rc ht .i64 _ (by omega) (by omega)]
    simp [sizeOf, typeInfo, he, hi, hz1, Result.andThen, sliced]
  obtain ⟨A1, hA1⟩ : ∃ x, (if rc = 0 then ra else ra.map (·.add (0 * 1))) = x := ⟨_, rfl⟩
  obtain ⟨A2, hA2⟩ : ∃ x, (if rc = k then ra else ra.map (·.add (k * 1))) = x := ⟨_, rfl⟩
  rw [hA1] at k1 n1
  rw [hA2] at k2 n2
  simp only [hA1] at hs1
  simp only [hA2] at hs2
  have k1 : KRow w .i64 A1 k rc R := k1.congr (fun j _ => by unfold shf; rw [Nat.zero_add])
  have JN : Hid (∀ k7 k3 wz, Below w.heap.size w wz → Row wz k7 22 #[.slice A1 k rc, .slice (some ⟨k3, 0, none⟩) 1 1, .slice A2 (q - k) (rc - k)] → KRow wz .i64 (some ⟨k3, 0, none⟩) 1 1 (fun _ => 1) →
      Calls Tryz.prog 73 #[.slice (some ⟨k7, 0, none⟩) 3 3] wz fun e w' => ∃ a' c', e = .returned (.slice a' (q + 1) c') ∧ KRow w' .i64 a' (q + 1) c' (insF R k 1) ∧ Below wz.heap.size wz w') := Lib.hid (fun k7 k3 wz hb hrow h3 => by
    have hbw := hb
    have hL := LRow.three hrow (k1.below hbw) h3 (k2.below hbw) n1 (fun e => by cases e) n2
    have ht : tot (fun j => if j = 0 then k else if j = 1 then 1 else q - k) 3 = q + 1 := by show 0 + k + 1 + (q - k) = q + 1; omega
    have := join_any _ 3 3 _ _ _ _ wz hL (by omega) (by rw [ht]; omega)
    rw [ht] at this
    refine this.mono ?_
    rintro e w' hq
    obtain ⟨a', c', rfl, hk', hb'⟩ := hq
    exact ⟨a', c', rfl, hk'.congr ins_cat, hb'⟩)
  clear h hR hnil hsh hshi hbd hM hMi hT hx hi hz0 hz1 hz2 hcm hA1 hA2 k1 k2 n1 n2
  unfold arrC
  go_enter Tryz.func37, Tryz.ntmps37
  go_wp2_with fail
  have hWW := Below.refl ((w.alloc (.cells (arrC ch ((r : Int) - 1) (dm S r) na nn nc ta tn tc) 32)).alloc (.cells zerC 32)).heap.size ((w.alloc (.cells (arrC ch ((r : Int) - 1) (dm S r) na nn nc ta tn tc) 32)).alloc (.cells zerC 32))
  unfold arrC zerC at hWW
  unfold zerC at BB
  unfold arrC at BB
  generalize hW : ((w.alloc (.cells _ 32)).alloc (.cells _ 32)) = YY at *
  clear hW hWW
  refine wp_region_inv2 ⟨(fun j => ([[14], [15], [16], [17], [18], [19], [20], [21], [22], [7]] : List (List Nat)).getD j []), (fun j => ([[], [], [0, 1], [], [], [], [4, 5], [0, 1, 2, 3, 4, 5, 6], [0, 1, 2, 3, 4, 5, 6, 7], [0, 1, 2, 3, 4, 5, 6, 7, 8]] : List (List Nat)).getD j []), [3, 7]⟩ (fun jj vv yy => match jj with | 0 => vv = [some (.slice ra q rc)] | 1 => vv = [some (.int .i64 (k : Nat))] | 2 => vv = [some (.slice A1 k rc)] | 3 => ∃ (k3 : Nat), vv = [some (.slice (some ⟨k3, 0, none⟩) 1 1)] ∧ KRow yy .i64 (some ⟨k3, 0, none⟩) 1 1 (fun _ => 1) | 4 => vv = [some (.slice ra q rc)] | 5 => vv = [some (.int .i64 (k : Nat))] | 6 => vv = [some (.slice A2 (q - k) (rc - k))] | 7 => ∃ (k7 : Nat), ∃ (k3 : Nat), vv = [some (.slice (some ⟨k7, 0, none⟩) 3 3)] ∧ Row yy k7 22 #[.slice A1 k rc, .slice (some ⟨k3, 0, none⟩) 1 1, .slice A2 (q - k) (rc - k)] ∧ KRow yy .i64 (some ⟨k3, 0, none⟩) 1 1 (fun _ => 1) | 8 => ∃ (a8 : Option Addr), ∃ (c8 : Nat), vv = [some (.slice a8 (q + 1) c8)] ∧ KRow yy .i64 a8 (q + 1) c8 (insF R k 1) | 9 => ∃ (a8 : Option Addr), ∃ (c8 : Nat), vv = [some (.slice a8 (q + 1) c8)] ∧ KRow yy .i64 a8 (q + 1) c8 (insF R k 1) | _ => True) (Bag YY (fun _ => True)) (by kernel_rfl) (by kernel_rfl) (by kernel_rfl) (Bag.start YY).drew ?_ ?_ ?_
  · intro jj vv yw yw2 hb h
    match jj, h with
    | 0, h => exact h
    | 1, h => exact h
    | 2, h => exact h
    | 3, ⟨k3, e3, g3_0⟩ => exact Exists.intro k3 (And.intro e3 (g3_0.below hb))
    | 4, h => exact h
    | 5, h => exact h
    | 6, h => exact h
    | 7, ⟨k7, k3, e7, g7_0, g7_1⟩ => exact Exists.intro k7 (Exists.intro k3 (And.intro e7 (And.intro (g7_0.below hb) (g7_1.below hb))))
    | 8, ⟨a8, c8, e8, g8_0⟩ => exact Exists.intro a8 (Exists.intro c8 (And.intro e8 (g8_0.below hb)))
    | 9, ⟨a8, c8, e9, g9_0⟩ => exact Exists.intro a8 (Exists.intro c8 (And.intro e9 (g9_0.below hb)))
    | _ + 10, h => exact h
  · intro ac yw hsz hdf hold hB hp
    obtain ⟨a8, c8, e9, h8⟩ := hp 9 (by decide)
    have t7 : ac.tmps[7]? = some (.slice a8 (q + 1) c8) := (List.cons.inj e9).1
    have t3 : ac.tmps[3]? = some (.pointer (some ⟨w.heap.size, 0, none⟩)) := hold 3 (by kernel_rfl)
    have t6 : ac.tmps[6]? = some (.pointer (some ⟨w.heap.size + 1, 0, none⟩)) := hold 6 (by kernel_rfl)
    have BB := Lib.hid (BB.out.go hB.below)
    have HK := Lib.hid h8
    have hl8 := h8.len
    clear hold hp e9 h8 hB
    obtain ⟨TW, hTW⟩ : ∃ TW : Nat → Value, ∀ i, (ac.tmps[i]?).getD undef = TW i := ⟨_, fun _ => rfl⟩
    have f3 := (hTW 3).symm.trans (congrArg (fun x => Option.getD x undef) t3)
    have f6 := (hTW 6).symm.trans (congrArg (fun x => Option.getD x undef) t6)
    have f7 := (hTW 7).symm.trans (congrArg (fun x => Option.getD x undef) t7)
    have hac := act_eq (n := 51) hsz TW hTW
    rw [show ((List.range 51).map TW).toArray = #[TW 0, TW 1, TW 2, TW 3, TW 4, TW 5, TW 6, TW 7, TW 8, TW 9, TW 10, TW 11, TW 12, TW 13, TW 14, TW 15, TW 16, TW 17, TW 18, TW 19, TW 20, TW 21, TW 22, TW 23, TW 24, TW 25, TW 26, TW 27, TW 28, TW 29, TW 30, TW 31, TW 32, TW 33, TW 34, TW 35, TW 36, TW 37, TW 38, TW 39, TW 40, TW 41, TW 42, TW 43, TW 44, TW 45, TW 46, TW 47, TW 48, TW 49, TW 50] from rfl, f3, f6, f7, hdf] at hac
    simp only [Option.getD_some] at hac
    subst hac
    clear hTW f3 f6 f7
    generalize yw = Y2 at *
    go_wp2_with fail
    go_at_call 74
    (with_reducible refine (CN.out _ _ _ HK.out).mono ?_)
    rintro e w3 ⟨rfl, rfl⟩
    have HR1 := Lib.hid (BB.out.now.2.1)
    by_cases hr0 : r = 0
    · have d0 : ¬ ((0 : Int) < (r : Int)) := by omega
      have HKP : Hid (KRow (Y2.alloc (.cells (madeCells (Value.cells (.int .i64 0)) M) 3)) .i64 (some ⟨Y2.heap.size, 0, none⟩) M M (exG r)) := Lib.hid (by
        have h1 := KTo.made Y2 M 3 (fun _ => 0) rfl
        have h2 : KTo (Y2.alloc (.cells (madeCells (Value.cells (.int .i64 0)) M) 3)) Y2.heap.size M M (fun _ => 0) := by
          refine ⟨h1.1, h1.2.1, fun j hj => ?_⟩
          obtain ⟨z, hz, _⟩ := h1.2.2 j hj
          refine ⟨z, hz, fun _ => ?_⟩
          exact made0 hz hj
        refine (h2.done (by unfold maxLen; omega)).congr (fun j _ => ?_)
        unfold exG
        rw [if_pos hr0])
      have HB1 : Hid (Below Y2.heap.size Y2 (Y2.alloc (.cells (madeCells (Value.cells (.int .i64 0)) M) 3))) := Lib.hid ((Below.refl _ _).alloc (Nat.le_refl _) _)
      have HK := Lib.hid (HK.out.below HB1.out)
      have BB := Lib.hid (BB.out.go HB1.out)
      have HR1 := Lib.hid (BB.out.now.2.1)
      clear hr0 HB1
      go_wp2_with (refine ld_arr rfl (.tmp 3) rfl w.heap.size rfl HR1.out ?_)
      go_at_call 23
      (with_reducible refine (RK.out _ ?_).mono ?_)
      · exact H.out.below BB.out.below
      rintro e w5 ⟨rfl, hb5⟩
      have BB := Lib.hid (BB.out.go hb5)
      have HK := Lib.hid (HK.out.below hb5)
      have HKP := Lib.hid (HKP.out.below hb5)
      have HR1 := Lib.hid (BB.out.now.2.1)
      clear hb5
      go_wp2_with (refine ld_arr rfl (.tmp 3) rfl w.heap.size rfl HR1.out ?_)
      go_at_call 52
      (refine (PK.out _ _ _ _ _ (H.out.below BB.out.below) HK.out HKP.out).mono ?_)
      rintro e w9 ⟨x9, rfl, h9, hb9⟩
      rw [if_pos trivial] at h9
      have BB := Lib.hid (BB.out.go hb9)
      have HZ := Lib.hid (BB.out.now.2.1)
      obtain ⟨n9, m9, d9, u9, v9, y9, hx9, _⟩ := h9.form
      rw [show (((q + 1 : Nat) : Int) - 1) = ((q : Nat) : Int) by omega] at hx9
      subst hx9
      have B9 := BB.out.below
      have h10 : Row (w9.alloc (.cells (arrC ch ((q : Nat) : Int) (dm (insF R k 1) (q + 1)) n9 m9 d9 u9 v9 y9) 32)) w9.heap.size 32 _ := Row.new _ _ _
      have hb10 : Below w9.heap.size w9 (w9.alloc (.cells (arrC ch ((q : Nat) : Int) (dm (insF R k 1) (q + 1)) n9 m9 d9 u9 v9 y9) 32)) := (Below.refl _ _).alloc (Nat.le_refl _) _
      have HX := Lib.hid h10
      have HA := Lib.hid (h9.below hb10)
      have BB := Lib.hid (BB.out.go hb10)
      have HZ := Lib.hid (BB.out.now.1)
      have HE := Lib.hid (And.intro (HA.out.put HZ.out (arrC ch ((q : Nat) : Int) (dm (insF R k 1) (q + 1)) n9 m9 d9 u9 v9 y9)) (below_put BB.out.below (show w.heap.size ≤ w.heap.size + 1 by omega) (arrC ch ((q : Nat) : Int) (dm (insF R k 1) (q + 1)) n9 m9 d9 u9 v9 y9)))
      clear h9 hb9 B9 h10 hb10
      unfold arrC
      unfold arrC at HX
      go_wp2_with (first
        | (refine ld_arr rfl (.tmp 12) rfl w9.heap.size rfl HX.out ?_)
        | (refine st_arr rfl (.tmp 6) (.tmp 50) rfl (w.heap.size + 1) rfl _ _ _ _ _ _ _ _ _ rfl HZ.out rfl ?_))
      exact bodyPost_ret (res_arr Tryz.results37 rfl (HZ.out.put _) rfl) rfl ⟨_, rfl, HE.out⟩
    · have d0 : (0 : Int) < (r : Int) := by omega
      have HB1 : Hid (Below Y2.heap.size Y2 (Y2.alloc (.cells (madeCells (Value.cells (.int .i64 0)) M) 3))) := Lib.hid ((Below.refl _ _).alloc (Nat.le_refl _) _)
      have HTO : Hid (KTo (Y2.alloc (.cells (madeCells (Value.cells (.int .i64 0)) M) 3)) Y2.heap.size M 0 (exG r)) := Lib.hid (KTo.made Y2 M 3 (exG r) rfl)
      have HEX : Hid (∀ j : Nat, exG r j = (j : Int)) := Lib.hid (fun j => by unfold exG; rw [if_neg hr0])
      have BB1 := Lib.hid (BB.out.go HB1.out)
      have HR1 := Lib.hid (BB1.out.now.2.1)
      clear hr0
      go_wp2_with (refine ld_arr rfl (.tmp 3) rfl w.heap.size rfl HR1.out ?_)
      go_at_call 23
      (with_reducible refine (RK.out _ ?_).mono ?_)
      · exact H.out.below BB1.out.below
      rintro e w5 ⟨rfl, hb5⟩
      have HB5 := Lib.hid (HB1.out.trans (hb5.mono HB1.out.size))
      have HTO := Lib.hid (HTO.out.below hb5)
      clear hb5 BB1 HR1
      go_wp2_with fail
      go_loopw [11, 35] (fun v11 i wr => (∃ v, v = v11) ∧ ∃ j : Nat, j ≤ M ∧ i = .int .i64 j ∧ Hid (Below Y2.heap.size Y2 wr ∧ KTo wr Y2.heap.size M j (exG r))) (fun _ i _ => M - (intOf i).toNat)
      case atStart => exact ⟨⟨_, rfl⟩, 0, by omega, rfl, HB5.out, HTO.out⟩
      case round =>
        obtain ⟨⟨v11, rfl⟩, j, hj, rfl, hrel⟩ := hrel
        obtain ⟨hbl, hto⟩ := hrel.out
        by_cases hlt : j < M
        · obtain ⟨⟨z0, x1⟩, y1⟩ := hto.place hlt
          have hj0 : (0 : Int) ≤ j := by omega
          have hj1 : (j : Int) < M := by omega
          have hst := hto.step hlt
          rw [HEX.out j] at hst
          have HN := Lib.hid (And.intro (hbl.setCell (p := ⟨Y2.heap.size, j, none⟩) (Nat.le_refl _) (.int .i64 (j : Nat))) hst)
          clear hbl hto hrel hst
          go_wp2_with fail
          go_roundw
          case rel => exact ⟨⟨_, rfl⟩, j + 1, by omega, by go_num, HN.out⟩
          case measure => simp [intOf]; omega
        · obtain rfl : j = M := by omega
          have HKP := Lib.hid (hto.done (by unfold maxLen; omega))
          have HK := Lib.hid (HK.out.below hbl)
          have BB := Lib.hid (BB.out.go hbl)
          have HR1 := Lib.hid (BB.out.now.2.1)
          clear hbl hto hrel hlt hj
          go_wp2_with (refine ld_arr rfl (.tmp 3) rfl w.heap.size rfl HR1.out ?_)
          go_at_call 52
          (refine (PK.out _ _ _ _ _ (H.out.below BB.out.below) HK.out HKP.out).mono ?_)
          rintro e w9 ⟨x9, rfl, h9, hb9⟩
          rw [if_pos trivial] at h9
          have BB := Lib.hid (BB.out.go hb9)
          have HZ := Lib.hid (BB.out.now.2.1)
          obtain ⟨n9, m9, d9, u9, v9, y9, hx9, _⟩ := h9.form
          rw [show (((q + 1 : Nat) : Int) - 1) = ((q : Nat) : Int) by omega] at hx9
          subst hx9
          have B9 := BB.out.below
          have h10 : Row (w9.alloc (.cells (arrC ch ((q : Nat) : Int) (dm (insF R k 1) (q + 1)) n9 m9 d9 u9 v9 y9) 32)) w9.heap.size 32 _ := Row.new _ _ _
          have hb10 : Below w9.heap.size w9 (w9.alloc (.cells (arrC ch ((q : Nat) : Int) (dm (insF R k 1) (q + 1)) n9 m9 d9 u9 v9 y9) 32)) := (Below.refl _ _).alloc (Nat.le_refl _) _
          have HX := Lib.hid h10
          have HA := Lib.hid (h9.below hb10)
          have BB := Lib.hid (BB.out.go hb10)
          have HZ := Lib.hid (BB.out.now.1)
          have HE := Lib.hid (And.intro (HA.out.put HZ.out (arrC ch ((q : Nat) : Int) (dm (insF R k 1) (q + 1)) n9 m9 d9 u9 v9 y9)) (below_put BB.out.below (show w.heap.size ≤ w.heap.size + 1 by omega) (arrC ch ((q : Nat) : Int) (dm (insF R k 1) (q + 1)) n9 m9 d9 u9 v9 y9)))
          clear h9 hb9 B9 h10 hb10
          unfold arrC
          unfold arrC at HX
          go_wp2_with (first
            | (refine ld_arr rfl (.tmp 12) rfl w9.heap.size rfl HX.out ?_)
            | (refine st_arr rfl (.tmp 6) (.tmp 50) rfl (w.heap.size + 1) rfl _ _ _ _ _ _ _ _ _ rfl HZ.out rfl ?_))
          exact bodyPost_ret (res_arr Tryz.results37 rfl (HZ.out.put _) rfl) rfl ⟨_, rfl, HE.out⟩
  refine Stps2.cons (o := _) ?_ ?_
  · intro ac yw hsz hold hB hp K hK
    have t1 : ac.tmps[1]? = some (.slice ra q rc) := hold 1 (by kernel_rfl)
    clear hold hp hsz
    go_simp
    exact hK.out _ _ ⟨hB, rfl, Nat.le_refl _, .inl (Below.refl _ _), fun h => absurd h (by decide)⟩
  refine Stps2.cons (o := _) ?_ ?_
  · intro ac yw hsz hold hB hp K hK
    have t2 : ac.tmps[2]? = some (.int .i64 (k : Nat)) := hold 2 (by kernel_rfl)
    clear hold hp hsz
    go_simp
    exact hK.out _ _ ⟨hB, rfl, Nat.le_refl _, .inl (Below.refl _ _), fun h => absurd h (by decide)⟩
  refine Stps2.cons (o := _) ?_ ?_
  · intro ac yw hsz hold hB hp K hK
    have e0 := hp 0 (by decide)
    have t14 : ac.tmps[14]? = some (.slice ra q rc) := (List.cons.inj e0).1
    have e1 := hp 1 (by decide)
    have t15 : ac.tmps[15]? = some (.int .i64 (k : Nat)) := (List.cons.inj e1).1
    clear hold hp hsz e0 e1
    go_simp
    exact hK.out _ _ ⟨hB, rfl, Nat.le_refl _, .inl (Below.refl _ _), fun h => absurd h (by decide)⟩
  refine Stps2.cons (o := _) ?_ ?_
  · intro ac yw hsz hold hB hp K hK
    clear hold hp hsz
    have hbz : Below yw.heap.size yw (yw.alloc (.cells #[.int .i64 1] 3)) ∧ yw.heap.size < (yw.alloc (.cells #[.int .i64 1] 3)).heap.size := ⟨(Below.refl _ _).alloc (Nat.le_refl _) _, by rw [World.size_alloc]; omega⟩
    go_simp
    exact hK.out _ _ ⟨hB.alloc _, Exists.intro yw.heap.size (And.intro rfl (KRow.one' yw .i64 1 3)), Nat.le_of_lt hbz.2, .inl hbz.1, fun _ => ⟨_, rfl, Nat.le_refl _, hbz.2⟩⟩
  refine Stps2.cons (o := _) ?_ ?_
  · intro ac yw hsz hold hB hp K hK
    have t1 : ac.tmps[1]? = some (.slice ra q rc) := hold 1 (by kernel_rfl)
    clear hold hp hsz
    go_simp
    exact hK.out _ _ ⟨hB, rfl, Nat.le_refl _, .inl (Below.refl _ _), fun h => absurd h (by decide)⟩
  refine Stps2.cons (o := _) ?_ ?_
  · intro ac yw hsz hold hB hp K hK
    have t2 : ac.tmps[2]? = some (.int .i64 (k : Nat)) := hold 2 (by kernel_rfl)
    clear hold hp hsz
    go_simp
    exact hK.out _ _ ⟨hB, rfl, Nat.le_refl _, .inl (Below.refl _ _), fun h => absurd h (by decide)⟩
  refine Stps2.cons (o := _) ?_ ?_
  · intro ac yw hsz hold hB hp K hK
    have e4 := hp 4 (by decide)
    have t18 : ac.tmps[18]? = some (.slice ra q rc) := (List.cons.inj e4).1
    have e5 := hp 5 (by decide)
    have t19 : ac.tmps[19]? = some (.int .i64 (k : Nat)) := (List.cons.inj e5).1
    clear hold hp hsz e4 e5
    go_simp
    exact hK.out _ _ ⟨hB, rfl, Nat.le_refl _, .inl (Below.refl _ _), fun h => absurd h (by decide)⟩
  refine Stps2.cons (o := _) ?_ ?_
  · intro ac yw hsz hold hB hp K hK
    have e2 := hp 2 (by decide)
    have t16 : ac.tmps[16]? = some (.slice A1 k rc) := (List.cons.inj e2).1
    obtain ⟨k3_3, e3, g3_0⟩ := hp 3 (by decide)
    have t17 : ac.tmps[17]? = some (.slice (some ⟨k3_3, 0, none⟩) 1 1) := (List.cons.inj e3).1
    have e6 := hp 6 (by decide)
    have t20 : ac.tmps[20]? = some (.slice A2 (q - k) (rc - k)) := (List.cons.inj e6).1
    clear hold hp hsz e2 e3 e6
    have hbz : Below yw.heap.size yw (yw.alloc (.cells #[.slice A1 k rc, .slice (some ⟨k3_3, 0, none⟩) 1 1, .slice A2 (q - k) (rc - k)] 22)) ∧ yw.heap.size < (yw.alloc (.cells #[.slice A1 k rc, .slice (some ⟨k3_3, 0, none⟩) 1 1, .slice A2 (q - k) (rc - k)] 22)).heap.size := ⟨(Below.refl _ _).alloc (Nat.le_refl _) _, by rw [World.size_alloc]; omega⟩
    go_simp
    exact hK.out _ _ ⟨hB.alloc _, Exists.intro yw.heap.size (Exists.intro k3_3 (And.intro rfl (And.intro (Row.new yw _ _) (g3_0.below hbz.1)))), Nat.le_of_lt hbz.2, .inl hbz.1, fun _ => ⟨_, rfl, Nat.le_refl _, hbz.2⟩⟩
  refine Stps2.cons (o := _) ?_ ?_
  · intro ac yw hsz hold hB hp K hK
    obtain ⟨k7_7, k3_7, e7, g7_0, g7_1⟩ := hp 7 (by decide)
    have t21 : ac.tmps[21]? = some (.slice (some ⟨k7_7, 0, none⟩) 3 3) := (List.cons.inj e7).1
    clear hold hp hsz e7
    go_simp
    (go_at_call 73; (refine (JN.out _ _ _ ((BB.out.go hB.below).below) g7_0 g7_1).mono ?_); rintro e wz ⟨a8, c8, rfl, h8_0, hbz⟩)
    exact hK.out _ _ ⟨hB.go hbz, Exists.intro a8 (Exists.intro c8 (And.intro rfl h8_0)), hbz.size, .inl hbz, fun h => absurd h (by decide)⟩
  refine Stps2.cons (o := _) ?_ ?_
  · intro ac yw hsz hold hB hp K hK
    obtain ⟨a8_8, c8_8, e8, g8_0⟩ := hp 8 (by decide)
    have t22 : ac.tmps[22]? = some (.slice a8_8 (q + 1) c8_8) := (List.cons.inj e8).1
    clear hold hp hsz e8
    go_simp
    exact hK.out _ _ ⟨hB, Exists.intro a8_8 (Exists.intro c8_8 (And.intro rfl g8_0)), Nat.le_refl _, .inl (Below.refl _ _), fun h => absurd h (by decide)⟩
  exact Stps2.nil _
end Go.Proofs.YtifnamlgkooacaaGreatDoor

namespace Go.Proofs.YtifnamlgkooacaaGreatDoor
open Go.RowKit
/-- What Whole answers, and where: the list is new. -/
def WhNew (b : Bool) (n : Nat) (fP : Nat → Int) (w w' : World) (e : Ending) : Prop := ∃ a m c, e = .returned (.tuple #[.slice a m c, .bool b]) ∧ (if b then m = n ∧ KRow w' .i64 a n c fP ∧ (n = 0 ∨ ∀ x, a = some x → w.heap.size ≤ x.block) else a = none ∧ m = 0 ∧ c = 0) ∧ Below w.heap.size w w'
set_option maxHeartbeats 1600000 in
set_option maxRecDepth 100000 in
theorem whole6_new (cs : Array Value) (f : Nat → Int) (r n : Nat) (fP : Nat → Int) (fQ : Nat → Nat) (w : World) (h : NumArr w cs f r n fP fQ) (hQ : ∀ j, j < n → 0 < fQ j) (hn : n ≤ 1000000) :
    Calls Tryz.prog 22 #[.agg cs] w fun e w' => WhNew (whB fP fQ n) n fP w w' e := by
  obtain ⟨i0, hi, hz0, hz1, hz2⟩ := info_parts infoI
  have hmk := fun wz => run_make (P := Tryz.prog) wz 22 3 i0 _ Tryz.underlying22 hi hz0 .i64 .i64 n n (by omega) (by omega) (by rw [hz2]; omega) (by omega)
  simp only [Int.toNat_natCast, hz1, Nat.mul_one] at hmk
  obtain ⟨na, nc, rfl, hr⟩ := h
  have HR := Lib.hid hr
  have hl := hr.len
  have HQ := Lib.hid hQ
  have IN := Lib.hid (fun a n c m a2 n2 c2 P Q wz h hq => ratInt_any a n c m a2 n2 c2 P Q wz h hq)
  have hR0 : Row (w.alloc (.cells (arrC false ((r : Int) - 1) (dm f r) na n nc none 0 0) 32)) w.heap.size 32 _ := Row.new _ _ _
  have H0 : Hid (Below w.heap.size w ((w.alloc (.cells (arrC false ((r : Int) - 1) (dm f r) na n nc none 0 0) 32)).alloc (.cells (madeCells (Value.cells (.int .i64 0)) n) 3)) ∧ KTo ((w.alloc (.cells (arrC false ((r : Int) - 1) (dm f r) na n nc none 0 0) 32)).alloc (.cells (madeCells (Value.cells (.int .i64 0)) n) 3)) (w.heap.size + 1) n 0 fP ∧ whB fP fQ 0 = true) :=
    ⟨((Below.refl _ _).alloc (Nat.le_refl _) _).alloc (by simp) _, by have := KTo.made (w.alloc (.cells (arrC false ((r : Int) - 1) (dm f r) na n nc none 0 0) 32)) n 3 fP rfl; rwa [World.size_alloc] at this, rfl⟩
  unfold arrC at H0
  unfold arrC
  clear hr hi hz0 hz1 hz2 hR0 hQ
  go_enter Tryz.func22, Tryz.ntmps22
  go_wp2_with fail
  go_loopw [20] (fun i wr => ∃ k : Nat, k ≤ n ∧ i = .int .i64 k ∧ Hid (Below w.heap.size w wr ∧ KTo wr (w.heap.size + 1) n k fP ∧ whB fP fQ k = true)) (fun i _ => n - (intOf i).toNat)
  case atStart => exact ⟨0, by omega, rfl, H0.out⟩
  case round =>
    obtain ⟨k, hk, rfl, hrel⟩ := hrel
    obtain ⟨hbl, hto, hwh⟩ := hrel.out
    have hwr := hbl.size
    by_cases hlt : k < n
    · obtain ⟨b, off, a', n', c', m', a2', n2', c2', rfl, hlb, e1, e2, e3, hi'⟩ := (HR.out.below hbl).get hlt
      have BB := Lib.hid ((((Bag.start wr).kto hto).rat hi').alloc (.cells #[.slice a' n' c', .bool m', .slice a2' n2' c2'] 77))
      have HBL := Lib.hid hbl
      have HWH := Lib.hid hwh
      clear hbl hto hi' hwh
      go_wp2_with fail
      go_at_call 50
      (with_reducible refine (IN.out _ _ _ _ _ _ _ (fP k) (fQ k) _ ?_ ?_).mono ?_)
      · exact BB.out.now.1
      · exact HQ.out k hlt
      rintro e w2 ⟨rfl, hb2⟩
      have B2 := BB.out.go hb2
      have hto := B2.now.2.1
      obtain ⟨⟨z, x1⟩, y1⟩ := hto.place hlt
      have hbb := HBL.out.trans (B2.below.mono hwr)
      by_cases hok : (decide (fQ k = 1) && fitB (fP k)) = true
      · have hv : (if fQ k = 1 then fitI (fP k) else 0) = fP k := by
          rw [Bool.and_eq_true, decide_eq_true_eq] at hok
          rw [if_pos hok.1]; unfold fitI; rw [if_pos hok.2]
        have HN : Hid (Below w.heap.size w (w2.setCell ⟨w.heap.size + 1, k, none⟩ (.int .i64 (fP k))) ∧ KTo (w2.setCell ⟨w.heap.size + 1, k, none⟩ (.int .i64 (fP k))) (w.heap.size + 1) n (k + 1) fP ∧ whB fP fQ (k + 1) = true) :=
          ⟨hbb.setCell (p := ⟨w.heap.size + 1, k, none⟩) (Nat.le_succ _) _, hto.step hlt, by show (whB fP fQ k && _) = true; rw [HWH.out, hok]; rfl⟩
        rw [hok, hv]
        clear hto hb2 B2 hbb hv hok e1 e2 e3
        generalize fP k = x at *
        go_wp2
        go_roundw
        case rel => exact ⟨k + 1, by omega, by go_num, HN.out⟩
        case measure => simp [intOf]; omega
      · rw [Bool.not_eq_true] at hok
        have hno : whB fP fQ n = false := by
          cases hx : whB fP fQ n with
          | false => rfl
          | true =>
            have := whB_le (k := k + 1) (by omega) hx
            unfold whB at this
            rw [hok, Bool.and_false] at this
            exact this.symm
        rw [hok]
        have HE : Hid (WhNew (whB fP fQ n) n fP w w2 (.returned (.tuple #[.slice none 0 0, .bool false]))) := by
          rw [hno]
          exact ⟨_, _, _, rfl, by rw [if_neg (by decide)]; exact ⟨rfl, rfl, rfl⟩, hbb⟩
        generalize (if fQ k = 1 then fitI (fP k) else 0) = x at *
        clear hto hb2 B2 hbb hno hok e1 e2 e3
        go_wp2
        go_ret2
        exact HE.out
    · obtain rfl : k = n := by omega
      have HE : Hid (WhNew (whB fP fQ k) k fP w wr (.returned (.tuple #[.slice (some ⟨w.heap.size + 1, 0, none⟩) k k, .bool true]))) := by
        rw [hwh]
        exact ⟨_, _, _, rfl, by rw [if_pos rfl]; exact ⟨rfl, hto.done (by unfold maxLen; omega), .inr (fun x hx => by cases hx; exact Nat.le_succ _)⟩, hbl⟩
      clear hbl hto hwh
      go_wp2
      go_ret2
      exact HE.out
theorem whole8_new (cs : Array Value) (S : Nat → Int) (r : Nat) (ch : Bool) (L : Nat) (g fP : Nat → Int) (fQ : Nat → Nat) (w : World) (h : Arr w cs S r ch L g fP fQ) (hQ : ch = false → ∀ j, j < L → 0 < fQ j) (hL : L ≤ 1000000) :
    Calls Tryz.prog 22 #[.agg cs] w fun e w' => WhNew (whC ch L fP fQ) L fP w w' e := by
  cases ch with
  | true =>
    refine (wholeC_any cs S r L g w (h.1 rfl) hL).mono ?_
    rintro e w' ⟨a, m, c, he, h2, hb⟩
    refine ⟨a, m, c, he, ?_, hb⟩
    show if decide (L = 0) = true then _ else _
    by_cases h0 : L = 0
    · subst h0
      rw [decide_eq_true rfl, if_pos rfl] at h2 ⊢
      exact ⟨h2.1, ⟨h2.2.1, h2.2.2.1, .inl rfl⟩, .inl rfl⟩
    · rw [decide_eq_false h0, if_neg (by decide)] at h2 ⊢
      exact h2
  | false => exact whole6_new cs S r L fP fQ w (h.2 rfl) (hQ rfl) hL
/-- What list answers, and where: the list is new. -/
def LiNew (E : Int) (L : Nat) (fP : Nat → Int) (w w' : World) (e : Ending) : Prop := ∃ a m c, e = .returned (.tuple #[.slice a m c, .int .i64 E]) ∧ (E = 0 → m = L ∧ KRow w' .i64 a L c fP ∧ (L = 0 ∨ ∀ x, a = some x → w.heap.size ≤ x.block)) ∧ Below w.heap.size w w'
end Go.Proofs.YtifnamlgkooacaaGreatDoor

namespace Go.Proofs.YtifnamlgkooacaaGreatDoor
open Go.RowKit
set_option maxHeartbeats 1600000 in
set_option maxRecDepth 100000 in
theorem cutList_any (cs : Array Value) (S : Nat → Int) (r : Nat) (ch : Bool) (L : Nat) (g fP : Nat → Int) (fQ : Nat → Nat) (w : World) (h : Arr w cs S r ch L g fP fQ) (hr : r ≤ 8) (hQ : ch = false → ∀ j, j < L → 0 < fQ j) (hL : L ≤ 1000000) :
    Calls Tryz.prog 79 #[.agg cs] w fun e w' => LiNew (liE r (whC ch L fP fQ)) L fP w w' e := by
  obtain ⟨na, nn, nc, ta, tn, tc, hcs, _⟩ := h.form
  subst hcs
  have H := Lib.hid h
  have RK := Lib.hid (fun wz h => rank8_any (arrC ch ((r : Int) - 1) (dm S r) na nn nc ta tn tc) S r ch L g fP fQ wz h (by omega))
  have WH := Lib.hid (fun wz h => whole8_new (arrC ch ((r : Int) - 1) (dm S r) na nn nc ta tn tc) S r ch L g fP fQ wz h hQ hL)
  have BB := Lib.hid ((Bag.start w).newRow (arrC ch ((r : Int) - 1) (dm S r) na nn nc ta tn tc) 32)
  have HR1 := Lib.hid BB.out.now.1
  generalize hb : whC ch L fP fQ = b at *
  unfold WhNew at WH
  clear h hQ hb
  unfold arrC
  by_cases h1 : 1 < r
  · have d1 : (1 : Int) < (r : Int) := by omega
    have hE : liE r b = 23 := by unfold liE; rw [if_pos h1]
    rw [hE]
    clear h1 hE
    go_enter Tryz.func79, Tryz.ntmps79
    go_wp2_with (refine ld_arr rfl (.tmp 1) rfl w.heap.size rfl HR1.out ?_)
    go_at_call 22
    (with_reducible refine (WH.out _ ?_).mono ?_)
    · exact H.out.below BB.out.below
    rintro e w2 ⟨a, m, c, rfl, hk, hb2⟩
    have BB := Lib.hid (BB.out.go hb2)
    have HR2 := Lib.hid BB.out.now.1
    clear hb2 hk
    go_wp2_with (refine ld_arr rfl (.tmp 1) rfl w.heap.size rfl HR2.out ?_)
    go_at_call 23
    (with_reducible refine (RK.out _ ?_).mono ?_)
    · exact H.out.below BB.out.below
    rintro e w3 ⟨rfl, hb3⟩
    have HE := Lib.hid (BB.out.go hb3).below
    clear hb3
    go_wp2
    exact bodyPost_ret (v := .tuple #[.slice none 0 0, .int .i64 23]) (by simp [results, Tryz.results79, go_sem]) rfl ⟨none, 0, 0, rfl, fun e => (by cases e), HE.out⟩
  · have d1 : ¬ ((1 : Int) < (r : Int)) := by omega
    have hE : liE r b = if b then 0 else 22 := by unfold liE; rw [if_neg h1]
    rw [hE]
    clear h1 hE
    go_enter Tryz.func79, Tryz.ntmps79
    go_wp2_with (refine ld_arr rfl (.tmp 1) rfl w.heap.size rfl HR1.out ?_)
    go_at_call 22
    (with_reducible refine (WH.out _ ?_).mono ?_)
    · exact H.out.below BB.out.below
    have HSZ := Lib.hid BB.out.below.size
    rintro e w2 ⟨a, m, c, rfl, hk, hb2⟩
    have BB := Lib.hid (BB.out.go hb2)
    have HR2 := Lib.hid BB.out.now.1
    have HK := Lib.hid hk
    clear hb2 hk
    go_wp2_with (refine ld_arr rfl (.tmp 1) rfl w.heap.size rfl HR2.out ?_)
    go_at_call 23
    (with_reducible refine (RK.out _ ?_).mono ?_)
    · exact H.out.below BB.out.below
    rintro e w3 ⟨rfl, hb3⟩
    have HE := Lib.hid (BB.out.go hb3).below
    have HB3 := Lib.hid hb3
    clear hb3
    cases b with
    | false =>
      go_wp2
      exact bodyPost_ret (v := .tuple #[.slice none 0 0, .int .i64 22]) (by simp [results, Tryz.results79, go_sem]) rfl ⟨none, 0, 0, rfl, fun e => (by cases e), HE.out⟩
    | true =>
      have HK2 : Hid (m = L ∧ KRow w3 .i64 a L c fP ∧ (L = 0 ∨ ∀ x, a = some x → w.heap.size ≤ x.block)) := Lib.hid ⟨HK.out.1, HK.out.2.1.below HB3.out, HK.out.2.2.imp id (fun h x hx => Nat.le_trans HSZ.out (h x hx))⟩
      go_wp2
      exact bodyPost_ret (v := .tuple #[.slice a m c, .int .i64 0]) (by simp [results, Tryz.results79, go_sem]) rfl ⟨a, m, c, rfl, fun _ => HK2.out, HE.out⟩
set_option maxHeartbeats 1600000 in
set_option maxRecDepth 100000 in
theorem crun_any (x : Int) (M : Nat) (w : World) (hM : M ≤ 1000000) (hx : -1000000000 ≤ x ∧ x ≤ 1000000000) :
    Calls Tryz.prog 83 #[.int .i64 x, .int .i64 M] w fun e w' => e = .returned (.slice (some ⟨w.heap.size, 0, none⟩) M M) ∧ KRow w' .i64 (some ⟨w.heap.size, 0, none⟩) M M (fun j => x + (j : Int)) ∧ Below w.heap.size w w' := by
  obtain ⟨i0, hi, hz0, hz1, hz2⟩ := info_parts infoI
  have hmk := fun wz => run_make (P := Tryz.prog) wz 22 3 i0 _ Tryz.underlying22 hi hz0 .i64 .i64 M M (by omega) (by omega) (by rw [hz2]; omega) (by omega)
  simp only [Int.toNat_natCast, hz1, Nat.mul_one] at hmk
  have H0 : Hid (Below w.heap.size w (w.alloc (.cells (madeCells (Value.cells (.int .i64 0)) M) 3)) ∧ KTo (w.alloc (.cells (madeCells (Value.cells (.int .i64 0)) M) 3)) w.heap.size M 0 (fun j => x + (j : Int))) :=
    Lib.hid ⟨(Below.refl _ _).alloc (Nat.le_refl _) _, KTo.made w M 3 _ rfl⟩
  have hMn : (0 : Int) ≤ M := by omega
  clear hi hz0 hz1 hz2
  go_enter Tryz.func83, Tryz.ntmps83
  go_wp2_with fail
  go_loopw [11] (fun i wr => ∃ k : Nat, k ≤ M ∧ i = .int .i64 k ∧ Hid (Below w.heap.size w wr ∧ KTo wr w.heap.size M k (fun j => x + (j : Int)))) (fun i _ => M - (intOf i).toNat)
  case atStart => exact ⟨0, by omega, rfl, H0.out⟩
  case round =>
    obtain ⟨k, hk, rfl, hrel⟩ := hrel
    obtain ⟨hbl, hto⟩ := hrel.out
    by_cases hlt : k < M
    · have hk0 : (0 : Int) ≤ k := by omega
      have hk1 : (k : Int) < M := by omega
      have w1 := IntWalk.i64_in (x + (k : Int)) (by omega)
      obtain ⟨⟨z0, x1⟩, y1⟩ := hto.place hlt
      have HN : Hid (Below w.heap.size w (wr.setCell ⟨w.heap.size, k, none⟩ (.int .i64 (x + (k : Int)))) ∧ KTo (wr.setCell ⟨w.heap.size, k, none⟩ (.int .i64 (x + (k : Int)))) w.heap.size M (k + 1) (fun j => x + (j : Int))) :=
        Lib.hid ⟨hbl.setCell (p := ⟨w.heap.size, k, none⟩) (Nat.le_refl _) _, hto.step hlt⟩
      clear hrel hbl hto
      go_wp2
      go_roundw
      case rel => exact ⟨k + 1, by omega, by go_num, HN.out⟩
      case measure => simp [intOf]; omega
    · obtain rfl : k = M := by omega
      have HE : Hid (KRow wr .i64 (some ⟨w.heap.size, 0, none⟩) k k (fun j => x + (j : Int)) ∧ Below w.heap.size w wr) := Lib.hid ⟨hto.done (by unfold maxLen; omega), hbl⟩
      clear hrel hbl hto
      go_wp2
      go_ret
      exact ⟨rfl, HE.out⟩
/-- A number brought near to 0. -/
def bnd (b x : Int) : Int := min (max x (0 - b)) b
theorem bnd_bd {b : Int} (hb : 0 ≤ b) (x : Int) : 0 - b ≤ bnd b x ∧ bnd b x ≤ b := by unfold bnd; omega
set_option maxHeartbeats 400000 in
set_option maxRecDepth 100000 in
theorem bounded_any (x : Int) (w : World) : Calls Tryz.prog 81 #[.int .i64 x] w fun e w' => e = .returned (.int .i64 (bnd 4097 x)) ∧ w = w' := by
  have e1 : bnd 4097 x = min (max x (-4097)) 4097 := rfl
  rw [e1]
  go_enter Tryz.func81, Tryz.ntmps81
  go_wp2
  go_ret
  exact ⟨rfl, rfl⟩
/-- How many of n elements a number takes, or leaves. -/
def tkN (drop : Bool) (t n : Int) : Int := if drop then max (n - (t.natAbs : Int)) 0 else (t.natAbs : Int)
/-- The place of the first one. -/
def tkF (drop : Bool) (t n : Int) : Int := if drop then (if 0 < t then t else 0) else (if t < 0 then n + t else 0)
/-- A function value that tells the places of an axis. -/
def Tells (fv : FuncId) (drop : Bool) : Prop :=
  ∀ (wz : World) (t n : Int), -5000 ≤ t → t ≤ 5000 → 0 ≤ n → n ≤ 4096 → Calls Tryz.prog fv #[.int .i64 t, .int .i64 n] wz fun e w' => ∃ a m c, e = .returned (.slice (some a) m c) ∧ (m : Int) = tkN drop t n ∧ KRow w' .i64 (some a) m c (fun j => tkF drop t n + (j : Int)) ∧ Below wz.heap.size wz w'
theorem ent_taken : Enters Tryz.prog 42 := enters_of Tryz.func42 (by kernel_rfl) rfl
theorem ent_left : Enters Tryz.prog 44 := enters_of Tryz.func44 (by kernel_rfl) rfl
set_option maxHeartbeats 400000 in
set_option maxRecDepth 100000 in
theorem taken_any : Tells 42 false := by
  intro w t n ht0 ht1 hn0 hn1
  by_cases h0 : t < 0
  · obtain ⟨m, hm⟩ : ∃ m : Nat, t = -(m : Int) := ⟨t.natAbs, by omega⟩
    have e1 : tkN false t n = (m : Int) := by unfold tkN; rw [if_neg (by decide)]; omega
    have e2 : tkF false t n = n + t := by unfold tkF; rw [if_neg (by decide), if_pos h0]
    rw [e1, e2]
    have hm2 : -t = (m : Int) := by omega
    have w1 := IntWalk.i64_in (n + t) (by omega)
    have w2 := IntWalk.i64_in (-t) (by omega)
    have RN := Lib.hid (crun_any (n + t) m w (by omega) (by omega))
    rw [hm2] at w2
    clear hm e1 e2
    go_enter Tryz.func42, Tryz.ntmps42
    go_wp2_with fail
    go_at_call 83
    (with_reducible refine RN.out.mono ?_)
    rintro e w2 ⟨rfl, hk, hb⟩
    have HE := Lib.hid (And.intro hk hb)
    clear hk hb
    go_wp2
    go_ret
    exact ⟨_, _, _, rfl, rfl, HE.out⟩
  · obtain ⟨m, hm⟩ : ∃ m : Nat, t = (m : Int) := ⟨t.natAbs, by omega⟩
    subst hm
    have e1 : tkN false (m : Int) n = (m : Int) := by unfold tkN; rw [if_neg (by decide)]; omega
    have e2 : tkF false (m : Int) n = 0 := by unfold tkF; rw [if_neg (by decide), if_neg h0]
    rw [e1, e2]
    have RN := Lib.hid (crun_any 0 m w (by omega) (by omega))
    clear e1 e2
    go_enter Tryz.func42, Tryz.ntmps42
    go_wp2_with fail
    go_at_call 83
    (with_reducible refine RN.out.mono ?_)
    rintro e w2 ⟨rfl, hk, hb⟩
    have HE := Lib.hid (And.intro hk hb)
    clear hk hb
    go_wp2
    go_ret
    exact ⟨_, _, _, rfl, rfl, HE.out⟩
set_option maxHeartbeats 400000 in
set_option maxRecDepth 100000 in
theorem left_any : Tells 44 true := by
  intro w t n ht0 ht1 hn0 hn1
  by_cases h0 : t < 0
  · obtain ⟨m, hm⟩ : ∃ m : Nat, max (n + t) 0 = (m : Int) := ⟨(max (n + t) 0).toNat, by omega⟩
    have e1 : tkN true t n = (m : Int) := by unfold tkN; rw [if_pos rfl]; omega
    have e2 : tkF true t n = 0 := by unfold tkF; rw [if_pos rfl, if_neg (by omega)]
    rw [e1, e2]
    have w1 := IntWalk.i64_in (n + t) (by omega)
    have RN := Lib.hid (crun_any 0 m w (by omega) (by omega))
    clear e1 e2
    go_enter Tryz.func44, Tryz.ntmps44
    go_wp2_with fail
    go_at_call 83
    (with_reducible refine RN.out.mono ?_)
    rintro e w2 ⟨rfl, hk, hb⟩
    have HE := Lib.hid (And.intro hk hb)
    clear hk hb
    go_wp2
    go_ret
    exact ⟨_, _, _, rfl, rfl, HE.out⟩
  · obtain ⟨m, hm⟩ : ∃ m : Nat, max (n - t) 0 = (m : Int) := ⟨(max (n - t) 0).toNat, by omega⟩
    have e1 : tkN true t n = (m : Int) := by unfold tkN; rw [if_pos rfl]; omega
    have e2 : tkF true t n = t := by unfold tkF; rw [if_pos rfl]; split <;> omega
    rw [e1, e2]
    have w1 := IntWalk.i64_in (n - t) (by omega)
    have RN := Lib.hid (crun_any t m w (by omega) (by omega))
    clear e1 e2
    go_enter Tryz.func44, Tryz.ntmps44
    go_wp2_with fail
    go_at_call 83
    (with_reducible refine RN.out.mono ?_)
    rintro e w2 ⟨rfl, hk, hb⟩
    have HE := Lib.hid (And.intro hk hb)
    clear hk hb
    go_wp2
    go_ret
    exact ⟨_, _, _, rfl, rfl, HE.out⟩
end Go.Proofs.YtifnamlgkooacaaGreatDoor
