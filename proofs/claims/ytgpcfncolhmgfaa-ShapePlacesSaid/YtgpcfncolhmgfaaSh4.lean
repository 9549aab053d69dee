/-
  Package shape: slices.Grow and slices.Concat of integers; Join, With, Without, by contract.
-/
import Derived.Test.YtgpcfncolhmgfaaSh1
import Derived.Lib.AppendZeros
import Derived.Laws.AppendOwnNone
namespace Go.Proofs.Ytgpcfncolhmgfaa
open Go.RowKit

set_option maxHeartbeats 1600000 in
set_option maxRecDepth 100000 in
theorem growI_any (n : Nat) (w : World) (hn : n ≤ 1000000) :
    Calls Try.prog 34 #[.slice none 0 0, .int .i64 n] w fun e w' => ∃ v, e = .returned v ∧ w'.ownsRow w.heap.size 3 1 v 0 [] ∧ Below w.heap.size w w' := by
  obtain ⟨i0, hi, hz0, hz1, hz2⟩ := info_parts infoI
  have d0 : ¬ ((n : Int) < 0) := by omega
  have hw0 := IntWalk.i64_in (n : Int) (by omega)
  by_cases h0 : n = 0
  · subst h0
    go_enter Try.func34, Try.ntmps34
    go_wp2
    go_ret
    exact ⟨_, rfl, World.ownsRow_nil _ _ _ _, Below.refl _ _⟩
  · have d1 : (0 : Int) < n := by omega
    have hr := fun ty => Lib.run_append_nil_zeros (P := Try.prog) w 22 3 ty 3 i0 _ .i64 .i64 Try.underlying22 Try.underlying3 hi hz0 n (by omega) (by rw [hz1]; omega) (by omega) (by rw [hz2]; omega)
    have hge := grownCap_ge w n 0 3
    have hcm := grownCap_le_maxLen w n 0 3 (by unfold maxLen; omega)
    have HE : Hid (∀ z, z = n → (w.drew.alloc (.cells (Builtin.zeroCells (Value.cells (.int .i64 0)) n ++ Builtin.zeroCells (Value.cells (.int .i64 0)) (grownCap w n 0 3 - n)) 3)).ownsRow w.heap.size 3 1 (.slice (some ⟨w.heap.size, 0, none⟩) 0 (grownCap w n 0 3)) 0 []) :=
      Lib.hid (fun _ _ => ⟨by simp, .inr ⟨w.heap.size, _, _, rfl, Nat.le_refl _, heap_alloc_new w.drew _, Nat.zero_le _, hcm, by rw [Array.size_append, size_zeroCells, size_zeroCells]; simp [Value.cells]; omega, by simp⟩⟩)
    have HB : Hid (Below w.heap.size w (w.drew.alloc (.cells (Builtin.zeroCells (Value.cells (.int .i64 0)) n ++ Builtin.zeroCells (Value.cells (.int .i64 0)) (grownCap w n 0 3 - n)) 3))) := Lib.hid ((Below.refl _ _).drew.alloc (Nat.le_refl _) _)
    generalize grownCap w n 0 3 = cp at *
    generalize w.drew.alloc (.cells (Builtin.zeroCells (Value.cells (.int .i64 0)) n ++ Builtin.zeroCells (Value.cells (.int .i64 0)) (cp - n)) 3) = w9 at *
    have d2 : (0 : Int) ≤ cp := by omega
    clear hi hz0 hz1 hz2 hcm
    go_enter Try.func34, Try.ntmps34
    go_wp2_with (at_builtin; refine Lib.wpList_append_run _ rfl _ _ _ _ rfl _ _ rfl rfl _ _ (hr _) ?_)
    go_ret
    exact ⟨_, rfl, HE.out n rfl, HB.out⟩

/-- Rows of integers in a row. -/
def LRow (w : World) (a : Option Addr) (m c : Nat) (A : Nat → Option Addr) (N C : Nat → Nat) (F : Nat → Nat → Int) : Prop := m ≤ c ∧ c ≤ maxLen ∧ (m = 0 ∨ ∃ b off, a = some ⟨b, off, none⟩ ∧ b < w.heap.size ∧
  ∀ j, j < m → w.cell? ⟨b, off + j, none⟩ = some (.slice (A j) (N j) (C j)) ∧ KRow w .i64 (A j) (N j) (C j) (F j) ∧ (A j = none → C j = 0))
theorem LRow.below {w w' : World} {a : Option Addr} {m c : Nat} {A : Nat → Option Addr} {N C : Nat → Nat} {F : Nat → Nat → Int} (h : LRow w a m c A N C F) (hb : Below w.heap.size w w') : LRow w' a m c A N C F := by
  obtain ⟨h1, h2, h3⟩ := h
  refine ⟨h1, h2, h3.imp id ?_⟩
  rintro ⟨b, off, rfl, hl, hc⟩
  exact ⟨b, off, rfl, Nat.lt_of_lt_of_le hl hb.size, fun j hj => ⟨(hb.cell (p := ⟨b, off + j, none⟩) hl).trans (hc j hj).1, (hc j hj).2.1.below hb, (hc j hj).2.2⟩⟩
theorem LRow.get {w : World} {a : Option Addr} {m c : Nat} {A : Nat → Option Addr} {N C : Nat → Nat} {F : Nat → Nat → Int} (h : LRow w a m c A N C F) {j : Nat} (hj : j < m) :
    ∃ b off, a = some ⟨b, off, none⟩ ∧ b < w.heap.size ∧ w.cell? ⟨b, off + j, none⟩ = some (.slice (A j) (N j) (C j)) ∧ KRow w .i64 (A j) (N j) (C j) (F j) ∧ (A j = none → C j = 0) := by
  rcases h.2.2 with h | ⟨b, off, rfl, hl, hc⟩
  · omega
  · exact ⟨b, off, rfl, hl, hc j hj⟩
/-- One row behind another one. -/
def app (f : Nat → Int) (n : Nat) (g : Nat → Int) : Nat → Int := fun j => if j < n then f j else g (j - n)
theorem kcs_congr {ki : IntKind} {f g : Nat → Int} : ∀ {n : Nat}, (∀ j, j < n → f j = g j) → kcs ki f n = kcs ki g n
  | 0, _ => rfl
  | n + 1, h => by unfold kcs; rw [kcs_congr (fun j hj => h j (by omega)), h n (by omega)]
theorem kcs_app (ki : IntKind) (f : Nat → Int) (n : Nat) (g : Nat → Int) : ∀ m, kcs ki (app f n g) (n + m) = kcs ki f n ++ kcs ki g m
  | 0 => by
    rw [Nat.add_zero, show kcs ki g 0 = [] from rfl, List.append_nil]
    exact kcs_congr fun j hj => by unfold app; rw [if_pos hj]
  | m + 1 => by
    show kcs ki (app f n g) (n + m) ++ [.int ki (app f n g (n + m))] = kcs ki f n ++ (kcs ki g m ++ [.int ki (g m)])
    rw [kcs_app ki f n g m, show app f n g (n + m) = g m by unfold app; rw [if_neg (by omega), Nat.add_sub_cancel_left], List.append_assoc]
def tot (N : Nat → Nat) : Nat → Nat
  | 0 => 0
  | k + 1 => tot N k + N k
theorem tot_le (N : Nat → Nat) : ∀ {k m : Nat}, k ≤ m → tot N k ≤ tot N m := by
  intro k m
  induction m with
  | zero => intro h; obtain rfl : k = 0 := by omega
            exact Nat.le_refl _
  | succ m ih =>
    intro h
    rcases Nat.lt_or_ge k (m + 1) with h3 | h3
    · have := ih (by omega)
      show tot N k ≤ tot N m + N m
      omega
    · obtain rfl : k = m + 1 := by omega
      exact Nat.le_refl _
/-- All rows, one behind the other. -/
def cat (N : Nat → Nat) (F : Nat → Nat → Int) : Nat → Nat → Int
  | 0 => fun _ => 0
  | k + 1 => app (cat N F k) (tot N k) (F k)
theorem kcs_one (ki : IntKind) (f : Nat → Int) (n : Nat) : ∀ u ∈ kcs ki f n, u.oneCell' = true := by
  induction n with
  | zero => intro u hu; cases hu
  | succ n ih =>
    intro u hu
    unfold kcs at hu
    rcases List.mem_append.1 hu with h | h
    · exact ih u h
    · simp at h; subst h; rfl
theorem krow_news {w : World} {ki : IntKind} {b off n c : Nat} {f : Nat → Int} (h : KRow w ki (some ⟨b, off, none⟩) n c f) : ∀ j u, (kcs ki f n)[j]? = some u → w.cell? ((⟨b, off, none⟩ : Addr).add j) = some u := fun j u hu => by
  have hj : j < n := by
    have := (List.getElem?_eq_some_iff.1 hu).1
    rwa [kcs_length] at this
  rw [kcs_get ki f n j hj] at hu
  obtain rfl := Option.some.inj hu
  obtain ⟨b', off', e, _, hc⟩ := h.get hj
  cases e
  rw [show (⟨b, off, none⟩ : Addr).add j = ⟨b, off + j, none⟩ by simp [Addr.add]]
  exact hc

/-- A row of integers, nil or not, appended to a row that the call owns. -/
theorem run_append_krow {w : World} (ty : TypeId) (base : Nat) (v : Value) (n : Nat) (xs : List Value) (hown : w.ownsRow base 3 1 v n xs) (a : Option Addr) (m c : Nat) (f : Nat → Int) (h : KRow w .i64 a m c f) (hn : a = none → c = 0) (h1 : n + m ≤ 1000000) (hbase : base ≤ w.heap.size) :
    ∃ v' w', (Builtin.append_ #[22, 22] ty #[v, .slice a m c]).run Try.prog w = .ok v' w' ∧ w'.ownsRow base 3 1 v' (n + m) (xs ++ kcs .i64 f m) ∧ w.grownBy w' v.ownBlock := by
  obtain ⟨i0, hi, hz0, hz1, hz2⟩ := info_parts infoI
  cases a with
  | none =>
    have hc := hn rfl
    subst hc
    have hm : m = 0 := by have := h.1; omega
    subst hm
    refine ⟨v, w, run_append_owned_none w base _ ty _ i0 1 Try.underlying22 hi v n xs hown, ?_, ⟨rfl, rfl, rfl, Nat.le_refl _, fun _ _ _ => rfl⟩⟩
    rw [show kcs .i64 f 0 = [] from rfl, List.append_nil]
    exact hown
  | some ad =>
    obtain ⟨b9, off9, sp⟩ := ad
    have hnews : ∀ i u, (kcs .i64 f m)[i]? = some u → w.cell? ((⟨b9, off9, sp⟩ : Addr).add i) = some u := by
      rcases h.2.2 with h0 | ⟨_, _, e, _⟩
      · rw [h0]; intro i u hu; simp [kcs] at hu
      · cases e; exact krow_news h
    obtain ⟨v', w', e1, e2, e3, _⟩ := run_append_own (P := Try.prog) w base 22 ty 3 i0 _ 1 8 Try.underlying22 hi hz0 hz1 hz2 rfl (by omega) v n xs hown ⟨b9, off9, sp⟩ m c (kcs .i64 f m) (by rw [kcs_length, Nat.mul_one]) hnews (kcs_one .i64 f m) (by unfold maxLen; omega) (by omega) hbase
    exact ⟨v', w', e1, e2, e3⟩

set_option maxHeartbeats 3200000 in
set_option maxRecDepth 100000 in
theorem concat_any (a : Option Addr) (m c : Nat) (A : Nat → Option Addr) (N C : Nat → Nat) (F : Nat → Nat → Int) (w : World) (h : LRow w a m c A N C F) (hm : m ≤ 1000) (ht : tot N m ≤ 1000000) :
    Calls Try.prog 32 #[.slice a m c] w fun e w' => ∃ a' c', e = .returned (.slice a' (tot N m) c') ∧ KRow w' .i64 a' (tot N m) c' (cat N F m) ∧ NewAt w w' a' (tot N m) c' ∧ Below w.heap.size w w' := by
  obtain ⟨i0, hi, hz0, hz1, hz2⟩ := info_parts infoI
  have H := Lib.hid h
  have HT : Hid (∀ k, k ≤ m → tot N k ≤ 1000000) := Lib.hid (fun k hk => Nat.le_trans (tot_le N hk) ht)
  have GR := Lib.hid (fun wz => growI_any (tot N m) wz ht)
  have HZ := Lib.hid (show ∀ k, tot N (k + 1) = tot N k + N k from fun _ => rfl)
  have hl := h.1
  clear h ht
  go_enter Try.func32, Try.ntmps32
  go_wp2
  go_loop [3, 11] (fun t i => ∃ k : Nat, k ≤ m ∧ i = .int .i64 k ∧ t = .int .i64 (tot N k : Nat)) (fun _ i => m - (intOf i).toNat)
  case atStart => exact ⟨0, by omega, rfl, rfl⟩
  case round =>
    obtain ⟨k, hk, rfl, rfl⟩ := hrel
    by_cases hlt : k < m
    · obtain ⟨b, off, rfl, hb, hc, _, _⟩ := H.out.get hlt
      have h1 := HT.out (k + 1) (by omega)
      rw [HZ.out k] at h1
      have E := Lib.hid (show ((tot N k : Nat) : Int) + (N k : Nat) = ((tot N (k + 1) : Nat) : Int) by rw [HZ.out k]; omega)
      have w2 := IntWalk.i64_in (((tot N k : Nat) : Int) + (N k : Nat)) (by omega)
      have d0 : ¬ (((tot N k : Nat) : Int) + (N k : Nat) < 0) := by omega
      clear h1
      generalize ((tot N k : Nat) : Int) = t at *
      generalize A k = ak at *
      generalize N k = nk at *
      generalize C k = ck at *
      go_wp2
      go_round
      case rel => exact ⟨k + 1, by omega, by go_num, vint E.out⟩
      case measure => simp [intOf]; omega
    · obtain rfl : k = m := by omega
      clear hlt
      generalize hX : tot N k = X at *
      go_wp2_with fail
      go_at_call 34
      (with_reducible refine (GR.out _).mono ?_)
      rintro e w2 ⟨v2, rfl, hown2, hb2⟩
      have HB2 := Lib.hid hb2
      have HO2 := Lib.hid hown2
      have H2 := Lib.hid (H.out.below hb2)
      clear hown2 hb2
      go_wp2_with fail
      go_loopw [6, 27] (fun v i wr => ∃ (j : Nat) (v6 : Value), j ≤ k ∧ i = .int .i64 j ∧ v6 = v ∧ Hid (Below w.heap.size w wr ∧ wr.ownsRow w.heap.size 3 1 v6 (tot N j) (kcs .i64 (cat N F j) (tot N j)))) (fun _ i _ => k - (intOf i).toNat)
      case atStart => exact ⟨0, _, by omega, rfl, rfl, HB2.out, HO2.out⟩
      case round =>
        obtain ⟨j, v6, hj, rfl, hv6, hrel⟩ := hrel
        subst hv6
        obtain ⟨hbl, hown⟩ := hrel.out
        have hwr := hbl.size
        by_cases hlt : j < k
        · obtain ⟨b, off, rfl, hb, hc, hkr, hnn⟩ := (H.out.below hbl).get hlt
          have HOWN := Lib.hid hown
          have HBL := Lib.hid hbl
          have h1 := HT.out (j + 1) (by omega)
          rw [HZ.out j] at h1
          have HE : Hid (∀ (v5 : Value) (w5 : World), w5.ownsRow w.heap.size 3 1 v5 (tot N j + N j) (kcs .i64 (cat N F j) (tot N j) ++ kcs .i64 (F j) (N j)) → w5.ownsRow w.heap.size 3 1 v5 (tot N (j + 1)) (kcs .i64 (cat N F (j + 1)) (tot N (j + 1)))) := Lib.hid (fun v5 w5 h => by
            rw [HZ.out j]
            show w5.ownsRow _ _ _ _ _ (kcs .i64 (app (cat N F j) (tot N j) (F j)) (tot N j + N j))
            rw [kcs_app]
            exact h)
          clear hown hbl hrel
          cases hA : A j with
          | none =>
            have hC := hnn hA
            have hN : N j = 0 := by have := hkr.1; omega
            rw [hA, hC, hN] at hc
            rw [hN, show kcs .i64 (F j) 0 = [] from rfl, List.append_nil, Nat.add_zero] at HE
            have HN := Lib.hid (HE.out _ _ HOWN.out)
            clear hkr hnn HE h1
            go_wp2_with (at_builtin; refine wpList_append_own_none rfl _ _ 22 rfl w.heap.size 3 i0 1 Try.underlying22 hi _ _ _ rfl HOWN.out rfl ?_)
            go_roundw
            case rel => exact ⟨j + 1, _, by omega, by go_num, rfl, HBL.out, HN.out⟩
            case measure => simp [intOf]; omega
          | some ad =>
            obtain ⟨b9, off9, sp⟩ := ad
            rw [hA] at hc hkr
            have hsp : sp = none ∨ N j = 0 := by
              rcases hkr.2.2 with h | ⟨_, _, e, _⟩
              · exact .inr h
              · cases e; exact .inl rfl
            have HNEWS : Hid (∀ i u, (kcs .i64 (F j) (N j))[i]? = some u → wr.cell? ((⟨b9, off9, sp⟩ : Addr).add i) = some u) := Lib.hid (by
              rcases hsp with rfl | h0
              · exact krow_news hkr
              · rw [h0]; intro i u hu; simp [kcs] at hu)
            have HL := Lib.hid (show (kcs .i64 (F j) (N j)).length = N j * 1 by rw [kcs_length, Nat.mul_one])
            have HONE := Lib.hid (kcs_one .i64 (F j) (N j))
            have HM := Lib.hid (show tot N j + N j ≤ maxLen by unfold maxLen; omega)
            have HY := Lib.hid (show (tot N j + N j) * 8 ≤ 140737488355328 by omega)
            clear hkr hnn h1 hsp
            generalize N j = nj at *
            generalize C j = cj at *
            generalize kcs .i64 (F j) nj = news at *
            generalize tot N j = tj at *
            go_wp2_with (at_builtin; refine wpList_append_own _ rfl _ _ 22 rfl w.heap.size 3 i0 _ 1 8 Try.underlying22 hi hz0 hz1 hz2 rfl (by omega) _ _ _ rfl HOWN.out ⟨b9, off9, sp⟩ nj cj news rfl HL.out HNEWS.out HONE.out HM.out HY.out hwr ?_)
            intro v5 w5 hown5 hgrow _
            have HN := Lib.hid (And.intro (HBL.out.grown hgrow hwr (fun q hq => (HOWN.out.lt q hq).1)) (HE.out _ _ hown5))
            clear hown5 hgrow
            go_wp2
            go_roundw
            case rel => exact ⟨j + 1, _, by omega, by go_num, rfl, HN.out⟩
            case measure => simp [intOf]; omega
        · obtain rfl : j = k := by omega
          rw [hX] at hown
          have HE : Hid (∃ a' c', v6 = .slice a' X c' ∧ KRow wr .i64 a' X c' (cat N F j) ∧ NewAt w wr a' X c') := Lib.hid (by
            obtain ⟨a', c', e, hk⟩ := KRow.of_own hown
            refine ⟨a', c', e, hk, ?_⟩
            rcases hown.2 with ⟨e2, h0⟩ | ⟨g, cap, cur, e2, hge, hh, _⟩
            · rw [e] at e2
              injection e2 with e3 e4 e5
              exact .inl ⟨e3, e4, e5⟩
            · rw [e] at e2
              injection e2 with e3 e4 e5
              exact .inr ⟨g, e3, hge, Free.of_block hh⟩)
          have HBL := Lib.hid hbl
          clear hown hbl hrel hlt
          go_wp2
          go_ret
          obtain ⟨a', c', rfl, hk, hn⟩ := HE.out
          rw [hX]
          exact ⟨a', c', rfl, hk, hn, HBL.out⟩

set_option maxHeartbeats 1600000 in
theorem join_any (a : Option Addr) (m c : Nat) (A : Nat → Option Addr) (N C : Nat → Nat) (F : Nat → Nat → Int) (w : World) (h : LRow w a m c A N C F) (hm : m ≤ 1000) (ht : tot N m ≤ 1000000) :
    Calls Try.prog 21 #[.slice a m c] w fun e w' => ∃ a' c', e = .returned (.slice a' (tot N m) c') ∧ KRow w' .i64 a' (tot N m) c' (cat N F m) ∧ Below w.heap.size w w' := by
  have CO := Lib.hid (concat_any a m c A N C F w h hm ht)
  generalize tot N m = X at *
  generalize cat N F m = G at *
  clear h
  go_enter Try.func21, Try.ntmps21
  go_wp2_with fail
  go_at_call 32
  (with_reducible refine (CO.out).mono ?_)
  rintro e w1 ⟨a1, c1, rfl, hk, _, hb⟩
  have HE := Lib.hid (And.intro hk hb)
  clear hk hb
  go_wp2
  go_ret
  exact ⟨_, _, rfl, HE.out⟩

/-- With another number at one place. -/
def wiF (f : Nat → Int) (i x : Int) : Nat → Int := fun j => if (j : Int) = i then x else f j

set_option maxHeartbeats 1600000 in
set_option maxRecDepth 100000 in
theorem with_any (a : Option Addr) (n c : Nat) (f : Nat → Int) (i x : Int) (w : World) (h : KRow w .i64 a n c f) (hn : n ≤ 1000000) :
    Calls Try.prog 22 #[.slice a n c, .int .i64 i, .int .i64 x] w fun e w' => ∃ a' c', e = .returned (.slice a' n c') ∧ KRow w' .i64 a' n c' (wiF f i x) ∧ Below w.heap.size w w' := by
  have CL := Lib.hid (cloneI_new a n c f w h hn)
  have HA := Lib.hid (fun a c i wz => has_any a n c i wz)
  clear h
  by_cases hin : 0 ≤ i ∧ i < n
  · obtain ⟨h0, h1⟩ := hin
    obtain ⟨k, rfl⟩ : ∃ k : Nat, i = k := ⟨i.toNat, by omega⟩
    have hk : k < n := by omega
    have HA := Lib.hid (fun a c wz => HA.out a c k wz)
    rw [decide_eq_true h0, decide_eq_true h1] at HA
    go_enter Try.func22, Try.ntmps22
    go_wp2_with fail
    go_at_call 33
    (with_reducible refine (CL.out).mono ?_)
    rintro e w1 ⟨a1, c1, rfl, hk1, hn1, hb1⟩
    obtain ⟨b, off, rfl, hb, hc⟩ := hk1.get hk
    have hg : w.heap.size ≤ b ∧ off = 0 ∧ Free w1 b := by
      rcases hn1 with ⟨e, _⟩ | ⟨g, e, h1, h2⟩
      · cases e
      · cases e; exact ⟨h1, rfl, h2⟩
    obtain ⟨hge, rfl, hfr⟩ := hg
    rw [Nat.zero_add] at hc
    have hfz := hfr k
    have HE : Hid (KRow (w1.setCell ⟨b, k, none⟩ (.int .i64 x)) .i64 (some ⟨b, 0, none⟩) n c1 (wiF f k x) ∧ Below w.heap.size w (w1.setCell ⟨b, k, none⟩ (.int .i64 x))) := Lib.hid ⟨⟨hk1.1, hk1.2.1, .inr ⟨b, 0, rfl, by simpa using hb, fun j hj => by
      rw [Nat.zero_add]
      unfold wiF
      by_cases e : j = k
      · subst e
        rw [if_pos rfl]
        exact World.cell?_setCell_same _ _ _ hc
      · rw [if_neg (by omega), World.cell?_setCell_other _ _ _ _ (fun h => by injection h with _ h; omega)]
        obtain ⟨b', off', e', _, hc'⟩ := hk1.get hj
        cases e'
        rwa [Nat.zero_add] at hc'⟩⟩, hb1.setCell (p := ⟨b, k, none⟩) hge _⟩
    clear hk1 hn1 hb1 hfr
    go_wp2_with fail
    go_at_call 29
    (with_reducible refine (HA.out _ _ _).mono ?_)
    rintro e w2 ⟨rfl, rfl⟩
    go_wp2
    go_ret
    exact ⟨_, _, rfl, HE.out⟩
  · have HA := Lib.hid (fun a c wz => HA.out a c i wz)
    rw [show (decide (0 ≤ i) && decide (i < (n : Int))) = false from by
      cases hx : (decide (0 ≤ i) && decide (i < (n : Int))) with
      | false => rfl
      | true => rw [Bool.and_eq_true, decide_eq_true_eq, decide_eq_true_eq] at hx; exact absurd hx hin] at HA
    have HW : Hid (∀ j, j < n → wiF f i x j = f j) := Lib.hid (fun j hj => by unfold wiF; rw [if_neg (by omega)])
    clear hin
    go_enter Try.func22, Try.ntmps22
    go_wp2_with fail
    go_at_call 33
    (with_reducible refine (CL.out).mono ?_)
    rintro e w1 ⟨a1, c1, rfl, hk1, hn1, hb1⟩
    have HE : Hid (KRow w1 .i64 a1 n c1 (wiF f i x) ∧ Below w.heap.size w w1) := Lib.hid ⟨⟨hk1.1, hk1.2.1, hk1.2.2.imp id (by
      rintro ⟨b, off, rfl, hl, hc⟩
      exact ⟨b, off, rfl, hl, fun j hj => by rw [HW.out j hj]; exact hc j hj⟩)⟩, hb1⟩
    clear hk1 hn1 hb1
    go_wp2_with fail
    go_at_call 29
    (with_reducible refine (HA.out _ _ _).mono ?_)
    rintro e w2 ⟨rfl, rfl⟩
    go_wp2
    go_ret
    exact ⟨_, _, rfl, HE.out⟩

end Go.Proofs.Ytgpcfncolhmgfaa
