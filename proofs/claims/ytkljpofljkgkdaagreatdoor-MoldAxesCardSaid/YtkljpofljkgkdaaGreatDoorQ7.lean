/-
  Texts of this seat, laid together.
-/
import Derived.Lib.AppendZeros
import Derived.Laws.AppendOwnNone
import Derived.Test.YtkljpofljkgkdaaGreatDoorQ1
import Derived.Test.YtkljpofljkgkdaaGreatDoorQ2
import Derived.Test.YtkljpofljkgkdaaGreatDoorQ3
import Derived.Test.YtkljpofljkgkdaaGreatDoorQ4
import Derived.Test.YtkljpofljkgkdaaGreatDoorQ5
import Derived.Test.YtkljpofljkgkdaaGreatDoorQ6

namespace Go.Proofs.YtkljpofljkgkdaaGreatDoor
open Go.RowKit
/-- The numbers of the index at a place, the last one first. -/
def dgs (f : Nat → Int) : Nat → Int → Nat → Int
  | 0, _, _ => 0
  | k + 1, r, j => if j = k then r % f k else dgs f k (r / f k) j
theorem itm_pos {f : Nat → Int} {n : Nat} (h : axB f n = true) {at' : Int} (h0 : 0 ≤ at') (h1 : at' < itm f n) : ∀ j, j < n → 1 ≤ f j := by
  induction n generalizing at' with
  | zero => intro j hj; omega
  | succ n ih =>
    intro j hj
    have hn := ax_nn h (show n < n + 1 by omega)
    have hne : f n ≠ 0 := by
      intro e
      have : itm f (n + 1) = itm f n * f n := rfl
      rw [this, e, Int.mul_zero] at h1
      omega
    by_cases e : j = n
    · subst e; omega
    · have e1 : itm f (n + 1) = itm f n * f n := rfl
      have hb := (ax_bd (ax_le (Nat.le_succ n) h)).2.2.1
      have : 0 < itm f n := by
        rcases Int.lt_or_le 0 (itm f n) with h3 | h3
        · exact h3
        · have h4 : itm f n = 0 := by omega
          rw [e1, h4, Int.zero_mul] at h1
          omega
      exact ih (ax_le (Nat.le_succ n) h) (Int.le_refl 0) this j (by omega)
theorem quo_lt {f : Nat → Int} {k : Nat} {r : Int} (h1 : 1 ≤ f k) (hr0 : 0 ≤ r) (hr : r < itm f (k + 1)) : 0 ≤ r / f k ∧ r / f k < itm f k ∧ 0 ≤ r % f k ∧ r % f k < f k := by
  refine ⟨Int.ediv_nonneg hr0 (by omega), Int.ediv_lt_of_lt_mul (by omega) hr, Int.emod_nonneg _ (by omega), Int.emod_lt_of_pos _ (by omega)⟩
theorem dgs_in {f : Nat → Int} : ∀ {n : Nat} {r : Int}, (∀ j, j < n → 1 ≤ f j) → 0 ≤ r → r < itm f n → inB f (dgs f n r) n = true ∧ plc f (dgs f n r) n = r := by
  intro n
  induction n with
  | zero => intro r _ h0 h1; refine ⟨rfl, ?_⟩; have : itm f 0 = 1 := rfl; show 0 = r; omega
  | succ n ih =>
    intro r hp h0 h1
    obtain ⟨q1, q2, q3, q4⟩ := quo_lt (hp n (by omega)) h0 h1
    obtain ⟨i1, i2⟩ := ih (fun j hj => hp j (by omega)) q1 q2
    have hd : ∀ j, j < n → dgs f (n + 1) r j = dgs f n (r / f n) j := fun j hj => by
      show (if j = n then _ else _) = _
      rw [if_neg (by omega)]
    have hn : dgs f (n + 1) r n = r % f n := by show (if n = n then _ else _) = _; rw [if_pos rfl]
    have hin : ∀ k, k ≤ n → inB f (dgs f (n + 1) r) k = inB f (dgs f n (r / f n)) k := by
      intro k
      induction k with
      | zero => intro _; rfl
      | succ k ihk => intro hk; unfold inB; rw [ihk (by omega), hd k (by omega)]
    have hpl : ∀ k, k ≤ n → plc f (dgs f (n + 1) r) k = plc f (dgs f n (r / f n)) k := by
      intro k
      induction k with
      | zero => intro _; rfl
      | succ k ihk => intro hk; unfold plc; rw [ihk (by omega), hd k (by omega)]
    constructor
    · unfold inB
      rw [hin n (Nat.le_refl _), i1, hn, decide_eq_true q3, decide_eq_true q4]
      rfl
    · unfold plc
      rw [hpl n (Nat.le_refl _), i2, hn, Int.mul_comm]
      exact Int.mul_ediv_add_emod _ _
/-- A block of n integers of its own. -/
def IBox (w : World) (g n : Nat) (h : Nat → Int) : Prop := g < w.heap.size ∧ Free w g ∧ ∀ j, j < n → w.cell? ⟨g, j, none⟩ = some (.int .i64 (h j))
theorem IBox.below {w w' : World} {g n : Nat} {h : Nat → Int} (q : IBox w g n h) (hb : Below w.heap.size w w') : IBox w' g n h :=
  ⟨Nat.lt_of_lt_of_le q.1 hb.size, q.2.1.below hb q.1, fun j hj => (hb.cell (p := ⟨g, j, none⟩) q.1).trans (q.2.2 j hj)⟩
theorem IBox.set {w : World} {g n k : Nat} {h : Nat → Int} (q : IBox w g n h) (hk : k < n) (x : Int) : IBox (w.setCell ⟨g, k, none⟩ (.int .i64 x)) g n (fun j => if j = k then x else h j) := by
  refine ⟨by simpa using q.1, q.2.1.set _ _, fun j hj => ?_⟩
  by_cases e : j = k
  · subst e
    show _ = some (Value.int .i64 (if j = j then x else h j))
    rw [if_pos rfl]
    exact World.cell?_setCell_same _ _ _ (q.2.2 j hj)
  · show _ = some (Value.int .i64 (if j = k then x else h j))
    rw [if_neg e, World.cell?_setCell_other _ _ _ _ (fun h => by injection h with _ h; omega)]
    exact q.2.2 j hj
theorem IBox.congr {w : World} {g n : Nat} {h h' : Nat → Int} (q : IBox w g n h) (e : ∀ j, j < n → h j = h' j) : IBox w g n h' := ⟨q.1, q.2.1, fun j hj => by rw [q.2.2 j hj, e j hj]⟩
theorem IBox.krow {w : World} {g n : Nat} {h : Nat → Int} (q : IBox w g n h) (hn : n ≤ maxLen) : KRow w .i64 (some ⟨g, 0, none⟩) n n h :=
  ⟨Nat.le_refl _, hn, .inr ⟨g, 0, rfl, q.1, fun j hj => by rw [Nat.zero_add]; exact q.2.2 j hj⟩⟩
theorem IBox.made (w : World) (n : Nat) (t : TypeId) {mc : Array Value} (hmc : mc = madeCells (Value.cells (.int .i64 0)) n) : IBox (w.alloc (.cells mc t)) w.heap.size n (fun _ => 0) := by
  subst hmc
  have hR := Row.new w t (madeCells (Value.cells (.int .i64 0)) n)
  refine ⟨hR.lt, fun o => hR.free o, fun j hj => ?_⟩
  rw [hR.cell]
  unfold madeCells
  rw [Array.getElem?_map, Array.getElem?_range, if_pos (by omega), Option.map_some]
  simp [Value.cells, Nat.mod_one]
/-- Is it a place of the shape? -/
def ixB (f : Nat → Int) (n : Nat) (i : Int) : Bool := shB f n && (decide (0 ≤ i) && decide (i < itm f n))
/-- What Index answers. -/
def IxTold (f : Nat → Int) (n : Nat) (i : Int) (w w' : World) (e : Ending) : Prop := ∃ a m c, e = .returned (.tuple #[.slice a m c, .bool (ixB f n i)]) ∧ (if ixB f n i then m = n ∧ KRow w' .i64 a n c (dgs f n i) else a = none ∧ m = 0 ∧ c = 0) ∧ Below w.heap.size w w'
theorem IxTold.no {f : Nat → Int} {n : Nat} {i : Int} {w w' : World} (hb : Below w.heap.size w w') (h : ixB f n i = false) : IxTold f n i w w' (.returned (.tuple #[.slice none 0 0, .bool false])) := by
  refine ⟨none, 0, 0, ?_, ?_, hb⟩
  · rw [h]
  · rw [h, if_neg (by decide)]; exact ⟨rfl, rfl, rfl⟩
end Go.Proofs.YtkljpofljkgkdaaGreatDoor

namespace Go.Proofs.YtkljpofljkgkdaaGreatDoor
open Go.RowKit
set_option maxHeartbeats 1600000 in
set_option maxRecDepth 100000 in
theorem growI_any (n : Nat) (w : World) (hn : n ≤ 1000000) :
    Calls Tryz.prog 124 #[.slice none 0 0, .int .i64 n] w fun e w' => ∃ v, e = .returned v ∧ w'.ownsRow w.heap.size 3 1 v 0 [] ∧ Below w.heap.size w w' := by
  obtain ⟨i0, hi, hz0, hz1, hz2⟩ := info_parts infoI
  have d0 : ¬ ((n : Int) < 0) := by omega
  have hw0 := IntWalk.i64_in (n : Int) (by omega)
  by_cases h0 : n = 0
  · subst h0
    go_enter Tryz.func124, Tryz.ntmps124
    go_wp2
    go_ret
    exact ⟨_, rfl, World.ownsRow_nil _ _ _ _, Below.refl _ _⟩
  · have d1 : (0 : Int) < n := by omega
    have hr := fun ty => Lib.run_append_nil_zeros (P := Tryz.prog) w 22 3 ty 3 i0 _ .i64 .i64 Tryz.underlying22 Tryz.underlying3 hi hz0 n (by omega) (by rw [hz1]; omega) (by omega) (by rw [hz2]; omega)
    have hge := grownCap_ge w n 0 3
    have hcm := grownCap_le_maxLen w n 0 3 (by unfold maxLen; omega)
    have HE : Hid (∀ z, z = n → (w.drew.alloc (.cells (Builtin.zeroCells (Value.cells (.int .i64 0)) n ++ Builtin.zeroCells (Value.cells (.int .i64 0)) (grownCap w n 0 3 - n)) 3)).ownsRow w.heap.size 3 1 (.slice (some ⟨w.heap.size, 0, none⟩) 0 (grownCap w n 0 3)) 0 []) :=
      Lib.hid (fun _ _ => ⟨by simp, .inr ⟨w.heap.size, _, _, rfl, Nat.le_refl _, heap_alloc_new w.drew _, Nat.zero_le _, hcm, by rw [Array.size_append, size_zeroCells, size_zeroCells]; simp [Value.cells]; omega, by simp⟩⟩)
    have HB : Hid (Below w.heap.size w (w.drew.alloc (.cells (Builtin.zeroCells (Value.cells (.int .i64 0)) n ++ Builtin.zeroCells (Value.cells (.int .i64 0)) (grownCap w n 0 3 - n)) 3))) := Lib.hid ((Below.refl _ _).drew.alloc (Nat.le_refl _) _)
    generalize grownCap w n 0 3 = cp at *
    generalize w.drew.alloc (.cells (Builtin.zeroCells (Value.cells (.int .i64 0)) n ++ Builtin.zeroCells (Value.cells (.int .i64 0)) (cp - n)) 3) = w9 at *
    have d2 : (0 : Int) ≤ cp := by omega
    clear hi hz0 hz1 hz2 hcm
    go_enter Tryz.func124, Tryz.ntmps124
    go_wp2_with (at_builtin; refine Lib.wpList_append_run _ rfl _ _ _ _ rfl _ _ rfl rfl _ _ (hr _) ?_)
    go_ret
    exact ⟨_, rfl, HE.out n rfl, HB.out⟩
/-- Rows of integers in a row. -/
def LRow (w : World) (a : Option Addr) (m c : Nat) (A : Nat → Option Addr) (N C : Nat → Nat) (F : Nat → Nat → Int) : Prop := m ≤ c ∧ c ≤ maxLen ∧ (m = 0 ∨ ∃ b off, a = some ⟨b, off, none⟩ ∧ b < w.heap.size ∧
  ∀ j, j < m → w.cell? ⟨b, off + j, none⟩ = some (.slice (A j) (N j) (C j)) ∧ KRow w .i64 (A j) (N j) (C j) (F j) ∧ (A j = none → C j = 0))
theorem LRow.below {w w' : World} {a : Option Addr} {m c : Nat} {A : Nat → Option Addr} {N C : Nat → Nat} {F : Nat → Nat → Int} (h : LRow w a m c A N C F) (hb : Below w.heap.size w w') : LRow w' a m c A N C F := by
  obtain ⟨h1, h2, h3⟩ := h
  refine ⟨h1, h2, h3.imp id ?_⟩
  rintro ⟨b, off, rfl, hl, hc⟩
  exact ⟨b, off, rfl, Nat.lt_of_lt_of_le hl hb.size, fun j hj => ⟨(hb.cell (p := ⟨b, off + j, none⟩) hl).trans (hc j hj).1, (hc j hj).2.1.below hb, (hc j hj).2.2⟩⟩
theorem LRow.get {w : World} {a : Option Addr} {m c : Nat} {A : Nat → Option Addr} {N C : Nat → Nat} {F : Nat → Nat → Int} (h : LRow w a m c A N C F) {j : Nat} (hj : j < m) :
    ∃ b off, a = some ⟨b, off, none⟩ ∧ b < w.heap.size ∧ w.cell? ⟨b, off + j, none⟩ = some (.slice (A j) (N j) (C j)) ∧ KRow w .i64 (A j) (N j) (C j) (F j) ∧ (A j = none → C j = 0) := by
  rcases h.2.2 with h | ⟨b, off, rfl, hl, hc⟩
  · omega
  · exact ⟨b, off, rfl, hl, hc j hj⟩
/-- One row behind another one. -/
def app (f : Nat → Int) (n : Nat) (g : Nat → Int) : Nat → Int := fun j => if j < n then f j else g (j - n)
theorem kcs_congr {ki : IntKind} {f g : Nat → Int} : ∀ {n : Nat}, (∀ j, j < n → f j = g j) → kcs ki f n = kcs ki g n
  | 0, _ => rfl
  | n + 1, h => by unfold kcs; rw [kcs_congr (fun j hj => h j (by omega)), h n (by omega)]
theorem kcs_app (ki : IntKind) (f : Nat → Int) (n : Nat) (g : Nat → Int) : ∀ m, kcs ki (app f n g) (n + m) = kcs ki f n ++ kcs ki g m
  | 0 => by
    rw [Nat.add_zero, show kcs ki g 0 = [] from rfl, List.append_nil]
    exact kcs_congr fun j hj => by unfold app; rw [if_pos hj]
  | m + 1 => by
    show kcs ki (app f n g) (n + m) ++ [.int ki (app f n g (n + m))] = kcs ki f n ++ (kcs ki g m ++ [.int ki (g m)])
    rw [kcs_app ki f n g m, show app f n g (n + m) = g m by unfold app; rw [if_neg (by omega), Nat.add_sub_cancel_left], List.append_assoc]
def tot (N : Nat → Nat) : Nat → Nat
  | 0 => 0
  | k + 1 => tot N k + N k
theorem tot_le (N : Nat → Nat) : ∀ {k m : Nat}, k ≤ m → tot N k ≤ tot N m := by
  intro k m
  induction m with
  | zero => intro h; obtain rfl : k = 0 := by omega
            exact Nat.le_refl _
  | succ m ih =>
    intro h
    rcases Nat.lt_or_ge k (m + 1) with h3 | h3
    · have := ih (by omega)
      show tot N k ≤ tot N m + N m
      omega
    · obtain rfl : k = m + 1 := by omega
      exact Nat.le_refl _
/-- All rows, one behind the other. -/
def cat (N : Nat → Nat) (F : Nat → Nat → Int) : Nat → Nat → Int
  | 0 => fun _ => 0
  | k + 1 => app (cat N F k) (tot N k) (F k)
theorem kcs_one (ki : IntKind) (f : Nat → Int) (n : Nat) : ∀ u ∈ kcs ki f n, u.oneCell' = true := by
  induction n with
  | zero => intro u hu; cases hu
  | succ n ih =>
    intro u hu
    unfold kcs at hu
    rcases List.mem_append.1 hu with h | h
    · exact ih u h
    · simp at h; subst h; rfl
theorem krow_news {w : World} {ki : IntKind} {b off n c : Nat} {f : Nat → Int} (h : KRow w ki (some ⟨b, off, none⟩) n c f) : ∀ j u, (kcs ki f n)[j]? = some u → w.cell? ((⟨b, off, none⟩ : Addr).add j) = some u := fun j u hu => by
  have hj : j < n := by
    have := (List.getElem?_eq_some_iff.1 hu).1
    rwa [kcs_length] at this
  rw [kcs_get ki f n j hj] at hu
  obtain rfl := Option.some.inj hu
  obtain ⟨b', off', e, _, hc⟩ := h.get hj
  cases e
  rw [show (⟨b, off, none⟩ : Addr).add j = ⟨b, off + j, none⟩ by simp [Addr.add]]
  exact hc
set_option maxHeartbeats 3200000 in
set_option maxRecDepth 100000 in
theorem concat_any (a : Option Addr) (m c : Nat) (A : Nat → Option Addr) (N C : Nat → Nat) (F : Nat → Nat → Int) (w : World) (h : LRow w a m c A N C F) (hm : m ≤ 1000) (ht : tot N m ≤ 1000000) :
    Calls Tryz.prog 95 #[.slice a m c] w fun e w' => ∃ a' c', e = .returned (.slice a' (tot N m) c') ∧ KRow w' .i64 a' (tot N m) c' (cat N F m) ∧ NewAt w w' a' (tot N m) c' ∧ Below w.heap.size w w' := by
  obtain ⟨i0, hi, hz0, hz1, hz2⟩ := info_parts infoI
  have H := Lib.hid h
  have HT : Hid (∀ k, k ≤ m → tot N k ≤ 1000000) := Lib.hid (fun k hk => Nat.le_trans (tot_le N hk) ht)
  have GR := Lib.hid (fun wz => growI_any (tot N m) wz ht)
  have HZ := Lib.hid (show ∀ k, tot N (k + 1) = tot N k + N k from fun _ => rfl)
  have hl := h.1
  clear h ht
  go_enter Tryz.func95, Tryz.ntmps95
  go_wp2
  go_loop [3, 11] (fun t i => ∃ k : Nat, k ≤ m ∧ i = .int .i64 k ∧ t = .int .i64 (tot N k : Nat)) (fun _ i => m - (intOf i).toNat)
  case atStart => exact ⟨0, by omega, rfl, rfl⟩
  case round =>
    obtain ⟨k, hk, rfl, rfl⟩ := hrel
    by_cases hlt : k < m
    · obtain ⟨b, off, rfl, hb, hc, _, _⟩ := H.out.get hlt
      have h1 := HT.out (k + 1) (by omega)
      rw [HZ.out k] at h1
      have E := Lib.hid (show ((tot N k : Nat) : Int) + (N k : Nat) = ((tot N (k + 1) : Nat) : Int) by rw [HZ.out k]; omega)
      have w2 := IntWalk.i64_in (((tot N k : Nat) : Int) + (N k : Nat)) (by omega)
      have d0 : ¬ (((tot N k : Nat) : Int) + (N k : Nat) < 0) := by omega
      clear h1
      generalize ((tot N k : Nat) : Int) = t at *
      generalize A k = ak at *
      generalize N k = nk at *
      generalize C k = ck at *
      go_wp2
      go_round
      case rel => exact ⟨k + 1, by omega, by go_num, vint E.out⟩
      case measure => simp [intOf]; omega
    · obtain rfl : k = m := by omega
      clear hlt
      generalize hX : tot N k = X at *
      go_wp2_with fail
      go_at_call 124
      (with_reducible refine (GR.out _).mono ?_)
      rintro e w2 ⟨v2, rfl, hown2, hb2⟩
      have HB2 := Lib.hid hb2
      have HO2 := Lib.hid hown2
      have H2 := Lib.hid (H.out.below hb2)
      clear hown2 hb2
      go_wp2_with fail
      go_loopw [6, 27] (fun v i wr => ∃ (j : Nat) (v6 : Value), j ≤ k ∧ i = .int .i64 j ∧ v6 = v ∧ Hid (Below w.heap.size w wr ∧ wr.ownsRow w.heap.size 3 1 v6 (tot N j) (kcs .i64 (cat N F j) (tot N j)))) (fun _ i _ => k - (intOf i).toNat)
      case atStart => exact ⟨0, _, by omega, rfl, rfl, HB2.out, HO2.out⟩
      case round =>
        obtain ⟨j, v6, hj, rfl, hv6, hrel⟩ := hrel
        subst hv6
        obtain ⟨hbl, hown⟩ := hrel.out
        have hwr := hbl.size
        by_cases hlt : j < k
        · obtain ⟨b, off, rfl, hb, hc, hkr, hnn⟩ := (H.out.below hbl).get hlt
          have HOWN := Lib.hid hown
          have HBL := Lib.hid hbl
          have h1 := HT.out (j + 1) (by omega)
          rw [HZ.out j] at h1
          have HE : Hid (∀ (v5 : Value) (w5 : World), w5.ownsRow w.heap.size 3 1 v5 (tot N j + N j) (kcs .i64 (cat N F j) (tot N j) ++ kcs .i64 (F j) (N j)) → w5.ownsRow w.heap.size 3 1 v5 (tot N (j + 1)) (kcs .i64 (cat N F (j + 1)) (tot N (j + 1)))) := Lib.hid (fun v5 w5 h => by
            rw [HZ.out j]
            show w5.ownsRow _ _ _ _ _ (kcs .i64 (app (cat N F j) (tot N j) (F j)) (tot N j + N j))
            rw [kcs_app]
            exact h)
          clear hown hbl hrel
          cases hA : A j with
          | none =>
            have hC := hnn hA
            have hN : N j = 0 := by have := hkr.1; omega
            rw [hA, hC, hN] at hc
            rw [hN, show kcs .i64 (F j) 0 = [] from rfl, List.append_nil, Nat.add_zero] at HE
            have HN := Lib.hid (HE.out _ _ HOWN.out)
            clear hkr hnn HE h1
            go_wp2_with (at_builtin; refine wpList_append_own_none rfl _ _ 22 rfl w.heap.size 3 i0 1 Tryz.underlying22 hi _ _ _ rfl HOWN.out rfl ?_)
            go_roundw
            case rel => exact ⟨j + 1, _, by omega, by go_num, rfl, HBL.out, HN.out⟩
            case measure => simp [intOf]; omega
          | some ad =>
            obtain ⟨b9, off9, sp⟩ := ad
            rw [hA] at hc hkr
            have hsp : sp = none ∨ N j = 0 := by
              rcases hkr.2.2 with h | ⟨_, _, e, _⟩
              · exact .inr h
              · cases e; exact .inl rfl
            have HNEWS : Hid (∀ i u, (kcs .i64 (F j) (N j))[i]? = some u → wr.cell? ((⟨b9, off9, sp⟩ : Addr).add i) = some u) := Lib.hid (by
              rcases hsp with rfl | h0
              · exact krow_news hkr
              · rw [h0]; intro i u hu; simp [kcs] at hu)
            have HL := Lib.hid (show (kcs .i64 (F j) (N j)).length = N j * 1 by rw [kcs_length, Nat.mul_one])
            have HONE := Lib.hid (kcs_one .i64 (F j) (N j))
            have HM := Lib.hid (show tot N j + N j ≤ maxLen by unfold maxLen; omega)
            have HY := Lib.hid (show (tot N j + N j) * 8 ≤ 140737488355328 by omega)
            clear hkr hnn h1 hsp
            generalize N j = nj at *
            generalize C j = cj at *
            generalize kcs .i64 (F j) nj = news at *
            generalize tot N j = tj at *
            go_wp2_with (at_builtin; refine wpList_append_own _ rfl _ _ 22 rfl w.heap.size 3 i0 _ 1 8 Tryz.underlying22 hi hz0 hz1 hz2 rfl (by omega) _ _ _ rfl HOWN.out ⟨b9, off9, sp⟩ nj cj news rfl HL.out HNEWS.out HONE.out HM.out HY.out hwr ?_)
            intro v5 w5 hown5 hgrow _
            have HN := Lib.hid (And.intro (HBL.out.grown hgrow hwr (fun q hq => (HOWN.out.lt q hq).1)) (HE.out _ _ hown5))
            clear hown5 hgrow
            go_wp2
            go_roundw
            case rel => exact ⟨j + 1, _, by omega, by go_num, rfl, HN.out⟩
            case measure => simp [intOf]; omega
        · obtain rfl : j = k := by omega
          rw [hX] at hown
          have HE : Hid (∃ a' c', v6 = .slice a' X c' ∧ KRow wr .i64 a' X c' (cat N F j) ∧ NewAt w wr a' X c') := Lib.hid (by
            obtain ⟨a', c', e, hk⟩ := KRow.of_own hown
            refine ⟨a', c', e, hk, ?_⟩
            rcases hown.2 with ⟨e2, h0⟩ | ⟨g, cap, cur, e2, hge, hh, _⟩
            · rw [e] at e2
              injection e2 with e3 e4 e5
              exact .inl ⟨e3, e4, e5⟩
            · rw [e] at e2
              injection e2 with e3 e4 e5
              exact .inr ⟨g, e3, hge, Free.of_block hh⟩)
          have HBL := Lib.hid hbl
          clear hown hbl hrel hlt
          go_wp2
          go_ret
          obtain ⟨a', c', rfl, hk, hn⟩ := HE.out
          rw [hX]
          exact ⟨a', c', rfl, hk, hn, HBL.out⟩
/-- With another number at one place. -/
def wiF (f : Nat → Int) (i x : Int) : Nat → Int := fun j => if (j : Int) = i then x else f j
end Go.Proofs.YtkljpofljkgkdaaGreatDoor

namespace Go.Proofs.YtkljpofljkgkdaaGreatDoor
open Go.RowKit
/-- Without one place. -/
def outF (f : Nat → Int) (k : Nat) : Nat → Int := fun j => if j < k then f j else f (j + 1)
def woN (n : Nat) (i : Int) : Nat := if 0 ≤ i ∧ i < n then n - 1 else n
def woF (f : Nat → Int) (n : Nat) (i : Int) : Nat → Int := if 0 ≤ i ∧ i < n then outF f i.toNat else f
theorem has_no {n : Nat} {i : Int} (h : ¬ (0 ≤ i ∧ i < n)) : (decide (0 ≤ i) && decide (i < (n : Int))) = false := by
  cases hx : (decide (0 ≤ i) && decide (i < (n : Int))) with
  | false => rfl
  | true => rw [Bool.and_eq_true, decide_eq_true_eq, decide_eq_true_eq] at hx; exact absurd hx h
/-- Two rows laid in a block. -/
theorem LRow.two {w : World} {g : Nat} {t : TypeId} {a1 a2 : Option Addr} {n1 c1 n2 c2 : Nat} {f1 f2 : Nat → Int} (h : Row w g t #[.slice a1 n1 c1, .slice a2 n2 c2]) (k1 : KRow w .i64 a1 n1 c1 f1) (k2 : KRow w .i64 a2 n2 c2 f2) (e1 : a1 = none → c1 = 0) (e2 : a2 = none → c2 = 0) :
    LRow w (some ⟨g, 0, none⟩) 2 2 (fun j => if j = 0 then a1 else a2) (fun j => if j = 0 then n1 else n2) (fun j => if j = 0 then c1 else c2) (fun j => if j = 0 then f1 else f2) := by
  refine ⟨Nat.le_refl _, by unfold maxLen; omega, .inr ⟨g, 0, rfl, h.lt, fun j hj => ?_⟩⟩
  have : j = 0 ∨ j = 1 := by omega
  rcases this with rfl | rfl
  · exact ⟨h.cell 0, k1, e1⟩
  · exact ⟨h.cell 1, k2, e2⟩
theorem LRow.three {w : World} {g : Nat} {t : TypeId} {a1 a2 a3 : Option Addr} {n1 c1 n2 c2 n3 c3 : Nat} {f1 f2 f3 : Nat → Int} (h : Row w g t #[.slice a1 n1 c1, .slice a2 n2 c2, .slice a3 n3 c3]) (k1 : KRow w .i64 a1 n1 c1 f1) (k2 : KRow w .i64 a2 n2 c2 f2) (k3 : KRow w .i64 a3 n3 c3 f3) (e1 : a1 = none → c1 = 0) (e2 : a2 = none → c2 = 0) (e3 : a3 = none → c3 = 0) :
    LRow w (some ⟨g, 0, none⟩) 3 3 (fun j => if j = 0 then a1 else if j = 1 then a2 else a3) (fun j => if j = 0 then n1 else if j = 1 then n2 else n3) (fun j => if j = 0 then c1 else if j = 1 then c2 else c3) (fun j => if j = 0 then f1 else if j = 1 then f2 else f3) := by
  refine ⟨Nat.le_refl _, by unfold maxLen; omega, .inr ⟨g, 0, rfl, h.lt, fun j hj => ?_⟩⟩
  have : j = 0 ∨ j = 1 ∨ j = 2 := by omega
  rcases this with rfl | rfl | rfl
  · exact ⟨h.cell 0, k1, e1⟩
  · exact ⟨h.cell 1, k2, e2⟩
  · exact ⟨h.cell 2, k3, e3⟩
theorem KRow.congr {w : World} {ki : IntKind} {a : Option Addr} {n c : Nat} {f g : Nat → Int} (h : KRow w ki a n c f) (e : ∀ j, j < n → f j = g j) : KRow w ki a n c g := by
  refine ⟨h.1, h.2.1, h.2.2.imp id ?_⟩
  rintro ⟨b, off, rfl, hl, hc⟩
  exact ⟨b, off, rfl, hl, fun j hj => by rw [← e j hj]; exact hc j hj⟩
set_option maxHeartbeats 1600000 in
set_option maxRecDepth 100000 in
theorem without_any (a : Option Addr) (n c : Nat) (f : Nat → Int) (i : Int) (w : World) (h : KRow w .i64 a n c f) (hn : n ≤ 1000000) :
    Calls Tryz.prog 62 #[.slice a n c, .int .i64 i] w fun e w' => ∃ a' c', e = .returned (.slice a' (woN n i) c') ∧ KRow w' .i64 a' (woN n i) c' (woF f n i) ∧ Below w.heap.size w w' := by
  have hl := h.len
  have hcm := h.2.1
  unfold maxLen at hcm
  have CL := Lib.hid (cloneI_any a n c f w h hn)
  have HA := Lib.hid (has_any a n c i w)
  unfold woN woF
  by_cases hin : 0 ≤ i ∧ i < n
  · rw [if_pos hin, if_pos hin]
    obtain ⟨h0, h1⟩ := hin
    obtain ⟨k, rfl⟩ : ∃ k : Nat, i = k := ⟨i.toNat, by omega⟩
    have hk : k < n := by omega
    rw [show ((k : Nat) : Int).toNat = k from rfl]
    rw [decide_eq_true h0, decide_eq_true h1] at HA
    obtain ⟨b, off, rfl, hb, _⟩ := h.get hk
    have hw1 := IntWalk.i64_in ((k : Int) + 1) (by omega)
    have CO : Hid (∀ (wz : World) (ad : Option Addr), (ad = some ⟨b, off + (k + 1), none⟩ ∨ (ad ≠ none ∧ n - (k + 1) = 0)) → Below w.heap.size w wz → Row wz w.heap.size 22 #[.slice (some ⟨b, off, none⟩) k c, .slice ad (n - (k + 1)) (c - (k + 1))] → Calls Tryz.prog 95 #[.slice (some ⟨w.heap.size, 0, none⟩) 2 2] wz fun e w' => ∃ a' c', e = .returned (.slice a' (n - 1) c') ∧ KRow w' .i64 a' (n - 1) c' (outF f k) ∧ Below wz.heap.size wz w') := Lib.hid (fun wz ad hads hbz hrow => by
      have hadn : ad ≠ none := by rcases hads with rfl | ⟨h, _⟩; · simp
                                  · exact h
      have k1 := (h.take (show k ≤ n by omega)).below hbz
      have k2 : KRow wz .i64 ad (n - (k + 1)) (c - (k + 1)) (shf f (k + 1)) := by
        rcases hads with rfl | ⟨_, h0⟩
        · exact (h.from (show k + 1 ≤ n by omega)).below hbz
        · rw [h0]; exact KRow.nought _ _ _ _ (by unfold maxLen; omega) _
      have hL := LRow.two hrow k1 k2 (fun e => absurd e (by simp)) (fun e => absurd e hadn)
      have ht : tot (fun j => if j = 0 then k else n - (k + 1)) 2 = n - 1 := by show 0 + k + (n - (k + 1)) = n - 1; omega
      have := concat_any _ 2 2 _ _ _ _ wz hL (by omega) (by rw [ht]; omega)
      rw [ht] at this
      refine this.mono ?_
      rintro e w' ⟨a', c', rfl, hk', _, hb'⟩
      refine ⟨a', c', rfl, hk'.congr (fun j hj => ?_), hb'⟩
      show app (app (fun _ => 0) 0 f) (0 + k) (shf f (k + 1)) j = outF f k j
      unfold app outF shf
      rw [Nat.zero_add]
      by_cases e : j < k
      · rw [if_pos e, if_pos e, if_neg (by omega)]; rfl
      · rw [if_neg e, if_neg e]; congr 1; omega)
    by_cases hck : c = k + 1
    · subst hck
      obtain rfl : n = k + 1 := by omega
      rw [show k + 1 - 1 = k by omega] at CO ⊢
      have CO2 : Hid (Calls Tryz.prog 95 #[.slice (some ⟨w.heap.size, 0, none⟩) 2 2] (w.alloc (.cells #[.slice (some ⟨b, off, none⟩) k (k + 1), .slice (some ⟨b, off, none⟩) 0 0] 22)).drew fun e w' => ∃ a' c', e = .returned (.slice a' k c') ∧ KRow w' .i64 a' k c' (outF f k) ∧ Below w.heap.size w w') := Lib.hid (by
        have hbz : Below w.heap.size w (w.alloc (.cells #[.slice (some ⟨b, off, none⟩) k (k + 1), .slice (some ⟨b, off, none⟩) 0 0] 22)).drew := ((Below.refl _ _).alloc (Nat.le_refl _) _).drew
        have hrow : Row (w.alloc (.cells #[.slice (some ⟨b, off, none⟩) k (k + 1), .slice (some ⟨b, off, none⟩) 0 0] 22)).drew w.heap.size 22 #[.slice (some ⟨b, off, none⟩) k (k + 1), .slice (some ⟨b, off, none⟩) 0 0] := Row.new w _ _
        refine (CO.out _ (some ⟨b, off, none⟩) (.inr ⟨by simp, by omega⟩) hbz (by rw [show k + 1 - (k + 1) = 0 by omega]; exact hrow)).mono ?_
        rintro e w' ⟨a', c', rfl, hk', hb'⟩
        exact ⟨a', c', rfl, hk', hbz.trans (hb'.mono hbz.size)⟩)
      have d1 : ¬ (((k + 1 : Nat) : Int) < k) := by omega
      have d2 : (0 : Int) ≤ k := by omega
      have d3 : ¬ (((k + 1 : Nat) : Int) < (k : Int) + 1) := by omega
      have d4 : (0 : Int) ≤ (k : Int) + 1 := by omega
      have hg : ((k : Int) + 1).toNat = k + 1 := by omega
      clear h
      go_enter Tryz.func62, Tryz.ntmps62
      go_wp2_with fail
      go_at_call 94
      (with_reducible refine (HA.out).mono ?_)
      rintro e w2 ⟨rfl, rfl⟩
      go_wp2_with fail
      go_region_with (go_at_call 95; (refine CO2.out.mono ?_); rintro e w3 ⟨a3, c3, rfl, hq3⟩; have HE := Lib.hid hq3; clear hq3)
      go_wp2
      go_ret
      exact ⟨_, _, rfl, HE.out⟩
    · have CO2 : Hid (Calls Tryz.prog 95 #[.slice (some ⟨w.heap.size, 0, none⟩) 2 2] (w.alloc (.cells #[.slice (some ⟨b, off, none⟩) k c, .slice (some ⟨b, off + (k + 1), none⟩) (n - (k + 1)) (c - (k + 1))] 22)).drew fun e w' => ∃ a' c', e = .returned (.slice a' (n - 1) c') ∧ KRow w' .i64 a' (n - 1) c' (outF f k) ∧ Below w.heap.size w w') := Lib.hid (by
        have hbz : Below w.heap.size w (w.alloc (.cells #[.slice (some ⟨b, off, none⟩) k c, .slice (some ⟨b, off + (k + 1), none⟩) (n - (k + 1)) (c - (k + 1))] 22)).drew := ((Below.refl _ _).alloc (Nat.le_refl _) _).drew
        have hrow : Row (w.alloc (.cells #[.slice (some ⟨b, off, none⟩) k c, .slice (some ⟨b, off + (k + 1), none⟩) (n - (k + 1)) (c - (k + 1))] 22)).drew w.heap.size 22 #[.slice (some ⟨b, off, none⟩) k c, .slice (some ⟨b, off + (k + 1), none⟩) (n - (k + 1)) (c - (k + 1))] := Row.new w _ _
        refine (CO.out _ _ (.inl rfl) hbz hrow).mono ?_
        rintro e w' ⟨a', c', rfl, hk', hb'⟩
        exact ⟨a', c', rfl, hk', hbz.trans (hb'.mono hbz.size)⟩)
      have d1 : ¬ ((c : Int) < k) := by omega
      have d2 : (0 : Int) ≤ k := by omega
      have d3 : ¬ ((n : Int) < (k : Int) + 1) := by omega
      have d4 : (0 : Int) ≤ (k : Int) + 1 := by omega
      have hg : ((k : Int) + 1).toNat = k + 1 := by omega
      clear h
      go_enter Tryz.func62, Tryz.ntmps62
      go_wp2_with fail
      go_at_call 94
      (with_reducible refine (HA.out).mono ?_)
      rintro e w2 ⟨rfl, rfl⟩
      go_wp2_with fail
      go_region_with (go_at_call 95; (refine CO2.out.mono ?_); rintro e w3 ⟨a3, c3, rfl, hq3⟩; have HE := Lib.hid hq3; clear hq3)
      go_wp2
      go_ret
      exact ⟨_, _, rfl, HE.out⟩
  · rw [if_neg hin, if_neg hin]
    rw [has_no hin] at HA
    clear hin h
    go_enter Tryz.func62, Tryz.ntmps62
    go_wp2_with fail
    go_at_call 94
    (with_reducible refine (HA.out).mono ?_)
    rintro e w2 ⟨rfl, rfl⟩
    go_wp2_with fail
    go_at_call 79
    (with_reducible refine (CL.out).mono ?_)
    rintro e w1 ⟨a1, c1, rfl, hk1, hb1⟩
    have HE := Lib.hid (And.intro hk1 hb1)
    clear hk1 hb1
    go_wp2
    go_ret
    exact ⟨_, _, rfl, HE.out⟩
/-- What Split answers. -/
def spB (f : Nat → Int) (n : Nat) (i : Int) : Bool := shB f n && (decide (0 ≤ i) && decide (i < (n : Int)))
def SpTold (f : Nat → Int) (n : Nat) (i : Int) (w w' : World) (e : Ending) : Prop :=
  e = .returned (.tuple #[.int .i64 (if spB f n i then itm f i.toNat else 0), .int .i64 (if spB f n i then f i.toNat else 0), .int .i64 (if spB f n i then itm (shf f (i.toNat + 1)) (n - (i.toNat + 1)) else 0), .bool (spB f n i)]) ∧ Below w.heap.size w w'
theorem SpTold.no {f : Nat → Int} {n : Nat} {i : Int} {w w' : World} (hb : Below w.heap.size w w') (h : spB f n i = false) : SpTold f n i w w' (.returned (.tuple #[.int .i64 0, .int .i64 0, .int .i64 0, .bool false])) := by
  refine ⟨?_, hb⟩
  rw [h]
  rfl
theorem SpTold.yes {f : Nat → Int} {n k : Nat} {w w' : World} (hb : Below w.heap.size w w') (h : shB f n = true) (hk : k < n) : SpTold f n k w w' (.returned (.tuple #[.int .i64 (itm f k), .int .i64 (f k), .int .i64 (itm (shf f (k + 1)) (n - (k + 1))), .bool true])) := by
  refine ⟨?_, hb⟩
  have : spB f n k = true := by unfold spB; rw [h, decide_eq_true (show (0 : Int) ≤ k by omega), decide_eq_true (show (k : Int) < n by omega)]; rfl
  rw [this]
  rfl
set_option maxHeartbeats 1600000 in
set_option maxRecDepth 100000 in
theorem split_any (a : Option Addr) (n c : Nat) (f : Nat → Int) (i : Int) (w : World) (h : KRow w .i64 a n c f) (hf : In64 f n) :
    Calls Tryz.prog 90 #[.slice a n c, .int .i64 i] w fun e w' => SpTold f n i w w' e := by
  have hl := h.len
  have hcm := h.2.1
  unfold maxLen at hcm
  have CN := Lib.hid (fun wz (h : KRow wz .i64 a n c f) => count_any a n c f wz h hf)
  unfold CntTold at CN
  have HA := Lib.hid (has_any a n c i w)
  have H := Lib.hid h
  clear hf
  cases hs : shB f n with
  | false =>
    have HE := Lib.hid (SpTold.no (f := f) (n := n) (i := i) (Below.refl w.heap.size w) (by unfold spB; rw [hs]; rfl))
    rw [hs] at CN
    generalize cntI f n = x at *
    clear hs h
    go_enter Tryz.func90, Tryz.ntmps90
    go_wp2_with fail
    go_at_call 45
    (with_reducible refine (CN.out _ H.out).mono ?_)
    rintro e w1 ⟨rfl, rfl⟩
    go_wp2
    exact bodyPost_ret (v := .tuple #[.int .i64 0, .int .i64 0, .int .i64 0, .bool false]) (by simp [results, Tryz.results90, go_sem]) rfl HE.out
  | true =>
    rw [hs] at CN
    generalize cntI f n = x at *
    by_cases hin : 0 ≤ i ∧ i < n
    · obtain ⟨h0, h1⟩ := hin
      obtain ⟨k, rfl⟩ : ∃ k : Nat, i = k := ⟨i.toNat, by omega⟩
      have hk : k < n := by omega
      rw [decide_eq_true h0, decide_eq_true h1] at HA
      have HY := Lib.hid (fun wz hb => SpTold.yes (f := f) (n := n) (k := k) (w := w) (w' := wz) hb hs hk)
      obtain ⟨h8, hax⟩ := sh_ax hs
      obtain ⟨b, off, rfl, hb, hc⟩ := h.get hk
      have hw1 := IntWalk.i64_in ((k : Int) + 1) (by omega)
      have P1 : Hid (∀ wz, Below w.heap.size w wz → Calls Tryz.prog 121 #[.slice (some ⟨b, off, none⟩) k c] wz fun e w' => e = .returned (.int .i64 (itm f k)) ∧ wz = w') := Lib.hid (fun wz hb => product_any _ _ _ _ wz ((h.take (by omega)).below hb) (ax_le (by omega) hax))
      have P2 : Hid (∀ (wz : World) (ad : Option Addr) (n2 c2 : Nat), n2 = n - (k + 1) → n2 ≤ c2 → c2 ≤ c → (ad = some ⟨b, off + (k + 1), none⟩ ∧ c2 = c - (k + 1) ∨ n2 = 0) → Below w.heap.size w wz → Calls Tryz.prog 121 #[.slice ad n2 c2] wz fun e w' => e = .returned (.int .i64 (itm (shf f (k + 1)) (n - (k + 1)))) ∧ wz = w') := Lib.hid (fun wz ad n2 c2 hn2 hc1 hc2 had hb => by
        subst hn2
        refine product_any _ _ _ _ wz ?_ (ax_shf (k + 1) hax _ (by omega))
        rcases had with ⟨rfl, rfl⟩ | h0
        · exact (h.from (show k + 1 ≤ n by omega)).below hb
        · rw [h0]; exact KRow.nought _ _ _ _ (by unfold maxLen; omega) _)
      clear hs hax
      have HBND := Lib.hid hcm
      generalize itm f k = x1 at *
      generalize itm (shf f (k + 1)) (n - (k + 1)) = x3 at *
      generalize f k = x2 at *
      by_cases hck : c = k + 1
      · subst hck
        obtain rfl : n = k + 1 := by omega
        have Q1 : Hid (∀ q, Calls Tryz.prog 121 #[.slice (some ⟨b, off, none⟩) k (k + 1)] (w.drewN q) fun e w'' => e = .returned (.int .i64 x1) ∧ ∃ m, w'' = w.drewN m) := Lib.hid (fun q => (P1.out _ (below_drewN (Below.refl _ _) q)).mono (fun e w' h => ⟨h.1, q, h.2.symm⟩))
        have Q2 : Hid (∀ q, Calls Tryz.prog 121 #[.slice (some ⟨b, off, none⟩) 0 0] (w.drewN q) fun e w'' => e = .returned (.int .i64 x3) ∧ ∃ m, w'' = w.drewN m) := Lib.hid (fun q => (P2.out _ _ 0 0 (by omega) (by omega) (by omega) (.inr rfl) (below_drewN (Below.refl _ _) q)).mono (fun e w' h => ⟨h.1, q, h.2.symm⟩))
        have HYY := Lib.hid (fun q => HY.out (w.drewN q) (below_drewN (Below.refl _ _) q))
        have d1 : ¬ (((k + 1 : Nat) : Int) < k) := by omega
        have d2 : (0 : Int) ≤ k := by omega
        have d3 : ¬ (((k + 1 : Nat) : Int) < (k : Int) + 1) := by omega
        have d4 : (0 : Int) ≤ (k : Int) + 1 := by omega
        have hg : ((k : Int) + 1).toNat = k + 1 := by omega
        clear h
        go_enter Tryz.func90, Tryz.ntmps90
        go_wp2_with fail
        go_at_call 45
        (with_reducible refine (CN.out _ H.out).mono ?_)
        rintro e w1 ⟨rfl, rfl⟩
        go_wp2_with fail
        go_at_call 94
        (with_reducible refine (HA.out).mono ?_)
        rintro e w2 ⟨rfl, rfl⟩
        go_wp2_with fail
        go_quiet (first | (go_at_call 121; with_reducible exact Q1.out _) | (go_at_call 121; with_reducible exact Q2.out _))
        have HE := Lib.hid (HYY.out nq)
        go_wp2
        exact bodyPost_ret (v := .tuple #[.int .i64 x1, .int .i64 x2, .int .i64 x3, .bool true]) (by simp [results, Tryz.results90, go_sem]) rfl HE.out
      · have Q1 : Hid (∀ q, Calls Tryz.prog 121 #[.slice (some ⟨b, off, none⟩) k c] (w.drewN q) fun e w'' => e = .returned (.int .i64 x1) ∧ ∃ m, w'' = w.drewN m) := Lib.hid (fun q => (P1.out _ (below_drewN (Below.refl _ _) q)).mono (fun e w' h => ⟨h.1, q, h.2.symm⟩))
        have Q2 : Hid (∀ q, Calls Tryz.prog 121 #[.slice (some ⟨b, off + (k + 1), none⟩) (n - (k + 1)) (c - (k + 1))] (w.drewN q) fun e w'' => e = .returned (.int .i64 x3) ∧ ∃ m, w'' = w.drewN m) := Lib.hid (fun q => (P2.out _ _ _ _ rfl (by omega) (by omega) (.inl ⟨rfl, rfl⟩) (below_drewN (Below.refl _ _) q)).mono (fun e w' h => ⟨h.1, q, h.2.symm⟩))
        have HYY := Lib.hid (fun q => HY.out (w.drewN q) (below_drewN (Below.refl _ _) q))
        have d1 : ¬ ((c : Int) < k) := by omega
        have d2 : (0 : Int) ≤ k := by omega
        have d3 : ¬ ((n : Int) < (k : Int) + 1) := by omega
        have d4 : (0 : Int) ≤ (k : Int) + 1 := by omega
        have hg : ((k : Int) + 1).toNat = k + 1 := by omega
        clear h
        go_enter Tryz.func90, Tryz.ntmps90
        go_wp2_with fail
        go_at_call 45
        (with_reducible refine (CN.out _ H.out).mono ?_)
        rintro e w1 ⟨rfl, rfl⟩
        go_wp2_with fail
        go_at_call 94
        (with_reducible refine (HA.out).mono ?_)
        rintro e w2 ⟨rfl, rfl⟩
        go_wp2_with fail
        go_quiet (first | (go_at_call 121; with_reducible exact Q1.out _) | (go_at_call 121; with_reducible exact Q2.out _))
        have HE := Lib.hid (HYY.out nq)
        go_wp2
        exact bodyPost_ret (v := .tuple #[.int .i64 x1, .int .i64 x2, .int .i64 x3, .bool true]) (by simp [results, Tryz.results90, go_sem]) rfl HE.out
    · have HE := Lib.hid (SpTold.no (f := f) (n := n) (i := i) (Below.refl w.heap.size w) (by unfold spB; rw [has_no hin, Bool.and_false]))
      rw [has_no hin] at HA
      clear hin h hs
      go_enter Tryz.func90, Tryz.ntmps90
      go_wp2_with fail
      go_at_call 45
      (with_reducible refine (CN.out _ H.out).mono ?_)
      rintro e w1 ⟨rfl, rfl⟩
      go_wp2_with fail
      go_at_call 94
      (with_reducible refine (HA.out).mono ?_)
      rintro e w2 ⟨rfl, rfl⟩
      go_wp2
      exact bodyPost_ret (v := .tuple #[.int .i64 0, .int .i64 0, .int .i64 0, .bool false]) (by simp [results, Tryz.results90, go_sem]) rfl HE.out
end Go.Proofs.YtkljpofljkgkdaaGreatDoor

namespace Go.Proofs.YtkljpofljkgkdaaGreatDoor
open Go.RowKit
set_option maxHeartbeats 1600000 in
set_option maxRecDepth 100000 in
theorem equalI_any (a : Option Addr) (n c : Nat) (f : Nat → Int) (a2 : Option Addr) (n2 c2 : Nat) (g : Nat → Int) (w : World) (h : KRow w .i64 a n c f) (h2 : KRow w .i64 a2 n2 c2 g) :
    Calls Tryz.prog 123 #[.slice a n c, .slice a2 n2 c2] w fun e w' => SameTold (decide (n = n2) && sameB f g n) w w' e := by
  have hl := h.len
  have hl2 := h2.len
  have H1 := Lib.hid h
  have H2 := Lib.hid h2
  clear h h2
  by_cases hn : n = n2
  · subst hn
    rw [decide_eq_true rfl, Bool.true_and]
    have dn : ((n : Int) != n) = false := bne_self_eq_false _
    go_enter Tryz.func123, Tryz.ntmps123
    go_wp2
    go_loopw [13] (fun i wr => ∃ k : Nat, k ≤ n ∧ i = .int .i64 k ∧ Hid (Below w.heap.size w wr ∧ sameB f g k = true)) (fun i _ => n - (intOf i).toNat)
    case atStart => exact ⟨0, by omega, rfl, Below.refl _ _, rfl⟩
    case round =>
      obtain ⟨k, hk, rfl, hrel⟩ := hrel
      obtain ⟨hbl, hsm⟩ := hrel.out
      by_cases hlt : k < n
      · obtain ⟨b, off, rfl, hb, hc⟩ := (H1.out.below hbl).get hlt
        obtain ⟨b2, off2, rfl, hb2, hc2⟩ := (H2.out.below hbl).get hlt
        have HBL := Lib.hid hbl
        have hk0 : (0 : Int) ≤ k := by omega
        have hk1 : (k : Int) < n := by omega
        have hk2 : (k : Int) ≤ n := by omega
        by_cases hq : f k = g k
        · have hsm2 : Hid (sameB f g (k + 1) = true) := by show (sameB f g k && _) = true; rw [hsm, decide_eq_true hq]; rfl
          clear hbl hsm
          rw [← hq] at hc2
          have hne : (f k != f k) = false := bne_self_eq_false _
          generalize f k = x at *
          clear hq
          go_wp2_with fail
          go_quiet (fail)
          have HBE : Hid (Below w.heap.size w (wr.drewN nq) ∧ sameB f g (k + 1) = true) := ⟨below_drewN HBL.out nq, hsm2.out⟩
          go_wp2
          go_roundw
          case rel => exact ⟨k + 1, by omega, by go_num, HBE.out⟩
          case measure => simp [intOf]; omega
        · have hno : sameB f g n = false := by
            cases hx : sameB f g n with
            | false => rfl
            | true => exact absurd ((sameB_iff.1 hx) k hlt) hq
          have HN := Lib.hid hno
          have hne : (f k != g k) = true := bne_iff_ne.2 hq
          clear hbl hsm hno
          generalize f k = x at *
          generalize g k = y at *
          clear hq
          go_wp2_with fail
          go_quiet (fail)
          have HBE : Hid (SameTold (sameB f g n) w (wr.drewN nq) (.returned (.bool false))) := ⟨by rw [HN.out], below_drewN HBL.out nq⟩
          go_wp2
          go_ret
          exact HBE.out
      · obtain rfl : k = n := by omega
        have HE : Hid (SameTold (sameB f g k) w wr (.returned (.bool true))) := ⟨by rw [hsm], hbl⟩
        clear hbl hsm
        go_wp2
        go_ret
        exact HE.out
  · rw [decide_eq_false hn, Bool.false_and]
    have dn : ((n : Int) != n2) = true := bne_iff_ne.2 (by omega)
    have HE : Hid (SameTold false w w (.returned (.bool false))) := ⟨rfl, Below.refl _ _⟩
    clear hn
    go_enter Tryz.func123, Tryz.ntmps123
    go_wp2
    go_ret
    exact HE.out
set_option maxHeartbeats 1600000 in
theorem same_any (a : Option Addr) (n c : Nat) (f : Nat → Int) (a2 : Option Addr) (n2 c2 : Nat) (g : Nat → Int) (w : World) (h : KRow w .i64 a n c f) (h2 : KRow w .i64 a2 n2 c2 g) :
    Calls Tryz.prog 93 #[.slice a n c, .slice a2 n2 c2] w fun e w' => SameTold (decide (n = n2) && sameB f g n) w w' e := by
  have EQ := Lib.hid (equalI_any a n c f a2 n2 c2 g w h h2)
  unfold SameTold at EQ
  unfold SameTold
  generalize (decide (n = n2) && sameB f g n) = x at *
  clear h h2
  go_enter Tryz.func93, Tryz.ntmps93
  go_wp2_with fail
  go_at_call 123
  (with_reducible refine (EQ.out).mono ?_)
  rintro e w1 ⟨rfl, hb⟩
  have HB := Lib.hid hb
  clear hb
  go_wp2
  go_ret
  exact ⟨rfl, HB.out⟩
end Go.Proofs.YtkljpofljkgkdaaGreatDoor

namespace Go.Proofs.YtkljpofljkgkdaaGreatDoor
open Go.RowKit
/-- How far apart neighbours lie. -/
def stF (f : Nat → Int) (n : Nat) : Nat → Int := fun j => itm (shf f (j + 1)) (n - (j + 1))
theorem st_step {f : Nat → Int} {n k : Nat} (hk : k < n) : itm (shf f k) (n - k) = itm (shf f (k + 1)) (n - (k + 1)) * f k := by
  have h := itm_add (shf f k) 1 (n - (k + 1))
  rw [show 1 + (n - (k + 1)) = n - k by omega] at h
  rw [h, show shf (shf f k) 1 = shf f (k + 1) from by funext j; show f (k + (1 + j)) = f (k + 1 + j); rw [Nat.add_assoc], show itm (shf f k) 1 = f k from by show 1 * f (k + 0) = f k; rw [Int.one_mul, Nat.add_zero], Int.mul_comm]
/-- What Strides answers. -/
def StTold (f : Nat → Int) (n : Nat) (w w' : World) (e : Ending) : Prop := ∃ a m c, e = .returned (.slice a m c) ∧ (if shB f n then m = n ∧ KRow w' .i64 a n c (stF f n) else a = none ∧ m = 0 ∧ c = 0) ∧ Below w.heap.size w w'
set_option maxHeartbeats 1600000 in
set_option maxRecDepth 100000 in
theorem strides_any (a : Option Addr) (n c : Nat) (f : Nat → Int) (w : World) (h : KRow w .i64 a n c f) (hf : In64 f n) :
    Calls Tryz.prog 100 #[.slice a n c] w fun e w' => StTold f n w w' e := by
  have hl := h.len
  have CN := Lib.hid (fun wz (h : KRow wz .i64 a n c f) => count_any a n c f wz h hf)
  unfold CntTold at CN
  have H := Lib.hid h
  clear h hf
  cases hs : shB f n with
  | false =>
    have HE : Hid (StTold f n w w (.returned (.slice none 0 0))) := Lib.hid ⟨none, 0, 0, rfl, by rw [hs, if_neg (by decide)]; exact ⟨rfl, rfl, rfl⟩, Below.refl _ _⟩
    rw [hs] at CN
    generalize cntI f n = x at *
    clear hs
    go_enter Tryz.func100, Tryz.ntmps100
    go_wp2_with fail
    go_at_call 45
    (with_reducible refine (CN.out _ H.out).mono ?_)
    rintro e w1 ⟨rfl, rfl⟩
    go_wp2
    go_ret
    exact HE.out
  | true =>
    rw [hs] at CN
    generalize cntI f n = x at *
    obtain ⟨h8, hax⟩ := sh_ax hs
    have HAX := Lib.hid hax
    have HS := Lib.hid hs
    obtain ⟨i0, hi, hz0, hz1, hz2⟩ := info_parts infoI
    have hmk := fun wz => run_make (P := Tryz.prog) wz 22 3 i0 _ Tryz.underlying22 hi hz0 .i64 .i64 n n (by omega) (by omega) (by rw [hz2]; omega) (by omega)
    simp only [Int.toNat_natCast, hz1, Nat.mul_one] at hmk
    have H0 : Hid (Below w.heap.size w (w.alloc (.cells (madeCells (Value.cells (.int .i64 0)) n) 3)) ∧ IBox (w.alloc (.cells (madeCells (Value.cells (.int .i64 0)) n) 3)) w.heap.size n (fun j => if j < n then 0 else stF f n j)) :=
      Lib.hid ⟨(Below.refl _ _).alloc (Nat.le_refl _) _, (IBox.made w n 3 rfl).congr (fun j hj => by rw [if_pos hj])⟩
    have HN0 : Hid ((1 : Int) = itm (shf f n) (n - n)) := Lib.hid (by rw [Nat.sub_self]; rfl)
    have hw1 := IntWalk.i64_in ((n : Int) - 1) (by omega)
    have hnn : (0 : Int) ≤ n := by omega
    clear hs hax hi hz0 hz1 hz2
    go_enter Tryz.func100, Tryz.ntmps100
    go_wp2_with fail
    go_at_call 45
    (with_reducible refine (CN.out _ H.out).mono ?_)
    rintro e w1 ⟨rfl, rfl⟩
    go_wp2_with fail
    go_loopw [6, 7] (fun q ax wr => ∃ (k : Nat) (r z : Int), k ≤ n ∧ z = (k : Int) - 1 ∧ ax = .int .i64 z ∧ q = .int .i64 r ∧ Hid (r = itm (shf f k) (n - k) ∧ Below w.heap.size w wr ∧ IBox wr w.heap.size n (fun j => if j < k then 0 else stF f n j))) (fun _ ax _ => (intOf ax + 1).toNat)
    case atStart => exact ⟨n, 1, (n : Int) - 1, Nat.le_refl _, rfl, rfl, rfl, HN0.out, H0.out⟩
    case round =>
      obtain ⟨k, r, z, hk, hz, rfl, rfl, hrel⟩ := hrel
      obtain ⟨hr, hbl, hbox⟩ := hrel.out
      by_cases hk0 : 0 < k
      · obtain ⟨k, rfl⟩ : ∃ k', k = k' + 1 := ⟨k - 1, by omega⟩
        obtain rfl : z = (k : Int) := by omega
        have hlt : k < n := by omega
        obtain ⟨b, off, rfl, hb, hc0⟩ := H.out.get hlt
        have hc := (hbl.cell (p := ⟨b, off + k, none⟩) hb).trans hc0
        have hc2 : ∀ v, (wr.setCell ⟨w.heap.size, k, none⟩ v).cell? ⟨b, off + k, none⟩ = some (.int .i64 (f k)) := fun v => by rw [World.cell?_setCell_other _ _ _ _ (fun e => by injection e with e; omega)]; exact hc
        have hst : stF f n k = r := hr.symm
        have hbox2 : IBox (wr.setCell ⟨w.heap.size, k, none⟩ (.int .i64 r)) w.heap.size n (fun j => if j < k then 0 else stF f n j) :=
          (hbox.set hlt r).congr (fun j hj => by
            by_cases e : j = k
            · subst e; rw [if_pos rfl, if_neg (by omega)]; exact hst.symm
            · rw [if_neg e]
              by_cases e2 : j < k
              · rw [if_pos e2, if_pos (by omega)]
              · rw [if_neg e2, if_neg (by omega)])
        have hbd := ax_bd (ax_shf k HAX.out (n - k) (by omega))
        have hrs := st_step (f := f) hlt
        rw [← hr] at hrs
        rw [hrs] at hbd
        have HN : Hid (r * f k = itm (shf f k) (n - k) ∧ Below w.heap.size w (wr.setCell ⟨w.heap.size, k, none⟩ (.int .i64 r)) ∧ IBox (wr.setCell ⟨w.heap.size, k, none⟩ (.int .i64 r)) w.heap.size n (fun j => if j < k then 0 else stF f n j)) :=
          Lib.hid ⟨hrs.symm, hbl.setCell (p := ⟨w.heap.size, k, none⟩) (Nat.le_refl _) _, hbox2⟩
        have x1 := hbox.2.2 k hlt
        simp only [show k < k + 1 by omega, if_true] at x1
        have x2 := hbox.2.1 k
        have hkn : (0 : Int) ≤ k := by omega
        have hkl : (k : Int) < n := by omega
        have w2 := IntWalk.i64_in (r * f k) (by omega)
        have w4 := IntWalk.i64_in ((k : Int) - 1) (by omega)
        clear hbl hbox hbox2 hrel hr hz hst hbd hrs hc hc0
        generalize f k = x at *
        go_wp2
        go_roundw
        case rel => exact ⟨k, r * x, (k : Int) - 1, by omega, rfl, by go_num, rfl, HN.out⟩
        case measure => simp [intOf]
      · obtain rfl : k = 0 := by omega
        obtain rfl : z = -1 := by omega
        have hkr : KRow wr .i64 (some ⟨w.heap.size, 0, none⟩) n n (stF f n) := (hbox.congr (h' := stF f n) (fun j _ => by rw [if_neg (by omega)])).krow (by unfold maxLen; omega)
        have HE : Hid (StTold f n w wr (.returned (.slice (some ⟨w.heap.size, 0, none⟩) n n))) := Lib.hid ⟨_, n, _, rfl, by rw [HS.out, if_pos rfl]; exact ⟨rfl, hkr⟩, hbl⟩
        clear hbl hbox hrel hkr hr hz
        go_wp2
        go_ret
        exact HE.out
end Go.Proofs.YtkljpofljkgkdaaGreatDoor

namespace Go.Proofs.YtkljpofljkgkdaaGreatDoor
open Go.RowKit
theorem plc_congr {f f' g g' : Nat → Int} : ∀ {n : Nat}, (∀ j, j < n → f j = f' j ∧ g j = g' j) → plc f g n = plc f' g' n
  | 0, _ => rfl
  | n + 1, h => by
    show plc f g n * f n + g n = plc f' g' n * f' n + g' n
    rw [plc_congr (fun j hj => h j (by omega)), (h n (by omega)).1, (h n (by omega)).2]
theorem itm_congr {f f' : Nat → Int} : ∀ {n : Nat}, (∀ j, j < n → f j = f' j) → itm f n = itm f' n
  | 0, _ => rfl
  | n + 1, h => by
    show itm f n * f n = itm f' n * f' n
    rw [itm_congr (fun j hj => h j (by omega)), h n (by omega)]
theorem plc_add (f g : Nat → Int) (p : Nat) : ∀ k, plc f g (p + k) = plc f g p * itm (shf f p) k + plc (shf f p) (shf g p) k
  | 0 => by show _ = _ * 1 + 0; rw [Int.mul_one, Int.add_zero]; rfl
  | k + 1 => by
    show plc f g (p + k) * f (p + k) + g (p + k) = plc f g p * (itm (shf f p) k * f (p + k)) + (plc (shf f p) (shf g p) k * f (p + k) + g (p + k))
    rw [plc_add f g p k]
    grind
theorem itm_ge {f : Nat → Int} : ∀ {n : Nat}, (∀ j, j < n → 1 ≤ f j) → 1 ≤ itm f n
  | 0, _ => Int.le_refl _
  | n + 1, h => by
    have h1 := itm_ge (f := f) (n := n) (fun j hj => h j (by omega))
    have h2 := h n (by omega)
    have h3 : 1 * 1 ≤ itm f n * f n := Int.mul_le_mul h1 h2 (by omega) (by omega)
    exact h3
theorem plc_lt {f g : Nat → Int} : ∀ {n : Nat}, (∀ j, j < n → 0 ≤ g j ∧ g j < f j) → 0 ≤ plc f g n ∧ plc f g n < itm f n
  | 0, _ => ⟨Int.le_refl _, by show (0 : Int) < 1; decide⟩
  | n + 1, h => by
    obtain ⟨h1, h2⟩ := plc_lt (f := f) (g := g) (n := n) (fun j hj => h j (by omega))
    obtain ⟨h3, h4⟩ := h n (by omega)
    show 0 ≤ plc f g n * f n + g n ∧ plc f g n * f n + g n < itm f n * f n
    have h5 : 0 ≤ plc f g n * f n := Int.mul_nonneg h1 (by omega)
    have h6 : (plc f g n + 1) * f n ≤ itm f n * f n := Int.mul_le_mul_of_nonneg_right (by omega) (by omega)
    rw [Int.add_mul, Int.one_mul] at h6
    omega
/-- An index cut at an axis. -/
theorem plc_cut {f g : Nat → Int} {n k : Nat} (hk : k < n) : plc f g n = (plc f g k * f k + g k) * stF f n k + plc (shf f (k + 1)) (shf g (k + 1)) (n - (k + 1)) := by
  have e := plc_add f g (k + 1) (n - (k + 1))
  rw [show k + 1 + (n - (k + 1)) = n by omega] at e
  rw [e]; rfl
theorem div_two {a c x : Int} (hb : 0 ≤ x) (hc : x < c) : (a * c + x) / c = a ∧ (a * c + x) % c = x := by
  have h0 : c ≠ 0 := by omega
  constructor
  · rw [Int.add_comm, Int.add_mul_ediv_right _ _ h0, Int.ediv_eq_zero_of_lt hb hc, Int.zero_add]
  · rw [Int.add_comm, Int.add_mul_emod_self_right, Int.emod_eq_of_lt hb hc]
/-- What the program makes of a place: the number along the axis, the row, and the place with another number there. -/
theorem cut_told {f g : Nat → Int} {n k : Nat} (hk : k < n) (h : ∀ j, j < n → 0 ≤ g j ∧ g j < f j) :
    plc f g n / stF f n k % f k = g k ∧ plc f g n / (f k * stF f n k) * stF f n k + plc f g n % stF f n k = plc (outF f k) (outF g k) (n - 1) ∧ 1 ≤ stF f n k ∧
    ∀ x, plc f (wiF g k x) n = plc f g n + (x - g k) * stF f n k := by
  have hg := h k hk
  obtain ⟨l1, l2⟩ := plc_lt (f := shf f (k + 1)) (g := shf g (k + 1)) (n := n - (k + 1)) (fun j hj => h (k + 1 + j) (by omega))
  have hs : stF f n k = itm (shf f (k + 1)) (n - (k + 1)) := rfl
  have hs1 : 1 ≤ stF f n k := itm_ge (fun j hj => by have := h (k + 1 + j) (by omega); show 1 ≤ f (k + 1 + j); omega)
  rw [← hs] at l2
  have e := plc_cut (f := f) (g := g) hk
  have eo : plc (outF f k) (outF g k) (n - 1) = plc f g k * stF f n k + plc (shf f (k + 1)) (shf g (k + 1)) (n - (k + 1)) := by
    have e1 := plc_add (outF f k) (outF g k) k (n - (k + 1))
    rw [show k + (n - (k + 1)) = n - 1 by omega] at e1
    rw [e1, plc_congr (f := outF f k) (f' := f) (g := outF g k) (g' := g) (n := k) (fun j hj => ⟨by unfold outF; rw [if_pos hj], by unfold outF; rw [if_pos hj]⟩)]
    have q : ∀ u : Nat → Int, shf (outF u k) k = shf u (k + 1) := fun u => by
      funext j
      show (if k + j < k then u (k + j) else u (k + j + 1)) = u (k + 1 + j)
      rw [if_neg (by omega), show k + j + 1 = k + 1 + j by omega]
    rw [q, q]; rfl
  have ew : ∀ x, plc f (wiF g k x) n = (plc f g k * f k + x) * stF f n k + plc (shf f (k + 1)) (shf g (k + 1)) (n - (k + 1)) := fun x => by
    have e2 := plc_cut (f := f) (g := wiF g k x) hk
    rw [e2, plc_congr (f := f) (f' := f) (g := wiF g k x) (g' := g) (n := k) (fun j hj => ⟨rfl, by unfold wiF; rw [if_neg (by omega)]⟩),
      plc_congr (f := shf f (k + 1)) (f' := shf f (k + 1)) (g := shf (wiF g k x) (k + 1)) (g' := shf g (k + 1)) (n := n - (k + 1)) (fun j hj => ⟨rfl, by show wiF g k x (k + 1 + j) = g (k + 1 + j); unfold wiF; rw [if_neg (by omega)]⟩)]
    rw [show wiF g k x k = x by unfold wiF; rw [if_pos rfl]]
  generalize plc (shf f (k + 1)) (shf g (k + 1)) (n - (k + 1)) = lo at *
  generalize stF f n k = st at *
  generalize plc f g k = hi at *
  obtain ⟨d1, d2⟩ := div_two (a := hi * f k + g k) (c := st) l1 l2
  obtain ⟨d3, d4⟩ := div_two (a := hi) (c := f k) hg.1 hg.2
  have d5 : plc f g n / (f k * st) = hi := by
    rw [Int.mul_comm (f k) st, ← Int.ediv_ediv_of_nonneg (by omega), e, d1, d3]
  refine ⟨by rw [e, d1, d4], by rw [d5, e, d2, eo], hs1, fun x => ?_⟩
  rw [ew, e]
  grind
/-- The sum of numbers times the steps. -/
def smP (g s : Nat → Int) : Nat → Int
  | 0 => 0
  | k + 1 => smP g s k + g k * s k
theorem smP_plc (f g : Nat → Int) (n : Nat) : ∀ k, k ≤ n → smP g (stF f n) k = plc f g k * itm (shf f k) (n - k)
  | 0, _ => by show 0 = 0 * _; rw [Int.zero_mul]
  | k + 1, h => by
    have e := st_step (f := f) (n := n) (k := k) (by omega)
    show smP g (stF f n) k + g k * stF f n k = (plc f g k * f k + g k) * itm (shf f (k + 1)) (n - (k + 1))
    rw [smP_plc f g n k (by omega), e]
    show _ + g k * itm (shf f (k + 1)) (n - (k + 1)) = _
    grind
theorem smP_all (f g : Nat → Int) (n : Nat) : smP g (stF f n) n = plc f g n := by
  rw [smP_plc f g n n (Nat.le_refl _), Nat.sub_self]
  show _ * 1 = _
  rw [Int.mul_one]
/-- A number counted round. -/
theorem within_told {t n : Int} (hn : 0 < n) : Int.tmod (Int.tmod t n + n) n = t % n := by
  have h1 := Int.tmod_lt_of_pos t hn
  have h2 : -n < Int.tmod t n := by
    have := Int.lt_tmod_of_pos t hn
    omega
  rw [Int.tmod_eq_emod_of_nonneg (by omega), Int.add_emod_right]
  have h3 := Int.mul_tdiv_add_tmod t n
  have h4 : t % n = (n * Int.tdiv t n + Int.tmod t n) % n := by rw [h3]
  rw [h4, Int.add_comm, Int.add_mul_emod_self_left]
theorem prog_mod {i t n : Int} (h0 : 0 ≤ i) (hi : i < n) : Int.tmod (i + t % n) n = (i + t % n) % n := by
  have h1 := Int.emod_nonneg t (show n ≠ 0 by omega)
  rw [Int.tmod_eq_emod_of_nonneg (by omega)]
end Go.Proofs.YtkljpofljkgkdaaGreatDoor

namespace Go.Proofs.YtkljpofljkgkdaaGreatDoor
open Go.RowKit
theorem Arr.away {w w' : World} {cs : Array Value} {S : Nat → Int} {r : Nat} {ch : Bool} {L : Nat} {g fP : Nat → Int} {fQ : Nat → Nat} (h : Arr w cs S r ch L g fP fQ) {k : Nat} {t : TypeId} {ch' : Bool} {more : Int} {d : Nat → Int} {na : Option Addr} {nn nc : Nat} {ta : Option Addr} {tn tc : Nat} (hr : Row w k t (arrC ch' more d na nn nc ta tn tc)) (hf : Far k w w') : Arr w' cs S r ch L g fP fQ := by
  refine ⟨fun e => ?_, fun e => ?_⟩
  · obtain ⟨a, c, h1, h2⟩ := h.1 e
    exact ⟨a, c, h1, h2.away (KRow.ne h2 (by decide) hr) hf⟩
  · obtain ⟨a, c, h1, h2⟩ := h.2 e
    exact ⟨a, c, h1, h2.away (Row.noLimb hr) (RRow.ne h2 hr) hf⟩
theorem Arr.put {w : World} {cs : Array Value} {S : Nat → Int} {r : Nat} {ch : Bool} {L : Nat} {g fP : Nat → Int} {fQ : Nat → Nat} (h : Arr w cs S r ch L g fP fQ) {k : Nat} {t : TypeId} (hr : Row w k t zerC) (cs' : Array Value) : Arr (w.setRow k cs') cs S r ch L g fP fQ := by
  rw [zerC_row] at hr
  exact h.away hr (Far.setRow _ _ _)
set_option maxHeartbeats 3200000 in
set_option maxRecDepth 100000 in
theorem picked_any (fv : FuncId) (cap : Array Value) (he : Enters Tryz.prog fv) (cs : Array Value) (S : Nat → Int) (r : Nat) (ch : Bool) (L : Nat) (g fP : Nat → Int) (fQ : Nat → Nat) (sa : Option Addr) (sr sc : Nat) (T : Nat → Int) (M : Nat) (G : Nat → Int) (w : World) (h : Arr w cs S r ch L g fP fQ)
    (hs : KRow w .i64 sa sr sc T) (hT : In64 T sr) (hsh : shB T sr = true) (hM : itm T sr = (M : Nat)) (hG : In64 G M) (CL : Gives fv cap G M w) :
    Calls Tryz.prog 46 #[.agg cs, .slice sa sr sc, .func (.func fv) #[] cap] w fun e w' => ∃ cs', e = .returned (.agg cs') ∧ Arr w' cs' T sr ch M (fun j => elC L g 32 (G j)) (fun j => elP L fP (G j)) (fun j => elQ L fQ (G j)) ∧ Below w.heap.size w w' := by
  obtain ⟨na, nn, nc, ta, tn, tc, hcs, _⟩ := h.form
  subst hcs
  obtain ⟨i0, hi, hz0, hz1, hz2⟩ := info_parts infoI
  have hbd := ax_bd (sh_ax hsh).2
  have hM4 : M ≤ 4096 := by omega
  have hmk := fun wz => run_make (P := Tryz.prog) wz 22 3 i0 _ Tryz.underlying22 hi hz0 .i64 .i64 M M (by omega) (by omega) (by rw [hz2]; omega) (by omega)
  simp only [Int.toNat_natCast, hz1, Nat.mul_one] at hmk
  have H := Lib.hid h
  have HS := Lib.hid hs
  have HG := Lib.hid hG
  have HC := Lib.hid CL
  have he' := he
  unfold Enters at he'
  have CN := Lib.hid (fun wz (h : KRow wz .i64 sa sr sc T) => count_any sa sr sc T wz h hT)
  unfold CntTold at CN
  have hx : cntI T sr = (M : Nat) := by unfold cntI; rw [hsh, if_pos rfl, hM]
  rw [hsh, hx] at CN
  have PK := Lib.hid (fun wz pa pc (h : Arr wz (arrC ch ((r : Int) - 1) (dm S r) na nn nc ta tn tc) S r ch L g fP fQ) (h2 : KRow wz .i64 sa sr sc T) (h3 : KRow wz .i64 pa M pc G) => pick8_any (arrC ch ((r : Int) - 1) (dm S r) na nn nc ta tn tc) S r ch L g fP fQ sa sr sc T pa M pc G wz h h2 hT h3 hG (by omega))
  rw [hsh, hM, decide_eq_true rfl, Bool.true_and] at PK
  unfold ArrTold at PK
  have BB := Lib.hid (((Bag.start w).newRow (arrC ch ((r : Int) - 1) (dm S r) na nn nc ta tn tc) 34).newRow zerC 34)
  simp only [World.size_alloc] at BB
  have K0 : KTo (((w.alloc (.cells (arrC ch ((r : Int) - 1) (dm S r) na nn nc ta tn tc) 34)).alloc (.cells zerC 34)).alloc (.cells (madeCells (Value.cells (.int .i64 0)) M) 3)) (w.heap.size + 1 + 1) M 0 G := by
    have := KTo.made ((w.alloc (.cells (arrC ch ((r : Int) - 1) (dm S r) na nn nc ta tn tc) 34)).alloc (.cells zerC 34)) M 3 G rfl
    simpa only [World.size_alloc] using this
  have B0 := BB.out.alloc (.cells (madeCells (Value.cells (.int .i64 0)) M) 3)
  have H0 : Hid (Below w.heap.size w (((w.alloc (.cells (arrC ch ((r : Int) - 1) (dm S r) na nn nc ta tn tc) 34)).alloc (.cells zerC 34)).alloc (.cells (madeCells (Value.cells (.int .i64 0)) M) 3)) ∧ Row (((w.alloc (.cells (arrC ch ((r : Int) - 1) (dm S r) na nn nc ta tn tc) 34)).alloc (.cells zerC 34)).alloc (.cells (madeCells (Value.cells (.int .i64 0)) M) 3)) w.heap.size 34 (arrC ch ((r : Int) - 1) (dm S r) na nn nc ta tn tc) ∧ Row (((w.alloc (.cells (arrC ch ((r : Int) - 1) (dm S r) na nn nc ta tn tc) 34)).alloc (.cells zerC 34)).alloc (.cells (madeCells (Value.cells (.int .i64 0)) M) 3)) (w.heap.size + 1) 34 zerC ∧ KTo (((w.alloc (.cells (arrC ch ((r : Int) - 1) (dm S r) na nn nc ta tn tc) 34)).alloc (.cells zerC 34)).alloc (.cells (madeCells (Value.cells (.int .i64 0)) M) 3)) (w.heap.size + 1 + 1) M 0 G) :=
    Lib.hid ⟨B0.below, B0.now.2.1, B0.now.1, K0⟩
  have hMn : (0 : Int) ≤ M := by omega
  have hHS1 := HS.out.below BB.out.below
  have HS1 := Lib.hid hHS1
  clear h hs hT hsh hM hG CL hi hz0 hz1 hz2 hx hbd B0 K0 he hHS1
  unfold arrC zerC at H0
  unfold zerC at BB
  unfold arrC at BB
  unfold arrC
  unfold arrC zerC at HS1
  go_enter Tryz.func46, Tryz.ntmps46
  go_wp2_with fail
  go_at_call 45
  (with_reducible refine (CN.out _ ?_).mono ?_)
  · exact HS1.out
  rintro e w1 ⟨rfl, rfl⟩
  go_wp2_with fail
  go_loopw [21] (fun i wr => ∃ k : Nat, k ≤ M ∧ i = .int .i64 k ∧ Hid (Below w.heap.size w wr ∧ Row wr w.heap.size 34 (arrC ch ((r : Int) - 1) (dm S r) na nn nc ta tn tc) ∧ Row wr (w.heap.size + 1) 34 zerC ∧ KTo wr (w.heap.size + 1 + 1) M k G)) (fun i _ => M - (intOf i).toNat)
  case atStart => exact ⟨0, by omega, rfl, H0.out⟩
  case round =>
    obtain ⟨k, hk, rfl, hrel⟩ := hrel
    obtain ⟨hbl, hr0, hr1, hto⟩ := hrel.out
    have hwr := hbl.size
    by_cases hlt : k < M
    · have HBL := Lib.hid hbl
      have HR0 := Lib.hid hr0
      have HR1 := Lib.hid hr1
      have HTO := Lib.hid hto
      have hk0 : (0 : Int) ≤ k := by omega
      have hk1 : (k : Int) < M := by omega
      clear hrel hbl hr0 hr1 hto
      go_wp2_with fail
      go_at_fn fv
      (refine (HC.out _ HBL.out k hlt).mono ?_)
      rintro e w2 ⟨rfl, hb2⟩
      have hto := HTO.out.below hb2
      obtain ⟨⟨z0, x1⟩, y1⟩ := hto.place hlt
      have HN : Hid (Below w.heap.size w (w2.setCell ⟨w.heap.size + 1 + 1, k, none⟩ (.int .i64 (G k))) ∧ Row (w2.setCell ⟨w.heap.size + 1 + 1, k, none⟩ (.int .i64 (G k))) w.heap.size 34 (arrC ch ((r : Int) - 1) (dm S r) na nn nc ta tn tc) ∧ Row (w2.setCell ⟨w.heap.size + 1 + 1, k, none⟩ (.int .i64 (G k))) (w.heap.size + 1) 34 zerC ∧ KTo (w2.setCell ⟨w.heap.size + 1 + 1, k, none⟩ (.int .i64 (G k))) (w.heap.size + 1 + 1) M (k + 1) G) :=
        Lib.hid ⟨(HBL.out.trans (hb2.mono hwr)).setCell (p := ⟨w.heap.size + 1 + 1, _, none⟩) (by show w.heap.size ≤ w.heap.size + 1 + 1; omega) _, (HR0.out.below hb2).far (a := ⟨w.heap.size + 1 + 1, _, none⟩) (by show w.heap.size ≠ w.heap.size + 1 + 1; omega) _, (HR1.out.below hb2).far (a := ⟨w.heap.size + 1 + 1, _, none⟩) (by show w.heap.size + 1 ≠ w.heap.size + 1 + 1; omega) _, hto.step hlt⟩
      clear hto hb2
      generalize G k = x at *
      go_wp2
      go_roundw
      case rel => exact ⟨k + 1, by omega, by go_num, HN.out⟩
      case measure => simp [intOf]; omega
    · obtain rfl : k = M := by omega
      have BC := Lib.hid (((((Bag.start wr).row hr0).row hr1).krow (hto.done (by unfold maxLen; omega))).krow (HS.out.below hbl))
      have HA := Lib.hid (H.out.below hbl)
      have HBL := Lib.hid hbl
      have HR0 := Lib.hid hr0
      clear hrel hbl hr0 hr1 hto
      go_wp2_with (refine ld_arr rfl (.tmp 3) rfl w.heap.size rfl HR0.out ?_)
      go_at_call 86
      (with_reducible refine (PK.out _ _ _ HA.out BC.out.now.1 BC.out.now.2.1).mono ?_)
      rintro e w3 ⟨cs3, rfl, hcs, hb3⟩
      rw [if_pos trivial] at hcs
      have B3 := BC.out.go hb3
      have HZ := Lib.hid B3.now.2.2.1
      have HBB := Lib.hid (HBL.out.trans (B3.below.mono HBL.out.size))
      have HCS := Lib.hid hcs
      obtain ⟨na3, nn3, nc3, ta3, tn3, tc3, hcs3, _⟩ := hcs.form
      subst hcs3
      have hb4 : Below w3.heap.size w3 (w3.alloc (.cells (arrC ch ((sr : Int) - 1) (dm T sr) na3 nn3 nc3 ta3 tn3 tc3) 34)) := (Below.refl _ _).alloc (Nat.le_refl _) _
      have HR3 := Lib.hid (Row.new w3 34 (arrC ch ((sr : Int) - 1) (dm T sr) na3 nn3 nc3 ta3 tn3 tc3))
      have HZ4 := Lib.hid (HZ.out.below hb4)
      have HE : Hid (Arr ((w3.alloc (.cells (arrC ch ((sr : Int) - 1) (dm T sr) na3 nn3 nc3 ta3 tn3 tc3) 34)).setRow (w.heap.size + 1) (arrC ch ((sr : Int) - 1) (dm T sr) na3 nn3 nc3 ta3 tn3 tc3)) (arrC ch ((sr : Int) - 1) (dm T sr) na3 nn3 nc3 ta3 tn3 tc3) T sr ch k (fun j => elC L g 32 (G j)) (fun j => elP L fP (G j)) (fun j => elQ L fQ (G j)) ∧ Below w.heap.size w ((w3.alloc (.cells (arrC ch ((sr : Int) - 1) (dm T sr) na3 nn3 nc3 ta3 tn3 tc3) 34)).setRow (w.heap.size + 1) (arrC ch ((sr : Int) - 1) (dm T sr) na3 nn3 nc3 ta3 tn3 tc3))) :=
        Lib.hid ⟨(HCS.out.below hb4).put HZ4.out _, below_put (HBB.out.trans (hb4.mono HBB.out.size)) (Nat.le_succ _) _⟩
      clear hcs hb3 B3 hb4
      unfold arrC
      unfold arrC zerC at HZ4
      go_wp2_with (first
        | (refine ld_arr rfl (.tmp 11) rfl w3.heap.size rfl HR3.out ?_)
        | (refine st_arr rfl (.tmp 6) (.tmp 38) rfl (w.heap.size + 1) rfl _ _ _ _ _ _ _ _ _ rfl HZ4.out rfl ?_))
      exact bodyPost_ret (res_arr Tryz.results46 rfl (HZ4.out.put _) rfl) rfl ⟨_, rfl, HE.out⟩
end Go.Proofs.YtkljpofljkgkdaaGreatDoor

namespace Go.Proofs.YtkljpofljkgkdaaGreatDoor
open Go.RowKit
set_option maxHeartbeats 1600000 in
set_option maxRecDepth 100000 in
theorem moShape_any (cs : Array Value) (S : Nat → Int) (r : Nat) (ch : Bool) (L : Nat) (g fP : Nat → Int) (fQ : Nat → Nat) (w : World) (h : Arr w cs S r ch L g fP fQ) (hr : r ≤ 8) (hS : In64 S r) :
    Calls Tryz.prog 14 #[.agg cs] w fun e w' => ∃ cs', e = .returned (.agg cs') ∧ (∀ g, Arr w' cs' (fun _ => (r : Int)) 1 false r g S (fun _ => 1)) ∧ Below w.heap.size w w' := by
  obtain ⟨na, nn, nc, ta, tn, tc, hcs, _⟩ := h.form
  subst hcs
  have H := Lib.hid h
  have SH := Lib.hid (fun wz h => shape8_any (arrC ch ((r : Int) - 1) (dm S r) na nn nc ta tn tc) S r ch L g fP fQ wz h hr)
  have IN := Lib.hid (fun wz a c (h : KRow wz .i64 a r c S) => ints8_any a r c S wz h hS (by omega))
  have BB := Lib.hid (((Bag.start w).newRow (arrC ch ((r : Int) - 1) (dm S r) na nn nc ta tn tc) 34).newRow zerC 34)
  simp only [World.size_alloc] at BB
  have HR1 := Lib.hid BB.out.now.2.1
  clear h hS
  unfold arrC
  go_enter Tryz.func14, Tryz.ntmps14
  go_wp2_with (refine ld_arr rfl (.tmp 1) rfl w.heap.size rfl HR1.out ?_)
  go_at_call 38
  (with_reducible refine (SH.out _ ?_).mono ?_)
  · exact H.out.below BB.out.below
  rintro e w2 ⟨a2, c2, rfl, hk2, hb2⟩
  have BB := Lib.hid ((BB.out.go hb2).krow hk2)
  clear hk2 hb2
  go_wp2_with fail
  go_at_call 37
  (with_reducible refine (IN.out _ _ _ BB.out.now.1).mono ?_)
  rintro e w3 ⟨cs3, rfl, hcs, hb3⟩
  have B3 := BB.out.go hb3
  have HZ := Lib.hid B3.now.2.1
  have HE : Hid ((∀ g, Arr (w3.setRow (w.heap.size + 1) cs3) cs3 (fun _ => (r : Int)) 1 false r g S (fun _ => 1)) ∧ Below w.heap.size w (w3.setRow (w.heap.size + 1) cs3)) := Lib.hid ⟨fun g => (hcs g).put HZ.out _, below_put B3.below (Nat.le_succ _) _⟩
  obtain ⟨na3, nn3, nc3, ta3, tn3, tc3, hcs3, _⟩ := (hcs (fun _ => 0)).form
  subst hcs3
  clear hcs hb3 B3
  unfold arrC
  go_wp2_with (refine st_arr rfl (.tmp 2) (.tmp 5) rfl (w.heap.size + 1) rfl _ _ _ _ _ _ _ _ _ rfl HZ.out rfl ?_)
  exact bodyPost_ret (res_arr Tryz.results14 rfl (HZ.out.put _) rfl) rfl ⟨_, rfl, HE.out⟩
/-- The axis that is meant. -/
def axI (r : Nat) (i : Int) : Int := if i < 0 then (r : Int) - 1 else i
/-- Is there such an axis? -/
def axQ (r : Nat) (i : Int) : Bool := decide (0 ≤ axI r i) && decide (axI r i < (r : Int))
theorem arr_cells12 {w : World} {k : Nat} {t : TypeId} {ch : Bool} {more : Int} {d : Nat → Int} {na : Option Addr} {nn nc : Nat} {ta : Option Addr} {tn tc : Nat} (h : Row w k t (arrC ch more d na nn nc ta tn tc)) :
    w.cell? ⟨k, 0, none⟩ = some (.bool ch) ∧ w.cell? ⟨k, 1, none⟩ = some (.int .i64 more) ∧ w.cell? ⟨k, 2, none⟩ = some (.int .i64 (d 0)) ∧ w.cell? ⟨k, 3, none⟩ = some (.int .i64 (d 1)) ∧ w.cell? ⟨k, 4, none⟩ = some (.int .i64 (d 2)) ∧ w.cell? ⟨k, 5, none⟩ = some (.int .i64 (d 3)) ∧ w.cell? ⟨k, 6, none⟩ = some (.int .i64 (d 4)) ∧ w.cell? ⟨k, 7, none⟩ = some (.int .i64 (d 5)) ∧ w.cell? ⟨k, 8, none⟩ = some (.int .i64 (d 6)) ∧ w.cell? ⟨k, 9, none⟩ = some (.int .i64 (d 7)) ∧ w.cell? ⟨k, 10, none⟩ = some (.slice na nn nc) ∧ w.cell? ⟨k, 11, none⟩ = some (.slice ta tn tc) :=
  ⟨h.cell 0, h.cell 1, h.cell 2, h.cell 3, h.cell 4, h.cell 5, h.cell 6, h.cell 7, h.cell 8, h.cell 9, h.cell 10, h.cell 11⟩
set_option maxHeartbeats 1600000 in
set_option maxRecDepth 100000 in
theorem moAxis_any (cs : Array Value) (S : Nat → Int) (r : Nat) (ch : Bool) (L : Nat) (g fP : Nat → Int) (fQ : Nat → Nat) (i : Int) (w : World) (h : Arr w cs S r ch L g fP fQ) (hr : r ≤ 8) :
    Calls Tryz.prog 10 #[.agg cs, .int .i64 i] w fun e w' => e = .returned (.tuple #[.int .i64 (axI r i), .bool (axQ r i)]) ∧ Below w.heap.size w w' := by
  obtain ⟨na, nn, nc, ta, tn, tc, hcs, _⟩ := h.form
  subst hcs
  have H := Lib.hid h
  have RK := Lib.hid (fun wz h => rank8_any (arrC ch ((r : Int) - 1) (dm S r) na nn nc ta tn tc) S r ch L g fP fQ wz h (by omega))
  have RU := RK
  unfold arrC at RU
  have BB := Lib.hid ((Bag.start w).newRow (arrC ch ((r : Int) - 1) (dm S r) na nn nc ta tn tc) 34)
  have HR1 := Lib.hid BB.out.now.1
  have w1 := IntWalk.i64_in ((r : Int) - 1) (by omega)
  clear h
  by_cases hn : i < 0
  · have hx : axI r i = (r : Int) - 1 := by unfold axI; rw [if_pos hn]
    by_cases d1 : 0 ≤ (r : Int) - 1
    · have hq : axQ r i = true := by unfold axQ; rw [hx, decide_eq_true d1, decide_eq_true (show (r : Int) - 1 < r by omega)]; rfl
      rw [hq, hx]
      have d2 : (r : Int) - 1 < r := by omega
      clear hx hq
      unfold arrC
      go_enter Tryz.func10, Tryz.ntmps10
      go_wp2_with (refine ld_arr rfl (.tmp 2) rfl w.heap.size rfl HR1.out ?_)
      go_at_call 33
      (with_reducible refine (RK.out _ ?_).mono ?_)
      · exact H.out.below BB.out.below
      rintro e w2 ⟨rfl, hb2⟩
      have BB := Lib.hid (BB.out.go hb2)
      clear hb2
      obtain ⟨y0, y1, y2, y3, y4, y5, y6, y7, y8, y9, y10, y11⟩ := arr_cells12 BB.out.now.1
      go_wp2_with fail
      go_at_call 33
      (with_reducible refine (RU.out _ ?_).mono ?_)
      · exact H.out.below BB.out.below
      rintro e w3 ⟨rfl, hb2⟩
      have HE := Lib.hid (BB.out.go hb2).below
      clear hb2 y0 y1 y2 y3 y4 y5 y6 y7 y8 y9 y10 y11
      go_wp2
      exact bodyPost_ret (v := .tuple #[.int .i64 ((r : Int) - 1), .bool true]) (by simp [results, Tryz.results10, go_sem]) rfl ⟨rfl, HE.out⟩
    · have hq : axQ r i = false := by unfold axQ; rw [hx, decide_eq_false d1]; rfl
      rw [hq, hx]
      have dz : decide (0 ≤ (r : Int) - 1) = false := decide_eq_false d1
      clear hx hq
      unfold arrC
      go_enter Tryz.func10, Tryz.ntmps10
      go_wp2_with (refine ld_arr rfl (.tmp 2) rfl w.heap.size rfl HR1.out ?_)
      go_at_call 33
      (with_reducible refine (RK.out _ ?_).mono ?_)
      · exact H.out.below BB.out.below
      rintro e w2 ⟨rfl, hb2⟩
      have HE := Lib.hid (BB.out.go hb2).below
      clear hb2
      go_wp2
      exact bodyPost_ret (v := .tuple #[.int .i64 ((r : Int) - 1), .bool false]) (by simp [results, Tryz.results10, go_sem]) rfl ⟨rfl, HE.out⟩
  · have hx : axI r i = i := by unfold axI; rw [if_neg hn]
    have d1 : 0 ≤ i := by omega
    have hq : axQ r i = decide (i < (r : Int)) := by unfold axQ; rw [hx, decide_eq_true d1]; rfl
    rw [hq, hx]
    clear hx hq hn w1
    obtain ⟨b, hb⟩ : ∃ b, decide (i < (r : Int)) = b := ⟨_, rfl⟩
    rw [hb]
    obtain ⟨y0, y1, y2, y3, y4, y5, y6, y7, y8, y9, y10, y11⟩ := arr_cells12 BB.out.now.1
    unfold arrC
    unfold arrC at y0 y1 y2 y3 y4 y5 y6 y7 y8 y9 y10 y11
    go_enter Tryz.func10, Tryz.ntmps10
    go_wp2_with fail
    go_at_call 33
    (with_reducible refine (RU.out _ ?_).mono ?_)
    · exact H.out.below BB.out.below
    rintro e w2 ⟨rfl, hb2⟩
    have HE := Lib.hid (BB.out.go hb2).below
    clear hb2 y0 y1 y2 y3 y4 y5 y6 y7 y8 y9 y10 y11
    go_wp2
    exact bodyPost_ret (v := .tuple #[.int .i64 i, .bool b]) (by simp [results, Tryz.results10, go_sem]) rfl ⟨rfl, HE.out⟩
/-- Where the elements are taken that go again and again. -/
def arG (L : Nat) : Nat → Int := fun j => if L = 0 then (j : Int) else ((j % L : Nat) : Int)
/-- The function value that goes through many elements again and again. -/
theorem around_any (L : Nat) (hL : L ≤ 1000000) (w : World) :
    Calls Tryz.prog 47 #[.int .i64 (L : Nat)] w fun e w' => (∃ fv cap, e = .returned (.func (.func fv) #[] cap) ∧ Enters Tryz.prog fv ∧ ∀ M, M ≤ 1000000 → Gives fv cap (arG L) M w') ∧ Below w.heap.size w w' := by
  by_cases h0 : L = 0
  · subst h0
    have HB := Lib.hid (((Below.refl _ w).alloc (Nat.le_refl _) (.cells #[.int .i64 ((0 : Nat) : Int)] 3)))
    have HG : Hid (∀ wz M, M ≤ 1000000 → Gives 87 #[] (arG 0) M wz) := Lib.hid (fun wz M _ => around1_any M wz)
    have HE := Lib.hid ent_around1
    go_enter Tryz.func47, Tryz.ntmps47
    go_wp2
    go_ret
    exact ⟨⟨_, _, rfl, HE.out, HG.out _⟩, HB.out⟩
  · have d0 : ((L : Nat) : Int) ≠ 0 := by omega
    have d1 : (((L : Nat) : Int) == 0) = false := beq_eq_false_iff_ne.2 d0
    have hr := Row.new w 3 #[.int .i64 (L : Nat)]
    have HB := Lib.hid (((Below.refl _ w).alloc (Nat.le_refl _) (.cells #[.int .i64 (L : Nat)] 3)))
    have HG : Hid (∀ M, M ≤ 1000000 → Gives 88 #[.pointer (some ⟨w.heap.size, 0, none⟩)] (arG L) M (w.alloc (.cells #[.int .i64 (L : Nat)] 3))) := Lib.hid (fun M hM => by
      rw [show arG L = fun j => ((j % L : Nat) : Int) by funext j; unfold arG; rw [if_neg h0]]
      exact around2_any M L w.heap.size _ (by omega) (hr.cell 0) hr.lt)
    have HE := Lib.hid ent_around2
    clear hr h0
    go_enter Tryz.func47, Tryz.ntmps47
    go_wp2
    go_ret
    exact ⟨⟨_, _, rfl, HE.out, HG.out⟩, HB.out⟩
end Go.Proofs.YtkljpofljkgkdaaGreatDoor

namespace Go.Proofs.YtkljpofljkgkdaaGreatDoor
open Go.RowKit
/-- Twelve cells that are an array's. -/
def IsA (cs : Array Value) : Prop := ∃ ch more d na nn nc ta tn tc, cs = arrC ch more d na nn nc ta tn tc
theorem IsA.zer : IsA zerC := ⟨_, _, _, _, _, _, _, _, _, rfl⟩
theorem IsA.size {cs : Array Value} (h : IsA cs) : cs.size = 12 := by
  obtain ⟨_, _, _, _, _, _, _, _, _, rfl⟩ := h
  rfl
theorem IsA.one {cs : Array Value} (h : IsA cs) : cs.all (·.oneCell') = true := by
  obtain ⟨_, _, _, _, _, _, _, _, _, rfl⟩ := h
  exact arrC_one _ _ _ _ _ _ _ _ _
theorem Arr.isA {w : World} {cs : Array Value} {S : Nat → Int} {r : Nat} {ch : Bool} {L : Nat} {g fP : Nat → Int} {fQ : Nat → Nat} (h : Arr w cs S r ch L g fP fQ) : IsA cs := by
  obtain ⟨na, nn, nc, ta, tn, tc, rfl, _⟩ := h.form
  exact ⟨_, _, _, _, _, _, _, _, _, rfl⟩
theorem Arr.store {w : World} {cs : Array Value} {S : Nat → Int} {r : Nat} {ch : Bool} {L : Nat} {g fP : Nat → Int} {fQ : Nat → Nat} (h : Arr w cs S r ch L g fP fQ) {k : Nat} {t : TypeId} {z : Array Value} (hr : Row w k t z) (hz : IsA z) (cs' : Array Value) : Arr (w.setRow k cs') cs S r ch L g fP fQ := by
  obtain ⟨_, _, _, _, _, _, _, _, _, rfl⟩ := hz
  exact h.away hr (Far.setRow _ _ _)
theorem ev_tmp {a : Act} {d : Nat} {v : Value} (h : a.tmps[d]? = some v) : a.eval (.tmp d) = v := by
  show a.tmps.getD d undef = v
  rw [Array.getD_eq_getD_getElem?, h]; rfl
theorem ld8 {o : Oper} {a : Act} {w : World} {K : Act → World → Prop} {Q : Exit → Act → World → Prop} (d : Nat) (ho : o.op = .load 34 (.tmp d)) (g : Nat) (cs : Array Value) (hd : a.tmps[d]? = some (.pointer (some ⟨g, 0, none⟩))) (hr : Row w g 34 cs) (hs : cs.size = 12)
    (hK : K (a.put o.dst (.agg cs)) w) : o.wp Tryz.prog a w K Q :=
  wp_load_row 34 (.tmp d) ho g (ev_tmp hd) 34 cs (0, 0) _ hr Tryz.underlying34 rfl (by rw [arr12, hs]) hK
theorem ldP {o : Oper} {a : Act} {w : World} {K : Act → World → Prop} {Q : Exit → Act → World → Prop} (d : Nat) (ho : o.op = .load 26 (.tmp d)) (g : Nat) (cs : Array Value) (hd : a.tmps[d]? = some (.pointer (some ⟨g, 0, none⟩))) (hr : Row w g 26 cs) (hs : cs.size = 4)
    (hK : K (a.put o.dst (.agg cs)) w) : o.wp Tryz.prog a w K Q :=
  wp_load_row 26 (.tmp d) ho g (ev_tmp hd) 26 cs (0, 0) _ hr Tryz.underlying26 rfl (by rw [pln4, hs]) hK
theorem st8 {o : Oper} {a : Act} {w : World} {K : Act → World → Prop} {Q : Exit → Act → World → Prop} (d s : Nat) (ho : o.op = .store 34 (.tmp d) (.tmp s)) (g : Nat) (cs : Array Value) (hd : a.tmps[d]? = some (.pointer (some ⟨g, 0, none⟩))) (hs : a.tmps[s]? = some (.agg cs)) (t : TypeId) (z : Array Value) (hr : Row w g t z) (hz : IsA z) (hc : IsA cs)
    (hK : K (a.put o.dst undef) (w.setRow g cs)) : o.wp Tryz.prog a w K Q :=
  wp_store_row 34 (.tmp d) (.tmp s) ho g cs (ev_tmp hd) (ev_tmp hs) t z hr (by rw [arr12, hc.size]) (by rw [hz.size, hc.size]) hc.one hK
/-- What answers an array and an error. -/
def MoTold (E : Int) (S : Nat → Int) (r : Nat) (ch : Bool) (L : Nat) (g fP : Nat → Int) (fQ : Nat → Nat) (w w' : World) (e : Ending) : Prop :=
  ∃ cs, e = .returned (.tuple #[.agg cs, .int .i64 E]) ∧ (E = 0 → Arr w' cs S r ch L g fP fQ) ∧ (E ≠ 0 → cs = zerC) ∧ Below w.heap.size w w'
theorem MoTold.no {E : Int} (hE : E ≠ 0) {S : Nat → Int} {r : Nat} {ch : Bool} {L : Nat} {g fP : Nat → Int} {fQ : Nat → Nat} {w w' : World} (hb : Below w.heap.size w w') : MoTold E S r ch L g fP fQ w w' (.returned (.tuple #[.agg zerC, .int .i64 E])) :=
  ⟨zerC, rfl, fun e => absurd e hE, fun _ => rfl, hb⟩
theorem MoTold.yes {S : Nat → Int} {r : Nat} {ch : Bool} {L : Nat} {g fP : Nat → Int} {fQ : Nat → Nat} {w w' : World} {cs : Array Value} (h : Arr w' cs S r ch L g fP fQ) (hb : Below w.heap.size w w') : MoTold 0 S r ch L g fP fQ w w' (.returned (.tuple #[.agg cs, .int .i64 0])) :=
  ⟨cs, rfl, fun _ => h, fun e => absurd rfl e, hb⟩
end Go.Proofs.YtkljpofljkgkdaaGreatDoor

namespace Go.Proofs.YtkljpofljkgkdaaGreatDoor
open Go.RowKit
attribute [local go_sem ↓] Go.wp_at_zero Go.wp_at_succ
/-- The error of Reshape. -/
def rsE (r0 : Nat) (ch0 : Bool) (L0 : Nat) (P0 : Nat → Int) (Q0 : Nat → Nat) : Int :=
  if liE r0 (whC ch0 L0 P0 Q0) = 0 then (if negB P0 L0 then 22 else if 8 < L0 then 23 else if shB P0 L0 then 0 else 26) else liE r0 (whC ch0 L0 P0 Q0)
theorem liE_wh {r : Nat} {b : Bool} (h : liE r b = 0) : b = true := by
  unfold liE at h
  split at h
  · cases h
  · cases b
    · cases h
    · rfl
/-- A function value that goes again and again, for shapes of whatever size. -/
def GiveA (w : World) (fv : FuncId) (cap : Array Value) (L : Nat) : Prop := ∀ M, M ≤ 1000000 → Gives fv cap (arG L) M w
theorem GiveA.below {w w' : World} {fv : FuncId} {cap : Array Value} {L : Nat} (h : GiveA w fv cap L) (hb : Below w.heap.size w w') : GiveA w' fv cap L := fun M hM => (h M hM).below hb
theorem arG_in {L M : Nat} (hL : L ≤ 1000000) (hM : M ≤ 1000000) : In64 (arG L) M := fun j hj => by
  unfold arG
  split
  · omega
  · have := Nat.mod_lt j (show 0 < L by omega)
    omega
set_option linter.unusedSimpArgs false in
set_option maxHeartbeats 6400000 in
set_option maxRecDepth 100000 in
theorem reshape_any (cs0 : Array Value) (S0 : Nat → Int) (r0 : Nat) (ch0 : Bool) (L0 : Nat) (g0 P0 : Nat → Int) (Q0 : Nat → Nat) (cs : Array Value) (S : Nat → Int) (r : Nat) (ch : Bool) (L : Nat) (g fP : Nat → Int) (fQ : Nat → Nat) (w : World) (h0 : Arr w cs0 S0 r0 ch0 L0 g0 P0 Q0) (h : Arr w cs S r ch L g fP fQ)
    (hr0 : r0 ≤ 8) (hQ0 : ch0 = false → ∀ j, j < L0 → 0 < Q0 j) (hL0 : L0 ≤ 1000000) (hL : L ≤ 1000000) :
    Calls Tryz.prog 17 #[.agg cs0, .agg cs] w fun e w' => MoTold (rsE r0 ch0 L0 P0 Q0) P0 L0 ch (itm P0 L0).toNat (fun j => elC L g 32 (arG L j)) (fun j => elP L fP (arG L j)) (fun j => elQ L fQ (arG L j)) w w' e := by
  obtain ⟨nb, nnb, ncb, tb, tnb, tcb, hcs0, _⟩ := h0.form
  subst hcs0
  obtain ⟨na, nn, nc, ta, tn, tc, hcs, _⟩ := h.form
  subst hcs
  have H0 := Lib.hid h0
  have H := Lib.hid h
  have LI := Lib.hid (fun wz h => list_any (arrC ch0 ((r0 : Int) - 1) (dm S0 r0) nb nnb ncb tb tnb tcb) S0 r0 ch0 L0 g0 P0 Q0 wz h hr0 hQ0 hL0)
  have NE := Lib.hid (fun a c wz h => anyNeg_any a L0 c P0 wz h)
  have LN := Lib.hid (fun wz h => len8_any (arrC ch ((r : Int) - 1) (dm S r) na nn nc ta tn tc) S r ch L g fP fQ wz h)
  have AR := Lib.hid (fun wz => around_any L hL wz)
  have BB := Lib.hid ((((Bag.start w).newRow (arrC ch0 ((r0 : Int) - 1) (dm S0 r0) nb nnb ncb tb tnb tcb) 34).newRow (arrC ch ((r : Int) - 1) (dm S r) na nn nc ta tn tc) 34).newRow zerC 34)
  simp only [World.size_alloc] at BB
  have HR1 := Lib.hid BB.out.now.2.2.1
  unfold LiTold at LI
  unfold rsE
  have HI : Hid (liE r0 (whC ch0 L0 P0 Q0) = 0 → In64 P0 L0) := Lib.hid (fun e => whC_in (liE_wh e))
  generalize liE r0 (whC ch0 L0 P0 Q0) = E0 at *
  clear h0 h hQ0
  by_cases hE : E0 = 0
  · rw [if_pos hE]
    have hin := HI.out hE
    subst hE
    cases hng : negB P0 L0 with
    | true =>
      rw [if_pos rfl]
      rw [hng] at NE
      clear HI hin hng
      unfold arrC
      go_enter Tryz.func17, Tryz.ntmps17
      go_wp2_with (refine ld_arr rfl (.tmp 2) rfl w.heap.size rfl HR1.out ?_)
      go_at_call 42
      (with_reducible refine (LI.out _ ?_).mono ?_)
      · exact H0.out.below BB.out.below
      rintro e w2 ⟨a6, m6, c6, rfl, hk6, hb2⟩
      obtain ⟨hm6, hk7⟩ := hk6 trivial
      clear hk6
      subst m6
      have BB := Lib.hid ((BB.out.go hb2).krow hk7)
      clear hk7 hb2
      go_wp2_with fail
      go_at_call 43
      (with_reducible refine (NE.out _ _ _ ?_).mono ?_)
      · exact BB.out.now.1
      rintro e w3 ⟨rfl, hb3⟩
      have BB := Lib.hid (BB.out.go hb3)
      have HZ := Lib.hid BB.out.now.2.1
      clear hb3
      have HE := Lib.hid (MoTold.no (S := P0) (r := L0) (ch := ch) (L := (itm P0 L0).toNat) (g := fun j => elC L g 32 (arG L j)) (fP := fun j => elP L fP (arG L j)) (fQ := fun j => elQ L fQ (arG L j)) (E := 22) (by decide) (below_put BB.out.below (show w.heap.size ≤ w.heap.size + 1 + 1 by omega) zerC))
      go_wp2_with (refine st_arr rfl (.tmp 4) (.tmp 21) rfl (w.heap.size + 1 + 1) rfl false 0 (fun _ => 0) none 0 0 none 0 0 rfl HZ.out rfl ?_)
      exact bodyPost_ret (res_arr2 Tryz.results17 rfl rfl (HZ.out.put _) rfl) rfl HE.out
    | false =>
      rw [if_neg (by decide)]
      rw [hng] at NE
      by_cases h8 : 8 < L0
      · rw [if_pos h8]
        have d8 : (8 : Int) < (L0 : Int) := by omega
        clear HI hin hng h8
        unfold arrC
        go_enter Tryz.func17, Tryz.ntmps17
        go_wp2_with (refine ld_arr rfl (.tmp 2) rfl w.heap.size rfl HR1.out ?_)
        go_at_call 42
        (with_reducible refine (LI.out _ ?_).mono ?_)
        · exact H0.out.below BB.out.below
        rintro e w2 ⟨a6, m6, c6, rfl, hk6, hb2⟩
        obtain ⟨hm6, hk7⟩ := hk6 trivial
        clear hk6
        subst m6
        have BB := Lib.hid ((BB.out.go hb2).krow hk7)
        clear hk7 hb2
        go_wp2_with fail
        go_at_call 43
        (with_reducible refine (NE.out _ _ _ ?_).mono ?_)
        · exact BB.out.now.1
        rintro e w3 ⟨rfl, hb3⟩
        have BB := Lib.hid (BB.out.go hb3)
        have HZ := Lib.hid BB.out.now.2.1
        clear hb3
        have HE := Lib.hid (MoTold.no (S := P0) (r := L0) (ch := ch) (L := (itm P0 L0).toNat) (g := fun j => elC L g 32 (arG L j)) (fP := fun j => elP L fP (arG L j)) (fQ := fun j => elQ L fQ (arG L j)) (E := 23) (by decide) (below_put BB.out.below (show w.heap.size ≤ w.heap.size + 1 + 1 by omega) zerC))
        go_wp2_with (refine st_arr rfl (.tmp 4) (.tmp 25) rfl (w.heap.size + 1 + 1) rfl false 0 (fun _ => 0) none 0 0 none 0 0 rfl HZ.out rfl ?_)
        exact bodyPost_ret (res_arr2 Tryz.results17 rfl rfl (HZ.out.put _) rfl) rfl HE.out
      · rw [if_neg h8]
        have d8 : ¬ ((8 : Int) < (L0 : Int)) := by omega
        have CN := Lib.hid (fun a c wz (h : KRow wz .i64 a L0 c P0) => count_any a L0 c P0 wz h hin)
        unfold CntTold at CN
        cases hsh : shB P0 L0 with
        | false =>
          rw [if_neg (by decide)]
          rw [hsh] at CN
          generalize cntI P0 L0 = x at *
          clear HI hin hng h8 hsh
          unfold arrC
          go_enter Tryz.func17, Tryz.ntmps17
          go_wp2_with (refine ld_arr rfl (.tmp 2) rfl w.heap.size rfl HR1.out ?_)
          go_at_call 42
          (with_reducible refine (LI.out _ ?_).mono ?_)
          · exact H0.out.below BB.out.below
          rintro e w2 ⟨a6, m6, c6, rfl, hk6, hb2⟩
          obtain ⟨hm6, hk7⟩ := hk6 trivial
          clear hk6
          subst m6
          have BB := Lib.hid ((BB.out.go hb2).krow hk7)
          clear hk7 hb2
          go_wp2_with fail
          go_at_call 43
          (with_reducible refine (NE.out _ _ _ ?_).mono ?_)
          · exact BB.out.now.1
          rintro e w3 ⟨rfl, hb3⟩
          have BB := Lib.hid (BB.out.go hb3)
          have HZ := Lib.hid BB.out.now.2.1
          clear hb3
          go_wp2_with fail
          go_at_call 45
          (with_reducible refine (CN.out _ _ _ ?_).mono ?_)
          · exact BB.out.now.1
          rintro e w4 ⟨rfl, rfl⟩
          have HE := Lib.hid (MoTold.no (S := P0) (r := L0) (ch := ch) (L := (itm P0 L0).toNat) (g := fun j => elC L g 32 (arG L j)) (fP := fun j => elP L fP (arG L j)) (fQ := fun j => elQ L fQ (arG L j)) (E := 26) (by decide) (below_put BB.out.below (show w.heap.size ≤ w.heap.size + 1 + 1 by omega) zerC))
          go_wp2_with (refine st_arr rfl (.tmp 4) (.tmp 33) rfl (w.heap.size + 1 + 1) rfl false 0 (fun _ => 0) none 0 0 none 0 0 rfl HZ.out rfl ?_)
          exact bodyPost_ret (res_arr2 Tryz.results17 rfl rfl (HZ.out.put _) rfl) rfl HE.out
        | true =>
          rw [if_pos rfl]
          have hbd := ax_bd (sh_ax hsh).2
          obtain ⟨M, hM⟩ : ∃ M : Nat, itm P0 L0 = M := ⟨(itm P0 L0).toNat, by omega⟩
          have hM4 : M ≤ 4096 := by omega
          have hx : cntI P0 L0 = (M : Nat) := by unfold cntI; rw [hsh, if_pos rfl, hM]
          rw [hsh, hx] at CN
          have PK := Lib.hid (fun a c fv cap he wz (q : Arr wz (arrC ch ((r : Int) - 1) (dm S r) na nn nc ta tn tc) S r ch L g fP fQ) (k : KRow wz .i64 a L0 c P0) (z : GiveA wz fv cap L) => picked_any fv cap he (arrC ch ((r : Int) - 1) (dm S r) na nn nc ta tn tc) S r ch L g fP fQ a L0 c P0 M (arG L) wz q k hin hsh hM (arG_in hL (by omega)) (z M (by omega)))
          rw [show (itm P0 L0).toNat = M by omega]
          unfold Gives at AR
          generalize (fun j => elC L g 32 (arG L j)) = eC at *
          generalize (fun j => elP L fP (arG L j)) = eP at *
          generalize (fun j => elQ L fQ (arG L j)) = eQ at *
          clear HI hin hng h8 hsh hbd hM hx
          unfold arrC
          go_enter Tryz.func17, Tryz.ntmps17
          go_wp2_with (refine ld_arr rfl (.tmp 2) rfl w.heap.size rfl HR1.out ?_)
          go_at_call 42
          (with_reducible refine (LI.out _ ?_).mono ?_)
          · exact H0.out.below BB.out.below
          rintro e w2 ⟨a6, m6, c6, rfl, hk6, hb2⟩
          obtain ⟨hm6, hk7⟩ := hk6 trivial
          clear hk6
          subst m6
          have BB := Lib.hid ((BB.out.go hb2).krow hk7)
          clear hk7 hb2
          go_wp2_with fail
          go_at_call 43
          (with_reducible refine (NE.out _ _ _ ?_).mono ?_)
          · exact BB.out.now.1
          rintro e w3 ⟨rfl, hb3⟩
          have BB := Lib.hid (BB.out.go hb3)
          have HZ := Lib.hid BB.out.now.2.1
          clear hb3
          go_wp2_with fail
          go_at_call 45
          (with_reducible refine (CN.out _ _ _ ?_).mono ?_)
          · exact BB.out.now.1
          rintro e w4 ⟨rfl, rfl⟩
          go_wp2_with fail
          refine wp_region_inv3 ⟨(fun j => ([[34], [35], [36], [37], [38], [39], [], []] : List (List Nat)).getD j []), (fun j => ([[], [], [], [2], [2, 3], [0, 1, 2, 3, 4], [0, 1, 2, 3, 4, 5], [0, 1, 2, 3, 4, 5, 6]] : List (List Nat)).getD j []), []⟩ 6 (fun jj vv yy => match jj with | 0 => vv = [some (.agg (arrC ch ((r : Int) - 1) (dm S r) na nn nc ta tn tc))] | 1 => vv = [some (.slice a6 L0 c6)] | 2 => vv = [some (.agg (arrC ch ((r : Int) - 1) (dm S r) na nn nc ta tn tc))] | 3 => vv = [some (.int .i64 L)] | 4 => ∃ (fv4 : FuncId), ∃ (cap4 : Array Value), vv = [some (.func (.func fv4) #[] cap4)] ∧ Enters Tryz.prog fv4 ∧ GiveA yy fv4 cap4 L | 5 => ∃ (x5 : Array Value), vv = [some (.agg x5)] ∧ Arr yy x5 P0 L0 ch M eC eP eQ ∧ IsA x5 | _ => True) (Bag w3 (fun _ => True)) (by kernel_rfl) (by kernel_rfl) (by kernel_rfl) (by kernel_rfl) (Bag.start w3).drew ?_ ?_ ?_
          · intro jj vv yw yw2 hb h
            match jj, h with
            | 0, h => exact h
            | 1, h => exact h
            | 2, h => exact h
            | 3, h => exact h
            | 4, ⟨fv4, cap4, e4, g4_0, g4_1⟩ => exact Exists.intro fv4 (Exists.intro cap4 (And.intro e4 (And.intro g4_0 (g4_1.below hb))))
            | 5, ⟨x5, e5, g5_0, g5_1⟩ => exact Exists.intro x5 (And.intro e5 (And.intro (g5_0.below hb) g5_1))
            | _ + 6, h => exact h
          · intro ac yw hsz hdf hold hB hp
            obtain ⟨x5, e5, g5_0, g5_1⟩ := hp 5 (by decide)
            have t39 : ac.tmps[39]? = some (.agg x5) := (List.cons.inj e5).1
            have t4 : ac.tmps[4]? = some (.pointer (some ⟨w.heap.size + 1 + 1, 0, none⟩)) := hold 4 (by kernel_rfl)
            have BC := BB.out.go hB.below
            have hz := BC.now.2.1
            refine TailWp.step rfl ?_
            intro K hK
            rw [if_pos (by rfl)]
            refine st8 4 39 rfl (w.heap.size + 1 + 1) x5 t4 t39 _ zerC hz IsA.zer g5_1 ?_
            refine hK.out _ _ ?_
            refine TailWp.step rfl ?_
            intro K hK
            go_simp
            refine hK.out _ _ ?_
            refine TailWp.end rfl ?_
            have HZ := Lib.hid (hz.put x5)
            have HE := Lib.hid (MoTold.yes (g5_0.store hz IsA.zer x5) (below_put BC.below (show w.heap.size ≤ w.heap.size + 1 + 1 by omega) x5))
            obtain ⟨_, _, _, _, _, _, _, _, _, hx5⟩ := g5_1
            subst hx5
            obtain ⟨TW, hTW⟩ : ∃ TW : Nat → Value, ∀ i, (ac.tmps[i]?).getD undef = TW i := ⟨_, fun _ => rfl⟩
            have f4 := (hTW 4).symm.trans (congrArg (fun x => Option.getD x undef) t4)
            have hac := act_eq (n := 40) hsz TW hTW
            rw [show ((List.range 40).map TW).toArray = #[TW 0, TW 1, TW 2, TW 3, TW 4, TW 5, TW 6, TW 7, TW 8, TW 9, TW 10, TW 11, TW 12, TW 13, TW 14, TW 15, TW 16, TW 17, TW 18, TW 19, TW 20, TW 21, TW 22, TW 23, TW 24, TW 25, TW 26, TW 27, TW 28, TW 29, TW 30, TW 31, TW 32, TW 33, TW 34, TW 35, TW 36, TW 37, TW 38, TW 39] from rfl, f4, hdf] at hac
            simp only [Option.getD_some] at hac
            subst hac
            clear hTW f4
            go_wp2_with fail
            exact bodyPost_ret (res_arr2 Tryz.results17 rfl rfl HZ.out rfl) rfl HE.out
          refine Stps2.cons (o := _) ?_ ?_
          · intro ac yw hsz hold hB hp K hK
            have t3 : ac.tmps[3]? = some (.pointer (some ⟨w.heap.size + 1, 0, none⟩)) := hold 3 (by kernel_rfl)
            clear hold hp hsz
            rw [if_pos (by rfl)]
            refine ld8 3 rfl (w.heap.size + 1) ((arrC ch ((r : Int) - 1) (dm S r) na nn nc ta tn tc)) t3 ((BB.out.go hB.below).now.2.2.1) (rfl) ?_
            exact hK.out _ _ ⟨hB, rfl, Nat.le_refl _, .inl (Below.refl _ _), fun h => absurd h (by decide)⟩
          refine Stps2.cons (o := _) ?_ ?_
          · intro ac yw hsz hold hB hp K hK
            have t6 : ac.tmps[6]? = some (.slice a6 L0 c6) := hold 6 (by kernel_rfl)
            clear hold hp hsz
            go_simp
            exact hK.out _ _ ⟨hB, rfl, Nat.le_refl _, .inl (Below.refl _ _), fun h => absurd h (by decide)⟩
          refine Stps2.cons (o := _) ?_ ?_
          · intro ac yw hsz hold hB hp K hK
            have t3 : ac.tmps[3]? = some (.pointer (some ⟨w.heap.size + 1, 0, none⟩)) := hold 3 (by kernel_rfl)
            clear hold hp hsz
            rw [if_pos (by rfl)]
            refine ld8 3 rfl (w.heap.size + 1) ((arrC ch ((r : Int) - 1) (dm S r) na nn nc ta tn tc)) t3 ((BB.out.go hB.below).now.2.2.1) (rfl) ?_
            exact hK.out _ _ ⟨hB, rfl, Nat.le_refl _, .inl (Below.refl _ _), fun h => absurd h (by decide)⟩
          refine Stps2.cons (o := _) ?_ ?_
          · intro ac yw hsz hold hB hp K hK
            have e2 := hp 2 (by decide)
            have t36 : ac.tmps[36]? = some (.agg (arrC ch ((r : Int) - 1) (dm S r) na nn nc ta tn tc)) := (List.cons.inj e2).1
            clear hold hp hsz e2
            go_simp
            (go_at_call 32; (with_reducible refine (LN.out _ (H.out.below (BB.out.go hB.below).below)).mono ?_); rintro e wz ⟨rfl, hbz⟩)
            exact hK.out _ _ ⟨hB.go hbz, rfl, hbz.size, .inl hbz, fun h => absurd h (by decide)⟩
          refine Stps2.cons (o := _) ?_ ?_
          · intro ac yw hsz hold hB hp K hK
            have e3 := hp 3 (by decide)
            have t37 : ac.tmps[37]? = some (.int .i64 L) := (List.cons.inj e3).1
            clear hold hp hsz e3
            go_simp
            (go_at_call 47; (with_reducible refine (AR.out _).mono ?_); rintro e wz ⟨⟨fv4, cap4, rfl, h4_0, h4_1⟩, hbz⟩)
            exact hK.out _ _ ⟨hB.go hbz, Exists.intro fv4 (Exists.intro cap4 (And.intro rfl (And.intro h4_0 h4_1))), hbz.size, .inl hbz, fun h => absurd h (by decide)⟩
          refine Stps2.cons (o := _) ?_ ?_
          · intro ac yw hsz hold hB hp K hK
            have e0 := hp 0 (by decide)
            have t34 : ac.tmps[34]? = some (.agg (arrC ch ((r : Int) - 1) (dm S r) na nn nc ta tn tc)) := (List.cons.inj e0).1
            have e1 := hp 1 (by decide)
            have t35 : ac.tmps[35]? = some (.slice a6 L0 c6) := (List.cons.inj e1).1
            obtain ⟨fv4_4, cap4_4, e4, g4_0, g4_1⟩ := hp 4 (by decide)
            have t38 : ac.tmps[38]? = some (.func (.func fv4_4) #[] cap4_4) := (List.cons.inj e4).1
            clear hold hp hsz e0 e1 e4
            go_simp
            (go_at_call 46; (refine (PK.out _ _ _ _ g4_0 _ (H.out.below (BB.out.go hB.below).below) (BB.out.go hB.below).now.1 g4_1).mono ?_); rintro e wz ⟨x5, rfl, h5_0, hbz⟩)
            exact hK.out _ _ ⟨hB.go hbz, Exists.intro x5 (And.intro rfl (And.intro h5_0 h5_0.isA)), hbz.size, .inl hbz, fun h => absurd h (by decide)⟩
          exact Stps2.nil _
  · rw [if_neg hE]
    have dE : (E0 != 0) = true := bne_iff_ne.2 hE
    have HE0 := Lib.hid hE
    clear hE HI
    unfold arrC
    go_enter Tryz.func17, Tryz.ntmps17
    go_wp2_with (refine ld_arr rfl (.tmp 2) rfl w.heap.size rfl HR1.out ?_)
    go_at_call 42
    (with_reducible refine (LI.out _ ?_).mono ?_)
    · exact H0.out.below BB.out.below
    rintro e w2 ⟨a6, m6, c6, rfl, hk6, hb2⟩
    have BB := Lib.hid (BB.out.go hb2)
    have HZ := Lib.hid BB.out.now.1
    clear hb2 hk6
    have HE := Lib.hid (MoTold.no (S := P0) (r := L0) (ch := ch) (L := (itm P0 L0).toNat) (g := fun j => elC L g 32 (arG L j)) (fP := fun j => elP L fP (arG L j)) (fQ := fun j => elQ L fQ (arG L j)) (E := E0) HE0.out (below_put BB.out.below (show w.heap.size ≤ w.heap.size + 1 + 1 by omega) zerC))
    go_wp2_with (refine st_arr rfl (.tmp 4) (.tmp 17) rfl (w.heap.size + 1 + 1) rfl false 0 (fun _ => 0) none 0 0 none 0 0 rfl HZ.out rfl ?_)
    exact bodyPost_ret (res_arr2 Tryz.results17 rfl rfl (HZ.out.put _) rfl) rfl HE.out
end Go.Proofs.YtkljpofljkgkdaaGreatDoor

namespace Go.Proofs.YtkljpofljkgkdaaGreatDoor
open Go.RowKit
/-- Is there no axis, and none asked for? -/
def stB (r : Nat) (i : Int) : Bool := decide (r = 0) && decide (i < 0)
set_option maxHeartbeats 1600000 in
set_option maxRecDepth 100000 in
theorem still_any (cs : Array Value) (S : Nat → Int) (r : Nat) (ch : Bool) (L : Nat) (g fP : Nat → Int) (fQ : Nat → Nat) (i : Int) (w : World) (h : Arr w cs S r ch L g fP fQ) (hr : r ≤ 8) :
    Calls Tryz.prog 52 #[.agg cs, .int .i64 i] w fun e w' => e = .returned (.bool (stB r i)) ∧ Below w.heap.size w w' := by
  obtain ⟨na, nn, nc, ta, tn, tc, hcs, _⟩ := h.form
  subst hcs
  have H := Lib.hid h
  have RK := Lib.hid (fun wz h => rank8_any (arrC ch ((r : Int) - 1) (dm S r) na nn nc ta tn tc) S r ch L g fP fQ wz h (by omega))
  have BB := Lib.hid ((Bag.start w).newRow (arrC ch ((r : Int) - 1) (dm S r) na nn nc ta tn tc) 34)
  have HR1 := Lib.hid BB.out.now.1
  clear h
  unfold arrC
  by_cases h0 : r = 0
  · have hq : stB r i = decide (i < 0) := by unfold stB; rw [decide_eq_true h0, Bool.true_and]
    rw [hq]
    have d0 : ((r : Int) == 0) = true := beq_iff_eq.2 (by omega)
    obtain ⟨b, hb⟩ : ∃ b, decide (i < 0) = b := ⟨_, rfl⟩
    rw [hb]
    clear hq h0
    go_enter Tryz.func52, Tryz.ntmps52
    go_wp2_with (refine ld_arr rfl (.tmp 2) rfl w.heap.size rfl HR1.out ?_)
    go_at_call 33
    (with_reducible refine (RK.out _ ?_).mono ?_)
    · exact H.out.below BB.out.below
    rintro e w2 ⟨rfl, hb2⟩
    have HE := Lib.hid (BB.out.go hb2).below
    clear hb2
    go_wp2
    go_ret
    exact ⟨rfl, HE.out⟩
  · have hq : stB r i = false := by unfold stB; rw [decide_eq_false h0, Bool.false_and]
    rw [hq]
    have d0 : ((r : Int) == 0) = false := beq_eq_false_iff_ne.2 (by omega)
    clear hq h0
    go_enter Tryz.func52, Tryz.ntmps52
    go_wp2_with (refine ld_arr rfl (.tmp 2) rfl w.heap.size rfl HR1.out ?_)
    go_at_call 33
    (with_reducible refine (RK.out _ ?_).mono ?_)
    · exact H.out.below BB.out.below
    rintro e w2 ⟨rfl, hb2⟩
    have HE := Lib.hid (BB.out.go hb2).below
    clear hb2
    go_wp2
    go_ret
    exact ⟨rfl, HE.out⟩
/-- Is it one number for all rows? -/
def sgB (r L : Nat) : Bool := decide (r ≤ 1) && decide (L = 1)
set_option maxHeartbeats 1600000 in
set_option maxRecDepth 100000 in
theorem single_any (cs : Array Value) (S : Nat → Int) (r : Nat) (ch : Bool) (L : Nat) (g fP : Nat → Int) (fQ : Nat → Nat) (w : World) (h : Arr w cs S r ch L g fP fQ) (hr : r ≤ 8) :
    Calls Tryz.prog 59 #[.agg cs] w fun e w' => e = .returned (.bool (sgB r L)) ∧ Below w.heap.size w w' := by
  obtain ⟨na, nn, nc, ta, tn, tc, hcs, _⟩ := h.form
  subst hcs
  have H := Lib.hid h
  have RK := Lib.hid (fun wz h => rank8_any (arrC ch ((r : Int) - 1) (dm S r) na nn nc ta tn tc) S r ch L g fP fQ wz h (by omega))
  have LN := Lib.hid (fun wz h => len8_any (arrC ch ((r : Int) - 1) (dm S r) na nn nc ta tn tc) S r ch L g fP fQ wz h)
  unfold arrC at LN
  have BB := Lib.hid ((Bag.start w).newRow (arrC ch ((r : Int) - 1) (dm S r) na nn nc ta tn tc) 34)
  have HR1 := Lib.hid BB.out.now.1
  clear h
  unfold arrC
  by_cases h1 : r ≤ 1
  · have hq : sgB r L = decide (L = 1) := by unfold sgB; rw [decide_eq_true h1, Bool.true_and]
    rw [hq]
    have d1 : (r : Int) ≤ 1 := by omega
    obtain ⟨b, hb⟩ : ∃ b, ((L : Int) == 1) = b := ⟨_, rfl⟩
    have hb2 : decide (L = 1) = b := by
      rw [← hb]
      by_cases e : L = 1
      · rw [decide_eq_true e, beq_iff_eq.2 (by omega)]
      · rw [decide_eq_false e, beq_eq_false_iff_ne.2 (by omega)]
    rw [hb2]
    clear hq h1 hb2
    go_enter Tryz.func59, Tryz.ntmps59
    go_wp2_with (refine ld_arr rfl (.tmp 1) rfl w.heap.size rfl HR1.out ?_)
    go_at_call 33
    (with_reducible refine (RK.out _ ?_).mono ?_)
    · exact H.out.below BB.out.below
    rintro e w2 ⟨rfl, hb2⟩
    have BB := Lib.hid (BB.out.go hb2)
    clear hb2
    obtain ⟨y0, y1, y2, y3, y4, y5, y6, y7, y8, y9, y10, y11⟩ := arr_cells12 BB.out.now.1
    go_wp2_with fail
    go_at_call 32
    (with_reducible refine (LN.out _ ?_).mono ?_)
    · exact H.out.below BB.out.below
    rintro e w3 ⟨rfl, hb2⟩
    have HE := Lib.hid (BB.out.go hb2).below
    clear hb2 y0 y1 y2 y3 y4 y5 y6 y7 y8 y9 y10 y11
    go_wp2
    go_ret
    exact ⟨rfl, HE.out⟩
  · have hq : sgB r L = false := by unfold sgB; rw [decide_eq_false h1, Bool.false_and]
    rw [hq]
    have dz : decide ((r : Int) ≤ 1) = false := decide_eq_false (by omega)
    clear hq h1
    go_enter Tryz.func59, Tryz.ntmps59
    go_wp2_with (refine ld_arr rfl (.tmp 1) rfl w.heap.size rfl HR1.out ?_)
    go_at_call 33
    (with_reducible refine (RK.out _ ?_).mono ?_)
    · exact H.out.below BB.out.below
    rintro e w2 ⟨rfl, hb2⟩
    have HE := Lib.hid (BB.out.go hb2).below
    clear hb2
    go_wp2
    go_ret
    exact ⟨rfl, HE.out⟩
/-- The error of an array that has not an element for each row. -/
def ftE (S : Nat → Int) (r n : Nat) (f : Nat → Int) : Int := if r = n then (if sameB S f r then 0 else 24) else 23
set_option maxHeartbeats 1600000 in
set_option maxRecDepth 100000 in
theorem fits_any (cs : Array Value) (S : Nat → Int) (r : Nat) (ch : Bool) (L : Nat) (g fP : Nat → Int) (fQ : Nat → Nat) (a : Option Addr) (n c : Nat) (f : Nat → Int) (w : World) (h : Arr w cs S r ch L g fP fQ) (hr : r ≤ 8) (hk : KRow w .i64 a n c f) :
    Calls Tryz.prog 61 #[.agg cs, .slice a n c] w fun e w' => e = .returned (.int .i64 (ftE S r n f)) ∧ Below w.heap.size w w' := by
  obtain ⟨na, nn, nc, ta, tn, tc, hcs, _⟩ := h.form
  subst hcs
  have hl := hk.len
  have H := Lib.hid h
  have RK := Lib.hid (fun wz h => rank8_any (arrC ch ((r : Int) - 1) (dm S r) na nn nc ta tn tc) S r ch L g fP fQ wz h (by omega))
  have SH := Lib.hid (fun wz h => shape8_any (arrC ch ((r : Int) - 1) (dm S r) na nn nc ta tn tc) S r ch L g fP fQ wz h hr)
  have SM := Lib.hid (fun a1 c1 wz h1 h2 => same_any a1 r c1 S a n c f wz h1 h2)
  unfold SameTold at SM
  have BB := Lib.hid (((Bag.start w).krow hk).newRow (arrC ch ((r : Int) - 1) (dm S r) na nn nc ta tn tc) 34)
  have HR1 := Lib.hid BB.out.now.1
  clear h hk
  unfold arrC
  by_cases h0 : r = n
  · have hq : ftE S r n f = if sameB S f r then 0 else 24 := by unfold ftE; rw [if_pos h0]
    rw [hq]
    rw [decide_eq_true h0, Bool.true_and] at SM
    have d0 : ((r : Int) != n) = false := by rw [h0]; exact bne_self_eq_false _
    generalize sameB S f r = b at *
    clear hq h0
    go_enter Tryz.func61, Tryz.ntmps61
    go_wp2_with (refine ld_arr rfl (.tmp 2) rfl w.heap.size rfl HR1.out ?_)
    go_at_call 33
    (with_reducible refine (RK.out _ ?_).mono ?_)
    · exact H.out.below BB.out.below
    rintro e w2 ⟨rfl, hb2⟩
    have BB := Lib.hid (BB.out.go hb2)
    have HR2 := Lib.hid BB.out.now.1
    clear hb2
    go_wp2_with (refine ld_arr rfl (.tmp 2) rfl w.heap.size rfl HR2.out ?_)
    go_at_call 38
    (with_reducible refine (SH.out _ ?_).mono ?_)
    · exact H.out.below BB.out.below
    rintro e w3 ⟨a3, c3, rfl, hk3, hb3⟩
    have BB := Lib.hid ((BB.out.go hb3).krow hk3)
    clear hb3 hk3
    go_wp2_with fail
    go_at_call 93
    (with_reducible refine (SM.out _ _ _ BB.out.now.1 BB.out.now.2.2.1).mono ?_)
    rintro e w4 ⟨rfl, hb4⟩
    have HE := Lib.hid (BB.out.go hb4).below
    clear hb4
    cases b with
    | true =>
      go_wp2
      go_ret
      exact ⟨rfl, HE.out⟩
    | false =>
      go_wp2
      go_ret
      exact ⟨rfl, HE.out⟩
  · have hq : ftE S r n f = 23 := by unfold ftE; rw [if_neg h0]
    rw [hq]
    have d0 : ((r : Int) != n) = true := bne_iff_ne.2 (by omega)
    clear hq h0 SM
    go_enter Tryz.func61, Tryz.ntmps61
    go_wp2_with (refine ld_arr rfl (.tmp 2) rfl w.heap.size rfl HR1.out ?_)
    go_at_call 33
    (with_reducible refine (RK.out _ ?_).mono ?_)
    · exact H.out.below BB.out.below
    rintro e w2 ⟨rfl, hb2⟩
    have HE := Lib.hid (BB.out.go hb2).below
    clear hb2
    go_wp2
    go_ret
    exact ⟨rfl, HE.out⟩
set_option maxHeartbeats 800000 in
set_option maxRecDepth 100000 in
theorem within_any (t n : Int) (w : World) (h0 : 0 < n) (h1 : n ≤ 1000000) :
    Calls Tryz.prog 64 #[.int .i64 t, .int .i64 n] w fun e w' => e = .returned (.int .i64 (t % n)) ∧ w = w' := by
  have e := within_told (t := t) h0
  have b1 := Int.tmod_lt_of_pos t h0
  have b2 := Int.lt_tmod_of_pos t h0
  have hw := IntWalk.i64_in (Int.tmod t n + n) (by omega)
  have d0 : n ≠ 0 := by omega
  have d1 : n ≠ -1 := by omega
  have b3 := Int.emod_nonneg t d0
  have b4 := Int.emod_lt_of_pos t h0
  rw [← e] at b3 b4
  have hw1 := IntWalk.i64_in (Int.tmod t n) (by omega)
  have hw2 := IntWalk.i64_in (Int.tmod (Int.tmod t n + n) n) (by omega)
  rw [← e]
  clear b1 b2 b3 b4 e
  go_enter Tryz.func64, Tryz.ntmps64
  go_wp2
  go_ret
  exact ⟨rfl, rfl⟩
end Go.Proofs.YtkljpofljkgkdaaGreatDoor

namespace Go.Proofs.YtkljpofljkgkdaaGreatDoor
open Go.RowKit
attribute [local go_sem ↓] Go.wp_at_zero Go.wp_at_succ
/-- A function value that answers a number for every row and place in it. -/
def Gives2 (fv : FuncId) (cap : Array Value) (F : Nat → Nat → Int) (R N : Nat) (w : World) : Prop :=
  ∀ wz, Below w.heap.size w wz → ∀ row i : Nat, row < R → i < N → Calls Tryz.prog fv (#[.int .i64 (row : Nat), .int .i64 (i : Nat)] ++ cap) wz fun e w' => e = .returned (.int .i64 (F row i)) ∧ Below wz.heap.size wz w'
theorem Gives2.below {fv : FuncId} {cap : Array Value} {F : Nat → Nat → Int} {R N : Nat} {w w' : World} (h : Gives2 fv cap F R N w) (hb : Below w.heap.size w w') : Gives2 fv cap F R N w' := fun wz hz => h wz (hb.trans (hz.mono hb.size))
theorem ent_rot1 : Enters Tryz.prog 58 := enters_of Tryz.func58 (by kernel_rfl) rfl
theorem ent_rot2 : Enters Tryz.prog 60 := enters_of Tryz.func60 (by kernel_rfl) rfl
theorem ent_rot3 : Enters Tryz.prog 63 := enters_of Tryz.func63 (by kernel_rfl) rfl
theorem ent_along1 : Enters Tryz.prog 91 := enters_of Tryz.func91 (by kernel_rfl) rfl
set_option maxHeartbeats 400000 in
set_option maxRecDepth 100000 in
theorem rot1_any (g0 : Nat) (a : Option Addr) (n c : Nat) (f : Nat → Int) (w : World) (h : w.cell? ⟨g0, 0, none⟩ = some (.slice a n c)) (hg : g0 < w.heap.size) (hk : KRow w .i64 a n c f) : Gives 58 #[.pointer (some ⟨g0, 0, none⟩)] f n w := by
  intro wz hz k hlt
  show Calls Tryz.prog 58 #[.int .i64 (k : Nat), .pointer (some ⟨g0, 0, none⟩)] wz _
  have hl := hk.len
  have hc := (hz.cell (p := ⟨g0, 0, none⟩) hg).trans h
  obtain ⟨b, off, rfl, hb, hcl⟩ := (hk.below hz).get hlt
  have HE : Hid (Below wz.heap.size wz wz) := Below.refl _ _
  have d0 : (0 : Int) ≤ k := by omega
  have d1 : (k : Int) < n := by omega
  clear h hz hk
  generalize f k = x at *
  go_enter Tryz.func58, Tryz.ntmps58
  go_wp2
  go_ret
  exact ⟨rfl, HE.out⟩
set_option maxHeartbeats 400000 in
set_option maxRecDepth 100000 in
theorem rot2_any (R g0 : Nat) (a : Option Addr) (n c : Nat) (f : Nat → Int) (w : World) (h : w.cell? ⟨g0, 0, none⟩ = some (.slice a n c)) (hg : g0 < w.heap.size) (hk : KRow w .i64 a n c f) (hn : 0 < n) : Gives 60 #[.pointer (some ⟨g0, 0, none⟩)] (fun _ => f 0) R w := by
  intro wz hz k _
  show Calls Tryz.prog 60 #[.int .i64 (k : Nat), .pointer (some ⟨g0, 0, none⟩)] wz _
  have hl := hk.len
  have hc := (hz.cell (p := ⟨g0, 0, none⟩) hg).trans h
  obtain ⟨b, off, rfl, hb, hcl⟩ := (hk.below hz).get hn
  rw [Nat.add_zero] at hcl
  have HE : Hid (Below wz.heap.size wz wz) := Below.refl _ _
  have d1 : (0 : Int) < n := by omega
  clear h hz hk
  generalize f 0 = x at *
  go_enter Tryz.func60, Tryz.ntmps60
  go_wp2
  go_ret
  exact ⟨rfl, HE.out⟩
/-- How far along a row is gone. -/
def rotF (G : Nat → Int) (N : Nat) : Nat → Nat → Int := fun row i => ((i : Int) + G row % (N : Nat)) % (N : Nat)
set_option maxHeartbeats 1600000 in
set_option maxRecDepth 100000 in
theorem rot3_any (fv : FuncId) (cap : Array Value) (he : Enters Tryz.prog fv) (G : Nat → Int) (R N gT gN : Nat) (w : World) (hN : N ≤ 1000000) (hT : w.cell? ⟨gT, 0, none⟩ = some (.func (.func fv) #[] cap)) (hT1 : gT < w.heap.size) (hC : w.cell? ⟨gN, 0, none⟩ = some (.int .i64 (N : Nat))) (hN1 : gN < w.heap.size) (CL : Gives fv cap G R w) :
    Gives2 63 #[.pointer (some ⟨gT, 0, none⟩), .pointer (some ⟨gN, 0, none⟩)] (rotF G N) R N w := by
  intro wz hz row i hrow hi
  show Calls Tryz.prog 63 #[.int .i64 (row : Nat), .int .i64 (i : Nat), .pointer (some ⟨gT, 0, none⟩), .pointer (some ⟨gN, 0, none⟩)] wz _
  have he' := he
  unfold Enters at he'
  have h0 : (0 : Int) < (N : Nat) := by omega
  have C1 := Lib.hid (fun wy (hb : Below wz.heap.size wz wy) => CL wy (hz.trans (hb.mono hz.size)) row hrow)
  have C2 := Lib.hid (fun wy => within_any (G row) (N : Nat) wy h0 (by omega))
  have b1 := Int.emod_nonneg (G row) (show ((N : Nat) : Int) ≠ 0 by omega)
  have b2 := Int.emod_lt_of_pos (G row) h0
  have hw := IntWalk.i64_in ((i : Int) + G row % (N : Nat)) (by omega)
  have e := prog_mod (i := (i : Int)) (t := G row) (n := (N : Nat)) (by omega) (by omega)
  unfold rotF
  rw [← e]
  have b3 := Int.emod_nonneg ((i : Int) + G row % (N : Nat)) (show ((N : Nat) : Int) ≠ 0 by omega)
  have b4 := Int.emod_lt_of_pos ((i : Int) + G row % (N : Nat)) h0
  rw [← e] at b3 b4
  have hw2 := IntWalk.i64_in (Int.tmod ((i : Int) + G row % (N : Nat)) (N : Nat)) (by omega)
  have hc1 := (hz.cell (p := ⟨gT, 0, none⟩) hT1).trans hT
  have hc2 := (hz.cell (p := ⟨gN, 0, none⟩) hN1).trans hC
  have d0 : ((N : Nat) : Int) ≠ 0 := by omega
  have d1 : ((N : Nat) : Int) ≠ -1 := by omega
  have d2 : N ≠ 0 := by omega
  have BB := Lib.hid ((Bag.start wz).add (Q := fun y => y.cell? ⟨gT, 0, none⟩ = some (.func (.func fv) #[] cap) ∧ y.cell? ⟨gN, 0, none⟩ = some (.int .i64 (N : Nat)) ∧ gT < y.heap.size ∧ gN < y.heap.size) (fun a b hb q => ⟨(hb.cell (p := ⟨gT, 0, none⟩) q.2.2.1).trans q.1, (hb.cell (p := ⟨gN, 0, none⟩) q.2.2.2).trans q.2.1, Nat.lt_of_lt_of_le q.2.2.1 hb.size, Nat.lt_of_lt_of_le q.2.2.2 hb.size⟩) ⟨hc1, hc2, Nat.lt_of_lt_of_le hT1 hz.size, Nat.lt_of_lt_of_le hN1 hz.size⟩)
  clear CL hT hT1 hC hN1 he b1 b2 b3 b4 e hz hc1 hc2
  generalize G row % (N : Nat) = q at *
  generalize G row = t at *
  obtain ⟨z, hzz⟩ : ∃ z, Int.tmod ((i : Int) + q) (N : Nat) = z := ⟨_, rfl⟩
  rw [hzz] at hw2
  rw [hzz]
  go_enter Tryz.func63, Tryz.ntmps63
  go_wp2_with fail
  refine wp_region_inv2 ⟨(fun j => ([[7], [8], [9], [10], [11], [12], [13], [14], [15], [6]] : List (List Nat)).getD j []), (fun j => ([[], [], [], [1, 2], [], [1, 2, 3, 4], [0, 1, 2, 3, 4, 5], [], [0, 1, 2, 3, 4, 5, 6, 7], [0, 1, 2, 3, 4, 5, 6, 7, 8]] : List (List Nat)).getD j []), []⟩ (fun jj vv yy => match jj with | 0 => vv = [some (.int .i64 i)] | 1 => vv = [some (.func (.func fv) #[] cap)] | 2 => vv = [some (.int .i64 row)] | 3 => vv = [some (.int .i64 t)] | 4 => vv = [some (.int .i64 N)] | 5 => vv = [some (.int .i64 q)] | 6 => vv = [some (.int .i64 (i + q))] | 7 => vv = [some (.int .i64 N)] | 8 => vv = [some (.int .i64 z)] | 9 => vv = [some (.int .i64 z)] | _ => True) (Bag wz (fun _ => True)) (by kernel_rfl) (by kernel_rfl) (by kernel_rfl) (Bag.start wz).drew ?_ ?_ ?_
  · intro jj vv yw yw2 hb h
    match jj, h with
    | 0, h => exact h
    | 1, h => exact h
    | 2, h => exact h
    | 3, h => exact h
    | 4, h => exact h
    | 5, h => exact h
    | 6, h => exact h
    | 7, h => exact h
    | 8, h => exact h
    | 9, h => exact h
    | _ + 10, h => exact h
  · intro ac yw hsz hdf hold hB hp
    have t6 : ac.tmps[6]? = some (.int .i64 z) := (List.cons.inj (hp 9 (by decide))).1
    have HE := Lib.hid (BB.out.go hB.below).below
    clear hold hp
    obtain ⟨TW, hTW⟩ : ∃ TW : Nat → Value, ∀ i, (ac.tmps[i]?).getD undef = TW i := ⟨_, fun _ => rfl⟩
    have f6 := (hTW 6).symm.trans (congrArg (fun x => Option.getD x undef) t6)
    have hac := act_eq (n := 16) hsz TW hTW
    rw [show ((List.range 16).map TW).toArray = #[TW 0, TW 1, TW 2, TW 3, TW 4, TW 5, TW 6, TW 7, TW 8, TW 9, TW 10, TW 11, TW 12, TW 13, TW 14, TW 15] from rfl, f6, hdf] at hac
    simp only [Option.getD_some] at hac
    subst hac
    clear hTW f6
    go_wp2
    go_ret
    exact ⟨rfl, HE.out⟩
  refine Stps2.cons (o := _) ?_ ?_
  · intro ac yw hsz hold hB hp K hK
    have t1 : ac.tmps[1]? = some (.int .i64 i) := hold 1 (by kernel_rfl)
    clear hold hp hsz
    go_simp
    exact hK.out _ _ ⟨hB, rfl, Nat.le_refl _, .inl (Below.refl _ _), fun h => absurd h (by decide)⟩
  refine Stps2.cons (o := _) ?_ ?_
  · intro ac yw hsz hold hB hp K hK
    have t2 : ac.tmps[2]? = some (.pointer (some ⟨gT, 0, none⟩)) := hold 2 (by kernel_rfl)
    clear hold hp hsz
    have v0 := (BB.out.go hB.below).now.1.1
    have v1 := (BB.out.go hB.below).now.1.2.1
    go_simp
    exact hK.out _ _ ⟨hB, rfl, Nat.le_refl _, .inl (Below.refl _ _), fun h => absurd h (by decide)⟩
  refine Stps2.cons (o := _) ?_ ?_
  · intro ac yw hsz hold hB hp K hK
    have t0 : ac.tmps[0]? = some (.int .i64 row) := hold 0 (by kernel_rfl)
    clear hold hp hsz
    go_simp
    exact hK.out _ _ ⟨hB, rfl, Nat.le_refl _, .inl (Below.refl _ _), fun h => absurd h (by decide)⟩
  refine Stps2.cons (o := _) ?_ ?_
  · intro ac yw hsz hold hB hp K hK
    have e1 := hp 1 (by decide)
    have t8 : ac.tmps[8]? = some (.func (.func fv) #[] cap) := (List.cons.inj e1).1
    have e2 := hp 2 (by decide)
    have t9 : ac.tmps[9]? = some (.int .i64 row) := (List.cons.inj e2).1
    clear hold hp hsz e1 e2
    go_simp
    (go_at_fn fv; (refine (C1.out _ (BB.out.go hB.below).below).mono ?_); rintro e wz ⟨rfl, hbz⟩)
    exact hK.out _ _ ⟨hB.go hbz, rfl, hbz.size, .inl hbz, fun h => absurd h (by decide)⟩
  refine Stps2.cons (o := _) ?_ ?_
  · intro ac yw hsz hold hB hp K hK
    have t3 : ac.tmps[3]? = some (.pointer (some ⟨gN, 0, none⟩)) := hold 3 (by kernel_rfl)
    clear hold hp hsz
    have v0 := (BB.out.go hB.below).now.1.1
    have v1 := (BB.out.go hB.below).now.1.2.1
    go_simp
    exact hK.out _ _ ⟨hB, rfl, Nat.le_refl _, .inl (Below.refl _ _), fun h => absurd h (by decide)⟩
  refine Stps2.cons (o := _) ?_ ?_
  · intro ac yw hsz hold hB hp K hK
    have e3 := hp 3 (by decide)
    have t10 : ac.tmps[10]? = some (.int .i64 t) := (List.cons.inj e3).1
    have e4 := hp 4 (by decide)
    have t11 : ac.tmps[11]? = some (.int .i64 N) := (List.cons.inj e4).1
    clear hold hp hsz e3 e4
    go_simp
    (go_at_call 64; (with_reducible refine (C2.out _).mono ?_); rintro e wz ⟨rfl, rfl⟩; have hbz := Below.refl yw.heap.size yw)
    exact hK.out _ _ ⟨hB.go hbz, rfl, hbz.size, .inl hbz, fun h => absurd h (by decide)⟩
  refine Stps2.cons (o := _) ?_ ?_
  · intro ac yw hsz hold hB hp K hK
    have e0 := hp 0 (by decide)
    have t7 : ac.tmps[7]? = some (.int .i64 i) := (List.cons.inj e0).1
    have e5 := hp 5 (by decide)
    have t12 : ac.tmps[12]? = some (.int .i64 q) := (List.cons.inj e5).1
    clear hold hp hsz e0 e5
    go_simp
    exact hK.out _ _ ⟨hB, rfl, Nat.le_refl _, .inl (Below.refl _ _), fun h => absurd h (by decide)⟩
  refine Stps2.cons (o := _) ?_ ?_
  · intro ac yw hsz hold hB hp K hK
    have t3 : ac.tmps[3]? = some (.pointer (some ⟨gN, 0, none⟩)) := hold 3 (by kernel_rfl)
    clear hold hp hsz
    have v0 := (BB.out.go hB.below).now.1.1
    have v1 := (BB.out.go hB.below).now.1.2.1
    go_simp
    exact hK.out _ _ ⟨hB, rfl, Nat.le_refl _, .inl (Below.refl _ _), fun h => absurd h (by decide)⟩
  refine Stps2.cons (o := _) ?_ ?_
  · intro ac yw hsz hold hB hp K hK
    have e6 := hp 6 (by decide)
    have t13 : ac.tmps[13]? = some (.int .i64 (i + q)) := (List.cons.inj e6).1
    have e7 := hp 7 (by decide)
    have t14 : ac.tmps[14]? = some (.int .i64 N) := (List.cons.inj e7).1
    clear hold hp hsz e6 e7
    go_simp
    exact hK.out _ _ ⟨hB, rfl, Nat.le_refl _, .inl (Below.refl _ _), fun h => absurd h (by decide)⟩
  refine Stps2.cons (o := _) ?_ ?_
  · intro ac yw hsz hold hB hp K hK
    have e8 := hp 8 (by decide)
    have t15 : ac.tmps[15]? = some (.int .i64 z) := (List.cons.inj e8).1
    clear hold hp hsz e8
    go_simp
    exact hK.out _ _ ⟨hB, rfl, Nat.le_refl _, .inl (Below.refl _ _), fun h => absurd h (by decide)⟩
  exact Stps2.nil _
/-- What along makes of a place. -/
def alN (F : Nat → Nat → Int) (N st : Nat) : Nat → Int := fun j => (j : Int) + (F (j / (N * st) * st + j % st) (j / st % N) - ((j / st % N : Nat) : Int)) * (st : Int)
set_option maxHeartbeats 1600000 in
set_option maxRecDepth 100000 in
theorem along1_any (fv : FuncId) (cap : Array Value) (he : Enters Tryz.prog fv) (F : Nat → Nat → Int) (R N st M gA gN gF : Nat) (w : World) (hN : 0 < N) (hN1 : N ≤ 4096) (hs : 0 < st) (hs1 : st ≤ 4096) (hM : M ≤ 4096) (hA : w.cell? ⟨gA, 0, none⟩ = some (.int .i64 (st : Nat))) (hA1 : gA < w.heap.size) (hC : w.cell? ⟨gN, 0, none⟩ = some (.int .i64 (N : Nat))) (hC1 : gN < w.heap.size)
    (hT : w.cell? ⟨gF, 0, none⟩ = some (.func (.func fv) #[] cap)) (hT1 : gF < w.heap.size) (CL : Gives2 fv cap F R N w) (hF : ∀ row i, row < R → i < N → 0 ≤ F row i ∧ F row i < N) (hR : ∀ j, j < M → j / (N * st) * st + j % st < R) :
    Gives 91 #[.pointer (some ⟨gA, 0, none⟩), .pointer (some ⟨gN, 0, none⟩), .pointer (some ⟨gF, 0, none⟩)] (alN F N st) M w := by
  intro wz hz j hj
  show Calls Tryz.prog 91 #[.int .i64 (j : Nat), .pointer (some ⟨gA, 0, none⟩), .pointer (some ⟨gN, 0, none⟩), .pointer (some ⟨gF, 0, none⟩)] wz _
  have he' := he
  unfold Enters at he'
  have hi : j / st % N < N := Nat.mod_lt _ hN
  have hrow := hR j hj
  have C1 := Lib.hid (fun wy (hb : Below wz.heap.size wz wy) => CL wy (hz.trans (hb.mono hz.size)) _ _ hrow hi)
  have hq1 : j / (N * st) * st ≤ j := by
    have h1 : j / (N * st) * (N * st) ≤ j := Nat.div_mul_le_self _ _
    have h2 : j / (N * st) * st ≤ j / (N * st) * (N * st) := Nat.mul_le_mul_left _ (Nat.le_mul_of_pos_left st hN)
    omega
  have hq2 : j % st < st := Nat.mod_lt _ hs
  have hq3 : N * st ≤ 4096 * 4096 := Nat.mul_le_mul hN1 hs1
  have hq4 : 0 < N * st := Nat.mul_pos hN hs
  have hq5 : j / st ≤ j := Nat.div_le_self _ _
  have hq6 : j / (N * st) ≤ j := Nat.div_le_self _ _
  have hq7 : j / st % N ≤ j / st := Nat.mod_le _ _
  obtain ⟨f0, f1⟩ := hF _ _ hrow hi
  have hd : -((N : Int) * st) ≤ (F (j / (N * st) * st + j % st) (j / st % N) - ((j / st % N : Nat) : Int)) * (st : Int) ∧ (F (j / (N * st) * st + j % st) (j / st % N) - ((j / st % N : Nat) : Int)) * (st : Int) ≤ (N : Int) * st := by
    constructor
    · have := Int.mul_le_mul_of_nonneg_right (show -(N : Int) ≤ F (j / (N * st) * st + j % st) (j / st % N) - ((j / st % N : Nat) : Int) by omega) (show (0 : Int) ≤ st by omega)
      rwa [Int.neg_mul] at this
    · exact Int.mul_le_mul_of_nonneg_right (by omega) (by omega)
  have hns : ((N : Int) * st) = ((N * st : Nat) : Int) := by rw [Int.natCast_mul]
  rw [hns] at hd
  have e1 : Int.tdiv (j : Nat) (st : Nat) = ((j / st : Nat) : Int) := rfl
  have e2 : Int.tmod ((j / st : Nat) : Int) (N : Nat) = ((j / st % N : Nat) : Int) := rfl
  have e3 : Int.tdiv (j : Nat) ((N * st : Nat) : Int) = ((j / (N * st) : Nat) : Int) := rfl
  have e4 : Int.tmod (j : Nat) (st : Nat) = ((j % st : Nat) : Int) := rfl
  have c1 : ((j / st % N : Nat) : Int) = (j : Int) / st % N := by push_cast; rfl
  have c2 : ((j / (N * st) * st : Nat) : Int) = (j : Int) / (N * st) * st := by push_cast; rfl
  have c3 : ((j / (N * st) * st + j % st : Nat) : Int) = (j : Int) / (N * st) * st + (j : Int) % st := by push_cast; rfl
  have w1 := IntWalk.i64_in ((N : Int) * st) (by rw [hns]; omega)
  have w2 := IntWalk.i64_in ((j / (N * st) * st : Nat) : Int) (by omega)
  have w3 := IntWalk.i64_in ((j / (N * st) * st + j % st : Nat) : Int) (by omega)
  have w4 := IntWalk.i64_in (F (j / (N * st) * st + j % st) (j / st % N) - ((j / st % N : Nat) : Int)) (by omega)
  have w5 := IntWalk.i64_in ((F (j / (N * st) * st + j % st) (j / st % N) - ((j / st % N : Nat) : Int)) * (st : Int)) (by omega)
  have w6 := IntWalk.i64_in ((j : Int) + (F (j / (N * st) * st + j % st) (j / st % N) - ((j / st % N : Nat) : Int)) * (st : Int)) (by omega)
  rw [c2] at w2
  rw [c3] at w3 C1
  rw [c1] at w4 w5 w6 C1
  unfold alN
  rw [c1]
  generalize F (j / (N * st) * st + j % st) (j / st % N) = v at *
  have x1 : (j : Int) / st = ((j / st : Nat) : Int) := by push_cast; rfl
  have x2 : (j : Int) / (N * st) = ((j / (N * st) : Nat) : Int) := by push_cast; rfl
  have wq1 := IntWalk.i64_in ((j : Int) / st) (by omega)
  have wq2 := IntWalk.i64_in ((j : Int) / (N * st)) (by rw [x2]; generalize j / (N * st) = z at hq6 ⊢; omega)
  have e5 : Int.tmod ((j : Int) / st) (N : Nat) = (j : Int) / st % N := by rw [x1]; exact Int.tmod_eq_emod_of_nonneg (by omega)
  have n0 : st ≠ 0 := by omega
  have n1 : N ≠ 0 := by omega
  have s0 : ((st : Nat) : Int) ≠ 0 := by omega
  have s1 : ((N : Nat) : Int) ≠ 0 := by omega
  have s2 : ((N : Nat) : Int) * (st : Nat) ≠ 0 := by rw [hns]; omega
  have HE0 : Hid (Below wz.heap.size wz wz) := Below.refl _ _
  clear x1 x2 c1 c2 c3 hd hns hq1 hq2 hq3 hq4 hq5 hq6 hq7 f0 f1 hi hrow
  go_enter Tryz.func91, Tryz.ntmps91
  have hcA := (hz.cell (p := ⟨gA, 0, none⟩) hA1).trans hA
  have hcN := (hz.cell (p := ⟨gN, 0, none⟩) hC1).trans hC
  have hcF := (hz.cell (p := ⟨gF, 0, none⟩) hT1).trans hT
  clear CL hA hC hT hF hR
  have BB := Lib.hid ((Bag.start wz).add (Q := fun y => y.cell? ⟨gF, 0, none⟩ = some (.func (.func fv) #[] cap) ∧ y.cell? ⟨gA, 0, none⟩ = some (.int .i64 (st : Nat)) ∧ gF < y.heap.size ∧ gA < y.heap.size) (fun a b hb q => ⟨(hb.cell (p := ⟨gF, 0, none⟩) q.2.2.1).trans q.1, (hb.cell (p := ⟨gA, 0, none⟩) q.2.2.2).trans q.2.1, Nat.lt_of_lt_of_le q.2.2.1 hb.size, Nat.lt_of_lt_of_le q.2.2.2 hb.size⟩) ⟨hcF, hcA, Nat.lt_of_lt_of_le hT1 hz.size, Nat.lt_of_lt_of_le hA1 hz.size⟩)
  go_wp2_with fail
  go_quiet (fail)
  revert nq
  intro q1
  go_wp2_with fail
  go_quiet (fail)
  have BB := Lib.hid ((BB.out.drewN q1).drewN nq)
  clear hcA hcN hcF
  go_wp2_with fail
  generalize (wz.drewN q1).drewN nq = YY at *
  refine wp_region_inv2 ⟨(fun j => ([[24], [25], [26], [27], [28], [29], [30], [31], [32], [33], [5]] : List (List Nat)).getD j []), (fun j => ([[], [], [], [], [1, 2, 3], [], [1, 2, 3, 4, 5], [], [1, 2, 3, 4, 5, 6, 7], [0, 1, 2, 3, 4, 5, 6, 7, 8], [0, 1, 2, 3, 4, 5, 6, 7, 8, 9]] : List (List Nat)).getD j []), []⟩ (fun jj vv yy => match jj with | 0 => vv = [some (.int .i64 j)] | 1 => vv = [some (.func (.func fv) #[] cap)] | 2 => vv = [some (.int .i64 (j / (N * st) * st + j % st))] | 3 => vv = [some (.int .i64 (j / st % N))] | 4 => vv = [some (.int .i64 v)] | 5 => vv = [some (.int .i64 (j / st % N))] | 6 => vv = [some (.int .i64 (v - j / st % N))] | 7 => vv = [some (.int .i64 st)] | 8 => vv = [some (.int .i64 ((v - j / st % N) * st))] | 9 => vv = [some (.int .i64 (j + (v - j / st % N) * st))] | 10 => vv = [some (.int .i64 (j + (v - j / st % N) * st))] | _ => True) (Bag YY (fun _ => True)) (by kernel_rfl) (by kernel_rfl) (by kernel_rfl) (Bag.start YY).drew ?_ ?_ ?_
  · intro jj vv yw yw2 hb h
    match jj, h with
    | 0, h => exact h
    | 1, h => exact h
    | 2, h => exact h
    | 3, h => exact h
    | 4, h => exact h
    | 5, h => exact h
    | 6, h => exact h
    | 7, h => exact h
    | 8, h => exact h
    | 9, h => exact h
    | 10, h => exact h
    | _ + 11, h => exact h
  · intro ac yw hsz hdf hold hB hp
    have t5 : ac.tmps[5]? = some (.int .i64 (j + (v - j / st % N) * st)) := (List.cons.inj (hp 10 (by decide))).1
    have HE := Lib.hid (BB.out.go hB.below).below
    clear hold hp
    obtain ⟨TW, hTW⟩ : ∃ TW : Nat → Value, ∀ i, (ac.tmps[i]?).getD undef = TW i := ⟨_, fun _ => rfl⟩
    have f5 := (hTW 5).symm.trans (congrArg (fun x => Option.getD x undef) t5)
    have hac := act_eq (n := 34) hsz TW hTW
    rw [show ((List.range 34).map TW).toArray = #[TW 0, TW 1, TW 2, TW 3, TW 4, TW 5, TW 6, TW 7, TW 8, TW 9, TW 10, TW 11, TW 12, TW 13, TW 14, TW 15, TW 16, TW 17, TW 18, TW 19, TW 20, TW 21, TW 22, TW 23, TW 24, TW 25, TW 26, TW 27, TW 28, TW 29, TW 30, TW 31, TW 32, TW 33] from rfl, f5, hdf] at hac
    simp only [Option.getD_some] at hac
    subst hac
    clear hTW f5
    go_wp2
    go_ret
    exact ⟨rfl, HE.out⟩
  refine Stps2.cons (o := _) ?_ ?_
  · intro ac yw hsz hold hB hp K hK
    have t0 : ac.tmps[0]? = some (.int .i64 j) := hold 0 (by kernel_rfl)
    clear hold hp hsz
    go_simp
    exact hK.out _ _ ⟨hB, rfl, Nat.le_refl _, .inl (Below.refl _ _), fun h => absurd h (by decide)⟩
  refine Stps2.cons (o := _) ?_ ?_
  · intro ac yw hsz hold hB hp K hK
    have t3 : ac.tmps[3]? = some (.pointer (some ⟨gF, 0, none⟩)) := hold 3 (by kernel_rfl)
    clear hold hp hsz
    have v0 := (BB.out.go hB.below).now.1.1
    have v1 := (BB.out.go hB.below).now.1.2.1
    go_simp
    exact hK.out _ _ ⟨hB, rfl, Nat.le_refl _, .inl (Below.refl _ _), fun h => absurd h (by decide)⟩
  refine Stps2.cons (o := _) ?_ ?_
  · intro ac yw hsz hold hB hp K hK
    have t7 : ac.tmps[7]? = some (.int .i64 (j / (N * st) * st + j % st)) := hold 7 (by kernel_rfl)
    clear hold hp hsz
    go_simp
    exact hK.out _ _ ⟨hB, rfl, Nat.le_refl _, .inl (Below.refl _ _), fun h => absurd h (by decide)⟩
  refine Stps2.cons (o := _) ?_ ?_
  · intro ac yw hsz hold hB hp K hK
    have t6 : ac.tmps[6]? = some (.int .i64 (j / st % N)) := hold 6 (by kernel_rfl)
    clear hold hp hsz
    go_simp
    exact hK.out _ _ ⟨hB, rfl, Nat.le_refl _, .inl (Below.refl _ _), fun h => absurd h (by decide)⟩
  refine Stps2.cons (o := _) ?_ ?_
  · intro ac yw hsz hold hB hp K hK
    have e1 := hp 1 (by decide)
    have t25 : ac.tmps[25]? = some (.func (.func fv) #[] cap) := (List.cons.inj e1).1
    have e2 := hp 2 (by decide)
    have t26 : ac.tmps[26]? = some (.int .i64 (j / (N * st) * st + j % st)) := (List.cons.inj e2).1
    have e3 := hp 3 (by decide)
    have t27 : ac.tmps[27]? = some (.int .i64 (j / st % N)) := (List.cons.inj e3).1
    clear hold hp hsz e1 e2 e3
    go_simp
    (go_at_fn fv; (refine (C1.out _ (BB.out.go hB.below).below).mono ?_); rintro e wz ⟨rfl, hbz⟩)
    exact hK.out _ _ ⟨hB.go hbz, rfl, hbz.size, .inl hbz, fun h => absurd h (by decide)⟩
  refine Stps2.cons (o := _) ?_ ?_
  · intro ac yw hsz hold hB hp K hK
    have t6 : ac.tmps[6]? = some (.int .i64 (j / st % N)) := hold 6 (by kernel_rfl)
    clear hold hp hsz
    go_simp
    exact hK.out _ _ ⟨hB, rfl, Nat.le_refl _, .inl (Below.refl _ _), fun h => absurd h (by decide)⟩
  refine Stps2.cons (o := _) ?_ ?_
  · intro ac yw hsz hold hB hp K hK
    have e4 := hp 4 (by decide)
    have t28 : ac.tmps[28]? = some (.int .i64 v) := (List.cons.inj e4).1
    have e5 := hp 5 (by decide)
    have t29 : ac.tmps[29]? = some (.int .i64 (j / st % N)) := (List.cons.inj e5).1
    clear hold hp hsz e4 e5
    go_simp
    exact hK.out _ _ ⟨hB, rfl, Nat.le_refl _, .inl (Below.refl _ _), fun h => absurd h (by decide)⟩
  refine Stps2.cons (o := _) ?_ ?_
  · intro ac yw hsz hold hB hp K hK
    have t1 : ac.tmps[1]? = some (.pointer (some ⟨gA, 0, none⟩)) := hold 1 (by kernel_rfl)
    clear hold hp hsz
    have v0 := (BB.out.go hB.below).now.1.1
    have v1 := (BB.out.go hB.below).now.1.2.1
    go_simp
    exact hK.out _ _ ⟨hB, rfl, Nat.le_refl _, .inl (Below.refl _ _), fun h => absurd h (by decide)⟩
  refine Stps2.cons (o := _) ?_ ?_
  · intro ac yw hsz hold hB hp K hK
    have e6 := hp 6 (by decide)
    have t30 : ac.tmps[30]? = some (.int .i64 (v - j / st % N)) := (List.cons.inj e6).1
    have e7 := hp 7 (by decide)
    have t31 : ac.tmps[31]? = some (.int .i64 st) := (List.cons.inj e7).1
    clear hold hp hsz e6 e7
    go_simp
    exact hK.out _ _ ⟨hB, rfl, Nat.le_refl _, .inl (Below.refl _ _), fun h => absurd h (by decide)⟩
  refine Stps2.cons (o := _) ?_ ?_
  · intro ac yw hsz hold hB hp K hK
    have e0 := hp 0 (by decide)
    have t24 : ac.tmps[24]? = some (.int .i64 j) := (List.cons.inj e0).1
    have e8 := hp 8 (by decide)
    have t32 : ac.tmps[32]? = some (.int .i64 ((v - j / st % N) * st)) := (List.cons.inj e8).1
    clear hold hp hsz e0 e8
    go_simp
    exact hK.out _ _ ⟨hB, rfl, Nat.le_refl _, .inl (Below.refl _ _), fun h => absurd h (by decide)⟩
  refine Stps2.cons (o := _) ?_ ?_
  · intro ac yw hsz hold hB hp K hK
    have e9 := hp 9 (by decide)
    have t33 : ac.tmps[33]? = some (.int .i64 (j + (v - j / st % N) * st)) := (List.cons.inj e9).1
    clear hold hp hsz e9
    go_simp
    exact hK.out _ _ ⟨hB, rfl, Nat.le_refl _, .inl (Below.refl _ _), fun h => absurd h (by decide)⟩
  exact Stps2.nil _
end Go.Proofs.YtkljpofljkgkdaaGreatDoor

namespace Go.Proofs.YtkljpofljkgkdaaGreatDoor
open Go.RowKit
/-- Where the element comes from that stands at a place, when each row along an axis is laid in another order. -/
def alG (S : Nat → Int) (r k : Nat) (F : Nat → Nat → Int) (j : Nat) : Int := plc S (wiF (dgs S r (j : Nat)) k (F (plc (outF S k) (outF (dgs S r (j : Nat)) k) (r - 1)).toNat (dgs S r (j : Nat) k).toNat)) r
theorem outF_in {S g : Nat → Int} {r k : Nat} (hk : k < r) (h : ∀ j, j < r → 0 ≤ g j ∧ g j < S j) : ∀ j, j < r - 1 → 0 ≤ outF g k j ∧ outF g k j < outF S k j := fun j hj => by
  unfold outF
  split
  · exact h j (by omega)
  · exact h (j + 1) (by omega)
theorem dgs_bd {S : Nat → Int} {r j : Nat} (h1 : ∀ a, a < r → 1 ≤ S a) (hj : (j : Int) < itm S r) : (∀ a, a < r → 0 ≤ dgs S r (j : Nat) a ∧ dgs S r (j : Nat) a < S a) ∧ plc S (dgs S r (j : Nat)) r = (j : Nat) := by
  obtain ⟨h2, h3⟩ := dgs_in (f := S) (n := r) (r := (j : Nat)) h1 (by omega) hj
  exact ⟨fun a ha => inB_at h2 ha, h3⟩
theorem al_facts {S : Nat → Int} {r k j : Nat} {F : Nat → Nat → Int} (hk : k < r) (h1 : ∀ a, a < r → 1 ≤ S a) (hj : (j : Int) < itm S r) (hF : ∀ row i : Nat, (row : Int) < itm (outF S k) (r - 1) → (i : Int) < S k → 0 ≤ F row i ∧ F row i < S k) :
    alN F (S k).toNat (stF S r k).toNat j = alG S r k F j ∧ 0 ≤ alG S r k F j ∧ alG S r k F j < itm S r ∧ ((j / ((S k).toNat * (stF S r k).toNat) * (stF S r k).toNat + j % (stF S r k).toNat : Nat) : Int) < itm (outF S k) (r - 1) := by
  obtain ⟨hd, hp⟩ := dgs_bd h1 hj
  obtain ⟨c1, c2, c3, c4⟩ := cut_told hk hd
  have hrow := plc_lt (outF_in hk hd)
  have hik := hd k hk
  rw [hp] at c1 c2 c4
  have hSk := h1 k hk
  obtain ⟨N, hN⟩ : ∃ N : Nat, S k = N := ⟨(S k).toNat, by omega⟩
  obtain ⟨st, hst⟩ : ∃ N : Nat, stF S r k = N := ⟨(stF S r k).toNat, by omega⟩
  have eN : (S k).toNat = N := by omega
  have es : (stF S r k).toNat = st := by omega
  have ei : (dgs S r (j : Nat) k).toNat = j / st % N := by
    rw [hst, hN] at c1
    have : ((j / st % N : Nat) : Int) = dgs S r (j : Nat) k := by rw [← c1]; push_cast; rfl
    omega
  have er : (plc (outF S k) (outF (dgs S r (j : Nat)) k) (r - 1)).toNat = j / (N * st) * st + j % st := by
    rw [hst, hN] at c2
    have : ((j / (N * st) * st + j % st : Nat) : Int) = plc (outF S k) (outF (dgs S r (j : Nat)) k) (r - 1) := by rw [← c2]; push_cast; rfl
    omega
  have hi2 : ((j / st % N : Nat) : Int) < S k := by rw [← ei]; omega
  have hr2 : ((j / (N * st) * st + j % st : Nat) : Int) < itm (outF S k) (r - 1) := by rw [← er]; omega
  obtain ⟨f0, f1⟩ := hF _ _ hr2 hi2
  have hwi : ∀ a, a < r → 0 ≤ wiF (dgs S r (j : Nat)) k (F (j / (N * st) * st + j % st) (j / st % N)) a ∧ wiF (dgs S r (j : Nat)) k (F (j / (N * st) * st + j % st) (j / st % N)) a < S a := fun a ha => by
    unfold wiF
    split
    · rename_i e
      obtain rfl : a = k := by omega
      exact ⟨f0, f1⟩
    · exact hd a ha
  have hb := plc_lt hwi
  have e5 : alG S r k F j = plc S (wiF (dgs S r (j : Nat)) k (F (j / (N * st) * st + j % st) (j / st % N))) r := by unfold alG; rw [ei, er]
  rw [eN, es]
  refine ⟨?_, by rw [e5]; exact hb.1, by rw [e5]; exact hb.2, hr2⟩
  rw [e5, c4, hst]
  have : ((j / st % N : Nat) : Int) = dgs S r (j : Nat) k := by omega
  unfold alN
  rw [this]
theorem alG_gives {fv : FuncId} {cap : Array Value} {G G' : Nat → Int} {M : Nat} {w : World} (h : Gives fv cap G M w) (e : ∀ j, j < M → G j = G' j) : Gives fv cap G' M w := fun wz hz k hk => by rw [← e k hk]; exact h wz hz k hk
set_option maxHeartbeats 3200000 in
set_option maxRecDepth 100000 in
theorem along_any (fv : FuncId) (cap : Array Value) (he : Enters Tryz.prog fv) (cs : Array Value) (S : Nat → Int) (r : Nat) (ch : Bool) (L : Nat) (g fP : Nat → Int) (fQ : Nat → Nat) (k M : Nat) (F : Nat → Nat → Int) (w : World) (h : Arr w cs S r ch L g fP fQ) (hS : In64 S r) (hsh : shB S r = true) (hM : itm S r = (M : Nat)) (hk : k < r)
    (hF : ∀ row i : Nat, (row : Int) < itm (outF S k) (r - 1) → (i : Int) < S k → 0 ≤ F row i ∧ F row i < S k) (CL : Gives2 fv cap F (itm (outF S k) (r - 1)).toNat (S k).toNat w) :
    Calls Tryz.prog 53 #[.agg cs, .int .i64 (k : Nat), .func (.func fv) #[] cap] w fun e w' => ∃ cs', e = .returned (.agg cs') ∧ Arr w' cs' S r ch M (fun j => elC L g 32 (alG S r k F j)) (fun j => elP L fP (alG S r k F j)) (fun j => elQ L fQ (alG S r k F j)) ∧ Below w.heap.size w w' := by
  obtain ⟨na, nn, nc, ta, tn, tc, hcs, _⟩ := h.form
  subst hcs
  obtain ⟨h8, hax⟩ := sh_ax hsh
  have hbd := ax_bd hax
  have hM4 : M ≤ 4096 := by omega
  have hsk0 := ax_nn hax hk
  have hsk : S k ≤ 4096 := by
    have h1 := ax_bd (ax_le (show k + 1 ≤ r by omega) hax)
    have h2 := rm_pos S k
    have h3 : 1 * max (S k) 1 ≤ rm S k * max (S k) 1 := Int.mul_le_mul h2 (Int.le_refl _) (by omega) (by omega)
    have h4 : rm S (k + 1) = rm S k * max (S k) 1 := rfl
    omega
  have hpos : 0 < M → ∀ a, a < r → 1 ≤ S a := fun h0 => itm_pos hax (show (0 : Int) ≤ 0 by omega) (by omega)
  have hst0 : 0 ≤ stF S r k ∧ stF S r k ≤ 4096 := by
    have h1 := ax_bd (ax_shf (k + 1) hax (r - (k + 1)) (by omega))
    have h2 := rm_add S (k + 1) (r - (k + 1))
    rw [show k + 1 + (r - (k + 1)) = r by omega] at h2
    have h3 := rm_pos S (k + 1)
    have h4 : 1 * rm (shf S (k + 1)) (r - (k + 1)) ≤ rm S (k + 1) * rm (shf S (k + 1)) (r - (k + 1)) := Int.mul_le_mul h3 (Int.le_refl _) (by omega) (by omega)
    have h5 : stF S r k = itm (shf S (k + 1)) (r - (k + 1)) := rfl
    omega
  obtain ⟨N, hN⟩ : ∃ N : Nat, S k = N := ⟨(S k).toNat, by omega⟩
  obtain ⟨st, hst⟩ : ∃ N : Nat, stF S r k = N := ⟨(stF S r k).toNat, by omega⟩
  have eN : (S k).toNat = N := by omega
  have es : (stF S r k).toNat = st := by omega
  have HFC : Hid (∀ j, j < M → alN F N st j = alG S r k F j ∧ 0 ≤ alG S r k F j ∧ alG S r k F j < M ∧ j / (N * st) * st + j % st < (itm (outF S k) (r - 1)).toNat) := Lib.hid (fun j hj => by
    have := al_facts (F := F) (j := j) hk (hpos (by omega)) (by omega) hF
    rw [eN, es] at this
    exact ⟨this.1, this.2.1, by omega, by omega⟩)
  have hG : In64 (alG S r k F) M := fun j hj => by have := (HFC.out j hj).2; omega
  have HGV : Hid (∀ gA gN gF wz, Below w.heap.size w wz → wz.cell? ⟨gA, 0, none⟩ = some (.int .i64 (st : Nat)) → gA < wz.heap.size → wz.cell? ⟨gN, 0, none⟩ = some (.int .i64 (N : Nat)) → gN < wz.heap.size → wz.cell? ⟨gF, 0, none⟩ = some (.func (.func fv) #[] cap) → gF < wz.heap.size →
      Gives 91 #[.pointer (some ⟨gA, 0, none⟩), .pointer (some ⟨gN, 0, none⟩), .pointer (some ⟨gF, 0, none⟩)] (alG S r k F) M wz) := Lib.hid (fun gA gN gF wz hb a1 a2 a3 a4 a5 a6 => by
    rcases Nat.eq_zero_or_pos M with h0 | h0
    · subst h0
      exact fun _ _ j hj => absurd hj (Nat.not_lt_zero _)
    · have h1 := hpos h0 k hk
      have hs1 : 1 ≤ stF S r k := itm_ge (fun j hj => by have := hpos h0 (k + 1 + j) (by omega); exact this)
      refine alG_gives (along1_any fv cap he F (itm (outF S k) (r - 1)).toNat N st M gA gN gF wz (by omega) (by omega) (by omega) (by omega) hM4 a1 a2 a3 a4 a5 a6 ?_ (fun row i hr hi => ?_) (fun j hj => (HFC.out j hj).2.2.2)) (fun j hj => (HFC.out j hj).1)
      · have := CL.below hb
        rwa [eN] at this
      · have := hF row i (by omega) (by omega)
        omega)
  have H := Lib.hid h
  have SH := Lib.hid (fun wz h => shape8_any (arrC ch ((r : Int) - 1) (dm S r) na nn nc ta tn tc) S r ch L g fP fQ wz h h8)
  have SP : Hid (∀ a c wz, KRow wz .i64 a r c S → Calls Tryz.prog 90 #[.slice a r c, .int .i64 (k : Nat)] wz fun e w' => e = .returned (.tuple #[.int .i64 (itm S k), .int .i64 (N : Nat), .int .i64 (st : Nat), .bool true]) ∧ Below wz.heap.size wz w') := Lib.hid (fun a c wz hq => (split_any a r c S (k : Nat) wz hq hS).mono (by
    rintro e w' ⟨rfl, hb⟩
    have hB : spB S r (k : Nat) = true := by unfold spB; rw [hsh, decide_eq_true (show (0 : Int) ≤ (k : Nat) by omega), decide_eq_true (show ((k : Nat) : Int) < (r : Nat) by omega)]; rfl
    refine ⟨?_, hb⟩
    rw [hB]
    simp only [if_true]
    have e1 : ((k : Nat) : Int).toNat = k := rfl
    rw [e1, hN]
    have e2 : itm (shf S (k + 1)) (r - (k + 1)) = (st : Nat) := hst
    rw [e2]))
  have ENA := Lib.hid ent_along1
  have PK := Lib.hid (fun a c cp wz (q : Arr wz (arrC ch ((r : Int) - 1) (dm S r) na nn nc ta tn tc) S r ch L g fP fQ) (kq : KRow wz .i64 a r c S) z => picked_any 91 cp ENA.out (arrC ch ((r : Int) - 1) (dm S r) na nn nc ta tn tc) S r ch L g fP fQ a r c S M (alG S r k F) wz q kq hS hsh hM hG z)
  have BB := Lib.hid ((((Bag.start w).newRow (arrC ch ((r : Int) - 1) (dm S r) na nn nc ta tn tc) 34).newRow #[.func (.func fv) #[] cap] 91).newRow zerC 34)
  simp only [World.size_alloc] at BB
  have HR1 := Lib.hid BB.out.now.2.2.1
  generalize (fun j => elC L g 32 (alG S r k F j)) = eC at *
  generalize (fun j => elP L fP (alG S r k F j)) = eP at *
  generalize (fun j => elQ L fQ (alG S r k F j)) = eQ at *
  generalize alG S r k F = G at *
  generalize itm S k = x at *
  clear h hS hsh hM hF CL hax hbd hsk0 hsk hpos hst0 hN hst eN es HFC hG ENA
  unfold arrC
  go_enter Tryz.func53, Tryz.ntmps53
  go_wp2_with (refine ld_arr rfl (.tmp 3) rfl w.heap.size rfl HR1.out ?_)
  go_at_call 38
  (with_reducible refine (SH.out _ ?_).mono ?_)
  · exact H.out.below BB.out.below
  rintro e w2 ⟨a2, c2, rfl, hk2, hb2⟩
  have BB := Lib.hid ((BB.out.go hb2).krow hk2)
  clear hk2 hb2
  go_wp2_with fail
  go_at_call 90
  (with_reducible refine (SP.out _ _ _ ?_).mono ?_)
  · exact BB.out.now.1
  rintro e w3 ⟨rfl, hb3⟩
  have BB := Lib.hid (((BB.out.go hb3).newRow #[.int .i64 (N : Nat)] 3).newRow #[.int .i64 (st : Nat)] 3)
  have HR2 := Lib.hid BB.out.now.2.2.2.2.2.1
  simp only [World.size_alloc] at BB
  clear hb3
  go_wp2_with (refine ld_arr rfl (.tmp 3) rfl w.heap.size rfl HR2.out ?_)
  go_at_call 46
  (refine (PK.out _ _ _ _ (H.out.below BB.out.below) BB.out.now.2.2.1 (HGV.out _ _ _ _ BB.out.below (BB.out.now.1.cell 0) BB.out.now.1.lt (BB.out.now.2.1.cell 0) BB.out.now.2.1.lt (BB.out.now.2.2.2.2.1.cell 0) BB.out.now.2.2.2.2.1.lt)).mono ?_)
  rintro e w4 ⟨cs4, rfl, hcs4, hb4⟩
  have B4 := BB.out.go hb4
  have HZ := Lib.hid B4.now.2.2.2.1
  have HE : Hid (Arr (w4.setRow (w.heap.size + 1 + 1) cs4) cs4 S r ch M eC eP eQ ∧ Below w.heap.size w (w4.setRow (w.heap.size + 1 + 1) cs4)) := Lib.hid ⟨hcs4.put HZ.out _, below_put B4.below (by omega) _⟩
  obtain ⟨na3, nn3, nc3, ta3, tn3, tc3, hcs3, _⟩ := hcs4.form
  subst hcs3
  clear hcs4 hb4 B4
  unfold arrC
  go_wp2_with (refine st_arr rfl (.tmp 6) (.tmp 25) rfl (w.heap.size + 1 + 1) rfl _ _ _ _ _ _ _ _ _ rfl HZ.out rfl ?_)
  exact bodyPost_ret (res_arr Tryz.results53 rfl (HZ.out.put _) rfl) rfl ⟨_, rfl, HE.out⟩
end Go.Proofs.YtkljpofljkgkdaaGreatDoor

namespace Go.Proofs.YtkljpofljkgkdaaGreatDoor
open Go.RowKit
theorem RRow.congr {w : World} {sa : Option Addr} {n c : Nat} {fP fP' : Nat → Int} {fQ fQ' : Nat → Nat} (h : RRow w sa n c fP fQ) (e1 : ∀ j, j < n → fP j = fP' j) (e2 : ∀ j, j < n → fQ j = fQ' j) : RRow w sa n c fP' fQ' := by
  refine ⟨h.1, h.2.1, h.2.2.imp id fun ⟨b, off, h1, h2, h3⟩ => ⟨b, off, h1, h2, fun j hj => ?_⟩⟩
  rw [← e1 j hj, ← e2 j hj]
  exact h3 j hj
theorem Arr.on {w : World} {cs : Array Value} {S : Nat → Int} {r : Nat} {ch : Bool} {L : Nat} {g g' fP fP' : Nat → Int} {fQ fQ' : Nat → Nat} (h : Arr w cs S r ch L g fP fQ) (e1 : ∀ j, j < L → g j = g' j) (e2 : ∀ j, j < L → fP j = fP' j) (e3 : ∀ j, j < L → fQ j = fQ' j) : Arr w cs S r ch L g' fP' fQ' := by
  refine ⟨fun e => ?_, fun e => ?_⟩
  · obtain ⟨ta, tc, q, k⟩ := h.1 e
    exact ⟨ta, tc, q, k.congr e1⟩
  · obtain ⟨na, nc, q, k⟩ := h.2 e
    exact ⟨na, nc, q, k.congr e2 e3⟩
theorem el_at {L : Nat} (g fP : Nat → Int) (fQ : Nat → Nat) (z : Int) {j : Nat} (hj : j < L) : g j = elC L g z (j : Int) ∧ fP j = elP L fP (j : Int) ∧ fQ j = elQ L fQ (j : Int) := by
  unfold elC elP elQ
  have h : (0 : Int) ≤ (j : Nat) ∧ ((j : Nat) : Int) < (L : Nat) := by omega
  rw [if_pos h, if_pos h, if_pos h]
  exact ⟨rfl, rfl, rfl⟩
/-- An array is its elements, each at its own place. -/
theorem Arr.self {w : World} {cs : Array Value} {S : Nat → Int} {r : Nat} {ch : Bool} {L : Nat} {g fP : Nat → Int} {fQ : Nat → Nat} (h : Arr w cs S r ch L g fP fQ) {G : Nat → Int} (hG : ∀ j, j < L → G j = (j : Int)) : Arr w cs S r ch L (fun j => elC L g 32 (G j)) (fun j => elP L fP (G j)) (fun j => elQ L fQ (G j)) :=
  h.on (fun j hj => by rw [hG j hj]; exact (el_at g fP fQ 32 hj).1) (fun j hj => by rw [hG j hj]; exact (el_at g fP fQ 32 hj).2.1) (fun j hj => by rw [hG j hj]; exact (el_at g fP fQ 32 hj).2.2)
/-- Where the elements come from that are laid in another order along an axis; all stay where there is none. -/
def rvG (S : Nat → Int) (r : Nat) (i : Int) (F : Nat → Nat → Int) : Nat → Int := fun j => if stB r i then (j : Int) else alG S r (axI r i).toNat F j
theorem axQ_yes {r : Nat} {i : Int} (h : axQ r i = true) : ∃ k : Nat, axI r i = k ∧ k < r := by
  unfold axQ at h
  rw [Bool.and_eq_true, decide_eq_true_eq, decide_eq_true_eq] at h
  exact ⟨(axI r i).toNat, by omega, by omega⟩
end Go.Proofs.YtkljpofljkgkdaaGreatDoor
