/-
  The document's answers (package typeballref01): Right, digit, Cmp, Add, Sub, by contract.
-/
import Derived.Test.YtkjdoknmmiaapaaDoorRef1
namespace Go.Proofs.YtkjdoknmmiaapaaDoor
open Go.RowKit

set_option maxHeartbeats 800000 in
set_option maxRecDepth 100000 in
theorem right_any (s : ByteArray) (w : World) (hs : s.size ≤ maxLen) : Calls Tryd.prog 17 #[.string s] w fun e w' => e = .returned (.bool (okB s.data.toList)) ∧ w = w' := by
  have hsl : s.data.toList.length = s.size := rfl
  unfold maxLen at hs
  obtain ⟨b, hb⟩ : ∃ b, okB s.data.toList = b := ⟨_, rfl⟩
  rw [hb]
  have HB := Lib.hid hb
  have HSL := Lib.hid hsl
  clear hb hsl
  go_enter Tryd.func17, Tryd.ntmps17
  go_wp2
  go_loop [3] (fun i => ∃ k : Nat, k ≤ s.size ∧ k ≤ 2001 ∧ i = .int .i64 k ∧ Hid (∀ c ∈ s.data.toList.take k, 48 ≤ c.toNat ∧ c.toNat ≤ 57))
    (fun i => s.size - (intOf i).toNat)
  case atStart => exact ⟨0, by omega, by omega, rfl, by show ∀ c ∈ _, _; simp⟩
  case round =>
    obtain ⟨k, hk, hk2, rfl, hdg⟩ := hrel
    by_cases hlt : k < s.size
    · have d0 : decide ((k : Int) < (s.size : Int)) = true := decide_eq_true (by omega)
      by_cases h2k : k ≤ 2000
      · have d1 : decide ((k : Int) ≤ 2000) = true := decide_eq_true (by omega)
        have hsn := take_snoc s k hlt
        obtain ⟨c, hc⟩ : ∃ c, s[k] = c := ⟨_, rfl⟩
        rw [hc] at hsn
        have hbad : ¬ (48 ≤ c.toNat ∧ c.toNat ≤ 57) → b = false := by
          intro hdc
          rw [← HB.out]
          cases hk : okB s.data.toList
          · rfl
          · exfalso
            have := (okB_digs hk).2.2 c (List.mem_of_mem_take (by rw [hsn]; exact List.mem_append_right _ List.mem_cons_self))
            exact hdc this
        by_cases hdc : 48 ≤ c.toNat ∧ c.toNat ≤ 57
        · have t1 : decide ((c.toNat : Int) < 48) = false := decide_eq_false (by omega)
          have t2 : decide ((57 : Int) < (c.toNat : Int)) = false := decide_eq_false (by omega)
          have hnx : Hid (∀ c ∈ s.data.toList.take (k + 1), 48 ≤ c.toNat ∧ c.toNat ≤ 57) := by
            intro x hx
            rw [hsn] at hx
            rcases List.mem_append.1 hx with h | h
            · exact hdg.out x h
            · rw [List.mem_singleton.1 h]; exact hdc
          clear hsn hbad hdc
          go_wp2
          go_round
          case rel => exact ⟨k + 1, by omega, by omega, by go_num, hnx⟩
          case measure => simp [intOf]; omega
        · have hbf := Lib.hid (hbad hdc)
          clear hsn hbad
          by_cases h48 : c.toNat < 48
          · have t1 : decide ((c.toNat : Int) < 48) = true := decide_eq_true (by omega)
            clear hdc
            go_wp2
            go_ret
            exact ⟨by rw [hbf.out]; rfl, rfl⟩
          · have t1 : decide ((c.toNat : Int) < 48) = false := decide_eq_false (by omega)
            have t2 : decide ((57 : Int) < (c.toNat : Int)) = true := decide_eq_true (by omega)
            clear hdc
            go_wp2
            go_ret
            exact ⟨by rw [hbf.out]; rfl, rfl⟩
      · have d1 : decide ((k : Int) ≤ 2000) = false := decide_eq_false (by omega)
        have hbf : Hid (b = false) := by
          show _ = _
          rw [← HB.out]
          cases hk : okB s.data.toList
          · rfl
          · exfalso
            have := (okB_digs hk).2.1
            rw [HSL.out] at this; omega
        have d3 : decide ((1 : Int) ≤ (s.size : Int)) = true := decide_eq_true (by omega)
        have d4 : decide ((s.size : Int) ≤ 2000) = false := decide_eq_false (by omega)
        go_wp2
        go_ret
        exact ⟨by rw [hbf.out]; rfl, rfl⟩
    · obtain rfl : k = s.size := by omega
      have d0 : decide ((s.size : Int) < (s.size : Int)) = false := decide_eq_false (by omega)
      by_cases h1 : 1 ≤ s.size
      · have d3 : decide ((1 : Int) ≤ (s.size : Int)) = true := decide_eq_true (by omega)
        by_cases h4 : s.size ≤ 2000
        · have d4 : decide ((s.size : Int) ≤ 2000) = true := decide_eq_true (by omega)
          have hbf : Hid (b = true) := by
            show _ = _
            rw [← HB.out]
            refine okB_mk (by rw [HSL.out]; omega) (by rw [HSL.out]; omega) ?_
            have := hdg.out
            rw [List.take_of_length_le (by rw [HSL.out]; omega)] at this
            exact this
          go_wp2
          go_ret
          exact ⟨by rw [hbf.out]; rfl, rfl⟩
        · have d4 : decide ((s.size : Int) ≤ 2000) = false := decide_eq_false (by omega)
          have hbf : Hid (b = false) := by
            show _ = _
            rw [← HB.out]
            cases hk : okB s.data.toList
            · rfl
            · exfalso
              have := (okB_digs hk).2.1
              rw [HSL.out] at this; omega
          go_wp2
          go_ret
          exact ⟨by rw [hbf.out]; rfl, rfl⟩
      · have d3 : decide ((1 : Int) ≤ (s.size : Int)) = false := decide_eq_false (by omega)
        have hbf : Hid (b = false) := by
          show _ = _
          rw [← HB.out]
          cases hk : okB s.data.toList
          · rfl
          · exfalso
            have := (okB_digs hk).1
            rw [HSL.out] at this; omega
        go_wp2
        go_ret
        exact ⟨by rw [hbf.out]; rfl, rfl⟩

/-- digit: a row's digit from its end on; 0 beyond. -/
theorem digit_any (N n i : Nat) (w : World) (hN : N < 10 ^ n) (hn : n ≤ 10000000) (hi : i ≤ 100000000) : Calls Tryd.prog 81 #[.string (str (sdig N n)), .int .i64 i] w fun e w' => e = .returned (.int .i64 (d10 N i)) ∧ w = w' := by
  obtain ⟨s, hs⟩ : ∃ s, str (sdig N n) = s := ⟨_, rfl⟩
  have hsz : s.size = n := by rw [← hs, str_size, sdig_length]
  rw [hs]
  by_cases h : i < n
  · obtain ⟨k, hk⟩ : ∃ k, n - 1 - i = k := ⟨_, rfl⟩
    have hks : k < s.size := by omega
    have hc : s[k].toNat = 48 + d10 N i := by
      have h1 := sdig_get N n k (by omega)
      rw [show n - 1 - k = i by omega] at h1
      have h2 : s[k] = dgt N i := by
        subst hs
        have h3 : (sdig N n)[k]? = some ((str (sdig N n))[k]) := by
          rw [List.getElem?_eq_getElem (by rw [sdig_length]; omega)]; rfl
        rw [h3] at h1
        exact Option.some.inj h1
      rw [h2, dgt_toNat]; rfl
    obtain ⟨c, hcc⟩ : ∃ c, s[k] = c := ⟨_, rfl⟩
    rw [hcc] at hc
    obtain ⟨x, hx⟩ : ∃ x, d10 N i = x := ⟨_, rfl⟩
    have hxl : x < 10 := by rw [← hx]; exact Nat.mod_lt _ (by omega)
    rw [hx] at hc ⊢
    have e1 : (s.size : Int) - 1 - (i : Int) = (k : Int) := by omega
    have e2 : (c.toNat : Int) - 48 = (x : Int) := by omega
    have e3 : (x : Int) % 256 = (x : Int) := by omega
    have e4 : (48 : Int) ≤ (c.toNat : Int) := by omega
    have d0 : decide ((s.size : Int) ≤ (i : Int)) = false := decide_eq_false (by omega)
    have i1 : (k : Int) < (s.size : Int) := by omega
    have h' : i < s.size := by omega
    have hsb : s.size ≤ 10000000 := by omega
    clear hs hx hc hk hsz hN
    go_enter Tryd.func81, Tryd.ntmps81
    go_wp2
    go_ret
    exact ⟨rfl, rfl⟩
  · have hz : d10 N i = 0 := by
      unfold d10
      have := Nat.pow_le_pow_right (show 0 < 10 by omega) (show n ≤ i by omega)
      rw [Nat.div_eq_of_lt (by omega)]
    rw [hz]
    have d0 : decide ((s.size : Int) ≤ (i : Int)) = true := decide_eq_true (by omega)
    have h' : s.size ≤ i := by omega
    clear hs hsz hN hz
    go_enter Tryd.func81, Tryd.ntmps81
    go_wp2
    go_ret
    exact ⟨rfl, rfl⟩

/-- What is carried into place i of an addition. -/
def carry (x y i : Nat) : Nat := (x % 10 ^ i + y % 10 ^ i) / 10 ^ i
theorem carry_zero (x y : Nat) : carry x y 0 = 0 := by simp [carry, Nat.mod_one]
theorem carry_le (x y i : Nat) : carry x y i ≤ 1 := by
  unfold carry
  have hp : 0 < 10 ^ i := Nat.pow_pos (by omega)
  have h1 := Nat.mod_lt x hp
  have h2 := Nat.mod_lt y hp
  have : (x % 10 ^ i + y % 10 ^ i) / 10 ^ i < 2 := by rw [Nat.div_lt_iff_lt_mul hp]; omega
  omega
theorem carry_step (x y i : Nat) : (d10 x i + d10 y i + carry x y i) % 10 = d10 (x + y) i ∧ (d10 x i + d10 y i + carry x y i) / 10 = carry x y (i + 1) := by
  have hp : 0 < 10 ^ i := Nat.pow_pos (by omega)
  have hx : x % 10 ^ (i + 1) = x % 10 ^ i + 10 ^ i * d10 x i := by unfold d10; rw [Nat.pow_succ, Nat.mod_mul]
  have hy : y % 10 ^ (i + 1) = y % 10 ^ i + 10 ^ i * d10 y i := by unfold d10; rw [Nat.pow_succ, Nat.mod_mul]
  have hs : (x % 10 ^ (i + 1) + y % 10 ^ (i + 1)) / 10 ^ i = d10 x i + d10 y i + carry x y i := by
    rw [hx, hy]
    unfold carry
    rw [show x % 10 ^ i + 10 ^ i * d10 x i + (y % 10 ^ i + 10 ^ i * d10 y i) = (x % 10 ^ i + y % 10 ^ i) + 10 ^ i * (d10 x i + d10 y i) by rw [Nat.mul_add]; omega, Nat.add_mul_div_left _ _ hp]
    omega
  constructor
  · rw [← hs]
    unfold d10
    have e1 := Nat.div_add_mod x (10 ^ (i + 1))
    have e2 := Nat.div_add_mod y (10 ^ (i + 1))
    have : x + y = x % 10 ^ (i + 1) + y % 10 ^ (i + 1) + 10 ^ i * (10 * (x / 10 ^ (i + 1) + y / 10 ^ (i + 1))) := by
      have e3 : 10 ^ i * (10 * (x / 10 ^ (i + 1) + y / 10 ^ (i + 1))) = 10 ^ (i + 1) * (x / 10 ^ (i + 1)) + 10 ^ (i + 1) * (y / 10 ^ (i + 1)) := by rw [← Nat.mul_assoc, ← Nat.pow_succ, Nat.mul_add]
      omega
    rw [this, Nat.add_mul_div_left _ _ hp]
    omega
  · rw [← hs, Nat.div_div_eq_div_mul, ← Nat.pow_succ]; rfl

theorem carry_done {x y i : Nat} (h : carry x y i = 0) (hx : x < 10 ^ i) (hy : y < 10 ^ i) : x + y < 10 ^ i := by
  unfold carry at h
  rw [Nat.mod_eq_of_lt hx, Nat.mod_eq_of_lt hy] at h
  have hp : 0 < 10 ^ i := Nat.pow_pos (by omega)
  rcases Nat.lt_or_ge (x + y) (10 ^ i) with h1 | h1
  · exact h1
  · have := Nat.div_pos h1 hp; omega

structure SumI (w wr : World) (Z : Nat) (V : Value) (k : Nat) : Prop where
  below : Below w.heap.size w wr
  own : OwnL wr w.heap.size 3 .i64 V k (d10 Z)

theorem cell_one_at (w : World) (x : Value) (t : TypeId) : ∀ j u, [x][j]? = some u → (w.alloc (.cells #[x] t)).cell? ((⟨w.heap.size, 0, none⟩ : Addr).add j) = some u := by
  intro j u hj
  match j, hj with
  | 0, hj => simp at hj; subst hj; simp [Addr.add]
theorem one_cell_list (k : IntKind) (x : Int) : ∀ u ∈ [Value.int k x], u.oneCell' = true := by
  intro u hu; simp at hu; subst hu; rfl
theorem sum_next {w wr w5 : World} {Z : Nat} {V v' : Value} {k r : Nat} {o : Obj} (h : SumI w wr Z V k) (hown : w5.ownsRow w.heap.size 3 1 v' (k + 1) (cl .i64 (d10 Z) k ++ [.int .i64 r])) (hg : (wr.alloc o).grownBy w5 V.ownBlock)
    (hz : w.heap.size ≤ wr.heap.size) (hr : r = d10 Z k) : SumI w w5 Z v' (k + 1) := by
  refine ⟨(h.below.alloc hz _).grown hg (by rw [World.size_alloc]; omega) (fun q hq => (World.ownsRow.lt h.own q hq).1), ?_⟩
  rw [cl_snoc, cl_congr (g := d10 Z) (fun j hj => by
    by_cases e : j = k
    · rw [if_pos e, hr, e]
    · rw [if_neg e])] at hown
  exact hown

set_option maxHeartbeats 1600000 in
set_option maxRecDepth 100000 in
theorem radd_any (x n y m : Nat) (w : World) (hx : x < 10 ^ n) (hy : y < 10 ^ m) (hn : n ≤ 1000) (hm : m ≤ 1000) :
    Calls Tryd.prog 36 #[.string (str (sdig x n)), .string (str (sdig y m))] w fun e w' => e = .returned (.string (str (dec (x + y)))) ∧ Below w.heap.size w w' := by
  obtain ⟨i0, hi, hz0, hz1, hz2⟩ := info_parts infoI
  have DX := Lib.hid (fun i (h : i ≤ 100000000) wz => digit_any x n i wz hx (by omega) h)
  have DY := Lib.hid (fun i (h : i ≤ 100000000) wz => digit_any y m i wz hy (by omega) h)
  have hs1 : (str (sdig x n)).size = n := by rw [str_size, sdig_length]
  have hs2 : (str (sdig y m)).size = m := by rw [str_size, sdig_length]
  generalize str (sdig x n) = s at *
  generalize str (sdig y m) = t at *
  have H0 : SumI w w (x + y) (.slice none 0 0) 0 := ⟨Below.refl _ _, World.ownsRow_nil _ _ _ _⟩
  have HI := Lib.hid hi
  have HX := Lib.hid hx
  have HY := Lib.hid hy
  have HC0 : Hid (0 = carry x y 0) := (carry_zero x y).symm
  have hL : s.size ≤ 1000 ∧ t.size ≤ 1000 := by omega
  obtain ⟨hL1, hL2⟩ := hL
  have HS1 := Lib.hid hs1
  have HS2 := Lib.hid hs2
  clear hi hx hy hs1 hs2 hn hm
  go_enter Tryd.func36, Tryd.ntmps36
  go_wp2
  go_loopw [5, 6, 7] (fun D c i wr => ∃ (k cy : Nat) (V : Value), k ≤ 1001 ∧ i = .int .i64 k ∧ cy ≤ 1 ∧ c = .int .i64 cy ∧ Hid (cy = carry x y k ∧ (k ≤ s.size ∨ k ≤ t.size ∨ (k = 1 + max s.size t.size ∧ cy = 0) ∨ k ≤ max s.size t.size)) ∧ V = D ∧ SumI w wr (x + y) V k)
    (fun _ _ i _ => 1002 - (intOf i).toNat)
  case atStart => exact ⟨0, 0, _, by omega, rfl, by omega, rfl, ⟨HC0.out, .inl (by omega)⟩, rfl, H0⟩
  case round =>
    obtain ⟨k, cy, V, hk, rfl, hcy, rfl, hcc, rfl, hr⟩ := hrel
    have hgo : Hid (¬ (k < s.size ∨ k < t.size ∨ 0 < cy) → x + y < 10 ^ k) := by
      intro h
      have hc0 : cy = 0 := by omega
      refine carry_done (by rw [← hcc.out.1]; exact hc0) ?_ ?_
      · have := HS1.out
        exact Nat.lt_of_lt_of_le HX.out (Nat.pow_le_pow_right (by omega) (by omega))
      · have := HS2.out
        exact Nat.lt_of_lt_of_le HY.out (Nat.pow_le_pow_right (by omega) (by omega))
    by_cases hc : k < s.size ∨ k < t.size ∨ 0 < cy
    · have hk2 : k ≤ 1000 := by
        rcases hc with h | h | h
        · omega
        · omega
        · rcases hcc.out.2 with h2 | h2 | h2 | h2
          · omega
          · omega
          · omega
          · omega
      obtain ⟨dx, hdx⟩ : ∃ dx, d10 x k = dx := ⟨_, rfl⟩
      obtain ⟨dy, hdy⟩ : ∃ dy, d10 y k = dy := ⟨_, rfl⟩
      have CX := DX.out k (by omega)
      have CY := DY.out k (by omega)
      rw [hdx] at CX
      rw [hdy] at CY
      have hdxl : dx < 10 := by rw [← hdx]; exact Nat.mod_lt _ (by omega)
      have hdyl : dy < 10 := by rw [← hdy]; exact Nat.mod_lt _ (by omega)
      obtain ⟨q1, q2⟩ := carry_step x y k
      rw [hdx, hdy, ← hcc.out.1] at q1 q2
      obtain ⟨tt, htt⟩ : ∃ tt, dx + dy + cy = tt := ⟨_, rfl⟩
      obtain ⟨r, hr1⟩ : ∃ r, tt % 10 = r := ⟨_, rfl⟩
      obtain ⟨q, hq1⟩ : ∃ q, tt / 10 = q := ⟨_, rfl⟩
      rw [htt, hr1] at q1
      rw [htt, hq1] at q2
      have e1 : (dx : Int) + (dy : Int) + (cy : Int) = (tt : Int) := by omega
      have e2 : (tt : Int) % 10 = (r : Int) := by omega
      have e3 : (tt : Int) / 10 = (q : Int) := by omega
      have hql : q ≤ 1 := by omega
      have CX' := Lib.hid CX
      have CY' := Lib.hid CY
      have Q1 := Lib.hid q1
      have HNX : Hid (q = carry x y (k + 1) ∧ (k + 1 ≤ s.size ∨ k + 1 ≤ t.size ∨ (k + 1 = 1 + max s.size t.size ∧ q = 0) ∨ k + 1 ≤ max s.size t.size)) := by
        refine ⟨q2, ?_⟩
        by_cases h1 : k < s.size ∨ k < t.size
        · omega
        · refine .inr (.inr (.inl ?_))
          have hxk : x < 10 ^ k := Nat.lt_of_lt_of_le HX.out (Nat.pow_le_pow_right (by omega) (by have := HS1.out; omega))
          have hyk : y < 10 ^ k := Nat.lt_of_lt_of_le HY.out (Nat.pow_le_pow_right (by omega) (by have := HS2.out; omega))
          have z1 : dx = 0 := by rw [← hdx]; unfold d10; rw [Nat.div_eq_of_lt hxk]
          have z2 : dy = 0 := by rw [← hdy]; unfold d10; rw [Nat.div_eq_of_lt hyk]
          refine ⟨?_, by omega⟩
          rcases hcc.out.2 with h2 | h2 | h2 | h2 <;> omega
      have HR := Lib.hid hr
      have hzr : w.heap.size ≤ wr.heap.size := hr.below.size
      have HCC := hcc
      have HC := Lib.hid hc
      clear hr q1 q2 htt hr1 hq1 CX CY hdx hdy hcc hc
      have hgo' : True := trivial
      clear hgo hgo'
      by_cases c1 : k < s.size
      all_goals by_cases c2 : k < t.size
      all_goals by_cases c3 : 0 < cy
      all_goals first | (exfalso; have := HC.out; omega) | skip
      all_goals
        have d1 : decide ((k : Int) < (s.size : Int)) = decide (k < s.size) := by simp
        have d2 : decide ((k : Int) < (t.size : Int)) = decide (k < t.size) := by simp
        have d3 : decide ((0 : Int) < (cy : Int)) = decide (0 < cy) := by simp
        first | rw [decide_eq_true c1] at d1 | rw [decide_eq_false c1] at d1
        first | rw [decide_eq_true c2] at d2 | rw [decide_eq_false c2] at d2
        first | rw [decide_eq_true c3] at d3 | rw [decide_eq_false c3] at d3
        go_wp2_with fail
        go_at_call 81
        refine (CX'.out wr).mono ?_
        rintro e w2 ⟨rfl, rfl⟩
        go_wp2_with fail
        go_at_call 81
        refine (CY'.out wr).mono ?_
        rintro e w2 ⟨rfl, rfl⟩
        go_wp2_with (at_builtin; refine wpList_append_own _ rfl _ _ 93 rfl w.heap.size 3 i0 (.int .i64 0) 1 8 Tryd.underlying93 HI.out hz0 hz1 hz2 rfl (by decide) _ _ _ rfl (World.ownsRow.alloc HR.out.own _) ⟨wr.heap.size, 0, none⟩ 1 1 [.int .i64 r] rfl rfl (cell_one_at _ _ _) (one_cell_list _ _) (by unfold maxLen; omega) (by omega) (by rw [World.size_alloc]; omega) ?_; intro v' w5 hown' hgrow _)
        have HG5 := Lib.hid (sum_next HR.out hown' hgrow hzr Q1.out)
        clear hown' hgrow
        go_wp2
        go_roundw
        case rel => exact ⟨k + 1, q, v', by omega, by go_num, hql, rfl, HNX.out, rfl, HG5.out⟩
        case measure => simp [intOf]; omega
    · obtain ⟨a, c, rfl, hsa, _⟩ := hr.own.slAt (m := 10) (fun j _ => Nat.mod_lt _ (by omega)) (by omega)
      have HW := Lib.hid (written_any a k c (d10 (x + y)) (x + y) wr hsa (fun _ _ => rfl) (hgo.out hc))
      have HB := Lib.hid hr.below
      have d1 : decide ((k : Int) < (s.size : Int)) = false := decide_eq_false (by omega)
      have d2 : decide ((k : Int) < (t.size : Int)) = false := decide_eq_false (by omega)
      have d3 : decide ((0 : Int) < (cy : Int)) = false := decide_eq_false (by omega)
      have c1 : ¬ k < s.size := by omega
      have c2 : ¬ k < t.size := by omega
      have c3 : ¬ 0 < cy := by omega
      clear hsa hr hc
      go_wp2_with (go_at_call 79; refine HW.out.mono ?_; rintro e w7 ⟨rfl, hb7⟩)
      go_ret
      exact ⟨rfl, HB.out.trans (hb7.mono HB.out.size)⟩

end Go.Proofs.YtkjdoknmmiaapaaDoor
