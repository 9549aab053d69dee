/-
  The document's answers (package typeballref01): Uint, groups, Bits, Limbs, by contract.
-/
import Derived.Test.YtkjdoknmmiaapaaDoorRef3
namespace Go.Proofs.YtkjdoknmmiaapaaDoor
open Go.RowKit

theorem numOf_append (b : List UInt8) : ∀ a : List UInt8, numOf (a ++ b) = numOf a * 10 ^ b.length + numOf b
  | [] => by simp [numOf]
  | c :: a => by
    rw [List.cons_append, numOf, numOf_append b a, numOf, List.length_append, Nat.pow_add, Nat.add_mul, Nat.mul_assoc]
    omega
theorem numOf_take_le (l : List UInt8) (k : Nat) : numOf (l.take k) ≤ numOf l := by
  have h := numOf_append (l.drop k) (l.take k)
  rw [List.take_append_drop] at h
  have := Nat.le_mul_of_pos_right (numOf (l.take k)) (Nat.pow_pos (n := (l.drop k).length) (show 0 < 10 by omega))
  omega
theorem numOf_dec (N : Nat) : numOf (dec N) = N := by unfold dec; rw [numOf_sdig, Nat.mod_eq_of_lt (dl_lt N)]
theorem dec_dig (N : Nat) : ∀ c ∈ dec N, 48 ≤ c.toNat ∧ c.toNat ≤ 57 := by
  intro c hc
  obtain ⟨j, hj⟩ := List.getElem?_of_mem hc
  unfold dec at hj
  have hjl : j < dl N := by
    rcases Nat.lt_or_ge j (dl N) with h | h
    · exact h
    · rw [List.getElem?_eq_none (by rw [sdig_length]; exact h)] at hj; cases hj
  rw [sdig_get N _ _ hjl] at hj
  cases hj
  rw [dgt_toNat]
  have := Nat.mod_lt (N / 10 ^ (dl N - 1 - j)) (show 0 < 10 by omega)
  omega

theorem dec_max : dec 18446744073709551615 = [49, 56, 52, 52, 54, 55, 52, 52, 48, 55, 51, 55, 48, 57, 53, 53, 49, 54, 49, 53] := by
  rw [← dec_of_top (k := 20) (by decide) (.inr ⟨by decide, by decide⟩)]
  decide

/-- A text of digits at place k: its digit, and what stands before. -/
theorem dec_at {N : Nat} {s : ByteArray} (hs : s.data.toList = dec N) {k : Nat} (hk : k < s.size) :
    ∃ c x : Nat, s[k].toNat = c ∧ c = 48 + x ∧ x < 10 ∧ numOf (s.data.toList.take (k + 1)) = 10 * numOf (s.data.toList.take k) + x := by
  have hm : s[k] ∈ dec N := by
    rw [← hs]
    exact List.getElem_mem (l := s.data.toList) (by simpa using hk)
  obtain ⟨h1, h2⟩ := dec_dig N _ hm
  refine ⟨_, s[k].toNat - 48, rfl, by omega, by omega, ?_⟩
  rw [take_snoc s k hk, numOf_snoc]

def uI (N : Nat) : Nat := if N < 18446744073709551616 then N else 0
set_option maxHeartbeats 800000 in
set_option maxRecDepth 100000 in
theorem runi_any (N : Nat) (w : World) (hl : dl N ≤ 1000) : Calls Tryd.prog 20 #[.string (str (dec N))] w fun e w' => e = .returned (.tuple #[.int .u64 (uI N), .bool (decide (N < 18446744073709551616))]) ∧ w = w' := by
  have hc : ∀ wz, Calls Tryd.prog 33 #[.string (str (dec N)), .string ⟨#[49, 56, 52, 52, 54, 55, 52, 52, 48, 55, 51, 55, 48, 57, 53, 53, 49, 54, 49, 53]⟩] wz fun e w' => e = .returned (.int .i64 (cmpI N 18446744073709551615)) ∧ wz = w' := by
    intro wz
    have h := rcmp_any N 18446744073709551615 wz (by omega) (by have := dl_le 18446744073709551615 20 (by omega) (by decide); omega)
    rw [dec_max] at h
    exact h
  have hsz : (str (dec N)).size = dl N := by rw [str_size]; exact sdig_length _ _
  have hda : (str (dec N)).data.toList = dec N := rfl
  generalize str (dec N) = s at *
  by_cases hbig : 18446744073709551615 < N
  · have h1 : cmpI N 18446744073709551615 = 1 := by unfold cmpI; rw [if_neg (by omega), if_neg (by omega)]
    rw [h1] at hc
    have HC := Lib.hid hc
    have HE : Hid (uI N = 0 ∧ decide (N < 18446744073709551616) = false) := ⟨by unfold uI; rw [if_neg (by omega)], decide_eq_false (by omega)⟩
    clear hc h1 hbig hsz hda
    rw [HE.out.1, HE.out.2]
    go_enter Tryd.func20, Tryd.ntmps20
    go_wp2_with (go_at_call 33; refine (HC.out _).mono ?_; rintro e w1 ⟨rfl, rfl⟩)
    go_ret2
    exact ⟨rfl, rfl⟩
  · obtain ⟨cm, hcm⟩ : ∃ cm, cmpI N 18446744073709551615 = cm := ⟨_, rfl⟩
    have hcl : cm ≤ 0 := by
      rw [← hcm]; unfold cmpI
      split
      · omega
      · split
        · omega
        · omega
    rw [hcm] at hc
    have HC := Lib.hid hc
    have d0 : decide ((0 : Int) < cm) = false := decide_eq_false (by omega)
    have HE : Hid (uI N = N ∧ decide (N < 18446744073709551616) = true) := ⟨by unfold uI; rw [if_pos (by omega)], decide_eq_true (by omega)⟩
    have HN : Hid (N < 18446744073709551616) := by show _ < _; omega
    have HDA := Lib.hid hda
    have HSZ := Lib.hid hsz
    have hsl : s.size ≤ 1000 := by omega
    rw [HE.out.1, HE.out.2]
    clear hc hcm hbig hsz hda HE hl
    go_enter Tryd.func20, Tryd.ntmps20
    go_wp2_with (go_at_call 33; refine (HC.out _).mono ?_; rintro e w1 ⟨rfl, rfl⟩)
    go_loop [4, 5] (fun a i => ∃ k acc : Nat, k ≤ s.size ∧ i = .int .i64 k ∧ a = .int .u64 acc ∧ Hid (acc = numOf (s.data.toList.take k)))
      (fun _ i => s.size - (intOf i).toNat)
    case atStart => exact ⟨0, 0, by omega, rfl, rfl, by show _ = _; simp [numOf]⟩
    case round =>
      obtain ⟨k, acc, hk, rfl, rfl, hacc⟩ := hrel
      by_cases hlt : k < s.size
      · obtain ⟨c, x, hcx, hc48, hx10, hnum⟩ := dec_at HDA.out hlt
        have hle := numOf_take_le s.data.toList (k + 1)
        rw [HDA.out, numOf_dec, ← HDA.out, hnum, ← hacc.out] at hle
        have hNl := HN.out
        obtain ⟨acc', ha'⟩ : ∃ acc', 10 * acc + x = acc' := ⟨_, rfl⟩
        have hal : acc' < 18446744073709551616 := by omega
        have HNX : Hid (acc' = numOf (s.data.toList.take (k + 1))) := by show _ = _; rw [hnum, ← hacc.out, ha']
        have e0 : (s[k].toNat : Int) - 48 = (x : Int) := by omega
        have e1 : (acc : Int) * 10 + (x : Int) = (acc' : Int) := by omega
        have e2 : (x : Int) % 256 = (x : Int) := by omega
        have e3 : (48 : Int) ≤ (s[k].toNat : Int) := by omega
        have e4 : (acc : Int) * 10 ≤ 18446744073709551615 := by omega
        clear hcx hc48 hnum hle hNl ha' hacc
        go_wp2
        go_round
        case rel => exact ⟨k + 1, acc', by omega, by go_num, rfl, HNX.out⟩
        case measure => simp [intOf]; omega
      · obtain rfl : k = s.size := by omega
        have hE : Hid (acc = N) := by
          show _ = _
          rw [hacc.out, List.take_of_length_le (by show s.data.toList.length ≤ _; exact Nat.le_refl _), HDA.out, numOf_dec]
        go_wp2
        go_ret2
        exact ⟨by rw [hE.out]; rfl, rfl⟩

/-- A number out of groups, the greatest first. -/
def hor (g : Nat → Nat) : Nat → Nat
  | 0 => 0
  | k + 1 => hor g k * 1000000000 + g k
theorem hor_congr {f g : Nat → Nat} : ∀ n, (∀ j, j < n → f j = g j) → hor f n = hor g n
  | 0, _ => rfl
  | n + 1, h => by rw [hor, hor, hor_congr n (fun j hj => h j (by omega)), h n (by omega)]

/-- A list of the call's own that is a number in groups. -/
def GrpIs (wr : World) (base : Nat) (V : Value) (cnt X : Nat) : Prop := ∃ g, OwnL wr base 3 .i64 V cnt g ∧ (∀ j, j < cnt → g j < 1000000000) ∧ hor g cnt = X

theorem GrpIs.snoc {wr w5 : World} {base : Nat} {V v' : Value} {cnt X x : Nat} (h : GrpIs wr base V cnt X) (hx : x < 1000000000) (hown : ∀ g, OwnL wr base 3 .i64 V cnt g → w5.ownsRow base 3 1 v' (cnt + 1) (cl .i64 g cnt ++ [.int .i64 x])) : GrpIs w5 base v' (cnt + 1) (X * 1000000000 + x) := by
  obtain ⟨g, h1, h2, h3⟩ := h
  have := hown g h1
  rw [cl_snoc] at this
  refine ⟨_, this, fun j hj => ?_, ?_⟩
  · show (if j = cnt then x else g j) < _
    split
    · exact hx
    · exact h2 j (by omega)
  · rw [hor, if_pos rfl, hor_congr cnt (g := g) (fun j hj => if_neg (by omega)), h3]

/-- At the head of a round of groups. -/
def GrI (w wr : World) (s : ByteArray) (V : Value) (n i : Nat) : Prop := Below w.heap.size w wr ∧ ∃ p cnt X, GrpIs wr w.heap.size V cnt X ∧ X * 10 ^ p + n = numOf (s.data.toList.take i) ∧ n < 10 ^ p ∧ (s.size - i) % 9 + p ≤ 9 ∧ ((s.size - i) % 9 = 0 → p = 0) ∧ cnt ≤ i ∧ (X = 0 ∨ (s.size - i + p) % 9 = 0)

set_option maxHeartbeats 1600000 in
set_option maxRecDepth 100000 in
theorem groups_any (N : Nat) (w : World) (hl : dl N ≤ 1000) : Calls Tryd.prog 78 #[.string (str (dec N))] w fun e w' => ∃ V cnt, e = .returned V ∧ GrpIs w' w.heap.size V cnt N ∧ cnt ≤ 1000 ∧ Below w.heap.size w w' := by
  obtain ⟨i0, hi, hz0, hz1, hz2⟩ := info_parts infoI
  have hsz : (str (dec N)).size = dl N := by rw [str_size]; exact sdig_length _ _
  have hda : (str (dec N)).data.toList = dec N := rfl
  generalize str (dec N) = s at *
  have hsl : s.size ≤ 1000 := by omega
  have hHI := Lib.hid hi
  have HDA := Lib.hid hda
  have H0 : GrI w w s (.slice none 0 0) 0 0 := ⟨Below.refl _ _, 0, 0, 0, ⟨fun _ => 0, World.ownsRow_nil _ _ _ _, fun _ h => by omega, rfl⟩, by simp [numOf], by simp, by omega, fun _ => rfl, by omega, .inl rfl⟩
  clear hi hsz hda hl
  go_enter Tryd.func78, Tryd.ntmps78
  go_wp2
  go_loopw [3, 4, 5, 6] (fun L a k i wr => ∃ (j n m : Nat) (V : Value), j ≤ s.size ∧ i = .int .i64 j ∧ n < 1000000000 ∧ a = .int .i64 n ∧ m + j = s.size ∧ k = .int .i64 m ∧ V = L ∧ GrI w wr s V n j)
    (fun _ _ _ i _ => s.size - (intOf i).toNat)
  case atStart => exact ⟨0, 0, s.size, _, by omega, rfl, by omega, rfl, by omega, rfl, rfl, H0⟩
  case round =>
    obtain ⟨j, n, m, V, hj, rfl, hnl, rfl, hm, rfl, rfl, hr⟩ := hrel
    by_cases hlt : j < s.size
    · obtain ⟨c, x, hcx, hc48, hx10, hnum⟩ := dec_at HDA.out hlt
      obtain ⟨hbl, p, cnt, X, hg, hv, hnp, hp9, hp0, hcnt, hX0⟩ := hr
      obtain ⟨m', hm'⟩ : ∃ m', m - 1 = m' := ⟨_, rfl⟩
      have hpl : p ≤ 8 := by omega
      have hn8 : n < 100000000 := Nat.lt_of_lt_of_le hnp (Nat.le_trans (Nat.pow_le_pow_right (by omega) hpl) (by decide))
      obtain ⟨n', hn'⟩ : ∃ n', n * 10 + x = n' := ⟨_, rfl⟩
      have hn'l : n' < 1000000000 := by omega
      have hnp' : n' < 10 ^ (p + 1) := by rw [Nat.pow_succ]; omega
      have hv' : X * 10 ^ (p + 1) + n' = numOf (s.data.toList.take (j + 1)) := by
        rw [hnum, ← hv, ← hn', Nat.pow_succ, ← Nat.mul_assoc]; omega
      have e0 : (s[j].toNat : Int) - 48 = (x : Int) := by omega
      have e1 : (n : Int) * 10 + (x : Int) = (n' : Int) := by omega
      have e2 : (x : Int) % 256 = (x : Int) := by omega
      have e3 : (48 : Int) ≤ (s[j].toNat : Int) := by omega
      have e5 : (m : Int) - 1 = (m' : Int) := by omega
      have hmj : s.size - (j + 1) = m' := by omega
      have hml : m' ≤ 1000 := by omega
      obtain ⟨r, hr9⟩ : ∃ r, m' % 9 = r := ⟨_, rfl⟩
      have e6 : (m' : Int) % 9 = (r : Int) := by omega
      have hzr : w.heap.size ≤ wr.heap.size := hbl.size
      by_cases h9 : r = 0
      · have HGR := Lib.hid hg
        obtain ⟨g, hown, hgb, hgv⟩ := hg
        have HOWN := Lib.hid hown
        have hnx : ∀ w5 v', GrpIs w5 w.heap.size v' (cnt + 1) (X * 1000000000 + n') → Below w.heap.size w w5 → GrI w w5 s v' 0 (j + 1) := by
          intro w5 v' h1 h2
          have hp : p + 1 ≤ 9 := by omega
          have key : (p + 1 = 9 ∨ X = 0) := by
            rcases hX0 with h | h
            · exact .inr h
            · left; omega
          refine ⟨h2, 0, cnt + 1, _, h1, ?_, by omega, by omega, fun _ => rfl, by omega, .inr (by omega)⟩
          rw [← hv']
          rcases key with h | h
          · rw [h]; simp
          · rw [h]; simp
        have HNX := Lib.hid hnx
        have hr0 : ((r : Int) == 0) = true := by rw [h9]; rfl
        have HBL := Lib.hid hbl
        have hm2 := Lib.hid (show m' + (j + 1) = s.size by omega)
        have hcl : cnt ≤ 1000 := by omega
        have HIN := Lib.hid (fun v' w5 (h1 : ∀ g, OwnL wr w.heap.size 3 .i64 V cnt g → w5.ownsRow w.heap.size 3 1 v' (cnt + 1) (cl .i64 g cnt ++ [.int .i64 n'])) => HGR.out.snoc (w5 := w5) (v' := v') hn'l h1)
        have h9' : (r : Int) = 0 := by omega
        clear hnx hcx hc48 hnum hbl hgb hgv hv hnp hp9 hp0 hm' hn' hnp' hv' hmj hr9 hown hm hX0 h9
        go_wp2_with (at_builtin; refine wpList_append_own _ rfl _ _ 93 rfl w.heap.size 3 i0 (.int .i64 0) 1 8 Tryd.underlying93 hHI.out hz0 hz1 hz2 rfl (by decide) _ _ _ rfl (World.ownsRow.alloc HOWN.out _) ⟨wr.heap.size, 0, none⟩ 1 1 [.int .i64 n'] rfl rfl (cell_one_at _ _ _) (one_cell_list _ _) (by unfold maxLen; omega) (by omega) (by rw [World.size_alloc]; omega) ?_; intro v' w5 hown' hgrow _)
        have hb5 : Below w.heap.size w w5 := (HBL.out.alloc hzr _).grown hgrow (by rw [World.size_alloc]; omega) (fun q hq => (World.ownsRow.lt HOWN.out q hq).1)
        have hg5 : GrpIs w5 w.heap.size v' (cnt + 1) (X * 1000000000 + n') := by
          refine HIN.out v' w5 (fun g' hg' => ?_)
          have e : cl .i64 g' cnt = cl .i64 g cnt := by
            have h1 := hg'.2
            have h2 := HOWN.out.2
            rcases h1 with ⟨a1, a2⟩ | ⟨q1, c1, cu1, a1, _, a3, _, _, _, a4⟩
            · rw [a2]; rfl
            · rcases h2 with ⟨b1, b2⟩ | ⟨q2, c2, cu2, b1, _, b3, _, _, _, b4⟩
              · rw [b2]; rfl
              · rw [a1] at b1
                simp only [Value.slice.injEq, Option.some.injEq, Addr.mk.injEq, and_true, true_and] at b1
                obtain ⟨rfl, _⟩ := b1
                rw [a3] at b3
                simp only [Option.some.injEq, Obj.cells.injEq, and_true] at b3
                rw [← a4, ← b4, b3]
          rw [e]; exact hown'
        have HG5 := Lib.hid (HNX.out w5 v' hg5 hb5)
        clear hown' hgrow hb5 hg5
        go_wp2
        go_roundw
        case rel => exact ⟨j + 1, 0, m', v', by omega, by go_num, by omega, rfl, hm2.out, rfl, rfl, HG5.out⟩
        case measure => simp [intOf]; omega
      · have hr0 : ((r : Int) == 0) = false := by rw [beq_eq_false_iff_ne]; omega
        have HNX : Hid (GrI w wr s V n' (j + 1)) := ⟨hbl, p + 1, cnt, X, hg, hv', hnp', by omega, fun h => by omega, by omega, by rcases hX0 with h | h; exact .inl h; right; omega⟩
        have hm2 := Lib.hid (show m' + (j + 1) = s.size by omega)
        have h9' : ¬ (r : Int) = 0 := by omega
        clear hcx hc48 hnum hbl hg hv hnp hp9 hp0 hm' hn' hnp' hv' hmj hr9 hm hX0 h9
        go_wp2
        go_roundw
        case rel => exact ⟨j + 1, n', m', V, by omega, by go_num, hn'l, rfl, hm2.out, rfl, rfl, HNX.out⟩
        case measure => simp [intOf]; omega
    · obtain rfl : j = s.size := by omega
      obtain ⟨hbl, p, cnt, X, hg, hv, hnp, hp9, hp0, hcnt, hX0⟩ := hr
      have hp : p = 0 := hp0 (by omega)
      subst hp
      have hn0 : n = 0 := by simpa using hnp
      subst hn0
      rw [List.take_of_length_le (by show s.data.toList.length ≤ _; exact Nat.le_refl _), HDA.out, numOf_dec, Nat.pow_zero, Nat.mul_one, Nat.add_zero] at hv
      subst hv
      have HBL := Lib.hid hbl
      have HG := Lib.hid hg
      clear hbl hg hp9 hp0 hX0 hnp
      go_wp2
      go_ret
      exact ⟨V, cnt, rfl, HG.out, by omega, HBL.out⟩

end Go.Proofs.YtkjdoknmmiaapaaDoor
