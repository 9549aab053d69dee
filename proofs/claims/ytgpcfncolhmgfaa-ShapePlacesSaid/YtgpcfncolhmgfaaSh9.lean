/-
  Package shape: advance (an index turned into the next one), by contract; a row copied whole.
-/
import Derived.Test.YtgpcfncolhmgfaaSh3
import Derived.Test.YtgpcfncolhmgfaaSh5
namespace Go.Proofs.Ytgpcfncolhmgfaa
open Go.RowKit

theorem dgs_zero {f : Nat → Int} : ∀ (n j : Nat), dgs f n 0 j = 0
  | 0, _ => rfl
  | n + 1, j => by
    show (if j = n then 0 % f n else dgs f n (0 / f n) j) = 0
    rw [Int.zero_emod, Int.zero_ediv, dgs_zero n j]
    split <;> rfl
theorem dgs_top {f : Nat → Int} (n : Nat) (r : Int) : dgs f (n + 1) r n = r % f n := by
  show (if n = n then _ else _) = _
  rw [if_pos rfl]
theorem dgs_low {f : Nat → Int} {n j : Nat} (r : Int) (h : j < n) : dgs f (n + 1) r j = dgs f n (r / f n) j := by
  show (if j = n then _ else _) = _
  rw [if_neg (by omega)]
/-- One more: the last number goes up, or comes to 0 and the others go up. -/
theorem next_up {d q : Int} (hd : 1 ≤ d) (h : q % d + 1 < d) : (q + 1) % d = q % d + 1 ∧ (q + 1) / d = q / d := by
  have h1 := Int.mul_ediv_add_emod q d
  have h2 := Int.emod_nonneg q (show d ≠ 0 by omega)
  have e : q + 1 = (q % d + 1) + d * (q / d) := by omega
  constructor
  · rw [e, Int.add_mul_emod_self_left]
    exact Int.emod_eq_of_lt (by omega) h
  · rw [e, Int.add_mul_ediv_left _ _ (by omega), Int.ediv_eq_zero_of_lt (by omega) h, Int.zero_add]
theorem next_over {d q : Int} (hd : 1 ≤ d) (h : q % d + 1 = d) : (q + 1) % d = 0 ∧ (q + 1) / d = q / d + 1 := by
  have h1 := Int.mul_ediv_add_emod q d
  have e : q + 1 = d * (q / d + 1) := by rw [Int.mul_add]; omega
  constructor
  · rw [e, Int.mul_emod_right]
  · rw [e, Int.mul_ediv_cancel_left _ (by omega)]

theorem IBox.wrote {w w' : World} {g n k lo hi : Nat} {h : Nat → Int} (q : IBox w g n h) (hw : Wrote k lo hi w w') (hk : g ≠ k) : IBox w' g n h :=
  ⟨Nat.lt_of_lt_of_le q.1 hw.size, q.2.1.wrote hw q.1, fun j hj => (World.cell?_of_block (w := w) (w' := w') (a := ⟨g, j, none⟩) (hw.block g q.1 hk)).trans (q.2.2 j hj)⟩
theorem IBox.drewN {w : World} {g n : Nat} {h : Nat → Int} (q : IBox w g n h) (m : Nat) : IBox (w.drewN m) g n h := q

set_option maxHeartbeats 1600000 in
set_option maxRecDepth 100000 in
theorem advance_any (a : Option Addr) (n c : Nat) (f : Nat → Int) (g c2 : Nat) (r : Int) (w0 w : World) (h : KRow w0 .i64 a n c f) (hb : Below w0.heap.size w0 w) (hg : w0.heap.size ≤ g) (hn : n ≤ 8) (hp : ∀ j, j < n → 1 ≤ f j) (hf : ∀ j, j < n → f j ≤ 4096) (hr : 0 ≤ r ∧ r < itm f n) (hx : IBox w g n (dgs f n r)) (hc : n ≤ c2 ∧ c2 ≤ maxLen) :
    Calls Try.prog 28 #[.slice a n c, .slice (some ⟨g, 0, none⟩) n c2] w fun e w' => e = .returned (.tuple #[]) ∧ Wrote g 0 n w w' ∧ IBox w' g n (dgs f n (r + 1)) := by
  have hl := h.len
  have H := Lib.hid h
  have HB := Lib.hid hb
  have HP := Lib.hid hp
  have HF := Lib.hid hf
  have H0 : Hid (0 ≤ r ∧ r < itm f n ∧ Wrote g 0 n w w ∧ IBox w g n (fun j => if j < n then dgs f n r j else dgs f n (r + 1) j)) :=
    Lib.hid ⟨hr.1, hr.2, Wrote.refl _ _ _ _, hx.congr (fun j hj => by rw [if_pos hj])⟩
  have hw1 := IntWalk.i64_in ((n : Int) - 1) (by omega)
  have hnn : (0 : Int) ≤ n := by omega
  obtain ⟨hc1, hc2⟩ := hc
  unfold maxLen at hc2
  clear h hb hp hf hr hx
  go_enter Try.func28, Try.ntmps28
  go_wp2_with fail
  go_loopw [4] (fun ax wr => ∃ (k : Nat) (q z : Int), k ≤ n ∧ z = (k : Int) - 1 ∧ ax = .int .i64 z ∧ Hid (0 ≤ q ∧ q < itm f k ∧ (∀ j, j < k → dgs f n r j = dgs f k q j ∧ dgs f n (r + 1) j = dgs f k (q + 1) j) ∧ Wrote g 0 n w wr ∧ IBox wr g n (fun j => if j < k then dgs f n r j else dgs f n (r + 1) j))) (fun ax _ => (intOf ax + 1).toNat)
  case atStart => exact ⟨n, r, (n : Int) - 1, Nat.le_refl _, rfl, rfl, H0.out.1, H0.out.2.1, fun _ _ => ⟨rfl, rfl⟩, H0.out.2.2⟩
  case round =>
    obtain ⟨k, q, z, hk, hz, rfl, hrel⟩ := hrel
    obtain ⟨q0, q1, hd, hwr, hbox⟩ := hrel.out
    by_cases hk0 : 0 < k
    · obtain ⟨k, rfl⟩ : ∃ k', k = k' + 1 := ⟨k - 1, by omega⟩
      obtain rfl : z = (k : Int) := by omega
      have hlt : k < n := by omega
      have hfk := HP.out k hlt
      have hfm := HF.out k hlt
      obtain ⟨u1, u2, u3, u4⟩ := quo_lt hfk q0 q1
      obtain ⟨b, off, rfl, hbl, hc0⟩ := H.out.get hlt
      have hne : b ≠ g := by omega
      have hcb := (HB.out.cell (p := ⟨b, off + k, none⟩) hbl).trans hc0
      have hlt0 : b < w.heap.size := Nat.lt_of_lt_of_le hbl HB.out.size
      have hcw := (World.cell?_of_block (w := w) (w' := wr) (a := ⟨b, off + k, none⟩) (hwr.block b hlt0 hne)).trans hcb
      have hcs : ∀ v, (wr.setCell ⟨g, k, none⟩ v).cell? ⟨b, off + k, none⟩ = some (.int .i64 (f k)) := fun v => by rw [World.cell?_setCell_other _ _ _ _ (fun e => by injection e with e; omega)]; exact hcw
      have x1 := hbox.2.2 k hlt
      simp only [show k < k + 1 by omega, if_true] at x1
      rw [(hd k (by omega)).1, dgs_top] at x1
      have x2 := hbox.2.1 k
      have hkn : (0 : Int) ≤ k := by omega
      have hkl : (k : Int) < n := by omega
      have w4 := IntWalk.i64_in ((k : Int) - 1) (by omega)
      have w5 := IntWalk.i64_in (q % f k + 1) (by omega)
      have BX := hbox.set hlt (q % f k + 1)
      have y1 := BX.2.2 k hlt
      simp only [if_true] at y1
      have y2 := BX.2.1 k
      by_cases hov : q % f k + 1 < f k
      · obtain ⟨e1, e2⟩ := next_up hfk hov
        have HE : Hid (∀ m, Wrote g 0 n w ((wr.setCell ⟨g, k, none⟩ (.int .i64 (q % f k + 1))).drewN m) ∧ IBox ((wr.setCell ⟨g, k, none⟩ (.int .i64 (q % f k + 1))).drewN m) g n (dgs f n (r + 1))) := Lib.hid (fun m =>
          ⟨(hwr.setCell (Nat.zero_le k) hlt _).drewN m, (BX.congr (fun j hj => by
            by_cases e : j = k
            · subst e
              rw [if_pos rfl, (hd j (by omega)).2, dgs_top, e1]
            · rw [if_neg e]
              by_cases e3 : j < k
              · rw [if_pos (by omega), (hd j (by omega)).1, (hd j (by omega)).2, dgs_low _ e3, dgs_low _ e3, e2]
              · rw [if_neg (by omega)])).drewN m⟩)
        clear hrel q0 q1 hd hwr hbox u1 u2 u3 u4 e1 e2 BX hcb hc0 hz
        generalize q % f k = v0 at *
        generalize f k = x at *
        go_wp2_with fail
        go_quiet (fail)
        have HEE := Lib.hid (HE.out nq)
        go_wp2
        exact bodyPost_ret (v := .tuple #[]) (by simp [results, Try.results28, go_sem]) rfl ⟨rfl, HEE.out⟩
      · obtain ⟨e1, e2⟩ := next_over hfk (show q % f k + 1 = f k by omega)
        have HN : Hid (∀ m, 0 ≤ q / f k ∧ q / f k < itm f k ∧ (∀ j, j < k → dgs f n r j = dgs f k (q / f k) j ∧ dgs f n (r + 1) j = dgs f k (q / f k + 1) j) ∧ Wrote g 0 n w (((wr.setCell ⟨g, k, none⟩ (.int .i64 (q % f k + 1))).drewN m).setCell ⟨g, k, none⟩ (.int .i64 0)) ∧ IBox (((wr.setCell ⟨g, k, none⟩ (.int .i64 (q % f k + 1))).drewN m).setCell ⟨g, k, none⟩ (.int .i64 0)) g n (fun j => if j < k then dgs f n r j else dgs f n (r + 1) j)) := Lib.hid (fun m =>
          ⟨u1, u2, fun j hj => ⟨by rw [(hd j (by omega)).1, dgs_low _ hj], by rw [(hd j (by omega)).2, dgs_low _ hj, e2]⟩, ((hwr.setCell (Nat.zero_le k) hlt _).drewN m).setCell (Nat.zero_le k) hlt _, ((BX.drewN m).set hlt 0).congr (fun j hj => by
            by_cases e : j = k
            · subst e
              rw [if_pos rfl, if_neg (by omega), (hd j (by omega)).2, dgs_top, e1]
            · rw [if_neg e, if_neg e]
              by_cases e3 : j < k
              · rw [if_pos (by omega), if_pos e3]
              · rw [if_neg (by omega), if_neg e3])⟩)
        clear hrel q0 q1 hd hwr hbox u1 u2 u3 u4 e1 e2 BX hcb hc0 hz
        generalize q / f k = q' at *
        generalize q % f k = v0 at *
        generalize f k = x at *
        go_wp2_with fail
        go_quiet (fail)
        have HNN := Lib.hid (HN.out nq)
        go_wp2
        go_roundw
        case rel => exact ⟨k, q', (k : Int) - 1, by omega, rfl, by go_num, HNN.out⟩
        case measure => simp [intOf]
    · obtain rfl : k = 0 := by omega
      obtain rfl : z = -1 := by omega
      have HE : Hid (Wrote g 0 n w wr ∧ IBox wr g n (dgs f n (r + 1))) := Lib.hid ⟨hwr, hbox.congr (fun j _ => by rw [if_neg (by omega)])⟩
      clear hrel q0 q1 hd hwr hbox hz
      go_wp2
      go_end0
      exact ⟨rfl, HE.out⟩

/-- A row of integers copied whole over a block of its own. -/
theorem wpList_copy_full {w : World} {ops : Array Oper} {rest : List Oper} {o : Oper} {a : Act} {Q : Exit → Act → World → Prop} (hgd : o.guard = none) (d s : Operand) (dT sT : TypeId)
    (ho : o.op = .call { callee := .builtin .copy, args := #[d, s], argTypes := #[dT, sT] }) (elem : TypeId) (hu : Try.prog.underlying dT = some (.slice elem)) (hsz : (Try.prog.info? elem).map (·.size) = some 1)
    (g n c1 gi c2 : Nat) (hd : a.eval d = .slice (some ⟨g, 0, none⟩) n c1) (hs : a.eval s = .slice (some ⟨gi, 0, none⟩) n c2)
    (cur : Array Value) (t : TypeId) (hg : Row w g t cur) (hcur : cur.size = n) (h : Nat → Int) (hsrc : IBox w gi n h)
    (k : ∀ w', Row w' g t (kcs .i64 h n).toArray → Wrote g 0 n w w' → wpList Try.prog ops Q rest (a.put o.dst (goInt n)) w') : wpList Try.prog ops Q (o :: rest) a w := by
  by_cases h0 : n = 0
  · subst h0
    refine wpList_copy_nothing hgd d s dT sT ho elem hu hsz _ _ 0 c1 0 c2 hd hs rfl (k w ?_ (Wrote.refl _ _ _ _))
    have : cur = #[] := Array.eq_empty_of_size_eq_zero hcur
    rw [this] at hg
    exact hg
  · have hl := kcs_length .i64 h n
    refine wpList_copy_own hgd d s dT sT ho elem hu hsz g 0 n c1 ⟨gi, 0, none⟩ n c2 hd hs cur t hg (kcs .i64 h n) (by rw [hl]; exact (Nat.min_self n).symm) (fun j v hj => ?_) (by rw [hl]; omega) (kcs_one .i64 h n) ?_
    · have hj2 : j < n := by
        have := (List.getElem?_eq_some_iff.1 hj).1
        rwa [hl] at this
      rw [kcs_get .i64 h n j hj2] at hj
      obtain rfl := Option.some.inj hj
      rw [show (⟨gi, 0, none⟩ : Addr).add j = ⟨gi, j, none⟩ by unfold Addr.add; split <;> simp_all]
      exact hsrc.2.2 j hj2
    · rw [hl]
      have hrow : Row (w.setRow g (cur.toList.take 0 ++ (kcs .i64 h n ++ cur.toList.drop (0 + n))).toArray) g t (kcs .i64 h n).toArray := by
        have := hg.put (cur.toList.take 0 ++ (kcs .i64 h n ++ cur.toList.drop (0 + n))).toArray
        rw [show (cur.toList.take 0 ++ (kcs .i64 h n ++ cur.toList.drop (0 + n))).toArray = (kcs .i64 h n).toArray by
          rw [List.take_zero, List.nil_append, Nat.zero_add, List.drop_of_length_le (by rw [Array.length_toList]; omega), List.append_nil]] at this ⊢
        exact this
      refine k _ hrow ⟨rfl, rfl, rfl, by simp [World.setRow], fun j hj hne => setRow_other w g j _ hne, fun o ho => ?_, fun o => ?_⟩
      · have ho' : n ≤ o := by omega
        rw [hrow.cell, hg.cell, Array.getElem?_eq_none (by rw [List.size_toArray, hl]; omega), Array.getElem?_eq_none (by omega)]
      · rw [hrow.free, hg.free]
theorem IBox.of_row {w : World} {g n : Nat} {t : TypeId} {h : Nat → Int} (q : Row w g t (kcs .i64 h n).toArray) : IBox w g n h :=
  ⟨q.lt, fun o => q.free o, fun j hj => by rw [q.cell, List.getElem?_toArray]; exact kcs_get .i64 h n j hj⟩

/-- The call of the law's function value: where an element lies. -/
theorem clos_any (g0 : Nat) (a : Option Addr) (n c : Nat) (f : Nat → Int) (a2 : Option Addr) (c2 : Nat) (g : Nat → Int) (w : World) (hs : w.cell? ⟨g0, 0, none⟩ = some (.slice a n c)) (h : KRow w .i64 a n c f) (h2 : KRow w .i64 a2 n c2 g) (hax : axB f n = true) (hin : inB f g n = true) :
    Calls Try.prog 12 #[.slice a2 n c2, .pointer (some ⟨g0, 0, none⟩)] w fun e w' => e = .returned (.int .i64 (plc f g n)) ∧ Below w.heap.size w w' := by
  have RP : Hid (Calls Try.prog 13 #[.slice a n c, .slice a2 n c2] w fun e w' => e = .returned (.int .i64 (plc f g n)) ∧ Below w.heap.size w w') :=
    Lib.hid ((r6Place_any a n c f a2 n c2 g w h h2).mono (by
      rintro e w2 ⟨z, rfl, _, hz2, hb⟩
      rw [Nat.min_self] at hz2
      exact ⟨by rw [hz2 hax hin], hb⟩))
  generalize plc f g n = p at *
  clear h h2 hax hin
  go_enter Try.func12, Try.ntmps12
  go_wp2_with fail
  go_at_call 13
  (with_reducible refine (RP.out).mono ?_)
  rintro e w2 ⟨rfl, hb⟩
  have HB := Lib.hid hb
  clear hb
  go_wp2
  go_ret
  exact ⟨rfl, HB.out⟩

end Go.Proofs.Ytgpcfncolhmgfaa
