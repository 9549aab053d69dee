/-
  Package shape and the document's layer 7: products of a shape's numbers; has, product, Product, by contract.
-/
import Derived.Test.YtgpcfncolhmgfaaIs0
namespace Go.Proofs.Ytgpcfncolhmgfaa
open Go.RowKit

/-- A row from a place on. -/
def shf (f : Nat → Int) (p : Nat) : Nat → Int := fun j => f (p + j)
theorem rm_pos (f : Nat → Int) : ∀ k, 1 ≤ rm f k
  | 0 => by show (1 : Int) ≤ 1; omega
  | k + 1 => by
    have h := rm_pos f k
    have e : 1 * 1 ≤ rm f k * max (f k) 1 := Int.mul_le_mul h (by omega) (by omega) (by omega)
    show 1 ≤ rm f k * max (f k) 1
    omega
theorem rm_add (f : Nat → Int) (p : Nat) : ∀ k, rm f (p + k) = rm f p * rm (shf f p) k
  | 0 => by show rm f p = rm f p * 1; omega
  | k + 1 => by
    show rm f (p + k) * max (f (p + k)) 1 = rm f p * (rm (shf f p) k * max (f (p + k)) 1)
    rw [rm_add f p k, Int.mul_assoc]
theorem itm_add (f : Nat → Int) (p : Nat) : ∀ k, itm f (p + k) = itm f p * itm (shf f p) k
  | 0 => by show itm f p = itm f p * 1; omega
  | k + 1 => by
    show itm f (p + k) * f (p + k) = itm f p * (itm (shf f p) k * f (p + k))
    rw [itm_add f p k, Int.mul_assoc]
theorem ax_nn {f : Nat → Int} {n j : Nat} (h : axB f n = true) (hj : j < n) : 0 ≤ f j := by
  have h1 := ax_le (show j + 1 ≤ n by omega) h
  unfold axB at h1
  rw [Bool.and_eq_true, Bool.and_eq_true, decide_eq_true_eq] at h1
  exact h1.2.1
/-- The axes from a place on are those of a shape, too. -/
theorem ax_shf {f : Nat → Int} {n : Nat} (p : Nat) (h : axB f n = true) : ∀ k, p + k ≤ n → axB (shf f p) k = true
  | 0, _ => rfl
  | k + 1, hk => by
    have h1 := ax_shf p h k (by omega)
    have h2 := ax_bd (ax_le hk h)
    have h3 := rm_pos f p
    have h4 := rm_pos (shf f p) (k + 1)
    have h0 := ax_nn h (show p + k < n by omega)
    rw [rm_add f p (k + 1)] at h2
    have h5 : 1 * rm (shf f p) (k + 1) ≤ rm f p * rm (shf f p) (k + 1) := Int.mul_le_mul h3 (Int.le_refl _) (by omega) (by omega)
    unfold axB
    rw [h1, decide_eq_true (show 0 ≤ shf f p k from h0), decide_eq_true (show rm (shf f p) (k + 1) ≤ 4096 by omega)]
    rfl
theorem sh_ax {f : Nat → Int} {n : Nat} (h : shB f n = true) : n ≤ 8 ∧ axB f n = true := by
  unfold shB at h
  rw [Bool.and_eq_true, decide_eq_true_eq] at h
  exact h
theorem KRow.take {w : World} {ki : IntKind} {a : Option Addr} {n c : Nat} {f : Nat → Int} (h : KRow w ki a n c f) {k : Nat} (hk : k ≤ n) : KRow w ki a k c f := by
  obtain ⟨h1, h2, h3⟩ := h
  refine ⟨by omega, h2, ?_⟩
  rcases h3 with h3 | ⟨b, off, e, hb, hc⟩
  · exact .inl (by omega)
  · exact .inr ⟨b, off, e, hb, fun j hj => hc j (by omega)⟩
theorem KRow.from {w : World} {ki : IntKind} {b off : Nat} {n c : Nat} {f : Nat → Int} (h : KRow w ki (some ⟨b, off, none⟩) n c f) {p : Nat} (hp : p ≤ n) : KRow w ki (some ⟨b, off + p, none⟩) (n - p) (c - p) (shf f p) := by
  obtain ⟨h1, h2, h3⟩ := h
  refine ⟨by omega, by omega, ?_⟩
  rcases h3 with h3 | ⟨b', off', e, hb, hc⟩
  · exact .inl (by omega)
  · cases e
    exact .inr ⟨b, off + p, rfl, hb, fun j hj => by rw [Nat.add_assoc]; exact hc (p + j) (by omega)⟩

set_option maxHeartbeats 800000 in
theorem has_any (a : Option Addr) (n c : Nat) (i : Int) (w : World) :
    Calls Try.prog 29 #[.slice a n c, .int .i64 i] w fun e w' => e = .returned (.bool (decide (0 ≤ i) && decide (i < n))) ∧ w = w' := by
  by_cases h0 : 0 ≤ i
  · rw [decide_eq_true h0, Bool.true_and]
    go_enter Try.func29, Try.ntmps29
    go_wp2
    go_ret
    exact ⟨rfl, rfl⟩
  · rw [decide_eq_false h0, Bool.false_and]
    go_enter Try.func29, Try.ntmps29
    go_wp2
    go_ret
    exact ⟨rfl, rfl⟩

set_option maxHeartbeats 1600000 in
set_option maxRecDepth 100000 in
theorem product_any (a : Option Addr) (n c : Nat) (f : Nat → Int) (w : World) (h : KRow w .i64 a n c f) (hx : axB f n = true) :
    Calls Try.prog 30 #[.slice a n c] w fun e w' => e = .returned (.int .i64 (itm f n)) ∧ w = w' := by
  have hl := h.len
  have H := Lib.hid h
  have HX := Lib.hid hx
  clear h hx
  go_enter Try.func30, Try.ntmps30
  go_wp2
  go_loop [3, 8] (fun t i => ∃ k : Nat, k ≤ n ∧ i = .int .i64 k ∧ t = .int .i64 (itm f k)) (fun _ i => n - (intOf i).toNat)
  case atStart => exact ⟨0, by omega, rfl, rfl⟩
  case round =>
    obtain ⟨k, hk, rfl, rfl⟩ := hrel
    by_cases hlt : k < n
    · obtain ⟨b, off, rfl, hb, hc⟩ := H.out.get hlt
      obtain ⟨_, _, t1, t2⟩ := ax_bd (ax_le (show k + 1 ≤ n by omega) HX.out)
      obtain ⟨_, r2, _, _⟩ := ax_bd (ax_le (show k + 1 ≤ n by omega) HX.out)
      have e2 : itm f (k + 1) = itm f k * f k := rfl
      rw [e2] at t1 t2
      have E2 := Lib.hid e2
      have w2 := IntWalk.i64_in (itm f k * f k) (by omega)
      clear e2 t1 t2 r2
      generalize f k = x at *
      generalize itm f k = t at *
      go_wp2
      go_round
      case rel => exact ⟨k + 1, by omega, by go_num, vint E2.out.symm⟩
      case measure => simp [intOf]; omega
    · obtain rfl : k = n := by omega
      go_wp2
      go_ret
      exact ⟨rfl, rfl⟩

set_option maxHeartbeats 1600000 in
set_option maxRecDepth 100000 in
theorem r7Product_any (a : Option Addr) (n c : Nat) (f : Nat → Int) (w : World) (h : KRow w .i64 a n c f) (hx : axB f n = true) :
    Calls Try.prog 26 #[.slice a n c] w fun e w' => e = .returned (.int .i64 (itm f n)) ∧ w = w' := by
  have hl := h.len
  have H := Lib.hid h
  have HX := Lib.hid hx
  clear h hx
  go_enter Try.func26, Try.ntmps26
  go_wp2
  go_loop [3, 4] (fun t i => ∃ k : Nat, k ≤ n ∧ i = .int .i64 k ∧ t = .int .i64 (itm f k)) (fun _ i => n - (intOf i).toNat)
  case atStart => exact ⟨0, by omega, rfl, rfl⟩
  case round =>
    obtain ⟨k, hk, rfl, rfl⟩ := hrel
    by_cases hlt : k < n
    · obtain ⟨b, off, rfl, hb, hc⟩ := H.out.get hlt
      obtain ⟨_, _, t1, t2⟩ := ax_bd (ax_le (show k + 1 ≤ n by omega) HX.out)
      obtain ⟨_, r2, _, _⟩ := ax_bd (ax_le (show k + 1 ≤ n by omega) HX.out)
      have e2 : itm f (k + 1) = itm f k * f k := rfl
      rw [e2] at t1 t2
      have E2 := Lib.hid e2
      have w2 := IntWalk.i64_in (itm f k * f k) (by omega)
      clear e2 t1 t2 r2
      generalize f k = x at *
      generalize itm f k = t at *
      go_wp2
      go_round
      case rel => exact ⟨k + 1, by omega, by go_num, vint E2.out.symm⟩
      case measure => simp [intOf]; omega
    · obtain rfl : k = n := by omega
      go_wp2
      go_ret
      exact ⟨rfl, rfl⟩

end Go.Proofs.Ytgpcfncolhmgfaa
