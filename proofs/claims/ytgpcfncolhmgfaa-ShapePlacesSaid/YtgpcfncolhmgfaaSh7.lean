/-
  The law of layer 7: the chapter's examples, by contract.
-/
import Derived.Test.YtgpcfncolhmgfaaSh6
namespace Go.Proofs.Ytgpcfncolhmgfaa
open Go.RowKit

def l2 (x y : Int) : Nat → Int := fun j => if j = 0 then x else y
theorem KRow.lit2 {w : World} {g : Nat} {t : TypeId} {x y : Int} (h : Row w g t #[.int .i64 x, .int .i64 y]) : KRow w .i64 (some ⟨g, 0, none⟩) 2 2 (l2 x y) := by
  refine ⟨Nat.le_refl _, by unfold maxLen; omega, .inr ⟨g, 0, rfl, h.lt, fun j hj => ?_⟩⟩
  have : j = 0 ∨ j = 1 := by omega
  rcases this with rfl | rfl
  · exact h.cell 0
  · exact h.cell 1
theorem in64_l2 {x y : Int} (hx : -9223372036854775808 ≤ x ∧ x ≤ 9223372036854775807) (hy : -9223372036854775808 ≤ y ∧ y ≤ 9223372036854775807) : In64 (l2 x y) 2 := fun j _ => by
  unfold l2
  split
  · exact hx
  · exact hy

set_option maxHeartbeats 1600000 in
set_option maxRecDepth 100000 in
theorem awake7_any (w : World) : Calls Try.prog 6 #[] w fun e w' => e = .returned (.bool true) ∧ Below w.heap.size w w' := by
  have PL : Hid (∀ wz a1 c1 a2 c2, KRow wz .i64 a1 2 c1 (l2 2 3) → KRow wz .i64 a2 2 c2 (l2 1 2) → Calls Try.prog 17 #[.slice a1 2 c1, .slice a2 2 c2] wz fun e w' => e = .returned (.tuple #[.int .i64 5, .bool true]) ∧ Below wz.heap.size wz w') :=
    Lib.hid (fun wz a1 c1 a2 c2 h1 h2 => (place_any a1 2 c1 _ a2 2 c2 _ wz h1 (in64_l2 (by omega) (by omega)) h2 (in64_l2 (by omega) (by omega))).mono (by
      rintro e w' ⟨rfl, hb⟩
      exact ⟨by rw [show plI (l2 2 3) 2 (l2 1 2) 2 = 5 by decide, show plB (l2 2 3) 2 (l2 1 2) 2 = true by decide], hb⟩))
  have SP : Hid (∀ wz a1 c1, KRow wz .i64 a1 2 c1 (l2 2 3) → Calls Try.prog 19 #[.slice a1 2 c1, .int .i64 0] wz fun e w' => e = .returned (.tuple #[.int .i64 1, .int .i64 2, .int .i64 3, .bool true]) ∧ Below wz.heap.size wz w') :=
    Lib.hid (fun wz a1 c1 h1 => (split_any a1 2 c1 _ 0 wz h1 (in64_l2 (by omega) (by omega))).mono (by
      rintro e w' ⟨rfl, hb⟩
      rw [show spB (l2 2 3) 2 0 = true by decide]
      exact ⟨rfl, hb⟩))
  have ST : Hid (∀ wz a1 c1, KRow wz .i64 a1 2 c1 (l2 2 3) → Calls Try.prog 15 #[.slice a1 2 c1] wz fun e w' => (∃ a c, e = .returned (.slice a 2 c) ∧ KRow w' .i64 a 2 c (l2 3 1)) ∧ Below wz.heap.size wz w') :=
    Lib.hid (fun wz a1 c1 h1 => (strides_any a1 2 c1 _ wz h1 (in64_l2 (by omega) (by omega))).mono (by
      rintro e w' ⟨a, m, c, rfl, hk, hb⟩
      rw [show shB (l2 2 3) 2 = true by decide, if_pos rfl] at hk
      obtain ⟨rfl, hk⟩ := hk
      exact ⟨⟨a, c, rfl, hk.congr (fun j hj => by
        have : j = 0 ∨ j = 1 := by omega
        rcases this with rfl | rfl <;> decide)⟩, hb⟩))
  have SM : Hid (∀ wz a1 c1 a2 c2, KRow wz .i64 a1 2 c1 (l2 3 1) → KRow wz .i64 a2 2 c2 (l2 3 1) → Calls Try.prog 14 #[.slice a1 2 c1, .slice a2 2 c2] wz fun e w' => e = .returned (.bool true) ∧ Below wz.heap.size wz w') :=
    Lib.hid (fun wz a1 c1 a2 c2 h1 h2 => (r6Same_any a1 2 c1 _ a2 2 c2 _ wz h1 h2).mono (by
      rintro e w' ⟨rfl, hb⟩
      rw [show (decide ((2 : Nat) = 2) && sameB (l2 3 1) (l2 3 1) 2) = true by decide]
      exact ⟨rfl, hb⟩))
  have BB := Lib.hid (((Bag.start w).newRow #[.int .i64 2, .int .i64 3] 3).newRow #[.int .i64 1, .int .i64 2] 3)
  go_enter Try.func6, Try.ntmps6
  go_wp2_with fail
  go_at_call 17
  (with_reducible refine (PL.out _ _ _ _ _ ?_ ?_).mono ?_)
  · exact KRow.lit2 BB.out.now.2.1
  · have := BB.out.now.1
    rw [World.size_alloc] at this
    exact KRow.lit2 this
  rintro e w1 ⟨rfl, hb1⟩
  have BB := Lib.hid ((BB.out.go hb1).newRow #[.int .i64 2, .int .i64 3] 3)
  clear hb1
  go_wp2_with fail
  go_at_call 19
  (with_reducible refine (SP.out _ _ _ ?_).mono ?_)
  · exact KRow.lit2 BB.out.now.1
  rintro e w2 ⟨rfl, hb2⟩
  have BB := Lib.hid ((BB.out.go hb2).newRow #[.int .i64 2, .int .i64 3] 3)
  clear hb2
  go_wp2_with fail
  go_at_call 15
  (with_reducible refine (ST.out _ _ _ ?_).mono ?_)
  · exact KRow.lit2 BB.out.now.1
  rintro e w3 ⟨⟨a3, c3, rfl, hk3⟩, hb3⟩
  have BB := Lib.hid (((BB.out.go hb3).krow hk3).newRow #[.int .i64 3, .int .i64 1] 3)
  clear hb3 hk3
  go_wp2_with fail
  go_at_call 14
  (with_reducible refine (SM.out _ _ _ _ _ ?_ ?_).mono ?_)
  · exact BB.out.now.2.1
  · exact KRow.lit2 BB.out.now.1
  rintro e w4 ⟨rfl, hb4⟩
  have HE := Lib.hid (BB.out.go hb4).below
  clear hb4
  go_wp2
  go_ret
  exact ⟨rfl, HE.out⟩

end Go.Proofs.Ytgpcfncolhmgfaa
