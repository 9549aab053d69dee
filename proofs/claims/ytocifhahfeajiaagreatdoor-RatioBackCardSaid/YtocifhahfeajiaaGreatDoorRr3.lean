/-
  The document's answers (package typeballref03): From, Minus, Limited, Limbs, Int, by contract.
-/
import Derived.Test.YtocifhahfeajiaaGreatDoorRr1
import Derived.Test.YtocifhahfeajiaaGreatDoorK9
import Derived.Test.YtocifhahfeajiaaGreatDoorK10
namespace Go.Proofs.YtocifhahfeajiaaGreatDoor
open Go.RowKit
attribute [local go_sem ↓] Go.wp_at_zero Go.wp_at_succ

theorem dec_is1 (N : Nat) : ((str (dec N)).toList == [49]) = decide (N = 1) := dec_eq_digit N 1 (by omega)
theorem dec_is0' (N : Nat) : ((str (dec N)).toList == [48]) = decide (N = 0) := dec_eq_digit N 0 (by omega)

set_option maxHeartbeats 1600000 in
set_option maxRecDepth 100000 in
theorem r3From_any (X : Int) (w : World) (h : -9223372036854775808 ≤ X ∧ X ≤ 9223372036854775807) : Calls Tryz.prog 101 #[.int .i64 X] w fun e w' => NumTold w w' e X 1 := by
  have FR := Lib.hid (fun wz => rFrom_any X wz h)
  unfold RTold at FR
  have BB := Lib.hid ((Bag.start w).box3 (.bool false) (.string ⟨#[]⟩) (.string ⟨#[]⟩) 23)
  have HF := Lib.hid (fun w2 b x y (hb : Below w.heap.size w w2) (h1 : rB X = b) (h2 : rS X = x) (h3 : str (dec 1) = y) => NumTold.done (k := w.heap.size) X 1 hb (Nat.le_refl _) h1 h2 h3)
  obtain ⟨b, hb⟩ : ∃ b, rB X = b := ⟨_, rfl⟩
  obtain ⟨s, hs⟩ : ∃ s, rS X = s := ⟨_, rfl⟩
  have HB := Lib.hid hb
  have HS2 := Lib.hid hs
  rw [hb, hs] at FR
  clear hb hs h
  go_enter Tryz.func101, Tryz.ntmps101
  go_wp2_with fail
  go_at_call 62
  (with_reducible refine (FR.out _).mono ?_)
  rintro e w2 ⟨rfl, hb2⟩
  have BB := Lib.hid ((BB.out.go hb2).box2 (.bool b) (.string s) 76)
  have q0 := BB.out.now.1.cell
  have q1 := BB.out.now.1.cell1
  have hs := BB.out.now.2.1
  have u0 := hs.cell
  have u1 := hs.cell1
  have u2 := hs.cell2
  have g0 := hs.free
  have g1 := hs.free1
  have g2 := hs.free2
  have HS := hs.set (.bool b) (.string s) (.string ⟨#[49]⟩)
  have HE := Lib.hid (HF.out _ b s ⟨#[49]⟩ BB.out.below HB.out HS2.out dec1)
  clear hs hb2
  go_wp2
  exact bodyPost_ret (v := .agg #[.bool b, .string s, .string ⟨#[49]⟩]) (by simp [results, Tryz.results101, go_sem, HS]) rfl HE.out

end Go.Proofs.YtocifhahfeajiaaGreatDoor
