/-
  The document's answers (package typeballref03): Zero, Whole, From, Top, Bot, New, by contract.
-/
import Derived.Test.YtocifhahfeajiaaGreatDoorRa7
import Derived.Test.YtocifhahfeajiaaGreatDoorRa11
import Derived.Test.YtocifhahfeajiaaGreatDoorRef11
namespace Go.Proofs.YtocifhahfeajiaaGreatDoor
open Go.RowKit
attribute [local go_sem ↓] Go.wp_at_zero Go.wp_at_succ

def NumTold3 (w w' : World) (e : Ending) (P : Int) (Q : Nat) (ok : Bool) : Prop := e = .returned (.tuple #[.agg #[.bool (rB P), .string (rS P), .string (str (dec Q))], .bool ok]) ∧ Below w.heap.size w w'

theorem dec0 : str (dec 0) = ⟨#[48]⟩ := by rw [dec_small (by omega)]; rfl
theorem dec1 : str (dec 1) = ⟨#[49]⟩ := by rw [dec_small (by omega)]; rfl

set_option maxHeartbeats 1600000 in
set_option maxRecDepth 100000 in
theorem r3Zero_any (w : World) : Calls Tryz.prog 47 #[] w fun e w' => NumTold w w' e 0 1 := by
  have B0 := (Bag.start w).alloc (.cells #[.bool false, .string ⟨#[48]⟩, .string ⟨#[49]⟩] 23)
  have HE : Hid (NumTold w (w.alloc (.cells #[.bool false, .string ⟨#[48]⟩, .string ⟨#[49]⟩] 23)) (.returned (.agg #[.bool false, .string ⟨#[48]⟩, .string ⟨#[49]⟩])) 0 1) := ⟨by rw [show rB 0 = false from rfl, show rS 0 = str (dec 0) from rfl, dec0, dec1], B0.below⟩
  go_enter Tryz.func47, Tryz.ntmps47
  go_wp2
  exact bodyPost_ret (v := .agg #[.bool false, .string ⟨#[48]⟩, .string ⟨#[49]⟩]) (by simp [results, Tryz.results47, go_sem]) rfl HE.out

set_option maxHeartbeats 1600000 in
set_option maxRecDepth 100000 in
theorem r3Whole_any (Z : Int) (w : World) : Calls Tryz.prog 50 #[.agg #[.bool (rB Z), .string (rS Z)]] w fun e w' => NumTold w w' e Z 1 := by
  have B0 := ((Bag.start w).alloc (.cells #[.bool (rB Z), .string (rS Z)] 76)).alloc (.cells #[.bool (rB Z), .string (rS Z), .string ⟨#[49]⟩] 23)
  have HE : Hid (NumTold w ((w.alloc (.cells #[.bool (rB Z), .string (rS Z)] 76)).alloc (.cells #[.bool (rB Z), .string (rS Z), .string ⟨#[49]⟩] 23)) (.returned (.agg #[.bool (rB Z), .string (rS Z), .string ⟨#[49]⟩])) Z 1) := ⟨by rw [dec1], B0.below⟩
  generalize rB Z = b at *
  generalize rS Z = s at *
  clear B0
  go_enter Tryz.func50, Tryz.ntmps50
  go_wp2
  exact bodyPost_ret (v := .agg #[.bool b, .string s, .string ⟨#[49]⟩]) (by simp [results, Tryz.results50, go_sem]) rfl HE.out

set_option maxHeartbeats 1600000 in
set_option maxRecDepth 100000 in
theorem r3Top_any (P : Int) (t : ByteArray) (w : World) (hl : dl P.natAbs ≤ 10000000) : Calls Tryz.prog 103 #[.agg #[.bool (rB P), .string (rS P), .string t]] w fun e w' => RTold w w' e P := by
  have B0 := ((Bag.start w).box3 (.bool (rB P)) (.string (rS P)) (.string t) 23).box2 (.bool false) (.string ⟨#[]⟩) 76
  simp only [World.size_alloc] at B0
  have OF : Hid (∀ wz, Calls Tryz.prog 51 #[.bool (rB P), .string (rS P)] wz fun e w' => RTold wz w' e P) := by
    intro wz
    have h1 := rOf_dec (rB P) P.natAbs wz hl
    rw [show sgn (rB P) P.natAbs = P from sgn_self P] at h1
    exact h1
  have BB := Lib.hid B0
  have HF := Lib.hid (fun w2 b s (hb : Below w.heap.size w w2) (h1 : rB P = b) (h2 : rS P = s) => RTold.fin (Y := P) hb (show w.heap.size ≤ w.heap.size + 1 by omega) h1 h2)
  obtain ⟨b, hb⟩ : ∃ b, rB P = b := ⟨_, rfl⟩
  obtain ⟨s, hs⟩ : ∃ s, rS P = s := ⟨_, rfl⟩
  have HB := Lib.hid hb
  have HS2 := Lib.hid hs
  unfold RTold at OF
  rw [hb, hs] at OF BB
  rw [hb, hs]
  clear B0 hl hb hs
  go_enter Tryz.func103, Tryz.ntmps103
  go_wp2_with fail
  go_at_call 51
  (with_reducible refine (OF.out _).mono ?_)
  rintro e w2 ⟨rfl, hb2⟩
  have BB := Lib.hid (BB.out.go hb2)
  have hs2 := BB.out.now.1
  have hc1 := hs2.cell
  have hc2 := hs2.cell1
  have hf1 := hs2.free
  have hf2 := hs2.free1
  have HS := hs2.set (.bool b) (.string s)
  have HE := Lib.hid (HF.out w2 b s BB.out.below HB.out HS2.out)
  unfold put2 at HE
  clear hb2 hs2
  go_wp2
  exact bodyPost_ret (v := .agg #[.bool b, .string s]) (by simp [results, Tryz.results103, go_sem, HS]) rfl HE.out

end Go.Proofs.YtocifhahfeajiaaGreatDoor
