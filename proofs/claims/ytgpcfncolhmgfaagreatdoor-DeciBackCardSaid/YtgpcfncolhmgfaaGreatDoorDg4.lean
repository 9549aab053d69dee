/-
  Package deci: Read, by contract.
-/
import Derived.Test.YtgpcfncolhmgfaaGreatDoorDg2
import Derived.Test.YtgpcfncolhmgfaaGreatDoorDg3
namespace Go.Proofs.YtgpcfncolhmgfaaGreatDoor
open Go.RowKit
attribute [local go_sem ↓] Go.wp_at_zero Go.wp_at_succ

theorem mL_dig {f : Nat → Int} {n p : Nat} : ∀ x ∈ mL f n p, 48 ≤ x.toNat ∧ x.toNat ≤ 57 := by
  intro x hx
  unfold mL mB mA at hx
  rcases List.mem_append.1 hx with h | h
  · exact dtx_dig (dgc_all f _ _) h
  · split at h
    · exact dtx_dig (dgc_all f _ _) h
    · exact absurd h (by simp [dtx])
theorem mL_len (f : Nat → Int) (n p : Nat) : (mL f n p).length = mA f n p + mB f n p := by unfold mL; rw [List.length_append, dtx_length, dtx_length]
theorem mK_bds {f : Nat → Int} {n p : Nat} (h : mK f n p = true) : 0 < mA f n p + mB f n p ∧ mA f n p + mB f n p ≤ 200 := by
  unfold mK at h
  simp only [Bool.and_eq_true, decide_eq_true_eq] at h
  exact h.2
theorem eV_bds {f : Nat → Int} {n p : Nat} (h : eK f n p = true) : eV f n p ≤ 999 ∧ -999 ≤ eV f n p := by
  unfold eV
  cases hy : eY f n p with
  | false => simp
  | true =>
    unfold eK at h
    rw [hy] at h
    simp only [Bool.not_true, Bool.false_or, Bool.and_eq_true, decide_eq_true_eq] at h
    have hd : ∀ x ∈ dtx f (eS f n p) (eM f n p), 48 ≤ x.toNat ∧ x.toNat ≤ 57 := fun x hx => dtx_dig (dgc_all f _ _) hx
    have hlt := numOf_lt _ hd
    rw [dtx_length] at hlt
    have h1000 : (10 : Nat) ^ eM f n p ≤ 10 ^ 3 := Nat.pow_le_pow_right (by omega) h.2
    simp only [if_true]
    split <;> omega

/-- What is read: the sign, where the digits begin, whether all is as it must be, the number, the place after it. -/
def gS (f : Nat → Int) (n p : Nat) : Bool := skB f n p 175
def gP (f : Nat → Int) (n p : Nat) : Nat := if gS f n p then p + 1 else p
def gK (f : Nat → Int) (n p : Nat) : Bool := mK f n (gP f n p) && eK f n (mE f n (gP f n p))
def gX (f : Nat → Int) (n p : Nat) : Int := eV f n (mE f n (gP f n p)) - (mB f n (gP f n p) : Nat)
def gT (f : Nat → Int) (n p : Nat) : Int := vlT (gS f n p) (mL f n (gP f n p)) (gX f n p)
def gB (f : Nat → Int) (n p : Nat) : Int := vlB (gX f n p)
def gE (f : Nat → Int) (n p : Nat) : Nat := eE f n (mE f n (gP f n p))

def RdTold (w w' : World) (e : Ending) (P : Int) (Q : Nat) (nx : Nat) (ok : Bool) : Prop := ∃ a n c m a2 n2 c2, e = .returned (.tuple #[.agg #[.slice a n c, .bool m, .slice a2 n2 c2], .int .i64 (nx : Nat), .bool ok]) ∧ RatAt w' a n c m a2 n2 c2 P Q ∧ Below w.heap.size w w'
theorem RdTold.done {w w2 : World} {k : Nat} {a0 : Option Addr} {n0 c0 : Nat} {m0 : Bool} {a1 : Option Addr} {n1 c1 : Nat} {a : Option Addr} {n c : Nat} {m : Bool} {a2 : Option Addr} {n2 c2 : Nat} {P : Int} {Q : Nat} (nx : Nat) (ok : Bool) (hb : Below w.heap.size w w2) (hk : w.heap.size ≤ k)
    (hs : Slot3 w2 k (.slice a0 n0 c0) (.bool m0) (.slice a1 n1 c1)) (h : RatAt w2 a n c m a2 n2 c2 P Q) :
    RdTold w (((w2.setCell ⟨k, 0, none⟩ (.slice a n c)).setCell ⟨k, 1, none⟩ (.bool m)).setCell ⟨k, 2, none⟩ (.slice a2 n2 c2)) (.returned (.tuple #[.agg #[.slice a n c, .bool m, .slice a2 n2 c2], .int .i64 (nx : Nat), .bool ok])) P Q nx ok :=
  ⟨a, n, c, m, a2, n2, c2, rfl, h.set3 hs _ _ _, ((hb.setCell (p := ⟨k, 0, none⟩) hk _).setCell (p := ⟨k, 1, none⟩) hk _).setCell (p := ⟨k, 2, none⟩) hk _⟩

theorem Slot3.away {w w' : World} {j k : Nat} {x y z : Value} (h : Slot3 w j x y z) (hk : j ≠ k) (g : Far k w w') : Slot3 w' j x y z := by
  have hb := g.block j hk h.lt
  have hfz : ∀ o, w'.frozen? ⟨j, o, none⟩ = w.frozen? ⟨j, o, none⟩ := fun o => by unfold World.frozen?; rw [hb]
  exact ⟨(g.cell (a := ⟨j, 0, none⟩) hk h.lt).trans h.cell, (g.cell (a := ⟨j, 1, none⟩) hk h.lt).trans h.cell1, (g.cell (a := ⟨j, 2, none⟩) hk h.lt).trans h.cell2, (hfz _).trans h.free, (hfz _).trans h.free1, (hfz _).trans h.free2, Nat.lt_of_lt_of_le h.lt g.size⟩

/-- Read's own state: its result's block, its reader. -/
def RDS (w : World) (a : Option Addr) (n c : Nat) (f : Nat → Int) (y : World) (p : Nat) : Prop :=
  Below w.heap.size w y ∧ Slot3 y w.heap.size (.slice none 0 0) (.bool false) (.slice none 0 0) ∧ RdrAt y (w.heap.size + 1) a n c f p
theorem RDS.away {w : World} {a : Option Addr} {n c : Nat} {f : Nat → Int} {y y' : World} {p p' : Nat} (h : RDS w a n c f y p) (hr : RdrAt y' (w.heap.size + 1) a n c f p') (g : Away (w.heap.size + 1) y y') : RDS w a n c f y' p' :=
  ⟨Away.below h.1 g (by omega) h.1.size, h.2.1.away (by omega) g.far, hr⟩
theorem RDS.drewN {w : World} {a : Option Addr} {n c : Nat} {f : Nat → Int} {y : World} {p : Nat} (h : RDS w a n c f y p) (q : Nat) : RDS w a n c f (y.drewN q) p := h.away (h.2.2.drewN q) (Away.drewN _ _ _)

theorem keepAt {w : World} {j : Nat} {t : TypeId} {x y : Value} {a b c : Value} (h : Row w (j + 1) t #[x, y]) : (((w.setCell ⟨j, 0, none⟩ a).setCell ⟨j, 1, none⟩ b).setCell ⟨j, 2, none⟩ c).cell? ⟨j + 1, 1, none⟩ = some y := by
  rw [World.cell?_setCell_other _ _ _ _ (fun e => by injection e; omega), World.cell?_setCell_other _ _ _ _ (fun e => by injection e; omega), World.cell?_setCell_other _ _ _ _ (fun e => by injection e; omega)]
  exact h.cell 1

set_option maxHeartbeats 6400000 in
set_option maxRecDepth 100000 in
theorem deRead_any (a : Option Addr) (n c : Nat) (f : Nat → Int) (i : Int) (w : World) (h : KRow w .i32 a n c f) (hi : -9223372036854775808 ≤ i ∧ i ≤ 9223372036854775807) :
    Calls Tryz.prog 6 #[.slice a n c, .int .i64 i] w fun e w' =>
      RdTold w w' e (if (bgB f n i && gK f n i.toNat) = true then nwP (gT f n i.toNat) (gB f n i.toNat) else 0) (if (bgB f n i && gK f n i.toNat) = true then nwQ (gT f n i.toNat) (gB f n i.toNat) else 1) (if (bgB f n i && gK f n i.toNat) = true then gE f n i.toNat else 0) (bgB f n i && gK f n i.toNat) := by
  have BG := Lib.hid (fun wz hz => begins_any a n c f i wz hz hi)
  have B0 := (Bag.start w).box3 (.slice none 0 0) (.bool false) (.slice none 0 0) 30
  have HK := Lib.hid h
  cases hbg : bgB f n i with
  | false =>
    rw [hbg] at BG
    simp only [Bool.false_and, Bool.false_eq_true, if_false]
    have hs := B0.now.1
    have r0 := hs.cell
    have r1 := hs.cell1
    have r2 := hs.cell2
    have g0 := hs.free
    have g1 := hs.free1
    have g2 := hs.free2
    have HE : Hid (RdTold w (w.alloc (.cells #[.slice none 0 0, .bool false, .slice none 0 0] 30)) _ 0 1 0 false) := Lib.hid ⟨none, 0, 0, false, none, 0, 0, rfl, RatAt.zero _, B0.below⟩
    have HKA := Lib.hid (h.below ((Below.refl w.heap.size w).alloc (Nat.le_refl _) (.cells #[.slice none 0 0, .bool false, .slice none 0 0] 30)))
    clear B0 hs h hbg
    go_enter Tryz.func6, Tryz.ntmps6
    go_wp2_with fail
    go_at_call 8
    refine (BG.out _ HKA.out).mono ?_
    rintro e w2 ⟨rfl, rfl⟩
    go_wp2
    exact bodyPost_ret (v := .tuple #[.agg #[.slice none 0 0, .bool false, .slice none 0 0], .int .i64 0, .bool false]) (by simp [results, Tryz.results6, go_sem]) rfl HE.out
  | true =>
    obtain ⟨p, rfl, hpn⟩ : ∃ p : Nat, i = (p : Int) ∧ p < n := by
      unfold bgB at hbg
      split at hbg
      · rename_i hr; exact ⟨i.toNat, by omega, by omega⟩
      · cases hbg
    rw [hbg] at BG
    simp only [Bool.true_and, Int.toNat_natCast]
    have hl := h.len
    have HKA := Lib.hid (h.below ((Below.refl w.heap.size w).alloc (Nat.le_refl _) (.cells #[.slice none 0 0, .bool false, .slice none 0 0] 30)))
    have hap : ∀ x, a = some x → x.block ≠ w.heap.size + 1 := by
      intro x hx
      obtain ⟨b, off, rfl, hb, _⟩ := h.get hpn
      cases hx
      show b ≠ _
      omega
    have B1 := B0.alloc (.cells #[.slice a n c, .int .i64 p] 45)
    have hk := h.below B1.below
    have hrow := Row.new (w.alloc (.cells #[.slice none 0 0, .bool false, .slice none 0 0] 30)) 45 #[.slice a n c, .int .i64 p]
    rw [World.size_alloc] at hrow
    have R0 : Hid (RDS w a n c f ((w.alloc (.cells #[.slice none 0 0, .bool false, .slice none 0 0] 30)).alloc (.cells #[.slice a n c, .int .i64 p] 45)) p) := Lib.hid ⟨B1.below, B1.now.1, hrow, hk, by omega, by omega, hap⟩
    clear B0 B1 hk hap h hrow
    unfold gK
    have SK := Lib.hid (fun wz hz => skip_any (w.heap.size + 1) a n c f p 175 wz hz)
    have MT := Lib.hid (fun wz hz => mantissa_any (w.heap.size + 1) a n c f (gP f n p) wz hz)
    have EX := Lib.hid (fun wz hz => exponent_any (w.heap.size + 1) a n c f (mE f n (gP f n p)) wz hz)
    rw [show (if skB f n p 175 = true then p + 1 else p) = gP f n p from rfl, show skB f n p 175 = gS f n p from rfl] at SK
    unfold MantTold at MT
    unfold ExpTold at EX
    have hmk := fun h => mK_bds (f := f) (n := n) (p := gP f n p) h
    have hml := mL_len f n (gP f n p)
    have hev := fun h => eV_bds (f := f) (n := n) (p := mE f n (gP f n p)) h
    have VL : Hid (mK f n (gP f n p) = true → eK f n (mE f n (gP f n p)) = true → ∀ wz, Calls Tryz.prog 19 #[.bool (gS f n p), .string (str (mL f n (gP f n p))), .int .i64 (eV f n (mE f n (gP f n p)) - (mB f n (gP f n p) : Nat))] wz fun x w' => RatTold wz w' x (nwP (gT f n p) (gB f n p)) (nwQ (gT f n p) (gB f n p))) :=
      Lib.hid (fun h1 h2 wz => valueOf_any (gS f n p) (mL f n (gP f n p)) (gX f n p) wz (by have := hmk h1; omega) (by have := hmk h1; omega) mL_dig (by have := hmk h1; have := hev h2; unfold gX; omega))
    unfold RatTold at VL
    have hge : gE f n p = eE f n (mE f n (gP f n p)) := rfl
    rw [hge]
    have hmb : mK f n (gP f n p) = true → mB f n (gP f n p) ≤ 200 := fun h => by have := hmk h; omega
    clear hmk hml hge
    generalize eE f n (mE f n (gP f n p)) = e2 at *
    generalize eV f n (mE f n (gP f n p)) = V at *
    generalize nwP (gT f n p) (gB f n p) = P at *
    generalize nwQ (gT f n p) (gB f n p) = Q at *
    generalize mB f n (gP f n p) = N at *
    generalize mL f n (gP f n p) = L at *
    generalize str L = S at *
    generalize eK f n (mE f n (gP f n p)) = K2 at *
    generalize mE f n (gP f n p) = e1 at *
    generalize mK f n (gP f n p) = K1 at *
    generalize gP f n p = p1 at *
    generalize gS f n p = sg at *
    clear hbg hpn
    go_enter Tryz.func6, Tryz.ntmps6
    go_wp2_with fail
    go_at_call 8
    refine (BG.out _ HKA.out).mono ?_
    rintro e w2 ⟨rfl, rfl⟩
    go_wp2_with fail
    go_at_call 16
    refine (SK.out _ R0.out.2.2).mono ?_
    rintro e w3 ⟨rfl, hr3, haw3⟩
    have R3 := Lib.hid (R0.out.away hr3 haw3)
    clear hr3 haw3
    go_wp2_with fail
    go_at_call 17
    refine (MT.out _ R3.out.2.2).mono ?_
    rintro e w4 ⟨s4, n4, rfl, hk4, hr4, haw4⟩
    have R4 := Lib.hid (R3.out.away hr4 haw4)
    clear hr4 haw4
    go_wp2_with fail
    go_at_call 18
    refine (EX.out _ R4.out.2.2).mono ?_
    rintro e w5 ⟨v5, rfl, hv5, hr5, haw5⟩
    have R5 := Lib.hid (R4.out.away hr5 haw5)
    clear hr5 haw5
    have hs := R5.out.2.1
    have r0 := hs.cell
    have r1 := hs.cell1
    have r2 := hs.cell2
    have g0 := hs.free
    have g1 := hs.free1
    have g2 := hs.free2
    have HS := hs.set (.slice none 0 0) (.bool false) (.slice none 0 0)
    have HE := Lib.hid (RdTold.done 0 false R5.out.1 (Nat.le_refl _) hs (RatAt.zero w5))
    clear hs
    cases K1 with
    | false =>
      clear hk4 hv5 VL hev hmb
      go_wp2
      exact bodyPost_ret (v := .tuple #[.agg #[.slice none 0 0, .bool false, .slice none 0 0], .int .i64 0, .bool false]) (by simp [results, Tryz.results6, go_sem, HS]) rfl HE.out
    | true =>
      obtain ⟨rfl, rfl⟩ := hk4 rfl
      cases K2 with
      | false =>
        clear hk4 hv5 VL hev hmb
        go_wp2
        exact bodyPost_ret (v := .tuple #[.agg #[.slice none 0 0, .bool false, .slice none 0 0], .int .i64 0, .bool false]) (by simp [results, Tryz.results6, go_sem, HS]) rfl HE.out
      | true =>
        obtain rfl := hv5 rfl
        have VLL := Lib.hid (VL.out rfl rfl)
        clear VL
        have hb1 := hev rfl
        have hb2 := hmb rfl
        have hw := IntWalk.i64_in (v5 - (n4 : Nat)) (by omega)
        clear r0 r1 r2 g0 g1 g2 HS HE hk4 hv5 hev hmb hb1 hb2
        have B5 : Bag w (fun _ => True) w5 := ⟨R5.out.1, fun _ _ _ _ => trivial, trivial⟩
        have BB := Lib.hid ((B5.row R5.out.2.2.1).slot3 R5.out.2.1).drew
        clear B5 R3 R4 R5 R0 HKA BG SK MT EX HK
        go_wp2_with fail
        go_region_held3 (fun y => y.cell? ⟨w.heap.size + 1, 1, none⟩ = some (.int .i64 (e2 : Nat)))
          (first
            | (exact BB.out.now.2.1.cell 1)
            | (exact z0))
          ((go_at_call 19; (with_reducible refine (VLL.out _).mono ?_); rintro x w6 ⟨a6, n6, c6, m6, a7, n7, c7, rfl, hr6, hb6⟩; have BB := Lib.hid (BB.out.go hb6); have hs := BB.out.now.1; have r0 := hs.cell; have r1 := hs.cell1; have r2 := hs.cell2; have g0 := hs.free; have g1 := hs.free1; have g2 := hs.free2; have HS := hs.set (.slice a6 n6 c6) (.bool m6) (.slice a7 n7 c7); have z0 := keepAt (a := .slice a6 n6 c6) (b := .bool m6) (c := .slice a7 n7 c7) BB.out.now.2.1; have HE := Lib.hid (RdTold.done e2 true BB.out.below (Nat.le_refl _) hs hr6)))
        go_wp2
        exact bodyPost_ret (v := .tuple #[.agg #[.slice a6 n6 c6, .bool m6, .slice a7 n7 c7], .int .i64 (e2 : Nat), .bool true]) (by simp [results, Tryz.results6, go_sem, HS]) rfl HE.out

end Go.Proofs.YtgpcfncolhmgfaaGreatDoor
