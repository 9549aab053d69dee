/-
  Texts of this seat, laid together.
-/
import Derived.Test.YtpmcbnliogjknaaGreatDoorQ1
import Derived.Test.YtpmcbnliogjknaaGreatDoorQ2
import Derived.Test.YtpmcbnliogjknaaGreatDoorQ3
import Derived.Test.YtpmcbnliogjknaaGreatDoorQ4
import Derived.Test.YtpmcbnliogjknaaGreatDoorQ5
import Derived.Test.YtpmcbnliogjknaaGreatDoorQ6
import Derived.Test.YtpmcbnliogjknaaGreatDoorQ7
import Derived.Test.YtpmcbnliogjknaaGreatDoorQ8

namespace Go.Proofs.YtpmcbnliogjknaaGreatDoor
open Go.RowKit
attribute [local go_sem ↓] Go.wp_at_zero Go.wp_at_succ
/-- Rows of integers in the making: the first k are laid. -/
def LTo (w : World) (g n k : Nat) (N : Nat → Nat) (F : Nat → Nat → Int) : Prop :=
  g < w.heap.size ∧ Free w g ∧ ∃ (A : Nat → Option Addr) (C : Nat → Nat), ∀ j, j < n → (∃ z, w.cell? ⟨g, j, none⟩ = some z ∧ ∀ ki x, z ≠ .int ki x) ∧ (j < k → w.cell? ⟨g, j, none⟩ = some (.slice (A j) (N j) (C j)) ∧ KRow w .i64 (A j) (N j) (C j) (F j) ∧ (A j = none → C j = 0))
theorem LTo.below {w w' : World} {g n k : Nat} {N : Nat → Nat} {F : Nat → Nat → Int} (h : LTo w g n k N F) (hb : Below w.heap.size w w') : LTo w' g n k N F := by
  obtain ⟨h1, h2, A, C, h3⟩ := h
  refine ⟨Nat.lt_of_lt_of_le h1 hb.size, h2.below hb h1, A, C, fun j hj => ?_⟩
  obtain ⟨⟨z, e1, e2⟩, e3⟩ := h3 j hj
  exact ⟨⟨z, (hb.cell (p := ⟨g, j, none⟩) h1).trans e1, e2⟩, fun hk => ⟨(hb.cell (p := ⟨g, j, none⟩) h1).trans (e3 hk).1, (e3 hk).2.1.below hb, (e3 hk).2.2⟩⟩
theorem LTo.place {w : World} {g n k : Nat} {N : Nat → Nat} {F : Nat → Nat → Int} (h : LTo w g n k N F) {j : Nat} (hj : j < n) : (∃ z, w.cell? ⟨g, j, none⟩ = some z ∧ ∀ ki x, z ≠ .int ki x) ∧ w.frozen? ⟨g, j, none⟩ = false := by
  obtain ⟨h1, h2, A, C, h3⟩ := h
  exact ⟨(h3 j hj).1, h2 j⟩
theorem LTo.put {w : World} {g n k : Nat} {N N' : Nat → Nat} {F F' : Nat → Nat → Int} (h : LTo w g n k N F) {i : Nat} (hi : i < n) {a : Option Addr} {c : Nat} (hr : KRow w .i64 a (N' i) c (F' i)) (ha : a = none → c = 0) : ∀ k', (∀ j, j < k' → j ≠ i → j < k ∧ N' j = N j ∧ F' j = F j) → LTo (w.setCell ⟨g, i, none⟩ (.slice a (N' i) c)) g n k' N' F' := by
  intro k' hk'
  obtain ⟨h1, h2, A, C, h3⟩ := h
  obtain ⟨⟨z0, q1, q2⟩, _⟩ := h3 i hi
  refine ⟨by simpa using h1, h2.set _ _, (fun j => if j = i then a else A j), (fun j => if j = i then c else C j), fun j hj => ?_⟩
  obtain ⟨⟨z, e1, e2⟩, e3⟩ := h3 j hj
  by_cases e : j = i
  · subst e
    have hs := World.cell?_setCell_same w ⟨g, j, none⟩ (.slice a (N' j) c) e1
    refine ⟨⟨_, hs, fun _ _ h => by cases h⟩, fun _ => ?_⟩
    simp only [if_true]
    exact ⟨hs, hr.setAt q1 (fun z => q2 _ z) _, ha⟩
  · have hs : (w.setCell ⟨g, i, none⟩ (.slice a (N' i) c)).cell? ⟨g, j, none⟩ = w.cell? ⟨g, j, none⟩ := World.cell?_setCell_other _ _ _ _ (fun h => by injection h with _ h; omega)
    refine ⟨⟨z, hs.trans e1, e2⟩, fun hk => ?_⟩
    simp only [if_neg e]
    obtain ⟨h4, h5, h6⟩ := hk' j hk e
    obtain ⟨q3, q4, q5⟩ := e3 h4
    rw [h5, h6]
    exact ⟨hs.trans q3, q4.setAt q1 (fun z => q2 _ z) _, q5⟩
theorem LTo.step {w : World} {g n k : Nat} {N : Nat → Nat} {F : Nat → Nat → Int} (h : LTo w g n k N F) (hk : k < n) {a : Addr} {c : Nat} (hr : KRow w .i64 (some a) (N k) c (F k)) : LTo (w.setCell ⟨g, k, none⟩ (.slice (some a) (N k) c)) g n (k + 1) N F :=
  h.put hk hr (fun e => by cases e) (k + 1) (fun j hj hne => ⟨by omega, rfl, rfl⟩)
theorem LTo.done {w : World} {g n : Nat} {N : Nat → Nat} {F : Nat → Nat → Int} (h : LTo w g n n N F) (hn : n ≤ maxLen) : ∃ A C, LRow w (some ⟨g, 0, none⟩) n n A N C F := by
  obtain ⟨h1, h2, A, C, h3⟩ := h
  refine ⟨A, C, Nat.le_refl _, hn, .inr ⟨g, 0, rfl, h1, fun j hj => ?_⟩⟩
  obtain ⟨_, e3⟩ := h3 j hj
  obtain ⟨e4, e5, e6⟩ := e3 hj
  rw [Nat.zero_add]
  exact ⟨e4, e5, e6⟩
theorem LTo.made (w : World) (n : Nat) (t : TypeId) (N : Nat → Nat) (F : Nat → Nat → Int) {mc : Array Value} (hmc : mc = madeCells (Value.cells (.slice none 0 0)) n) : LTo (w.alloc (.cells mc t)) w.heap.size n 0 N F := by
  subst hmc
  have hR := Row.new w t (madeCells (Value.cells (.slice none 0 0)) n)
  refine ⟨hR.lt, fun o => hR.free o, fun _ => none, fun _ => 0, fun j hj => ⟨⟨.slice none 0 0, ?_, fun _ _ h => by cases h⟩, fun h => absurd h (Nat.not_lt_zero _)⟩⟩
  rw [hR.cell]
  unfold madeCells
  rw [Array.getElem?_map, Array.getElem?_range, if_pos (by omega), Option.map_some]
  simp [Value.cells, Nat.mod_one]
/-- The axes of an array, one of none as one of ones. -/
def paS (r : Nat) (S : Nat → Int) : Nat → Int := fun j => if r = 0 then 1 else S j
/-- How many elements of every axis, and from where on. -/
def paN (drop : Bool) (b : Int) (P S : Nat → Int) : Nat → Nat := fun j => (tkN drop (bnd b (P j)) (S j)).toNat
def paF (drop : Bool) (b : Int) (P S : Nat → Int) : Nat → Nat → Int := fun j q => tkF drop (bnd b (P j)) (S j) + (q : Int)
/-- The error of what is taken, or dropped. -/
def paE (drop : Bool) (b : Int) (r0 : Nat) (ch0 : Bool) (L0 : Nat) (P0 : Nat → Int) (Q0 : Nat → Nat) (S : Nat → Int) (r : Nat) : Int :=
  if liE r0 (whC ch0 L0 P0 Q0) = 0 then (if r = 0 ∨ L0 = r then (if 8 < L0 then 23 else pkE (lnF (paN drop b P0 (paS r S))) L0) else 24) else liE r0 (whC ch0 L0 P0 Q0)
theorem sh_ones {n : Nat} (h : n ≤ 8) : shB (fun _ => 1) n = true ∧ itm (fun _ => 1) n = 1 := by
  have h1 : ∀ k, rm (fun _ => 1) k = 1 := fun k => by
    induction k with
    | zero => rfl
    | succ k ih => show rm (fun _ => 1) k * max 1 1 = 1; rw [ih]; rfl
  have h2 : ∀ k, axB (fun _ => 1) k = true := fun k => by
    induction k with
    | zero => rfl
    | succ k ih => show (axB (fun _ => 1) k && (decide (0 ≤ (1 : Int)) && decide (rm (fun _ => 1) (k + 1) ≤ 4096))) = true; rw [ih, h1]; rfl
  have h3 : ∀ k, itm (fun _ => 1) k = 1 := fun k => by
    induction k with
    | zero => rfl
    | succ k ih => show itm (fun _ => 1) k * 1 = 1; rw [ih]; rfl
  unfold shB
  rw [h2, decide_eq_true h]
  exact ⟨rfl, h3 n⟩
theorem in64_const {x : Int} (h : -9223372036854775808 ≤ x ∧ x ≤ 9223372036854775807) (n : Nat) : In64 (fun _ => x) n := fun _ _ => h
theorem sh_more {f : Nat → Int} {n : Nat} (h : 8 < n) : shB f n = false := by
  unfold shB
  rw [decide_eq_false (by omega)]
  rfl
theorem repeat1_new (a : Option Addr) (c : Nat) (x : Int) (M : Nat) (w : World) (h : KRow w .i64 a 1 c (fun _ => x)) (hM : M ≤ 1000000) :
    Calls Tryz.prog 46 #[.slice a 1 c, .int .i64 M] w fun e w' => ∃ g, e = .returned (.slice (some ⟨g, 0, none⟩) M M) ∧ w.heap.size ≤ g ∧ g < w'.heap.size ∧ KRow w' .i64 (some ⟨g, 0, none⟩) M M (fun _ => x) ∧ Below w.heap.size w w' :=
  (repeat1_at a c (fun _ => x) M w h hM).mono (fun _ _ ⟨h1, h2, h3, h4⟩ => ⟨_, h1, Nat.le_refl _, h4, h2, h3⟩)
set_option linter.unusedSimpArgs false in
set_option linter.unusedVariables false in
set_option maxHeartbeats 6400000 in
set_option maxRecDepth 100000 in
theorem part_any (fv : FuncId) (drop : Bool) (he : Enters Tryz.prog fv) (HTL : Tells fv drop) (cs0 : Array Value) (S0 : Nat → Int) (r0 : Nat) (ch0 : Bool) (L0 : Nat) (g0 P0 : Nat → Int) (Q0 : Nat → Nat) (cs : Array Value) (S : Nat → Int) (r : Nat) (ch : Bool) (L : Nat) (g fP : Nat → Int) (fQ : Nat → Nat) (w : World)
    (h0 : Arr w cs0 S0 r0 ch0 L0 g0 P0 Q0) (h : Arr w cs S r ch L g fP fQ) (hr0 : r0 ≤ 8) (hQ0 : ch0 = false → ∀ j, j < L0 → 0 < Q0 j) (hL0 : L0 ≤ 4096) (hS : In64 S r) (hsh : shB S r = true) (hcnt : itm S r = (L : Nat)) :
    Calls Tryz.prog 22 #[.agg cs0, .agg cs, .func (.func fv) #[] #[]] w fun e w' => MoTold (paE drop 4097 r0 ch0 L0 P0 Q0 S r) (lnF (paN drop 4097 P0 (paS r S))) L0 ch (itm (lnF (paN drop 4097 P0 (paS r S))) L0).toNat (fun j => elC L g 32 (pkG (paS r S) (lnF (paN drop 4097 P0 (paS r S))) L0 (paF drop 4097 P0 (paS r S)) j)) (fun j => elP L fP (pkG (paS r S) (lnF (paN drop 4097 P0 (paS r S))) L0 (paF drop 4097 P0 (paS r S)) j)) (fun j => elQ L fQ (pkG (paS r S) (lnF (paN drop 4097 P0 (paS r S))) L0 (paF drop 4097 P0 (paS r S)) j)) w w' e := by
  have he' := he
  unfold Enters at he'
  obtain ⟨nb, nnb, ncb, tb, tnb, tcb, hcs0, _⟩ := h0.form
  subst hcs0
  obtain ⟨na, nn, nc, ta, tn, tc, hcs, _⟩ := h.form
  subst hcs
  obtain ⟨h8, hax⟩ := sh_ax hsh
  obtain ⟨i1, hi1, hy0, hy1, hy2⟩ := info_parts infoS
  have hmk := fun wz => run_make (P := Tryz.prog) wz 88 22 i1 _ Tryz.underlying88 hi1 hy0 .i64 .i64 L0 L0 (by omega) (by omega) (by rw [hy2]; omega) (by omega)
  simp only [Int.toNat_natCast, hy1, Nat.mul_one] at hmk
  have H0 := Lib.hid h0
  have H := Lib.hid h
  have LI := Lib.hid (fun wz h => cutList_any (arrC ch0 ((r0 : Int) - 1) (dm S0 r0) nb nnb ncb tb tnb tcb) S0 r0 ch0 L0 g0 P0 Q0 wz h hr0 hQ0 (by omega))
  unfold LiNew at LI
  have RK := Lib.hid (fun wz h => rank8_any (arrC ch ((r : Int) - 1) (dm S r) na nn nc ta tn tc) S r ch L g fP fQ wz h (by omega))
  have B0 := Lib.hid ((((Bag.start w).newRow (arrC ch0 ((r0 : Int) - 1) (dm S0 r0) nb nnb ncb tb tnb tcb) 32).newRow (arrC ch ((r : Int) - 1) (dm S r) na nn nc ta tn tc) 32).newRow zerC 32)
  simp only [World.size_alloc] at B0
  have HR1 := Lib.hid B0.out.now.2.2.1
  have hhi : whC ch0 L0 P0 Q0 = true → In64 P0 L0 := whC_in
  -- letters
  obtain ⟨S2, hS2⟩ : ∃ f, paS r S = f := ⟨_, rfl⟩
  obtain ⟨NN, hNN⟩ : ∃ f, paN drop 4097 P0 S2 = f := ⟨_, rfl⟩
  obtain ⟨FF, hFF⟩ : ∃ f, paF drop 4097 P0 S2 = f := ⟨_, rfl⟩
  obtain ⟨TT, hTT⟩ : ∃ f, lnF NN = f := ⟨_, rfl⟩
  obtain ⟨EE, hEE⟩ : ∃ E, paE drop 4097 r0 ch0 L0 P0 Q0 S r = E := ⟨_, rfl⟩
  rw [hEE]
  unfold paE at hEE
  rw [hS2, hNN, hTT] at hEE
  rw [hS2, hNN, hFF, hTT]
  obtain ⟨eC, heC⟩ : ∃ f : Nat → Int, (fun j => elC L g 32 (pkG S2 TT L0 FF j)) = f := ⟨_, rfl⟩
  obtain ⟨eP, heP⟩ : ∃ f : Nat → Int, (fun j => elP L fP (pkG S2 TT L0 FF j)) = f := ⟨_, rfl⟩
  obtain ⟨eQ, heQ⟩ : ∃ f : Nat → Nat, (fun j => elQ L fQ (pkG S2 TT L0 FF j)) = f := ⟨_, rfl⟩
  obtain ⟨MM, hMM⟩ : ∃ E, (itm TT L0).toNat = E := ⟨_, rfl⟩
  rw [heC, heP, heQ, hMM]
  have HNO : Hid (∀ E wz, EE = E → E ≠ 0 → Below w.heap.size w wz → MoTold EE TT L0 ch MM eC eP eQ w (wz.setRow (w.heap.size + 1 + 1) zerC) (.returned (.tuple #[.agg zerC, .int .i64 E]))) := Lib.hid (fun E wz e hE hb => by
    subst e
    exact MoTold.no hE (below_put hb (show w.heap.size ≤ w.heap.size + 1 + 1 by omega) zerC))
  have HSX : Hid (∀ k, k < L0 → (r = 0 ∨ L0 = r) → 0 ≤ S2 k ∧ S2 k ≤ 4096) := Lib.hid (fun k hk hor => by
    rw [← hS2]
    unfold paS
    by_cases e : r = 0
    · rw [if_pos e]; omega
    · rw [if_neg e]
      exact ax_le4 hsh (by omega))
  have TL : Hid ((r = 0 ∨ L0 = r) → ∀ k, k < L0 → ∀ wz, Calls Tryz.prog fv #[.int .i64 (bnd 4097 (P0 k)), .int .i64 (S2 k)] wz fun e w' => ∃ a c, e = .returned (.slice (some a) (NN k) c) ∧ KRow w' .i64 (some a) (NN k) c (FF k) ∧ Below wz.heap.size wz w') := Lib.hid (fun hor k hk wz => by
    have h1 := HSX.out k hk hor
    have h2 := bnd_bd (b := 4097) (by omega) (P0 k)
    refine (HTL wz (bnd 4097 (P0 k)) (S2 k) (by omega) (by omega) h1.1 h1.2).mono ?_
    rintro e w' ⟨a, m, c, rfl, hm, hkr, hb⟩
    have hmn : m = NN k := by rw [← hNN]; unfold paN; rw [← hm]; rfl
    subst hmn
    rw [← hFF]
    exact ⟨a, c, rfl, hkr, hb⟩)
  have CPG : Hid (∀ X, (r = 0 ∨ L0 = r) → shB S2 L0 = true → L0 ≤ 8 → EE = pkE TT L0 → ∀ aF cF A C wz, Arr wz X S2 L0 ch L g fP fQ → LRow wz aF L0 cF A NN C FF → Calls Tryz.prog 49 #[.agg X, .slice aF L0 cF] wz fun e w' => MoTold EE TT L0 ch MM eC eP eQ wz w' e) := Lib.hid (fun X hor hs hl8 hE aF cF A C wz q1 q2 => by
    have hb : ∀ j, j < L0 → 0 ≤ S2 j ∧ S2 j ≤ 4096 := fun j hj => HSX.out j hj hor
    have := cpicked_any X S2 L0 ch L g fP fQ aF cF A NN C FF wz q1 hl8 (fun j hj => by have := hb j hj; omega) hs q2 (fun j hj => by
        rw [← hNN]
        have h1 := hb j hj
        have h2 := bnd_bd (b := 4097) (by omega) (P0 j)
        unfold paN tkN
        split <;> omega) (fun j q hj hq => by
        have h1 := hb j hj
        have h2 := bnd_bd (b := 4097) (by omega) (P0 j)
        have h3 : q < 10000 := by
          rw [← hNN] at hq
          unfold paN tkN at hq
          split at hq <;> omega
        rw [← hFF]
        show -1000000000 ≤ tkF drop (bnd 4097 (P0 j)) (S2 j) + (q : Int) ∧ tkF drop (bnd 4097 (P0 j)) (S2 j) + (q : Int) ≤ 1000000000
        unfold tkF
        split <;> split <;> omega)
    rw [hTT, heC, heP, heQ, hMM, ← hE] at this
    exact this)
  have HS1 : r = 0 → S2 = fun _ => 1 := fun e => by rw [← hS2]; funext j; unfold paS; rw [if_pos e]
  have HS3 : r ≠ 0 → S2 = S := fun e => by rw [← hS2]; funext j; unfold paS; rw [if_neg e]
  clear hS2 hNN hFF hTT heC heP heQ hMM HTL h0 h hQ0 hi1 hy0 hy1 hy2 HSX
  generalize whC ch0 L0 P0 Q0 = wb at *
  by_cases hE : liE r0 wb = 0
  · have hin := hhi (liE_whole hE)
    rw [if_pos hE] at hEE
    rw [hE] at LI
    clear hE hhi
    have hp64 := Lib.hid hin
    by_cases hr : r = 0
    · have hS2 := HS1 hr
      have TL := Lib.hid (TL.out (.inl hr))
      have CPG := Lib.hid (fun X => CPG.out X (.inl hr))
      subst hS2
      rw [if_pos (.inl hr)] at hEE
      have hL1 : L = 1 := by rw [hr] at hcnt; have : itm S 0 = 1 := rfl; omega
      have d0 : (((r : Nat) : Int) == 0) = true := beq_iff_eq.2 (by omega)
      subst hL1
      clear HS1 HS3 hcnt hax hsh hS hr
      unfold arrC
      go_enter Tryz.func22, Tryz.ntmps22
      go_wp2_with (refine ld_arr rfl (.tmp 3) rfl w.heap.size rfl HR1.out ?_)
      go_at_call 43
      (with_reducible refine (LI.out _ ?_).mono ?_)
      · exact H0.out.below B0.out.below
      rintro e w3 ⟨aL, mL, cL, rfl, hk6, hb3⟩
      obtain ⟨hm6, hk7, hnw⟩ := hk6 trivial
      clear hk6
      subst mL
      have BB := Lib.hid (B0.out.go hb3)
      have BB : Hid (Bag w (fun y => Row y (w.heap.size + 1 + 1) 32 zerC ∧ Row y (w.heap.size + 1) 32 (arrC ch ((r : Int) - 1) (dm S r) na nn nc ta tn tc) ∧ KRow y .i64 aL L0 cL P0 ∧ True) w3) := Lib.hid ⟨BB.out.below, fun a b hb ⟨h1, h2, h3, _⟩ => ⟨h1.below hb, h2.below hb, h3.below hb, trivial⟩, BB.out.now.1, BB.out.now.2.1, hk7, trivial⟩
      have HNW : Hid (L0 = 0 ∨ ∀ x, aL = some x → x.block ≠ w.heap.size + 1) := Lib.hid (hnw.imp id (fun h x hx => by have := h x hx; simp only [World.size_alloc] at this; omega))
      have HR4 := Lib.hid BB.out.now.2.1
      have hl := hk7.len
      clear hk7 hnw hb3
      go_wp2_with (refine ld_arr rfl (.tmp 4) rfl (w.heap.size + 1) rfl HR4.out ?_)
      go_at_call 44
      (with_reducible refine (RK.out _ ?_).mono ?_)
      · exact H.out.below BB.out.below
      rintro e w4 ⟨rfl, hb4⟩
      have BB := Lib.hid (BB.out.go hb4)
      clear hb4 HR4
      have RP := Lib.hid (fun a wz (q : KRow wz .i64 a 1 1 (fun _ => 1)) => repeat1_new a 1 1 L0 wz q (by omega))
      go_wp2_with fail
      generalize hYY : w4 = YY at *
      clear hYY
      by_cases hl8 : 8 < L0
      · rw [if_pos hl8] at hEE
        have hbf : (shB (fun _ => 1) L0 && decide (itm (fun _ => 1) L0 = ((1 : Nat) : Int))) = false := by rw [sh_more hl8]; rfl
        have PK : Hid (∀ k4 k5 wz, Arr wz (arrC ch ((r : Int) - 1) (dm S r) na nn nc ta tn tc) S r ch 1 g fP fQ → KRow wz .i64 (some ⟨k4, 0, none⟩) L0 L0 (fun _ => 1) → KRow wz .i64 (some ⟨k5, 0, none⟩) 1 1 (fun _ => 0) → Calls Tryz.prog 45 #[.agg (arrC ch ((r : Int) - 1) (dm S r) na nn nc ta tn tc), .slice (some ⟨k4, 0, none⟩) L0 L0, .slice (some ⟨k5, 0, none⟩) 1 1] wz fun e w' => ∃ x6, e = .returned (.tuple #[.agg x6, .bool false]) ∧ IsA x6 ∧ Below wz.heap.size wz w') := Lib.hid (fun k4 k5 wz q1 q2 q3 => (pick8_any (arrC ch ((r : Int) - 1) (dm S r) na nn nc ta tn tc) S r ch 1 g fP fQ (some ⟨k4, 0, none⟩) L0 L0 (fun _ => 1) (some ⟨k5, 0, none⟩) 1 1 (fun _ => 0) wz q1 q2 (in64_const (by omega) _) q3 (in64_const (by omega) _) (by omega)).mono (by
          rintro e w' ⟨x6, he, hx, hb⟩
          rw [hbf] at he hx
          rw [if_neg (by decide)] at hx
          exact ⟨x6, he, hx ▸ IsA.zer, hb⟩))
        clear hl8 hbf CPG TL
        refine wp_region_inv2 ⟨(fun j => ([[28], [29], [30], [31], [32], [33], [34], [27], [35], [36], [10], [10], [11]] : List (List Nat)).getD j []), (fun j => ([[], [], [], [2], [1, 2, 3], [], [0, 1, 2, 3, 4, 5], [0, 1, 2, 3, 4, 5, 6], [0, 1, 2, 3, 4, 5, 6, 7], [0, 1, 2, 3, 4, 5, 6, 7], [], [0, 1, 2, 3, 4, 5, 6, 7, 8, 10], [0, 1, 2, 3, 4, 5, 6, 7, 8, 9, 10, 11]] : List (List Nat)).getD j []), [1, 4, 5, 10]⟩ (fun jj vv yy => match jj with | 0 => vv = [some (.agg (arrC ch ((r : Int) - 1) (dm S r) na nn nc ta tn tc))] | 1 => ∃ (k1 : Nat), vv = [some (.slice (some ⟨k1, 0, none⟩) 1 1)] ∧ KRow yy .i64 (some ⟨k1, 0, none⟩) 1 1 (fun _ => 1) | 2 => vv = [some (.slice aL L0 cL)] | 3 => vv = [some (.int .i64 L0)] | 4 => ∃ (k4 : Nat), vv = [some (.slice (some ⟨k4, 0, none⟩) L0 L0)] ∧ KRow yy .i64 (some ⟨k4, 0, none⟩) L0 L0 (fun _ => 1) | 5 => ∃ (k5 : Nat), vv = [some (.slice (some ⟨k5, 0, none⟩) 1 1)] ∧ KRow yy .i64 (some ⟨k5, 0, none⟩) 1 1 (fun _ => 0) | 6 => ∃ (x6 : Array Value), vv = [some (.tuple #[.agg x6, .bool false])] ∧ IsA x6 | 7 => ∃ (x6 : Array Value), vv = [some (.tuple #[.agg x6, .bool false])] ∧ IsA x6 | 8 => ∃ (x6 : Array Value), vv = [some (.agg x6)] ∧ IsA x6 | 9 => vv = [some (.bool false)] | 10 => ∃ (k10 : Nat), ∃ (z10 : Array Value), vv = [some (.pointer (some ⟨k10, 0, none⟩))] ∧ Row yy k10 32 z10 ∧ IsA z10 ∧ YY.heap.size ≤ k10 | 11 => ∃ (k10 : Nat), ∃ (x6 : Array Value), vv = [some (.pointer (some ⟨k10, 0, none⟩))] ∧ Row yy k10 32 x6 ∧ IsA x6 | 12 => vv = [some (.bool false)] | _ => True) (Bag YY (fun _ => True)) (by kernel_rfl) (by kernel_rfl) (by kernel_rfl) (Bag.start YY).drew ?_ ?_ ?_
        · intro jj vv yw yw2 hb h
          match jj, h with
          | 0, h => exact h
          | 1, ⟨k1, e1, g1_0⟩ => exact Exists.intro k1 (And.intro e1 (g1_0.below hb))
          | 2, h => exact h
          | 3, h => exact h
          | 4, ⟨k4, e4, g4_0⟩ => exact Exists.intro k4 (And.intro e4 (g4_0.below hb))
          | 5, ⟨k5, e5, g5_0⟩ => exact Exists.intro k5 (And.intro e5 (g5_0.below hb))
          | 6, h => exact h
          | 7, h => exact h
          | 8, h => exact h
          | 9, h => exact h
          | 10, ⟨k10, z10, e10, g10_0, g10_1, g10_2⟩ => exact Exists.intro k10 (Exists.intro z10 (And.intro e10 (And.intro (g10_0.below hb) (And.intro g10_1 g10_2))))
          | 11, ⟨k10, x6, e11, g11_0, g11_1⟩ => exact Exists.intro k10 (Exists.intro x6 (And.intro e11 (And.intro (g11_0.below hb) g11_1)))
          | 12, h => exact h
          | _ + 13, h => exact h
        · intro ac yw hsz hdf hold hB hp
          obtain ⟨k10, x6, e11, r10, i6⟩ := hp 11 (by decide)
          have t10 : ac.tmps[10]? = some (.pointer (some ⟨k10, 0, none⟩)) := (List.cons.inj e11).1
          have t11 : ac.tmps[11]? = some (.bool false) := (List.cons.inj (hp 12 (by decide))).1
          have t2 : ac.tmps[2]? = some (.func (.func fv) #[] #[]) := hold 2 (by kernel_rfl)
          have t4 : ac.tmps[4]? = some (.pointer (some ⟨w.heap.size + 1, 0, none⟩)) := hold 4 (by kernel_rfl)
          have t6 : ac.tmps[6]? = some (.pointer (some ⟨w.heap.size + 1 + 1, 0, none⟩)) := hold 6 (by kernel_rfl)
          have t8 : ac.tmps[8]? = some (.slice aL L0 cL) := hold 8 (by kernel_rfl)
          have BB := Lib.hid (BB.out.go hB.below)
          have HZ := Lib.hid BB.out.now.1
          have HE := Lib.hid (HNO.out 23 _ hEE.symm (by decide) BB.out.below)
          clear hold hp e11 r10 i6 hB hEE
          obtain ⟨TW, hTW⟩ : ∃ TW : Nat → Value, ∀ i, (ac.tmps[i]?).getD undef = TW i := ⟨_, fun _ => rfl⟩
          have f2 := (hTW 2).symm.trans (congrArg (fun x => Option.getD x undef) t2)
          have f4 := (hTW 4).symm.trans (congrArg (fun x => Option.getD x undef) t4)
          have f6 := (hTW 6).symm.trans (congrArg (fun x => Option.getD x undef) t6)
          have f8 := (hTW 8).symm.trans (congrArg (fun x => Option.getD x undef) t8)
          have f10 := (hTW 10).symm.trans (congrArg (fun x => Option.getD x undef) t10)
          have f11 := (hTW 11).symm.trans (congrArg (fun x => Option.getD x undef) t11)
          have hac := act_eq (n := 75) hsz TW hTW
          rw [show ((List.range 75).map TW).toArray = #[TW 0, TW 1, TW 2, TW 3, TW 4, TW 5, TW 6, TW 7, TW 8, TW 9, TW 10, TW 11, TW 12, TW 13, TW 14, TW 15, TW 16, TW 17, TW 18, TW 19, TW 20, TW 21, TW 22, TW 23, TW 24, TW 25, TW 26, TW 27, TW 28, TW 29, TW 30, TW 31, TW 32, TW 33, TW 34, TW 35, TW 36, TW 37, TW 38, TW 39, TW 40, TW 41, TW 42, TW 43, TW 44, TW 45, TW 46, TW 47, TW 48, TW 49, TW 50, TW 51, TW 52, TW 53, TW 54, TW 55, TW 56, TW 57, TW 58, TW 59, TW 60, TW 61, TW 62, TW 63, TW 64, TW 65, TW 66, TW 67, TW 68, TW 69, TW 70, TW 71, TW 72, TW 73, TW 74] from rfl, f2, f4, f6, f8, f10, f11, hdf] at hac
          simp only [Option.getD_some] at hac
          subst hac
          clear hTW f2 f4 f6 f8 f10 f11
          unfold zerC arrC at HZ
          go_wp2_with (refine st_arr rfl (.tmp 6) (.tmp 39) rfl (w.heap.size + 1 + 1) rfl false 0 (fun _ => 0) none 0 0 none 0 0 rfl HZ.out rfl ?_)
          exact bodyPost_ret (res_arr2 Tryz.results22 rfl rfl (HZ.out.put _) rfl) rfl HE.out
        refine Stps2.cons (o := _) ?_ ?_
        · intro ac yw hsz hold hB hp K hK
          have t4 : ac.tmps[4]? = some (.pointer (some ⟨w.heap.size + 1, 0, none⟩)) := hold 4 (by kernel_rfl)
          clear hold hp hsz
          rw [if_pos (by rfl)]
          refine ld8 4 rfl (w.heap.size + 1) ((arrC ch ((r : Int) - 1) (dm S r) na nn nc ta tn tc)) t4 ((BB.out.go hB.below).now.2.1) (rfl) ?_
          exact hK.out _ _ ⟨hB, rfl, Nat.le_refl _, .inl (Below.refl _ _), fun h => absurd h (by decide)⟩
        refine Stps2.cons (o := _) ?_ ?_
        · intro ac yw hsz hold hB hp K hK
          clear hold hp hsz
          have hbz : Below yw.heap.size yw (yw.alloc (.cells #[.int .i64 1] 3)) ∧ yw.heap.size < (yw.alloc (.cells #[.int .i64 1] 3)).heap.size := ⟨(Below.refl _ _).alloc (Nat.le_refl _) _, by rw [World.size_alloc]; omega⟩
          go_simp
          exact hK.out _ _ ⟨hB.alloc _, Exists.intro yw.heap.size (And.intro rfl (KRow.one' yw .i64 1 3)), Nat.le_of_lt hbz.2, .inl hbz.1, fun _ => ⟨_, rfl, Nat.le_refl _, hbz.2⟩⟩
        refine Stps2.cons (o := _) ?_ ?_
        · intro ac yw hsz hold hB hp K hK
          have t8 : ac.tmps[8]? = some (.slice aL L0 cL) := hold 8 (by kernel_rfl)
          clear hold hp hsz
          go_simp
          exact hK.out _ _ ⟨hB, rfl, Nat.le_refl _, .inl (Below.refl _ _), fun h => absurd h (by decide)⟩
        refine Stps2.cons (o := _) ?_ ?_
        · intro ac yw hsz hold hB hp K hK
          have e2 := hp 2 (by decide)
          have t30 : ac.tmps[30]? = some (.slice aL L0 cL) := (List.cons.inj e2).1
          clear hold hp hsz e2
          go_simp
          exact hK.out _ _ ⟨hB, rfl, Nat.le_refl _, .inl (Below.refl _ _), fun h => absurd h (by decide)⟩
        refine Stps2.cons (o := _) ?_ ?_
        · intro ac yw hsz hold hB hp K hK
          obtain ⟨k1_1, e1, g1_0⟩ := hp 1 (by decide)
          have t29 : ac.tmps[29]? = some (.slice (some ⟨k1_1, 0, none⟩) 1 1) := (List.cons.inj e1).1
          have e3 := hp 3 (by decide)
          have t31 : ac.tmps[31]? = some (.int .i64 L0) := (List.cons.inj e3).1
          clear hold hp hsz e1 e3
          go_simp
          (go_at_call 46; (refine (RP.out _ _ g1_0).mono ?_); rintro e wz ⟨k4, rfl, hge, hlt4, h4_0, hbz⟩)
          exact hK.out _ _ ⟨hB.go hbz, Exists.intro k4 (And.intro rfl h4_0), hbz.size, .inl hbz, fun _ => ⟨_, rfl, hge, hlt4⟩⟩
        refine Stps2.cons (o := _) ?_ ?_
        · intro ac yw hsz hold hB hp K hK
          clear hold hp hsz
          have hbz : Below yw.heap.size yw (yw.alloc (.cells #[.int .i64 0] 3)) ∧ yw.heap.size < (yw.alloc (.cells #[.int .i64 0] 3)).heap.size := ⟨(Below.refl _ _).alloc (Nat.le_refl _) _, by rw [World.size_alloc]; omega⟩
          go_simp
          exact hK.out _ _ ⟨hB.alloc _, Exists.intro yw.heap.size (And.intro rfl (KRow.one' yw .i64 0 3)), Nat.le_of_lt hbz.2, .inl hbz.1, fun _ => ⟨_, rfl, Nat.le_refl _, hbz.2⟩⟩
        refine Stps2.cons (o := _) ?_ ?_
        · intro ac yw hsz hold hB hp K hK
          have e0 := hp 0 (by decide)
          have t28 : ac.tmps[28]? = some (.agg (arrC ch ((r : Int) - 1) (dm S r) na nn nc ta tn tc)) := (List.cons.inj e0).1
          obtain ⟨k4_4, e4, g4_0⟩ := hp 4 (by decide)
          have t32 : ac.tmps[32]? = some (.slice (some ⟨k4_4, 0, none⟩) L0 L0) := (List.cons.inj e4).1
          obtain ⟨k5_5, e5, g5_0⟩ := hp 5 (by decide)
          have t33 : ac.tmps[33]? = some (.slice (some ⟨k5_5, 0, none⟩) 1 1) := (List.cons.inj e5).1
          clear hold hp hsz e0 e4 e5
          go_simp
          (go_at_call 45; (refine (PK.out _ _ _ (H.out.below (BB.out.go hB.below).below) g4_0 g5_0).mono ?_); rintro e wz ⟨x6, rfl, h6_0, hbz⟩)
          exact hK.out _ _ ⟨hB.go hbz, Exists.intro x6 (And.intro rfl h6_0), hbz.size, .inl hbz, fun h => absurd h (by decide)⟩
        refine Stps2.cons (o := _) ?_ ?_
        · intro ac yw hsz hold hB hp K hK
          obtain ⟨x6_6, e6, g6_0⟩ := hp 6 (by decide)
          have t34 : ac.tmps[34]? = some (.tuple #[.agg x6_6, .bool false]) := (List.cons.inj e6).1
          clear hold hp hsz e6
          go_simp
          exact hK.out _ _ ⟨hB, Exists.intro x6_6 (And.intro rfl g6_0), Nat.le_refl _, .inl (Below.refl _ _), fun h => absurd h (by decide)⟩
        refine Stps2.cons (o := _) ?_ ?_
        · intro ac yw hsz hold hB hp K hK
          obtain ⟨x6_7, e7, g7_0⟩ := hp 7 (by decide)
          have t27 : ac.tmps[27]? = some (.tuple #[.agg x6_7, .bool false]) := (List.cons.inj e7).1
          clear hold hp hsz e7
          go_simp
          exact hK.out _ _ ⟨hB, Exists.intro x6_7 (And.intro rfl g7_0), Nat.le_refl _, .inl (Below.refl _ _), fun h => absurd h (by decide)⟩
        refine Stps2.cons (o := _) ?_ ?_
        · intro ac yw hsz hold hB hp K hK
          obtain ⟨x6_7, e7, g7_0⟩ := hp 7 (by decide)
          have t27 : ac.tmps[27]? = some (.tuple #[.agg x6_7, .bool false]) := (List.cons.inj e7).1
          clear hold hp hsz e7
          go_simp
          exact hK.out _ _ ⟨hB, rfl, Nat.le_refl _, .inl (Below.refl _ _), fun h => absurd h (by decide)⟩
        refine Stps2.cons (o := _) ?_ ?_
        · intro ac yw hsz hold hB hp K hK
          clear hold hp hsz
          have hbz : Below yw.heap.size yw (yw.alloc (.cells zerC 32)) ∧ yw.heap.size < (yw.alloc (.cells zerC 32)).heap.size := ⟨(Below.refl _ _).alloc (Nat.le_refl _) _, by rw [World.size_alloc]; omega⟩
          go_simp
          exact hK.out _ _ ⟨hB.alloc _, Exists.intro yw.heap.size (Exists.intro zerC (And.intro rfl (And.intro ((Row.new yw _ zerC)) (And.intro IsA.zer hB.below.size)))), Nat.le_of_lt hbz.2, .inl hbz.1, fun _ => ⟨_, rfl, Nat.le_refl _, hbz.2⟩⟩
        refine Stps2.cons (o := _) ?_ ?_
        · intro ac yw hsz hold hB hp K hK
          obtain ⟨k10_10, z10_10, e10, g10_0, g10_1, g10_2⟩ := hp 10 (by decide)
          have t10 : ac.tmps[10]? = some (.pointer (some ⟨k10_10, 0, none⟩)) := (List.cons.inj e10).1
          obtain ⟨x6_8, e8, g8_0⟩ := hp 8 (by decide)
          have t35 : ac.tmps[35]? = some (.agg x6_8) := (List.cons.inj e8).1
          clear hold hp hsz e10 e8
          rw [if_pos (by rfl)]
          have HB : Bag _ (fun _ => True) (yw.setRow k10_10 x6_8) := ⟨below_put hB.below g10_2 _, fun _ _ _ _ => trivial, trivial⟩
          refine st8 10 35 rfl k10_10 x6_8 t10 t35 _ z10_10 g10_0 g10_1 g8_0 ?_
          refine hK.out undef _ ⟨HB, Exists.intro k10_10 (Exists.intro x6_8 (And.intro (congrArg (fun x => [x]) t10) (And.intro (g10_0.put _) g8_0))), by simp [World.setRow], .inr ?_, fun h => absurd h (by decide)⟩
          intro jj hj hap h
          match jj, h with
          | 0, h => exact h
          | 1, ⟨k1, e1, g1_0⟩ =>
            have hne : k1 ≠ k10_10 := fun e => hap 10 (by decide) 1 (by decide) (by decide) (by decide) (by decide) k10_10 ⟨10, _, rfl, t10, rfl⟩ ⟨29, _, rfl, (List.cons.inj e1).1, congrArg some e⟩
            exact Exists.intro k1 (And.intro e1 (g1_0.away (.inr (fun x hx => by obtain rfl := Option.some.inj hx; exact hne)) (Far.setRow _ _ _)))
          | 2, h => exact h
          | 3, h => exact h
          | 4, ⟨k4, e4, g4_0⟩ =>
            have hne : k4 ≠ k10_10 := fun e => hap 10 (by decide) 4 (by decide) (by decide) (by decide) (by decide) k10_10 ⟨10, _, rfl, t10, rfl⟩ ⟨32, _, rfl, (List.cons.inj e4).1, congrArg some e⟩
            exact Exists.intro k4 (And.intro e4 (g4_0.away (.inr (fun x hx => by obtain rfl := Option.some.inj hx; exact hne)) (Far.setRow _ _ _)))
          | 5, ⟨k5, e5, g5_0⟩ =>
            have hne : k5 ≠ k10_10 := fun e => hap 10 (by decide) 5 (by decide) (by decide) (by decide) (by decide) k10_10 ⟨10, _, rfl, t10, rfl⟩ ⟨33, _, rfl, (List.cons.inj e5).1, congrArg some e⟩
            exact Exists.intro k5 (And.intro e5 (g5_0.away (.inr (fun x hx => by obtain rfl := Option.some.inj hx; exact hne)) (Far.setRow _ _ _)))
          | 6, h => exact h
          | 7, h => exact h
          | 8, h => exact h
          | 9, h => exact h
          | 10, ⟨k10, z10, e10, g10_0, g10_1, g10_2⟩ =>
            have e9 : k10 = k10_10 := by have := (List.cons.inj e10).1.symm.trans t10; cases this; rfl
            subst e9
            exact Exists.intro _ (Exists.intro _ (And.intro e10 (And.intro (g10_0.put _) (And.intro g8_0 g10_2))))
          | 11, _ => exact absurd rfl hj
          | 12, h => exact h
          | _ + 13, h => exact h
        refine Stps2.cons (o := _) ?_ ?_
        · intro ac yw hsz hold hB hp K hK
          have e9 := hp 9 (by decide)
          have t36 : ac.tmps[36]? = some (.bool false) := (List.cons.inj e9).1
          clear hold hp hsz e9
          go_simp
          exact hK.out _ _ ⟨hB, rfl, Nat.le_refl _, .inl (Below.refl _ _), fun h => absurd h (by decide)⟩
        exact Stps2.nil _
      · rw [if_neg hl8] at hEE
        have hL8 : L0 ≤ 8 := by omega
        have hbt : (shB (fun _ => 1) L0 && decide (itm (fun _ => 1) L0 = ((1 : Nat) : Int))) = true := by rw [(sh_ones hL8).1, (sh_ones hL8).2]; rfl
        have PK : Hid (∀ k4 k5 wz, Arr wz (arrC ch ((r : Int) - 1) (dm S r) na nn nc ta tn tc) S r ch 1 g fP fQ → KRow wz .i64 (some ⟨k4, 0, none⟩) L0 L0 (fun _ => 1) → KRow wz .i64 (some ⟨k5, 0, none⟩) 1 1 (fun _ => 0) → Calls Tryz.prog 45 #[.agg (arrC ch ((r : Int) - 1) (dm S r) na nn nc ta tn tc), .slice (some ⟨k4, 0, none⟩) L0 L0, .slice (some ⟨k5, 0, none⟩) 1 1] wz fun e w' => ∃ x6, e = .returned (.tuple #[.agg x6, .bool true]) ∧ Arr w' x6 (fun _ => 1) L0 ch 1 g fP fQ ∧ Below wz.heap.size wz w') := Lib.hid (fun k4 k5 wz q1 q2 q3 => (pick8_any (arrC ch ((r : Int) - 1) (dm S r) na nn nc ta tn tc) S r ch 1 g fP fQ (some ⟨k4, 0, none⟩) L0 L0 (fun _ => 1) (some ⟨k5, 0, none⟩) 1 1 (fun _ => 0) wz q1 q2 (in64_const (by omega) _) q3 (in64_const (by omega) _) (by omega)).mono (by
          rintro e w' ⟨x6, he, hx, hb⟩
          rw [hbt] at he hx
          rw [if_pos rfl] at hx
          exact ⟨x6, he, hx.on (fun j hj => by obtain rfl : j = 0 := by omega
                                               rfl) (fun j hj => by obtain rfl : j = 0 := by omega
                                                                    rfl) (fun j hj => by obtain rfl : j = 0 := by omega
                                                                                         rfl), hb⟩))
        have CP := Lib.hid (fun X => CPG.out X (sh_ones hL8).1 hL8 hEE.symm)
        clear hl8 hbt CPG hEE
        refine wp_region_inv2 ⟨(fun j => ([[28], [29], [30], [31], [32], [33], [34], [27], [35], [36], [10], [10], [11]] : List (List Nat)).getD j []), (fun j => ([[], [], [], [2], [1, 2, 3], [], [0, 1, 2, 3, 4, 5], [0, 1, 2, 3, 4, 5, 6], [0, 1, 2, 3, 4, 5, 6, 7], [0, 1, 2, 3, 4, 5, 6, 7], [], [0, 1, 2, 3, 4, 5, 6, 7, 8, 10], [0, 1, 2, 3, 4, 5, 6, 7, 8, 9, 10, 11]] : List (List Nat)).getD j []), [1, 4, 5, 10]⟩ (fun jj vv yy => match jj with | 0 => vv = [some (.agg (arrC ch ((r : Int) - 1) (dm S r) na nn nc ta tn tc))] | 1 => ∃ (k1 : Nat), vv = [some (.slice (some ⟨k1, 0, none⟩) 1 1)] ∧ KRow yy .i64 (some ⟨k1, 0, none⟩) 1 1 (fun _ => 1) | 2 => vv = [some (.slice aL L0 cL)] | 3 => vv = [some (.int .i64 L0)] | 4 => ∃ (k4 : Nat), vv = [some (.slice (some ⟨k4, 0, none⟩) L0 L0)] ∧ KRow yy .i64 (some ⟨k4, 0, none⟩) L0 L0 (fun _ => 1) | 5 => ∃ (k5 : Nat), vv = [some (.slice (some ⟨k5, 0, none⟩) 1 1)] ∧ KRow yy .i64 (some ⟨k5, 0, none⟩) 1 1 (fun _ => 0) | 6 => ∃ (x6 : Array Value), vv = [some (.tuple #[.agg x6, .bool true])] ∧ Arr yy x6 (fun _ => 1) L0 ch 1 g fP fQ ∧ IsA x6 | 7 => ∃ (x6 : Array Value), vv = [some (.tuple #[.agg x6, .bool true])] ∧ Arr yy x6 (fun _ => 1) L0 ch 1 g fP fQ ∧ IsA x6 | 8 => ∃ (x6 : Array Value), vv = [some (.agg x6)] ∧ Arr yy x6 (fun _ => 1) L0 ch 1 g fP fQ ∧ IsA x6 | 9 => vv = [some (.bool true)] | 10 => ∃ (k10 : Nat), ∃ (z10 : Array Value), vv = [some (.pointer (some ⟨k10, 0, none⟩))] ∧ Row yy k10 32 z10 ∧ IsA z10 ∧ YY.heap.size ≤ k10 | 11 => ∃ (k10 : Nat), ∃ (x6 : Array Value), vv = [some (.pointer (some ⟨k10, 0, none⟩))] ∧ Row yy k10 32 x6 ∧ Arr yy x6 (fun _ => 1) L0 ch 1 g fP fQ ∧ IsA x6 | 12 => vv = [some (.bool true)] | _ => True) (Bag YY (fun _ => True)) (by kernel_rfl) (by kernel_rfl) (by kernel_rfl) (Bag.start YY).drew ?_ ?_ ?_
        · intro jj vv yw yw2 hb h
          match jj, h with
          | 0, h => exact h
          | 1, ⟨k1, e1, g1_0⟩ => exact Exists.intro k1 (And.intro e1 (g1_0.below hb))
          | 2, h => exact h
          | 3, h => exact h
          | 4, ⟨k4, e4, g4_0⟩ => exact Exists.intro k4 (And.intro e4 (g4_0.below hb))
          | 5, ⟨k5, e5, g5_0⟩ => exact Exists.intro k5 (And.intro e5 (g5_0.below hb))
          | 6, ⟨x6, e6, g6_0, g6_1⟩ => exact Exists.intro x6 (And.intro e6 (And.intro (g6_0.below hb) g6_1))
          | 7, ⟨x6, e7, g7_0, g7_1⟩ => exact Exists.intro x6 (And.intro e7 (And.intro (g7_0.below hb) g7_1))
          | 8, ⟨x6, e8, g8_0, g8_1⟩ => exact Exists.intro x6 (And.intro e8 (And.intro (g8_0.below hb) g8_1))
          | 9, h => exact h
          | 10, ⟨k10, z10, e10, g10_0, g10_1, g10_2⟩ => exact Exists.intro k10 (Exists.intro z10 (And.intro e10 (And.intro (g10_0.below hb) (And.intro g10_1 g10_2))))
          | 11, ⟨k10, x6, e11, g11_0, g11_1, g11_2⟩ => exact Exists.intro k10 (Exists.intro x6 (And.intro e11 (And.intro (g11_0.below hb) (And.intro (g11_1.below hb) g11_2))))
          | 12, h => exact h
          | _ + 13, h => exact h
        · intro ac yw hsz hdf hold hB hp
          obtain ⟨k10, x6, e11, r10, a6, i6⟩ := hp 11 (by decide)
          have t10 : ac.tmps[10]? = some (.pointer (some ⟨k10, 0, none⟩)) := (List.cons.inj e11).1
          have t11 : ac.tmps[11]? = some (.bool true) := (List.cons.inj (hp 12 (by decide))).1
          have t2 : ac.tmps[2]? = some (.func (.func fv) #[] #[]) := hold 2 (by kernel_rfl)
          have t4 : ac.tmps[4]? = some (.pointer (some ⟨w.heap.size + 1, 0, none⟩)) := hold 4 (by kernel_rfl)
          have t6 : ac.tmps[6]? = some (.pointer (some ⟨w.heap.size + 1 + 1, 0, none⟩)) := hold 6 (by kernel_rfl)
          have t8 : ac.tmps[8]? = some (.slice aL L0 cL) := hold 8 (by kernel_rfl)
          have BB := Lib.hid (BB.out.go hB.below)
          have HR10 := Lib.hid r10
          have HRA := Lib.hid BB.out.now.2.1
          have HA : Hid (Arr (yw.setRow (w.heap.size + 1) x6) x6 (fun _ => 1) L0 ch 1 g fP fQ) := Lib.hid (a6.store HRA.out ⟨_, _, _, _, _, _, _, _, _, rfl⟩ x6)
          have HR4 := Lib.hid (HRA.out.put x6)
          have BB : Hid (Bag w (fun y => Row y (w.heap.size + 1 + 1) 32 zerC ∧ Row y (w.heap.size + 1) 32 x6 ∧ KRow y .i64 aL L0 cL P0 ∧ True) (yw.setRow (w.heap.size + 1) x6)) := Lib.hid ⟨below_put BB.out.below (show w.heap.size ≤ w.heap.size + 1 by omega) x6, fun a b hb ⟨h1, h2, h3, _⟩ => ⟨h1.below hb, h2.below hb, h3.below hb, trivial⟩, BB.out.now.1.puto (show w.heap.size + 1 + 1 ≠ w.heap.size + 1 by omega) x6, HRA.out.put x6, BB.out.now.2.2.1.away HNW.out (Far.setRow _ _ _), trivial⟩
          have CP : Hid (∀ aF cF A C wz, Arr wz x6 (fun _ => 1) L0 ch 1 g fP fQ → LRow wz aF L0 cF A NN C FF → Calls Tryz.prog 49 #[.agg x6, .slice aF L0 cF] wz fun e w' => MoTold EE TT L0 ch MM eC eP eQ wz w' e) := Lib.hid (fun aF cF A C wz q1 q2 => CP.out x6 aF cF A C wz q1 q2)
          have RK2 := Lib.hid (fun wz h => rank8_any x6 (fun _ => 1) L0 ch 1 g fP fQ wz h (by omega))
          have SH2 : Hid (∀ wz, Arr wz x6 (fun _ => 1) L0 ch 1 g fP fQ → Calls Tryz.prog 47 #[.agg x6] wz fun e w' => ∃ g c', e = .returned (.slice (some ⟨g, 0, none⟩) L0 c') ∧ wz.heap.size ≤ g ∧ g < w'.heap.size ∧ KRow w' .i64 (some ⟨g, 0, none⟩) L0 c' (fun _ => 1) ∧ Below wz.heap.size wz w') := Lib.hid (fun wz q => shape_new x6 (fun _ => 1) L0 ch 1 g fP fQ wz q hL8)
          obtain ⟨q1, q2, q3, q4, q5, q6, q7, q8, q9, hx6⟩ := i6
          subst hx6
          clear hold hp e11 r10 a6 hB
          obtain ⟨TW, hTW⟩ : ∃ TW : Nat → Value, ∀ i, (ac.tmps[i]?).getD undef = TW i := ⟨_, fun _ => rfl⟩
          have f2 := (hTW 2).symm.trans (congrArg (fun x => Option.getD x undef) t2)
          have f4 := (hTW 4).symm.trans (congrArg (fun x => Option.getD x undef) t4)
          have f6 := (hTW 6).symm.trans (congrArg (fun x => Option.getD x undef) t6)
          have f8 := (hTW 8).symm.trans (congrArg (fun x => Option.getD x undef) t8)
          have f10 := (hTW 10).symm.trans (congrArg (fun x => Option.getD x undef) t10)
          have f11 := (hTW 11).symm.trans (congrArg (fun x => Option.getD x undef) t11)
          have hac := act_eq (n := 75) hsz TW hTW
          rw [show ((List.range 75).map TW).toArray = #[TW 0, TW 1, TW 2, TW 3, TW 4, TW 5, TW 6, TW 7, TW 8, TW 9, TW 10, TW 11, TW 12, TW 13, TW 14, TW 15, TW 16, TW 17, TW 18, TW 19, TW 20, TW 21, TW 22, TW 23, TW 24, TW 25, TW 26, TW 27, TW 28, TW 29, TW 30, TW 31, TW 32, TW 33, TW 34, TW 35, TW 36, TW 37, TW 38, TW 39, TW 40, TW 41, TW 42, TW 43, TW 44, TW 45, TW 46, TW 47, TW 48, TW 49, TW 50, TW 51, TW 52, TW 53, TW 54, TW 55, TW 56, TW 57, TW 58, TW 59, TW 60, TW 61, TW 62, TW 63, TW 64, TW 65, TW 66, TW 67, TW 68, TW 69, TW 70, TW 71, TW 72, TW 73, TW 74] from rfl, f2, f4, f6, f8, f10, f11, hdf] at hac
          simp only [Option.getD_some] at hac
          subst hac
          clear hTW f2 f4 f6 f8 f10 f11
          unfold arrC at HR10 HR4 HRA
          go_wp2_with (first
            | (refine ld_arr rfl (.tmp 10) rfl k10 rfl HR10.out ?_)
            | (refine st_arr rfl (.tmp 4) (.tmp 40) rfl (w.heap.size + 1) rfl _ _ _ _ _ _ _ _ _ rfl HRA.out rfl ?_)
            | (refine ld_arr rfl (.tmp 4) rfl (w.heap.size + 1) rfl HR4.out ?_))
          go_at_call 44
          (with_reducible refine (RK2.out _ ?_).mono ?_)
          · exact HA.out
          rintro e w7 ⟨rfl, hb7⟩
          have HA := Lib.hid (HA.out.below hb7)
          have BB := Lib.hid (BB.out.go hb7)
          clear hb7
          have d9 : ((L0 : Int) != (L0 : Int)) = false := bne_self_eq_false _
          have HB71 : Hid (Below w7.heap.size w7 (w7.alloc (.cells (madeCells (Value.cells (.slice none 0 0)) L0) 22))) := Lib.hid ((Below.refl _ _).alloc (Nat.le_refl _) _)
          have B1 := Lib.hid (BB.out.go HB71.out)
          have HR5 := Lib.hid B1.out.now.2.1
          have HLT := Lib.hid (LTo.made w7 L0 22 NN FF rfl)
          have HA2 := Lib.hid (HA.out.below HB71.out)
          clear HNO
          go_wp2_with (refine ld_arr rfl (.tmp 4) rfl (w.heap.size + 1) rfl HR5.out ?_)
          go_at_call 47
          (with_reducible refine (SH2.out _ ?_).mono ?_)
          · exact HA2.out
          rintro e w8 ⟨g8, c8, rfl, hge8, hlt8, hk8, hb8⟩
          rw [World.size_alloc] at hge8
          have HB78 := Lib.hid (HB71.out.trans (hb8.mono HB71.out.size))
          have HLT8 := Lib.hid (HLT.out.below hb8)
          have HK8 := Lib.hid hk8
          have hl8 := hk8.len
          clear hk8 hb8
          go_wp2_with fail
          go_loopw [53] (fun i wr => ∃ k : Nat, k ≤ L0 ∧ i = .int .i64 k ∧ Hid (Wrote w7.heap.size 0 L0 w8 wr ∧ LTo wr w7.heap.size L0 k NN FF)) (fun i _ => L0 - (intOf i).toNat)
          case atStart => exact ⟨0, by omega, rfl, Wrote.refl _ _ _ _, HLT8.out⟩
          case round =>
            obtain ⟨k, hk, rfl, hrel⟩ := hrel
            obtain ⟨hwr, hto⟩ := hrel.out
            have hbw : Below w7.heap.size w7 wr := hwr.below HB78.out (Nat.le_refl _) HB78.out.size
            have BW := Lib.hid (BB.out.go hbw)
            by_cases hlt : k < L0
            · obtain ⟨b1, o1, e1, hb1, hc1⟩ := HK8.out.get hlt
              cases e1
              rw [Nat.zero_add] at hc1
              have hc1' := (World.cell?_of_block (w := w8) (w' := wr) (a := ⟨g8, k, none⟩) (hwr.block g8 hb1 (by omega))).trans hc1
              obtain ⟨b2, o2, e2, hb2, hc2⟩ := BB.out.now.2.2.1.get hlt
              cases e2
              have hc2' := (hbw.cell (p := ⟨b2, o2 + k, none⟩) hb2).trans hc2
              have hwl : w7.heap.size < wr.heap.size := hto.1
              have hTL := Lib.hid (fun wz => TL.out k hlt wz)
              obtain ⟨⟨z0, x1, nz⟩, y1⟩ := hto.place hlt
              have HTO := Lib.hid hto
              have HWR := Lib.hid hwr
              have hk0 : (0 : Int) ≤ k := by omega
              have hk1 : (k : Int) < L0 := by omega
              clear hrel hwr hto hbw hc1 hc2 x1
              obtain ⟨tt, htt⟩ : ∃ tt, bnd 4097 (P0 k) = tt := ⟨_, rfl⟩
              rw [htt] at hTL
              generalize (fun _ : Nat => (1 : Int)) k = sk at *
              have BDk := Lib.hid (fun wz => bounded_any (P0 k) wz)
              rw [htt] at BDk
              clear htt
              generalize P0 k = pk at *
              go_wp2_with fail
              go_at_call 48
              (with_reducible refine (BDk.out _).mono ?_)
              rintro e w9 ⟨rfl, rfl⟩
              go_wp2_with fail
              go_at_fn fv
              (refine (hTL.out _).mono ?_)
              rintro e w10 ⟨a10, c10, rfl, hk10, hb10⟩
              have hto := HTO.out.below hb10
              obtain ⟨⟨z0, x1, nz⟩, y1⟩ := hto.place hlt
              have HN : Hid (Wrote w7.heap.size 0 L0 w8 (w10.setCell ⟨w7.heap.size, k, none⟩ (.slice (some a10) (NN k) c10)) ∧ LTo (w10.setCell ⟨w7.heap.size, k, none⟩ (.slice (some a10) (NN k) c10)) w7.heap.size L0 (k + 1) NN FF) := Lib.hid ⟨(HWR.out.trans (Wrote.of_below hb10 hwl)).setCell (Nat.zero_le k) hlt _, hto.step hlt hk10⟩
              clear hto hk10 hb10
              generalize NN k = nk at *
              go_wp2
              go_roundw
              case rel => exact ⟨k + 1, by omega, by go_num, HN.out⟩
              case measure => simp [intOf]; omega
            · have hkl : k = L0 := by omega
              subst k
              obtain ⟨A9, C9, hLR⟩ := hto.done (by unfold maxLen; omega)
              have HLR := Lib.hid hLR
              have HR9 := Lib.hid BW.out.now.2.1
              have HA9 := Lib.hid (HA.out.below hbw)
              clear hrel hwr hto hbw hLR hlt
              go_wp2_with (refine ld_arr rfl (.tmp 4) rfl (w.heap.size + 1) rfl HR9.out ?_)
              go_at_call 49
              (refine (CP.out _ _ _ _ _ HA9.out HLR.out).mono ?_)
              rintro e w9 hmt
              obtain ⟨x9, rfl, hm9, hb9⟩ := hmt.res
              have B9 := BW.out.go hb9
              have HZ := Lib.hid B9.now.1
              have HE : Hid (MoTold EE TT L0 ch MM eC eP eQ w (w9.setRow (w.heap.size + 1 + 1) x9) (.returned (.tuple #[.agg x9, .int .i64 EE]))) := Lib.hid ⟨x9, rfl, fun e => (hm9.2.1 e).put HZ.out x9, hm9.2.2, below_put B9.below (show w.heap.size ≤ w.heap.size + 1 + 1 by omega) x9⟩
              obtain ⟨q1, q2, q3, q4, q5, q6, q7, q8, q9, hx9⟩ := hm9.1
              subst hx9
              clear hmt hm9 hb9 B9
              unfold arrC
              unfold arrC at HZ
              go_wp2_with (refine st_arr rfl (.tmp 6) (.tmp 73) rfl (w.heap.size + 1 + 1) rfl _ _ _ _ _ _ _ _ _ rfl HZ.out rfl ?_)
              exact bodyPost_ret (res_arr2 Tryz.results22 rfl rfl (HZ.out.put _) rfl) rfl HE.out
        refine Stps2.cons (o := _) ?_ ?_
        · intro ac yw hsz hold hB hp K hK
          have t4 : ac.tmps[4]? = some (.pointer (some ⟨w.heap.size + 1, 0, none⟩)) := hold 4 (by kernel_rfl)
          clear hold hp hsz
          rw [if_pos (by rfl)]
          refine ld8 4 rfl (w.heap.size + 1) ((arrC ch ((r : Int) - 1) (dm S r) na nn nc ta tn tc)) t4 ((BB.out.go hB.below).now.2.1) (rfl) ?_
          exact hK.out _ _ ⟨hB, rfl, Nat.le_refl _, .inl (Below.refl _ _), fun h => absurd h (by decide)⟩
        refine Stps2.cons (o := _) ?_ ?_
        · intro ac yw hsz hold hB hp K hK
          clear hold hp hsz
          have hbz : Below yw.heap.size yw (yw.alloc (.cells #[.int .i64 1] 3)) ∧ yw.heap.size < (yw.alloc (.cells #[.int .i64 1] 3)).heap.size := ⟨(Below.refl _ _).alloc (Nat.le_refl _) _, by rw [World.size_alloc]; omega⟩
          go_simp
          exact hK.out _ _ ⟨hB.alloc _, Exists.intro yw.heap.size (And.intro rfl (KRow.one' yw .i64 1 3)), Nat.le_of_lt hbz.2, .inl hbz.1, fun _ => ⟨_, rfl, Nat.le_refl _, hbz.2⟩⟩
        refine Stps2.cons (o := _) ?_ ?_
        · intro ac yw hsz hold hB hp K hK
          have t8 : ac.tmps[8]? = some (.slice aL L0 cL) := hold 8 (by kernel_rfl)
          clear hold hp hsz
          go_simp
          exact hK.out _ _ ⟨hB, rfl, Nat.le_refl _, .inl (Below.refl _ _), fun h => absurd h (by decide)⟩
        refine Stps2.cons (o := _) ?_ ?_
        · intro ac yw hsz hold hB hp K hK
          have e2 := hp 2 (by decide)
          have t30 : ac.tmps[30]? = some (.slice aL L0 cL) := (List.cons.inj e2).1
          clear hold hp hsz e2
          go_simp
          exact hK.out _ _ ⟨hB, rfl, Nat.le_refl _, .inl (Below.refl _ _), fun h => absurd h (by decide)⟩
        refine Stps2.cons (o := _) ?_ ?_
        · intro ac yw hsz hold hB hp K hK
          obtain ⟨k1_1, e1, g1_0⟩ := hp 1 (by decide)
          have t29 : ac.tmps[29]? = some (.slice (some ⟨k1_1, 0, none⟩) 1 1) := (List.cons.inj e1).1
          have e3 := hp 3 (by decide)
          have t31 : ac.tmps[31]? = some (.int .i64 L0) := (List.cons.inj e3).1
          clear hold hp hsz e1 e3
          go_simp
          (go_at_call 46; (refine (RP.out _ _ g1_0).mono ?_); rintro e wz ⟨k4, rfl, hge, hlt4, h4_0, hbz⟩)
          exact hK.out _ _ ⟨hB.go hbz, Exists.intro k4 (And.intro rfl h4_0), hbz.size, .inl hbz, fun _ => ⟨_, rfl, hge, hlt4⟩⟩
        refine Stps2.cons (o := _) ?_ ?_
        · intro ac yw hsz hold hB hp K hK
          clear hold hp hsz
          have hbz : Below yw.heap.size yw (yw.alloc (.cells #[.int .i64 0] 3)) ∧ yw.heap.size < (yw.alloc (.cells #[.int .i64 0] 3)).heap.size := ⟨(Below.refl _ _).alloc (Nat.le_refl _) _, by rw [World.size_alloc]; omega⟩
          go_simp
          exact hK.out _ _ ⟨hB.alloc _, Exists.intro yw.heap.size (And.intro rfl (KRow.one' yw .i64 0 3)), Nat.le_of_lt hbz.2, .inl hbz.1, fun _ => ⟨_, rfl, Nat.le_refl _, hbz.2⟩⟩
        refine Stps2.cons (o := _) ?_ ?_
        · intro ac yw hsz hold hB hp K hK
          have e0 := hp 0 (by decide)
          have t28 : ac.tmps[28]? = some (.agg (arrC ch ((r : Int) - 1) (dm S r) na nn nc ta tn tc)) := (List.cons.inj e0).1
          obtain ⟨k4_4, e4, g4_0⟩ := hp 4 (by decide)
          have t32 : ac.tmps[32]? = some (.slice (some ⟨k4_4, 0, none⟩) L0 L0) := (List.cons.inj e4).1
          obtain ⟨k5_5, e5, g5_0⟩ := hp 5 (by decide)
          have t33 : ac.tmps[33]? = some (.slice (some ⟨k5_5, 0, none⟩) 1 1) := (List.cons.inj e5).1
          clear hold hp hsz e0 e4 e5
          go_simp
          (go_at_call 45; (refine (PK.out _ _ _ (H.out.below (BB.out.go hB.below).below) g4_0 g5_0).mono ?_); rintro e wz ⟨x6, rfl, h6_0, hbz⟩)
          exact hK.out _ _ ⟨hB.go hbz, Exists.intro x6 (And.intro rfl (And.intro h6_0 h6_0.isA)), hbz.size, .inl hbz, fun h => absurd h (by decide)⟩
        refine Stps2.cons (o := _) ?_ ?_
        · intro ac yw hsz hold hB hp K hK
          obtain ⟨x6_6, e6, g6_0, g6_1⟩ := hp 6 (by decide)
          have t34 : ac.tmps[34]? = some (.tuple #[.agg x6_6, .bool true]) := (List.cons.inj e6).1
          clear hold hp hsz e6
          go_simp
          exact hK.out _ _ ⟨hB, Exists.intro x6_6 (And.intro rfl (And.intro g6_0 g6_1)), Nat.le_refl _, .inl (Below.refl _ _), fun h => absurd h (by decide)⟩
        refine Stps2.cons (o := _) ?_ ?_
        · intro ac yw hsz hold hB hp K hK
          obtain ⟨x6_7, e7, g7_0, g7_1⟩ := hp 7 (by decide)
          have t27 : ac.tmps[27]? = some (.tuple #[.agg x6_7, .bool true]) := (List.cons.inj e7).1
          clear hold hp hsz e7
          go_simp
          exact hK.out _ _ ⟨hB, Exists.intro x6_7 (And.intro rfl (And.intro g7_0 g7_1)), Nat.le_refl _, .inl (Below.refl _ _), fun h => absurd h (by decide)⟩
        refine Stps2.cons (o := _) ?_ ?_
        · intro ac yw hsz hold hB hp K hK
          obtain ⟨x6_7, e7, g7_0, g7_1⟩ := hp 7 (by decide)
          have t27 : ac.tmps[27]? = some (.tuple #[.agg x6_7, .bool true]) := (List.cons.inj e7).1
          clear hold hp hsz e7
          go_simp
          exact hK.out _ _ ⟨hB, rfl, Nat.le_refl _, .inl (Below.refl _ _), fun h => absurd h (by decide)⟩
        refine Stps2.cons (o := _) ?_ ?_
        · intro ac yw hsz hold hB hp K hK
          clear hold hp hsz
          have hbz : Below yw.heap.size yw (yw.alloc (.cells zerC 32)) ∧ yw.heap.size < (yw.alloc (.cells zerC 32)).heap.size := ⟨(Below.refl _ _).alloc (Nat.le_refl _) _, by rw [World.size_alloc]; omega⟩
          go_simp
          exact hK.out _ _ ⟨hB.alloc _, Exists.intro yw.heap.size (Exists.intro zerC (And.intro rfl (And.intro ((Row.new yw _ zerC)) (And.intro IsA.zer hB.below.size)))), Nat.le_of_lt hbz.2, .inl hbz.1, fun _ => ⟨_, rfl, Nat.le_refl _, hbz.2⟩⟩
        refine Stps2.cons (o := _) ?_ ?_
        · intro ac yw hsz hold hB hp K hK
          obtain ⟨k10_10, z10_10, e10, g10_0, g10_1, g10_2⟩ := hp 10 (by decide)
          have t10 : ac.tmps[10]? = some (.pointer (some ⟨k10_10, 0, none⟩)) := (List.cons.inj e10).1
          obtain ⟨x6_8, e8, g8_0, g8_1⟩ := hp 8 (by decide)
          have t35 : ac.tmps[35]? = some (.agg x6_8) := (List.cons.inj e8).1
          clear hold hp hsz e10 e8
          rw [if_pos (by rfl)]
          have HB : Bag _ (fun _ => True) (yw.setRow k10_10 x6_8) := ⟨below_put hB.below g10_2 _, fun _ _ _ _ => trivial, trivial⟩
          refine st8 10 35 rfl k10_10 x6_8 t10 t35 _ z10_10 g10_0 g10_1 g8_1 ?_
          refine hK.out undef _ ⟨HB, Exists.intro k10_10 (Exists.intro x6_8 (And.intro (congrArg (fun x => [x]) t10) (And.intro (g10_0.put _) (And.intro (g8_0.store g10_0 g10_1 _) g8_1)))), by simp [World.setRow], .inr ?_, fun h => absurd h (by decide)⟩
          intro jj hj hap h
          match jj, h with
          | 0, h => exact h
          | 1, ⟨k1, e1, g1_0⟩ =>
            have hne : k1 ≠ k10_10 := fun e => hap 10 (by decide) 1 (by decide) (by decide) (by decide) (by decide) k10_10 ⟨10, _, rfl, t10, rfl⟩ ⟨29, _, rfl, (List.cons.inj e1).1, congrArg some e⟩
            exact Exists.intro k1 (And.intro e1 (g1_0.away (.inr (fun x hx => by obtain rfl := Option.some.inj hx; exact hne)) (Far.setRow _ _ _)))
          | 2, h => exact h
          | 3, h => exact h
          | 4, ⟨k4, e4, g4_0⟩ =>
            have hne : k4 ≠ k10_10 := fun e => hap 10 (by decide) 4 (by decide) (by decide) (by decide) (by decide) k10_10 ⟨10, _, rfl, t10, rfl⟩ ⟨32, _, rfl, (List.cons.inj e4).1, congrArg some e⟩
            exact Exists.intro k4 (And.intro e4 (g4_0.away (.inr (fun x hx => by obtain rfl := Option.some.inj hx; exact hne)) (Far.setRow _ _ _)))
          | 5, ⟨k5, e5, g5_0⟩ =>
            have hne : k5 ≠ k10_10 := fun e => hap 10 (by decide) 5 (by decide) (by decide) (by decide) (by decide) k10_10 ⟨10, _, rfl, t10, rfl⟩ ⟨33, _, rfl, (List.cons.inj e5).1, congrArg some e⟩
            exact Exists.intro k5 (And.intro e5 (g5_0.away (.inr (fun x hx => by obtain rfl := Option.some.inj hx; exact hne)) (Far.setRow _ _ _)))
          | 6, ⟨x6, e6, g6_0, g6_1⟩ =>
            exact Exists.intro x6 (And.intro e6 (And.intro (g6_0.store g10_0 g10_1 _) g6_1))
          | 7, ⟨x6, e7, g7_0, g7_1⟩ =>
            exact Exists.intro x6 (And.intro e7 (And.intro (g7_0.store g10_0 g10_1 _) g7_1))
          | 8, ⟨x6, e8, g8_0, g8_1⟩ =>
            exact Exists.intro x6 (And.intro e8 (And.intro (g8_0.store g10_0 g10_1 _) g8_1))
          | 9, h => exact h
          | 10, ⟨k10, z10, e10, g10_0, g10_1, g10_2⟩ =>
            have e9 : k10 = k10_10 := by have := (List.cons.inj e10).1.symm.trans t10; cases this; rfl
            subst e9
            exact Exists.intro _ (Exists.intro _ (And.intro e10 (And.intro (g10_0.put _) (And.intro g8_1 g10_2))))
          | 11, _ => exact absurd rfl hj
          | 12, h => exact h
          | _ + 13, h => exact h
        refine Stps2.cons (o := _) ?_ ?_
        · intro ac yw hsz hold hB hp K hK
          have e9 := hp 9 (by decide)
          have t36 : ac.tmps[36]? = some (.bool true) := (List.cons.inj e9).1
          clear hold hp hsz e9
          go_simp
          exact hK.out _ _ ⟨hB, rfl, Nat.le_refl _, .inl (Below.refl _ _), fun h => absurd h (by decide)⟩
        exact Stps2.nil _
    · have hS2 := HS3 hr
      rw [hS2] at TL CPG
      have d0 : (((r : Nat) : Int) == 0) = false := beq_eq_false_iff_ne.2 (by omega)
      have CP : Hid (L0 = r → ∀ aF cF A C wz, Arr wz (arrC ch ((r : Int) - 1) (dm S r) na nn nc ta tn tc) S r ch L g fP fQ → LRow wz aF L0 cF A NN C FF → Calls Tryz.prog 49 #[.agg (arrC ch ((r : Int) - 1) (dm S r) na nn nc ta tn tc), .slice aF L0 cF] wz fun e w' => MoTold EE TT L0 ch MM eC eP eQ wz w' e) := Lib.hid (fun e aF cF A C wz q1 q2 => by
        rw [if_pos (.inr e), if_neg (by omega)] at hEE
        exact CPG.out (arrC ch ((r : Int) - 1) (dm S r) na nn nc ta tn tc) (.inr e) (by rw [e]; exact hsh) (by omega) hEE.symm aF cF A C wz (by rw [e]; exact q1) q2)
      have HNE : Hid (¬ L0 = r → EE = 24) := Lib.hid (fun e => by rw [if_neg (fun h => h.elim hr e)] at hEE; exact hEE.symm)
      have RK2 := RK
      have HSB : Hid (L0 = r → True) := Lib.hid (fun _ => trivial)
      have SH2 : Hid (L0 = r → ∀ wz, Arr wz (arrC ch ((r : Int) - 1) (dm S r) na nn nc ta tn tc) S r ch L g fP fQ → Calls Tryz.prog 47 #[.agg (arrC ch ((r : Int) - 1) (dm S r) na nn nc ta tn tc)] wz fun e w' => ∃ g c', e = .returned (.slice (some ⟨g, 0, none⟩) L0 c') ∧ wz.heap.size ≤ g ∧ g < w'.heap.size ∧ KRow w' .i64 (some ⟨g, 0, none⟩) L0 c' S ∧ Below wz.heap.size wz w') := Lib.hid (fun e wz q => by rw [e]; exact shape_new (arrC ch ((r : Int) - 1) (dm S r) na nn nc ta tn tc) S r ch L g fP fQ wz q h8)
      have TL : Hid (L0 = r → ∀ k, k < L0 → ∀ wz, Calls Tryz.prog fv #[.int .i64 (bnd 4097 (P0 k)), .int .i64 (S k)] wz fun e w' => ∃ a c, e = .returned (.slice (some a) (NN k) c) ∧ KRow w' .i64 (some a) (NN k) c (FF k) ∧ Below wz.heap.size wz w') := Lib.hid (fun e => TL.out (.inr e))
      clear HS1 HS3 hcnt hax hsh hS hEE CPG hS2 S2
      unfold arrC
      go_enter Tryz.func22, Tryz.ntmps22
      go_wp2_with (refine ld_arr rfl (.tmp 3) rfl w.heap.size rfl HR1.out ?_)
      go_at_call 43
      (with_reducible refine (LI.out _ ?_).mono ?_)
      · exact H0.out.below B0.out.below
      rintro e w3 ⟨aL, mL, cL, rfl, hk6, hb3⟩
      obtain ⟨hm6, hk7, hnw⟩ := hk6 trivial
      clear hk6
      subst mL
      have BB := Lib.hid (B0.out.go hb3)
      have BB : Hid (Bag w (fun y => Row y (w.heap.size + 1 + 1) 32 zerC ∧ Row y (w.heap.size + 1) 32 (arrC ch ((r : Int) - 1) (dm S r) na nn nc ta tn tc) ∧ KRow y .i64 aL L0 cL P0 ∧ True) w3) := Lib.hid ⟨BB.out.below, fun a b hb ⟨h1, h2, h3, _⟩ => ⟨h1.below hb, h2.below hb, h3.below hb, trivial⟩, BB.out.now.1, BB.out.now.2.1, hk7, trivial⟩
      have HR4 := Lib.hid BB.out.now.2.1
      have hl := hk7.len
      clear hk7 hnw hb3
      go_wp2_with (refine ld_arr rfl (.tmp 4) rfl (w.heap.size + 1) rfl HR4.out ?_)
      go_at_call 44
      (with_reducible refine (RK.out _ ?_).mono ?_)
      · exact H.out.below BB.out.below
      rintro e w4 ⟨rfl, hb4⟩
      have BB := Lib.hid (BB.out.go hb4)
      have HA := Lib.hid (H.out.below BB.out.below)
      clear hb4 HR4
      have HR4 := Lib.hid BB.out.now.2.1
      go_wp2_with (refine ld_arr rfl (.tmp 4) rfl (w.heap.size + 1) rfl HR4.out ?_)
      go_at_call 44
      (with_reducible refine (RK2.out _ ?_).mono ?_)
      · exact HA.out
      rintro e w7 ⟨rfl, hb7⟩
      have HA := Lib.hid (HA.out.below hb7)
      have BB := Lib.hid (BB.out.go hb7)
      clear hb7
      by_cases hlr : L0 = r
      · have d9 : ((L0 : Int) != (r : Int)) = false := by rw [hlr]; exact bne_self_eq_false _
        have CP := Lib.hid (CP.out hlr)
        have SH2 := Lib.hid (SH2.out hlr)
        have TL := Lib.hid (TL.out hlr)
        have HSB := Lib.hid (HSB.out hlr)
        have HB71 : Hid (Below w7.heap.size w7 (w7.alloc (.cells (madeCells (Value.cells (.slice none 0 0)) L0) 22))) := Lib.hid ((Below.refl _ _).alloc (Nat.le_refl _) _)
        have B1 := Lib.hid (BB.out.go HB71.out)
        have HR5 := Lib.hid B1.out.now.2.1
        have HLT := Lib.hid (LTo.made w7 L0 22 NN FF rfl)
        have HA2 := Lib.hid (HA.out.below HB71.out)
        clear hlr HNO HNE
        go_wp2_with (refine ld_arr rfl (.tmp 4) rfl (w.heap.size + 1) rfl HR5.out ?_)
        go_at_call 47
        (with_reducible refine (SH2.out _ ?_).mono ?_)
        · exact HA2.out
        rintro e w8 ⟨g8, c8, rfl, hge8, hlt8, hk8, hb8⟩
        rw [World.size_alloc] at hge8
        have HB78 := Lib.hid (HB71.out.trans (hb8.mono HB71.out.size))
        have HLT8 := Lib.hid (HLT.out.below hb8)
        have HK8 := Lib.hid hk8
        have hl8 := hk8.len
        clear hk8 hb8
        go_wp2_with fail
        go_loopw [53] (fun i wr => ∃ k : Nat, k ≤ L0 ∧ i = .int .i64 k ∧ Hid (Wrote w7.heap.size 0 L0 w8 wr ∧ LTo wr w7.heap.size L0 k NN FF)) (fun i _ => L0 - (intOf i).toNat)
        case atStart => exact ⟨0, by omega, rfl, Wrote.refl _ _ _ _, HLT8.out⟩
        case round =>
          obtain ⟨k, hk, rfl, hrel⟩ := hrel
          obtain ⟨hwr, hto⟩ := hrel.out
          have hbw : Below w7.heap.size w7 wr := hwr.below HB78.out (Nat.le_refl _) HB78.out.size
          have BW := Lib.hid (BB.out.go hbw)
          by_cases hlt : k < L0
          · obtain ⟨b1, o1, e1, hb1, hc1⟩ := HK8.out.get hlt
            cases e1
            rw [Nat.zero_add] at hc1
            have hc1' := (World.cell?_of_block (w := w8) (w' := wr) (a := ⟨g8, k, none⟩) (hwr.block g8 hb1 (by omega))).trans hc1
            obtain ⟨b2, o2, e2, hb2, hc2⟩ := BB.out.now.2.2.1.get hlt
            cases e2
            have hc2' := (hbw.cell (p := ⟨b2, o2 + k, none⟩) hb2).trans hc2
            have hwl : w7.heap.size < wr.heap.size := hto.1
            have hTL := Lib.hid (fun wz => TL.out k hlt wz)
            obtain ⟨⟨z0, x1, nz⟩, y1⟩ := hto.place hlt
            have HTO := Lib.hid hto
            have HWR := Lib.hid hwr
            have hk0 : (0 : Int) ≤ k := by omega
            have hk1 : (k : Int) < L0 := by omega
            clear hrel hwr hto hbw hc1 hc2 x1
            obtain ⟨tt, htt⟩ : ∃ tt, bnd 4097 (P0 k) = tt := ⟨_, rfl⟩
            rw [htt] at hTL
            generalize S k = sk at *
            have BDk := Lib.hid (fun wz => bounded_any (P0 k) wz)
            rw [htt] at BDk
            clear htt
            generalize P0 k = pk at *
            go_wp2_with fail
            go_at_call 48
            (with_reducible refine (BDk.out _).mono ?_)
            rintro e w9 ⟨rfl, rfl⟩
            go_wp2_with fail
            go_at_fn fv
            (refine (hTL.out _).mono ?_)
            rintro e w10 ⟨a10, c10, rfl, hk10, hb10⟩
            have hto := HTO.out.below hb10
            obtain ⟨⟨z0, x1, nz⟩, y1⟩ := hto.place hlt
            have HN : Hid (Wrote w7.heap.size 0 L0 w8 (w10.setCell ⟨w7.heap.size, k, none⟩ (.slice (some a10) (NN k) c10)) ∧ LTo (w10.setCell ⟨w7.heap.size, k, none⟩ (.slice (some a10) (NN k) c10)) w7.heap.size L0 (k + 1) NN FF) := Lib.hid ⟨(HWR.out.trans (Wrote.of_below hb10 hwl)).setCell (Nat.zero_le k) hlt _, hto.step hlt hk10⟩
            clear hto hk10 hb10
            generalize NN k = nk at *
            go_wp2
            go_roundw
            case rel => exact ⟨k + 1, by omega, by go_num, HN.out⟩
            case measure => simp [intOf]; omega
          · have hkl : k = L0 := by omega
            subst k
            obtain ⟨A9, C9, hLR⟩ := hto.done (by unfold maxLen; omega)
            have HLR := Lib.hid hLR
            have HR9 := Lib.hid BW.out.now.2.1
            have HA9 := Lib.hid (HA.out.below hbw)
            clear hrel hwr hto hbw hLR hlt
            go_wp2_with (refine ld_arr rfl (.tmp 4) rfl (w.heap.size + 1) rfl HR9.out ?_)
            go_at_call 49
            (refine (CP.out _ _ _ _ _ HA9.out HLR.out).mono ?_)
            rintro e w9 hmt
            obtain ⟨x9, rfl, hm9, hb9⟩ := hmt.res
            have B9 := BW.out.go hb9
            have HZ := Lib.hid B9.now.1
            have HE : Hid (MoTold EE TT L0 ch MM eC eP eQ w (w9.setRow (w.heap.size + 1 + 1) x9) (.returned (.tuple #[.agg x9, .int .i64 EE]))) := Lib.hid ⟨x9, rfl, fun e => (hm9.2.1 e).put HZ.out x9, hm9.2.2, below_put B9.below (show w.heap.size ≤ w.heap.size + 1 + 1 by omega) x9⟩
            obtain ⟨q1, q2, q3, q4, q5, q6, q7, q8, q9, hx9⟩ := hm9.1
            subst hx9
            clear hmt hm9 hb9 B9
            unfold arrC
            unfold arrC at HZ
            go_wp2_with (refine st_arr rfl (.tmp 6) (.tmp 73) rfl (w.heap.size + 1 + 1) rfl _ _ _ _ _ _ _ _ _ rfl HZ.out rfl ?_)
            exact bodyPost_ret (res_arr2 Tryz.results22 rfl rfl (HZ.out.put _) rfl) rfl HE.out
      · have d9 : ((L0 : Int) != (r : Int)) = true := bne_iff_ne.2 (by omega)
        have HZ := Lib.hid BB.out.now.1
        have HE := Lib.hid (HNO.out 24 _ (HNE.out hlr) (by decide) BB.out.below)
        clear hlr CP
        unfold zerC arrC at HZ
        try unfold zerC arrC
        go_wp2_with (refine st_arr rfl (.tmp 6) (.tmp 46) rfl (w.heap.size + 1 + 1) rfl false 0 (fun _ => 0) none 0 0 none 0 0 rfl HZ.out rfl ?_)
        exact bodyPost_ret (res_arr2 Tryz.results22 rfl rfl (HZ.out.put _) rfl) rfl HE.out
  · rw [if_neg hE] at hEE
    generalize liE r0 wb = E0 at *
    have dE : (E0 != 0) = true := bne_iff_ne.2 hE
    have HQ := Lib.hid (And.intro hEE.symm hE)
    clear hEE hE HS1 HS3 hcnt hax hsh hS CPG TL hhi
    unfold arrC
    go_enter Tryz.func22, Tryz.ntmps22
    go_wp2_with (refine ld_arr rfl (.tmp 3) rfl w.heap.size rfl HR1.out ?_)
    go_at_call 43
    (with_reducible refine (LI.out _ ?_).mono ?_)
    · exact H0.out.below B0.out.below
    rintro e w3 ⟨aL, mL, cL, rfl, hk6, hb3⟩
    have BB := Lib.hid (B0.out.go hb3)
    have HZ := Lib.hid BB.out.now.1
    have HE := Lib.hid (HNO.out E0 _ HQ.out.1 HQ.out.2 BB.out.below)
    clear hb3 hk6
    go_wp2_with (refine st_arr rfl (.tmp 6) (.tmp 22) rfl (w.heap.size + 1 + 1) rfl false 0 (fun _ => 0) none 0 0 none 0 0 rfl HZ.out rfl ?_)
    exact bodyPost_ret (res_arr2 Tryz.results22 rfl rfl (HZ.out.put _) rfl) rfl HE.out
end Go.Proofs.YtpmcbnliogjknaaGreatDoor

namespace Go.Proofs.YtpmcbnliogjknaaGreatDoor
open Go.RowKit
attribute [local go_sem ↓] Go.wp_at_zero Go.wp_at_succ
/-- The axes of an array along one, an element alone as a list of one. -/
def cfR (r : Nat) (i : Int) : Nat := if r = 0 ∧ i ≤ 0 then 1 else r
def cfS (r : Nat) (i : Int) (S : Nat → Int) : Nat → Int := if r = 0 ∧ i ≤ 0 then fun _ => 1 else S
def cfK (r : Nat) (i : Int) : Nat := (axI (cfR r i) i).toNat
def cfM (r : Nat) (i : Int) (S : Nat → Int) : Nat := (cfS r i S (cfK r i)).toNat
/-- The lengths, and the places, along every axis. -/
def cfN (ex : Bool) (P : Nat → Int) (L : Nat) (r : Nat) (i : Int) (S : Nat → Int) : Nat → Nat := fun j => if j = cfK r i then wcM ex P L (cfM r i S) else (cfS r i S j).toNat
def cfF (ex : Bool) (P : Nat → Int) (L : Nat) (r : Nat) (i : Int) (S : Nat → Int) : Nat → Nat → Int := fun j q => if j = cfK r i then wcH ex P L (cfM r i S) q else 0 + (q : Int)
/-- The error of what is compressed, or expanded. -/
def cfE (ex : Bool) (r0 : Nat) (ch0 : Bool) (L0 : Nat) (P0 : Nat → Int) (Q0 : Nat → Nat) (S : Nat → Int) (r : Nat) (i : Int) : Int :=
  if liE r0 (whC ch0 L0 P0 Q0) = 0 then (if nfA P0 L0 = true then 22 else if axQ (cfR r i) i = true then (if wcB ex P0 L0 (cfM r i S) = true then pkE (lnF (cfN ex P0 L0 r i S)) (cfR r i) else 24) else 23) else liE r0 (whC ch0 L0 P0 Q0)
theorem ax_one {i : Int} (h : i ≤ 0) : axI 1 i = 0 ∧ axQ 1 i = true := by
  have h1 : axI 1 i = 0 := by
    unfold axI
    split <;> omega
  refine ⟨h1, ?_⟩
  unfold axQ
  rw [h1]
  rfl
set_option linter.unusedSimpArgs false in
set_option linter.unusedVariables false in
set_option maxHeartbeats 6400000 in
set_option maxRecDepth 100000 in
theorem flagged_any (fv : FuncId) (ex : Bool) (he : Enters Tryz.prog fv) (HWH : Whiches fv ex) (cs0 : Array Value) (S0 : Nat → Int) (r0 : Nat) (ch0 : Bool) (L0 : Nat) (g0 P0 : Nat → Int) (Q0 : Nat → Nat) (cs : Array Value) (S : Nat → Int) (r : Nat) (ch : Bool) (L : Nat) (g fP : Nat → Int) (fQ : Nat → Nat) (i : Int) (w : World)
    (h0 : Arr w cs0 S0 r0 ch0 L0 g0 P0 Q0) (h : Arr w cs S r ch L g fP fQ) (hr0 : r0 ≤ 8) (hQ0 : ch0 = false → ∀ j, j < L0 → 0 < Q0 j) (hL0 : L0 ≤ 4096) (hS : In64 S r) (hsh : shB S r = true) (hcnt : itm S r = (L : Nat)) :
    Calls Tryz.prog 31 #[.agg cs0, .agg cs, .int .i64 i, .func (.func fv) #[] #[]] w fun e w' => MoTold (cfE ex r0 ch0 L0 P0 Q0 S r i) (lnF (cfN ex P0 L0 r i S)) (cfR r i) ch (itm (lnF (cfN ex P0 L0 r i S)) (cfR r i)).toNat (fun j => elC L g 32 (pkG (cfS r i S) (lnF (cfN ex P0 L0 r i S)) (cfR r i) (cfF ex P0 L0 r i S) j)) (fun j => elP L fP (pkG (cfS r i S) (lnF (cfN ex P0 L0 r i S)) (cfR r i) (cfF ex P0 L0 r i S) j)) (fun j => elQ L fQ (pkG (cfS r i S) (lnF (cfN ex P0 L0 r i S)) (cfR r i) (cfF ex P0 L0 r i S) j)) w w' e := by
  have he' := he
  unfold Enters at he'
  obtain ⟨nb, nnb, ncb, tb, tnb, tcb, hcs0, _⟩ := h0.form
  subst hcs0
  obtain ⟨na, nn, nc, ta, tn, tc, hcs, _⟩ := h.form
  subst hcs
  obtain ⟨h8, hax⟩ := sh_ax hsh
  have hL4 : L ≤ 4096 := by have := ax_bd hax; omega
  obtain ⟨i1, hi1, hy0, hy1, hy2⟩ := info_parts infoS
  have H0 := Lib.hid h0
  have H := Lib.hid h
  have LI := Lib.hid (fun wz h => cutList_any (arrC ch0 ((r0 : Int) - 1) (dm S0 r0) nb nnb ncb tb tnb tcb) S0 r0 ch0 L0 g0 P0 Q0 wz h hr0 hQ0 (by omega))
  unfold LiNew at LI
  have RK := Lib.hid (fun wz h => rank8_any (arrC ch ((r : Int) - 1) (dm S r) na nn nc ta tn tc) S r ch L g fP fQ wz h (by omega))
  have B0 := Lib.hid ((((Bag.start w).newRow (arrC ch0 ((r0 : Int) - 1) (dm S0 r0) nb nnb ncb tb tnb tcb) 32).newRow (arrC ch ((r : Int) - 1) (dm S r) na nn nc ta tn tc) 32).newRow zerC 32)
  simp only [World.size_alloc] at B0
  have HR1 := Lib.hid B0.out.now.2.2.1
  have hhi : whC ch0 L0 P0 Q0 = true → In64 P0 L0 := whC_in
  -- letters
  obtain ⟨RR, hRR⟩ : ∃ q, cfR r i = q := ⟨_, rfl⟩
  obtain ⟨S2, hS2⟩ : ∃ q, cfS r i S = q := ⟨_, rfl⟩
  obtain ⟨k, hk⟩ : ∃ q, cfK r i = q := ⟨_, rfl⟩
  obtain ⟨N, hN⟩ : ∃ q, cfM r i S = q := ⟨_, rfl⟩
  obtain ⟨NN, hNN⟩ : ∃ q, cfN ex P0 L0 r i S = q := ⟨_, rfl⟩
  obtain ⟨FF, hFF⟩ : ∃ q, cfF ex P0 L0 r i S = q := ⟨_, rfl⟩
  obtain ⟨TT, hTT⟩ : ∃ f, lnF NN = f := ⟨_, rfl⟩
  obtain ⟨EE, hEE⟩ : ∃ E, cfE ex r0 ch0 L0 P0 Q0 S r i = E := ⟨_, rfl⟩
  rw [hEE]
  unfold cfE at hEE
  rw [hRR, hNN, hTT, hN] at hEE
  rw [hRR, hS2, hNN, hFF, hTT]
  obtain ⟨eC, heC⟩ : ∃ f : Nat → Int, (fun j => elC L g 32 (pkG S2 TT RR FF j)) = f := ⟨_, rfl⟩
  obtain ⟨eP, heP⟩ : ∃ f : Nat → Int, (fun j => elP L fP (pkG S2 TT RR FF j)) = f := ⟨_, rfl⟩
  obtain ⟨eQ, heQ⟩ : ∃ f : Nat → Nat, (fun j => elQ L fQ (pkG S2 TT RR FF j)) = f := ⟨_, rfl⟩
  obtain ⟨MM, hMM⟩ : ∃ E, (itm TT RR).toNat = E := ⟨_, rfl⟩
  rw [heC, heP, heQ, hMM]
  have HNO : Hid (∀ E wz, EE = E → E ≠ 0 → Below w.heap.size w wz → MoTold EE TT RR ch MM eC eP eQ w (wz.setRow (w.heap.size + 1 + 1) zerC) (.returned (.tuple #[.agg zerC, .int .i64 E]))) := Lib.hid (fun E wz e hE hb => by
    subst e
    exact MoTold.no hE (below_put hb (show w.heap.size ≤ w.heap.size + 1 + 1 by omega) zerC))
  have hsh2 : shB S2 RR = true := by
    rw [← hS2, ← hRR]
    unfold cfS cfR
    split
    · exact (sh_ones (show 1 ≤ 8 by omega)).1
    · exact hsh
  have h82 := (sh_ax hsh2).1
  have HSX : ∀ j, j < RR → 0 ≤ S2 j ∧ S2 j ≤ 4096 := fun j hj => ax_le4 hsh2 hj
  have hmk := fun wz => run_make (P := Tryz.prog) wz 88 22 i1 _ Tryz.underlying88 hi1 hy0 .i64 .i64 RR RR (by omega) (by omega) (by rw [hy2]; omega) (by omega)
  simp only [Int.toNat_natCast, hy1, Nat.mul_one] at hmk
  have hNk : N = (S2 k).toNat := by rw [← hN, ← hS2, ← hk]; rfl
  have hNNj : ∀ j, NN j = if j = k then wcM ex P0 L0 N else (S2 j).toNat := fun j => by rw [← hNN, ← hk, ← hN, ← hS2]; rfl
  have hFFj : ∀ j, FF j = if j = k then wcH ex P0 L0 N else fun q => 0 + (q : Int) := fun j => by
    rw [← hFF, ← hk, ← hN]
    funext q
    unfold cfF
    split <;> rfl
  by_cases hE : liE r0 (whC ch0 L0 P0 Q0) = 0
  · have hin := hhi (liE_whole hE)
    rw [if_pos hE] at hEE
    rw [hE] at LI
    clear hE hhi
    cases NFL : nfA P0 L0 with
    | true =>
      rw [NFL, if_pos rfl] at hEE
      have HQ := Lib.hid hEE.symm
      clear hEE hax hsh hS hsh2 h82 HSX hNk hNNj hFFj hin hS2 hk hN hNN hFF hTT heC heP heQ hMM hRR h0 h hQ0 hmk
      unfold arrC
      go_enter Tryz.func31, Tryz.ntmps31
      go_wp2_with (refine ld_arr rfl (.tmp 4) rfl w.heap.size rfl HR1.out ?_)
      go_at_call 43
      (with_reducible refine (LI.out _ ?_).mono ?_)
      · exact H0.out.below B0.out.below
      rintro e w3 ⟨aL, mL, cL, rfl, hk6, hb3⟩
      obtain ⟨hm6, hk7, hnw⟩ := hk6 trivial
      clear hk6
      subst mL
      have BB := Lib.hid (B0.out.go hb3)
      have BB : Hid (Bag w (fun y => Row y (w.heap.size + 1 + 1) 32 zerC ∧ Row y (w.heap.size + 1) 32 (arrC ch ((r : Int) - 1) (dm S r) na nn nc ta tn tc) ∧ KRow y .i64 aL L0 cL P0 ∧ True) w3) := Lib.hid ⟨BB.out.below, fun a b hb ⟨h1, h2, h3, _⟩ => ⟨h1.below hb, h2.below hb, h3.below hb, trivial⟩, BB.out.now.1, BB.out.now.2.1, hk7, trivial⟩
      have HNW : Hid (L0 = 0 ∨ ∀ x, aL = some x → x.block ≠ w.heap.size + 1) := Lib.hid (hnw.imp id (fun h x hx => by have := h x hx; simp only [World.size_alloc] at this; omega))
      have hl := hk7.len
      have AN := Lib.hid (fun wz (q : KRow wz .i64 aL L0 cL P0) => anyNf_any aL L0 cL P0 wz q)
      rw [NFL] at AN
      clear hk7 hnw hb3
      go_wp2_with fail
      go_at_call 61
      (with_reducible refine (AN.out _ ?_).mono ?_)
      · exact BB.out.now.2.2.1
      rintro e w4 ⟨rfl, hb4⟩
      have BB := Lib.hid (BB.out.go hb4)
      clear hb4
      have HZ := Lib.hid BB.out.now.1
      have HE := Lib.hid (HNO.out 22 _ HQ.out (by decide) BB.out.below)
      unfold zerC arrC at HZ
      go_wp2_with (refine st_arr rfl (.tmp 8) (.tmp 29) rfl (w.heap.size + 1 + 1) rfl false 0 (fun _ => 0) none 0 0 none 0 0 rfl HZ.out rfl ?_)
      exact bodyPost_ret (res_arr2 Tryz.results31 rfl rfl (HZ.out.put _) rfl) rfl HE.out
    | false =>
      rw [NFL, if_neg (by decide)] at hEE
      have hfl := nfA_iff.1 NFL
      cases hq : axQ RR i with
      | false =>
        have hnA : ¬ (r = 0 ∧ i ≤ 0) := fun hA => by
          have hR : RR = 1 := by rw [← hRR]; unfold cfR; rw [if_pos hA]
          rw [hR, (ax_one hA.2).2] at hq
          cases hq
        have hR : RR = r := by rw [← hRR]; unfold cfR; rw [if_neg hnA]
        rw [hq, if_neg (by decide)] at hEE
        have HQ := Lib.hid hEE.symm
        rw [hR] at hq
        have AX := Lib.hid (fun wz (q : Arr wz (arrC ch ((r : Int) - 1) (dm S r) na nn nc ta tn tc) S r ch L g fP fQ) => moAxis_any (arrC ch ((r : Int) - 1) (dm S r) na nn nc ta tn tc) S r ch L g fP fQ i wz q h8)
        rw [hq] at AX
        generalize axI r i = ai at *
        have hd : ((((r : Nat) : Int) == 0) = true ∧ ¬ i ≤ 0) ∨ (((r : Nat) : Int) == 0) = false := by
          by_cases e : r = 0
          · exact .inl ⟨beq_iff_eq.2 (by omega), fun e2 => hnA ⟨e, e2⟩⟩
          · exact .inr (beq_eq_false_iff_ne.2 (by omega))
        clear hEE hax hsh hS hsh2 h82 HSX hNk hNNj hFFj hin hS2 hk hN hNN hFF hTT heC heP heQ hMM hRR h0 h hQ0 hnA hR hq hfl hmk
        unfold arrC
        rcases hd with ⟨d0, di⟩ | d0
        all_goals
          go_enter Tryz.func31, Tryz.ntmps31
          go_wp2_with (refine ld_arr rfl (.tmp 4) rfl w.heap.size rfl HR1.out ?_)
          go_at_call 43
          (with_reducible refine (LI.out _ ?_).mono ?_)
          · exact H0.out.below B0.out.below
          rintro e w3 ⟨aL, mL, cL, rfl, hk6, hb3⟩
          obtain ⟨hm6, hk7, hnw⟩ := hk6 trivial
          clear hk6
          subst mL
          have BB := Lib.hid (B0.out.go hb3)
          have BB : Hid (Bag w (fun y => Row y (w.heap.size + 1 + 1) 32 zerC ∧ Row y (w.heap.size + 1) 32 (arrC ch ((r : Int) - 1) (dm S r) na nn nc ta tn tc) ∧ KRow y .i64 aL L0 cL P0 ∧ True) w3) := Lib.hid ⟨BB.out.below, fun a b hb ⟨h1, h2, h3, _⟩ => ⟨h1.below hb, h2.below hb, h3.below hb, trivial⟩, BB.out.now.1, BB.out.now.2.1, hk7, trivial⟩
          have HNW : Hid (L0 = 0 ∨ ∀ x, aL = some x → x.block ≠ w.heap.size + 1) := Lib.hid (hnw.imp id (fun h x hx => by have := h x hx; simp only [World.size_alloc] at this; omega))
          have hl := hk7.len
          have AN := Lib.hid (fun wz (q : KRow wz .i64 aL L0 cL P0) => anyNf_any aL L0 cL P0 wz q)
          rw [NFL] at AN
          clear hk7 hnw hb3
          go_wp2_with fail
          go_at_call 61
          (with_reducible refine (AN.out _ ?_).mono ?_)
          · exact BB.out.now.2.2.1
          rintro e w4 ⟨rfl, hb4⟩
          have BB := Lib.hid (BB.out.go hb4)
          clear hb4
          have HR4 := Lib.hid BB.out.now.2.1
          go_wp2_with (refine ld_arr rfl (.tmp 5) rfl (w.heap.size + 1) rfl HR4.out ?_)
          go_at_call 44
          (with_reducible refine (RK.out _ ?_).mono ?_)
          · exact H.out.below BB.out.below
          rintro e w4 ⟨rfl, hb4⟩
          have BB := Lib.hid (BB.out.go hb4)
          have HA := Lib.hid (H.out.below BB.out.below)
          clear hb4 HR4
          have HR4 := Lib.hid BB.out.now.2.1
          have HR5 := Lib.hid BB.out.now.2.1
          go_wp2_with (refine ld_arr rfl (.tmp 5) rfl (w.heap.size + 1) rfl HR5.out ?_)
          go_at_call 64
          (with_reducible refine (AX.out _ ?_).mono ?_)
          · exact HA.out
          rintro e w5 ⟨rfl, hb5⟩
          have BB := Lib.hid (BB.out.go hb5)
          have HZ := Lib.hid BB.out.now.1
          have HE := Lib.hid (HNO.out 23 _ HQ.out (by decide) BB.out.below)
          clear hb5
          unfold zerC arrC at HZ
          go_wp2_with (refine st_arr rfl (.tmp 8) (.tmp 47) rfl (w.heap.size + 1 + 1) rfl false 0 (fun _ => 0) none 0 0 none 0 0 rfl HZ.out rfl ?_)
          exact bodyPost_ret (res_arr2 Tryz.results31 rfl rfl (HZ.out.put _) rfl) rfl HE.out
      | true =>
        rw [hq, if_pos rfl] at hEE
        obtain ⟨k', hk1, hkr⟩ := axQ_yes hq
        have hkk : k' = k := by rw [← hk]; unfold cfK; rw [hRR, hk1]; rfl
        subst hkk
        have HKX := HSX k' hkr
        have HSN : Hid (S2 k' = (N : Nat)) := Lib.hid (by omega)
        have hN4 : N ≤ 4096 := by omega
        obtain ⟨bW, hbW⟩ : ∃ b, wcB ex P0 L0 N = b := ⟨_, rfl⟩
        rw [hbW] at hEE
        have WH : Hid (∀ wz aL cL, KRow wz .i64 aL L0 cL P0 → Calls Tryz.prog fv #[.slice aL L0 cL, .int .i64 (N : Nat)] wz fun e w' => WcTold bW (wcM ex P0 L0 N) (wcH ex P0 L0 N) wz w' e) := Lib.hid (fun wz aL cL q => by
          have := HWH wz aL L0 cL P0 N q hfl hL0 hN4
          rw [hbW] at this
          exact this)
        unfold WcTold at WH
        have hmW := wcM_le (ex := ex) (f := P0) hL0 hN4
        have hhW := wcH_bd (ex := ex) (f := P0) hL0 hN4
        have hNNk : NN k' = wcM ex P0 L0 N := by rw [hNNj, if_pos rfl]
        have hFFk : FF k' = wcH ex P0 L0 N := by rw [hFFj, if_pos rfl]
        obtain ⟨NN0, hNN0⟩ : ∃ f : Nat → Nat, f = fun j => (S2 j).toNat := ⟨fun j => (S2 j).toNat, rfl⟩
        obtain ⟨FF0, hFF0⟩ : ∃ f : Nat → Nat → Int, (fun (_ : Nat) (q : Nat) => 0 + (q : Int)) = f := ⟨_, rfl⟩
        have hFF0 := hFF0.symm
        have HNF : Hid (∀ j, j ≠ k' → NN j = NN0 j ∧ FF j = FF0 j) := Lib.hid (fun j hj => by
          rw [hNNj, hFFj, if_neg hj, if_neg hj, hNN0, hFF0]
          exact ⟨rfl, rfl⟩)
        have HF0 : Hid (∀ j, FF0 j = fun (q : Nat) => 0 + (q : Int)) := Lib.hid (fun j => by rw [hFF0])
        have HSJ : Hid (∀ j, j < RR → S2 j = (NN0 j : Nat)) := Lib.hid (fun j hj => by have := HSX j hj; rw [hNN0]; show S2 j = ((S2 j).toNat : Int); omega)
        have HN0 : Hid (∀ j, j < RR → NN0 j ≤ 4096) := Lib.hid (fun j hj => by have := HSX j hj; rw [hNN0]; show (S2 j).toNat ≤ 4096; omega)
        have hNNb : ∀ j, j < RR → NN j ≤ 1000000 := fun j hj => by
          have h1 := HSX j hj
          rw [hNNj]
          split <;> omega
        have hFFb : ∀ j q, j < RR → q < NN j → -1000000000 ≤ FF j q ∧ FF j q ≤ 1000000000 := fun j q hj hqq => by
          have h1 := HSX j hj
          rw [hNNj] at hqq
          rw [hFFj]
          by_cases e : j = k'
          · rw [if_pos e] at hqq ⊢
            have := hhW q hqq
            omega
          · rw [if_neg e] at hqq ⊢
            show -1000000000 ≤ 0 + (q : Int) ∧ 0 + (q : Int) ≤ 1000000000
            omega
        obtain ⟨mW, hmm⟩ : ∃ m, wcM ex P0 L0 N = m := ⟨_, rfl⟩
        obtain ⟨hW, hww⟩ : ∃ m, wcH ex P0 L0 N = m := ⟨_, rfl⟩
        rw [hmm] at hNNk WH
        rw [hww] at hFFk WH
        have HNK : Hid (NN k' = mW ∧ FF k' = hW) := Lib.hid ⟨hNNk, hFFk⟩
        have HB0 : Hid (bW = false → EE = 24) := Lib.hid (fun e => by rw [e, if_neg (by decide)] at hEE; exact hEE.symm)
        have CPX : Hid (∀ X, bW = true → ∀ aF cF A C wz, Arr wz X S2 RR ch L g fP fQ → LRow wz aF RR cF A NN C FF → Calls Tryz.prog 49 #[.agg X, .slice aF RR cF] wz fun e w' => MoTold EE TT RR ch MM eC eP eQ wz w' e) := Lib.hid (fun X hb aF cF A C wz q1 q2 => by
          rw [hb, if_pos rfl] at hEE
          have := cpicked_any X S2 RR ch L g fP fQ aF cF A NN C FF wz q1 h82 (fun j hj => by have := HSX j hj; omega) hsh2 q2 hNNb hFFb
          rw [hTT, heC, heP, heQ, hMM, hEE] at this
          exact this)
        have HA0 : (r = 0 ∧ i ≤ 0) → L = 1 ∧ RR = 1 ∧ S2 = (fun _ => 1) := fun hA => ⟨by have h1 := hcnt; rw [hA.1] at h1; have : itm S 0 = 1 := rfl; omega, by rw [← hRR]; unfold cfR; rw [if_pos hA], by rw [← hS2]; unfold cfS; rw [if_pos hA]⟩
        have HA1 : ¬ (r = 0 ∧ i ≤ 0) → RR = r ∧ S2 = S := fun hA => ⟨by rw [← hRR]; unfold cfR; rw [if_neg hA], by rw [← hS2]; unfold cfS; rw [if_neg hA]⟩
        clear hEE hax hsh hS hS2 hk hN hNN hFF hTT heC heP heQ hMM hRR h0 h hQ0 hmm hww hNNk hFFk hNNb hFFb hhW hNN0 hFF0 hbW hNNj hFFj hNk HSX HKX hcnt
        by_cases hA : r = 0 ∧ i ≤ 0
        · obtain ⟨hL1, hR1, hS1⟩ := HA0 hA
          subst hL1
          have hk0 : k' = 0 := by omega
          have d0 : (((r : Nat) : Int) == 0) = true := beq_iff_eq.2 (by omega)
          have di := hA.2
          have RV := Lib.hid (fun wz (q : Arr wz (arrC ch ((r : Int) - 1) (dm S r) na nn nc ta tn tc) S r ch 1 g fP fQ) => ravel8_any (arrC ch ((r : Int) - 1) (dm S r) na nn nc ta tn tc) S r ch 1 g fP fQ wz q (by omega))
          have hI := (ax_one hA.2).1
          have HK0 := Lib.hid (And.intro hR1 hk0)
          clear hA HA0 HA1 hq hk1 hsh2 hR1 hk0
          unfold arrC
          go_enter Tryz.func31, Tryz.ntmps31
          go_wp2_with (refine ld_arr rfl (.tmp 4) rfl w.heap.size rfl HR1.out ?_)
          go_at_call 43
          (with_reducible refine (LI.out _ ?_).mono ?_)
          · exact H0.out.below B0.out.below
          rintro e w3 ⟨aL, mL, cL, rfl, hk6, hb3⟩
          obtain ⟨hm6, hk7, hnw⟩ := hk6 trivial
          clear hk6
          subst mL
          have BB := Lib.hid (B0.out.go hb3)
          have BB : Hid (Bag w (fun y => Row y (w.heap.size + 1 + 1) 32 zerC ∧ Row y (w.heap.size + 1) 32 (arrC ch ((r : Int) - 1) (dm S r) na nn nc ta tn tc) ∧ KRow y .i64 aL L0 cL P0 ∧ True) w3) := Lib.hid ⟨BB.out.below, fun a b hb ⟨h1, h2, h3, _⟩ => ⟨h1.below hb, h2.below hb, h3.below hb, trivial⟩, BB.out.now.1, BB.out.now.2.1, hk7, trivial⟩
          have HNW : Hid (L0 = 0 ∨ ∀ x, aL = some x → x.block ≠ w.heap.size + 1) := Lib.hid (hnw.imp id (fun h x hx => by have := h x hx; simp only [World.size_alloc] at this; omega))
          have hl := hk7.len
          have AN := Lib.hid (fun wz (q : KRow wz .i64 aL L0 cL P0) => anyNf_any aL L0 cL P0 wz q)
          rw [NFL] at AN
          clear hk7 hnw hb3
          go_wp2_with fail
          go_at_call 61
          (with_reducible refine (AN.out _ ?_).mono ?_)
          · exact BB.out.now.2.2.1
          rintro e w4 ⟨rfl, hb4⟩
          have BB := Lib.hid (BB.out.go hb4)
          clear hb4
          have HR4 := Lib.hid BB.out.now.2.1
          go_wp2_with (refine ld_arr rfl (.tmp 5) rfl (w.heap.size + 1) rfl HR4.out ?_)
          go_at_call 44
          (with_reducible refine (RK.out _ ?_).mono ?_)
          · exact H.out.below BB.out.below
          rintro e w4 ⟨rfl, hb4⟩
          have BB := Lib.hid (BB.out.go hb4)
          have HA := Lib.hid (H.out.below BB.out.below)
          clear hb4 HR4
          have HR4 := Lib.hid BB.out.now.2.1
          go_wp2_with (refine ld_arr rfl (.tmp 5) rfl (w.heap.size + 1) rfl HR4.out ?_)
          go_at_call 63
          (with_reducible refine (RV.out _ ?_).mono ?_)
          · exact HA.out
          rintro e w5 ⟨X, rfl, ha5, hb5⟩
          have BB := Lib.hid (BB.out.go hb5)
          have HRA := Lib.hid BB.out.now.2.1
          have hiX := ha5.isA
          have ha5' : Arr w5 X S2 RR ch 1 g fP fQ := by rw [hS1, HK0.out.1]; exact ha5
          have HA : Hid (Arr (w5.setRow (w.heap.size + 1) X) X S2 RR ch 1 g fP fQ) := Lib.hid (ha5'.store HRA.out ⟨_, _, _, _, _, _, _, _, _, rfl⟩ X)
          have HR4 := Lib.hid (HRA.out.put X)
          have BB : Hid (Bag w (fun y => Row y (w.heap.size + 1 + 1) 32 zerC ∧ Row y (w.heap.size + 1) 32 X ∧ KRow y .i64 aL L0 cL P0 ∧ True) (w5.setRow (w.heap.size + 1) X)) := Lib.hid ⟨below_put BB.out.below (show w.heap.size ≤ w.heap.size + 1 by omega) X, fun a b hb ⟨h1, h2, h3, _⟩ => ⟨h1.below hb, h2.below hb, h3.below hb, trivial⟩, BB.out.now.1.puto (show w.heap.size + 1 + 1 ≠ w.heap.size + 1 by omega) X, HRA.out.put X, BB.out.now.2.2.1.away HNW.out (Far.setRow _ _ _), trivial⟩
          have CP := Lib.hid (CPX.out X)
          have AX : Hid (∀ wz, Arr wz X S2 RR ch 1 g fP fQ → Calls Tryz.prog 64 #[.agg X, .int .i64 i] wz fun e w' => e = .returned (.tuple #[.int .i64 (k' : Nat), .bool true]) ∧ Below wz.heap.size wz w') := Lib.hid (fun wz q => by
            have := moAxis_any X S2 RR ch 1 g fP fQ i wz q (by omega)
            rw [HK0.out.1, (ax_one di).1, (ax_one di).2] at this
            rw [HK0.out.2]
            exact this)
          have SH := Lib.hid (fun wz (q : Arr wz X S2 RR ch 1 g fP fQ) => shape_new X S2 RR ch 1 g fP fQ wz q (by omega))
          have WH := Lib.hid (fun wz q => WH.out wz aL cL q)
          obtain ⟨q1, q2, q3, q4, q5, q6, q7, q8, q9, hx6⟩ := hiX
          subst hx6
          clear ha5 ha5' hb5 CPX
          unfold arrC
          unfold arrC at HR4 HRA
          go_wp2_with (first
            | (refine st_arr rfl (.tmp 5) (.tmp 38) rfl (w.heap.size + 1) rfl _ _ _ _ _ _ _ _ _ rfl HRA.out rfl ?_)
            | (refine ld_arr rfl (.tmp 5) rfl (w.heap.size + 1) rfl HR4.out ?_))
          go_at_call 64
          (with_reducible refine (AX.out _ ?_).mono ?_)
          · exact HA.out
          rintro e w5 ⟨rfl, hb5⟩
          have HA := Lib.hid (HA.out.below hb5)
          have BB := Lib.hid (BB.out.go hb5)
          have HR5 := Lib.hid BB.out.now.2.1
          clear hb5
          go_wp2_with (refine ld_arr rfl (.tmp 5) rfl (w.heap.size + 1) rfl HR5.out ?_)
          go_at_call 47
          (with_reducible refine (SH.out _ ?_).mono ?_)
          · exact HA.out
          rintro e w6 ⟨g6, c6, rfl, hge6, hlt6, hk6, hb6⟩
          have HA := Lib.hid (HA.out.below hb6)
          have BB := Lib.hid ((BB.out.go hb6).krow hk6)
          have hl6 := hk6.len
          obtain ⟨bs, os, hes, hbs, hcs⟩ := hk6.get hkr
          cases hes
          rw [HSN.out, Nat.zero_add] at hcs
          have hkn0 : (0 : Int) ≤ (k' : Nat) := by omega
          have hkn1 : ((k' : Nat) : Int) < (RR : Nat) := by omega
          have WHk := Lib.hid (WH.out _ BB.out.now.2.2.2.1)
          clear hb6 hk6 hge6
          go_wp2_with fail
          go_at_fn fv
          (refine (WHk.out).mono ?_)
          rintro e w7 ⟨aA, qA, cA, rfl, hA, hb7⟩
          have HA := Lib.hid (HA.out.below hb7)
          have BB := Lib.hid (BB.out.go hb7)
          clear hb7 hcs hbs WHk
          cases bW with
          | false =>
            have HZ := Lib.hid BB.out.now.2.1
            have HE := Lib.hid (HNO.out 24 _ (HB0.out rfl) (by decide) BB.out.below)
            clear hA
            unfold zerC arrC at HZ
            try unfold zerC arrC
            go_wp2_with (refine st_arr rfl (.tmp 8) (.tmp 62) rfl (w.heap.size + 1 + 1) rfl false 0 (fun _ => 0) none 0 0 none 0 0 rfl HZ.out rfl ?_)
            exact bodyPost_ret (res_arr2 Tryz.results31 rfl rfl (HZ.out.put _) rfl) rfl HE.out
          | true =>
            obtain ⟨hqA, hkA, hnA⟩ := hA rfl
            subst qA
            have HKA := Lib.hid hkA
            have HNA := Lib.hid hnA
            have hlA := hkA.len
            have CP1 := Lib.hid (CP.out rfl)
            clear CP
            have HB71 : Hid (Below w7.heap.size w7 (w7.alloc (.cells (madeCells (Value.cells (.slice none 0 0)) RR) 22))) := Lib.hid ((Below.refl _ _).alloc (Nat.le_refl _) _)
            have HLT := Lib.hid (LTo.made w7 RR 22 NN0 FF0 rfl)
            have HKS := Lib.hid BB.out.now.1
            clear hA hkA hnA HNO HB0
            go_wp2_with fail
            go_loopw [68] (fun i wr => ∃ j : Nat, j ≤ RR ∧ i = .int .i64 j ∧ Hid (Wrote w7.heap.size 0 RR (w7.alloc (.cells (madeCells (Value.cells (.slice none 0 0)) RR) 22)) wr ∧ LTo wr w7.heap.size RR j NN0 FF0)) (fun i _ => RR - (intOf i).toNat)
            case atStart => exact ⟨0, by omega, rfl, Wrote.refl _ _ _ _, HLT.out⟩
            case round =>
              obtain ⟨j, hj, rfl, hrel⟩ := hrel
              obtain ⟨hwr, hto⟩ := hrel.out
              have hbw : Below w7.heap.size w7 wr := hwr.below HB71.out (Nat.le_refl _) HB71.out.size
              have hwl : w7.heap.size < wr.heap.size := hto.1
              by_cases hlt : j < RR
              · obtain ⟨b1, o1, e1, hb1, hc1⟩ := HKS.out.get hlt
                cases e1
                have hc1' := (hbw.cell (p := ⟨g6, 0 + j, none⟩) hb1).trans hc1
                rw [Nat.zero_add, HSJ.out j hlt] at hc1'
                have RNj := Lib.hid (fun wz => crun_any 0 (NN0 j) wz (by have := HN0.out j hlt; omega) (by omega))
                have HFJ := Lib.hid (HF0.out j)
                have HTO := Lib.hid hto
                have HWR := Lib.hid hwr
                have hj0 : (0 : Int) ≤ j := by omega
                have hj1 : (j : Int) < (RR : Nat) := by omega
                clear hrel hwr hto hbw hc1
                go_wp2_with fail
                go_at_call 50
                (with_reducible refine (RNj.out _).mono ?_)
                rintro e w10 ⟨rfl, hk10, hb10⟩
                have hto := HTO.out.below hb10
                obtain ⟨⟨z0, x1, nz⟩, y1⟩ := hto.place hlt
                have HN : Hid (Wrote w7.heap.size 0 RR (w7.alloc (.cells (madeCells (Value.cells (.slice none 0 0)) RR) 22)) (w10.setCell ⟨w7.heap.size, j, none⟩ (.slice (some ⟨wr.heap.size, 0, none⟩) (NN0 j) (NN0 j))) ∧ LTo (w10.setCell ⟨w7.heap.size, j, none⟩ (.slice (some ⟨wr.heap.size, 0, none⟩) (NN0 j) (NN0 j))) w7.heap.size RR (j + 1) NN0 FF0) := Lib.hid ⟨(HWR.out.trans (Wrote.of_below hb10 hwl)).setCell (Nat.zero_le j) hlt _, hto.step hlt (by rw [HFJ.out]; exact hk10)⟩
                clear hto hk10 hb10
                generalize NN0 j = nk at *
                go_wp2
                go_roundw
                case rel => exact ⟨j + 1, by omega, by go_num, HN.out⟩
                case measure => simp [intOf]; omega
              · have hkl : j = RR := by omega
                subst j
                obtain ⟨⟨z0, x1, nz⟩, y1⟩ := hto.place hkr
                have hkA2 := HKA.out.below hbw
                have hto2 := hto.put (N' := NN) (F' := FF) hkr (a := aA) (c := cA) (by rw [HNK.out.1, HNK.out.2]; exact hkA2) HNA.out RR (fun j hj hne => ⟨hj, HNF.out j hne⟩)
                rw [HNK.out.1] at hto2
                have hwr2 : Wrote w7.heap.size 0 RR (w7.alloc (.cells (madeCells (Value.cells (.slice none 0 0)) RR) 22)) (wr.setCell ⟨w7.heap.size, k', none⟩ (.slice aA mW cA)) := hwr.setCell (Nat.zero_le k') hkr _
                have hbw2 : Below w7.heap.size w7 (wr.setCell ⟨w7.heap.size, k', none⟩ (.slice aA mW cA)) := hwr2.below HB71.out (Nat.le_refl _) HB71.out.size
                obtain ⟨A9, C9, hLR⟩ := hto2.done (by unfold maxLen; omega)
                have HLR := Lib.hid hLR
                have BW := Lib.hid (BB.out.go hbw2)
                have HR9 := Lib.hid BW.out.now.2.2.1
                have HA9 := Lib.hid (HA.out.below hbw2)
                clear hrel hwr hto hbw hLR hlt hto2 hwr2 hbw2 hkA2
                go_wp2_with (refine ld_arr rfl (.tmp 5) rfl (w.heap.size + 1) rfl HR9.out ?_)
                go_at_call 49
                (refine (CP1.out _ _ _ _ _ HA9.out HLR.out).mono ?_)
                rintro e w9 hmt
                obtain ⟨x9, rfl, hm9, hb9⟩ := hmt.res
                have B9 := BW.out.go hb9
                have HZ := Lib.hid B9.now.2.1
                have HE : Hid (MoTold EE TT RR ch MM eC eP eQ w (w9.setRow (w.heap.size + 1 + 1) x9) (.returned (.tuple #[.agg x9, .int .i64 EE]))) := Lib.hid ⟨x9, rfl, fun e => (hm9.2.1 e).put HZ.out x9, hm9.2.2, below_put B9.below (show w.heap.size ≤ w.heap.size + 1 + 1 by omega) x9⟩
                obtain ⟨q1, q2, q3, q4, q5, q6, q7, q8, q9, hx9⟩ := hm9.1
                subst hx9
                clear hmt hm9 hb9 B9
                unfold arrC
                unfold arrC at HZ
                go_wp2_with (refine st_arr rfl (.tmp 8) (.tmp 86) rfl (w.heap.size + 1 + 1) rfl _ _ _ _ _ _ _ _ _ rfl HZ.out rfl ?_)
                exact bodyPost_ret (res_arr2 Tryz.results31 rfl rfl (HZ.out.put _) rfl) rfl HE.out
        · obtain ⟨hR1, hS1⟩ := HA1 hA
          have CP := Lib.hid (CPX.out (arrC ch ((r : Int) - 1) (dm S r) na nn nc ta tn tc))
          have AX : Hid (∀ wz, Arr wz (arrC ch ((r : Int) - 1) (dm S r) na nn nc ta tn tc) S2 RR ch L g fP fQ → Calls Tryz.prog 64 #[.agg (arrC ch ((r : Int) - 1) (dm S r) na nn nc ta tn tc), .int .i64 i] wz fun e w' => e = .returned (.tuple #[.int .i64 (k' : Nat), .bool true]) ∧ Below wz.heap.size wz w') := Lib.hid (fun wz q => by
            have := moAxis_any (arrC ch ((r : Int) - 1) (dm S r) na nn nc ta tn tc) S2 RR ch L g fP fQ i wz q (by omega)
            rw [hk1, hq] at this
            exact this)
          have SH := Lib.hid (fun wz (q : Arr wz (arrC ch ((r : Int) - 1) (dm S r) na nn nc ta tn tc) S2 RR ch L g fP fQ) => shape_new (arrC ch ((r : Int) - 1) (dm S r) na nn nc ta tn tc) S2 RR ch L g fP fQ wz q (by omega))
          have d0 : (((r : Nat) : Int) == 0) = false := beq_eq_false_iff_ne.2 (by omega)
          have HRS := Lib.hid (And.intro hR1 hS1)
          clear HA0 HA1 hA hq hk1 hsh2 CPX hR1 hS1
          unfold arrC
          go_enter Tryz.func31, Tryz.ntmps31
          go_wp2_with (refine ld_arr rfl (.tmp 4) rfl w.heap.size rfl HR1.out ?_)
          go_at_call 43
          (with_reducible refine (LI.out _ ?_).mono ?_)
          · exact H0.out.below B0.out.below
          rintro e w3 ⟨aL, mL, cL, rfl, hk6, hb3⟩
          obtain ⟨hm6, hk7, hnw⟩ := hk6 trivial
          clear hk6
          subst mL
          have BB := Lib.hid (B0.out.go hb3)
          have BB : Hid (Bag w (fun y => Row y (w.heap.size + 1 + 1) 32 zerC ∧ Row y (w.heap.size + 1) 32 (arrC ch ((r : Int) - 1) (dm S r) na nn nc ta tn tc) ∧ KRow y .i64 aL L0 cL P0 ∧ True) w3) := Lib.hid ⟨BB.out.below, fun a b hb ⟨h1, h2, h3, _⟩ => ⟨h1.below hb, h2.below hb, h3.below hb, trivial⟩, BB.out.now.1, BB.out.now.2.1, hk7, trivial⟩
          have HNW : Hid (L0 = 0 ∨ ∀ x, aL = some x → x.block ≠ w.heap.size + 1) := Lib.hid (hnw.imp id (fun h x hx => by have := h x hx; simp only [World.size_alloc] at this; omega))
          have hl := hk7.len
          have AN := Lib.hid (fun wz (q : KRow wz .i64 aL L0 cL P0) => anyNf_any aL L0 cL P0 wz q)
          rw [NFL] at AN
          clear hk7 hnw hb3
          go_wp2_with fail
          go_at_call 61
          (with_reducible refine (AN.out _ ?_).mono ?_)
          · exact BB.out.now.2.2.1
          rintro e w4 ⟨rfl, hb4⟩
          have BB := Lib.hid (BB.out.go hb4)
          clear hb4
          have HR4 := Lib.hid BB.out.now.2.1
          go_wp2_with (refine ld_arr rfl (.tmp 5) rfl (w.heap.size + 1) rfl HR4.out ?_)
          go_at_call 44
          (with_reducible refine (RK.out _ ?_).mono ?_)
          · exact H.out.below BB.out.below
          rintro e w4 ⟨rfl, hb4⟩
          have BB := Lib.hid (BB.out.go hb4)
          have HA := Lib.hid (H.out.below BB.out.below)
          clear hb4 HR4
          have HR4 := Lib.hid BB.out.now.2.1
          have HA : Hid (Arr w4 (arrC ch ((r : Int) - 1) (dm S r) na nn nc ta tn tc) S2 RR ch L g fP fQ) := Lib.hid (by rw [HRS.out.1, HRS.out.2]; exact HA.out)
          have WH := Lib.hid (fun wz q => WH.out wz aL cL q)
          go_wp2_with (refine ld_arr rfl (.tmp 5) rfl (w.heap.size + 1) rfl HR4.out ?_)
          go_at_call 64
          (with_reducible refine (AX.out _ ?_).mono ?_)
          · exact HA.out
          rintro e w5 ⟨rfl, hb5⟩
          have HA := Lib.hid (HA.out.below hb5)
          have BB := Lib.hid (BB.out.go hb5)
          have HR5 := Lib.hid BB.out.now.2.1
          clear hb5
          go_wp2_with (refine ld_arr rfl (.tmp 5) rfl (w.heap.size + 1) rfl HR5.out ?_)
          go_at_call 47
          (with_reducible refine (SH.out _ ?_).mono ?_)
          · exact HA.out
          rintro e w6 ⟨g6, c6, rfl, hge6, hlt6, hk6, hb6⟩
          have HA := Lib.hid (HA.out.below hb6)
          have BB := Lib.hid ((BB.out.go hb6).krow hk6)
          have hl6 := hk6.len
          obtain ⟨bs, os, hes, hbs, hcs⟩ := hk6.get hkr
          cases hes
          rw [HSN.out, Nat.zero_add] at hcs
          have hkn0 : (0 : Int) ≤ (k' : Nat) := by omega
          have hkn1 : ((k' : Nat) : Int) < (RR : Nat) := by omega
          have WHk := Lib.hid (WH.out _ BB.out.now.2.2.2.1)
          clear hb6 hk6 hge6
          go_wp2_with fail
          go_at_fn fv
          (refine (WHk.out).mono ?_)
          rintro e w7 ⟨aA, qA, cA, rfl, hA, hb7⟩
          have HA := Lib.hid (HA.out.below hb7)
          have BB := Lib.hid (BB.out.go hb7)
          clear hb7 hcs hbs WHk
          cases bW with
          | false =>
            have HZ := Lib.hid BB.out.now.2.1
            have HE := Lib.hid (HNO.out 24 _ (HB0.out rfl) (by decide) BB.out.below)
            clear hA
            unfold zerC arrC at HZ
            try unfold zerC arrC
            go_wp2_with (refine st_arr rfl (.tmp 8) (.tmp 62) rfl (w.heap.size + 1 + 1) rfl false 0 (fun _ => 0) none 0 0 none 0 0 rfl HZ.out rfl ?_)
            exact bodyPost_ret (res_arr2 Tryz.results31 rfl rfl (HZ.out.put _) rfl) rfl HE.out
          | true =>
            obtain ⟨hqA, hkA, hnA⟩ := hA rfl
            subst qA
            have HKA := Lib.hid hkA
            have HNA := Lib.hid hnA
            have hlA := hkA.len
            have CP1 := Lib.hid (CP.out rfl)
            clear CP
            have HB71 : Hid (Below w7.heap.size w7 (w7.alloc (.cells (madeCells (Value.cells (.slice none 0 0)) RR) 22))) := Lib.hid ((Below.refl _ _).alloc (Nat.le_refl _) _)
            have HLT := Lib.hid (LTo.made w7 RR 22 NN0 FF0 rfl)
            have HKS := Lib.hid BB.out.now.1
            clear hA hkA hnA HNO HB0
            go_wp2_with fail
            go_loopw [68] (fun i wr => ∃ j : Nat, j ≤ RR ∧ i = .int .i64 j ∧ Hid (Wrote w7.heap.size 0 RR (w7.alloc (.cells (madeCells (Value.cells (.slice none 0 0)) RR) 22)) wr ∧ LTo wr w7.heap.size RR j NN0 FF0)) (fun i _ => RR - (intOf i).toNat)
            case atStart => exact ⟨0, by omega, rfl, Wrote.refl _ _ _ _, HLT.out⟩
            case round =>
              obtain ⟨j, hj, rfl, hrel⟩ := hrel
              obtain ⟨hwr, hto⟩ := hrel.out
              have hbw : Below w7.heap.size w7 wr := hwr.below HB71.out (Nat.le_refl _) HB71.out.size
              have hwl : w7.heap.size < wr.heap.size := hto.1
              by_cases hlt : j < RR
              · obtain ⟨b1, o1, e1, hb1, hc1⟩ := HKS.out.get hlt
                cases e1
                have hc1' := (hbw.cell (p := ⟨g6, 0 + j, none⟩) hb1).trans hc1
                rw [Nat.zero_add, HSJ.out j hlt] at hc1'
                have RNj := Lib.hid (fun wz => crun_any 0 (NN0 j) wz (by have := HN0.out j hlt; omega) (by omega))
                have HFJ := Lib.hid (HF0.out j)
                have HTO := Lib.hid hto
                have HWR := Lib.hid hwr
                have hj0 : (0 : Int) ≤ j := by omega
                have hj1 : (j : Int) < (RR : Nat) := by omega
                clear hrel hwr hto hbw hc1
                go_wp2_with fail
                go_at_call 50
                (with_reducible refine (RNj.out _).mono ?_)
                rintro e w10 ⟨rfl, hk10, hb10⟩
                have hto := HTO.out.below hb10
                obtain ⟨⟨z0, x1, nz⟩, y1⟩ := hto.place hlt
                have HN : Hid (Wrote w7.heap.size 0 RR (w7.alloc (.cells (madeCells (Value.cells (.slice none 0 0)) RR) 22)) (w10.setCell ⟨w7.heap.size, j, none⟩ (.slice (some ⟨wr.heap.size, 0, none⟩) (NN0 j) (NN0 j))) ∧ LTo (w10.setCell ⟨w7.heap.size, j, none⟩ (.slice (some ⟨wr.heap.size, 0, none⟩) (NN0 j) (NN0 j))) w7.heap.size RR (j + 1) NN0 FF0) := Lib.hid ⟨(HWR.out.trans (Wrote.of_below hb10 hwl)).setCell (Nat.zero_le j) hlt _, hto.step hlt (by rw [HFJ.out]; exact hk10)⟩
                clear hto hk10 hb10
                generalize NN0 j = nk at *
                go_wp2
                go_roundw
                case rel => exact ⟨j + 1, by omega, by go_num, HN.out⟩
                case measure => simp [intOf]; omega
              · have hkl : j = RR := by omega
                subst j
                obtain ⟨⟨z0, x1, nz⟩, y1⟩ := hto.place hkr
                have hkA2 := HKA.out.below hbw
                have hto2 := hto.put (N' := NN) (F' := FF) hkr (a := aA) (c := cA) (by rw [HNK.out.1, HNK.out.2]; exact hkA2) HNA.out RR (fun j hj hne => ⟨hj, HNF.out j hne⟩)
                rw [HNK.out.1] at hto2
                have hwr2 : Wrote w7.heap.size 0 RR (w7.alloc (.cells (madeCells (Value.cells (.slice none 0 0)) RR) 22)) (wr.setCell ⟨w7.heap.size, k', none⟩ (.slice aA mW cA)) := hwr.setCell (Nat.zero_le k') hkr _
                have hbw2 : Below w7.heap.size w7 (wr.setCell ⟨w7.heap.size, k', none⟩ (.slice aA mW cA)) := hwr2.below HB71.out (Nat.le_refl _) HB71.out.size
                obtain ⟨A9, C9, hLR⟩ := hto2.done (by unfold maxLen; omega)
                have HLR := Lib.hid hLR
                have BW := Lib.hid (BB.out.go hbw2)
                have HR9 := Lib.hid BW.out.now.2.2.1
                have HA9 := Lib.hid (HA.out.below hbw2)
                clear hrel hwr hto hbw hLR hlt hto2 hwr2 hbw2 hkA2
                go_wp2_with (refine ld_arr rfl (.tmp 5) rfl (w.heap.size + 1) rfl HR9.out ?_)
                go_at_call 49
                (refine (CP1.out _ _ _ _ _ HA9.out HLR.out).mono ?_)
                rintro e w9 hmt
                obtain ⟨x9, rfl, hm9, hb9⟩ := hmt.res
                have B9 := BW.out.go hb9
                have HZ := Lib.hid B9.now.2.1
                have HE : Hid (MoTold EE TT RR ch MM eC eP eQ w (w9.setRow (w.heap.size + 1 + 1) x9) (.returned (.tuple #[.agg x9, .int .i64 EE]))) := Lib.hid ⟨x9, rfl, fun e => (hm9.2.1 e).put HZ.out x9, hm9.2.2, below_put B9.below (show w.heap.size ≤ w.heap.size + 1 + 1 by omega) x9⟩
                obtain ⟨q1, q2, q3, q4, q5, q6, q7, q8, q9, hx9⟩ := hm9.1
                subst hx9
                clear hmt hm9 hb9 B9
                unfold arrC
                unfold arrC at HZ
                go_wp2_with (refine st_arr rfl (.tmp 8) (.tmp 86) rfl (w.heap.size + 1 + 1) rfl _ _ _ _ _ _ _ _ _ rfl HZ.out rfl ?_)
                exact bodyPost_ret (res_arr2 Tryz.results31 rfl rfl (HZ.out.put _) rfl) rfl HE.out
  · rw [if_neg hE] at hEE
    generalize liE r0 (whC ch0 L0 P0 Q0) = E0 at *
    have dE : (E0 != 0) = true := bne_iff_ne.2 hE
    have HQ := Lib.hid (And.intro hEE.symm hE)
    clear hEE hE hax hsh hS hsh2 h82 HSX hNk hNNj hFFj hS2 hk hN hNN hFF hTT heC heP heQ hMM hRR h0 h hQ0 hhi hmk
    unfold arrC
    go_enter Tryz.func31, Tryz.ntmps31
    go_wp2_with (refine ld_arr rfl (.tmp 4) rfl w.heap.size rfl HR1.out ?_)
    go_at_call 43
    (with_reducible refine (LI.out _ ?_).mono ?_)
    · exact H0.out.below B0.out.below
    rintro e w3 ⟨aL, mL, cL, rfl, hk6, hb3⟩
    have BB := Lib.hid (B0.out.go hb3)
    have HZ := Lib.hid BB.out.now.1
    have HE := Lib.hid (HNO.out E0 _ HQ.out.1 HQ.out.2 BB.out.below)
    clear hb3 hk6
    go_wp2_with (refine st_arr rfl (.tmp 8) (.tmp 25) rfl (w.heap.size + 1 + 1) rfl false 0 (fun _ => 0) none 0 0 none 0 0 rfl HZ.out rfl ?_)
    exact bodyPost_ret (res_arr2 Tryz.results31 rfl rfl (HZ.out.put _) rfl) rfl HE.out
set_option linter.unusedSimpArgs false in
set_option maxHeartbeats 3200000 in
set_option maxRecDepth 100000 in
theorem take_any (cs0 : Array Value) (S0 : Nat → Int) (r0 : Nat) (ch0 : Bool) (L0 : Nat) (g0 P0 : Nat → Int) (Q0 : Nat → Nat) (cs : Array Value) (S : Nat → Int) (r : Nat) (ch : Bool) (L : Nat) (g fP : Nat → Int) (fQ : Nat → Nat) (w : World)
    (h0 : Arr w cs0 S0 r0 ch0 L0 g0 P0 Q0) (h : Arr w cs S r ch L g fP fQ) (hr0 : r0 ≤ 8) (hQ0 : ch0 = false → ∀ j, j < L0 → 0 < Q0 j) (hL0 : L0 ≤ 4096) (hS : In64 S r) (hsh : shB S r = true) (hcnt : itm S r = (L : Nat)) :
    Calls Tryz.prog 8 #[.agg cs0, .agg cs] w fun e w' => MoTold (paE false 4097 r0 ch0 L0 P0 Q0 S r) (lnF (paN false 4097 P0 (paS r S))) L0 ch (itm (lnF (paN false 4097 P0 (paS r S))) L0).toNat (fun j => elC L g 32 (pkG (paS r S) (lnF (paN false 4097 P0 (paS r S))) L0 (paF false 4097 P0 (paS r S)) j)) (fun j => elP L fP (pkG (paS r S) (lnF (paN false 4097 P0 (paS r S))) L0 (paF false 4097 P0 (paS r S)) j)) (fun j => elQ L fQ (pkG (paS r S) (lnF (paN false 4097 P0 (paS r S))) L0 (paF false 4097 P0 (paS r S)) j)) w w' e := by
  obtain ⟨nb, nnb, ncb, tb, tnb, tcb, hcs0, _⟩ := h0.form
  subst hcs0
  obtain ⟨na, nn, nc, ta, tn, tc, hcs, _⟩ := h.form
  subst hcs
  have H0 := Lib.hid h0
  have H := Lib.hid h
  have PT := Lib.hid (fun wz (q0 : Arr wz (arrC ch0 ((r0 : Int) - 1) (dm S0 r0) nb nnb ncb tb tnb tcb) S0 r0 ch0 L0 g0 P0 Q0) (q : Arr wz (arrC ch ((r : Int) - 1) (dm S r) na nn nc ta tn tc) S r ch L g fP fQ) => part_any 23 false ent_taken taken_any (arrC ch0 ((r0 : Int) - 1) (dm S0 r0) nb nnb ncb tb tnb tcb) S0 r0 ch0 L0 g0 P0 Q0 (arrC ch ((r : Int) - 1) (dm S r) na nn nc ta tn tc) S r ch L g fP fQ wz q0 q hr0 hQ0 hL0 hS hsh hcnt)
  have B0 := Lib.hid ((((Bag.start w).newRow (arrC ch0 ((r0 : Int) - 1) (dm S0 r0) nb nnb ncb tb tnb tcb) 32).newRow (arrC ch ((r : Int) - 1) (dm S r) na nn nc ta tn tc) 32).newRow zerC 32)
  simp only [World.size_alloc] at B0
  have HR1 := Lib.hid B0.out.now.2.2.1
  have HR2 := Lib.hid B0.out.now.2.1
  generalize (paE false 4097 r0 ch0 L0 P0 Q0 S r) = EE at *
  generalize (fun j => elC L g 32 (pkG (paS r S) (lnF (paN false 4097 P0 (paS r S))) L0 (paF false 4097 P0 (paS r S)) j)) = eC at *
  generalize (fun j => elP L fP (pkG (paS r S) (lnF (paN false 4097 P0 (paS r S))) L0 (paF false 4097 P0 (paS r S)) j)) = eP at *
  generalize (fun j => elQ L fQ (pkG (paS r S) (lnF (paN false 4097 P0 (paS r S))) L0 (paF false 4097 P0 (paS r S)) j)) = eQ at *
  generalize (itm (lnF (paN false 4097 P0 (paS r S))) L0).toNat = MM at *
  generalize lnF (paN false 4097 P0 (paS r S)) = TT at *
  clear h0 h hQ0 hS hsh
  unfold arrC
  go_enter Tryz.func8, Tryz.ntmps8
  go_wp2_with (first
    | (refine ld_arr rfl (.tmp 2) rfl w.heap.size rfl HR1.out ?_)
    | (refine ld_arr rfl (.tmp 3) rfl (w.heap.size + 1) rfl HR2.out ?_))
  go_at_call 22
  (refine (PT.out _ (H0.out.below B0.out.below) (H.out.below B0.out.below)).mono ?_)
  rintro e w9 hmt
  obtain ⟨x9, rfl, hm9, hb9⟩ := hmt.res
  have B9 := B0.out.go hb9
  have HZ := Lib.hid B9.now.1
  have HE : Hid (MoTold EE TT L0 ch MM eC eP eQ w (w9.setRow (w.heap.size + 1 + 1) x9) (.returned (.tuple #[.agg x9, .int .i64 EE]))) := Lib.hid ⟨x9, rfl, fun e => (hm9.2.1 e).put HZ.out x9, hm9.2.2, below_put B9.below (show w.heap.size ≤ w.heap.size + 1 + 1 by omega) x9⟩
  obtain ⟨q1, q2, q3, q4, q5, q6, q7, q8, q9, hx9⟩ := hm9.1
  subst hx9
  clear hmt hm9 hb9 B9
  unfold arrC
  unfold arrC at HZ
  go_wp2_with (refine st_arr rfl (.tmp 4) (.tmp 9) rfl (w.heap.size + 1 + 1) rfl _ _ _ _ _ _ _ _ _ rfl HZ.out rfl ?_)
  exact bodyPost_ret (res_arr2 Tryz.results8 rfl rfl (HZ.out.put _) rfl) rfl HE.out
set_option linter.unusedSimpArgs false in
set_option maxHeartbeats 3200000 in
set_option maxRecDepth 100000 in
theorem compress_any (cs0 : Array Value) (S0 : Nat → Int) (r0 : Nat) (ch0 : Bool) (L0 : Nat) (g0 P0 : Nat → Int) (Q0 : Nat → Nat) (cs : Array Value) (S : Nat → Int) (r : Nat) (ch : Bool) (L : Nat) (g fP : Nat → Int) (fQ : Nat → Nat) (i : Int) (w : World)
    (h0 : Arr w cs0 S0 r0 ch0 L0 g0 P0 Q0) (h : Arr w cs S r ch L g fP fQ) (hr0 : r0 ≤ 8) (hQ0 : ch0 = false → ∀ j, j < L0 → 0 < Q0 j) (hL0 : L0 ≤ 4096) (hS : In64 S r) (hsh : shB S r = true) (hcnt : itm S r = (L : Nat)) :
    Calls Tryz.prog 13 #[.agg cs0, .agg cs, .int .i64 i] w fun e w' => MoTold (cfE false r0 ch0 L0 P0 Q0 S r i) (lnF (cfN false P0 L0 r i S)) (cfR r i) ch (itm (lnF (cfN false P0 L0 r i S)) (cfR r i)).toNat (fun j => elC L g 32 (pkG (cfS r i S) (lnF (cfN false P0 L0 r i S)) (cfR r i) (cfF false P0 L0 r i S) j)) (fun j => elP L fP (pkG (cfS r i S) (lnF (cfN false P0 L0 r i S)) (cfR r i) (cfF false P0 L0 r i S) j)) (fun j => elQ L fQ (pkG (cfS r i S) (lnF (cfN false P0 L0 r i S)) (cfR r i) (cfF false P0 L0 r i S) j)) w w' e := by
  obtain ⟨nb, nnb, ncb, tb, tnb, tcb, hcs0, _⟩ := h0.form
  subst hcs0
  obtain ⟨na, nn, nc, ta, tn, tc, hcs, _⟩ := h.form
  subst hcs
  have H0 := Lib.hid h0
  have H := Lib.hid h
  have PT := Lib.hid (fun wz (q0 : Arr wz (arrC ch0 ((r0 : Int) - 1) (dm S0 r0) nb nnb ncb tb tnb tcb) S0 r0 ch0 L0 g0 P0 Q0) (q : Arr wz (arrC ch ((r : Int) - 1) (dm S r) na nn nc ta tn tc) S r ch L g fP fQ) => flagged_any 32 false ent_kept kept_any (arrC ch0 ((r0 : Int) - 1) (dm S0 r0) nb nnb ncb tb tnb tcb) S0 r0 ch0 L0 g0 P0 Q0 (arrC ch ((r : Int) - 1) (dm S r) na nn nc ta tn tc) S r ch L g fP fQ i wz q0 q hr0 hQ0 hL0 hS hsh hcnt)
  have B0 := Lib.hid ((((Bag.start w).newRow (arrC ch0 ((r0 : Int) - 1) (dm S0 r0) nb nnb ncb tb tnb tcb) 32).newRow (arrC ch ((r : Int) - 1) (dm S r) na nn nc ta tn tc) 32).newRow zerC 32)
  simp only [World.size_alloc] at B0
  have HR1 := Lib.hid B0.out.now.2.2.1
  have HR2 := Lib.hid B0.out.now.2.1
  generalize (cfE false r0 ch0 L0 P0 Q0 S r i) = EE at *
  generalize (fun j => elC L g 32 (pkG (cfS r i S) (lnF (cfN false P0 L0 r i S)) (cfR r i) (cfF false P0 L0 r i S) j)) = eC at *
  generalize (fun j => elP L fP (pkG (cfS r i S) (lnF (cfN false P0 L0 r i S)) (cfR r i) (cfF false P0 L0 r i S) j)) = eP at *
  generalize (fun j => elQ L fQ (pkG (cfS r i S) (lnF (cfN false P0 L0 r i S)) (cfR r i) (cfF false P0 L0 r i S) j)) = eQ at *
  generalize (itm (lnF (cfN false P0 L0 r i S)) (cfR r i)).toNat = MM at *
  generalize lnF (cfN false P0 L0 r i S) = TT at *
  generalize (cfR r i) = RR at *
  clear h0 h hQ0 hS hsh
  unfold arrC
  go_enter Tryz.func13, Tryz.ntmps13
  go_wp2_with (first
    | (refine ld_arr rfl (.tmp 3) rfl w.heap.size rfl HR1.out ?_)
    | (refine ld_arr rfl (.tmp 4) rfl (w.heap.size + 1) rfl HR2.out ?_))
  go_at_call 31
  (refine (PT.out _ (H0.out.below B0.out.below) (H.out.below B0.out.below)).mono ?_)
  rintro e w9 hmt
  obtain ⟨x9, rfl, hm9, hb9⟩ := hmt.res
  have B9 := B0.out.go hb9
  have HZ := Lib.hid B9.now.1
  have HE : Hid (MoTold EE TT RR ch MM eC eP eQ w (w9.setRow (w.heap.size + 1 + 1) x9) (.returned (.tuple #[.agg x9, .int .i64 EE]))) := Lib.hid ⟨x9, rfl, fun e => (hm9.2.1 e).put HZ.out x9, hm9.2.2, below_put B9.below (show w.heap.size ≤ w.heap.size + 1 + 1 by omega) x9⟩
  obtain ⟨q1, q2, q3, q4, q5, q6, q7, q8, q9, hx9⟩ := hm9.1
  subst hx9
  clear hmt hm9 hb9 B9
  unfold arrC
  unfold arrC at HZ
  go_wp2_with (refine st_arr rfl (.tmp 6) (.tmp 12) rfl (w.heap.size + 1 + 1) rfl _ _ _ _ _ _ _ _ _ rfl HZ.out rfl ?_)
  exact bodyPost_ret (res_arr2 Tryz.results13 rfl rfl (HZ.out.put _) rfl) rfl HE.out
set_option linter.unusedSimpArgs false in
set_option maxHeartbeats 3200000 in
set_option maxRecDepth 100000 in
theorem expand_any (cs0 : Array Value) (S0 : Nat → Int) (r0 : Nat) (ch0 : Bool) (L0 : Nat) (g0 P0 : Nat → Int) (Q0 : Nat → Nat) (cs : Array Value) (S : Nat → Int) (r : Nat) (ch : Bool) (L : Nat) (g fP : Nat → Int) (fQ : Nat → Nat) (i : Int) (w : World)
    (h0 : Arr w cs0 S0 r0 ch0 L0 g0 P0 Q0) (h : Arr w cs S r ch L g fP fQ) (hr0 : r0 ≤ 8) (hQ0 : ch0 = false → ∀ j, j < L0 → 0 < Q0 j) (hL0 : L0 ≤ 4096) (hS : In64 S r) (hsh : shB S r = true) (hcnt : itm S r = (L : Nat)) :
    Calls Tryz.prog 15 #[.agg cs0, .agg cs, .int .i64 i] w fun e w' => MoTold (cfE true r0 ch0 L0 P0 Q0 S r i) (lnF (cfN true P0 L0 r i S)) (cfR r i) ch (itm (lnF (cfN true P0 L0 r i S)) (cfR r i)).toNat (fun j => elC L g 32 (pkG (cfS r i S) (lnF (cfN true P0 L0 r i S)) (cfR r i) (cfF true P0 L0 r i S) j)) (fun j => elP L fP (pkG (cfS r i S) (lnF (cfN true P0 L0 r i S)) (cfR r i) (cfF true P0 L0 r i S) j)) (fun j => elQ L fQ (pkG (cfS r i S) (lnF (cfN true P0 L0 r i S)) (cfR r i) (cfF true P0 L0 r i S) j)) w w' e := by
  obtain ⟨nb, nnb, ncb, tb, tnb, tcb, hcs0, _⟩ := h0.form
  subst hcs0
  obtain ⟨na, nn, nc, ta, tn, tc, hcs, _⟩ := h.form
  subst hcs
  have H0 := Lib.hid h0
  have H := Lib.hid h
  have PT := Lib.hid (fun wz (q0 : Arr wz (arrC ch0 ((r0 : Int) - 1) (dm S0 r0) nb nnb ncb tb tnb tcb) S0 r0 ch0 L0 g0 P0 Q0) (q : Arr wz (arrC ch ((r : Int) - 1) (dm S r) na nn nc ta tn tc) S r ch L g fP fQ) => flagged_any 36 true ent_spread spread_any (arrC ch0 ((r0 : Int) - 1) (dm S0 r0) nb nnb ncb tb tnb tcb) S0 r0 ch0 L0 g0 P0 Q0 (arrC ch ((r : Int) - 1) (dm S r) na nn nc ta tn tc) S r ch L g fP fQ i wz q0 q hr0 hQ0 hL0 hS hsh hcnt)
  have B0 := Lib.hid ((((Bag.start w).newRow (arrC ch0 ((r0 : Int) - 1) (dm S0 r0) nb nnb ncb tb tnb tcb) 32).newRow (arrC ch ((r : Int) - 1) (dm S r) na nn nc ta tn tc) 32).newRow zerC 32)
  simp only [World.size_alloc] at B0
  have HR1 := Lib.hid B0.out.now.2.2.1
  have HR2 := Lib.hid B0.out.now.2.1
  generalize (cfE true r0 ch0 L0 P0 Q0 S r i) = EE at *
  generalize (fun j => elC L g 32 (pkG (cfS r i S) (lnF (cfN true P0 L0 r i S)) (cfR r i) (cfF true P0 L0 r i S) j)) = eC at *
  generalize (fun j => elP L fP (pkG (cfS r i S) (lnF (cfN true P0 L0 r i S)) (cfR r i) (cfF true P0 L0 r i S) j)) = eP at *
  generalize (fun j => elQ L fQ (pkG (cfS r i S) (lnF (cfN true P0 L0 r i S)) (cfR r i) (cfF true P0 L0 r i S) j)) = eQ at *
  generalize (itm (lnF (cfN true P0 L0 r i S)) (cfR r i)).toNat = MM at *
  generalize lnF (cfN true P0 L0 r i S) = TT at *
  generalize (cfR r i) = RR at *
  clear h0 h hQ0 hS hsh
  unfold arrC
  go_enter Tryz.func15, Tryz.ntmps15
  go_wp2_with (first
    | (refine ld_arr rfl (.tmp 3) rfl w.heap.size rfl HR1.out ?_)
    | (refine ld_arr rfl (.tmp 4) rfl (w.heap.size + 1) rfl HR2.out ?_))
  go_at_call 31
  (refine (PT.out _ (H0.out.below B0.out.below) (H.out.below B0.out.below)).mono ?_)
  rintro e w9 hmt
  obtain ⟨x9, rfl, hm9, hb9⟩ := hmt.res
  have B9 := B0.out.go hb9
  have HZ := Lib.hid B9.now.1
  have HE : Hid (MoTold EE TT RR ch MM eC eP eQ w (w9.setRow (w.heap.size + 1 + 1) x9) (.returned (.tuple #[.agg x9, .int .i64 EE]))) := Lib.hid ⟨x9, rfl, fun e => (hm9.2.1 e).put HZ.out x9, hm9.2.2, below_put B9.below (show w.heap.size ≤ w.heap.size + 1 + 1 by omega) x9⟩
  obtain ⟨q1, q2, q3, q4, q5, q6, q7, q8, q9, hx9⟩ := hm9.1
  subst hx9
  clear hmt hm9 hb9 B9
  unfold arrC
  unfold arrC at HZ
  go_wp2_with (refine st_arr rfl (.tmp 6) (.tmp 12) rfl (w.heap.size + 1 + 1) rfl _ _ _ _ _ _ _ _ _ rfl HZ.out rfl ?_)
  exact bodyPost_ret (res_arr2 Tryz.results15 rfl rfl (HZ.out.put _) rfl) rfl HE.out
end Go.Proofs.YtpmcbnliogjknaaGreatDoor
